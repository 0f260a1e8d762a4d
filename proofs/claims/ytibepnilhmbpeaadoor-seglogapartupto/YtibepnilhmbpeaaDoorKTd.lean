import Derived.Test.YtibepnilhmbpeaaDoorKTa
namespace Go.Proofs.YtibepnilhmbpeaaDoor
set_option linter.unusedVariables false
set_option linter.unusedSimpArgs false
open Go.RowKit
theorem SBI_blk {sa : Option Addr} {sc i : Nat} {w : World} {L : List Nb} (h : MidG KI w (.slice sa L.length sc) L) {a : Addr} (e : SB sa sc i = some a) : ∃ a0, sa = some a0 ∧ a.block = a0.block := by
  unfold SB at e
  split at e
  · exact ⟨a, e, rfl⟩
  · rename_i hne
    rcases h.ex with ⟨a0, e9, hL⟩ | ⟨g, o, c, cur, e9, -⟩
    · injection e9 with e1 e2 e3
      clear e1
      cases sa with
      | none => cases e
      | some a0 =>
        cases e
        refine ⟨a0, rfl, ?_⟩
        cases a0 with
        | mk b o s =>
          cases s with
          | none => show (Addr.add ⟨b, o, none⟩ (i * 2)).block = b; rw [Addr.add_mid]
          | some s => show (Addr.add _ _).block = b; unfold Addr.add; first | rfl | (split <;> rfl) | simp
    · injection e9 with e1 e2 e3
      subst e1
      cases e
      refine ⟨_, rfl, ?_⟩
      show (Addr.add ⟨g, o, none⟩ (i * 2)).block = g
      rw [Addr.add_mid]
theorem Its.drop {w : World} {N : List Nb} {T : List Itm} (h : Its w N T) (i : Nat) : Its w (N.drop i) (T.drop i) :=
  ⟨by rw [List.length_drop, List.length_drop, h.len], fun j y t h1 h2 => by rw [List.getElem?_drop] at h1 h2; exact h.at_ (i + j) y t h1 h2⟩
/-- a keeper's box, and what becomes of it when its first item goes -/
theorem KpA.boxD {w : World} {kb g p n : Nat} {x : Lg} {d : Dst} {X Y : Nat → Prop} {T : List Itm} {k : Kp} (h : KpA w kb g p x d n X Y T k) : ∃ (ia : Option Addr) (ic M : Nat), w.heap[kb]? = some (.cells (k.c p g (.slice ia M ic)) tKp (0, 0)) ∧ M = T.length ∧ M ≤ ic ∧ (∀ t, T[0]? = some t → ∃ b o, ia = some ⟨b, o, none⟩ ∧ b ≠ kb ∧ b < w.heap.size ∧ w.cell? ⟨b, o, none⟩ = some (.int .u64 (t.n : Int))) ∧
    (∀ (w' : World) (k' : Kp), Chg (fun b => b = kb) w w' → w'.heap[kb]? = some (.cells (Kp.c k' p g (.slice ia M ic)) tKp (0, 0)) → KpA w' kb g p x d n X Y T k') ∧
    (∀ (w' : World) (k' : Kp), 1 ≤ M → Chg (fun b => b = kb) w w' → w'.heap[kb]? = some (.cells (Kp.c k' p g (.slice (SB ia ic 1) (M - 1) (ic - 1))) tKp (0, 0)) → KpA w' kb g p x d n X Y (T.drop 1) k') := by
  have hk := h
  obtain ⟨h0, ⟨ia, ic, N, h1, h2, h3, h4, h5, h6⟩, h7⟩ := h
  obtain ⟨a8, c8, e8, hc8, -, hrd⟩ := h2.val
  injection e8 with e81 e82 e83
  subst e81
  have nx : ∀ b, X b → ¬ b = kb := fun b hX e => (h7 _ h4).2 (e ▸ hX)
  have own : ∀ (i : Nat) (y : Nb) (b : Nat), N[i]? = some y → y.v.ownBlock = some b → ¬ b = kb := fun i y b hy hb e => by
    obtain ⟨B, ho⟩ := (h3.at_ i y _ hy (List.getElem?_eq_getElem (by rw [← h3.len]; exact (List.getElem?_eq_some_iff.1 hy).1))).2
    rcases ho.2 with ⟨e9, -⟩ | ⟨g9, cap, cur, e9, -, hg9, -⟩
    · rw [e9] at hb; cases hb
    · rw [e9] at hb; cases hb
      have e : g9 = kb := e
      rw [e, h1] at hg9
      cases hg9
  have nia : ∀ a, ia = some a → ¬ a.block = kb := fun a e1 e => by
    obtain ⟨cur, h9⟩ := h2.blk a.block (by rw [e1]; rfl)
    rw [e, h1] at h9
    cases h9
  have gen : ∀ (w' : World), Chg (fun b => b = kb) w w' → (∀ (i : Nat) (y : Nb) (b : Nat), N[i]? = some y → y.v.ownBlock = some b → w'.heap[b]? = w.heap[b]?) ∧ (∀ a, ia = some a → w'.heap[a.block]? = w.heap[a.block]?) := fun w' hc => ⟨fun i y b hy hb => hc.block _ (h7 _ (h6 i y b hy hb)).1 (own i y b hy hb), fun a e => hc.block _ (h7 _ (h5 a e)).1 (nia a e)⟩
  refine ⟨ia, ic, N.length, h1, h3.len, by rw [e83]; exact hc8, fun t ht => ?_, fun w' k' hc hb => ?_, fun w' k' hM hc hb => ?_⟩
  · have hT : 0 < T.length := (List.getElem?_eq_some_iff.1 ht).1
    have hN : 0 < N.length := by rw [h3.len]; exact hT
    obtain ⟨b, o, e1, hrg, -⟩ := hrd 0 hN
    subst e1
    obtain ⟨hyn, -⟩ := h3.at_ 0 N[0] t (List.getElem?_eq_getElem hN) ht
    have h9 := hrg 0 (.int .u64 (N[0].n : Int)) rfl
    rw [hyn] at h9
    exact ⟨b, o, rfl, nia _ rfl, (h7 _ (h5 _ rfl)).1, by simpa using h9⟩
  · obtain ⟨g1, g2⟩ := gen w' hc
    refine ⟨h0.kept hc nx, ⟨ia, ic, N, hb, h2.kept (fun b hb => ?_), h3.kept g1, h4, h5, h6⟩, fun b hb => ⟨Nat.lt_of_lt_of_le (h7 b hb).1 hc.size, (h7 b hb).2⟩⟩
    obtain ⟨a, e1, rfl⟩ := SA_blk hb
    exact g2 a e1
  · obtain ⟨g1, g2⟩ := gen w' hc
    have hd : MidG KI w _ (N.drop 1) := h2.dropI hM
    rw [show N.length - 1 = (N.drop 1).length from by rw [List.length_drop]] at hb
    refine ⟨h0.kept hc nx, ⟨SB ia ic 1, ic - 1, N.drop 1, hb, hd.kept (fun b hb => ?_), (h3.drop 1).kept (fun i y b hy hb => ?_), h4, fun a e => ?_, fun i y b hy hb => ?_⟩, fun b hb => ⟨Nat.lt_of_lt_of_le (h7 b hb).1 hc.size, (h7 b hb).2⟩⟩
    · obtain ⟨a, e1, rfl⟩ := SA_blk hb
      obtain ⟨a0, e2, e3⟩ := SBI_blk h2 e1
      rw [e3]; exact g2 a0 e2
    · rw [List.getElem?_drop] at hy; exact g1 _ y b hy hb
    · obtain ⟨a0, e2, e3⟩ := SBI_blk h2 e
      rw [e3]; exact h5 a0 e2
    · rw [List.getElem?_drop] at hy; exact h6 _ y b hy hb
end Go.Proofs.YtibepnilhmbpeaaDoor
namespace Go.Proofs.YtibepnilhmbpeaaDoor
set_option linter.unusedVariables false
set_option linter.unusedSimpArgs false
open Go.RowKit
def lenK (w : World) (kb : Nat) : Nat := match w.cell? ⟨kb, 3, none⟩ with
  | some (.slice _ n _) => n
  | _ => 0
set_option maxRecDepth 20000 in
set_option maxHeartbeats 6400000 in
theorem kdrop_t {w : World} {kb g p n : Nat} {x : Lg} {d : Dst} {X Y : Nat → Prop} {T : List Itm} {k : Kp} (h : KpA w kb g p x d n X Y T k) (j m : Nat) (hj : j ≤ T.length) (hlt : ∀ (i : Nat) (t : Itm), i < j → T[i]? = some t → t.n < m) (hge : ∀ t, T[j]? = some t → m ≤ t.n) (hla : k.last < 4611686018427387904) (hT : T.length < 4611686018427387904) :
    Calls Tryd.prog 33 #[.pointer (some ⟨kb, 0, none⟩), .int .u64 (m : Int)] w fun e w' => e = .returned (.tuple #[]) ∧ KpA w' kb g p x d n X Y (T.drop j) { k with last := k.last - j, fst := max k.fst m } ∧ Chg (fun b => b = kb) w w' := by
  have HA : Hid (KpA w kb g p x d n X Y T k) := h
  have HLT : Hid (∀ (i : Nat) (t : Itm), i < j → T[i]? = some t → t.n < m) := hlt
  have HGE : Hid (∀ t, T[j]? = some t → m ≤ t.n) := hge
  have HJ : Hid (j ≤ T.length ∧ k.last < 4611686018427387904 ∧ T.length < 4611686018427387904) := ⟨hj, hla, hT⟩
  clear h hlt hge hj hla hT
  go_enter Tryd.func33, Tryd.ntmps33
  go_wp2_with fail
  go_loopw [] (fun wr => ∃ i : Nat, Hid (i ≤ j) ∧ Hid (KpA wr kb g p x d n X Y (T.drop i) { k with last := k.last - i } ∧ Chg (fun b => b = kb) w wr)) (fun wr => lenK wr kb)
  case atStart => exact ⟨0, Nat.zero_le _, by rw [List.drop_zero]; exact HA.out, Chg.of_below (Below.refl _ _)⟩
  case round =>
    obtain ⟨i, HI, HV⟩ := hrel
    obtain ⟨ia, ic, M, hbx, hM, hMc, hit, hcl, hdr⟩ := HV.out.1.boxD
    have HM : Hid (M = T.length - i) := (show _ = _ by rw [hM, List.length_drop])
    have HCL : Hid _ := hcl
    have HDR : Hid _ := hdr
    have HBX : Hid (wr.heap[kb]? = _) := hbx
    have HLK : Hid (lenK wr kb = M) := (show _ = _ by unfold lenK; rw [(cells11 hbx).2.2.2.1])
    obtain ⟨la, hla⟩ : ∃ la, la = k.last - i := ⟨_, rfl⟩
    have HLA : Hid (la = k.last - i) := hla
    have hlb : la < 4611686018427387904 := by have := HJ.out; omega
    have hMb : M < 4611686018427387904 := by have := HJ.out; have := HM.out; omega
    obtain ⟨-, -, -, c3, c40, c5, -, -, -, -⟩ := cells11 hbx
    have f3 := frz hbx 3
    have f4 := frz hbx 4
    have f5 := frz hbx 5
    have c4 : wr.cell? ⟨kb, 4, none⟩ = some (.int .i64 (la : Int)) := by rw [hla]; exact c40
    have hw1 : wrap64 ((la : Int) - 1) = (la : Int) - 1 := by unfold wrap64; omega
    clear hcl hdr hM c40
    by_cases hij : i < j
    · have hiT : i < T.length := by have := HJ.out; omega
      obtain ⟨t, ht⟩ : ∃ t, T[i]? = some t := ⟨_, List.getElem?_eq_getElem hiT⟩
      obtain ⟨b, o, e1, hne, hbl, hcn⟩ := hit t (by rw [List.getElem?_drop]; exact ht)
      subst e1
      have HTN : Hid (t.n < m) := HLT.out i t hij ht
      obtain ⟨tn, htn⟩ : ∃ tn, tn = t.n := ⟨_, rfl⟩
      rw [← htn] at hcn HTN
      have hlI : (tn : Int) < (m : Int) := by have := HTN.out; omega
      have hM0 : (0 : Int) < (M : Int) := by have := HM.out; omega
      have HIJ : Hid (i < j) := hij
      clear hit hij ht htn hiT hbx hla
      go_wp2_with fail
      have hM1 : 1 ≤ M := by omega
      have hrow : ((wr.setCell ⟨kb, 3, none⟩ (.slice (if ic = 1 then some ⟨b, o, none⟩ else some ⟨b, o + 2, none⟩) (M - 1) (ic - 1))).setCell ⟨kb, 4, none⟩ (.int .i64 (if 1 < (la : Int) then (la : Int) - 1 else 0))).heap[kb]? = some (.cells (Kp.c { k with last := k.last - (i + 1) } p g (.slice (SB (some ⟨b, o, none⟩) ic 1) (M - 1) (ic - 1))) tKp (0, 0)) := by
        rw [heap_setCell_same _ kb 4 _ _ _ (heap_setCell_same wr kb 3 _ _ _ HBX.out)]
        have e1 : SB (some ⟨b, o, none⟩) ic 1 = if ic = 1 then some ⟨b, o, none⟩ else some ⟨b, o + 2, none⟩ := by
          unfold SB
          split
          · rfl
          · show some (Addr.add ⟨b, o, none⟩ (1 * 2)) = _; rw [Addr.add_mid]
        have e2 : (if 1 < (la : Int) then (la : Int) - 1 else 0) = ((k.last - (i + 1) : Nat) : Int) := by have := HLA.out; split <;> omega
        rw [e1, e2]
        rfl
      have hc : Chg (fun b => b = kb) wr ((wr.setCell ⟨kb, 3, none⟩ (.slice (if ic = 1 then some ⟨b, o, none⟩ else some ⟨b, o + 2, none⟩) (M - 1) (ic - 1))).setCell ⟨kb, 4, none⟩ (.int .i64 (if 1 < (la : Int) then (la : Int) - 1 else 0))) := Chg.of_grown ((gset1 wr kb 3 _).trans' (gset1 _ kb 4 _)) (fun b e => by cases e; rfl)
      have hnew := HDR.out _ { k with last := k.last - (i + 1) } hM1 hc hrow
      have hlen : lenK ((wr.setCell ⟨kb, 3, none⟩ (.slice (if ic = 1 then some ⟨b, o, none⟩ else some ⟨b, o + 2, none⟩) (M - 1) (ic - 1))).setCell ⟨kb, 4, none⟩ (.int .i64 (if 1 < (la : Int) then (la : Int) - 1 else 0))) kb = M - 1 := by unfold lenK; rw [(cells11 hrow).2.2.2.1]
      have HC : Hid _ := hc
      have HN : Hid _ := hnew
      have HLN : Hid _ := hlen
      clear hrow hc hnew hlen
      go_roundw
      case rel => exact ⟨i + 1, HIJ.out, by have h9 := HN.out; rw [List.drop_drop] at h9; exact h9, HV.out.2.trans HC.out (fun b h => .inl h)⟩
      case measure =>
        rw [HLN.out, HLK.out]
        omega
    · obtain rfl : i = j := by have := HI.out; omega
      clear hij
      cases ht : T[i]? with
      | none =>
        have hM0 : M = 0 := by have := List.getElem?_eq_none_iff.1 ht; have := HM.out; omega
        subst hM0
        clear hit ht hbx hla
        go_wp2_with fail
        all_goals (rename_i h9)
        all_goals go_end0
        all_goals (refine ⟨rfl, HCL.out _ { k with last := k.last - i, fst := max k.fst m } (Chg.of_grown (gset1 wr kb 5 _) (fun b e => by cases e; rfl)) ?_, HV.out.2.trans (Chg.of_grown (gset1 wr kb 5 _) (fun b e => by cases e; rfl) : Chg (fun b => b = kb) wr _) (fun b h => .inl h)⟩)
        all_goals (rw [heap_setCell_same wr kb 5 _ _ _ HBX.out])
        · rw [show max k.fst m = m by omega]; rfl
        · rw [show max k.fst m = k.fst by omega]; rfl
      | some t =>
        obtain ⟨b, o, e1, hne, hbl, hcn⟩ := hit t (by rw [List.getElem?_drop]; exact ht)
        subst e1
        have HTN : Hid (m ≤ t.n) := HGE.out t ht
        have hiT : i < T.length := (List.getElem?_eq_some_iff.1 ht).1
        obtain ⟨tn, htn⟩ : ∃ tn, tn = t.n := ⟨_, rfl⟩
        rw [← htn] at hcn HTN
        have hlI : ¬ (tn : Int) < (m : Int) := by have := HTN.out; omega
        have hM0 : (0 : Int) < (M : Int) := by have := HM.out; omega
        clear hit ht htn hiT hbx hla
        go_wp2_with fail
        all_goals (rename_i h9)
        all_goals go_end0
        all_goals (refine ⟨rfl, HCL.out _ { k with last := k.last - i, fst := max k.fst m } (Chg.of_grown (gset1 wr kb 5 _) (fun b e => by cases e; rfl)) ?_, HV.out.2.trans (Chg.of_grown (gset1 wr kb 5 _) (fun b e => by cases e; rfl) : Chg (fun b => b = kb) wr _) (fun b h => .inl h)⟩)
        all_goals (rw [heap_setCell_same wr kb 5 _ _ _ HBX.out])
        · rw [show max k.fst m = m by omega]; rfl
        · rw [show max k.fst m = k.fst by omega]; rfl
end Go.Proofs.YtibepnilhmbpeaaDoor
namespace Go.Proofs.YtibepnilhmbpeaaDoor
set_option linter.unusedVariables false
set_option linter.unusedSimpArgs false
open Go.RowKit
theorem Chn.lt_at : ∀ {T : List Itm} {f n : Nat} (_ : Chn f T n) (_ : ∀ t ∈ T, 1 ≤ t.need) (i k : Nat) (t : Itm), i < k → k ≤ T.length → T[i]? = some t → t.n < numAt T n k
  | [], _, _, _, _, i, k, t, _, _, ht => by simp at ht
  | u :: r, f, n, h, ok, i, 0, t, hik, _, _ => by omega
  | u :: r, f, n, h, ok, 0, k + 1, t, _, hk, ht => by
    have e : u = t := by simpa using ht
    subst e
    have h1 := h.1
    have h2 := ok u (List.mem_cons_self ..)
    have h3 : f + u.need ≤ numAt r n k := by
      unfold numAt
      cases hk9 : r[k]? with
      | none => exact h.2.le.1
      | some v => exact (h.2.le.2 v (List.mem_of_getElem? hk9)).1
    show u.n < numAt (u :: r) n (k + 1)
    have e2 : numAt (u :: r) n (k + 1) = numAt r n k := rfl
    omega
  | u :: r, f, n, h, ok, i + 1, k + 1, t, hik, hk, ht =>
    Chn.lt_at h.2 (fun v hv => ok v (List.mem_cons_of_mem _ hv)) i k t (by omega) (by simpa using hk) (by simpa using ht)
theorem KpA.item {w : World} {kb g p n : Nat} {x : Lg} {d : Dst} {X Y : Nat → Prop} {T : List Itm} {k : Kp} (h : KpA w kb g p x d n X Y T k) {ia : Option Addr} {ic M : Nat} (hb : w.heap[kb]? = some (.cells (k.c p g (.slice ia M ic)) tKp (0, 0))) (i : Nat) (t : Itm) (ht : T[i]? = some t) : ∃ b o, ia = some ⟨b, o, none⟩ ∧ w.cell? ⟨b, o + i * 2, none⟩ = some (.int .u64 (t.n : Int)) := by
  obtain ⟨h0, ⟨ja, jc, N, h1, h2, h3, h4, h5, h6⟩, h7⟩ := h
  have e : Kp.c k p g (.slice ia M ic) = Kp.c k p g (.slice ja N.length jc) := by
    rw [hb] at h1
    injection h1 with h1
    injection h1
  have e3 : (Kp.c k p g (.slice ia M ic))[3]? = (Kp.c k p g (.slice ja N.length jc))[3]? := by rw [e]
  have e4 : Value.slice ia M ic = .slice ja N.length jc := by simpa [Kp.c] using e3
  injection e4 with e5 e6 e7
  subst e5
  obtain ⟨a8, c8, e8, hc8, -, hrd⟩ := h2.val
  injection e8 with e81 e82 e83
  subst e81
  have hT : i < T.length := (List.getElem?_eq_some_iff.1 ht).1
  have hN : i < N.length := by rw [h3.len]; exact hT
  obtain ⟨b, o, e1, hrg, -⟩ := hrd i hN
  obtain ⟨hyn, -⟩ := h3.at_ i N[i] t (List.getElem?_eq_getElem hN) ht
  have h9 := hrg 0 (.int .u64 (N[i].n : Int)) rfl
  rw [hyn, Nat.add_zero] at h9
  exact ⟨b, o, e1, h9⟩
set_option maxRecDepth 20000 in
set_option maxHeartbeats 6400000 in
/-- trims, where it goes on -/
theorem ktrims_t {w : World} {kb g p n : Nat} {x : Lg} {d : Dst} {X Y : Nat → Prop} {T : List Itm} {k : Kp} (h : Kst w kb g p x d n X Y T k) (a : Int) (ha1 : -9223372036854775808 ≤ a) (ha2 : a ≤ 9223372036854775807) (q : Nat) (hq : q = spanK a 0 T.length) (hgo : x.h.f < numAt T x.nx q) (hg : x.h.g + 1 < 281474976710655) (hn : n + 1 < 1099511627776) (hnx : x.nx < 281474976710655) :
    Calls Tryd.prog 13 #[.pointer (some ⟨kb, 0, none⟩), .int .i64 a] w fun e w' => e = .returned (.bool true) ∧ KpO w kb g p X Y (x.begun x.h.e (numAt T x.nx q)) (runO d (hdO x.A x.Z (x.newH x.h.e (numAt T x.nx q)))).1 (n + 1) (T.drop q) { k with last := T.length - q, fst := numAt T x.nx q } w' := by
  obtain ⟨hA, hL, hKF⟩ := h
  have HA : Hid (KpA w kb g p x d n X Y T k) := hA
  have HLV : Hid (Liv d x T) := hL
  have HKF : Hid (KpF k x) := hKF
  have hqT : q ≤ T.length := by rw [hq]; exact (spanK_in a 0 T.length (Nat.zero_le _)).2
  have hTl : T.length ≤ 65536 := by have := hL.size; have := hL.fit; have := hL.N; have := hL.AZ; omega
  have HSP : Hid (∀ u, Calls _ _ _ u _) := fun u => spanK_t a 0 T.length u ha1 ha2 (Nat.zero_le _) hTl
  rw [← hq] at HSP
  obtain ⟨m, hm⟩ : ∃ m, m = numAt T x.nx q := ⟨_, rfl⟩
  have HTR : Hid (Calls _ _ _ w _) := hA.log.trim hL q hqT hgo hg hn hnx
  have hlv2 := (hL.trim q hqT (by omega) (by omega)).2
  rw [← hm] at HTR hgo hlv2 ⊢
  have HL2 : Hid _ := hlv2
  have HNX : Hid (Calls _ _ _ w _) := hA.log.next
  have HFF : Hid (k.fst = x.h.f) := hKF.fst
  obtain ⟨ia, ic, M, hbx, hM, hMc, -, -, -⟩ := hA.boxD
  have HMT : Hid (M = T.length ∧ M ≤ ic ∧ T.length ≤ 65536 ∧ q ≤ T.length) := ⟨hM, hMc, hTl, hqT⟩
  rw [← hM] at HSP hqT hTl
  have hdd : k.dead = false := hKF.dead
  have hfm : k.fst < m := by rw [hKF.fst]; exact hgo
  have HFM : Hid (k.fst < m) := hfm
  have HM : Hid (m = numAt T x.nx q) := hm
  have HLT : Hid (∀ (i : Nat) (t : Itm), i < q → T[i]? = some t → t.n < m) := fun i t hi ht => by rw [HM.out]; exact hL.ch.lt_at (fun t ht => (needS_pos (hL.ok t ht).1.len).1) i q t hi HMT.out.2.2.2 ht
  have HGE : Hid (∀ t, T[q]? = some t → m ≤ t.n) := fun t ht => by rw [HM.out]; unfold numAt; rw [ht]; exact Nat.le_refl _
  have hit := hA.item hbx q
  have HIT : Hid (∀ t, T[q]? = some t → m = t.n) := fun t ht => by rw [HM.out]; unfold numAt; rw [ht]
  have HNA : Hid (T[q]? = none → m = x.nx) := fun ht => by rw [HM.out]; unfold numAt; rw [ht]
  obtain ⟨nx, hnxx⟩ : ∃ nx, nx = x.nx := ⟨_, rfl⟩
  rw [← hnxx] at HNX
  have HNN : Hid (nx = x.nx) := hnxx
  obtain ⟨-, c1, -, c3, -, -, -, -, -, -⟩ := cells11 hbx
  clear hA hL hKF hq hm hgo hg hn hnx hlv2 hbx hM hnxx ha1 ha2
  go_enter Tryd.func13, Tryd.ntmps13
  have key : ∀ (u : Nat), True := fun _ => trivial
  go_upto_region 3 with first | (go_at_call 9; refine Calls.mono (HSP.out _) ?_; rintro e w' ⟨rfl, hq⟩; have hq := hq.symm; subst hq) | (go_at_call 26; refine Calls.mono HNX.out ?_; rintro e w' ⟨rfl, hq⟩; have hq := hq.symm; subst hq)
  clear key
  by_cases hqM : q < M
  · have hqI : (q : Int) < (M : Int) := by omega
    have hq0 : (0 : Int) ≤ (q : Int) := by omega
    obtain ⟨t, ht⟩ : ∃ t, T[q]? = some t := ⟨_, List.getElem?_eq_getElem (by have := HMT.out; omega)⟩
    obtain ⟨b, o, e1, hcn⟩ := hit t ht
    subst e1
    rw [← HIT.out t ht] at hcn
    have hcz := hcn
    clear hit ht hcn
    have hcn := hcz
    clear hcz
    go_upto_region 5 with fail
    go_upto_region 8 with (go_at_call 24; refine Calls.mono HTR.out ?_; rintro e w4 ⟨rfl, hlo⟩; have HLO : Hid (LogO w g p X (x.begun x.h.e m) _ (n + 1) w4) := hlo; clear hlo)
    obtain ⟨X4, hA4, hX4⟩ := HA.out.logged HLO.out
    have HX4 : Hid _ := hX4
    obtain ⟨ia4, ic4, M4, hbx4, hM4, -, -, hcl4, -⟩ := hA4.boxD
    obtain rfl : M = M4 := by rw [hM4, HMT.out.1]
    obtain ⟨-, -, -, d3, d4, d5, -, -, -, -⟩ := cells11 hbx4
    have f4 := frz hbx4 4
    have HCL4 : Hid _ := hcl4
    have HBX4 : Hid (w4.heap[kb]? = _) := hbx4
    have hfm : (k.fst : Int) < (m : Int) := by have := HFM.out; omega
    clear hA4 hM4 hcl4 hbx4 hX4 c1 c3
    go_upto_region 10 with fail
    have hrow5 : (w4.setCell ⟨kb, 4, none⟩ (.int .i64 (M : Int))).heap[kb]? = some (.cells (Kp.c { k with last := M } p g (.slice ia4 M ic4)) tKp (0, 0)) := by rw [heap_setCell_same w4 kb 4 _ _ _ HBX4.out]; rfl
    have hc5 : Chg (fun b => b = kb) w4 (w4.setCell ⟨kb, 4, none⟩ (.int .i64 (M : Int))) := Chg.of_grown (gset1 w4 kb 4 _) (fun b e => by cases e; rfl)
    have hA5 := HCL4.out _ { k with last := M } hc5 hrow5
    generalize (w4.setCell ⟨kb, 4, none⟩ (.int .i64 (M : Int))) = W5 at *
    have HDR : Hid (Calls _ _ _ W5 _) := kdrop_t hA5 q m HMT.out.2.2.2 HLT.out HGE.out (by show M < _; omega) (by have := HMT.out; omega)
    have HC5 : Hid _ := hc5
    clear hrow5 hc5 hA5 d3 d4 d5 f4
    go_wp2_with (go_at_call 33; refine Calls.mono HDR.out ?_; rintro e w6 ⟨rfl, hA6, hc6⟩; obtain ⟨-, -, -, -, -, -, c80⟩ := hA6.cl; have c8 : w6.cell? ⟨kb, 8, none⟩ = some (.bool false) := (by rw [c80]; show some (Value.bool k.dead) = _; rw [HKF.out.dead]); have HA6 : Hid (KpA w6 kb g p (x.begun x.h.e m) _ (n + 1) X4 Y (T.drop q) { k with last := M - q, fst := max k.fst m }) := hA6; have HC6 : Hid (Chg (fun b => b = kb) W5 w6) := hc6; clear c80 hA6 hc6)
    go_ret
    have ek : ({ k with last := M - q, fst := max k.fst m } : Kp) = { k with last := T.length - q, fst := m } := by rw [HMT.out.1, Nat.max_eq_right (Nat.le_of_lt HFM.out)]
    have ha := HA6.out
    rw [ek] at ha
    have hYk : Y kb := by
      obtain ⟨-, ⟨_, _, _, -, -, -, h4, -⟩, -⟩ := HA.out
      exact h4
    have up : ∀ {u v : World}, Chg (fun b => b = kb) u v → Chg (fun b => X b ∨ Y b) u v := fun hc => hc.mono (fun b e => by subst e; exact .inr hYk)
    exact ⟨by first | rfl | simp, ⟨X4, Y, ⟨ha, HL2.out, HKF.out.size, rfl, HKF.out.ep, HKF.out.dead⟩, HX4.out, fun _ h => .inl h⟩, ((HLO.out.chg.mono (fun _ h => .inl h) : Chg (fun b => X b ∨ Y b) w w4).trans (up HC5.out) (fun _ h => .inl h)).trans (up HC6.out) (fun _ h => .inl h), by
      have hS := HA.out.sums
      have s4 := HLO.out.chg.size
      have s5 := HC5.out.size
      have nk : ∀ {u v : World}, Chg (fun b => b = kb) u v → 0 < u.heap.size → v.heap[0]? = u.heap[0]? := fun hc hl => hc.block _ hl (fun e => hS.2.1 (e ▸ hYk))
      exact ((nk HC6.out (by omega)).trans (nk HC5.out (by omega))).trans HLO.out.sm, (ByK.chg HLO.out.chg (fun b _ _ _ hX hG => hX hG)).trans (ByK.chg (HC5.out.trans HC6.out (fun i h => .inl h)) (fun b C fr h _ e => by rw [e, HBX4.out] at h; cases h))⟩
  · have hqI : ¬ (q : Int) < (M : Int) := by omega
    have hno : T[q]? = none := List.getElem?_eq_none_iff.2 (by have := HMT.out; omega)
    have hmn : m = nx := by rw [HNN.out]; exact HNA.out hno
    subst hmn
    clear hit hno
    go_upto_region 5 with fail
    go_upto_region 8 with (go_at_call 24; refine Calls.mono HTR.out ?_; rintro e w4 ⟨rfl, hlo⟩; have HLO : Hid (LogO w g p X (x.begun x.h.e m) _ (n + 1) w4) := hlo; clear hlo)
    obtain ⟨X4, hA4, hX4⟩ := HA.out.logged HLO.out
    have HX4 : Hid _ := hX4
    obtain ⟨ia4, ic4, M4, hbx4, hM4, -, -, hcl4, -⟩ := hA4.boxD
    obtain rfl : M = M4 := by rw [hM4, HMT.out.1]
    obtain ⟨-, -, -, d3, d4, d5, -, -, -, -⟩ := cells11 hbx4
    have f4 := frz hbx4 4
    have HCL4 : Hid _ := hcl4
    have HBX4 : Hid (w4.heap[kb]? = _) := hbx4
    have hfm : (k.fst : Int) < (m : Int) := by have := HFM.out; omega
    clear hA4 hM4 hcl4 hbx4 hX4 c1 c3
    go_upto_region 10 with fail
    have hrow5 : (w4.setCell ⟨kb, 4, none⟩ (.int .i64 (M : Int))).heap[kb]? = some (.cells (Kp.c { k with last := M } p g (.slice ia4 M ic4)) tKp (0, 0)) := by rw [heap_setCell_same w4 kb 4 _ _ _ HBX4.out]; rfl
    have hc5 : Chg (fun b => b = kb) w4 (w4.setCell ⟨kb, 4, none⟩ (.int .i64 (M : Int))) := Chg.of_grown (gset1 w4 kb 4 _) (fun b e => by cases e; rfl)
    have hA5 := HCL4.out _ { k with last := M } hc5 hrow5
    generalize (w4.setCell ⟨kb, 4, none⟩ (.int .i64 (M : Int))) = W5 at *
    have HDR : Hid (Calls _ _ _ W5 _) := kdrop_t hA5 q m HMT.out.2.2.2 HLT.out HGE.out (by show M < _; omega) (by have := HMT.out; omega)
    have HC5 : Hid _ := hc5
    clear hrow5 hc5 hA5 d3 d4 d5 f4
    go_wp2_with (go_at_call 33; refine Calls.mono HDR.out ?_; rintro e w6 ⟨rfl, hA6, hc6⟩; obtain ⟨-, -, -, -, -, -, c80⟩ := hA6.cl; have c8 : w6.cell? ⟨kb, 8, none⟩ = some (.bool false) := (by rw [c80]; show some (Value.bool k.dead) = _; rw [HKF.out.dead]); have HA6 : Hid (KpA w6 kb g p (x.begun x.h.e m) _ (n + 1) X4 Y (T.drop q) { k with last := M - q, fst := max k.fst m }) := hA6; have HC6 : Hid (Chg (fun b => b = kb) W5 w6) := hc6; clear c80 hA6 hc6)
    go_ret
    have ek : ({ k with last := M - q, fst := max k.fst m } : Kp) = { k with last := T.length - q, fst := m } := by rw [HMT.out.1, Nat.max_eq_right (Nat.le_of_lt HFM.out)]
    have ha := HA6.out
    rw [ek] at ha
    have hYk : Y kb := by
      obtain ⟨-, ⟨_, _, _, -, -, -, h4, -⟩, -⟩ := HA.out
      exact h4
    have up : ∀ {u v : World}, Chg (fun b => b = kb) u v → Chg (fun b => X b ∨ Y b) u v := fun hc => hc.mono (fun b e => by subst e; exact .inr hYk)
    exact ⟨by first | rfl | simp, ⟨X4, Y, ⟨ha, HL2.out, HKF.out.size, rfl, HKF.out.ep, HKF.out.dead⟩, HX4.out, fun _ h => .inl h⟩, ((HLO.out.chg.mono (fun _ h => .inl h) : Chg (fun b => X b ∨ Y b) w w4).trans (up HC5.out) (fun _ h => .inl h)).trans (up HC6.out) (fun _ h => .inl h), by
      have hS := HA.out.sums
      have s4 := HLO.out.chg.size
      have s5 := HC5.out.size
      have nk : ∀ {u v : World}, Chg (fun b => b = kb) u v → 0 < u.heap.size → v.heap[0]? = u.heap[0]? := fun hc hl => hc.block _ hl (fun e => hS.2.1 (e ▸ hYk))
      exact ((nk HC6.out (by omega)).trans (nk HC5.out (by omega))).trans HLO.out.sm, (ByK.chg HLO.out.chg (fun b _ _ _ hX hG => hX hG)).trans (ByK.chg (HC5.out.trans HC6.out (fun i h => .inl h)) (fun b C fr h _ e => by rw [e, HBX4.out] at h; cases h))⟩
end Go.Proofs.YtibepnilhmbpeaaDoor
