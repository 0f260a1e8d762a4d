import Derived.Test.YtibepnilhmbpeaaDoorSMg
namespace Go.Proofs.YtibepnilhmbpeaaDoor
set_option linter.unusedVariables false
set_option linter.unusedSimpArgs false
open Go.RowKit
/-- a numbered record in memory -/
structure Nb where
  n : Nat
  a : Option Addr
  m : Nat
  c : Nat
abbrev Nb.v (x : Nb) : Value := .slice x.a x.m x.c
abbrev KN : Kd Nb := { t := 98, ts := 95, k := 2, by_ := 32, f := fun x => [.int .u64 (x.n : Int), .slice x.a x.m x.c], z := .agg #[.int .u64 0, .slice none 0 0], hk := fun _ => rfl, h1 := (fun d u hu => by simp at hu; rcases hu with rfl | rfl <;> rfl), hpos := by decide, ht := Tryd.underlying95, hi := by kernel_rfl, hz := rfl }
/-- numbered records: a row, and the records' own blocks -/
structure Nbs (K : Kd Nb) (w : World) (B : Nat) (v : Value) (N : List Nb) (R : List (Nat × List UInt8)) : Prop where
  row : OwnG K w B v N
  len : N.length = R.length
  at_ : ∀ (i : Nat) x r, N[i]? = some x → R[i]? = some r → x.n = r.1 ∧ Own w B x.v r.2
  ap : ∀ (i j : Nat) x y b, N[i]? = some x → N[j]? = some y → i < j → x.v.ownBlock = some b → y.v.ownBlock = some b → False
section
variable {K : Kd Nb} {w w' : World} {B : Nat} {v : Value} {N : List Nb} {R : List (Nat × List UInt8)}
theorem ownKept {w w' : World} {B : Nat} {v : Value} {xs : List UInt8} (h : Own w B v xs) (hk : ∀ b, v.ownBlock = some b → w'.heap[b]? = w.heap[b]?) : Own w' B v xs := by
  refine ⟨h.1, ?_⟩
  rcases h.2 with h0 | ⟨g, cap, cur, rfl, hB, hg, r⟩
  · exact .inl h0
  · exact .inr ⟨g, cap, cur, rfl, hB, (hk g rfl).trans hg, r⟩
theorem Nbs.nil (w : World) (B : Nat) : Nbs K w B (.slice none 0 0) [] [] := ⟨World.ownsRow_nil _ _ _ _, rfl, fun i x r h => by simp at h, fun i j x y b h => by simp at h⟩
theorem Nbs.lt (h : Nbs K w B v N R) {i : Nat} {x : Nb} (hx : N[i]? = some x) {b : Nat} (hb : x.v.ownBlock = some b) : B ≤ b ∧ b < w.heap.size := by
  have hi : i < R.length := by rw [← h.len]; exact (List.getElem?_eq_some_iff.1 hx).1
  exact World.ownsRow.lt (h.at_ i x R[i] hx (List.getElem?_eq_getElem hi)).2 b hb
theorem Nbs.t5 (h : Nbs K w B v N R) {i : Nat} {x : Nb} (hx : N[i]? = some x) {b : Nat} (hb : x.v.ownBlock = some b) : ∃ C, w.heap[b]? = some (.cells C 5 (0, 0)) := by
  have hi : i < R.length := by rw [← h.len]; exact (List.getElem?_eq_some_iff.1 hx).1
  have ho := (h.at_ i x R[i] hx (List.getElem?_eq_getElem hi)).2
  rcases ho.2 with ⟨e, -⟩ | ⟨g, cap, cur, e, -, hg, -⟩
  · rw [e] at hb; cases hb
  · rw [e] at hb; cases hb; exact ⟨cur, hg⟩
theorem Nbs.kept (h : Nbs K w B v N R) (hr : ∀ b, v.ownBlock = some b → w'.heap[b]? = w.heap[b]?) (hk : ∀ b, B ≤ b → b < w.heap.size → (∃ C, w.heap[b]? = some (.cells C 5 (0, 0))) → w'.heap[b]? = w.heap[b]?) : Nbs K w' B v N R :=
  ⟨h.row.kept hr, h.len, fun i x r h1 h2 => ⟨(h.at_ i x r h1 h2).1, ownKept (h.at_ i x r h1 h2).2 (fun b e => hk b (h.lt h1 e).1 (h.lt h1 e).2 (h.t5 h1 e))⟩, h.ap⟩
theorem Nbs.below (h : Nbs K w B v N R) (hb : Below w.heap.size w w') : Nbs K w' B v N R := h.kept (fun b e => hb.block b (h.row.lt' e).2) (fun b _ hl _ => hb.block b hl)
theorem Nbs.base {B' : Nat} (h : Nbs K w B v N R) (hB : B' ≤ B) : Nbs K w B' v N R := ⟨h.row.base hB, h.len, fun i x r h1 h2 => ⟨(h.at_ i x r h1 h2).1, Own.base (h.at_ i x r h1 h2).2 hB⟩, h.ap⟩
/-- one more -/
theorem Nbs.push {u u' : World} {v' : Value} {y : Nb} {rec : List UInt8} (h : Nbs K w B v N R) (hT : K.t ≠ 5) (hB : B ≤ w.heap.size) (hb : Below w.heap.size w u) (ho : Own u w.heap.size y.v rec) (hb' : Below u.heap.size u u') (hrow : OwnG K w' B v' (N ++ [y])) (hg : u'.grownBy w' v.ownBlock) : Nbs K w' B v' (N ++ [y]) (R ++ [(y.n, rec)]) := by
  have hn : ∀ b C, u'.heap[b]? = some (.cells C 5 (0, 0)) → b < u'.heap.size → w'.heap[b]? = u'.heap[b]? := fun b C hC hl => hg.block b hl (fun e => by
    obtain ⟨cur, h9⟩ := h.row.at_ e.symm
    have h8 := (hb'.block b (Nat.lt_of_lt_of_le (h.row.lt' e.symm).2 hb.size)).trans (hb.block b (h.row.lt' e.symm).2)
    rw [hC, h9] at h8
    injection h8 with h8
    injection h8 with _ h7
    exact hT h7.symm)
  have hr := h.below hb
  have hr' := hr.below hb'
  have ho' := Own.below ho hb'
  refine ⟨hrow, by simp [h.len], ?_, ?_⟩
  · intro i x r h1 h2
    by_cases hi : i < N.length
    · rw [List.getElem?_append_left hi] at h1
      rw [List.getElem?_append_left (by rw [← h.len]; exact hi)] at h2
      refine ⟨(h.at_ i x r h1 h2).1, ownKept (hr'.at_ i x r h1 h2).2 (fun b e => ?_)⟩
      obtain ⟨C, hC⟩ := hr'.t5 h1 e
      exact hn b C hC (hr'.lt h1 e).2
    · have hi2 : i = N.length := by have := (List.getElem?_eq_some_iff.1 h1).1; simp at this; omega
      subst hi2
      rw [List.getElem?_append_right (Nat.le_refl _)] at h1
      rw [h.len, List.getElem?_append_right (Nat.le_refl _)] at h2
      simp at h1 h2
      subst h1; subst h2
      refine ⟨rfl, Own.base (ownKept ho' (fun b e => ?_)) hB⟩
      rcases ho'.2 with ⟨e9, -⟩ | ⟨g9, cap, cur, e9, -, hg9, -⟩
      · rw [e9] at e; cases e
      · rw [e9] at e; cases e; exact hn _ cur hg9 (Array.getElem?_eq_some_iff.1 hg9).1
  · intro i j x z b h1 h2 hij e1 e2
    have hj := (List.getElem?_eq_some_iff.1 h2).1
    rw [List.length_append] at hj
    have hj : j < N.length + 1 := hj
    rw [List.getElem?_append_left (by omega)] at h1
    by_cases hjn : j < N.length
    · rw [List.getElem?_append_left hjn] at h2
      exact h.ap i j x z b h1 h2 hij e1 e2
    · obtain rfl : j = N.length := by omega
      rw [List.getElem?_append_right (Nat.le_refl _)] at h2
      simp at h2
      subst h2
      have := (h.lt h1 e1).2
      have := (World.ownsRow.lt ho b e2).1
      omega
end
/-- the records that are read, up to the first that can't be -/
def fromL (d : Dst) (A Z hi : Nat) : List Sta → List (Nat × List UInt8)
  | [] => []
  | s :: r => if rcE d A Z s.n hi ≠ 0 then [] else (s.n, rcX d A Z s.n) :: fromL d A Z hi r
/-- what from answers -/
structure FrOut (w : World) (R : List (Nat × List UInt8)) (e : Ending) (w' : World) : Prop where
  ex : ∃ v N, e = .returned v ∧ Nbs KN w' w.heap.size v N R
  bel : Below w.heap.size w w'
set_option maxRecDepth 20000 in
set_option maxHeartbeats 6400000 in
theorem sfrom_t {w : World} {g p n m0 : Nat} {x : Lg} {sa : Option Addr} {sc : Nat} {d : Dst} {F : Nat → Prop} (h : LogM w g p x sa sc d n F) (hf : x.fl = false) (ho : d.off = false) (hsm : ∀ s ∈ x.L, s.n < 18446744073709551616) :
    Calls Tryd.prog 48 #[.pointer (some ⟨g, 0, none⟩), .int .u64 (m0 : Int)] w fun e w' => FrOut w (fromL d x.A x.Z x.h.e (x.L.drop (cntB x.L m0))) e w' := by
  have HL : Hid (Calls _ _ _ w _) := slook_ok g p x sa sc d n F w h.s.bx h.s.dk hf ho
  have HF : Hid (Calls _ _ _ w _) := find_t g p x sa sc m0 w h.s.bx h.s.rd h.s.ris h.s.len
  obtain ⟨k, hk⟩ : ∃ k, k = cntB x.L m0 := ⟨_, rfl⟩
  obtain ⟨LL, hLL⟩ : ∃ LL, LL = x.L.drop k := ⟨_, rfl⟩
  obtain ⟨m, hm⟩ : ∃ m, m = x.L.length - k := ⟨_, rfl⟩
  obtain ⟨q, hq⟩ : ∃ q, q = SB sa sc k := ⟨_, rfl⟩
  have HK : Hid (k = cntB x.L m0) := hk
  have HML : Hid (m = LL.length) := by unfold Hid; rw [hm, hLL, List.length_drop]
  have HM6 : Hid (m ≤ 1000000) := by unfold Hid; have := h.s.len; omega
  have HQS : Hid (q = SB sa sc k) := hq
  have HRD : Hid (∀ u, Below w.heap.size w u → RdG KS u q LL) := fun u hu => by rw [hq, hLL]; exact (h.s.rd.dropS h.s.cap).below hu
  have HSM : Hid (∀ s ∈ LL, s.n < 18446744073709551616) := fun s hs => hsm s (by rw [hLL] at hs; exact List.mem_of_mem_drop hs)
  have HRR : Hid (∀ u (s : Sta), Below w.heap.size w u → s ∈ LL → Calls _ _ _ u _) := fun u s hu hs => readRecord_t (h.s.dk.below hu) ho x.A x.Z s.n x.h.e h.s.Z h.s.AZ (HSM.out s hs) (h.s.tab.below hu)
  have HPL : Hid (∀ u, Below w.heap.size w u → (Instr.loadAt tPl (.pointer (some ⟨g, 0, none⟩))).run Tryd.prog u = .ok (plV p x.A x.Z) u) := fun u hu => plLoadL g p x sa sc u (below_blk hu h.s.bx)
  have HCE : Hid (∀ u, Below w.heap.size w u → u.cell? ⟨g, 4, none⟩ = some (.int .u64 (x.h.e : Int)) ∧ u.cell? ⟨g, 8, none⟩ = some (.slice sa x.L.length sc)) := fun u hu => ⟨(cells10 (below_blk hu h.s.bx)).2.2.2.2.1, (cells10 (below_blk hu h.s.bx)).2.2.2.2.2.2.2.2.1⟩
  have hkI : (k : Int) ≤ (x.L.length : Int) := by rw [hk]; have : cntB x.L m0 ≤ x.L.length := (by unfold cntB; exact (List.takeWhile_sublist _).length_le); omega
  have hcI : (x.L.length : Int) ≤ (sc : Int) := by have := h.s.cap; omega
  obtain ⟨nL, hnL⟩ : ∃ nL, nL = x.L.length := ⟨_, rfl⟩
  rw [← hk, ← hLL]
  rw [← hnL] at HCE hkI hcI
  have HMN : Hid (nL - k = m) := by unfold Hid; rw [hnL, hm]
  clear h hf ho hk hLL hm hsm hnL
  rcases Nat.eq_zero_or_pos m with hm0 | hm0
  · have HLZ : Hid (LL = []) := List.eq_nil_of_length_eq_zero (by rw [← HML.out, hm0])
    rw [hm0] at HMN
    clear hm0 hq
    go_enter Tryd.func48, Tryd.ntmps48
    go_upto_region 5 with first | (go_at_call 35; refine Calls.mono HL.out ?_; rintro e w' ⟨rfl, hq⟩; have hq := hq.symm; subst hq) | (go_at_call 45; refine Calls.mono HF.out ?_; rintro e u ⟨i, rfl, hbs, hu⟩; have hi := hbs.cnt; rw [← HK.out] at hi; subst hi; have HU : Hid (Below w.heap.size w u) := hu; clear hbs hu)
    have hc8 := (HCE.out u HU.out).2
    go_wp2_with fail
    all_goals
      rw [HMN.out]
      go_loopw [5, 28] (fun v j wr => v = .slice none 0 0 ∧ j = .int .i64 0 ∧ Below w.heap.size w wr) (fun _ _ _ => 0)
      case atStart => exact ⟨rfl, rfl, HU.out⟩
      case round =>
        obtain ⟨rfl, rfl, hbw⟩ := hrel
        go_wp2_with fail
        go_ret
        exact ⟨⟨_, [], rfl, by rw [HLZ.out]; exact Nbs.nil _ _⟩, hbw⟩
  · have hsk : ¬ sc = k := by have := HMN.out; omega
    have hqe : Option.map (fun x : Addr => x.add (k * 2)) sa = q := by rw [hq]; unfold SB; rw [if_neg hsk]
    have HM0 : Hid (0 < m) := hm0
    clear hq hm0
    go_enter Tryd.func48, Tryd.ntmps48
    go_upto_region 5 with first | (go_at_call 35; refine Calls.mono HL.out ?_; rintro e w' ⟨rfl, hq⟩; have hq := hq.symm; subst hq) | (go_at_call 45; refine Calls.mono HF.out ?_; rintro e u ⟨i, rfl, hbs, hu⟩; have hi := hbs.cnt; rw [← HK.out] at hi; subst hi; have HU : Hid (Below w.heap.size w u) := hu; clear hbs hu)
    have hc8 := (HCE.out u HU.out).2
    go_wp2_with fail
    (try rw [hqe])
    rw [HMN.out]
    obtain ⟨c1, hc1⟩ : ∃ c1, c1 = sc - i := ⟨_, rfl⟩
    rw [← hc1]
    obtain ⟨bf, hbf⟩ : ∃ bf, bf = bsF x.L m0 i := ⟨_, rfl⟩
    rw [← hbf]
    clear hc8 hqe hsk hkI hcI hc1 hbf
    go_loopw [5, 28] (fun v j wr => ∃ (r : Nat) (N : List Nb), r ≤ m ∧ j = .int .i64 (r : Int) ∧ Hid (fromL d x.A x.Z x.h.e LL = (LL.take r).map (fun s => (s.n, rcX d x.A x.Z s.n)) ++ fromL d x.A x.Z x.h.e (LL.drop r)) ∧ Nbs KN wr w.heap.size v N ((LL.take r).map (fun s => (s.n, rcX d x.A x.Z s.n))) ∧ Below w.heap.size w wr) (fun _ j _ => m - (intOf j).toNat)
    case atStart => exact ⟨0, [], Nat.zero_le _, rfl, rfl, Nbs.nil _ _, HU.out⟩
    case round =>
      obtain ⟨r, N, hrm, rfl, HEQ, hnb, hbw⟩ := hrel
      have HNB : Hid (Nbs KN wr w.heap.size u5 N ((LL.take r).map (fun s => (s.n, rcX d x.A x.Z s.n)))) := hnb
      have HBW : Hid (Below w.heap.size w wr) := hbw
      have HRM : Hid (m = LL.length ∧ m ≤ 1000000) := ⟨HML.out, HM6.out⟩
      have hrw : IntKind.i64.wrap ((r : Int) + 1) = ((r + 1 : Nat) : Int) := by have := HM6.out; rw [IntKind.wrap_i64]; omega
      clear hnb hbw
      by_cases hlt : r < m
      · have hltI : (r : Int) < (m : Int) := by omega
        have hr0 : (0 : Int) ≤ (r : Int) := by omega
        have hrL : r < LL.length := by rw [← HML.out]; exact hlt
        obtain ⟨s, hs⟩ : ∃ s, s = LL[r] := ⟨_, rfl⟩
        obtain ⟨b, o, hqb, hrg, -⟩ := HRD.out wr HBW.out r hrL
        rw [← hs] at hrg
        have e0 : wr.cell? ⟨b, o + r * 2, none⟩ = some (.int .u64 (s.n : Int)) := by have h9 := hrg 0 (.int .u64 (s.n : Int)) rfl; rw [Nat.add_zero] at h9; exact h9
        have e1 : wr.cell? ⟨b, o + r * 2 + 1, none⟩ = some (.int .u64 (s.e : Int)) := hrg 1 (.int .u64 (s.e : Int)) rfl
        have HSL : Hid (s ∈ LL) := by unfold Hid; rw [hs]; exact List.getElem_mem hrL
        have HDR : Hid (LL.drop r = s :: LL.drop (r + 1)) := by unfold Hid; rw [hs]; exact List.drop_eq_getElem_cons hrL
        have HTK : Hid (LL.take (r + 1) = LL.take r ++ [s]) := by unfold Hid; rw [hs]; exact (List.take_append_getElem hrL).symm
        subst hqb
        clear hs hrg
        go_upto_region 8 with fail
        have hb3 : Below wr.heap.size wr (wr.alloc (.cells #[.int .u64 (s.n : Int), .int .u64 (s.e : Int)] 79)) := alS (Below.refl _ _) _
        have hx3 : (wr.alloc (.cells #[.int .u64 (s.n : Int), .int .u64 (s.e : Int)] 79)).heap[wr.heap.size]? = some (.cells #[.int .u64 (s.n : Int), .int .u64 (s.e : Int)] 79 (0, 0)) := heap_alloc_new _ _
        generalize (wr.alloc (.cells #[.int .u64 (s.n : Int), .int .u64 (s.e : Int)] 79)) = w3 at *
        have HB3 : Hid (Below w.heap.size w w3 ∧ Below wr.heap.size wr w3) := ⟨below_next HBW.out hb3, hb3⟩
        have HX3 : Hid (∀ u, Below w3.heap.size w3 u → u.cell? ⟨wr.heap.size, 0, none⟩ = some (.int .u64 (s.n : Int))) := fun u hu => by rw [cell_of_row _ _ _ _ _ _ (below_blk hu hx3)]; rfl
        clear hb3 hx3 e0 e1
        by_cases hE : rcE d x.A x.Z s.n x.h.e = 0
        · have HE : Hid _ := hE
          have HF9 : Hid (fromL d x.A x.Z x.h.e LL = (LL.take (r + 1)).map (fun s => (s.n, rcX d x.A x.Z s.n)) ++ fromL d x.A x.Z x.h.e (LL.drop (r + 1))) := by
            unfold Hid
            rw [HEQ.out, HDR.out, HTK.out]
            show _ ++ (if rcE d x.A x.Z s.n x.h.e ≠ 0 then [] else _) = _
            rw [if_neg (fun h9 => h9 hE), List.map_append, List.append_assoc]
            rfl
          clear hE
          refine wp_region_held_drew (S := (fun v => Below w3.heap.size w3 v)) (by kernel_rfl) (by first | exact (Below.refl _ _).drew | exact HU9.out | assumption) (fun hHeld => ?_)
          refine take_at (i := 0) 33 (v := ?_) rfl rfl (by kernel_rfl) (by kernel_rfl) (by kernel_rfl) (fun _ _ _ h => h) (by rfl) ?_ hHeld ?_
          rotate_left
          · (intro w hSw; (try dsimp only at hSw); go_simp; try with_reducible rfl)
          simp only [Act.put, List.setIfInBounds_toArray, List.set_cons_zero, List.set_cons_succ]
          refine take_at (i := 1) 34 (v := ?_) rfl rfl (by kernel_rfl) (by kernel_rfl) (by kernel_rfl) (fun _ _ _ h => h) (by rfl) ?_ hHeld ?_
          rotate_left
          · (intro w hSw; (try dsimp only at hSw); go_simp; try with_reducible rfl)
          simp only [Act.put, List.setIfInBounds_toArray, List.set_cons_zero, List.set_cons_succ]
          refine take_at (i := 2) 35 (v := ?_) rfl rfl (by kernel_rfl) (by kernel_rfl) (by kernel_rfl) (fun _ _ _ h => h) (by rfl) ?_ hHeld ?_
          rotate_left
          · (intro w hSw; (try dsimp only at hSw); go_simp; try with_reducible rfl)
          simp only [Act.put, List.setIfInBounds_toArray, List.set_cons_zero, List.set_cons_succ]
          refine take_at (i := 3) 36 (v := plV p x.A x.Z) rfl rfl (by kernel_rfl) (by kernel_rfl) (by kernel_rfl) (fun _ _ _ h => h) (by rfl) ?_ hHeld ?_
          · (intro w hSw; refine exec_load (by rfl) ?_; exact HPL.out _ (below_next HB3.out.1 hSw))
          simp only [Act.put, List.setIfInBounds_toArray, List.set_cons_zero, List.set_cons_succ]
          refine take_at (i := 4) 37 (v := ?_) rfl rfl (by kernel_rfl) (by kernel_rfl) (by kernel_rfl) (fun _ _ _ h => h) (by rfl) ?_ hHeld ?_
          rotate_left
          · (intro w hSw; (try dsimp only at hSw); go_simp; try with_reducible rfl)
          simp only [Act.put, List.setIfInBounds_toArray, List.set_cons_zero, List.set_cons_succ]
          refine take_at (i := 5) 38 (v := .int .u64 (s.n : Int)) rfl rfl (by kernel_rfl) (by kernel_rfl) (by kernel_rfl) (fun _ _ _ h => h) (by rfl) ?_ hHeld ?_
          · (intro w hSw; have hc9 := HX3.out _ hSw; go_simp; try with_reducible rfl)
          simp only [Act.put, List.setIfInBounds_toArray, List.set_cons_zero, List.set_cons_succ]
          refine take_at (i := 6) 39 (v := ?_) rfl rfl (by kernel_rfl) (by kernel_rfl) (by kernel_rfl) (fun _ _ _ h => h) (by rfl) ?_ hHeld ?_
          rotate_left
          · (intro w hSw; (try dsimp only at hSw); go_simp; try with_reducible rfl)
          simp only [Act.put, List.setIfInBounds_toArray, List.set_cons_zero, List.set_cons_succ]
          refine take_at (i := 7) 40 (v := ?_) rfl rfl (by kernel_rfl) (by kernel_rfl) (by kernel_rfl) (fun _ _ _ h => h) (by rfl) ?_ hHeld ?_
          rotate_left
          · (intro w hSw; (try dsimp only at hSw); go_simp; try with_reducible rfl)
          simp only [Act.put, List.setIfInBounds_toArray, List.set_cons_zero, List.set_cons_succ]
          refine take_at (i := 8) 41 (v := ?_) rfl rfl (by kernel_rfl) (by kernel_rfl) (by kernel_rfl) (fun _ _ _ h => h) (by rfl) ?_ hHeld ?_
          rotate_left
          · (intro w hSw; (try dsimp only at hSw); go_simp; try with_reducible rfl)
          simp only [Act.put, List.setIfInBounds_toArray, List.set_cons_zero, List.set_cons_succ]
          refine take_at (i := 9) 42 (v := ?_) rfl rfl (by kernel_rfl) (by kernel_rfl) (by kernel_rfl) (fun _ _ _ h => h) (by rfl) ?_ hHeld ?_
          rotate_left
          · (intro w hSw; (try dsimp only at hSw); go_simp; try with_reducible rfl)
          simp only [Act.put, List.setIfInBounds_toArray, List.set_cons_zero, List.set_cons_succ]
          refine take_at (i := 10) 43 (v := .int .u64 (x.h.e : Int)) rfl rfl (by kernel_rfl) (by kernel_rfl) (by kernel_rfl) (fun _ _ _ h => h) (by rfl) ?_ hHeld ?_
          · (intro w hSw; have hc9 := (HCE.out _ (below_next HB3.out.1 hSw)).1; go_simp; try with_reducible rfl)
          simp only [Act.put, List.setIfInBounds_toArray, List.set_cons_zero, List.set_cons_succ]
          refine run_at (i := 11) rfl (by kernel_rfl) (by rfl) (fun K hK => ?_)
          simp only [List.getElem_toArray, List.getElem_cons_zero, List.getElem_cons_succ]
          go_simp
          (go_at_call 46; refine Calls.mono (HRR.out _ s (below_next HB3.out.1 (by first | exact (Below.refl _ _).drew | assumption)) HSL.out) ?_; rintro e u9 hq; obtain ⟨v9, he9, hown9⟩ := hq.ok HE.out; obtain ⟨a9, c9, hv9, -, -, -, -, -⟩ := Own.val hown9; obtain ⟨X9, hX9⟩ : ∃ X9, X9 = (rcX d x.A x.Z s.n).length := ⟨_, rfl⟩; rw [← hX9] at hv9; subst hv9; subst he9; have HO9 : Hid (Own u9 w3.heap.size (.slice a9 X9 c9) (rcX d x.A x.Z s.n)) := Own.base hown9 (Nat.le_of_eq rfl); have HU9 : Hid (Below w3.heap.size w3 u9) := below_next (Below.refl _ _).drew hq.bel; clear hq hown9 hX9)
          go_wp2_with fail
          refine hK.out _ _ (by first | exact (Below.refl _ _).drew | exact HU9.out | assumption) ?_
          clear hK K
          intro hHeld2
          clear hHeld
          have hHeld := hHeld2
          clear hHeld2
          try simp only [Act.put, List.setIfInBounds_toArray, List.set_cons_zero, List.set_cons_succ]
          refine take_at (i := 12) 32 (v := ?_) rfl rfl (by kernel_rfl) (by kernel_rfl) (by kernel_rfl) (fun _ _ _ h => h) (by rfl) ?_ hHeld ?_
          rotate_left
          · (intro w hSw; (try dsimp only at hSw); go_simp; try with_reducible rfl)
          simp only [Act.put, List.setIfInBounds_toArray, List.set_cons_zero, List.set_cons_succ]
          refine take_at (i := 13) 45 (v := ?_) rfl rfl (by kernel_rfl) (by kernel_rfl) (by kernel_rfl) (fun _ _ _ h => h) (by rfl) ?_ hHeld ?_
          rotate_left
          · (intro w hSw; (try dsimp only at hSw); go_simp; try with_reducible rfl)
          simp only [Act.put, List.setIfInBounds_toArray, List.set_cons_zero, List.set_cons_succ]
          refine take_at (i := 14) 46 (v := ?_) rfl rfl (by kernel_rfl) (by kernel_rfl) (by kernel_rfl) (fun _ _ _ h => h) (by rfl) ?_ hHeld ?_
          rotate_left
          · (intro w hSw; (try dsimp only at hSw); go_simp; try with_reducible rfl)
          simp only [Act.put, List.setIfInBounds_toArray, List.set_cons_zero, List.set_cons_succ]
          refine take_at (i := 15) 10 (v := ?_) rfl rfl (by kernel_rfl) (by kernel_rfl) (by kernel_rfl) (fun _ _ _ h => h) (by rfl) ?_ hHeld ?_
          rotate_left
          · (intro w hSw; (try dsimp only at hSw); go_simp; try with_reducible rfl)
          simp only [Act.put, List.setIfInBounds_toArray, List.set_cons_zero, List.set_cons_succ]
          refine take_at (i := 16) 11 (v := ?_) rfl rfl (by kernel_rfl) (by kernel_rfl) (by kernel_rfl) (fun _ _ _ h => h) (by rfl) ?_ hHeld ?_
          rotate_left
          · (intro w hSw; (try dsimp only at hSw); go_simp; try with_reducible rfl)
          simp only [Act.put, List.setIfInBounds_toArray, List.set_cons_zero, List.set_cons_succ]
          refine wpAnyH_done (by kernel_rfl) ?_ _
          have hx9 := HX3.out u9 HU9.out
          have HWU : Hid (Below wr.heap.size wr u9) := below_next HB3.out.2 HU9.out
          have HNR : Hid (r = N.length) := by unfold Hid; rw [HNB.out.len, List.length_map, List.length_take, ← HML.out]; omega
          have HOW : Hid (∀ o, OwnG KN (u9.alloc o) w.heap.size u5 N) := fun o => HNB.out.row.below (below_next HWU.out (alS (Below.refl _ _) o))
          have HSZ : Hid (∀ o, w.heap.size ≤ (u9.alloc o).heap.size) := fun o => Nat.le_trans HBW.out.size (below_next HWU.out (alS (Below.refl _ _) o)).size
          have hr6 : r < 1000000 := by have := HM6.out; omega
          go_upto_region 11 with (at_builtin; refine wp_appG1 (K := KN) rfl _ _ rfl w.heap.size u5 N ⟨s.n, a9, X9, c9⟩ r HNR.out _ 1 rfl (HOW.out _) (by rfl) (rdG_lit (K := KN) (heap_alloc_new _ _) rfl) (by show (r + 1) * 32 ≤ _; omega) (by simp only [maxLen]; omega) (HSZ.out _) ?_; intro gq cq w9 hown9 hg9 hw9; have HP9 : Hid (OwnG KN w9 w.heap.size (.slice (some ⟨gq, 0, none⟩) (r + 1) cq) (N ++ [⟨s.n, a9, X9, c9⟩])) := hown9; have HG9 : Hid (World.grownBy _ w9 u5.ownBlock) := hg9; clear hown9 hg9 hw9)
          clear hx9 hr6
          go_wp2_with fail
          go_roundw
          case rel =>
            have h9 := HNB.out.push (y := ⟨s.n, a9, X9, c9⟩) (by decide) HBW.out.size HWU.out (Own.base HO9.out HB3.out.2.size) (alS (Below.refl _ _) _) HP9.out HG9.out
            refine ⟨r + 1, N ++ [⟨s.n, a9, X9, c9⟩], by omega, by go_num, HF9.out, ?_, ?_⟩
            · rw [HTK.out, List.map_append]; exact h9
            · exact (below_next HBW.out (below_next HWU.out (alS (Below.refl _ _) _))).grown HG9.out (HSZ.out _) (fun b e => (HNB.out.row.lt' e).1)
          case measure => simp [intOf]; omega
        · have HE : Hid _ := hE
          have HF9 : Hid (fromL d x.A x.Z x.h.e LL = (LL.take r).map (fun s => (s.n, rcX d x.A x.Z s.n))) := by
            unfold Hid
            rw [HEQ.out, HDR.out]
            show _ ++ (if rcE d x.A x.Z s.n x.h.e ≠ 0 then [] else _) = _
            rw [if_pos hE, List.append_nil]
          obtain ⟨E, hEe⟩ : ∃ E, E = rcE d x.A x.Z s.n x.h.e := ⟨_, rfl⟩
          have HEE : Hid (E = rcE d x.A x.Z s.n x.h.e) := hEe
          have hEb : (E != 0) = true := by rw [hEe]; simpa using hE
          clear hE hEe
          refine wp_region_held_drew (S := (fun v => Below w3.heap.size w3 v)) (by kernel_rfl) (by first | exact (Below.refl _ _).drew | exact HU9.out | assumption) (fun hHeld => ?_)
          refine take_at (i := 0) 33 (v := ?_) rfl rfl (by kernel_rfl) (by kernel_rfl) (by kernel_rfl) (fun _ _ _ h => h) (by rfl) ?_ hHeld ?_
          rotate_left
          · (intro w hSw; (try dsimp only at hSw); go_simp; try with_reducible rfl)
          simp only [Act.put, List.setIfInBounds_toArray, List.set_cons_zero, List.set_cons_succ]
          refine take_at (i := 1) 34 (v := ?_) rfl rfl (by kernel_rfl) (by kernel_rfl) (by kernel_rfl) (fun _ _ _ h => h) (by rfl) ?_ hHeld ?_
          rotate_left
          · (intro w hSw; (try dsimp only at hSw); go_simp; try with_reducible rfl)
          simp only [Act.put, List.setIfInBounds_toArray, List.set_cons_zero, List.set_cons_succ]
          refine take_at (i := 2) 35 (v := ?_) rfl rfl (by kernel_rfl) (by kernel_rfl) (by kernel_rfl) (fun _ _ _ h => h) (by rfl) ?_ hHeld ?_
          rotate_left
          · (intro w hSw; (try dsimp only at hSw); go_simp; try with_reducible rfl)
          simp only [Act.put, List.setIfInBounds_toArray, List.set_cons_zero, List.set_cons_succ]
          refine take_at (i := 3) 36 (v := plV p x.A x.Z) rfl rfl (by kernel_rfl) (by kernel_rfl) (by kernel_rfl) (fun _ _ _ h => h) (by rfl) ?_ hHeld ?_
          · (intro w hSw; refine exec_load (by rfl) ?_; exact HPL.out _ (below_next HB3.out.1 hSw))
          simp only [Act.put, List.setIfInBounds_toArray, List.set_cons_zero, List.set_cons_succ]
          refine take_at (i := 4) 37 (v := ?_) rfl rfl (by kernel_rfl) (by kernel_rfl) (by kernel_rfl) (fun _ _ _ h => h) (by rfl) ?_ hHeld ?_
          rotate_left
          · (intro w hSw; (try dsimp only at hSw); go_simp; try with_reducible rfl)
          simp only [Act.put, List.setIfInBounds_toArray, List.set_cons_zero, List.set_cons_succ]
          refine take_at (i := 5) 38 (v := .int .u64 (s.n : Int)) rfl rfl (by kernel_rfl) (by kernel_rfl) (by kernel_rfl) (fun _ _ _ h => h) (by rfl) ?_ hHeld ?_
          · (intro w hSw; have hc9 := HX3.out _ hSw; go_simp; try with_reducible rfl)
          simp only [Act.put, List.setIfInBounds_toArray, List.set_cons_zero, List.set_cons_succ]
          refine take_at (i := 6) 39 (v := ?_) rfl rfl (by kernel_rfl) (by kernel_rfl) (by kernel_rfl) (fun _ _ _ h => h) (by rfl) ?_ hHeld ?_
          rotate_left
          · (intro w hSw; (try dsimp only at hSw); go_simp; try with_reducible rfl)
          simp only [Act.put, List.setIfInBounds_toArray, List.set_cons_zero, List.set_cons_succ]
          refine take_at (i := 7) 40 (v := ?_) rfl rfl (by kernel_rfl) (by kernel_rfl) (by kernel_rfl) (fun _ _ _ h => h) (by rfl) ?_ hHeld ?_
          rotate_left
          · (intro w hSw; (try dsimp only at hSw); go_simp; try with_reducible rfl)
          simp only [Act.put, List.setIfInBounds_toArray, List.set_cons_zero, List.set_cons_succ]
          refine take_at (i := 8) 41 (v := ?_) rfl rfl (by kernel_rfl) (by kernel_rfl) (by kernel_rfl) (fun _ _ _ h => h) (by rfl) ?_ hHeld ?_
          rotate_left
          · (intro w hSw; (try dsimp only at hSw); go_simp; try with_reducible rfl)
          simp only [Act.put, List.setIfInBounds_toArray, List.set_cons_zero, List.set_cons_succ]
          refine take_at (i := 9) 42 (v := ?_) rfl rfl (by kernel_rfl) (by kernel_rfl) (by kernel_rfl) (fun _ _ _ h => h) (by rfl) ?_ hHeld ?_
          rotate_left
          · (intro w hSw; (try dsimp only at hSw); go_simp; try with_reducible rfl)
          simp only [Act.put, List.setIfInBounds_toArray, List.set_cons_zero, List.set_cons_succ]
          refine take_at (i := 10) 43 (v := .int .u64 (x.h.e : Int)) rfl rfl (by kernel_rfl) (by kernel_rfl) (by kernel_rfl) (fun _ _ _ h => h) (by rfl) ?_ hHeld ?_
          · (intro w hSw; have hc9 := (HCE.out _ (below_next HB3.out.1 hSw)).1; go_simp; try with_reducible rfl)
          simp only [Act.put, List.setIfInBounds_toArray, List.set_cons_zero, List.set_cons_succ]
          refine run_at (i := 11) rfl (by kernel_rfl) (by rfl) (fun K hK => ?_)
          simp only [List.getElem_toArray, List.getElem_cons_zero, List.getElem_cons_succ]
          go_simp
          (go_at_call 46; refine Calls.mono (HRR.out _ s (below_next HB3.out.1 (by first | exact (Below.refl _ _).drew | assumption)) HSL.out) ?_; rintro e u9 hq; have he9 := hq.no HE.out; subst he9; have HU9 : Hid (Below w3.heap.size w3 u9) := below_next (Below.refl _ _).drew hq.bel; clear hq)
          go_wp2_with fail
          refine hK.out _ _ (by first | exact (Below.refl _ _).drew | exact HU9.out | assumption) ?_
          clear hK K
          intro hHeld2
          clear hHeld
          have hHeld := hHeld2
          clear hHeld2
          try simp only [Act.put, List.setIfInBounds_toArray, List.set_cons_zero, List.set_cons_succ]
          refine take_at (i := 12) 32 (v := ?_) rfl rfl (by kernel_rfl) (by kernel_rfl) (by kernel_rfl) (fun _ _ _ h => h) (by rfl) ?_ hHeld ?_
          rotate_left
          · (intro w hSw; (try dsimp only at hSw); go_simp; try with_reducible rfl)
          simp only [Act.put, List.setIfInBounds_toArray, List.set_cons_zero, List.set_cons_succ]
          refine take_at (i := 13) 45 (v := ?_) rfl rfl (by kernel_rfl) (by kernel_rfl) (by kernel_rfl) (fun _ _ _ h => h) (by rfl) ?_ hHeld ?_
          rotate_left
          · (intro w hSw; (try dsimp only at hSw); go_simp; try with_reducible rfl)
          simp only [Act.put, List.setIfInBounds_toArray, List.set_cons_zero, List.set_cons_succ]
          refine take_at (i := 14) 46 (v := ?_) rfl rfl (by kernel_rfl) (by kernel_rfl) (by kernel_rfl) (fun _ _ _ h => h) (by rfl) ?_ hHeld ?_
          rotate_left
          · (intro w hSw; (try dsimp only at hSw); go_simp; try with_reducible rfl)
          simp only [Act.put, List.setIfInBounds_toArray, List.set_cons_zero, List.set_cons_succ]
          refine take_at (i := 15) 10 (v := ?_) rfl rfl (by kernel_rfl) (by kernel_rfl) (by kernel_rfl) (fun _ _ _ h => h) (by rfl) ?_ hHeld ?_
          rotate_left
          · (intro w hSw; (try dsimp only at hSw); go_simp; try with_reducible rfl)
          simp only [Act.put, List.setIfInBounds_toArray, List.set_cons_zero, List.set_cons_succ]
          refine take_at (i := 16) 11 (v := ?_) rfl rfl (by kernel_rfl) (by kernel_rfl) (by kernel_rfl) (fun _ _ _ h => h) (by rfl) ?_ hHeld ?_
          rotate_left
          · (intro w hSw; (try dsimp only at hSw); go_simp; try with_reducible rfl)
          simp only [Act.put, List.setIfInBounds_toArray, List.set_cons_zero, List.set_cons_succ]
          refine wpAnyH_done (by kernel_rfl) ?_ _
          rw [← HEE.out]
          go_wp2_with fail
          go_ret
          rw [HF9.out]
          exact ⟨⟨_, N, rfl, HNB.out.below (below_next HB3.out.2 HU9.out)⟩, below_next HB3.out.1 HU9.out⟩
      · obtain rfl : r = m := by omega
        have hltI : ¬ (r : Int) < (r : Int) := by omega
        go_wp2_with fail
        go_ret
        have h9 := HEQ.out
        rw [List.drop_eq_nil_of_le (by rw [← HRM.out.1]; exact Nat.le_refl _)] at h9
        rw [show fromL d x.A x.Z x.h.e [] = [] from rfl, List.append_nil] at h9
        rw [h9]
        exact ⟨⟨_, N, rfl, HNB.out⟩, HBW.out⟩
end Go.Proofs.YtibepnilhmbpeaaDoor
namespace Go.Proofs.YtibepnilhmbpeaaDoor
set_option linter.unusedVariables false
set_option linter.unusedSimpArgs false
open Go.RowKit
/-! a log that lives, on a disk with power: pure -/
/-- the records lie one behind the other -/
def Chn : Nat → List Itm → Nat → Prop
  | f, [], n => f = n
  | f, t :: r, n => t.n = f ∧ Chn (f + t.need) r n
theorem Chn.le : ∀ {T : List Itm} {f n : Nat}, Chn f T n → f ≤ n ∧ ∀ t ∈ T, f ≤ t.n ∧ t.n + t.need ≤ n
  | [], f, n, h => ⟨Nat.le_of_eq h, fun t ht => by cases ht⟩
  | t :: r, f, n, h => by
    obtain ⟨h1, h2⟩ := h
    have ih := Chn.le h2
    refine ⟨by omega, fun u hu => ?_⟩
    rcases List.mem_cons.1 hu with rfl | hu
    · omega
    · have := ih.2 u hu; omega
theorem Chn.snoc : ∀ {T : List Itm} {f n : Nat} {t : Itm}, Chn f T n → t.n = n → Chn f (T ++ [t]) (n + t.need)
  | [], f, n, t, h, e => ⟨by rw [e]; exact h.symm, by have h : f = n := h; rw [h]; rfl⟩
  | u :: r, f, n, t, h, e => ⟨h.1, Chn.snoc h.2 e⟩
/-- the number at which record k begins, or the end -/
def numAt (T : List Itm) (n k : Nat) : Nat := match T[k]? with
  | some t => t.n
  | none => n
theorem Chn.drop : ∀ {T : List Itm} {f n : Nat} (k : Nat), Chn f T n → Chn (numAt T n k) (T.drop k) n
  | [], f, n, k, h => by
    have : numAt [] n k = n := by simp [numAt]
    rw [this, List.drop_nil]; rfl
  | t :: r, f, n, 0, h => ⟨rfl, by have h2 := h.2; rw [← h.1] at h2; exact h2⟩
  | t :: r, f, n, k + 1, h => by
    have := Chn.drop k h.2
    have e : numAt (t :: r) n (k + 1) = numAt r n k := by simp [numAt]
    rw [e]; exact this
theorem Chn.take : ∀ {T : List Itm} {f n : Nat} (k : Nat), Chn f T n → ∀ t ∈ T.take k, t.n + t.need ≤ numAt T n k
  | [], f, n, k, h => by simp
  | t :: r, f, n, 0, h => by simp
  | t :: r, f, n, k + 1, h => by
    have e : numAt (t :: r) n (k + 1) = numAt r n k := by simp [numAt]
    rw [e, List.take_succ_cons]
    intro u hu
    rcases List.mem_cons.1 hu with rfl | hu
    · have h1 := h.1
      have h2 := (Chn.drop k h.2).le.1
      have h3 := Chn.le h.2
      cases hk : r[k]? with
      | none => have e9 : numAt r n k = n := by simp [numAt, hk]
                rw [e9]; omega
      | some v => have e9 : numAt r n k = v.n := by simp [numAt, hk]
                  rw [e9]
                  have := (h3.2 v (List.mem_of_getElem? hk)).1
                  omega
    · exact Chn.take k h.2 u hu
theorem Chn.ris : ∀ {T : List Itm} {f n : Nat}, Chn f T n → (∀ t ∈ T, t.ok) → T.Pairwise (fun x y => x.n < y.n)
  | [], _, _, _, _ => List.Pairwise.nil
  | t :: r, f, n, h, ok => by
    refine List.pairwise_cons.2 ⟨fun u hu => ?_, Chn.ris h.2 (fun u hu => ok u (List.mem_cons_of_mem _ hu))⟩
    have h1 := (Chn.le h.2).2 u hu
    have h2 := (needS_pos (ok t (List.mem_cons_self ..)).len).1
    have h3 := h.1
    have h4 : t.need = needS t.b.length := rfl
    omega
/-- a log that lives -/
structure Liv (d : Dst) (x : Lg) (T : List Itm) : Prop where
  pw : Pow d
  fl : x.fl = false
  L : x.L = T.map (fun t => (⟨t.n, t.e⟩ : Sta))
  ch : Chn x.h.f T x.nx
  fit : x.nx ≤ x.h.f + (x.Z - 2)
  ok : ∀ t ∈ T, t.ok ∧ t.e ≤ x.h.e
  rcs : ∀ t ∈ T, RecAt d x.A x.Z t
  Z : 3 ≤ x.Z
  AZ : x.A + x.Z ≤ d.S.length
  N : d.S.length ≤ 65536
  ep : x.h.e < 281474976710656
section
variable {d d' : Dst} {x : Lg} {T : List Itm}
theorem Liv.lenL (h : Liv d x T) : x.L.length = T.length := by rw [h.L, List.length_map]
theorem Liv.size (h : Liv d x T) : x.h.f + T.length ≤ x.nx := by
  have : ∀ (T : List Itm) (f n : Nat), Chn f T n → (∀ t ∈ T, t.ok) → f + T.length ≤ n := fun T => by
    induction T with
    | nil => intro f n h _; have h : f = n := h; simp; omega
    | cons t r ih =>
      intro f n h ok
      have h1 := ih _ _ h.2 (fun u hu => ok u (List.mem_cons_of_mem _ hu))
      have h2 := (needS_pos (ok t (List.mem_cons_self ..)).len).1
      have h4 : t.need = needS t.b.length := rfl
      rw [List.length_cons]
      omega
  exact this T _ _ h.ch (fun t ht => (h.ok t ht).1)
/-- what is read of it -/
theorem Liv.from_ (h : Liv d x T) (k : Nat) : fromL d x.A x.Z x.h.e (x.L.drop k) = (T.drop k).map (fun t => (t.n, t.b)) := by
  rw [h.L, ← List.map_drop]
  have h1 : ∀ t ∈ T.drop k, t ∈ T := fun t ht => List.mem_of_mem_drop ht
  generalize T.drop k = U at h1
  induction U with
  | nil => rfl
  | cons t r ih =>
    have ht := h1 t (List.mem_cons_self ..)
    obtain ⟨e1, e2⟩ := (h.rcs t ht).read (h.ok t ht).1 x.h.e (h.ok t ht).2
    show (if rcE d x.A x.Z t.n x.h.e ≠ 0 then [] else (t.n, rcX d x.A x.Z t.n) :: fromL d x.A x.Z x.h.e (r.map _)) = _
    rw [if_neg (fun h9 => h9 e1), e2, ih (fun u hu => h1 u (List.mem_cons_of_mem _ hu))]
    rfl
/-- a record more -/
theorem Liv.app (h : Liv d x T) {rec : List UInt8} (hl : rec.length ≤ 8192) (hf : needS rec.length ≤ x.free) (hn : x.nx + 79 < 281474976710656) :
    Ran d (recO x.A x.Z x.nx x.h.e rec (needS rec.length)) ∧ Liv (runO d (recO x.A x.Z x.nx x.h.e rec (needS rec.length))).1 (x.app rec) (T ++ [⟨x.nx, x.h.e, rec⟩]) := by
  have hr := Pow.run (recO x.A x.Z x.nx x.h.e rec (needS rec.length)) d h.pw
  have hfr : x.free = x.h.f + (x.Z - 2) - x.nx := rfl
  have hch := h.ch.le
  have hfit := h.fit
  have hnp := needS_pos hl
  have hAZ := h.AZ
  refine ⟨hr, ⟨hr.pow, h.fl, ?_, h.ch.snoc rfl, ?_, ?_, ?_, h.Z, ?_, ?_, h.ep⟩⟩
  · show x.L ++ [_] = _
    rw [List.map_append, h.L]; rfl
  · show x.nx + needS rec.length ≤ x.h.f + (x.Z - 2)
    omega
  · intro t ht
    rcases List.mem_append.1 ht with ht | ht
    · exact h.ok t ht
    · obtain rfl := List.mem_singleton.1 ht
      exact ⟨⟨hl, hn, h.ep⟩, Nat.le_refl _⟩
  · intro t ht
    rcases List.mem_append.1 ht with ht | ht
    · refine (h.rcs t ht).of_eq (fun i hi => ?_)
      have h2 := hch.2 t ht
      have hsl := (secN_lt (A := x.A) (Z := x.Z) (n := t.n + i) h.Z).2
      show rdD _ _ = _
      rw [hr.rd _ (by show secN x.A x.Z (t.n + i) < _; omega)]
      refine recO_out _ (fun j hj e => ?_)
      exact secN_ne (A := x.A) (Z := x.Z) (n := t.n + i) (m := x.nx + j) (by omega) (by omega) e.symm
    · obtain rfl := List.mem_singleton.1 ht
      intro i hi
      have hi : i < needS rec.length := hi
      have hsl := (secN_lt (A := x.A) (Z := x.Z) (n := x.nx + i) h.Z).2
      show rdD _ (secN x.A x.Z (x.nx + i)) = _
      rw [hr.rd _ (by omega)]
      exact recO_in _ (by omega) hi
  · show x.A + x.Z ≤ (runO d _).1.S.length
    rw [runO_len]; exact h.AZ
  · rw [runO_len]; exact h.N
/-- nothing of the ring was changed -/
theorem Liv.same (h : Liv d x T) (hp : Pow d') (hl : d'.S.length = d.S.length) (hr : ∀ j, x.A + 2 ≤ j → j < x.A + x.Z → rdD d' j = rdD d j) : Liv d' x T :=
  ⟨hp, h.fl, h.L, h.ch, h.fit, h.ok, fun t ht => (h.rcs t ht).of_eq (fun i hi => hr _ (secN_lt h.Z).1 (secN_lt h.Z).2), h.Z, by rw [hl]; exact h.AZ, by rw [hl]; exact h.N, h.ep⟩
theorem Liv.flush (h : Liv d x T) : Liv d.flush x T := h.same h.pw.flush (Dst.flush_len d) (fun j h1 h2 => rdD_flush h.pw.can j (by have := h.AZ; omega))
/-- the number of record k, or the end: that is where a Trim may go -/
theorem Liv.cnt (h : Liv d x T) (k : Nat) (hk : k ≤ T.length) : cntB x.L (numAt T x.nx k) = k := by
  rw [h.L]
  have hr := h.ch.ris (fun t ht => (h.ok t ht).1)
  unfold cntB
  have h1 : ∀ t ∈ T.take k, t.n < numAt T x.nx k := fun t ht => by
    have h2 := h.ch.take k t ht
    have h3 := (needS_pos (h.ok t (List.mem_of_mem_take ht)).1.len).1
    have h4 : t.need = needS t.b.length := rfl
    omega
  have h2 : ∀ t ∈ T.drop k, ¬ t.n < numAt T x.nx k := fun t ht => by
    have h3 := (h.ch.drop k).le.2 t ht
    omega
  have e : T = T.take k ++ T.drop k := (List.take_append_drop k T).symm
  have hl : (T.take k).length = k := by rw [List.length_take]; omega
  generalize numAt T x.nx k = v at *
  generalize T.take k = P at *
  generalize T.drop k = Q at *
  subst e
  rw [List.map_append]
  have hP : ∀ s ∈ P.map (fun t => (⟨t.n, t.e⟩ : Sta)), (fun s : Sta => decide (s.n < v)) s = true := fun s hs => by
    obtain ⟨t, ht, rfl⟩ := List.mem_map.1 hs
    simpa using h1 t ht
  rw [List.takeWhile_append_of_pos hP]
  have hQ : (Q.map (fun t => (⟨t.n, t.e⟩ : Sta))).takeWhile (fun s => decide (s.n < v)) = [] := by
    cases Q with
    | nil => rfl
    | cons t r => rw [List.map_cons, List.takeWhile_cons_of_neg (by have := h2 t (List.mem_cons_self ..); simpa using this)]
  rw [hQ, List.append_nil, List.length_map]
  exact hl
/-- records are given up -/
theorem Liv.trim (h : Liv d x T) (k : Nat) (hk : k ≤ T.length) (hg : x.h.g + 1 < 281474976710656) (hn : x.nx < 281474976710656) :
    Ran d (hdO x.A x.Z (x.newH x.h.e (numAt T x.nx k))) ∧ Liv (runO d (hdO x.A x.Z (x.newH x.h.e (numAt T x.nx k)))).1 (x.begun x.h.e (numAt T x.nx k)) (T.drop k) := by
  have hr := Pow.run (hdO x.A x.Z (x.newH x.h.e (numAt T x.nx k))) d h.pw
  have hd := h.ch.drop k
  have hAZ := h.AZ
  have hZ := h.Z
  have hge : x.h.f ≤ numAt T x.nx k := by
    unfold numAt
    cases hk9 : T[k]? with
    | none => exact h.ch.le.1
    | some t => exact (h.ch.le.2 t (List.mem_of_getElem? hk9)).1
  refine ⟨hr, ⟨hr.pow, h.fl, ?_, hd, ?_, fun t ht => h.ok t (List.mem_of_mem_drop ht), fun t ht => ?_, h.Z, ?_, ?_, h.ep⟩⟩
  · show x.L.drop (cntB x.L _) = _
    rw [h.cnt k hk, h.L, List.map_drop]
  · have := h.fit
    show x.nx ≤ numAt T x.nx k + (x.Z - 2)
    omega
  · refine (h.rcs t (List.mem_of_mem_drop ht)).of_eq (fun i hi => ?_)
    have hsl := secN_lt (A := x.A) (Z := x.Z) (n := t.n + i) h.Z
    show rdD _ (secN x.A x.Z (t.n + i)) = _
    rw [hr.rd _ (by omega)]
    show (if (false = false ∧ x.A + (x.newH x.h.e (numAt T x.nx k)).g % 2 = secN x.A x.Z (t.n + i)) then _ else _) = _
    rw [if_neg (fun h9 => by have := h9.2; omega)]
  · show x.A + x.Z ≤ (runO d _).1.S.length
    rw [runO_len]; exact h.AZ
  · rw [runO_len]; exact h.N
end
end Go.Proofs.YtibepnilhmbpeaaDoor
