import Derived.Test.YtibolgpaolnheacNA
import Derived.Test.YtibolgpaolnheacNS
import Derived.Test.YtibolgpaolnheacOpenL
namespace Go.Proofs.Ytibolgpaolnheac
set_option linter.unusedVariables false
set_option linter.unusedSimpArgs false
open Go.RowKit Go.Shelf
variable {w w' : World} {g r S : Nat} {P P2 : List (List Ent)} {v v2 va : Value} {vs vs2 : List Value}
theorem IdxAt.tyF (h : IdxAt w g S P v vs) (b : Nat) (hb : foot g v b) : ∃ cur t, w.heap[b]? = some (.cells cur t (0, 0)) ∧ (t = tIx ∨ t = tPg) := by
  rcases hb with rfl | hb
  · exact ⟨_, _, h.hd, .inl rfl⟩
  · obtain ⟨cur, hc⟩ := h.rowBlk b hb; exact ⟨_, _, hc, .inr rfl⟩
/-- blocks of other types -/
theorem ty_ne {b : Nat} {c1 c2 : Array Value} {t1 t2 : TypeId} {f1 f2 : Nat × Nat} (h1 : w.heap[b]? = some (.cells c1 t1 f1)) (h2 : w.heap[b]? = some (.cells c2 t2 f2)) : t1 = t2 := by
  rw [h1] at h2
  injection h2 with h2
  injection h2
theorem foot_apart {S2 : Nat} (hi : IdxAt w g S P v vs) (hr : RefI w r S2 P2 v2 vs2) (b : Nat) (h1 : foot g v b) (h2 : footR r v2 vs2 b) : False := by
  obtain ⟨c1, t1, e1, ht1⟩ := hi.tyF b h1
  obtain ⟨c2, t2, e2, ht2⟩ := hr.ty b h2
  have e := ty_ne e1 e2
  subst e
  rcases ht1 with rfl | rfl <;> rcases ht2 with h9 | h9 | h9 <;> exact absurd h9 (by decide)
theorem RefI.chgI {S2 : Nat} (hr : RefI w r S2 P2 v2 vs2) (hi : IdxAt w g S P v vs) (hc : Chg (foot g v) w w') : RefI w' r S2 P2 v2 vs2 :=
  hr.kept (fun b hb => hc.block b (hr.lt b hb) (fun h9 => foot_apart hi hr b h9 hb))
theorem IdxAt.chgR {S2 : Nat} (hi : IdxAt w g S P v vs) (hr : RefI w r S2 P2 v2 vs2) (hc : Chg (footR r v2 vs2) w w') : IdxAt w' g S P v vs :=
  hi.kept hc (fun b h1 h2 => foot_apart hi hr b h1 h2) (fun b h2 => by
    obtain ⟨c2, t2, e2, ht2⟩ := hr.ty b h2
    exact ⟨_, _, _, e2, by rcases ht2 with h9 | h9 | h9 <;> rw [h9] <;> decide⟩)
theorem OwnU.chgR {S2 B : Nat} {xs : List Nat} (hu : OwnU w B va xs) (hr : RefI w r S2 P2 v2 vs2) (hc : Chg (footR r v2 vs2) w w') : OwnU w' B va xs :=
  row_kept hu (fun b hb => hc.block b (World.ownsRow.lt hu b hb).2 (fun h2 => by
    obtain ⟨c1, e1⟩ := rowX_blk hu b hb
    obtain ⟨c2, t2, e2, ht2⟩ := hr.ty b h2
    have e := ty_ne e1 e2
    rcases ht2 with h9 | h9 | h9 <;> (rw [h9] at e; exact absurd e (by decide))))
theorem next_turn {kd : Int} {s : St} {n p i : Nat} {ok : Bool} (h : PlaceIs P s p i ok) (ht : Tid S P) (hS : 1 ≤ S) : TurnIs S kd ⟨s, n⟩ P (nextP S P kd s n p i ok) := by
  unfold nextP
  by_cases h1 : kd = 1
  · subst h1; rw [if_pos rfl]; exact TurnIs.put (e := ⟨s, n⟩) h ht hS
  · rw [if_neg h1]
    by_cases h2 : kd = 2
    · subst h2; rw [if_pos rfl]; exact TurnIs.rem (e := ⟨s, n⟩) h ht
    · rw [if_neg h2]; exact TurnIs.none ht h1 h2
theorem firstN_len (L : List Ent) : (firstN L).length ≤ 4 := by
  unfold firstN
  split <;> simp
theorem ansL_len (kd : Int) (s : St) (n p i : Nat) (ok : Bool) : (ansL P kd s n p i ok).length ≤ P.length + 300 := by
  have h1 := firstN_len (upL P s)
  have h2 := firstN_len (downL P s)
  have h3 := nmE_len ((upL P s).take (n % 64))
  have h4 := nmE_len ((downL P s).take (n % 64))
  rw [List.length_take] at h3 h4
  have h5 : n % 64 < 64 := Nat.mod_lt _ (by decide)
  unfold ansL
  repeat' split
  all_goals first | omega | (simp; done) | (simp; omega)
abbrev tSc : TypeId := 24
section
set_option maxRecDepth 20000
set_option maxHeartbeats 6400000
theorem lawUpTo_t (z lo hi : Int) (a : Option Addr) (cap : Nat) (xs : List Stp) (W : World) (hr : RdO W a xs) (hl : xs.length ≤ cap) (hn : a = none → cap = 0) (hc : xs.length ≤ 4398046511103) :
    Calls Try.prog 5 #[.agg #[.int .i64 z, .slice a xs.length cap], .int .i64 lo, .int .i64 hi] W fun e W' => e = .returned (.bool true) ∧ Below W.heap.size W W' := by
  obtain ⟨N, hN⟩ : ∃ N, N = xs.length := ⟨_, rfl⟩
  rw [← hN] at hl hc ⊢
  have HR : Hid (RdO W a xs) := hr
  have HN : Hid (N = xs.length) := hN
  obtain ⟨G, hG⟩ : ∃ G, G = W.heap.size := ⟨_, rfl⟩
  obtain ⟨w1, hw1⟩ : ∃ X : World, X = W.alloc (.cells #[.int .i64 z, .slice a N cap] tSc) := ⟨_, rfl⟩
  have HB1 : Hid (Below W.heap.size W w1) := (show Below _ _ _ by rw [hw1]; exact al (Below.refl _ _) _)
  have HX1 : Hid (w1.heap[G]? = some (.cells #[.int .i64 z, .slice a N cap] tSc (0, 0))) := (show _ = _ by rw [hw1, hG]; exact heap_alloc_new W _)
  have HCL : Hid (∀ u, Below w1.heap.size w1 u → u.cell? ⟨G, 1, none⟩ = some (.slice a N cap)) := (fun u hu => by
    have h9 := (hu.block G (Array.getElem?_eq_some_iff.1 HX1.out).1).trans HX1.out
    rw [cell_of_row _ _ _ _ _ _ h9]; rfl)
  clear hr hN
  go_enter Try.func5, Try.ntmps5
  go_wp2_with fail
  rw [← hw1]
  simp only [← hG]
  clear hw1 hG
  by_cases hz : 4 ≤ z ∧ z ≤ 64
  · obtain ⟨S, hSz⟩ : ∃ S : Nat, z = (S : Int) := ⟨z.toNat, by omega⟩
    subst hSz
    have hS4 : 4 ≤ S ∧ S ≤ 64 := by omega
    clear hz
    refine Calls.mono (begin_t S hS4 w1) ?_
    rintro e w2 ⟨g, r, rfl, hi2, hr2, hg2, hrr2, hb2⟩
    have HI2 : Hid _ := hi2
    have HR2 : Hid _ := hr2
    have HB2 : Hid (Below w1.heap.size w1 w2) := hb2
    have HGG : Hid (w1.heap.size ≤ g ∧ w1.heap.size ≤ r) := ⟨hg2, hrr2⟩
    clear hi2 hr2 hb2 hg2 hrr2
    go_wp2_with fail
    go_loopw [10] (fun i wr => ∃ (k : Nat) (P : List (List Ent)) (v : Value) (vs : List Value) (v2 : Value) (vs2 : List Value), k ≤ N ∧ i = .int .i64 (k : Int) ∧ IdxAt wr g S P v vs ∧ RefI wr r S P v2 vs2 ∧ Tid S P ∧ P.flatten.length ≤ k ∧ (∀ b, foot g v b → w1.heap.size ≤ b) ∧ (∀ b, footR r v2 vs2 b → w1.heap.size ≤ b) ∧ Below w1.heap.size w1 wr) (fun i _ => N - (intOf i).toNat)
    case atStart =>
      refine ⟨0, [], _, _, _, _, Nat.zero_le _, rfl, HI2.out, HR2.out, ⟨⟨(fun q hq => (by cases hq)), List.Pairwise.nil⟩, (fun q hq => (by cases hq))⟩, Nat.le_refl _, ?_, ?_, HB2.out⟩
      · rintro b (rfl | hb)
        · exact HGG.out.1
        · cases hb
      · rintro b (rfl | hb | ⟨x, hx, hb⟩)
        · exact HGG.out.2
        · cases hb
        · cases hx
    case round =>
      obtain ⟨k, P, v, vs, v2, vs2, hk, rfl, hi, hrf, htd, hfl, hfa, hfb, hbel⟩ := hrel
      have HI : Hid (IdxAt wr g S P v vs) := hi
      have HRF : Hid (RefI wr r S P v2 vs2) := hrf
      have HT : Hid (Tid S P) := htd
      have HFL : Hid (P.flatten.length ≤ k) := hfl
      have HFA : Hid (∀ b, foot g v b → w1.heap.size ≤ b) := hfa
      have HFB : Hid (∀ b, footR r v2 vs2 b → w1.heap.size ≤ b) := hfb
      have HBEL : Hid (Below w1.heap.size w1 wr) := hbel
      have hcl := HCL.out wr hbel
      clear hi hrf htd hfl hfa hfb hbel
      by_cases hlt : k < N
      · have hkx : k < xs.length := by have := HN.out; omega
        obtain ⟨b, o, rfl, hr⟩ := HR.out k hkx
        obtain ⟨kd, t1, t2, tn, hx⟩ : ∃ kd t1 t2 tn, xs[k] = (kd, ⟨(t1, t2), tn⟩) := ⟨_, _, _, _, rfl⟩
        rw [hx] at hr
        have HRX : Hid (wr.rangeAt b (o + k * 4) (opv (kd, ⟨(t1, t2), tn⟩))) := rangeAt_below hr (below_next HB1.out HBEL.out)
        have hki : (k : Int) < (N : Int) := by omega
        have hk0 : (0 : Int) ≤ (k : Int) := by omega
        obtain ⟨w3, hw3⟩ : ∃ X : World, X = wr.alloc (.cells #[.int .i64 kd, .int .u64 (t1 : Int), .int .u64 (t2 : Int), .int .u64 (tn : Int)] tOp) := ⟨_, rfl⟩
        obtain ⟨E, hE⟩ : ∃ E, E = wr.heap.size := ⟨_, rfl⟩
        have HB3 : Hid (Below wr.heap.size wr w3) := (show Below _ _ _ by rw [hw3]; exact al (Below.refl _ _) _)
        have HE3 : Hid (w3.heap[E]? = some (.cells #[.int .i64 kd, .int .u64 (t1 : Int), .int .u64 (t2 : Int), .int .u64 (tn : Int)] tOp (0, 0))) := (show _ = _ by rw [hw3, hE]; exact heap_alloc_new wr _)
        have HIE : Hid (¬ foot g v E) := (fun h9 => by have := HI.out.lt E h9; omega)
        have HIR : Hid (¬ footR r v2 vs2 E) := (fun h9 => by have := HRF.out.lt E h9; omega)
        clear hr hx
        go_upto_region 8 with (first | (refine wpList_load_mid rfl tOp _ rfl b (o + k * 4) rfl (opv (kd, ⟨(t1, t2), tn⟩)) _ HRX.out Try.underlying38 rfl info_op4 ?_))
        rw [← hw3]
        simp only [← hE]
        clear hw3 hE
        have HLE3 : Hid (w3.rangeAt E 0 [.int .i64 kd, .int .u64 (t1 : Int), .int .u64 (t2 : Int), .int .u64 (tn : Int)]) := box_range HE3.out
        have HI3 : Hid (IdxAt w3 g S P v vs) := HI.out.below HB3.out
        have HRF3 : Hid (RefI w3 r S P v2 vs2) := HRF.out.below HB3.out
        have hPf : P.flatten.length ≤ 4398046511104 := by have := HFL.out; omega
        have hPl : P.length ≤ 4398046511104 := Nat.le_trans (flat_ge HT.out.1.1) hPf
        have HB13 : Hid (Below w1.heap.size w1 w3) := below_next HBEL.out HB3.out
        go_wp2_with (first | (refine wpList_load_mid rfl tOp _ rfl E 0 rfl [.int .i64 kd, .int .u64 (t1 : Int), .int .u64 (t2 : Int), .int .u64 (tn : Int)] _ HLE3.out Try.underlying38 rfl info_op4 ?_))
        refine Calls.mono (ask_t HI3.out HT.out hS4 hPl kd t1 t2 tn) ?_
        rintro e w4 ⟨p, i, ok, v4, vs4, va, hpi, rfl, hua, hi4, hli, hch⟩
        have HPI : Hid (PlaceIs P (t1, t2) p i ok) := hpi
        have HI4 : Hid (IdxAt w4 g S (nextP S P kd (t1, t2) tn p i ok) v4 vs4) := hi4
        have HUA : Hid (OwnU w4 w3.heap.size va (ansL P kd (t1, t2) tn p i ok)) := hua
        have HRF4 : Hid (RefI w4 r S P v2 vs2) := HRF3.out.chgI HI3.out hch
        have HE4 : Hid (w4.heap[E]? = some (.cells #[.int .i64 kd, .int .u64 (t1 : Int), .int .u64 (t2 : Int), .int .u64 (tn : Int)] tOp (0, 0))) := hch.old HE3.out HIE.out
        have HFA4 : Hid (∀ b, foot g v4 b → w1.heap.size ≤ b) := (fun b hb => by
          rcases hb with rfl | hb
          · exact HGG.out.1
          · rcases hli with h9 | ⟨b', h8, h9⟩
            · exact HFA.out b (.inr (by rw [← h9]; exact hb))
            · rw [hb] at h8; cases h8; exact Nat.le_trans HB13.out.size h9)
        have HB14 : Hid (Below w1.heap.size w1 w4) := HB13.out.trans (hch.below HFA.out HB13.out.size)
        have HLE4 : Hid (w4.rangeAt E 0 [.int .i64 kd, .int .u64 (t1 : Int), .int .u64 (t2 : Int), .int .u64 (tn : Int)]) := box_range HE4.out
        obtain ⟨aa, ca, hva, -⟩ := OwnU.val hua
        obtain ⟨M, hM⟩ : ∃ M, M = (ansL P kd (t1, t2) tn p i ok).length := ⟨_, rfl⟩
        rw [← hM] at hva
        subst hva
        clear hpi hi4 hua hli hch hM
        go_wp2_with (first | (refine wpList_load_mid rfl tOp _ rfl E 0 rfl [.int .i64 kd, .int .u64 (t1 : Int), .int .u64 (t2 : Int), .int .u64 (tn : Int)] _ HLE4.out Try.underlying38 rfl info_op4 ?_))
        refine Calls.mono (doc_t HRF4.out HT.out hS4 hPf kd t1 t2 tn) ?_
        rintro e w5 ⟨p', i', ok', v5, vs5, vb, hpi', rfl, hub, hr5, hft, hch5⟩
        obtain ⟨rfl, rfl, rfl⟩ := HPI.out.uniq hpi'
        have HUB : Hid (OwnU w5 w4.heap.size vb (ansL P kd (t1, t2) tn p i ok)) := hub
        have HUA5 : Hid (OwnU w5 w3.heap.size (.slice aa M ca) (ansL P kd (t1, t2) tn p i ok)) := HUA.out.chgR HRF4.out hch5
        have HE5 : Hid (w5.heap[E]? = some (.cells #[.int .i64 kd, .int .u64 (t1 : Int), .int .u64 (t2 : Int), .int .u64 (tn : Int)] tOp (0, 0))) := hch5.old HE4.out HIR.out
        have HB15 : Hid (Below w1.heap.size w1 w5) := HB14.out.trans (hch5.below HFB.out HB14.out.size)
        have HTN : Hid (TurnIs S kd ⟨(t1, t2), tn⟩ P (nextP S P kd (t1, t2) tn p i ok)) := next_turn HPI.out HT.out (by omega)
        have HREL : Hid (∀ u, Below w5.heap.size w5 u → ∃ (P : List (List Ent)) (v : Value) (vs : List Value) (v2 : Value) (vs2 : List Value), IdxAt u g S P v vs ∧ RefI u r S P v2 vs2 ∧ Tid S P ∧ P.flatten.length ≤ k + 1 ∧ (∀ b, foot g v b → w1.heap.size ≤ b) ∧ (∀ b, footR r v2 vs2 b → w1.heap.size ≤ b) ∧ Below w1.heap.size w1 u) := (fun u hu => by
          refine ⟨_, v4, vs4, v5, vs5, (HI4.out.chgR HRF4.out hch5).below hu, hr5.below hu, HTN.out.tid, ?_, HFA4.out, fun b hb => ?_, below_next HB15.out hu⟩
          · rw [HTN.out.flat]
            have h9 := rowTurn_len kd ⟨(t1, t2), tn⟩ P.flatten
            have := HFL.out
            omega
          · rcases hft b hb with h9 | h9
            · exact HFB.out b h9
            · exact Nat.le_trans HB14.out.size h9)
        have hce : w5.cell? ⟨E, 0, none⟩ = some (.int .i64 kd) := by rw [cell_of_row _ _ _ _ _ _ HE5.out]; rfl
        have HAL : Hid ((ansL P kd (t1, t2) tn p i ok).length ≤ 4398046511104000) := (show _ ≤ _ by have h9 := ansL_len (P := P) kd (t1, t2) tn p i ok; omega)
        obtain ⟨ab, cb, hvb, -⟩ := OwnU.val hub
        obtain ⟨M2, hM2⟩ : ∃ M, M = (ansL P kd (t1, t2) tn p i ok).length := ⟨_, rfl⟩
        rw [← hM2] at hvb
        subst hvb
        clear hub hr5 hft hch5 hM2 hpi'
        by_cases hlo : lo ≤ kd
        · by_cases hhi : kd ≤ hi
          · go_wp2_with fail
            refine Calls.mono (same_t w5 _ HUA5.out HUB.out HAL.out) ?_
            rintro e w6 ⟨rfl, hb6⟩
            have HB6 : Hid (Below w5.heap.size w5 w6) := hb6
            clear hb6 hce
            go_wp2
            go_roundw
            case rel =>
              obtain ⟨P9, x1, x2, x3, x4, h1, h2, h3, h4, h5, h6, h7⟩ := HREL.out w6 HB6.out
              exact ⟨k + 1, P9, x1, x2, x3, x4, by omega, by go_num, h1, h2, h3, h4, h5, h6, h7⟩
            case measure => simp [intOf]; omega
          · go_wp2
            go_roundw
            case rel =>
              obtain ⟨P9, x1, x2, x3, x4, h1, h2, h3, h4, h5, h6, h7⟩ := HREL.out w5 (Below.refl _ _)
              exact ⟨k + 1, P9, x1, x2, x3, x4, by omega, by go_num, h1, h2, h3, h4, h5, h6, h7⟩
            case measure => simp [intOf]; omega
        · go_wp2
          go_roundw
          case rel =>
            obtain ⟨P9, x1, x2, x3, x4, h1, h2, h3, h4, h5, h6, h7⟩ := HREL.out w5 (Below.refl _ _)
            exact ⟨k + 1, P9, x1, x2, x3, x4, by omega, by go_num, h1, h2, h3, h4, h5, h6, h7⟩
          case measure => simp [intOf]; omega
      · obtain rfl : k = N := by omega
        have hkI : ¬ ((k : Int) < (k : Int)) := by omega
        go_wp2
        go_ret
        exact ⟨rfl, below_next HB1.out HBEL.out⟩
  · refine Calls.mono (begin_no z (by omega) w1) ?_
    rintro e w2 ⟨rfl, hw2⟩
    subst hw2
    go_wp2_with fail
    go_loopw [10] (fun i wr => ∃ k : Nat, k ≤ N ∧ i = .int .i64 (k : Int) ∧ Below w2.heap.size w2 wr) (fun i _ => N - (intOf i).toNat)
    case atStart => exact ⟨0, Nat.zero_le _, rfl, Below.refl _ _⟩
    case round =>
      obtain ⟨k, hk, rfl, hbel⟩ := hrel
      have HBEL : Hid (Below w2.heap.size w2 wr) := hbel
      have hcl := HCL.out wr hbel
      clear hbel
      by_cases hlt : k < N
      · have hkx : k < xs.length := by have := HN.out; omega
        obtain ⟨b, o, rfl, hr⟩ := HR.out k hkx
        obtain ⟨kd, t1, t2, tn, hx⟩ : ∃ kd t1 t2 tn, xs[k] = (kd, ⟨(t1, t2), tn⟩) := ⟨_, _, _, _, rfl⟩
        rw [hx] at hr
        have HRX : Hid (wr.rangeAt b (o + k * 4) (opv (kd, ⟨(t1, t2), tn⟩))) := rangeAt_below hr (below_next HB1.out HBEL.out)
        have hki : (k : Int) < (N : Int) := by omega
        have hk0 : (0 : Int) ≤ (k : Int) := by omega
        obtain ⟨w3, hw3⟩ : ∃ X : World, X = wr.alloc (.cells #[.int .i64 kd, .int .u64 (t1 : Int), .int .u64 (t2 : Int), .int .u64 (tn : Int)] tOp) := ⟨_, rfl⟩
        obtain ⟨E, hE⟩ : ∃ E, E = wr.heap.size := ⟨_, rfl⟩
        have HB3 : Hid (Below wr.heap.size wr w3) := (show Below _ _ _ by rw [hw3]; exact al (Below.refl _ _) _)
        have HE3 : Hid (w3.heap[E]? = some (.cells #[.int .i64 kd, .int .u64 (t1 : Int), .int .u64 (t2 : Int), .int .u64 (tn : Int)] tOp (0, 0))) := (show _ = _ by rw [hw3, hE]; exact heap_alloc_new wr _)
        clear hr hx
        go_upto_region 8 with (first | (refine wpList_load_mid rfl tOp _ rfl b (o + k * 4) rfl (opv (kd, ⟨(t1, t2), tn⟩)) _ HRX.out Try.underlying38 rfl info_op4 ?_))
        rw [← hw3]
        simp only [← hE]
        clear hw3 hE
        have HLE3 : Hid (w3.rangeAt E 0 [.int .i64 kd, .int .u64 (t1 : Int), .int .u64 (t2 : Int), .int .u64 (tn : Int)]) := box_range HE3.out
        have HB13 : Hid (Below w2.heap.size w2 w3) := below_next HBEL.out HB3.out
        go_wp2_with (first | (refine wpList_load_mid rfl tOp _ rfl E 0 rfl [.int .i64 kd, .int .u64 (t1 : Int), .int .u64 (t2 : Int), .int .u64 (tn : Int)] _ HLE3.out Try.underlying38 rfl info_op4 ?_))
        refine Calls.mono (ask0_t (x := .pointer none) (.inl rfl) kd t1 t2 tn) ?_
        rintro e w4 ⟨va, rfl, hua, hb4⟩
        have HUA : Hid (OwnU w4 w3.heap.size va (nilL kd)) := hua
        have HE4 : Hid (w4.heap[E]? = some (.cells #[.int .i64 kd, .int .u64 (t1 : Int), .int .u64 (t2 : Int), .int .u64 (tn : Int)] tOp (0, 0))) := (hb4.block E (Array.getElem?_eq_some_iff.1 HE3.out).1).trans HE3.out
        have HB14 : Hid (Below w2.heap.size w2 w4) := below_next HB13.out hb4
        have HLE4 : Hid (w4.rangeAt E 0 [.int .i64 kd, .int .u64 (t1 : Int), .int .u64 (t2 : Int), .int .u64 (tn : Int)]) := box_range HE4.out
        obtain ⟨aa, ca, hva, -⟩ := OwnU.val hua
        obtain ⟨M, hM⟩ : ∃ M, M = (nilL kd).length := ⟨_, rfl⟩
        rw [← hM] at hva
        subst hva
        clear hua hb4 hM
        go_wp2_with (first | (refine wpList_load_mid rfl tOp _ rfl E 0 rfl [.int .i64 kd, .int .u64 (t1 : Int), .int .u64 (t2 : Int), .int .u64 (tn : Int)] _ HLE4.out Try.underlying38 rfl info_op4 ?_))
        refine Calls.mono (doc0_t kd t1 t2 tn w4) ?_
        rintro e w5 ⟨vb, rfl, hub, hb5⟩
        have HUB : Hid (OwnU w5 w4.heap.size vb (nilL kd)) := hub
        have HUA5 : Hid (OwnU w5 w3.heap.size (.slice aa M ca) (nilL kd)) := OwnU.below HUA.out hb5
        have HE5 : Hid (w5.heap[E]? = some (.cells #[.int .i64 kd, .int .u64 (t1 : Int), .int .u64 (t2 : Int), .int .u64 (tn : Int)] tOp (0, 0))) := (hb5.block E (Array.getElem?_eq_some_iff.1 HE4.out).1).trans HE4.out
        have HB15 : Hid (Below w2.heap.size w2 w5) := below_next HB14.out hb5
        have hce : w5.cell? ⟨E, 0, none⟩ = some (.int .i64 kd) := by rw [cell_of_row _ _ _ _ _ _ HE5.out]; rfl
        obtain ⟨ab, cb, hvb, -⟩ := OwnU.val hub
        obtain ⟨M2, hM2⟩ : ∃ M, M = (nilL kd).length := ⟨_, rfl⟩
        rw [← hM2] at hvb
        subst hvb
        clear hub hb5 hM2
        by_cases hlo : lo ≤ kd
        · by_cases hhi : kd ≤ hi
          · go_wp2_with fail
            refine Calls.mono (same_t w5 _ HUA5.out HUB.out (by have := nilL_len kd; omega)) ?_
            rintro e w6 ⟨rfl, hb6⟩
            have HB6 : Hid (Below w5.heap.size w5 w6) := hb6
            clear hb6 hce
            go_wp2
            go_roundw
            case rel => exact ⟨k + 1, by omega, by go_num, below_next HB15.out HB6.out⟩
            case measure => simp [intOf]; omega
          · go_wp2
            go_roundw
            case rel => exact ⟨k + 1, by omega, by go_num, HB15.out⟩
            case measure => simp [intOf]; omega
        · go_wp2
          go_roundw
          case rel => exact ⟨k + 1, by omega, by go_num, HB15.out⟩
          case measure => simp [intOf]; omega
      · obtain rfl : k = N := by omega
        have hkI : ¬ ((k : Int) < (k : Int)) := by omega
        go_wp2
        go_ret
        exact ⟨rfl, below_next HB1.out HBEL.out⟩
end
end Go.Proofs.Ytibolgpaolnheac
namespace Go.Proofs.Ytibolgpaolnheac
set_option linter.unusedVariables false
set_option linter.unusedSimpArgs false
open Go.RowKit Go.Shelf
/-- the program's index and the document's, both there or both not, with the same pages -/
def Duo (B : Nat) (u : World) (x y : Value) (F : Nat → Prop) (k : Nat) : Prop :=
  (x = .pointer none ∧ y = .pointer none ∧ F = fun _ => False) ∨
  ∃ (g S : Nat) (P : List (List Ent)) (v : Value) (vs : List Value) (r : Nat) (v2 : Value) (vs2 : List Value), x = .pointer (some ⟨g, 0, none⟩) ∧ y = .pointer (some ⟨r, 0, none⟩) ∧ (4 ≤ S ∧ S ≤ 64) ∧ IdxAt u g S P v vs ∧ RefI u r S P v2 vs2 ∧ Tid S P ∧ P.flatten.length ≤ k ∧ (F = fun b => foot g v b ∨ footR r v2 vs2 b) ∧ B ≤ g ∧ B ≤ r ∧ ∀ b, F b → B ≤ b
variable {B k : Nat} {u u' : World} {x y : Value} {F G : Nat → Prop}
theorem Duo.mono (h : Duo B u x y F k) {k' : Nat} (hk : k ≤ k') : Duo B u x y F k' := by
  rcases h with h | ⟨g, S, P, v, vs, r, v2, vs2, h1, h2, h3, h4, h5, h6, h7, h8, h9⟩
  · exact .inl h
  · exact .inr ⟨g, S, P, v, vs, r, v2, vs2, h1, h2, h3, h4, h5, h6, Nat.le_trans h7 hk, h8, h9⟩
theorem Duo.ge (h : Duo B u x y F k) (b : Nat) (hb : F b) : B ≤ b := by
  rcases h with ⟨-, -, rfl⟩ | ⟨g, S, P, v, vs, r, v2, vs2, -, -, -, -, -, -, -, -, -, -, h9⟩
  · exact hb.elim
  · exact h9 b hb
theorem Duo.lt (h : Duo B u x y F k) (b : Nat) (hb : F b) : b < u.heap.size := by
  rcases h with ⟨-, -, rfl⟩ | ⟨g, S, P, v, vs, r, v2, vs2, -, -, -, h4, h5, -, -, rfl, -⟩
  · exact hb.elim
  · rcases hb with hb | hb
    · exact h4.lt b hb
    · exact h5.lt b hb
theorem Duo.noF (h : Duo B u x y F k) (b : Nat) (hb : F b) : NoNum u b := by
  rcases h with ⟨-, -, rfl⟩ | ⟨g, S, P, v, vs, r, v2, vs2, -, -, -, h4, h5, -, -, rfl, -⟩
  · exact hb.elim
  · rcases hb with hb | hb
    · exact h4.noF b hb
    · obtain ⟨c2, t2, e2, ht2⟩ := h5.ty b hb
      exact ⟨_, _, _, e2, by rcases ht2 with h9 | h9 | h9 <;> rw [h9] <;> decide⟩
theorem Duo.kept (h : Duo B u x y F k) (hc : Chg G u u') (hd : ∀ b, F b → ¬ G b) (hn : ∀ b, G b → NoNum u b) : Duo B u' x y F k := by
  rcases h with h | ⟨g, S, P, v, vs, r, v2, vs2, h1, h2, h3, h4, h5, h6, h7, rfl, h9⟩
  · exact .inl h
  · exact .inr ⟨g, S, P, v, vs, r, v2, vs2, h1, h2, h3, h4.kept hc (fun b hb => hd b (.inl hb)) hn, h5.kept (fun b hb => hc.block b (h5.lt b hb) (hd b (.inr hb))), h6, h7, rfl, h9⟩
theorem Duo.below (h : Duo B u x y F k) (hb : Below u.heap.size u u') : Duo B u' x y F k := h.kept (G := fun _ => False) (Chg.of_below hb) (fun _ _ h => h) (fun _ h => h.elim)
theorem begin_duo (z : Int) (w : World) (hB : B ≤ w.heap.size) : Calls Try.prog 6 #[.int .i64 z] w fun e w' => ∃ x y F, e = .returned (.tuple #[x, y, .bool true]) ∧ Duo B w' x y F 0 ∧ (∀ b, F b → w.heap.size ≤ b) ∧ Below w.heap.size w w' := by
  by_cases hz : 4 ≤ z ∧ z ≤ 64
  · obtain ⟨S, hSz⟩ : ∃ S : Nat, z = (S : Int) := ⟨z.toNat, by omega⟩
    subst hSz
    refine Calls.mono (begin_t S (by omega) w) ?_
    rintro e w2 ⟨g, r, rfl, hi2, hr2, hg2, hrr2, hb2⟩
    have hF : ∀ b, (foot g (.slice none 0 0) b ∨ footR r (.slice none 0 0) [] b) → w.heap.size ≤ b := by
      rintro b ((rfl | hb) | (rfl | hb | ⟨x, hx, hb⟩))
      · exact hg2
      · cases hb
      · exact hrr2
      · cases hb
      · cases hx
    refine ⟨_, _, _, rfl, .inr ⟨g, S, [], _, _, r, _, _, rfl, rfl, by omega, hi2, hr2, ⟨⟨(fun q hq => (by cases hq)), List.Pairwise.nil⟩, (fun q hq => (by cases hq))⟩, Nat.le_refl _, rfl, Nat.le_trans hB hg2, Nat.le_trans hB hrr2, fun b hb => Nat.le_trans hB (hF b hb)⟩, hF, hb2⟩
  · refine Calls.mono (begin_no z (by omega) w) ?_
    rintro e w2 ⟨rfl, rfl⟩
    exact ⟨_, _, _, rfl, .inl ⟨rfl, rfl, rfl⟩, fun b hb => hb.elim, Below.refl _ _⟩
/-- a call on both, and what same says of the answers -/
theorem ask_duo (h : Duo B u x y F k) (hk : k ≤ 4398046511104) (hB : B ≤ u.heap.size) (kd : Int) (s1 s2 n : Nat) :
    Calls Try.prog 7 #[x, opw kd s1 s2 n] u fun e u1 => ∃ a M c, e = .returned (.slice a M c) ∧ Below B u u1 ∧
      Calls Try.prog 8 #[y, opw kd s1 s2 n] u1 fun e u2 => ∃ a' M' c', e = .returned (.slice a' M' c') ∧ Below B u u2 ∧
        (Calls Try.prog 12 #[.slice a M c, .slice a' M' c'] u2 fun e u3 => e = .returned (.bool true) ∧ Below u2.heap.size u2 u3) ∧
        ∃ F', Duo B u2 x y F' (k + 1) ∧ (∀ b, F' b → F b ∨ u.heap.size ≤ b) ∧ Chg F u u2 := by
  rcases h with ⟨rfl, rfl, rfl⟩ | ⟨g, S, P, v, vs, r, v2, vs2, rfl, rfl, h3, h4, h5, h6, h7, rfl, hBg, hBr, h9⟩
  · refine Calls.mono (ask0_t (x := .pointer none) (.inl rfl) kd s1 s2 n) ?_
    rintro e u1 ⟨va, rfl, hua, hb1⟩
    obtain ⟨aa, ca, rfl, -⟩ := OwnU.val hua
    refine ⟨_, _, _, rfl, Below.mono hb1 hB, ?_⟩
    refine Calls.mono (doc0_t kd s1 s2 n u1) ?_
    rintro e u2 ⟨vb, rfl, hub, hb2⟩
    obtain ⟨ab, cb, rfl, -⟩ := OwnU.val hub
    have hb12 : Below u.heap.size u u2 := below_next hb1 hb2
    exact ⟨_, _, _, rfl, Below.mono hb12 hB, same_t u2 _ (OwnU.below hua hb2) hub (by have := nilL_len kd; omega), _, .inl ⟨rfl, rfl, rfl⟩, (fun b hb => hb.elim), Chg.of_below hb12⟩
  · have hPf : P.flatten.length ≤ 4398046511104 := by omega
    have hPl : P.length ≤ 4398046511104 := Nat.le_trans (flat_ge h6.1.1) hPf
    refine Calls.mono (ask_t h4 h6 h3 hPl kd s1 s2 n) ?_
    rintro e u1 ⟨p, i, ok, v4, vs4, va, hpi, rfl, hua, hi4, hli, hch⟩
    obtain ⟨aa, ca, hva, -⟩ := OwnU.val hua
    subst hva
    have hr4 : RefI u1 r S P v2 vs2 := h5.chgI h4 hch
    have hb1 : Below B u u1 := hch.below (fun b hb => h9 b (.inl hb)) hB
    refine ⟨_, _, _, rfl, hb1, ?_⟩
    refine Calls.mono (doc_t hr4 h6 h3 hPf kd s1 s2 n) ?_
    rintro e u2 ⟨p', i', ok', v5, vs5, vb, hpi', rfl, hub, hr5, hft, hch5⟩
    obtain ⟨rfl, rfl, rfl⟩ := hpi.uniq hpi'
    obtain ⟨ab, cb, hvb, -⟩ := OwnU.val hub
    subst hvb
    have hb2 : Below B u u2 := hb1.trans (hch5.below (fun b hb => h9 b (.inr hb)) (Nat.le_trans hB hb1.size))
    have htn := next_turn (kd := kd) (n := n) hpi h6 (by omega)
    have hal : (ansL P kd (s1, s2) n p i ok).length ≤ 4398046511104000 := by have h9 := ansL_len (P := P) kd (s1, s2) n p i ok; omega
    have hF : ∀ b, (foot g v4 b ∨ footR r v5 vs5 b) → (foot g v b ∨ footR r v2 vs2 b) ∨ u.heap.size ≤ b := by
      rintro b ((rfl | hb) | hb)
      · exact .inl (.inl (.inl rfl))
      · rcases hli with e9 | ⟨b', e8, e9⟩
        · exact .inl (.inl (.inr (by rw [← e9]; exact hb)))
        · rw [hb] at e8; cases e8; exact .inr e9
      · rcases hft b hb with e9 | e9
        · exact .inl (.inr e9)
        · exact .inr (Nat.le_trans hch.size e9)
    refine ⟨_, _, _, rfl, hb2, same_t u2 _ (hua.chgR hr4 hch5) hub hal, _, .inr ⟨g, S, _, v4, vs4, r, v5, vs5, rfl, rfl, h3, hi4.chgR hr4 hch5, hr5, htn.tid, ?_, rfl, hBg, hBr, ?_⟩, hF, ?_⟩
    · rw [htn.flat]
      have e9 := rowTurn_len kd ⟨(s1, s2), n⟩ P.flatten
      omega
    · intro b hb
      rcases hF b hb with e9 | e9
      · exact h9 b e9
      · omega
    · exact (hch.mono (fun b hb => .inl hb)).trans (hch5.mono (fun b hb => .inr hb)) (fun b hb => .inl hb)
theorem load_op (u : World) (b o : Nat) (z : Stp) (h : u.rangeAt b o (opv z)) : (Instr.loadAt tOp (.pointer (some ⟨b, o, none⟩))).run Try.prog u = .ok (.agg (opv z).toArray) u :=
  run_loadAt_mid u b o _ (opv z) _ h Try.underlying38 rfl info_op4
end Go.Proofs.Ytibolgpaolnheac
