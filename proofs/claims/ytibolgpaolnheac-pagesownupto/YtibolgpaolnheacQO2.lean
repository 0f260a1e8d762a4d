import Derived.Test.YtibolgpaolnheacNX
import Derived.Test.YtibolgpaolnheacQPut
import Derived.Test.YtibolgpaolnheacQW
namespace Go.Proofs.Ytibolgpaolnheac
set_option linter.unusedVariables false
set_option linter.unusedSimpArgs false
open Go.RowKit
variable {w w' : World} {r S n cap : Nat} {pa : Option Addr} {P : List (List Ent)}
section
set_option maxRecDepth 20000
set_option maxHeartbeats 6400000
theorem rpage_t (h : XV w r S pa n cap P) (hpos : 0 < n) (hne : ∀ p ∈ P, 0 < p.length) (hl : n ≤ 4398046511104) (s1 s2 rr : Nat) (hf : Found P.length (pr1 P (s1, s2)) rr) :
    Calls Try.prog 55 #[.pointer (some ⟨r, 0, none⟩), sv (s1, s2)] w fun e w' => e = .returned (.int .i64 ((rr - 1 : Nat) : Int)) ∧ Below w.heap.size w w' := by
  obtain ⟨w1, hw1⟩ : ∃ X : World, X = w.alloc (.cells #[.int .u64 (s1 : Int), .int .u64 (s2 : Int)] tSt) := ⟨_, rfl⟩
  have hb1 : Below w.heap.size w w1 := by rw [hw1]; exact al (Below.refl _ _) _
  have HB1 : Hid (Below w.heap.size w w1) := hb1
  have HX1 : Hid (w1.rangeAt w.heap.size 0 (sc (s1, s2))) := (show World.rangeAt _ _ _ _ by rw [hw1]; exact box_range (heap_alloc_new w _))
  have HV : Hid (XV w1 r S pa n cap P) := h.below hb1
  have HF : Hid (Found P.length (pr1 P (s1, s2)) rr) := hf
  have HNE : Hid (∀ p ∈ P, 0 < p.length) := hne
  have hc1 : (w.alloc (.cells #[.int .u64 (s1 : Int), .int .u64 (s2 : Int)] tSt)).cell? ⟨r, 1, none⟩ = some (.slice pa n cap) := by rw [← hw1]; exact HV.out.c1
  have hposi : (0 : Int) < (n : Int) := by omega
  have hn0 : ((n : Int) == 0) = false := by simp; omega
  have hn0' : ¬ n = 0 := by omega
  clear h hb1 hf hne
  go_enter Try.func55, Try.ntmps55
  go_wp2_with fail
  rw [← hw1]
  clear hw1 hc1 hn0 hn0'
  go_loopw [5, 6] (fun t i wr => ∃ k : Nat, k ≤ n ∧ i = .int .i64 (k : Int) ∧ t = .int .i64 ((min k rr - 1 : Nat) : Int) ∧ Below w1.heap.size w1 wr) (fun _ i _ => n - (intOf i).toNat)
  case atStart => exact ⟨0, Nat.zero_le _, rfl, by simp, Below.refl _ _⟩
  case round =>
    obtain ⟨k, hk, rfl, rfl, hbel⟩ := hrel
    have HBEL : Hid (Below w1.heap.size w1 wr) := hbel
    have hcr : ∀ u, Below w1.heap.size w1 u → u.cell? ⟨r, 1, none⟩ = some (.slice pa n cap) := fun u hu => (HV.out.below hu).c1
    have hcw : wr.cell? ⟨r, 1, none⟩ = some (.slice pa n cap) := hcr wr hbel
    clear hbel
    by_cases hlt : k < n
    · have hkP : k < P.length := by have := HV.out.len; omega
      have hp0 : 0 < P[k].length := HNE.out _ (List.getElem_mem hkP)
      obtain ⟨b, o, rfl, a, c, hc, hkc, hrx⟩ := HV.out.rd k hkP
      obtain ⟨b2, o2, rfl, hr2⟩ := hrx 0 hp0
      rw [Nat.zero_mul, Nat.add_zero] at hr2
      obtain ⟨st, hst⟩ : ∃ st, st = P[k][0].st := ⟨_, rfl⟩
      have hr3 := range_st hr2
      rw [← hst] at hr3
      obtain ⟨m, hm⟩ : ∃ m, m = P[k].length := ⟨_, rfl⟩
      rw [← hm] at hc hp0
      obtain ⟨t1, t2⟩ := st
      have hl3 : ∀ u, Below w1.heap.size w1 u → (Instr.loadAt tSt (.pointer (some ⟨w.heap.size, 0, none⟩))).run Try.prog u = .ok (sv (s1, s2)) u := fun u hu => load_st u _ _ (s1, s2) (rangeAt_below HX1.out hu)
      have hl4 : ∀ u, Below w1.heap.size w1 u → (Instr.loadAt tSt (.pointer (some ⟨b2, o2, none⟩))).run Try.prog u = .ok (sv (t1, t2)) u := fun u hu => load_st u _ _ (t1, t2) (rangeAt_below hr3 hu)
      have hcp : ∀ u, Below w1.heap.size w1 u → u.cell? ⟨b, o + k, none⟩ = some (.slice (some ⟨b2, o2, none⟩) m c) := fun u hu => (hu.cell (World.block_lt_of_cell? w1 _ hc)).trans hc
      have HPR : Hid (pr1 P (s1, s2) k = ltS (s1, s2) (t1, t2)) := (show _ = _ by
        unfold pr1
        rw [show P.getD k [] = P[k] by simp [List.getD, hkP], fst1_get (by omega), ← hst])
      have hki : (k : Int) < (n : Int) := by omega
      have hk0 : (0 : Int) ≤ (k : Int) := by omega
      have h0i : (0 : Int) < (m : Int) := by omega
      clear hst hm hr3 hr2 hrx hc hkc
      go_wp2_with fail
      refine wp_region_held_drew (S := (fun u => Below w1.heap.size w1 u)) (by kernel_rfl) (by first | exact HBEL.out.drew | assumption) (fun hHeld => ?_)
      refine take_at (i := 0) 22 (v := sv (s1, s2)) rfl rfl (by kernel_rfl) (by kernel_rfl) (by kernel_rfl) (fun _ _ _ h => h) (by rfl) ?_ hHeld ?_
      · (intro w hSw; refine exec_load (by rfl) ?_; exact hl3 w hSw)
      simp only [Act.put, List.setIfInBounds_toArray, List.set_cons_zero, List.set_cons_succ]
      refine take_at (i := 1) 23 (v := ?_) rfl rfl (by kernel_rfl) (by kernel_rfl) (by kernel_rfl) (fun _ _ _ h => h) (by rfl) ?_ hHeld ?_
      rotate_left
      · (intro w hSw; (try dsimp only at hSw); go_simp; try with_reducible rfl)
      simp only [Act.put, List.setIfInBounds_toArray, List.set_cons_zero, List.set_cons_succ]
      refine take_at (i := 2) 24 (v := ?_) rfl rfl (by kernel_rfl) (by kernel_rfl) (by kernel_rfl) (fun _ _ _ h => h) (by rfl) ?_ hHeld ?_
      rotate_left
      · (intro w hSw; (try dsimp only at hSw); go_simp; try with_reducible rfl)
      simp only [Act.put, List.setIfInBounds_toArray, List.set_cons_zero, List.set_cons_succ]
      refine take_at (i := 3) 25 (v := ?_) rfl rfl (by kernel_rfl) (by kernel_rfl) (by kernel_rfl) (fun _ _ _ h => h) (by rfl) ?_ hHeld ?_
      rotate_left
      · (intro w hSw; (try dsimp only at hSw); go_simp; try with_reducible rfl)
      simp only [Act.put, List.setIfInBounds_toArray, List.set_cons_zero, List.set_cons_succ]
      refine take_at (i := 4) 26 (v := ?_) rfl rfl (by kernel_rfl) (by kernel_rfl) (by kernel_rfl) (fun _ _ _ h => h) (by rfl) ?_ hHeld ?_
      rotate_left
      · (intro w hSw; (try dsimp only at hSw); go_simp; try with_reducible rfl)
      simp only [Act.put, List.setIfInBounds_toArray, List.set_cons_zero, List.set_cons_succ]
      refine take_at (i := 5) 27 (v := ?_) rfl rfl (by kernel_rfl) (by kernel_rfl) (by kernel_rfl) (fun _ _ _ h => h) (by rfl) ?_ hHeld ?_
      rotate_left
      · (intro w hSw; (try dsimp only at hSw); go_simp; try with_reducible rfl)
      simp only [Act.put, List.setIfInBounds_toArray, List.set_cons_zero, List.set_cons_succ]
      refine take_at (i := 6) 28 (v := ?_) rfl rfl (by kernel_rfl) (by kernel_rfl) (by kernel_rfl) (fun _ _ _ h => h) (by rfl) ?_ hHeld ?_
      rotate_left
      · (intro w hSw; (try dsimp only at hSw); go_simp; try with_reducible rfl)
      simp only [Act.put, List.setIfInBounds_toArray, List.set_cons_zero, List.set_cons_succ]
      refine take_at (i := 7) 29 (v := ?_) rfl rfl (by kernel_rfl) (by kernel_rfl) (by kernel_rfl) (fun _ _ _ h => h) (by rfl) ?_ hHeld ?_
      rotate_left
      · (intro w hSw; (try dsimp only at hSw); go_simp; try with_reducible rfl)
      simp only [Act.put, List.setIfInBounds_toArray, List.set_cons_zero, List.set_cons_succ]
      refine take_at (i := 8) 30 (v := ?_) rfl rfl (by kernel_rfl) (by kernel_rfl) (by kernel_rfl) (fun _ _ _ h => h) (by rfl) ?_ hHeld ?_
      rotate_left
      · (intro w hSw; (try dsimp only at hSw); go_simp; try with_reducible rfl)
      simp only [Act.put, List.setIfInBounds_toArray, List.set_cons_zero, List.set_cons_succ]
      refine take_at (i := 9) 31 (v := ?_) rfl rfl (by kernel_rfl) (by kernel_rfl) (by kernel_rfl) (fun _ _ _ h => h) (by rfl) ?_ hHeld ?_
      rotate_left
      · (intro w hSw; (try dsimp only at hSw); go_simp; try with_reducible rfl)
      simp only [Act.put, List.setIfInBounds_toArray, List.set_cons_zero, List.set_cons_succ]
      refine take_at (i := 10) 32 (v := sv (t1, t2)) rfl rfl (by kernel_rfl) (by kernel_rfl) (by kernel_rfl) (fun _ _ _ h => h) (by rfl) ?_ hHeld ?_
      · (intro w hSw; refine exec_load (by rfl) ?_; exact hl4 w hSw)
      simp only [Act.put, List.setIfInBounds_toArray, List.set_cons_zero, List.set_cons_succ]
      refine run_at (i := 11) rfl (by kernel_rfl) (by rfl) (fun K hK => ?_)
      simp only [List.getElem_toArray, List.getElem_cons_zero, List.getElem_cons_succ]
      go_simp
      (go_at_call 56; refine Calls.mono (rless_t (s1, s2) (t1, t2) _) ?_; rintro e w2 ⟨rfl, hb2⟩; have hb3 : Below w1.heap.size w1 w2 := below_next HBEL.out.drew hb2; clear hb2; obtain ⟨q, hq⟩ : ∃ q : Bool, q = ltS (s1, s2) (t1, t2) := ⟨_, rfl⟩; rw [← hq]; have HQ : Hid (q = ltS (s1, s2) (t1, t2)) := hq; clear hq)
      go_wp2_with fail
      refine hK.out _ _ (by first | exact HBEL.out.drew | assumption) ?_
      clear hK K
      intro hHeld2
      clear hHeld
      have hHeld := hHeld2
      clear hHeld2
      try simp only [Act.put, List.setIfInBounds_toArray, List.set_cons_zero, List.set_cons_succ]
      refine take_at (i := 12) 34 (v := ?_) rfl rfl (by kernel_rfl) (by kernel_rfl) (by kernel_rfl) (fun _ _ _ h => h) (by rfl) ?_ hHeld ?_
      rotate_left
      · (intro w hSw; (try dsimp only at hSw); go_simp; try with_reducible rfl)
      simp only [Act.put, List.setIfInBounds_toArray, List.set_cons_zero, List.set_cons_succ]
      refine wpAnyH_done (by kernel_rfl) ?_ _
      have HB3 : Hid (Below w1.heap.size w1 w2) := hb3
      clear hb3 hl3 hl4 hcp hcr hcw
      cases q
      case false =>
        have HRK : Hid (k < rr) := (show k < rr by
          rcases Nat.lt_or_ge k rr with h9 | h9
          · exact h9
          · have h8 := HF.out.2.2 k h9 hkP
            rw [HPR.out, ← HQ.out] at h8; cases h8)
        go_wp2
        go_roundw
        case rel => exact ⟨k + 1, by omega, by go_num, by rw [show min (k + 1) rr - 1 = k by have := HRK.out; omega], HB3.out⟩
        case measure => simp [intOf]; omega
      case true =>
        have HRK : Hid (rr ≤ k) := (show rr ≤ k by
          rcases Nat.lt_or_ge k rr with h9 | h9
          · have h8 := HF.out.2.1 k h9
            rw [HPR.out, ← HQ.out] at h8; cases h8
          · exact h9)
        go_wp2
        go_roundw
        case rel => exact ⟨k + 1, by omega, by go_num, by rw [show min (k + 1) rr - 1 = min k rr - 1 by have := HRK.out; omega], HB3.out⟩
        case measure => simp [intOf]; omega
    · obtain rfl : k = n := by omega
      have hkI : ¬ ((k : Int) < (k : Int)) := by omega
      have HE : Hid (min k rr - 1 = rr - 1) := (show _ = _ by have := HF.out.1; have := HV.out.len; omega)
      go_wp2
      go_ret
      exact ⟨by rw [HE.out]; rfl, below_next HB1.out HBEL.out⟩
theorem rplace_t (h : XV w r S pa n cap P) (hsp : SP P) (hl : n ≤ 4398046511104) (hlp : ∀ p ∈ P, p.length ≤ 100) (s1 s2 : Nat) :
    Calls Try.prog 31 #[.pointer (some ⟨r, 0, none⟩), sv (s1, s2)] w fun e w' => ∃ (p i : Nat) (ok : Bool), e = .returned (.tuple #[.int .i64 (p : Int), .int .i64 (i : Int), .bool ok]) ∧ PlaceIs P (s1, s2) p i ok ∧ Below w.heap.size w w' := by
  obtain ⟨w1, hw1⟩ : ∃ X : World, X = w.alloc (.cells #[.int .u64 (s1 : Int), .int .u64 (s2 : Int)] tSt) := ⟨_, rfl⟩
  have hb1 : Below w.heap.size w w1 := by rw [hw1]; exact al (Below.refl _ _) _
  have HB1 : Hid (Below w.heap.size w w1) := hb1
  have HX1 : Hid (w1.rangeAt w.heap.size 0 (sc (s1, s2))) := (show World.rangeAt _ _ _ _ by rw [hw1]; exact box_range (heap_alloc_new w _))
  have HV : Hid (XV w1 r S pa n cap P) := h.below hb1
  have HSP : Hid (SP P) := hsp
  have HLP : Hid (∀ p ∈ P, p.length ≤ 100) := hlp
  have hc1 : (w.alloc (.cells #[.int .u64 (s1 : Int), .int .u64 (s2 : Int)] tSt)).cell? ⟨r, 1, none⟩ = some (.slice pa n cap) := by rw [← hw1]; exact HV.out.c1
  have HLN : Hid (n = P.length) := h.len
  clear h hb1 hsp hlp
  by_cases hn : n = 0
  · subst hn
    have HPI : Hid (PlaceIs P (s1, s2) 0 0 false) := .inl ⟨List.eq_nil_of_length_eq_zero HLN.out.symm, rfl, rfl, rfl⟩
    go_enter Try.func31, Try.ntmps31
    go_wp2
    refine bodyPost_ret (results_tmp3 rfl _ _ _) rfl ?_
    exact ⟨0, 0, false, rfl, HPI.out, by first | exact al (Below.refl _ _) _ | exact HB1.out⟩
  · have hn0 : ((n : Int) == 0) = false := by simp; exact hn
    have HNE : Hid (P ≠ []) := (fun e => hn (by rw [HLN.out, e]; rfl))
    obtain ⟨p, i, ok, hpl⟩ := place_ex HSP.out (s1, s2)
    have hpP := hpl.lt HNE.out
    have HPL : Hid (PlaceIs P (s1, s2) p i ok) := hpl
    rcases hpl with ⟨e, -⟩ | ⟨rr, hf1, hpr, -, hf2, hok⟩
    · exact absurd e HNE.out
    have HF1 : Hid (Found P.length (pr1 P (s1, s2)) rr) := hf1
    have eP : P.getD p [] = P[p] := by simp [List.getD, hpP]
    obtain ⟨X, hX⟩ : ∃ X, X = P[p] := ⟨_, rfl⟩
    rw [eP, ← hX] at hf2 hok
    have HF2 : Hid (Found X.length (pr2 X (s1, s2)) i) := hf2
    have HOK : Hid (ok = true ↔ ∃ h : i < X.length, X[i].st = (s1, s2)) := hok
    have HXO : Hid (X.Pairwise fun a b => ltS a.st b.st = true) := (by rw [hX]; exact HSP.out.page (List.getElem_mem hpP))
    obtain ⟨M, hM⟩ : ∃ M, M = X.length := ⟨_, rfl⟩
    have HM : Hid (M = X.length) := hM
    have hMb : M ≤ 100 := by rw [hM, hX]; exact HLP.out _ (List.getElem_mem hpP)
    obtain ⟨b, o, hpa, a, c, hc, hkc, hrx⟩ := HV.out.rd p hpP
    subst hpa
    rw [← hX] at hrx
    rw [← hX, ← hM] at hc
    have HRX : Hid (RdX w1 a X) := hrx
    have HPR : Hid (rr - 1 = p) := hpr.symm
    have hpi : (p : Int) < (n : Int) := by have := HLN.out; omega
    have hp0 : (0 : Int) ≤ (p : Int) := by omega
    have hib : i ≤ M := by have := hf2.1; omega
    clear hf1 hpr hf2 hok eP hX hM hkc hrx hn
    go_enter Try.func31, Try.ntmps31
    go_wp2_with fail
    rw [← hw1]
    refine Calls.mono (rpage_t HV.out (by omega) HSP.out.1 hl s1 s2 rr HF1.out) ?_
    rintro e w2 ⟨rfl, hb2⟩
    rw [HPR.out]
    have HB2 : Hid (Below w1.heap.size w1 w2) := hb2
    clear hb2 hw1 hc1 hn0
    go_wp2_with fail
    go_loopw [8, 9] (fun t i9 wr => ∃ k : Nat, k ≤ M ∧ i9 = .int .i64 (k : Int) ∧ t = .int .i64 ((min k i : Nat) : Int) ∧ (∀ j (hj : j < X.length), j < k → X[j].st ≠ (s1, s2)) ∧ Below w1.heap.size w1 wr) (fun _ i _ => M - (intOf i).toNat)
    case atStart => exact ⟨0, Nat.zero_le _, rfl, by simp, fun j hj h9 => absurd h9 (Nat.not_lt_zero _), HB2.out⟩
    case round =>
      obtain ⟨k, hk, rfl, rfl, hno, hbel⟩ := hrel
      have HBEL : Hid (Below w1.heap.size w1 wr) := hbel
      have HNO : Hid (∀ j (hj : j < X.length), j < k → X[j].st ≠ (s1, s2)) := hno
      have hcr : ∀ u, Below w1.heap.size w1 u → u.cell? ⟨r, 1, none⟩ = some (.slice (some ⟨b, o, none⟩) n cap) := fun u hu => (HV.out.below hu).c1
      have hcp : ∀ u, Below w1.heap.size w1 u → u.cell? ⟨b, o + p, none⟩ = some (.slice a M c) := fun u hu => (hu.cell (World.block_lt_of_cell? w1 _ hc)).trans hc
      have hcrw := hcr wr hbel
      have hcpw := hcp wr hbel
      clear hbel hno
      by_cases hlt : k < M
      · have hkX : k < X.length := by have := HM.out; omega
        obtain ⟨b2, o2, rfl, hr2⟩ := HRX.out k hkX
        obtain ⟨t1, t2, tn, htx⟩ : ∃ t1 t2 tn, X[k] = ⟨(t1, t2), tn⟩ := ⟨_, _, _, rfl⟩
        rw [htx] at hr2
        have HTX : Hid (X[k].st = (t1, t2)) := (show _ = _ by rw [htx])
        have hl3 : ∀ u, Below w1.heap.size w1 u → (Instr.loadAt tSt (.pointer (some ⟨w.heap.size, 0, none⟩))).run Try.prog u = .ok (sv (s1, s2)) u := fun u hu => load_st u _ _ (s1, s2) (rangeAt_below HX1.out hu)
        have hl4 : ∀ u, Below w1.heap.size w1 u → (Instr.loadAt tSt (.pointer (some ⟨b2, o2 + k * 3, none⟩))).run Try.prog u = .ok (sv (t1, t2)) u := fun u hu => load_st u _ _ (t1, t2) (range_st (e := ⟨(t1, t2), tn⟩) (rangeAt_below hr2 hu))
        have hki : (k : Int) < (M : Int) := by omega
        have hk0 : (0 : Int) ≤ (k : Int) := by omega
        obtain ⟨q, hq⟩ : ∃ q : Bool, q = decide (t1 = s1 ∧ t2 = s2) := ⟨_, rfl⟩
        have HQ : Hid (q = decide (t1 = s1 ∧ t2 = s2)) := hq
        clear hq htx hr2
        go_wp2_with fail
        refine wp_region_held_drew (S := (fun u => Below w1.heap.size w1 u)) (by kernel_rfl) (by first | exact HBEL.out.drew | assumption) (fun hHeld => ?_)
        refine take_at (i := 0) 35 (v := ?_) rfl rfl (by kernel_rfl) (by kernel_rfl) (by kernel_rfl) (fun _ _ _ h => h) (by rfl) ?_ hHeld ?_
        rotate_left
        · (intro w hSw; (try dsimp only at hSw); go_simp; try with_reducible rfl)
        simp only [Act.put, List.setIfInBounds_toArray, List.set_cons_zero, List.set_cons_succ]
        refine take_at (i := 1) 36 (v := ?_) rfl rfl (by kernel_rfl) (by kernel_rfl) (by kernel_rfl) (fun _ _ _ h => h) (by rfl) ?_ hHeld ?_
        rotate_left
        · (intro w hSw; (try dsimp only at hSw); go_simp; try with_reducible rfl)
        simp only [Act.put, List.setIfInBounds_toArray, List.set_cons_zero, List.set_cons_succ]
        refine take_at (i := 2) 37 (v := ?_) rfl rfl (by kernel_rfl) (by kernel_rfl) (by kernel_rfl) (fun _ _ _ h => h) (by rfl) ?_ hHeld ?_
        rotate_left
        · (intro w hSw; (try dsimp only at hSw); go_simp; try with_reducible rfl)
        simp only [Act.put, List.setIfInBounds_toArray, List.set_cons_zero, List.set_cons_succ]
        refine take_at (i := 3) 38 (v := ?_) rfl rfl (by kernel_rfl) (by kernel_rfl) (by kernel_rfl) (fun _ _ _ h => h) (by rfl) ?_ hHeld ?_
        rotate_left
        · (intro w hSw; (try dsimp only at hSw); go_simp; try with_reducible rfl)
        simp only [Act.put, List.setIfInBounds_toArray, List.set_cons_zero, List.set_cons_succ]
        refine take_at (i := 4) 39 (v := ?_) rfl rfl (by kernel_rfl) (by kernel_rfl) (by kernel_rfl) (fun _ _ _ h => h) (by rfl) ?_ hHeld ?_
        rotate_left
        · (intro w hSw; (try dsimp only at hSw); go_simp; try with_reducible rfl)
        simp only [Act.put, List.setIfInBounds_toArray, List.set_cons_zero, List.set_cons_succ]
        refine take_at (i := 5) 40 (v := ?_) rfl rfl (by kernel_rfl) (by kernel_rfl) (by kernel_rfl) (fun _ _ _ h => h) (by rfl) ?_ hHeld ?_
        rotate_left
        · (intro w hSw; (try dsimp only at hSw); go_simp; try with_reducible rfl)
        simp only [Act.put, List.setIfInBounds_toArray, List.set_cons_zero, List.set_cons_succ]
        refine take_at (i := 6) 41 (v := ?_) rfl rfl (by kernel_rfl) (by kernel_rfl) (by kernel_rfl) (fun _ _ _ h => h) (by rfl) ?_ hHeld ?_
        rotate_left
        · (intro w hSw; (try dsimp only at hSw); go_simp; try with_reducible rfl)
        simp only [Act.put, List.setIfInBounds_toArray, List.set_cons_zero, List.set_cons_succ]
        refine take_at (i := 7) 42 (v := ?_) rfl rfl (by kernel_rfl) (by kernel_rfl) (by kernel_rfl) (fun _ _ _ h => h) (by rfl) ?_ hHeld ?_
        rotate_left
        · (intro w hSw; (try dsimp only at hSw); go_simp; try with_reducible rfl)
        simp only [Act.put, List.setIfInBounds_toArray, List.set_cons_zero, List.set_cons_succ]
        refine take_at (i := 8) 43 (v := ?_) rfl rfl (by kernel_rfl) (by kernel_rfl) (by kernel_rfl) (fun _ _ _ h => h) (by rfl) ?_ hHeld ?_
        rotate_left
        · (intro w hSw; (try dsimp only at hSw); go_simp; try with_reducible rfl)
        simp only [Act.put, List.setIfInBounds_toArray, List.set_cons_zero, List.set_cons_succ]
        refine take_at (i := 9) 44 (v := ?_) rfl rfl (by kernel_rfl) (by kernel_rfl) (by kernel_rfl) (fun _ _ _ h => h) (by rfl) ?_ hHeld ?_
        rotate_left
        · (intro w hSw; (try dsimp only at hSw); go_simp; try with_reducible rfl)
        simp only [Act.put, List.setIfInBounds_toArray, List.set_cons_zero, List.set_cons_succ]
        refine take_at (i := 10) 45 (v := sv (t1, t2)) rfl rfl (by kernel_rfl) (by kernel_rfl) (by kernel_rfl) (fun _ _ _ h => h) (by rfl) ?_ hHeld ?_
        · (intro w hSw; refine exec_load (by rfl) ?_; exact hl4 w hSw)
        simp only [Act.put, List.setIfInBounds_toArray, List.set_cons_zero, List.set_cons_succ]
        refine take_at (i := 11) 46 (v := sv (s1, s2)) rfl rfl (by kernel_rfl) (by kernel_rfl) (by kernel_rfl) (fun _ _ _ h => h) (by rfl) ?_ hHeld ?_
        · (intro w hSw; refine exec_load (by rfl) ?_; exact hl3 w hSw)
        simp only [Act.put, List.setIfInBounds_toArray, List.set_cons_zero, List.set_cons_succ]
        refine take_at (i := 12) 47 (v := .bool q) rfl rfl (by kernel_rfl) (by kernel_rfl) (by kernel_rfl) (fun _ _ _ h => h) (by rfl) ?_ hHeld ?_
        · (intro w hSw; (try dsimp only at hSw); go_simp; rw [HQ.out]; by_cases e1 : t1 = s1 <;> by_cases e2 : t2 = s2 <;> simp [e1, e2, Int.natCast_inj])
        simp only [Act.put, List.setIfInBounds_toArray, List.set_cons_zero, List.set_cons_succ]
        refine wpAnyH_done (by kernel_rfl) ?_ _
        cases q
        case true =>
          have HRES : Hid (k = i ∧ ok = true) := (show _ ∧ _ by
            have he : t1 = s1 ∧ t2 = s2 := of_decide_eq_true HQ.out.symm
            have hst : X[k].st = (s1, s2) := by rw [HTX.out, he.1, he.2]
            have hki9 : k = i := by
              rcases Nat.lt_trichotomy k i with h9 | h9 | h9
              · have h8 := HF2.out.2.1 k h9
                unfold pr2 at h8
                rw [show (X.map (·.st)).getD k (0, 0) = X[k].st by simp [List.getD, hkX], hst, ltS_irrefl] at h8
                cases h8
              · exact h9
              · have hiX : i < X.length := by omega
                have h8 := HF2.out.2.2 i (Nat.le_refl _) hiX
                have h7 := (List.pairwise_iff_getElem.1 HXO.out) i k hiX hkX h9
                unfold pr2 at h8
                rw [show (X.map (·.st)).getD i (0, 0) = X[i].st by simp [List.getD, hiX]] at h8
                rw [hst] at h7
                rw [h7] at h8
                cases h8
            subst hki9
            exact ⟨rfl, HOK.out.2 ⟨hkX, hst⟩⟩)
          have HBD : Hid (Below w.heap.size w wr.drew) := below_next HB1.out HBEL.out.drew
          clear hl3 hl4
          go_wp2
          refine bodyPost_ret (results_tmp3 rfl _ _ _) rfl ?_
          exact ⟨p, i, ok, by rw [HRES.out.2, ← HRES.out.1]; rfl, HPL.out, HBD.out⟩
        case false =>
          have HNE9 : Hid (X[k].st ≠ (s1, s2)) := (fun e9 => (of_decide_eq_false HQ.out.symm) (by rw [HTX.out] at e9; exact ⟨congrArg Prod.fst e9, congrArg Prod.snd e9⟩))
          have HNO2 : Hid (∀ j (hj : j < X.length), j < k + 1 → X[j].st ≠ (s1, s2)) := (fun j hj h9 => by
            by_cases e : j = k
            · subst e; exact HNE9.out
            · exact HNO.out j hj (by omega))
          go_wp2_with fail
          refine wp_region_held_drew (S := (fun u => Below w1.heap.size w1 u)) (by kernel_rfl) (by first | exact HBEL.out.drew.drew | assumption) (fun hHeld => ?_)
          refine take_at (i := 0) 50 (v := ?_) rfl rfl (by kernel_rfl) (by kernel_rfl) (by kernel_rfl) (fun _ _ _ h => h) (by rfl) ?_ hHeld ?_
          rotate_left
          · (intro w hSw; (try dsimp only at hSw); go_simp; try with_reducible rfl)
          simp only [Act.put, List.setIfInBounds_toArray, List.set_cons_zero, List.set_cons_succ]
          refine take_at (i := 1) 51 (v := ?_) rfl rfl (by kernel_rfl) (by kernel_rfl) (by kernel_rfl) (fun _ _ _ h => h) (by rfl) ?_ hHeld ?_
          rotate_left
          · (intro w hSw; (try dsimp only at hSw); go_simp; try with_reducible rfl)
          simp only [Act.put, List.setIfInBounds_toArray, List.set_cons_zero, List.set_cons_succ]
          refine take_at (i := 2) 52 (v := ?_) rfl rfl (by kernel_rfl) (by kernel_rfl) (by kernel_rfl) (fun _ _ _ h => h) (by rfl) ?_ hHeld ?_
          rotate_left
          · (intro w hSw; (try dsimp only at hSw); go_simp; try with_reducible rfl)
          simp only [Act.put, List.setIfInBounds_toArray, List.set_cons_zero, List.set_cons_succ]
          refine take_at (i := 3) 53 (v := ?_) rfl rfl (by kernel_rfl) (by kernel_rfl) (by kernel_rfl) (fun _ _ _ h => h) (by rfl) ?_ hHeld ?_
          rotate_left
          · (intro w hSw; (try dsimp only at hSw); go_simp; try with_reducible rfl)
          simp only [Act.put, List.setIfInBounds_toArray, List.set_cons_zero, List.set_cons_succ]
          refine take_at (i := 4) 54 (v := ?_) rfl rfl (by kernel_rfl) (by kernel_rfl) (by kernel_rfl) (fun _ _ _ h => h) (by rfl) ?_ hHeld ?_
          rotate_left
          · (intro w hSw; (try dsimp only at hSw); go_simp; try with_reducible rfl)
          simp only [Act.put, List.setIfInBounds_toArray, List.set_cons_zero, List.set_cons_succ]
          refine take_at (i := 5) 55 (v := ?_) rfl rfl (by kernel_rfl) (by kernel_rfl) (by kernel_rfl) (fun _ _ _ h => h) (by rfl) ?_ hHeld ?_
          rotate_left
          · (intro w hSw; (try dsimp only at hSw); go_simp; try with_reducible rfl)
          simp only [Act.put, List.setIfInBounds_toArray, List.set_cons_zero, List.set_cons_succ]
          refine take_at (i := 6) 56 (v := ?_) rfl rfl (by kernel_rfl) (by kernel_rfl) (by kernel_rfl) (fun _ _ _ h => h) (by rfl) ?_ hHeld ?_
          rotate_left
          · (intro w hSw; (try dsimp only at hSw); go_simp; try with_reducible rfl)
          simp only [Act.put, List.setIfInBounds_toArray, List.set_cons_zero, List.set_cons_succ]
          refine take_at (i := 7) 57 (v := ?_) rfl rfl (by kernel_rfl) (by kernel_rfl) (by kernel_rfl) (fun _ _ _ h => h) (by rfl) ?_ hHeld ?_
          rotate_left
          · (intro w hSw; (try dsimp only at hSw); go_simp; try with_reducible rfl)
          simp only [Act.put, List.setIfInBounds_toArray, List.set_cons_zero, List.set_cons_succ]
          refine take_at (i := 8) 58 (v := ?_) rfl rfl (by kernel_rfl) (by kernel_rfl) (by kernel_rfl) (fun _ _ _ h => h) (by rfl) ?_ hHeld ?_
          rotate_left
          · (intro w hSw; (try dsimp only at hSw); go_simp; try with_reducible rfl)
          simp only [Act.put, List.setIfInBounds_toArray, List.set_cons_zero, List.set_cons_succ]
          refine take_at (i := 9) 59 (v := ?_) rfl rfl (by kernel_rfl) (by kernel_rfl) (by kernel_rfl) (fun _ _ _ h => h) (by rfl) ?_ hHeld ?_
          rotate_left
          · (intro w hSw; (try dsimp only at hSw); go_simp; try with_reducible rfl)
          simp only [Act.put, List.setIfInBounds_toArray, List.set_cons_zero, List.set_cons_succ]
          refine take_at (i := 10) 60 (v := sv (t1, t2)) rfl rfl (by kernel_rfl) (by kernel_rfl) (by kernel_rfl) (fun _ _ _ h => h) (by rfl) ?_ hHeld ?_
          · (intro w hSw; refine exec_load (by rfl) ?_; exact hl4 w hSw)
          simp only [Act.put, List.setIfInBounds_toArray, List.set_cons_zero, List.set_cons_succ]
          refine take_at (i := 11) 61 (v := sv (s1, s2)) rfl rfl (by kernel_rfl) (by kernel_rfl) (by kernel_rfl) (fun _ _ _ h => h) (by rfl) ?_ hHeld ?_
          · (intro w hSw; refine exec_load (by rfl) ?_; exact hl3 w hSw)
          simp only [Act.put, List.setIfInBounds_toArray, List.set_cons_zero, List.set_cons_succ]
          refine run_at (i := 12) rfl (by kernel_rfl) (by rfl) (fun K hK => ?_)
          simp only [List.getElem_toArray, List.getElem_cons_zero, List.getElem_cons_succ]
          go_simp
          (go_at_call 56; refine Calls.mono (rless_t (t1, t2) (s1, s2) _) ?_; rintro e w3 ⟨rfl, hb3⟩; have hb4 : Below w1.heap.size w1 w3 := below_next HBEL.out.drew.drew hb3; clear hb3; obtain ⟨q2, hq2⟩ : ∃ q2 : Bool, q2 = ltS (t1, t2) (s1, s2) := ⟨_, rfl⟩; rw [← hq2]; have HQ2 : Hid (q2 = ltS (t1, t2) (s1, s2)) := hq2; clear hq2)
          go_wp2_with fail
          refine hK.out _ _ (by first | exact HBEL.out.drew.drew | assumption) ?_
          clear hK K
          intro hHeld2
          clear hHeld
          have hHeld := hHeld2
          clear hHeld2
          try simp only [Act.put, List.setIfInBounds_toArray, List.set_cons_zero, List.set_cons_succ]
          refine wpAnyH_done (by kernel_rfl) ?_ _
          have HB4 : Hid (Below w1.heap.size w1 w3) := hb4
          have HP2 : Hid (pr2 X (s1, s2) k = !q2) := (show _ = _ by
            unfold pr2
            rw [show (X.map (·.st)).getD k (0, 0) = X[k].st by simp [List.getD, hkX], HTX.out, HQ2.out])
          clear hb4 hl3 hl4 hcr hcp hcrw hcpw
          cases q2
          case true =>
            have HRK : Hid (k < i) := (show k < i by
              rcases Nat.lt_or_ge k i with h9 | h9
              · exact h9
              · have h8 := HF2.out.2.2 k h9 hkX
                rw [HP2.out] at h8; cases h8)
            obtain ⟨m9, hm9⟩ : ∃ m9, m9 = min k i := ⟨_, rfl⟩
            rw [← hm9]
            have hm9b : m9 ≤ 100 := by omega
            have HM9 : Hid (min (k + 1) i = m9 + 1) := (show _ = _ by have := HRK.out; omega)
            clear hm9
            go_wp2
            go_roundw
            case rel => exact ⟨k + 1, by omega, by go_num, by rw [HM9.out]; go_num, HNO2.out, HB4.out⟩
            case measure => simp [intOf]; omega
          case false =>
            have HRK : Hid (i ≤ k) := (show i ≤ k by
              rcases Nat.lt_or_ge k i with h9 | h9
              · have h8 := HF2.out.2.1 k h9
                rw [HP2.out] at h8; cases h8
              · exact h9)
            go_wp2
            go_roundw
            case rel => exact ⟨k + 1, by omega, by go_num, by rw [show min (k + 1) i = min k i by have := HRK.out; omega], HNO2.out, HB4.out⟩
            case measure => simp [intOf]; omega
      · obtain rfl : k = M := by omega
        have hkI : ¬ ((k : Int) < (k : Int)) := by omega
        have HRES : Hid (min k i = i ∧ ok = false) := (show _ ∧ _ by
          refine ⟨by omega, ?_⟩
          cases hok : ok
          · rfl
          · obtain ⟨h8, h9⟩ := HOK.out.1 hok
            exact absurd h9 (HNO.out i h8 (by have := HM.out; omega)))
        go_wp2
        refine bodyPost_ret (results_tmp3 rfl _ _ _) rfl ?_
        first
        | exact ⟨p, i, ok, by rw [HRES.out.2, HRES.out.1]; rfl, HPL.out, below_next HB1.out HBEL.out⟩
        | (have h9 := HPL.out; rw [HRES.out.2] at h9; exact ⟨p, i, .inl ⟨rfl, h9, below_next HB1.out HBEL.out⟩⟩)
end
end Go.Proofs.Ytibolgpaolnheac
namespace Go.Proofs.Ytibolgpaolnheac
set_option linter.unusedVariables false
set_option linter.unusedSimpArgs false
open Go.RowKit Go.Shelf
section
set_option maxHeartbeats 3200000
set_option maxRecDepth 100000
/-- the pages up to s's and how many entries of the last of them are not above s -/
theorem upTo_t (x : Value) (b o : Nat) (n cap : Nat) (P : List (List Ent)) (s1 s2 : Nat) (w : World) (hx : PgV w x (some ⟨b, o, none⟩) n cap) (hn : n = P.length) (hcap : n ≤ cap) (h0 : 0 < n) (hp : RdP w (some ⟨b, o, none⟩) P) (hsp : SP P) (hl : n ≤ 4398046511104) (hlp : ∀ p ∈ P, p.length ≤ 100) :
    Calls Try.prog 53 #[x, sv (s1, s2)] w fun e w' => ∃ (p i : Nat) (ok : Bool), e = .returned (.tuple #[.slice (some ⟨b, o, none⟩) (p + 1) cap, .int .i64 ((if ok then i + 1 else i : Nat) : Int)]) ∧ PlaceIs P (s1, s2) p i ok ∧ p < n ∧ Below w.heap.size w w' := by
  obtain ⟨w1, hw1⟩ : ∃ X : World, X = w.alloc (.cells #[.int .u64 (s1 : Int), .int .u64 (s2 : Int)] tSt) := ⟨_, rfl⟩
  have hb1 : Below w.heap.size w w1 := by rw [hw1]; exact al (Below.refl _ _) _
  have HPL : Hid _ := place_t x (some ⟨b, o, none⟩) n cap P (s1, s2) w1 (hx.below hb1) hn (hp.below hb1) hsp hl hlp
  have HX : Hid (PgV w x (some ⟨b, o, none⟩) n cap) := hx
  have HB1 : Hid _ := hb1
  have HN : Hid _ := hn
  have HLP : Hid (∀ p ∈ P, p.length ≤ 100) := hlp
  clear hx hp hsp hlp hn hb1
  go_enter Try.func53, Try.ntmps53
  go_wp2_with fail
  rw [← hw1]
  refine Calls.mono HPL.out ?_
  rintro e w2 ⟨p, i, ok, rfl, hpl, hb2⟩
  have hpn : p < n := by
    rcases hpl with ⟨h1, -⟩ | ⟨r, -, -, h3, -⟩
    · have := HN.out; rw [h1] at this; simp at this; omega
    · have := HN.out; omega
  have hi : i ≤ 100 := by
    rcases hpl with ⟨h1, -⟩ | ⟨r, -, -, h3, h4, -⟩
    · have := HN.out; rw [h1] at this; simp at this; omega
    · refine Nat.le_trans h4.1 ?_
      have e9 : P.getD p [] = P[p] := by simp [List.getD, h3]
      rw [e9]; exact HLP.out _ (List.getElem_mem _)
  have HB2 : Hid (Below w.heap.size w w2) := below_next HB1.out hb2
  have HA : Hid _ := all_t x (some ⟨b, o, none⟩) n cap w2 (PgV.below HX.out HB2.out)
  have HP : Hid (∀ k, k = ok → PlaceIs P (s1, s2) p i k) := fun k e => e ▸ hpl
  clear hpl hb2 hw1
  cases ok
  · go_wp2_with fail
    refine Calls.mono HA.out ?_
    rintro e z ⟨rfl, hz⟩
    have hz := hz.symm
    subst hz
    go_wp2
    refine bodyPost_ret (results_tmp2 rfl _ _ _) rfl ?_
    exact ⟨p, i, false, by simp, HP.out _ rfl, hpn, HB2.out⟩
  · go_wp2_with fail
    refine Calls.mono HA.out ?_
    rintro e z ⟨rfl, hz⟩
    have hz := hz.symm
    subst hz
    go_wp2
    refine bodyPost_ret (results_tmp2 rfl _ _ _) rfl ?_
    exact ⟨p, i, true, by simp, HP.out _ rfl, hpn, HB2.out⟩
end
end Go.Proofs.Ytibolgpaolnheac
namespace Go.Proofs.Ytibolgpaolnheac
set_option linter.unusedVariables false
set_option linter.unusedSimpArgs false
open Go.RowKit Go.Shelf
section
set_option maxHeartbeats 3200000
set_option maxRecDepth 100000
theorem falling_t (pa : Option Addr) (np cap count : Nat) (w : World) : Calls Try.prog 52 #[.slice pa np cap, .int .i64 (count : Int)] w fun e w' => e = .returned (.func (.func 64) #[] #[.pointer (some ⟨w.heap.size, 0, none⟩), .pointer (some ⟨w.heap.size + 1, 0, none⟩)]) ∧ w' = (w.alloc (.cells #[.slice pa np cap] tPs)).alloc (.cells #[.int .i64 (count : Int)] 3) := by
  go_enter Try.func52, Try.ntmps52
  go_wp2
  go_ret
  exact ⟨rfl, rfl⟩
/-- an index of no pages: nil, or a row of which nothing is left -/
theorem from0_t (x : Value) (pa : Option Addr) (cap : Nat) (hpa : (pa = none ∧ cap = 0) ∨ (∃ b o, pa = some ⟨b, o, none⟩)) (s1 s2 : Nat) (w : World) (hx : PgV w x pa 0 cap) :
    Calls Try.prog 51 #[x, sv (s1, s2)] w fun e w' => e = .returned (.tuple #[.slice pa 0 cap, .int .i64 0]) ∧ Below w.heap.size w w' := by
  obtain ⟨w1, hw1⟩ : ∃ X : World, X = w.alloc (.cells #[.int .u64 (s1 : Int), .int .u64 (s2 : Int)] tSt) := ⟨_, rfl⟩
  have hb1 : Below w.heap.size w w1 := by rw [hw1]; exact al (Below.refl _ _) _
  have HPL : Hid _ := place_t x pa 0 cap [] (s1, s2) w1 (hx.below hb1) rfl (fun j hj => by simp at hj) ⟨by simp, by simp [SP]⟩ (by omega) (by simp)
  have HX : Hid (PgV w x pa 0 cap) := hx
  have HB1 : Hid _ := hb1
  clear hx hb1
  go_enter Try.func51, Try.ntmps51
  go_wp2_with fail
  rw [← hw1]
  refine Calls.mono HPL.out ?_
  rintro e w2 ⟨p, i, ok, rfl, hpl, hb2⟩
  obtain ⟨rfl, rfl⟩ : p = 0 ∧ i = 0 := by
    rcases hpl with ⟨-, h1, h2, -⟩ | ⟨r, -, -, h3, -⟩
    · exact ⟨h1, h2⟩
    · simp at h3
  have HB2 : Hid (Below w.heap.size w w2) := below_next HB1.out hb2
  have HA : Hid _ := all_t x pa 0 cap w2 (PgV.below HX.out HB2.out)
  clear hpl hb2 hw1
  go_wp2_with fail
  refine Calls.mono HA.out ?_
  rintro e z ⟨rfl, hz⟩
  have hz := hz.symm
  subst hz
  rcases hpa with ⟨rfl, rfl⟩ | ⟨b, o, rfl⟩
  · go_wp2
    refine bodyPost_ret (results_tmp2 rfl _ _ _) rfl ?_
    exact ⟨by simp, HB2.out⟩
  · by_cases hc2 : cap = 0
    · subst hc2
      go_wp2
      refine bodyPost_ret (results_tmp2 rfl _ _ _) rfl ?_
      exact ⟨by simp, HB2.out⟩
    · go_wp2
      refine bodyPost_ret (results_tmp2 rfl _ _ _) rfl ?_
      exact ⟨by simp, HB2.out⟩
theorem upTo0_t (x : Value) (pa : Option Addr) (cap : Nat) (hpa : (pa = none ∧ cap = 0) ∨ (∃ b o, pa = some ⟨b, o, none⟩)) (s1 s2 : Nat) (w : World) (hx : PgV w x pa 0 cap) :
    Calls Try.prog 53 #[x, sv (s1, s2)] w fun e w' => e = .returned (.tuple #[.slice pa 0 cap, .int .i64 0]) ∧ Below w.heap.size w w' := by
  obtain ⟨w1, hw1⟩ : ∃ X : World, X = w.alloc (.cells #[.int .u64 (s1 : Int), .int .u64 (s2 : Int)] tSt) := ⟨_, rfl⟩
  have hb1 : Below w.heap.size w w1 := by rw [hw1]; exact al (Below.refl _ _) _
  have HPL : Hid _ := place_t x pa 0 cap [] (s1, s2) w1 (hx.below hb1) rfl (fun j hj => by simp at hj) ⟨by simp, by simp [SP]⟩ (by omega) (by simp)
  have HX : Hid (PgV w x pa 0 cap) := hx
  have HB1 : Hid _ := hb1
  clear hx hb1
  go_enter Try.func53, Try.ntmps53
  go_wp2_with fail
  rw [← hw1]
  refine Calls.mono HPL.out ?_
  rintro e w2 ⟨p, i, ok, rfl, hpl, hb2⟩
  obtain ⟨rfl, rfl, rfl⟩ : p = 0 ∧ i = 0 ∧ ok = false := by
    rcases hpl with ⟨-, h1, h2, h3⟩ | ⟨r, -, -, h3, -⟩
    · exact ⟨h1, h2, h3⟩
    · simp at h3
  have HB2 : Hid (Below w.heap.size w w2) := below_next HB1.out hb2
  have HA : Hid _ := all_t x pa 0 cap w2 (PgV.below HX.out HB2.out)
  clear hpl hb2 hw1
  go_wp2_with fail
  refine Calls.mono HA.out ?_
  rintro e z ⟨rfl, hz⟩
  have hz := hz.symm
  subst hz
  rcases hpa with ⟨rfl, rfl⟩ | ⟨b, o, rfl⟩
  · go_wp2
    refine bodyPost_ret (results_tmp2 rfl _ _ _) rfl ?_
    exact ⟨by simp, HB2.out⟩
  · by_cases hc2 : cap = 0
    · subst hc2
      go_wp2
      refine bodyPost_ret (results_tmp2 rfl _ _ _) rfl ?_
      exact ⟨by simp, HB2.out⟩
    · go_wp2
      refine bodyPost_ret (results_tmp2 rfl _ _ _) rfl ?_
      exact ⟨by simp, HB2.out⟩
end
end Go.Proofs.Ytibolgpaolnheac
