import Derived.Test.YtibolgpaolnheaaQPl
import Derived.Test.YtibolgpaolnheaaZQS
namespace Go.Proofs.Ytibolgpaolnheaa.Str
set_option linter.unusedVariables false
set_option linter.unusedSimpArgs false
open Go.RowKit
section
set_option maxRecDepth 20000
theorem all_t (x : Value) (pa : Option Addr) (n cap : Nat) (w : World) (h : PgV w x pa n cap) : Calls Try.prog 49 #[x] w fun e w' => e = .returned (.slice pa n cap) ∧ w' = w := by
  rcases h with ⟨rfl, rfl, rfl, rfl⟩ | ⟨g, rfl, h⟩
  · go_enter Try.func49, Try.ntmps49
    go_wp2
    go_ret
    exact ⟨rfl, rfl⟩
  · go_enter Try.func49, Try.ntmps49
    go_wp2
    go_ret
    exact ⟨rfl, rfl⟩
set_option maxHeartbeats 3200000 in
theorem place_t (x : Value) (pa : Option Addr) (n cap : Nat) (P : List (List Ent)) (s : St) (w : World) (hx : PgV w x pa n cap) (hn : n = P.length) (hp : RdP w pa P) (hsp : SP P) (hl : n ≤ 4398046511104) (hlp : ∀ p ∈ P, p.length ≤ 100) :
    Calls Try.prog 20 #[x, sv s] w fun e w' => ∃ (p i : Nat) (ok : Bool), e = .returned (.tuple #[.int .i64 (p : Int), .int .i64 (i : Int), .bool ok]) ∧ PlaceIs P s p i ok ∧ Below w.heap.size w w' := by
  obtain ⟨s1, s2⟩ := s
  obtain ⟨w1, hw1⟩ : ∃ X : World, X = w.alloc (.cells #[.int .u64 (s1 : Int), .int .u64 (s2 : Int)] tSt) := ⟨_, rfl⟩
  have hb1 : Below w.heap.size w w1 := by rw [hw1]; exact al (Below.refl _ _) _
  have HA : Hid _ := all_t x pa n cap w1 (hx.below hb1)
  obtain ⟨w2, hw2⟩ : ∃ X : World, X = w1.alloc (.cells #[.slice pa n cap] tPs) := ⟨_, rfl⟩
  have hb2 : Below w.heap.size w w2 := by rw [hw2]; exact al hb1 _
  have hc3 : w2.rangeAt w.heap.size 0 (sc (s1, s2)) := by rw [hw2, hw1]; exact box_range (two_new w _ _).1
  have hc7 : w2.cell? ⟨w.heap.size + 1, 0, none⟩ = some (.slice pa n cap) := by rw [hw2, hw1, cell_of_row _ _ _ _ _ _ (two_new w _ _).2]; rfl
  have HB2 : Hid _ := hb2
  have HN : Hid (n = P.length) := hn
  have HSP : Hid (SP P) := hsp
  have HLP : Hid (∀ p ∈ P, p.length ≤ 100) := hlp
  have HP2 : Hid (RdP w2 pa P) := hp.below hb2
  have HS1 : Hid _ := search1_t (.pointer (some ⟨w.heap.size, 0, none⟩)) (.pointer (some ⟨w.heap.size + 1, 0, none⟩)) n (pr1 P (s1, s2)) w2 hl (fun a b h1 h2 h3 => hsp.mono1 _ a b h1 (by omega) h3) (fun i u hi hu => place1_t w.heap.size (w.heap.size + 1) (s1, s2) pa n cap P i u hn hi (rangeAt_below hc3 hu) ((hu.cell (World.block_lt_of_cell? w2 _ hc7)).trans hc7) ((hp.below hb2).below hu) hsp.1)
  have HC3 : Hid _ := hc3
  have HC7 : Hid _ := hc7
  clear hb1 hb2 hn hsp hlp hp hx hc3 hc7
  go_enter Try.func20, Try.ntmps20
  go_wp2_with fail
  rw [← hw1]
  refine Calls.mono HA.out ?_
  rintro e z ⟨rfl, hz⟩
  have hz := hz.symm
  subst hz
  by_cases h0 : n = 0
  · have hn0 : (n : Int) = 0 := by omega
    subst h0
    go_wp2
    refine bodyPost_ret (results_tmp3 rfl _ _ _) rfl ?_
    exact ⟨0, 0, false, rfl, .inl ⟨List.eq_nil_of_length_eq_zero HN.out.symm, rfl, rfl, rfl⟩, by rw [hw2, hw1] at HB2; exact HB2.out⟩
  · have hn0 : ¬ (n : Int) = 0 := by omega
    have hnb : ((n : Int) == 0) = false := by simpa using hn0
    go_wp2_with fail
    rw [← hw1, ← hw2]
    clear hw1 hw2
    refine Calls.mono HS1.out ?_
    rintro e w3 ⟨r, rfl, hf, hb3⟩
    by_cases hr0 : r = 0
    · have hmx : IntKind.i64.wrap ((r : Int) - 1) = -1 := by rw [IntKind.wrap_i64]; omega
      have hpP : 0 < P.length := by have := HN.out; omega
      have hpi : (0 : Int) < (n : Int) := by omega
      have HF : Hid (Found n (pr1 P (s1, s2)) r ∧ 0 = r - 1) := ⟨hf, by omega⟩
      have HR0 : Hid _ := hr0
      clear hr0
      obtain ⟨b, o, rfl, a, c, hc, hkc, hnc, hr⟩ := HP2.out 0 hpP
      have hcp : w3.cell? ⟨b, o, none⟩ = some (.slice a P[0].length c) := (hb3.cell (World.block_lt_of_cell? w2 _ hc)).trans hc
      obtain ⟨K, hK⟩ : ∃ K : Nat, K = P[0].length := ⟨_, rfl⟩
      rw [← hK] at hcp
      have hc7 : w3.cell? ⟨w.heap.size + 1, 0, none⟩ = some (.slice (some ⟨b, o, none⟩) n cap) := (hb3.cell (World.block_lt_of_cell? w2 _ HC7.out)).trans HC7.out
      have hKl : K ≤ 100 := by rw [hK]; exact HLP.out _ (List.getElem_mem hpP)
      have HK : Hid (K = P[0].length) := hK
      have HR : Hid (RdE w3 a P[0]) := hr.below hb3
      have HB3 : Hid (Below w.heap.size w w3) := below_next HB2.out hb3
      obtain ⟨N9, hN9⟩ : ∃ N9 : Nat, N9 = w3.heap.size := ⟨_, rfl⟩
      obtain ⟨w4, hw4⟩ : ∃ X : World, X = w3.alloc (.cells #[.slice a K c] tPg) := ⟨_, rfl⟩
      have hb4 : Below w3.heap.size w3 w4 := by rw [hw4]; exact al (Below.refl _ _) _
      have hc9 : w4.cell? ⟨N9, 0, none⟩ = some (.slice a K c) := by rw [hw4, hN9, cell_of_row _ _ _ _ _ _ (heap_alloc_new w3 _)]; rfl
      have hc3 : w4.rangeAt w.heap.size 0 (sc (s1, s2)) := rangeAt_below (rangeAt_below HC3.out hb3) hb4
      have HPG : Hid (P[0].Pairwise fun a b => ltS a.st b.st = true) := HSP.out.page (List.getElem_mem hpP)
      have HS2 : Hid _ := search2_t (.pointer (some ⟨N9, 0, none⟩)) (.pointer (some ⟨w.heap.size, 0, none⟩)) K (pr2 P[0] (s1, s2)) w4 (by omega) (fun a b h1 h2 h3 => mono2 HPG.out _ a b h1 (by omega) h3) (fun i u hi hu => place2_t w.heap.size N9 (s1, s2) a K c P[0] i u hK hi (rangeAt_below hc3 hu) ((hu.cell (World.block_lt_of_cell? w4 _ hc9)).trans hc9) ((HR.out.below hb4).below hu))
      have HR4 : Hid (RdE w4 a P[0]) := HR.out.below hb4
      have HB4 : Hid (Below w.heap.size w w4) := below_next HB3.out hb4
      have HC3' : Hid (w4.rangeAt w.heap.size 0 (sc (s1, s2))) := hc3
      have HC9 : Hid (w4.cell? ⟨N9, 0, none⟩ = some (.slice a K c)) := hc9
      clear hf hb3 hb4 hc hkc hnc hr hK hc9 hc3 HC3 HC7 HP2 HA HS1 HR HB3
      go_wp2_with fail
      rw [← hw4, ← hN9]
      clear hw4 hN9 hcp hc7
      refine Calls.mono HS2.out ?_
      rintro e w5 ⟨i, rfl, hf2, hb5⟩
      have hc9A : ∀ u, Below w5.heap.size w5 u → u.cell? ⟨N9, 0, none⟩ = some (.slice a K c) := fun u hu => ((below_next hb5 hu).cell (World.block_lt_of_cell? w4 _ HC9.out)).trans HC9.out
      have hl3 : ∀ u, Below w5.heap.size w5 u → (Instr.loadAt tSt (.pointer (some ⟨w.heap.size, 0, none⟩))).run Try.prog u = .ok (sv (s1, s2)) u := fun u hu => load_st u _ _ (s1, s2) (rangeAt_below HC3'.out (below_next hb5 hu))
      have HF2 : Hid (Found K (pr2 P[0] (s1, s2)) i) := hf2
      have HB5 : Hid (Below w.heap.size w w5) := below_next HB4.out hb5
      have eP : P.getD 0 [] = P[0] := by simp [List.getD, hpP]
      by_cases hiK : i < K
      · have hiKi : (i : Int) < (K : Int) := by omega
        have hi0 : (0 : Int) ≤ (i : Int) := by omega
        have hiP : i < P[0].length := by have := HK.out; omega
        obtain ⟨b2, o2, rfl, hr2, -⟩ := HR4.out i hiP
        have hr3 := rangeAt_below (range_st hr2) hb5
        obtain ⟨t1, t2, ht⟩ : ∃ t1 t2, P[0][i].st = (t1, t2) := ⟨_, _, rfl⟩
        rw [ht] at hr3
        have hl4 : ∀ u, Below w5.heap.size w5 u → (Instr.loadAt tSt (.pointer (some ⟨b2, o2 + i * 3, none⟩))).run Try.prog u = .ok (sv (t1, t2)) u := fun u hu => load_st u _ _ (t1, t2) (rangeAt_below hr3 hu)
        have HT : Hid (P[0][i].st = (t1, t2)) := ht
        obtain ⟨q, hq⟩ : ∃ q : Bool, q = decide (t1 = s1 ∧ t2 = s2) := ⟨_, rfl⟩
        have HQ : Hid (q = decide (t1 = s1 ∧ t2 = s2)) := hq
        clear hq
        clear hf2 hb5 ht hr2 hr3 HR4
        go_wp2_with fail
        refine wp_region_noPanic ?_
        refine wp_region_held_drew (S := (fun u => Below w5.heap.size w5 u)) (by kernel_rfl) (by first | exact (Below.refl _ _).drew | assumption) (fun hHeld => ?_)
        refine take_at (i := 0) 30 (v := ?_) rfl rfl (by kernel_rfl) (by kernel_rfl) (by kernel_rfl) (fun _ _ _ h => h) (by rfl) ?_ hHeld ?_
        rotate_left
        · (intro w hSw; (try dsimp only at hSw); go_simp; try with_reducible rfl)
        simp only [Act.put, List.setIfInBounds_toArray, List.set_cons_zero, List.set_cons_succ]
        refine take_at (i := 1) 31 (v := ?_) rfl rfl (by kernel_rfl) (by kernel_rfl) (by kernel_rfl) (fun _ _ _ h => h) (by rfl) ?_ hHeld ?_
        rotate_left
        · (intro w hSw; (try dsimp only at hSw); go_simp; try with_reducible rfl)
        simp only [Act.put, List.setIfInBounds_toArray, List.set_cons_zero, List.set_cons_succ]
        refine take_at (i := 2) 32 (v := ?_) rfl rfl (by kernel_rfl) (by kernel_rfl) (by kernel_rfl) (fun _ _ _ h => h) (by rfl) ?_ hHeld ?_
        rotate_left
        · (intro w hSw; (try dsimp only at hSw); go_simp; try with_reducible rfl)
        simp only [Act.put, List.setIfInBounds_toArray, List.set_cons_zero, List.set_cons_succ]
        refine take_at (i := 3) 33 (v := ?_) rfl rfl (by kernel_rfl) (by kernel_rfl) (by kernel_rfl) (fun _ _ _ h => h) (by rfl) ?_ hHeld ?_
        rotate_left
        · (intro w hSw; have h9 := hc9A w hSw; (try dsimp only at hSw); go_simp; try with_reducible rfl)
        simp only [Act.put, List.setIfInBounds_toArray, List.set_cons_zero, List.set_cons_succ]
        refine take_at (i := 4) 34 (v := ?_) rfl rfl (by kernel_rfl) (by kernel_rfl) (by kernel_rfl) (fun _ _ _ h => h) (by rfl) ?_ hHeld ?_
        rotate_left
        · (intro w hSw; (try dsimp only at hSw); go_simp; try with_reducible rfl)
        simp only [Act.put, List.setIfInBounds_toArray, List.set_cons_zero, List.set_cons_succ]
        refine take_at (i := 5) 35 (v := ?_) rfl rfl (by kernel_rfl) (by kernel_rfl) (by kernel_rfl) (fun _ _ _ h => h) (by rfl) ?_ hHeld ?_
        rotate_left
        · (intro w hSw; (try dsimp only at hSw); go_simp; try with_reducible rfl)
        simp only [Act.put, List.setIfInBounds_toArray, List.set_cons_zero, List.set_cons_succ]
        refine take_at (i := 6) 36 (v := ?_) rfl rfl (by kernel_rfl) (by kernel_rfl) (by kernel_rfl) (fun _ _ _ h => h) (by rfl) ?_ hHeld ?_
        rotate_left
        · (intro w hSw; (try dsimp only at hSw); go_simp; try with_reducible rfl)
        simp only [Act.put, List.setIfInBounds_toArray, List.set_cons_zero, List.set_cons_succ]
        refine take_at (i := 7) 37 (v := ?_) rfl rfl (by kernel_rfl) (by kernel_rfl) (by kernel_rfl) (fun _ _ _ h => h) (by rfl) ?_ hHeld ?_
        rotate_left
        · (intro w hSw; have h9 := hc9A w hSw; (try dsimp only at hSw); go_simp; try with_reducible rfl)
        simp only [Act.put, List.setIfInBounds_toArray, List.set_cons_zero, List.set_cons_succ]
        refine take_at (i := 8) 38 (v := ?_) rfl rfl (by kernel_rfl) (by kernel_rfl) (by kernel_rfl) (fun _ _ _ h => h) (by rfl) ?_ hHeld ?_
        rotate_left
        · (intro w hSw; (try dsimp only at hSw); go_simp; try with_reducible rfl)
        simp only [Act.put, List.setIfInBounds_toArray, List.set_cons_zero, List.set_cons_succ]
        refine take_at (i := 9) 39 (v := ?_) rfl rfl (by kernel_rfl) (by kernel_rfl) (by kernel_rfl) (fun _ _ _ h => h) (by rfl) ?_ hHeld ?_
        rotate_left
        · (intro w hSw; (try dsimp only at hSw); go_simp; try with_reducible rfl)
        simp only [Act.put, List.setIfInBounds_toArray, List.set_cons_zero, List.set_cons_succ]
        refine take_at (i := 10) 40 (v := ?_) rfl rfl (by kernel_rfl) (by kernel_rfl) (by kernel_rfl) (fun _ _ _ h => h) (by rfl) ?_ hHeld ?_
        rotate_left
        · (intro w hSw; (try dsimp only at hSw); go_simp; try with_reducible rfl)
        simp only [Act.put, List.setIfInBounds_toArray, List.set_cons_zero, List.set_cons_succ]
        refine take_at (i := 11) 41 (v := sv (t1, t2)) rfl rfl (by kernel_rfl) (by kernel_rfl) (by kernel_rfl) (fun _ _ _ h => h) (by rfl) ?_ hHeld ?_
        · (intro w hSw; refine exec_load (by rfl) ?_; exact hl4 w hSw)
        simp only [Act.put, List.setIfInBounds_toArray, List.set_cons_zero, List.set_cons_succ]
        refine take_at (i := 12) 42 (v := sv (s1, s2)) rfl rfl (by kernel_rfl) (by kernel_rfl) (by kernel_rfl) (fun _ _ _ h => h) (by rfl) ?_ hHeld ?_
        · (intro w hSw; refine exec_load (by rfl) ?_; exact hl3 w hSw)
        simp only [Act.put, List.setIfInBounds_toArray, List.set_cons_zero, List.set_cons_succ]
        refine take_at (i := 13) 43 (v := .bool q) rfl rfl (by kernel_rfl) (by kernel_rfl) (by kernel_rfl) (fun _ _ _ h => h) (by rfl) ?_ hHeld ?_
        · (intro w hSw; (try dsimp only at hSw); go_simp; rw [HQ.out]; by_cases e1 : t1 = s1 <;> by_cases e2 : t2 = s2 <;> simp [e1, e2, Int.natCast_inj])
        simp only [Act.put, List.setIfInBounds_toArray, List.set_cons_zero, List.set_cons_succ]
        refine take_at (i := 14) 44 (v := ?_) rfl rfl (by kernel_rfl) (by kernel_rfl) (by kernel_rfl) (fun _ _ _ h => h) (by rfl) ?_ hHeld ?_
        rotate_left
        · (intro w hSw; (try dsimp only at hSw); go_simp; try with_reducible rfl)
        simp only [Act.put, List.setIfInBounds_toArray, List.set_cons_zero, List.set_cons_succ]
        refine take_at (i := 15) 4 (v := ?_) rfl rfl (by kernel_rfl) (by kernel_rfl) (by kernel_rfl) (fun _ _ _ h => h) (by rfl) ?_ hHeld ?_
        rotate_left
        · (intro w hSw; (try dsimp only at hSw); go_simp; try with_reducible rfl)
        simp only [Act.put, List.setIfInBounds_toArray, List.set_cons_zero, List.set_cons_succ]
        refine take_at (i := 16) 5 (v := ?_) rfl rfl (by kernel_rfl) (by kernel_rfl) (by kernel_rfl) (fun _ _ _ h => h) (by rfl) ?_ hHeld ?_
        rotate_left
        · (intro w hSw; (try dsimp only at hSw); go_simp; try with_reducible rfl)
        simp only [Act.put, List.setIfInBounds_toArray, List.set_cons_zero, List.set_cons_succ]
        refine take_at (i := 17) 6 (v := ?_) rfl rfl (by kernel_rfl) (by kernel_rfl) (by kernel_rfl) (fun _ _ _ h => h) (by rfl) ?_ hHeld ?_
        rotate_left
        · (intro w hSw; (try dsimp only at hSw); go_simp; try with_reducible rfl)
        simp only [Act.put, List.setIfInBounds_toArray, List.set_cons_zero, List.set_cons_succ]
        refine wpAnyH_done (by kernel_rfl) ?_ _
        refine NoPanic.normal ?_
        go_wp2
        refine bodyPost_ret (results_tmp3 rfl _ _ _) rfl ?_
        exact ⟨0, i, q, rfl, .inr ⟨r, by rw [← HN.out]; exact HF.out.1, HF.out.2, hpP, by rw [eP, ← HK.out]; exact HF2.out, by rw [eP]; exact ⟨fun h9 => ⟨hiP, by rw [HQ.out] at h9; rw [HT.out]; simpa using h9⟩, fun ⟨_, h9⟩ => by rw [HT.out] at h9; rw [HQ.out]; simpa using h9⟩⟩, below_next HB5.out (Below.refl _ _).drew⟩
      · have hiKi : ¬ (i : Int) < (K : Int) := by omega
        clear hf2 hb5 hl3 HR4
        go_wp2_with fail
        refine wp_region_noPanic ?_
        refine wp_region_held_drew (S := (fun u => Below w5.heap.size w5 u)) (by kernel_rfl) (by first | exact (Below.refl _ _).drew | assumption) (fun hHeld => ?_)
        refine take_at (i := 0) 30 (v := ?_) rfl rfl (by kernel_rfl) (by kernel_rfl) (by kernel_rfl) (fun _ _ _ h => h) (by rfl) ?_ hHeld ?_
        rotate_left
        · (intro w hSw; (try dsimp only at hSw); go_simp; try with_reducible rfl)
        simp only [Act.put, List.setIfInBounds_toArray, List.set_cons_zero, List.set_cons_succ]
        refine take_at (i := 1) 31 (v := ?_) rfl rfl (by kernel_rfl) (by kernel_rfl) (by kernel_rfl) (fun _ _ _ h => h) (by rfl) ?_ hHeld ?_
        rotate_left
        · (intro w hSw; (try dsimp only at hSw); go_simp; try with_reducible rfl)
        simp only [Act.put, List.setIfInBounds_toArray, List.set_cons_zero, List.set_cons_succ]
        refine take_at (i := 2) 32 (v := ?_) rfl rfl (by kernel_rfl) (by kernel_rfl) (by kernel_rfl) (fun _ _ _ h => h) (by rfl) ?_ hHeld ?_
        rotate_left
        · (intro w hSw; (try dsimp only at hSw); go_simp; try with_reducible rfl)
        simp only [Act.put, List.setIfInBounds_toArray, List.set_cons_zero, List.set_cons_succ]
        refine take_at (i := 3) 33 (v := ?_) rfl rfl (by kernel_rfl) (by kernel_rfl) (by kernel_rfl) (fun _ _ _ h => h) (by rfl) ?_ hHeld ?_
        rotate_left
        · (intro w hSw; have h9 := hc9A w hSw; (try dsimp only at hSw); go_simp; try with_reducible rfl)
        simp only [Act.put, List.setIfInBounds_toArray, List.set_cons_zero, List.set_cons_succ]
        refine take_at (i := 4) 34 (v := ?_) rfl rfl (by kernel_rfl) (by kernel_rfl) (by kernel_rfl) (fun _ _ _ h => h) (by rfl) ?_ hHeld ?_
        rotate_left
        · (intro w hSw; (try dsimp only at hSw); go_simp; try with_reducible rfl)
        simp only [Act.put, List.setIfInBounds_toArray, List.set_cons_zero, List.set_cons_succ]
        refine take_at (i := 5) 35 (v := ?_) rfl rfl (by kernel_rfl) (by kernel_rfl) (by kernel_rfl) (fun _ _ _ h => h) (by rfl) ?_ hHeld ?_
        rotate_left
        · (intro w hSw; (try dsimp only at hSw); go_simp; try with_reducible rfl)
        simp only [Act.put, List.setIfInBounds_toArray, List.set_cons_zero, List.set_cons_succ]
        refine take_at (i := 6) 36 (v := ?_) rfl rfl (by kernel_rfl) (by kernel_rfl) (by kernel_rfl) (fun _ _ _ h => h) (by rfl) ?_ hHeld ?_
        rotate_left
        · (intro w hSw; (try dsimp only at hSw); go_simp; try with_reducible rfl)
        simp only [Act.put, List.setIfInBounds_toArray, List.set_cons_zero, List.set_cons_succ]
        refine skip_at (i := 7) 37 rfl rfl (by kernel_rfl) (by kernel_rfl) (by kernel_rfl) (fun _ _ _ h => h) (by rfl) hHeld ?_
        simp only [Act.put, List.setIfInBounds_toArray, List.set_cons_zero, List.set_cons_succ]
        refine skip_at (i := 8) 38 rfl rfl (by kernel_rfl) (by kernel_rfl) (by kernel_rfl) (fun _ _ _ h => h) (by rfl) hHeld ?_
        simp only [Act.put, List.setIfInBounds_toArray, List.set_cons_zero, List.set_cons_succ]
        refine skip_at (i := 9) 39 rfl rfl (by kernel_rfl) (by kernel_rfl) (by kernel_rfl) (fun _ _ _ h => h) (by rfl) hHeld ?_
        simp only [Act.put, List.setIfInBounds_toArray, List.set_cons_zero, List.set_cons_succ]
        refine skip_at (i := 10) 40 rfl rfl (by kernel_rfl) (by kernel_rfl) (by kernel_rfl) (fun _ _ _ h => h) (by rfl) hHeld ?_
        simp only [Act.put, List.setIfInBounds_toArray, List.set_cons_zero, List.set_cons_succ]
        refine skip_at (i := 11) 41 rfl rfl (by kernel_rfl) (by kernel_rfl) (by kernel_rfl) (fun _ _ _ h => h) (by rfl) hHeld ?_
        simp only [Act.put, List.setIfInBounds_toArray, List.set_cons_zero, List.set_cons_succ]
        refine skip_at (i := 12) 42 rfl rfl (by kernel_rfl) (by kernel_rfl) (by kernel_rfl) (fun _ _ _ h => h) (by rfl) hHeld ?_
        simp only [Act.put, List.setIfInBounds_toArray, List.set_cons_zero, List.set_cons_succ]
        refine skip_at (i := 13) 43 rfl rfl (by kernel_rfl) (by kernel_rfl) (by kernel_rfl) (fun _ _ _ h => h) (by rfl) hHeld ?_
        simp only [Act.put, List.setIfInBounds_toArray, List.set_cons_zero, List.set_cons_succ]
        refine take_at (i := 14) 44 (v := ?_) rfl rfl (by kernel_rfl) (by kernel_rfl) (by kernel_rfl) (fun _ _ _ h => h) (by rfl) ?_ hHeld ?_
        rotate_left
        · (intro w hSw; (try dsimp only at hSw); go_simp; try with_reducible rfl)
        simp only [Act.put, List.setIfInBounds_toArray, List.set_cons_zero, List.set_cons_succ]
        refine take_at (i := 15) 4 (v := ?_) rfl rfl (by kernel_rfl) (by kernel_rfl) (by kernel_rfl) (fun _ _ _ h => h) (by rfl) ?_ hHeld ?_
        rotate_left
        · (intro w hSw; (try dsimp only at hSw); go_simp; try with_reducible rfl)
        simp only [Act.put, List.setIfInBounds_toArray, List.set_cons_zero, List.set_cons_succ]
        refine take_at (i := 16) 5 (v := ?_) rfl rfl (by kernel_rfl) (by kernel_rfl) (by kernel_rfl) (fun _ _ _ h => h) (by rfl) ?_ hHeld ?_
        rotate_left
        · (intro w hSw; (try dsimp only at hSw); go_simp; try with_reducible rfl)
        simp only [Act.put, List.setIfInBounds_toArray, List.set_cons_zero, List.set_cons_succ]
        refine take_at (i := 17) 6 (v := ?_) rfl rfl (by kernel_rfl) (by kernel_rfl) (by kernel_rfl) (fun _ _ _ h => h) (by rfl) ?_ hHeld ?_
        rotate_left
        · (intro w hSw; (try dsimp only at hSw); go_simp; try with_reducible rfl)
        simp only [Act.put, List.setIfInBounds_toArray, List.set_cons_zero, List.set_cons_succ]
        refine wpAnyH_done (by kernel_rfl) ?_ _
        refine NoPanic.normal ?_
        go_wp2
        refine bodyPost_ret (results_tmp3 rfl _ _ _) rfl ?_
        exact ⟨0, i, false, rfl, .inr ⟨r, by rw [← HN.out]; exact HF.out.1, HF.out.2, hpP, by rw [eP, ← HK.out]; exact HF2.out, by rw [eP]; exact ⟨fun h9 => (by cases h9), fun ⟨h9, _⟩ => absurd (by have := HK.out; omega : i < K) hiK⟩⟩, below_next HB5.out (Below.refl _ _).drew⟩
    · obtain ⟨p, hpr⟩ : ∃ p : Nat, p = r - 1 := ⟨_, rfl⟩
      have hpn : p < n := by have := hf.1; omega
      have HF : Hid (Found n (pr1 P (s1, s2)) r ∧ p = r - 1) := ⟨hf, hpr⟩
      have hmx : IntKind.i64.wrap ((r : Int) - 1) = (p : Int) := by rw [IntKind.wrap_i64]; omega
      have hpP : p < P.length := by have := HN.out; omega
      have hpi : (p : Int) < (n : Int) := by omega
      have hp0 : (0 : Int) ≤ (p : Int) := by omega
      have hpz : ¬ (p : Int) < 0 := by omega
      clear hpr
      obtain ⟨b, o, rfl, a, c, hc, hkc, hnc, hr⟩ := HP2.out p hpP
      have hcp : w3.cell? ⟨b, o + p, none⟩ = some (.slice a P[p].length c) := (hb3.cell (World.block_lt_of_cell? w2 _ hc)).trans hc
      obtain ⟨K, hK⟩ : ∃ K : Nat, K = P[p].length := ⟨_, rfl⟩
      rw [← hK] at hcp
      have hc7 : w3.cell? ⟨w.heap.size + 1, 0, none⟩ = some (.slice (some ⟨b, o, none⟩) n cap) := (hb3.cell (World.block_lt_of_cell? w2 _ HC7.out)).trans HC7.out
      have hKl : K ≤ 100 := by rw [hK]; exact HLP.out _ (List.getElem_mem hpP)
      have HK : Hid (K = P[p].length) := hK
      have HR : Hid (RdE w3 a P[p]) := hr.below hb3
      have HB3 : Hid (Below w.heap.size w w3) := below_next HB2.out hb3
      obtain ⟨N9, hN9⟩ : ∃ N9 : Nat, N9 = w3.heap.size := ⟨_, rfl⟩
      obtain ⟨w4, hw4⟩ : ∃ X : World, X = w3.alloc (.cells #[.slice a K c] tPg) := ⟨_, rfl⟩
      have hb4 : Below w3.heap.size w3 w4 := by rw [hw4]; exact al (Below.refl _ _) _
      have hc9 : w4.cell? ⟨N9, 0, none⟩ = some (.slice a K c) := by rw [hw4, hN9, cell_of_row _ _ _ _ _ _ (heap_alloc_new w3 _)]; rfl
      have hc3 : w4.rangeAt w.heap.size 0 (sc (s1, s2)) := rangeAt_below (rangeAt_below HC3.out hb3) hb4
      have HPG : Hid (P[p].Pairwise fun a b => ltS a.st b.st = true) := HSP.out.page (List.getElem_mem hpP)
      have HS2 : Hid _ := search2_t (.pointer (some ⟨N9, 0, none⟩)) (.pointer (some ⟨w.heap.size, 0, none⟩)) K (pr2 P[p] (s1, s2)) w4 (by omega) (fun a b h1 h2 h3 => mono2 HPG.out _ a b h1 (by omega) h3) (fun i u hi hu => place2_t w.heap.size N9 (s1, s2) a K c P[p] i u hK hi (rangeAt_below hc3 hu) ((hu.cell (World.block_lt_of_cell? w4 _ hc9)).trans hc9) ((HR.out.below hb4).below hu))
      have HR4 : Hid (RdE w4 a P[p]) := HR.out.below hb4
      have HB4 : Hid (Below w.heap.size w w4) := below_next HB3.out hb4
      have HC3' : Hid (w4.rangeAt w.heap.size 0 (sc (s1, s2))) := hc3
      have HC9 : Hid (w4.cell? ⟨N9, 0, none⟩ = some (.slice a K c)) := hc9
      clear hf hb3 hb4 hc hkc hnc hr hK hc9 hc3 HC3 HC7 HP2 HA HS1 HR HB3
      go_wp2_with fail
      rw [← hw4, ← hN9]
      clear hw4 hN9 hcp hc7
      refine Calls.mono HS2.out ?_
      rintro e w5 ⟨i, rfl, hf2, hb5⟩
      have hc9A : ∀ u, Below w5.heap.size w5 u → u.cell? ⟨N9, 0, none⟩ = some (.slice a K c) := fun u hu => ((below_next hb5 hu).cell (World.block_lt_of_cell? w4 _ HC9.out)).trans HC9.out
      have hl3 : ∀ u, Below w5.heap.size w5 u → (Instr.loadAt tSt (.pointer (some ⟨w.heap.size, 0, none⟩))).run Try.prog u = .ok (sv (s1, s2)) u := fun u hu => load_st u _ _ (s1, s2) (rangeAt_below HC3'.out (below_next hb5 hu))
      have HF2 : Hid (Found K (pr2 P[p] (s1, s2)) i) := hf2
      have HB5 : Hid (Below w.heap.size w w5) := below_next HB4.out hb5
      have eP : P.getD p [] = P[p] := by simp [List.getD, hpP]
      by_cases hiK : i < K
      · have hiKi : (i : Int) < (K : Int) := by omega
        have hi0 : (0 : Int) ≤ (i : Int) := by omega
        have hiP : i < P[p].length := by have := HK.out; omega
        obtain ⟨b2, o2, rfl, hr2, -⟩ := HR4.out i hiP
        have hr3 := rangeAt_below (range_st hr2) hb5
        obtain ⟨t1, t2, ht⟩ : ∃ t1 t2, P[p][i].st = (t1, t2) := ⟨_, _, rfl⟩
        rw [ht] at hr3
        have hl4 : ∀ u, Below w5.heap.size w5 u → (Instr.loadAt tSt (.pointer (some ⟨b2, o2 + i * 3, none⟩))).run Try.prog u = .ok (sv (t1, t2)) u := fun u hu => load_st u _ _ (t1, t2) (rangeAt_below hr3 hu)
        have HT : Hid (P[p][i].st = (t1, t2)) := ht
        obtain ⟨q, hq⟩ : ∃ q : Bool, q = decide (t1 = s1 ∧ t2 = s2) := ⟨_, rfl⟩
        have HQ : Hid (q = decide (t1 = s1 ∧ t2 = s2)) := hq
        clear hq
        clear hf2 hb5 ht hr2 hr3 HR4
        go_wp2_with fail
        refine wp_region_noPanic ?_
        refine wp_region_held_drew (S := (fun u => Below w5.heap.size w5 u)) (by kernel_rfl) (by first | exact (Below.refl _ _).drew | assumption) (fun hHeld => ?_)
        refine take_at (i := 0) 30 (v := ?_) rfl rfl (by kernel_rfl) (by kernel_rfl) (by kernel_rfl) (fun _ _ _ h => h) (by rfl) ?_ hHeld ?_
        rotate_left
        · (intro w hSw; (try dsimp only at hSw); go_simp; try with_reducible rfl)
        simp only [Act.put, List.setIfInBounds_toArray, List.set_cons_zero, List.set_cons_succ]
        refine take_at (i := 1) 31 (v := ?_) rfl rfl (by kernel_rfl) (by kernel_rfl) (by kernel_rfl) (fun _ _ _ h => h) (by rfl) ?_ hHeld ?_
        rotate_left
        · (intro w hSw; (try dsimp only at hSw); go_simp; try with_reducible rfl)
        simp only [Act.put, List.setIfInBounds_toArray, List.set_cons_zero, List.set_cons_succ]
        refine take_at (i := 2) 32 (v := ?_) rfl rfl (by kernel_rfl) (by kernel_rfl) (by kernel_rfl) (fun _ _ _ h => h) (by rfl) ?_ hHeld ?_
        rotate_left
        · (intro w hSw; (try dsimp only at hSw); go_simp; try with_reducible rfl)
        simp only [Act.put, List.setIfInBounds_toArray, List.set_cons_zero, List.set_cons_succ]
        refine take_at (i := 3) 33 (v := ?_) rfl rfl (by kernel_rfl) (by kernel_rfl) (by kernel_rfl) (fun _ _ _ h => h) (by rfl) ?_ hHeld ?_
        rotate_left
        · (intro w hSw; have h9 := hc9A w hSw; (try dsimp only at hSw); go_simp; try with_reducible rfl)
        simp only [Act.put, List.setIfInBounds_toArray, List.set_cons_zero, List.set_cons_succ]
        refine take_at (i := 4) 34 (v := ?_) rfl rfl (by kernel_rfl) (by kernel_rfl) (by kernel_rfl) (fun _ _ _ h => h) (by rfl) ?_ hHeld ?_
        rotate_left
        · (intro w hSw; (try dsimp only at hSw); go_simp; try with_reducible rfl)
        simp only [Act.put, List.setIfInBounds_toArray, List.set_cons_zero, List.set_cons_succ]
        refine take_at (i := 5) 35 (v := ?_) rfl rfl (by kernel_rfl) (by kernel_rfl) (by kernel_rfl) (fun _ _ _ h => h) (by rfl) ?_ hHeld ?_
        rotate_left
        · (intro w hSw; (try dsimp only at hSw); go_simp; try with_reducible rfl)
        simp only [Act.put, List.setIfInBounds_toArray, List.set_cons_zero, List.set_cons_succ]
        refine take_at (i := 6) 36 (v := ?_) rfl rfl (by kernel_rfl) (by kernel_rfl) (by kernel_rfl) (fun _ _ _ h => h) (by rfl) ?_ hHeld ?_
        rotate_left
        · (intro w hSw; (try dsimp only at hSw); go_simp; try with_reducible rfl)
        simp only [Act.put, List.setIfInBounds_toArray, List.set_cons_zero, List.set_cons_succ]
        refine take_at (i := 7) 37 (v := ?_) rfl rfl (by kernel_rfl) (by kernel_rfl) (by kernel_rfl) (fun _ _ _ h => h) (by rfl) ?_ hHeld ?_
        rotate_left
        · (intro w hSw; have h9 := hc9A w hSw; (try dsimp only at hSw); go_simp; try with_reducible rfl)
        simp only [Act.put, List.setIfInBounds_toArray, List.set_cons_zero, List.set_cons_succ]
        refine take_at (i := 8) 38 (v := ?_) rfl rfl (by kernel_rfl) (by kernel_rfl) (by kernel_rfl) (fun _ _ _ h => h) (by rfl) ?_ hHeld ?_
        rotate_left
        · (intro w hSw; (try dsimp only at hSw); go_simp; try with_reducible rfl)
        simp only [Act.put, List.setIfInBounds_toArray, List.set_cons_zero, List.set_cons_succ]
        refine take_at (i := 9) 39 (v := ?_) rfl rfl (by kernel_rfl) (by kernel_rfl) (by kernel_rfl) (fun _ _ _ h => h) (by rfl) ?_ hHeld ?_
        rotate_left
        · (intro w hSw; (try dsimp only at hSw); go_simp; try with_reducible rfl)
        simp only [Act.put, List.setIfInBounds_toArray, List.set_cons_zero, List.set_cons_succ]
        refine take_at (i := 10) 40 (v := ?_) rfl rfl (by kernel_rfl) (by kernel_rfl) (by kernel_rfl) (fun _ _ _ h => h) (by rfl) ?_ hHeld ?_
        rotate_left
        · (intro w hSw; (try dsimp only at hSw); go_simp; try with_reducible rfl)
        simp only [Act.put, List.setIfInBounds_toArray, List.set_cons_zero, List.set_cons_succ]
        refine take_at (i := 11) 41 (v := sv (t1, t2)) rfl rfl (by kernel_rfl) (by kernel_rfl) (by kernel_rfl) (fun _ _ _ h => h) (by rfl) ?_ hHeld ?_
        · (intro w hSw; refine exec_load (by rfl) ?_; exact hl4 w hSw)
        simp only [Act.put, List.setIfInBounds_toArray, List.set_cons_zero, List.set_cons_succ]
        refine take_at (i := 12) 42 (v := sv (s1, s2)) rfl rfl (by kernel_rfl) (by kernel_rfl) (by kernel_rfl) (fun _ _ _ h => h) (by rfl) ?_ hHeld ?_
        · (intro w hSw; refine exec_load (by rfl) ?_; exact hl3 w hSw)
        simp only [Act.put, List.setIfInBounds_toArray, List.set_cons_zero, List.set_cons_succ]
        refine take_at (i := 13) 43 (v := .bool q) rfl rfl (by kernel_rfl) (by kernel_rfl) (by kernel_rfl) (fun _ _ _ h => h) (by rfl) ?_ hHeld ?_
        · (intro w hSw; (try dsimp only at hSw); go_simp; rw [HQ.out]; by_cases e1 : t1 = s1 <;> by_cases e2 : t2 = s2 <;> simp [e1, e2, Int.natCast_inj])
        simp only [Act.put, List.setIfInBounds_toArray, List.set_cons_zero, List.set_cons_succ]
        refine take_at (i := 14) 44 (v := ?_) rfl rfl (by kernel_rfl) (by kernel_rfl) (by kernel_rfl) (fun _ _ _ h => h) (by rfl) ?_ hHeld ?_
        rotate_left
        · (intro w hSw; (try dsimp only at hSw); go_simp; try with_reducible rfl)
        simp only [Act.put, List.setIfInBounds_toArray, List.set_cons_zero, List.set_cons_succ]
        refine take_at (i := 15) 4 (v := ?_) rfl rfl (by kernel_rfl) (by kernel_rfl) (by kernel_rfl) (fun _ _ _ h => h) (by rfl) ?_ hHeld ?_
        rotate_left
        · (intro w hSw; (try dsimp only at hSw); go_simp; try with_reducible rfl)
        simp only [Act.put, List.setIfInBounds_toArray, List.set_cons_zero, List.set_cons_succ]
        refine take_at (i := 16) 5 (v := ?_) rfl rfl (by kernel_rfl) (by kernel_rfl) (by kernel_rfl) (fun _ _ _ h => h) (by rfl) ?_ hHeld ?_
        rotate_left
        · (intro w hSw; (try dsimp only at hSw); go_simp; try with_reducible rfl)
        simp only [Act.put, List.setIfInBounds_toArray, List.set_cons_zero, List.set_cons_succ]
        refine take_at (i := 17) 6 (v := ?_) rfl rfl (by kernel_rfl) (by kernel_rfl) (by kernel_rfl) (fun _ _ _ h => h) (by rfl) ?_ hHeld ?_
        rotate_left
        · (intro w hSw; (try dsimp only at hSw); go_simp; try with_reducible rfl)
        simp only [Act.put, List.setIfInBounds_toArray, List.set_cons_zero, List.set_cons_succ]
        refine wpAnyH_done (by kernel_rfl) ?_ _
        refine NoPanic.normal ?_
        go_wp2
        refine bodyPost_ret (results_tmp3 rfl _ _ _) rfl ?_
        exact ⟨p, i, q, rfl, .inr ⟨r, by rw [← HN.out]; exact HF.out.1, HF.out.2, hpP, by rw [eP, ← HK.out]; exact HF2.out, by rw [eP]; exact ⟨fun h9 => ⟨hiP, by rw [HQ.out] at h9; rw [HT.out]; simpa using h9⟩, fun ⟨_, h9⟩ => by rw [HT.out] at h9; rw [HQ.out]; simpa using h9⟩⟩, below_next HB5.out (Below.refl _ _).drew⟩
      · have hiKi : ¬ (i : Int) < (K : Int) := by omega
        clear hf2 hb5 hl3 HR4
        go_wp2_with fail
        refine wp_region_noPanic ?_
        refine wp_region_held_drew (S := (fun u => Below w5.heap.size w5 u)) (by kernel_rfl) (by first | exact (Below.refl _ _).drew | assumption) (fun hHeld => ?_)
        refine take_at (i := 0) 30 (v := ?_) rfl rfl (by kernel_rfl) (by kernel_rfl) (by kernel_rfl) (fun _ _ _ h => h) (by rfl) ?_ hHeld ?_
        rotate_left
        · (intro w hSw; (try dsimp only at hSw); go_simp; try with_reducible rfl)
        simp only [Act.put, List.setIfInBounds_toArray, List.set_cons_zero, List.set_cons_succ]
        refine take_at (i := 1) 31 (v := ?_) rfl rfl (by kernel_rfl) (by kernel_rfl) (by kernel_rfl) (fun _ _ _ h => h) (by rfl) ?_ hHeld ?_
        rotate_left
        · (intro w hSw; (try dsimp only at hSw); go_simp; try with_reducible rfl)
        simp only [Act.put, List.setIfInBounds_toArray, List.set_cons_zero, List.set_cons_succ]
        refine take_at (i := 2) 32 (v := ?_) rfl rfl (by kernel_rfl) (by kernel_rfl) (by kernel_rfl) (fun _ _ _ h => h) (by rfl) ?_ hHeld ?_
        rotate_left
        · (intro w hSw; (try dsimp only at hSw); go_simp; try with_reducible rfl)
        simp only [Act.put, List.setIfInBounds_toArray, List.set_cons_zero, List.set_cons_succ]
        refine take_at (i := 3) 33 (v := ?_) rfl rfl (by kernel_rfl) (by kernel_rfl) (by kernel_rfl) (fun _ _ _ h => h) (by rfl) ?_ hHeld ?_
        rotate_left
        · (intro w hSw; have h9 := hc9A w hSw; (try dsimp only at hSw); go_simp; try with_reducible rfl)
        simp only [Act.put, List.setIfInBounds_toArray, List.set_cons_zero, List.set_cons_succ]
        refine take_at (i := 4) 34 (v := ?_) rfl rfl (by kernel_rfl) (by kernel_rfl) (by kernel_rfl) (fun _ _ _ h => h) (by rfl) ?_ hHeld ?_
        rotate_left
        · (intro w hSw; (try dsimp only at hSw); go_simp; try with_reducible rfl)
        simp only [Act.put, List.setIfInBounds_toArray, List.set_cons_zero, List.set_cons_succ]
        refine take_at (i := 5) 35 (v := ?_) rfl rfl (by kernel_rfl) (by kernel_rfl) (by kernel_rfl) (fun _ _ _ h => h) (by rfl) ?_ hHeld ?_
        rotate_left
        · (intro w hSw; (try dsimp only at hSw); go_simp; try with_reducible rfl)
        simp only [Act.put, List.setIfInBounds_toArray, List.set_cons_zero, List.set_cons_succ]
        refine take_at (i := 6) 36 (v := ?_) rfl rfl (by kernel_rfl) (by kernel_rfl) (by kernel_rfl) (fun _ _ _ h => h) (by rfl) ?_ hHeld ?_
        rotate_left
        · (intro w hSw; (try dsimp only at hSw); go_simp; try with_reducible rfl)
        simp only [Act.put, List.setIfInBounds_toArray, List.set_cons_zero, List.set_cons_succ]
        refine skip_at (i := 7) 37 rfl rfl (by kernel_rfl) (by kernel_rfl) (by kernel_rfl) (fun _ _ _ h => h) (by rfl) hHeld ?_
        simp only [Act.put, List.setIfInBounds_toArray, List.set_cons_zero, List.set_cons_succ]
        refine skip_at (i := 8) 38 rfl rfl (by kernel_rfl) (by kernel_rfl) (by kernel_rfl) (fun _ _ _ h => h) (by rfl) hHeld ?_
        simp only [Act.put, List.setIfInBounds_toArray, List.set_cons_zero, List.set_cons_succ]
        refine skip_at (i := 9) 39 rfl rfl (by kernel_rfl) (by kernel_rfl) (by kernel_rfl) (fun _ _ _ h => h) (by rfl) hHeld ?_
        simp only [Act.put, List.setIfInBounds_toArray, List.set_cons_zero, List.set_cons_succ]
        refine skip_at (i := 10) 40 rfl rfl (by kernel_rfl) (by kernel_rfl) (by kernel_rfl) (fun _ _ _ h => h) (by rfl) hHeld ?_
        simp only [Act.put, List.setIfInBounds_toArray, List.set_cons_zero, List.set_cons_succ]
        refine skip_at (i := 11) 41 rfl rfl (by kernel_rfl) (by kernel_rfl) (by kernel_rfl) (fun _ _ _ h => h) (by rfl) hHeld ?_
        simp only [Act.put, List.setIfInBounds_toArray, List.set_cons_zero, List.set_cons_succ]
        refine skip_at (i := 12) 42 rfl rfl (by kernel_rfl) (by kernel_rfl) (by kernel_rfl) (fun _ _ _ h => h) (by rfl) hHeld ?_
        simp only [Act.put, List.setIfInBounds_toArray, List.set_cons_zero, List.set_cons_succ]
        refine skip_at (i := 13) 43 rfl rfl (by kernel_rfl) (by kernel_rfl) (by kernel_rfl) (fun _ _ _ h => h) (by rfl) hHeld ?_
        simp only [Act.put, List.setIfInBounds_toArray, List.set_cons_zero, List.set_cons_succ]
        refine take_at (i := 14) 44 (v := ?_) rfl rfl (by kernel_rfl) (by kernel_rfl) (by kernel_rfl) (fun _ _ _ h => h) (by rfl) ?_ hHeld ?_
        rotate_left
        · (intro w hSw; (try dsimp only at hSw); go_simp; try with_reducible rfl)
        simp only [Act.put, List.setIfInBounds_toArray, List.set_cons_zero, List.set_cons_succ]
        refine take_at (i := 15) 4 (v := ?_) rfl rfl (by kernel_rfl) (by kernel_rfl) (by kernel_rfl) (fun _ _ _ h => h) (by rfl) ?_ hHeld ?_
        rotate_left
        · (intro w hSw; (try dsimp only at hSw); go_simp; try with_reducible rfl)
        simp only [Act.put, List.setIfInBounds_toArray, List.set_cons_zero, List.set_cons_succ]
        refine take_at (i := 16) 5 (v := ?_) rfl rfl (by kernel_rfl) (by kernel_rfl) (by kernel_rfl) (fun _ _ _ h => h) (by rfl) ?_ hHeld ?_
        rotate_left
        · (intro w hSw; (try dsimp only at hSw); go_simp; try with_reducible rfl)
        simp only [Act.put, List.setIfInBounds_toArray, List.set_cons_zero, List.set_cons_succ]
        refine take_at (i := 17) 6 (v := ?_) rfl rfl (by kernel_rfl) (by kernel_rfl) (by kernel_rfl) (fun _ _ _ h => h) (by rfl) ?_ hHeld ?_
        rotate_left
        · (intro w hSw; (try dsimp only at hSw); go_simp; try with_reducible rfl)
        simp only [Act.put, List.setIfInBounds_toArray, List.set_cons_zero, List.set_cons_succ]
        refine wpAnyH_done (by kernel_rfl) ?_ _
        refine NoPanic.normal ?_
        go_wp2
        refine bodyPost_ret (results_tmp3 rfl _ _ _) rfl ?_
        exact ⟨p, i, false, rfl, .inr ⟨r, by rw [← HN.out]; exact HF.out.1, HF.out.2, hpP, by rw [eP, ← HK.out]; exact HF2.out, by rw [eP]; exact ⟨fun h9 => (by cases h9), fun ⟨h9, _⟩ => absurd (by have := HK.out; omega : i < K) hiK⟩⟩, below_next HB5.out (Below.refl _ _).drew⟩
end
end Go.Proofs.Ytibolgpaolnheaa.Str
