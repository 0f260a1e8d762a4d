import Derived.Test.YtekfolppahnpoaaTMk
namespace Go.Proofs.Ytekfolppahnpoaa
set_option linter.unusedVariables false
set_option linter.unusedSimpArgs false
open Go.RowKit Go.Maps
variable {W w w' : World} {P : Nat → Nat} {ds : Nat → Dst} {c K : Nat} {F : Key → Row}
theorem cell_ofB {u v : World} {a : Addr} {x : Value} (h : u.cell? a = some x) (hb : Below u.heap.size u v) : v.cell? a = some x := (hb.cell (World.block_lt_of_cell? u _ h)).trans h
theorem rty0 : ety 0 = 5 := rfl
theorem rty2 : ety 2 = 3 := rfl
set_option maxRecDepth 20000 in
set_option maxHeartbeats 6400000 in
theorem stands_t (N : Nat → Nat) (n m : Nat) (h : Tl W w P ds c K N F) (h0 : N 0 = n) (h1 : N 1 = n) (h2 : N 2 = m) (h3 : N 3 = m) (hn : n ≤ 1000) (hm : m ≤ 1000) :
    Calls Try.prog 9 #[.pointer (some ⟨K, 0, none⟩)] w fun e w' => e = .returned (.bool true) ∧ ∃ F', Ds W w' P ds c K F' ∧ Rel N F' ∧ Mrk N F' ∧ Len F' := by
  have HT0 : Hid _ := h
  have HN : Hid (N 0 = n ∧ N 1 = n ∧ N 2 = m ∧ N 3 = m) := ⟨h0, h1, h2, h3⟩
  clear h h0 h1 h2 h3
  go_enter Try.func9, Try.ntmps9
  go_wp2
  go_loopw [3] (fun i wq => ∃ k : Nat, k ≤ n ∧ i = .int .i64 (k : Int) ∧ Below w.heap.size w wq) (fun i _ => n - (intOf i).toNat)
  case atStart => exact ⟨0, Nat.zero_le _, rfl, Below.refl _ _⟩
  case round =>
    obtain ⟨k, hk, rfl, hbw⟩ := hrel
    have HT : Hid _ := HT0.out.below hbw
    have HBW : Hid _ := hbw
    clear hbw
    obtain ⟨aA, capA, eA, gA⟩ := HT.out.d.named HT.out.r 0 (by decide)
    obtain ⟨aB, capB, eB, gB⟩ := HT.out.d.named HT.out.r 1 (by decide)
    have hcA0 := HT.out.d.cellK 0 (by decide)
    have hcB0 := HT.out.d.cellK 1 (by decide)
    rw [eA, HN.out.1] at hcA0
    rw [eB, HN.out.2.1] at hcB0
    rw [HN.out.1] at gA
    rw [HN.out.2.1] at gB
    by_cases hlt : k < n
    · obtain ⟨GA, rfl, hGA⟩ := gA (by omega)
      obtain ⟨GB, rfl, hGB⟩ := gB (by omega)
      obtain ⟨l, hl⟩ := HT.out.n.by0 k (by rw [HN.out.1]; exact hlt)
      have hl2 := (HT.out.n.sm0 k (by rw [HN.out.2.1]; exact hlt)).trans hl
      obtain ⟨a1, c1, e1, r1⟩ := HT.out.d.rdB (0, k) l hl
      obtain ⟨a2, c2, e2, r2⟩ := HT.out.d.rdB (1, k) l hl2
      have hlen := HT.out.ln 0 k (by decide)
      rw [hl, show (bv l).length = l.length by simp [bv]] at hlen
      have hkA := hGA k hlt
      have hkB := hGB k hlt
      rw [e1] at hkA
      rw [e2] at hkB
      have hcA : ∀ u, Below wr.heap.size wr u → u.cell? ⟨K, 0, none⟩ = some (.slice (some ⟨GA, 0, none⟩) n capA) := fun u hu => cell_ofB hcA0 hu
      have hcB : ∀ u, Below wr.heap.size wr u → u.cell? ⟨K, 1, none⟩ = some (.slice (some ⟨GB, 0, none⟩) n capB) := fun u hu => cell_ofB hcB0 hu
      obtain ⟨L, hL⟩ : ∃ L, L = l.length := ⟨_, rfl⟩
      rw [← hL] at hkA hkB
      have hdA : ∀ u, Below wr.heap.size wr u → u.cell? ⟨GA, k, none⟩ = some (.slice a1 L c1) := fun u hu => cell_ofB hkA hu
      have hdB : ∀ u, Below wr.heap.size wr u → u.cell? ⟨GB, k, none⟩ = some (.slice a2 L c2) := fun u hu => cell_ofB hkB hu
      have HLL : Hid _ := hL
      have R1 : Hid _ := r1
      have R2 : Hid _ := r2
      have hk0 : (0 : Int) ≤ (k : Int) := by omega
      have hki : (k : Int) < (n : Int) := by omega
      clear hL r1 r2 e1 e2 hl hl2 hGA hGB eA eB hkA hkB gA gB
      go_wp2_with fail
      refine wp_region_noPanic ?_
      refine wp_region_held_drew (S := (fun u => Below wr.heap.size wr u)) (by kernel_rfl) (by first | exact (Below.refl _ _).drew | assumption) (fun hHeld => ?_)
      refine take_at (i := 0) 24 (v := ?_) rfl rfl (by kernel_rfl) (by kernel_rfl) (by kernel_rfl) (fun _ _ _ h => h) (by rfl) ?_ hHeld ?_
      rotate_left
      · (intro w hSw; (try dsimp only at hSw); go_simp; try with_reducible rfl)
      simp only [Act.put, List.setIfInBounds_toArray, List.set_cons_zero, List.set_cons_succ]
      refine take_at (i := 1) 25 (v := ?_) rfl rfl (by kernel_rfl) (by kernel_rfl) (by kernel_rfl) (fun _ _ _ h => h) (by rfl) ?_ hHeld ?_
      rotate_left
      · (intro w hSw; (try dsimp only at hSw); go_simp; try with_reducible rfl)
      simp only [Act.put, List.setIfInBounds_toArray, List.set_cons_zero, List.set_cons_succ]
      refine take_at (i := 2) 26 (v := ?_) rfl rfl (by kernel_rfl) (by kernel_rfl) (by kernel_rfl) (fun _ _ _ h => h) (by rfl) ?_ hHeld ?_
      rotate_left
      · (intro w hSw; (try dsimp only at hSw); go_simp; try with_reducible rfl)
      simp only [Act.put, List.setIfInBounds_toArray, List.set_cons_zero, List.set_cons_succ]
      refine take_at (i := 3) 27 (v := ?_) rfl rfl (by kernel_rfl) (by kernel_rfl) (by kernel_rfl) (fun _ _ _ h => h) (by rfl) ?_ hHeld ?_
      rotate_left
      · (intro w hSw; (try dsimp only at hSw); go_simp; try with_reducible rfl)
      simp only [Act.put, List.setIfInBounds_toArray, List.set_cons_zero, List.set_cons_succ]
      refine take_at (i := 4) 28 (v := ?_) rfl rfl (by kernel_rfl) (by kernel_rfl) (by kernel_rfl) (fun _ _ _ h => h) (by rfl) ?_ hHeld ?_
      rotate_left
      · (intro w hSw; (try dsimp only at hSw); go_simp; try with_reducible rfl)
      simp only [Act.put, List.setIfInBounds_toArray, List.set_cons_zero, List.set_cons_succ]
      refine take_at (i := 5) 29 (v := ?_) rfl rfl (by kernel_rfl) (by kernel_rfl) (by kernel_rfl) (fun _ _ _ h => h) (by rfl) ?_ hHeld ?_
      rotate_left
      · (intro w hSw; (try dsimp only at hSw); go_simp; try with_reducible rfl)
      simp only [Act.put, List.setIfInBounds_toArray, List.set_cons_zero, List.set_cons_succ]
      refine take_at (i := 6) 30 (v := ?_) rfl rfl (by kernel_rfl) (by kernel_rfl) (by kernel_rfl) (fun _ _ _ h => h) (by rfl) ?_ hHeld ?_
      rotate_left
      · (intro w hSw; (try dsimp only at hSw); go_simp; try with_reducible rfl)
      simp only [Act.put, List.setIfInBounds_toArray, List.set_cons_zero, List.set_cons_succ]
      refine take_at (i := 7) 31 (v := ?_) rfl rfl (by kernel_rfl) (by kernel_rfl) (by kernel_rfl) (fun _ _ _ h => h) (by rfl) ?_ hHeld ?_
      rotate_left
      · (intro w hSw; (try dsimp only at hSw); go_simp; try with_reducible rfl)
      simp only [Act.put, List.setIfInBounds_toArray, List.set_cons_zero, List.set_cons_succ]
      refine take_at (i := 8) 32 (v := ?_) rfl rfl (by kernel_rfl) (by kernel_rfl) (by kernel_rfl) (fun _ _ _ h => h) (by rfl) ?_ hHeld ?_
      rotate_left
      · (intro w hSw; (try dsimp only at hSw); go_simp; try with_reducible rfl)
      simp only [Act.put, List.setIfInBounds_toArray, List.set_cons_zero, List.set_cons_succ]
      refine take_at (i := 9) 33 (v := ?_) rfl rfl (by kernel_rfl) (by kernel_rfl) (by kernel_rfl) (fun _ _ _ h => h) (by rfl) ?_ hHeld ?_
      rotate_left
      · (intro w hSw; (try dsimp only at hSw); go_simp; try with_reducible rfl)
      simp only [Act.put, List.setIfInBounds_toArray, List.set_cons_zero, List.set_cons_succ]
      refine take_at (i := 10) 34 (v := ?_) rfl rfl (by kernel_rfl) (by kernel_rfl) (by kernel_rfl) (fun _ _ _ h => h) (by rfl) ?_ hHeld ?_
      rotate_left
      · (intro w hSw; (try dsimp only at hSw); go_simp; try with_reducible rfl)
      simp only [Act.put, List.setIfInBounds_toArray, List.set_cons_zero, List.set_cons_succ]
      refine take_at (i := 11) 35 (v := ?_) rfl rfl (by kernel_rfl) (by kernel_rfl) (by kernel_rfl) (fun _ _ _ h => h) (by rfl) ?_ hHeld ?_
      rotate_left
      · (intro w hSw; (try dsimp only at hSw); go_simp; try with_reducible rfl)
      simp only [Act.put, List.setIfInBounds_toArray, List.set_cons_zero, List.set_cons_succ]
      refine take_at (i := 12) 36 (v := ?_) rfl rfl (by kernel_rfl) (by kernel_rfl) (by kernel_rfl) (fun _ _ _ h => h) (by rfl) ?_ hHeld ?_
      rotate_left
      · (intro w hSw; (try dsimp only at hSw); go_simp; try with_reducible rfl)
      simp only [Act.put, List.setIfInBounds_toArray, List.set_cons_zero, List.set_cons_succ]
      refine take_at (i := 13) 37 (v := ?_) rfl rfl (by kernel_rfl) (by kernel_rfl) (by kernel_rfl) (fun _ _ _ h => h) (by rfl) ?_ hHeld ?_
      rotate_left
      · (intro w hSw; (try dsimp only at hSw); go_simp; try with_reducible rfl)
      simp only [Act.put, List.setIfInBounds_toArray, List.set_cons_zero, List.set_cons_succ]
      refine run_at (i := 14) rfl (by kernel_rfl) (by rfl) (fun K hK => ?_)
      simp only [List.getElem_toArray, List.getElem_cons_zero, List.getElem_cons_succ]
      go_simp
      (go_at_call 12; refine (byt_n a1 a2 L L c1 c2 l l _ HLL.out HLL.out (Rd.below R1.out (by first | exact (Below.refl _ _).drew | assumption)) (Rd.below R2.out (by first | exact (Below.refl _ _).drew | assumption)) (by omega) (by omega)).mono ?_; rintro e w5 ⟨rfl, hb5⟩; rw [beq_self_eq_true]; have hS5 : Below wr.heap.size wr w5 := below_next (B := wr) (by first | exact (Below.refl _ _).drew | assumption) hb5)
      go_wp2_with fail
      refine hK.out _ _ (by first | exact (Below.refl _ _).drew | assumption) ?_
      clear hK K
      intro hHeld2
      clear hHeld
      have hHeld := hHeld2
      clear hHeld2
      try simp only [Act.put, List.setIfInBounds_toArray, List.set_cons_zero, List.set_cons_succ]
      refine take_at (i := 15) 39 (v := ?_) rfl rfl (by kernel_rfl) (by kernel_rfl) (by kernel_rfl) (fun _ _ _ h => h) (by rfl) ?_ hHeld ?_
      rotate_left
      · (intro w hSw; (try dsimp only at hSw); go_simp; try with_reducible rfl)
      simp only [Act.put, List.setIfInBounds_toArray, List.set_cons_zero, List.set_cons_succ]
      refine wpAnyH_done (by kernel_rfl) ?_ _
      refine NoPanic.normal ?_
      all_goals
        go_wp2
        go_roundw
        case rel => exact ⟨k + 1, by omega, by go_num, below_next HBW.out hS5⟩
        case measure => simp [intOf]; omega
    · obtain rfl : n = k := by omega
      clear gA gB eA eB hcB0
      go_wp2
      go_loopw [4] (fun i wq => ∃ k : Nat, k ≤ m ∧ i = .int .i64 (k : Int) ∧ Below w.heap.size w wq) (fun i _ => m - (intOf i).toNat)
      case atStart => exact ⟨0, Nat.zero_le _, rfl, HBW.out⟩
      case round =>
        obtain ⟨k, hk, rfl, hbw⟩ := hrel
        have HT : Hid _ := HT0.out.below hbw
        have HBW : Hid _ := hbw
        clear hbw
        obtain ⟨aA, capA, eA, gA⟩ := HT.out.d.named HT.out.r 2 (by decide)
        obtain ⟨aB, capB, eB, gB⟩ := HT.out.d.named HT.out.r 3 (by decide)
        have hcA0 := HT.out.d.cellK 2 (by decide)
        have hcB0 := HT.out.d.cellK 3 (by decide)
        rw [eA, HN.out.2.2.1] at hcA0
        rw [eB, HN.out.2.2.2] at hcB0
        rw [HN.out.2.2.1] at gA
        rw [HN.out.2.2.2] at gB
        by_cases hlt : k < m
        · obtain ⟨GA, rfl, hGA⟩ := gA (by omega)
          obtain ⟨GB, rfl, hGB⟩ := gB (by omega)
          obtain ⟨l, hl⟩ := HT.out.n.by2 k (by rw [HN.out.2.2.1]; exact hlt)
          have hl2 := (HT.out.n.sm2 k (by rw [HN.out.2.2.2]; exact hlt)).trans hl
          obtain ⟨a1, c1, e1, r1⟩ := HT.out.d.rdI (2, k) l hl
          obtain ⟨a2, c2, e2, r2⟩ := HT.out.d.rdI (3, k) l hl2
          have hlen := HT.out.ln 2 k (by decide)
          rw [hl, show (iv l).length = l.length by simp [iv]] at hlen
          have hkA := hGA k hlt
          have hkB := hGB k hlt
          rw [e1] at hkA
          rw [e2] at hkB
          have hcA : ∀ u, Below wr.heap.size wr u → u.cell? ⟨K, 2, none⟩ = some (.slice (some ⟨GA, 0, none⟩) m capA) := fun u hu => cell_ofB hcA0 hu
          have hcB : ∀ u, Below wr.heap.size wr u → u.cell? ⟨K, 3, none⟩ = some (.slice (some ⟨GB, 0, none⟩) m capB) := fun u hu => cell_ofB hcB0 hu
          obtain ⟨L, hL⟩ : ∃ L, L = l.length := ⟨_, rfl⟩
          rw [← hL] at hkA hkB
          have hdA : ∀ u, Below wr.heap.size wr u → u.cell? ⟨GA, k, none⟩ = some (.slice a1 L c1) := fun u hu => cell_ofB hkA hu
          have hdB : ∀ u, Below wr.heap.size wr u → u.cell? ⟨GB, k, none⟩ = some (.slice a2 L c2) := fun u hu => cell_ofB hkB hu
          have HLL : Hid _ := hL
          have R1 : Hid _ := r1
          have R2 : Hid _ := r2
          have hk0 : (0 : Int) ≤ (k : Int) := by omega
          have hki : (k : Int) < (m : Int) := by omega
          clear hL r1 r2 e1 e2 hl hl2 hGA hGB eA eB hkA hkB gA gB
          go_wp2_with fail
          refine wp_region_noPanic ?_
          refine wp_region_held_drew (S := (fun u => Below wr.heap.size wr u)) (by kernel_rfl) (by first | exact (Below.refl _ _).drew | assumption) (fun hHeld => ?_)
          refine take_at (i := 0) 49 (v := ?_) rfl rfl (by kernel_rfl) (by kernel_rfl) (by kernel_rfl) (fun _ _ _ h => h) (by rfl) ?_ hHeld ?_
          rotate_left
          · (intro w hSw; (try dsimp only at hSw); go_simp; try with_reducible rfl)
          simp only [Act.put, List.setIfInBounds_toArray, List.set_cons_zero, List.set_cons_succ]
          refine take_at (i := 1) 50 (v := ?_) rfl rfl (by kernel_rfl) (by kernel_rfl) (by kernel_rfl) (fun _ _ _ h => h) (by rfl) ?_ hHeld ?_
          rotate_left
          · (intro w hSw; (try dsimp only at hSw); go_simp; try with_reducible rfl)
          simp only [Act.put, List.setIfInBounds_toArray, List.set_cons_zero, List.set_cons_succ]
          refine take_at (i := 2) 51 (v := ?_) rfl rfl (by kernel_rfl) (by kernel_rfl) (by kernel_rfl) (fun _ _ _ h => h) (by rfl) ?_ hHeld ?_
          rotate_left
          · (intro w hSw; (try dsimp only at hSw); go_simp; try with_reducible rfl)
          simp only [Act.put, List.setIfInBounds_toArray, List.set_cons_zero, List.set_cons_succ]
          refine take_at (i := 3) 52 (v := ?_) rfl rfl (by kernel_rfl) (by kernel_rfl) (by kernel_rfl) (fun _ _ _ h => h) (by rfl) ?_ hHeld ?_
          rotate_left
          · (intro w hSw; (try dsimp only at hSw); go_simp; try with_reducible rfl)
          simp only [Act.put, List.setIfInBounds_toArray, List.set_cons_zero, List.set_cons_succ]
          refine take_at (i := 4) 53 (v := ?_) rfl rfl (by kernel_rfl) (by kernel_rfl) (by kernel_rfl) (fun _ _ _ h => h) (by rfl) ?_ hHeld ?_
          rotate_left
          · (intro w hSw; (try dsimp only at hSw); go_simp; try with_reducible rfl)
          simp only [Act.put, List.setIfInBounds_toArray, List.set_cons_zero, List.set_cons_succ]
          refine take_at (i := 5) 54 (v := ?_) rfl rfl (by kernel_rfl) (by kernel_rfl) (by kernel_rfl) (fun _ _ _ h => h) (by rfl) ?_ hHeld ?_
          rotate_left
          · (intro w hSw; (try dsimp only at hSw); go_simp; try with_reducible rfl)
          simp only [Act.put, List.setIfInBounds_toArray, List.set_cons_zero, List.set_cons_succ]
          refine take_at (i := 6) 55 (v := ?_) rfl rfl (by kernel_rfl) (by kernel_rfl) (by kernel_rfl) (fun _ _ _ h => h) (by rfl) ?_ hHeld ?_
          rotate_left
          · (intro w hSw; (try dsimp only at hSw); go_simp; try with_reducible rfl)
          simp only [Act.put, List.setIfInBounds_toArray, List.set_cons_zero, List.set_cons_succ]
          refine take_at (i := 7) 56 (v := ?_) rfl rfl (by kernel_rfl) (by kernel_rfl) (by kernel_rfl) (fun _ _ _ h => h) (by rfl) ?_ hHeld ?_
          rotate_left
          · (intro w hSw; (try dsimp only at hSw); go_simp; try with_reducible rfl)
          simp only [Act.put, List.setIfInBounds_toArray, List.set_cons_zero, List.set_cons_succ]
          refine take_at (i := 8) 57 (v := ?_) rfl rfl (by kernel_rfl) (by kernel_rfl) (by kernel_rfl) (fun _ _ _ h => h) (by rfl) ?_ hHeld ?_
          rotate_left
          · (intro w hSw; (try dsimp only at hSw); go_simp; try with_reducible rfl)
          simp only [Act.put, List.setIfInBounds_toArray, List.set_cons_zero, List.set_cons_succ]
          refine take_at (i := 9) 58 (v := ?_) rfl rfl (by kernel_rfl) (by kernel_rfl) (by kernel_rfl) (fun _ _ _ h => h) (by rfl) ?_ hHeld ?_
          rotate_left
          · (intro w hSw; (try dsimp only at hSw); go_simp; try with_reducible rfl)
          simp only [Act.put, List.setIfInBounds_toArray, List.set_cons_zero, List.set_cons_succ]
          refine take_at (i := 10) 59 (v := ?_) rfl rfl (by kernel_rfl) (by kernel_rfl) (by kernel_rfl) (fun _ _ _ h => h) (by rfl) ?_ hHeld ?_
          rotate_left
          · (intro w hSw; (try dsimp only at hSw); go_simp; try with_reducible rfl)
          simp only [Act.put, List.setIfInBounds_toArray, List.set_cons_zero, List.set_cons_succ]
          refine take_at (i := 11) 60 (v := ?_) rfl rfl (by kernel_rfl) (by kernel_rfl) (by kernel_rfl) (fun _ _ _ h => h) (by rfl) ?_ hHeld ?_
          rotate_left
          · (intro w hSw; (try dsimp only at hSw); go_simp; try with_reducible rfl)
          simp only [Act.put, List.setIfInBounds_toArray, List.set_cons_zero, List.set_cons_succ]
          refine take_at (i := 12) 61 (v := ?_) rfl rfl (by kernel_rfl) (by kernel_rfl) (by kernel_rfl) (fun _ _ _ h => h) (by rfl) ?_ hHeld ?_
          rotate_left
          · (intro w hSw; (try dsimp only at hSw); go_simp; try with_reducible rfl)
          simp only [Act.put, List.setIfInBounds_toArray, List.set_cons_zero, List.set_cons_succ]
          refine take_at (i := 13) 62 (v := ?_) rfl rfl (by kernel_rfl) (by kernel_rfl) (by kernel_rfl) (fun _ _ _ h => h) (by rfl) ?_ hHeld ?_
          rotate_left
          · (intro w hSw; (try dsimp only at hSw); go_simp; try with_reducible rfl)
          simp only [Act.put, List.setIfInBounds_toArray, List.set_cons_zero, List.set_cons_succ]
          refine run_at (i := 14) rfl (by kernel_rfl) (by rfl) (fun K hK => ?_)
          simp only [List.getElem_toArray, List.getElem_cons_zero, List.getElem_cons_succ]
          go_simp
          (go_at_call 13; refine (ints_n a1 a2 L L c1 c2 l l _ HLL.out HLL.out (Ints.below R1.out (by first | exact (Below.refl _ _).drew | assumption)) (Ints.below R2.out (by first | exact (Below.refl _ _).drew | assumption)) (by omega) (by omega)).mono ?_; rintro e w5 ⟨rfl, hb5⟩; rw [beq_self_eq_true]; have hS5 : Below wr.heap.size wr w5 := below_next (B := wr) (by first | exact (Below.refl _ _).drew | assumption) hb5)
          go_wp2_with fail
          refine hK.out _ _ (by first | exact (Below.refl _ _).drew | assumption) ?_
          clear hK K
          intro hHeld2
          clear hHeld
          have hHeld := hHeld2
          clear hHeld2
          try simp only [Act.put, List.setIfInBounds_toArray, List.set_cons_zero, List.set_cons_succ]
          refine take_at (i := 15) 64 (v := ?_) rfl rfl (by kernel_rfl) (by kernel_rfl) (by kernel_rfl) (fun _ _ _ h => h) (by rfl) ?_ hHeld ?_
          rotate_left
          · (intro w hSw; (try dsimp only at hSw); go_simp; try with_reducible rfl)
          simp only [Act.put, List.setIfInBounds_toArray, List.set_cons_zero, List.set_cons_succ]
          refine wpAnyH_done (by kernel_rfl) ?_ _
          refine NoPanic.normal ?_
          all_goals
            go_wp2
            go_roundw
            case rel => exact ⟨k + 1, by omega, by go_num, below_next HBW.out hS5⟩
            case measure => simp [intOf]; omega
        · obtain rfl : m = k := by omega
          clear gA gB eA eB hcB0
          go_wp2
          go_loopw [5, 6] (fun i _ wq => ∃ (k : Nat) (F' : Key → Row), k ≤ n ∧ i = .int .i64 (k : Int) ∧ Ds W wq P ds c K F' ∧ SameV F F' ∧ MkTo 0 (fun i _ => mkB i) F' k 0) (fun i _ _ => n - (intOf i).toNat)
          case atStart => exact ⟨0, F, Nat.zero_le _, rfl, HT.out.d, SameV.refl F, MkTo.start _ _ _⟩
          case round =>
            obtain ⟨k, F', hk, rfl, hd, hsv, hmk⟩ := hrel
            have HD : Hid _ := hd
            have HS : Hid _ := hsv
            have HM : Hid _ := hmk
            have HR : Hid (Rel N F') := HS.out.rel HT0.out.r
            clear hd hsv hmk
            obtain ⟨aA, capA, eA, gA⟩ := HD.out.named HR.out 0 (by decide)
            have hcA0 := HD.out.cellK 0 (by decide)
            rw [HN.out.1] at eA gA
            rw [eA] at hcA0
            by_cases hlt : k < n
            · obtain ⟨GA, rfl, -⟩ := gA (by omega)
              obtain ⟨a1, c1, e1, g1⟩ := row_slv (N := N) HD.out (0, k)
              obtain ⟨L, hL⟩ : ∃ L, L = (F' (0, k)).xs.length := ⟨_, rfl⟩
              rw [← hL] at e1 g1
              have hlen : L ≤ 9000000 := by have := HT0.out.ln 0 k (by decide); rw [hL, HS.out.l]; exact this
              have HMI : Hid (Mi W wr P ds c K F F' n 0 k 0 (fun i _ => mkB i) (.slice (some ⟨GA, 0, none⟩) n capA) (.slice a1 L c1) L) := ⟨HD.out, HS.out, HM.out, fun e => by omega, eA, e1, hL.symm⟩
              have HG1 : Hid (0 < L → ∃ g, a1 = some ⟨g, 0, none⟩) := fun hp => by obtain ⟨g, e, -⟩ := g1 hp; exact ⟨g, e⟩
              have hk0 : (0 : Int) ≤ (k : Int) := by omega
              have hki : (k : Int) < (n : Int) := by omega
              obtain ⟨q, hq⟩ : ∃ q, q = k % 250 := ⟨_, rfl⟩
              obtain ⟨p, hp⟩ : ∃ p, p = q + 1 := ⟨_, rfl⟩
              obtain ⟨hb1, hb2, hb3⟩ := byte_rem k q p (by omega) hq hp
              have HPV : Hid (.int .u8 (p : Int) = mkB k) := (mkB_val k p (by rw [hp, hq])).symm
              clear hq hp
              clear hL e1 g1 eA gA HD HS HM HR 
              go_wp2
              go_loopw [6] (fun j wq => ∃ (t : Nat) (F' : Key → Row), t ≤ L ∧ j = .int .i64 (t : Int) ∧ Mi W wq P ds c K F F' n 0 k t (fun i _ => mkB i) (.slice (some ⟨GA, 0, none⟩) n capA) (.slice a1 L c1) L) (fun j _ => L - (intOf j).toNat)
              case atStart => exact ⟨0, F', Nat.zero_le _, rfl, HMI.out⟩
              case round =>
                clear hcA0 HMI
                obtain ⟨t, F', ht, rfl, hmi⟩ := hrel
                have hcK := hmi.d.cellK 0 (by decide)
                rw [hmi.v4] at hcK
                have hcG := hmi.d.cellG (hmi.sv.rel HT0.out.r) 0 (by decide) hmi.v4 k (by rw [HN.out.1]; exact hlt)
                rw [hmi.vk] at hcG
                by_cases hlt2 : t < L
                · obtain ⟨g, rfl⟩ := HG1.out (by omega)
                  obtain ⟨a9, c9, e9, g9⟩ := row_slv (N := N) hmi.d (0, k)
                  rw [hmi.lk] at e9 g9
                  obtain ⟨g', e8, h8⟩ := g9 (by omega)
                  rw [hmi.vk] at e9
                  cases e9
                  cases e8
                  obtain ⟨hct, hfz⟩ := h8 t hlt2
                  obtain ⟨x, hx⟩ : ∃ x, (F' (0, k)).xs[t]? = some x := ⟨_, List.getElem?_eq_getElem (by rw [hmi.lk]; exact hlt2)⟩
                  rw [hx] at hct
                  have HMI : Hid _ := hmi
                  clear g9 h8 hx hmi
                  go_wp2
                  go_roundw
                  case rel => exact ⟨t + 1, _, by omega, by go_num, HMI.out.set (by decide) _ c1 rfl hlt2 _ (by first | exact HPV.out | (unfold mkB; congr 1; done) | (unfold mkB; congr 1; omega))⟩
                  case measure => simp [intOf]; omega
                · obtain rfl : L = t := by omega
                  have HMI : Hid _ := hmi
                  clear hmi
                  go_wp2
                  go_roundw
                  case rel => exact ⟨k + 1, F', by omega, by go_num, HMI.out.d, HMI.out.sv, HMI.out.mt.next (by rw [HMI.out.lk]; exact Nat.le_refl _)⟩
                  case measure => simp [intOf]; omega
            · obtain rfl : n = k := by omega
              clear gA eA
              go_wp2
              go_loopw [7, 8] (fun i _ wq => ∃ (k : Nat) (F' : Key → Row), k ≤ m ∧ i = .int .i64 (k : Int) ∧ Ds W wq P ds c K F' ∧ SameV F F' ∧ MkTo 2 mkI F' k 0 ∧ MkTo 0 (fun i _ => mkB i) F' n 0) (fun i _ _ => m - (intOf i).toNat)
              case atStart => exact ⟨0, F', Nat.zero_le _, rfl, HD.out, HS.out, MkTo.start _ _ _, HM.out⟩
              case round =>
                obtain ⟨k, F', hk, rfl, hd, hsv, hmk, hex⟩ := hrel
                have HD : Hid _ := hd
                have HS : Hid _ := hsv
                have HM : Hid _ := hmk
                have HX : Hid _ := hex
                clear hex
                have HR : Hid (Rel N F') := HS.out.rel HT0.out.r
                clear hd hsv hmk
                obtain ⟨aA, capA, eA, gA⟩ := HD.out.named HR.out 2 (by decide)
                have hcA0 := HD.out.cellK 2 (by decide)
                rw [HN.out.2.2.1] at eA gA
                rw [eA] at hcA0
                by_cases hlt : k < m
                · obtain ⟨GA, rfl, -⟩ := gA (by omega)
                  obtain ⟨a1, c1, e1, g1⟩ := row_slv (N := N) HD.out (2, k)
                  obtain ⟨L, hL⟩ : ∃ L, L = (F' (2, k)).xs.length := ⟨_, rfl⟩
                  rw [← hL] at e1 g1
                  have hlen : L ≤ 9000000 := by have := HT0.out.ln 2 k (by decide); rw [hL, HS.out.l]; exact this
                  have HMI : Hid (Mi W wr P ds c K F F' n 2 k 0 mkI (.slice (some ⟨GA, 0, none⟩) m capA) (.slice a1 L c1) L) := ⟨HD.out, HS.out, HM.out, fun _ => HX.out, eA, e1, hL.symm⟩
                  have HG1 : Hid (0 < L → ∃ g, a1 = some ⟨g, 0, none⟩) := fun hp => by obtain ⟨g, e, -⟩ := g1 hp; exact ⟨g, e⟩
                  have hk0 : (0 : Int) ≤ (k : Int) := by omega
                  have hki : (k : Int) < (m : Int) := by omega
                  have hw1 : IntKind.i64.wrap (1000 * (k : Int)) = 1000 * (k : Int) := by rw [IntKind.wrap_i64]; omega
                  clear hL e1 g1 eA gA HD HS HM HR HX
                  go_wp2
                  go_loopw [8] (fun j wq => ∃ (t : Nat) (F' : Key → Row), t ≤ L ∧ j = .int .i64 (t : Int) ∧ Mi W wq P ds c K F F' n 2 k t mkI (.slice (some ⟨GA, 0, none⟩) m capA) (.slice a1 L c1) L) (fun j _ => L - (intOf j).toNat)
                  case atStart => exact ⟨0, F', Nat.zero_le _, rfl, HMI.out⟩
                  case round =>
                    clear hcA0 HMI
                    obtain ⟨t, F', ht, rfl, hmi⟩ := hrel
                    have hcK := hmi.d.cellK 2 (by decide)
                    rw [hmi.v4] at hcK
                    have hcG := hmi.d.cellG (hmi.sv.rel HT0.out.r) 2 (by decide) hmi.v4 k (by rw [HN.out.2.2.1]; exact hlt)
                    rw [hmi.vk] at hcG
                    by_cases hlt2 : t < L
                    · obtain ⟨g, rfl⟩ := HG1.out (by omega)
                      obtain ⟨a9, c9, e9, g9⟩ := row_slv (N := N) hmi.d (2, k)
                      rw [hmi.lk] at e9 g9
                      obtain ⟨g', e8, h8⟩ := g9 (by omega)
                      rw [hmi.vk] at e9
                      cases e9
                      cases e8
                      obtain ⟨hct, hfz⟩ := h8 t hlt2
                      obtain ⟨x, hx⟩ : ∃ x, (F' (2, k)).xs[t]? = some x := ⟨_, List.getElem?_eq_getElem (by rw [hmi.lk]; exact hlt2)⟩
                      rw [hx] at hct
                      have HMI : Hid _ := hmi
                      have hw2 : IntKind.i64.wrap (1000 * (k : Int) + (t : Int)) = ((1000 * k + t : Nat) : Int) := by rw [IntKind.wrap_i64]; omega
                      clear g9 h8 hx hmi
                      go_wp2
                      go_roundw
                      case rel => exact ⟨t + 1, _, by omega, by go_num, HMI.out.set (by decide) _ c1 rfl hlt2 _ (by unfold mkI; congr 1)⟩
                      case measure => simp [intOf]; omega
                    · obtain rfl : L = t := by omega
                      have HMI : Hid _ := hmi
                      clear hmi
                      go_wp2
                      go_roundw
                      case rel => exact ⟨k + 1, F', by omega, by go_num, HMI.out.d, HMI.out.sv, HMI.out.mt.next (by rw [HMI.out.lk]; exact Nat.le_refl _), HMI.out.ex rfl⟩
                      case measure => simp [intOf]; omega
                · obtain rfl : m = k := by omega
                  clear gA eA
                  obtain ⟨F2, hF2⟩ : ∃ F2, F2 = F' := ⟨_, rfl⟩
                  subst hF2
                  have HLN : Hid (Len F2) := HS.out.len HT0.out.ln
                  have HMK : Hid (Mrk N F2) := ⟨fun i hi t ht => HX.out i t (.inl (by rw [HN.out.1] at hi; exact hi)) ht, fun i hi t ht => HM.out i t (.inl (by rw [HN.out.2.2.1] at hi; exact hi)) ht⟩
                  clear HS HM HX
                  go_wp2
                  go_loopw [9, 10, 11] (fun i _ _ wq => ∃ (k : Nat), k ≤ n ∧ i = .int .i64 (k : Int) ∧ Ds W wq P ds c K F2) (fun i _ _ _ => n - (intOf i).toNat)
                  case atStart => exact ⟨0, Nat.zero_le _, rfl, HD.out⟩
                  case round =>
                    obtain ⟨k, hk, rfl, hd⟩ := hrel
                    have HD : Hid _ := hd
                    clear hd
                    obtain ⟨aA, capA, eA, gA⟩ := HD.out.named HR.out 0 (by decide)
                    have hcA0 := HD.out.cellK 0 (by decide)
                    rw [HN.out.1] at eA gA
                    rw [eA] at hcA0
                    by_cases hlt : k < n
                    · obtain ⟨GA, rfl, hGA⟩ := gA (by omega)
                      have hcG := hGA k hlt
                      obtain ⟨a1, c1, e1, g1⟩ := row_slv (N := N) HD.out (0, k)
                      obtain ⟨L, hL⟩ : ∃ L, L = (F2 (0, k)).xs.length := ⟨_, rfl⟩
                      rw [← hL] at e1 g1
                      have hlen : L ≤ 9000000 := by have := HLN.out 0 k (by decide); rw [hL]; exact this
                      rw [e1] at hcG
                      have HMO : Hid (Mo W wr P ds c K F2 (0, k) (.slice a1 L c1) (F2 (0, k)).xs) := by have h9 := Mo.start HD.out (0, k); rw [e1] at h9; exact h9
                      have H40 : Hid ((F2 (0, k)).e = 5) := (HR.out 0 (by decide)).2.2 k
                      have HLL : Hid _ := hL
                      have hk0 : (0 : Int) ≤ (k : Int) := by omega
                      have hki : (k : Int) < (n : Int) := by omega
                      clear hL e1 g1 eA gA HD hGA
                      go_wp2
                      go_loopw [10, 11] (fun mo j wq => ∃ (v : Value) (t : Nat) (ms : List Value), v = mo ∧ t ≤ 64 ∧ j = .int .i64 (t : Int) ∧ ms.length = L + t ∧ Mo W wq P ds c K F2 (0, k) v ms) (fun _ j _ => 64 - (intOf j).toNat)
                      case atStart => exact ⟨_, 0, _, rfl, Nat.zero_le _, rfl, by have := HLL.out; omega, HMO.out⟩
                      case round =>
                        clear hcA0 hcG HMO
                        obtain ⟨vm, t, ms, rfl, ht, rfl, hms, hmo⟩ := hrel
                        by_cases hlt2 : t < 64
                        · obtain ⟨X, hX⟩ : ∃ X : World, X = wr.alloc (.cells #[.int .u8 251] 5) := ⟨_, rfl⟩
                          have hXb : Below wr.heap.size wr X := by rw [hX]; exact al (Below.refl _ _) _
                          have hXr : X.heap[wr.heap.size]? = some (.cells #[.int .u8 251] 5 (0, 0)) := by rw [hX]; exact heap_alloc_new wr _
                          have HMX : Hid _ := hmo.below hXb
                          have HMS : Hid _ := hms
                          clear hmo hXb hms
                          go_wp2_with (at_builtin; rw [← hX]; refine wp_appM rfl _ _ 40 5 (.int .u8 0) 1 Try.underlying40 info5 rfl (by decide) rfl HMX.out (show (0 : Nat) ≠ 4 by decide) H40.out rfl wr.heap.size 1 (.int .u8 251) rfl hXr rfl (by have := HMS.out; omega) ?_; intro v3 w3 hmo3)
                          have HM3 : Hid _ := hmo3
                          clear hmo3
                          go_wp2
                          go_roundw
                          case rel => exact ⟨_, t + 1, ms ++ [.int .u8 251], rfl, by omega, by go_num, by have := HMS.out; simp; omega, HM3.out⟩
                          case measure => simp [intOf]; omega
                        · obtain rfl : t = 64 := by omega
                          obtain ⟨g, cp, rfl, hcp, hce⟩ := hmo.form (by omega)
                          obtain ⟨M, hM⟩ : ∃ M, M = L + 63 := ⟨_, rfl⟩
                          obtain ⟨hsome, hfz⟩ := hce M (by omega)
                          obtain ⟨x, hx⟩ := Option.isSome_iff_exists.1 hsome
                          have hw1 : IntKind.i64.wrap ((ms.length : Int) - 1) = (M : Int) := by rw [IntKind.wrap_i64, hms, hM]; omega
                          have hM1 : (M : Int) < (ms.length : Int) := by omega
                          have hM2 : M < ms.length := by omega
                          have hM0 : (0 : Int) ≤ (M : Int) := by omega
                          have HMO : Hid _ := hmo
                          have HMM : Hid _ := hM
                          have HMS : Hid _ := hms
                          obtain ⟨ml, hml⟩ : ∃ ml, ml = ms.length := ⟨_, rfl⟩
                          rw [← hml] at hw1 hM1 hM2 hcp ⊢
                          have HML : Hid _ := hml
                          clear hmo hce hsome hM hms hml
                          go_wp2
                          go_roundw
                          case rel => exact ⟨k + 1, by omega, by go_num, (HMO.out.set (show (0 : Nat) ≠ 4 by decide) g cp rfl M (by have := HMM.out; have := HLL.out; omega) _).d⟩
                          case measure => simp [intOf]; omega
                    · obtain rfl : n = k := by omega
                      clear gA eA
                      go_wp2
                      go_loopw [12, 13, 14] (fun i _ _ wq => ∃ (k : Nat), k ≤ m ∧ i = .int .i64 (k : Int) ∧ Ds W wq P ds c K F2) (fun i _ _ _ => m - (intOf i).toNat)
                      case atStart => exact ⟨0, Nat.zero_le _, rfl, HD.out⟩
                      case round =>
                        obtain ⟨k, hk, rfl, hd⟩ := hrel
                        have HD : Hid _ := hd
                        clear hd
                        obtain ⟨aA, capA, eA, gA⟩ := HD.out.named HR.out 2 (by decide)
                        have hcA0 := HD.out.cellK 2 (by decide)
                        rw [HN.out.2.2.1] at eA gA
                        rw [eA] at hcA0
                        by_cases hlt : k < m
                        · obtain ⟨GA, rfl, hGA⟩ := gA (by omega)
                          have hcG := hGA k hlt
                          obtain ⟨a1, c1, e1, g1⟩ := row_slv (N := N) HD.out (2, k)
                          obtain ⟨L, hL⟩ : ∃ L, L = (F2 (2, k)).xs.length := ⟨_, rfl⟩
                          rw [← hL] at e1 g1
                          have hlen : L ≤ 9000000 := by have := HLN.out 2 k (by decide); rw [hL]; exact this
                          rw [e1] at hcG
                          have HMO : Hid (Mo W wr P ds c K F2 (2, k) (.slice a1 L c1) (F2 (2, k)).xs) := by have h9 := Mo.start HD.out (2, k); rw [e1] at h9; exact h9
                          have H37 : Hid ((F2 (2, k)).e = 3) := (HR.out 2 (by decide)).2.2 k
                          have HLL : Hid _ := hL
                          have hk0 : (0 : Int) ≤ (k : Int) := by omega
                          have hki : (k : Int) < (m : Int) := by omega
                          clear hL e1 g1 eA gA HD hGA
                          go_wp2
                          go_loopw [13, 14] (fun mo j wq => ∃ (v : Value) (t : Nat) (ms : List Value), v = mo ∧ t ≤ 64 ∧ j = .int .i64 (t : Int) ∧ ms.length = L + t ∧ Mo W wq P ds c K F2 (2, k) v ms) (fun _ j _ => 64 - (intOf j).toNat)
                          case atStart => exact ⟨_, 0, _, rfl, Nat.zero_le _, rfl, by have := HLL.out; omega, HMO.out⟩
                          case round =>
                            clear hcA0 hcG HMO
                            obtain ⟨vm, t, ms, rfl, ht, rfl, hms, hmo⟩ := hrel
                            by_cases hlt2 : t < 64
                            · obtain ⟨X, hX⟩ : ∃ X : World, X = wr.alloc (.cells #[.int .i64 (-7)] 3) := ⟨_, rfl⟩
                              have hXb : Below wr.heap.size wr X := by rw [hX]; exact al (Below.refl _ _) _
                              have hXr : X.heap[wr.heap.size]? = some (.cells #[.int .i64 (-7)] 3 (0, 0)) := by rw [hX]; exact heap_alloc_new wr _
                              have HMX : Hid _ := hmo.below hXb
                              have HMS : Hid _ := hms
                              clear hmo hXb hms
                              go_wp2_with (at_builtin; rw [← hX]; refine wp_appM rfl _ _ 37 3 (.int .i64 0) 8 Try.underlying37 infoI rfl (by decide) rfl HMX.out (show (2 : Nat) ≠ 4 by decide) H37.out rfl wr.heap.size 1 (.int .i64 (-7)) rfl hXr rfl (by have := HMS.out; omega) ?_; intro v3 w3 hmo3)
                              have HM3 : Hid _ := hmo3
                              clear hmo3
                              go_wp2
                              go_roundw
                              case rel => exact ⟨_, t + 1, ms ++ [.int .i64 (-7)], rfl, by omega, by go_num, by have := HMS.out; simp; omega, HM3.out⟩
                              case measure => simp [intOf]; omega
                            · obtain rfl : t = 64 := by omega
                              obtain ⟨g, cp, rfl, hcp, hce⟩ := hmo.form (by omega)
                              obtain ⟨M, hM⟩ : ∃ M, M = L + 63 := ⟨_, rfl⟩
                              obtain ⟨hsome, hfz⟩ := hce M (by omega)
                              obtain ⟨x, hx⟩ := Option.isSome_iff_exists.1 hsome
                              have hw1 : IntKind.i64.wrap ((ms.length : Int) - 1) = (M : Int) := by rw [IntKind.wrap_i64, hms, hM]; omega
                              have hM1 : (M : Int) < (ms.length : Int) := by omega
                              have hM2 : M < ms.length := by omega
                              have hM0 : (0 : Int) ≤ (M : Int) := by omega
                              have HMO : Hid _ := hmo
                              have HMM : Hid _ := hM
                              have HMS : Hid _ := hms
                              obtain ⟨ml, hml⟩ : ∃ ml, ml = ms.length := ⟨_, rfl⟩
                              rw [← hml] at hw1 hM1 hM2 hcp ⊢
                              have HML : Hid _ := hml
                              clear hmo hce hsome hM hms hml
                              go_wp2
                              go_roundw
                              case rel => exact ⟨k + 1, by omega, by go_num, (HMO.out.set (show (2 : Nat) ≠ 4 by decide) g cp rfl M (by have := HMM.out; have := HLL.out; omega) _).d⟩
                              case measure => simp [intOf]; omega
                        · obtain rfl : m = k := by omega
                          clear gA eA
                          go_wp2_with fail
                          refine (hold_t N HD.out HR.out HMK.out HLN.out (by rw [HN.out.1]; omega) (by rw [HN.out.2.2.1]; omega)).mono ?_
                          rintro e w9 ⟨rfl, hq⟩
                          have hq := hq.symm
                          subst hq
                          go_wp2
                          go_ret
                          exact ⟨rfl, F2, HD.out, HR.out, HMK.out, HLN.out⟩
end Go.Proofs.Ytekfolppahnpoaa
