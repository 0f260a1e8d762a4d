import Derived.Test.YtdpkommmkcmifaaGoodT
namespace Go.Proofs.Ytdpkommmkcmifaa
set_option linter.unusedVariables false
set_option linter.unusedSimpArgs false
open Go.RowKit
theorem goodFlags_b (f : Nat) (w : World) : Calls Try.prog 77 #[.int .u64 f] w fun e w' => e = .returned (.bool (decide (f ≤ 255))) ∧ Below w.heap.size w w' :=
  (goodFlags_any f w).mono fun e w' ⟨h1, h2⟩ => ⟨h1, by rw [h2]; exact Below.refl _ _⟩
def blkS (l : List Blk) (x : Blk) : Bool := typeS l x.t && (numbS l x.n && (decide (x.f ≤ 255) && dataS x.t x.d))
def GoodBlks (l : List Blk) : Prop := l.length ≤ 8 ∧ ∀ i (h : i < l.length), blkS (l.take i) l[i] = true
theorem box4b {W : World} {g : Nat} {t : TypeId} {v0 v1 v2 v3 : Value} (h : W.heap[g]? = some (.cells #[v0, v1, v2, v3] t (0, 0))) : (∀ u, Below W.heap.size W u → u.cell? ⟨g, 0, none⟩ = some v0) ∧ (∀ u, Below W.heap.size W u → u.cell? ⟨g, 1, none⟩ = some v1) ∧ (∀ u, Below W.heap.size W u → u.cell? ⟨g, 2, none⟩ = some v2) ∧ (∀ u, Below W.heap.size W u → u.cell? ⟨g, 3, none⟩ = some v3) := by
  refine ⟨fun u hu => ?_, fun u hu => ?_, fun u hu => ?_, fun u hu => ?_⟩ <;> (rw [cell_of_row u g _ _ t _ (box_on h hu)]; rfl)
set_option maxRecDepth 20000 in
theorem goodBlocks_hi (so : Option Addr) (cap : Nat) (l : List Blk) (w : World) (h8 : 8 < l.length) (hn : l.length ≤ 140737488351232) :
    Calls Try.prog 70 #[.slice so l.length cap] w fun e w' => (∃ r : Bool, e = .returned (.bool r) ∧ (r = true ↔ GoodBlks l)) ∧ Below w.heap.size w w' := by
  have HG : Hid (¬ GoodBlks l) := fun h => by have := h.1; omega
  go_enter Try.func70, Try.ntmps70
  go_wp2
  go_ret
  exact ⟨⟨false, rfl, by simp; exact HG.out⟩, Below.refl _ _⟩
set_option maxRecDepth 20000 in
set_option maxHeartbeats 3200000 in
theorem goodBlocks_any (so : Option Addr) (cap : Nat) (l : List Blk) (w : World) (hl : RdBlks w so l) (hlc : l.length ≤ cap) (hnil : so = none → cap = 0) (hok : ∀ x ∈ l, x.ok) (hn : l.length ≤ 140737488351232) :
    Calls Try.prog 70 #[.slice so l.length cap] w fun e w' => (∃ r : Bool, e = .returned (.bool r) ∧ (r = true ↔ GoodBlks l)) ∧ Below w.heap.size w w' := by
  by_cases h8 : 8 < l.length
  · exact goodBlocks_hi so cap l w h8 hn
  go_enter Try.func70, Try.ntmps70
  go_wp2
  go_loopw [10] (fun i wr => ∃ k : Nat, k ≤ l.length ∧ i = .int .i64 k ∧ (∀ j (hj : j < l.length), j < k → blkS (l.take j) l[j] = true) ∧ Below w.heap.size w wr) (fun i _ => l.length - (intOf i).toNat)
  case atStart => exact ⟨0, Nat.zero_le _, rfl, fun j _ h => absurd h (Nat.not_lt_zero j), Below.refl _ _⟩
  case round =>
    obtain ⟨k, hk, rfl, hall, hbel⟩ := hrel
    have HA : Hid (∀ j (hj : j < l.length), j < k → blkS (l.take j) l[j] = true) := hall
    clear hall
    by_cases hlt : k < l.length
    · have HT0 : Hid (RdBlks wr so (l.take k)) := (hl.below hbel).take k
      obtain ⟨b, o, rfl, hx⟩ := hl.at k hlt
      obtain ⟨a, c, h0, h1, h2, h3, hr, hdc, hdn⟩ := hx.below hbel
      have hdl := (hok _ (List.getElem_mem hlt)).2.2.2
      have hkl : k = (l.take k).length := by simp; omega
      have hkc : (k : Int) ≤ (cap : Int) := by omega
      have hkc1 : ¬ cap = k := by omega
      have hkc2 : k ≤ cap := by omega
      obtain ⟨W3, hW3⟩ : ∃ W3 : World, W3 = wr.alloc (.cells #[.int .u64 l[k].t, .int .u64 l[k].n, .int .u64 l[k].f, .slice a l[k].d.length c] 37) := ⟨_, rfl⟩
      have hX3 : W3.heap[wr.heap.size]? = some (.cells #[.int .u64 l[k].t, .int .u64 l[k].n, .int .u64 l[k].f, .slice a l[k].d.length c] 37 (0, 0)) := by rw [hW3]; exact heap_alloc_new _ _
      have hb3 : Below wr.heap.size wr W3 := by rw [hW3]; exact al (Below.refl _ _) _
      obtain ⟨x0, x1, x2, x3⟩ := box4b hX3
      have HX : Hid (Rd W3 a l[k].d) := hr.below hb3
      have HT : Hid (RdBlks W3 (some ⟨b, o, none⟩) (l.take k)) := HT0.out.below hb3
      have HN : Hid (a = none → c = 0) := hdn
      have hself := Below.refl W3.heap.size W3
      have HKL : Hid (k = (l.take k).length) := hkl
      clear hdn hkl
      go_wp2_with fail
      rw [← hW3]
      clear hW3
      rcases hA : typeS (l.take k) l[k].t with _ | _
      · skip
        have HG : Hid (¬ GoodBlks l) := fun h => by have := h.2 k hlt; unfold blkS at this; simp [hA] at this
        refine wp_region_noPanic ?_
        refine wp_region_held_drew (S := (fun u => Below W3.heap.size W3 u)) (by kernel_rfl) (by with_reducible first | assumption | exact (Below.refl _ _).drew) (fun hHeld => ?_)
        refine take_at (i := 0) 15 (v := ?_) rfl rfl (by kernel_rfl) (by kernel_rfl) (by kernel_rfl) (fun _ _ _ h => h) (by rfl) ?_ hHeld ?_
        rotate_left
        · (intro w hSw; (try dsimp only at hSw); go_simp; try with_reducible rfl)
        simp only [Act.put, List.setIfInBounds_toArray, List.set_cons_zero, List.set_cons_succ]
        refine take_at (i := 1) 16 (v := ?_) rfl rfl (by kernel_rfl) (by kernel_rfl) (by kernel_rfl) (fun _ _ _ h => h) (by rfl) ?_ hHeld ?_
        rotate_left
        · (intro w hSw; (try dsimp only at hSw); go_simp; try with_reducible rfl)
        simp only [Act.put, List.setIfInBounds_toArray, List.set_cons_zero, List.set_cons_succ]
        refine take_at (i := 2) 17 (v := ?_) rfl rfl (by kernel_rfl) (by kernel_rfl) (by kernel_rfl) (fun _ _ _ h => h) (by rfl) ?_ hHeld ?_
        rotate_left
        · (intro w hSw; (try dsimp only at hSw); go_simp; try with_reducible rfl)
        simp only [Act.put, List.setIfInBounds_toArray, List.set_cons_zero, List.set_cons_succ]
        refine take_at (i := 3) 18 (v := ?_) rfl rfl (by kernel_rfl) (by kernel_rfl) (by kernel_rfl) (fun _ _ _ h => h) (by rfl) ?_ hHeld ?_
        rotate_left
        · (intro w hSw; (try dsimp only at hSw); go_simp; try with_reducible rfl)
        simp only [Act.put, List.setIfInBounds_toArray, List.set_cons_zero, List.set_cons_succ]
        refine take_at (i := 4) 19 (v := ?_) rfl rfl (by kernel_rfl) (by kernel_rfl) (by kernel_rfl) (fun _ _ _ h => h) (by rfl) ?_ hHeld ?_
        rotate_left
        · (intro w hSw; (try dsimp only at hSw); go_simp; try with_reducible rfl)
        simp only [Act.put, List.setIfInBounds_toArray, List.set_cons_zero, List.set_cons_succ]
        refine run_at (i := 5) rfl (by kernel_rfl) (by rfl) (fun K hK => ?_)
        simp only [List.getElem_toArray, List.getElem_cons_zero, List.getElem_cons_succ]
        go_simp
        first | (go_at_call 75; refine (goodType_n _ k cap (l.take k) l[k].t _ HKL.out (HT.out.below (by first | exact (Below.refl _ _).drew | assumption)) (by have := HKL.out; omega) (by have := HKL.out; omega)).mono ?_; rintro e w5 ⟨rfl, hb5⟩; rw [hA]; have hS5 := below_next (B := W3) (by first | exact (Below.refl _ _).drew | assumption) hb5)
        go_wp2_with fail
        refine hK.out _ _ (by with_reducible first | assumption | exact (Below.refl _ _).drew) ?_
        clear hK K
        intro hHeld2
        clear hHeld
        have hHeld := hHeld2
        clear hHeld2
        try simp only [Act.put, List.setIfInBounds_toArray, List.set_cons_zero, List.set_cons_succ]
        refine take_at (i := 6) 21 (v := ?_) rfl rfl (by kernel_rfl) (by kernel_rfl) (by kernel_rfl) (fun _ _ _ h => h) (by rfl) ?_ hHeld ?_
        rotate_left
        · (intro w hSw; (try dsimp only at hSw); go_simp; try with_reducible rfl)
        simp only [Act.put, List.setIfInBounds_toArray, List.set_cons_zero, List.set_cons_succ]
        refine take_at (i := 7) 22 (v := ?_) rfl rfl (by kernel_rfl) (by kernel_rfl) (by kernel_rfl) (fun _ _ _ h => h) (by rfl) ?_ hHeld ?_
        rotate_left
        · (intro w hSw; (try dsimp only at hSw); go_simp; try with_reducible rfl)
        simp only [Act.put, List.setIfInBounds_toArray, List.set_cons_zero, List.set_cons_succ]
        refine skip_at (i := 8) 23 rfl rfl (by kernel_rfl) (by kernel_rfl) (by kernel_rfl) (fun _ _ _ h => h) (by rfl) hHeld ?_
        simp only [Act.put, List.setIfInBounds_toArray, List.set_cons_zero, List.set_cons_succ]
        refine skip_at (i := 9) 24 rfl rfl (by kernel_rfl) (by kernel_rfl) (by kernel_rfl) (fun _ _ _ h => h) (by rfl) hHeld ?_
        simp only [Act.put, List.setIfInBounds_toArray, List.set_cons_zero, List.set_cons_succ]
        refine skip_at (i := 10) 25 rfl rfl (by kernel_rfl) (by kernel_rfl) (by kernel_rfl) (fun _ _ _ h => h) (by rfl) hHeld ?_
        simp only [Act.put, List.setIfInBounds_toArray, List.set_cons_zero, List.set_cons_succ]
        refine skip_at (i := 11) 26 rfl rfl (by kernel_rfl) (by kernel_rfl) (by kernel_rfl) (fun _ _ _ h => h) (by rfl) hHeld ?_
        simp only [Act.put, List.setIfInBounds_toArray, List.set_cons_zero, List.set_cons_succ]
        refine skip_at (i := 12) 27 rfl rfl (by kernel_rfl) (by kernel_rfl) (by kernel_rfl) (fun _ _ _ h => h) (by rfl) hHeld ?_
        simp only [Act.put, List.setIfInBounds_toArray, List.set_cons_zero, List.set_cons_succ]
        refine skip_at (i := 13) 28 rfl rfl (by kernel_rfl) (by kernel_rfl) (by kernel_rfl) (fun _ _ _ h => h) (by rfl) hHeld ?_
        simp only [Act.put, List.setIfInBounds_toArray, List.set_cons_zero, List.set_cons_succ]
        refine skip_at (i := 14) 29 rfl rfl (by kernel_rfl) (by kernel_rfl) (by kernel_rfl) (fun _ _ _ h => h) (by rfl) hHeld ?_
        simp only [Act.put, List.setIfInBounds_toArray, List.set_cons_zero, List.set_cons_succ]
        refine take_at (i := 15) 30 (v := ?_) rfl rfl (by kernel_rfl) (by kernel_rfl) (by kernel_rfl) (fun _ _ _ h => h) (by rfl) ?_ hHeld ?_
        rotate_left
        · (intro w hSw; (try dsimp only at hSw); go_simp; try with_reducible rfl)
        simp only [Act.put, List.setIfInBounds_toArray, List.set_cons_zero, List.set_cons_succ]
        refine take_at (i := 16) 31 (v := ?_) rfl rfl (by kernel_rfl) (by kernel_rfl) (by kernel_rfl) (fun _ _ _ h => h) (by rfl) ?_ hHeld ?_
        rotate_left
        · (intro w hSw; (try dsimp only at hSw); go_simp; try with_reducible rfl)
        simp only [Act.put, List.setIfInBounds_toArray, List.set_cons_zero, List.set_cons_succ]
        refine skip_at (i := 17) 32 rfl rfl (by kernel_rfl) (by kernel_rfl) (by kernel_rfl) (fun _ _ _ h => h) (by rfl) hHeld ?_
        simp only [Act.put, List.setIfInBounds_toArray, List.set_cons_zero, List.set_cons_succ]
        refine skip_at (i := 18) 33 rfl rfl (by kernel_rfl) (by kernel_rfl) (by kernel_rfl) (fun _ _ _ h => h) (by rfl) hHeld ?_
        simp only [Act.put, List.setIfInBounds_toArray, List.set_cons_zero, List.set_cons_succ]
        refine skip_at (i := 19) 34 rfl rfl (by kernel_rfl) (by kernel_rfl) (by kernel_rfl) (fun _ _ _ h => h) (by rfl) hHeld ?_
        simp only [Act.put, List.setIfInBounds_toArray, List.set_cons_zero, List.set_cons_succ]
        refine skip_at (i := 20) 35 rfl rfl (by kernel_rfl) (by kernel_rfl) (by kernel_rfl) (fun _ _ _ h => h) (by rfl) hHeld ?_
        simp only [Act.put, List.setIfInBounds_toArray, List.set_cons_zero, List.set_cons_succ]
        refine take_at (i := 21) 36 (v := ?_) rfl rfl (by kernel_rfl) (by kernel_rfl) (by kernel_rfl) (fun _ _ _ h => h) (by rfl) ?_ hHeld ?_
        rotate_left
        · (intro w hSw; (try dsimp only at hSw); go_simp; try with_reducible rfl)
        simp only [Act.put, List.setIfInBounds_toArray, List.set_cons_zero, List.set_cons_succ]
        refine take_at (i := 22) 37 (v := ?_) rfl rfl (by kernel_rfl) (by kernel_rfl) (by kernel_rfl) (fun _ _ _ h => h) (by rfl) ?_ hHeld ?_
        rotate_left
        · (intro w hSw; (try dsimp only at hSw); go_simp; try with_reducible rfl)
        simp only [Act.put, List.setIfInBounds_toArray, List.set_cons_zero, List.set_cons_succ]
        refine skip_at (i := 23) 38 rfl rfl (by kernel_rfl) (by kernel_rfl) (by kernel_rfl) (fun _ _ _ h => h) (by rfl) hHeld ?_
        simp only [Act.put, List.setIfInBounds_toArray, List.set_cons_zero, List.set_cons_succ]
        refine skip_at (i := 24) 39 rfl rfl (by kernel_rfl) (by kernel_rfl) (by kernel_rfl) (fun _ _ _ h => h) (by rfl) hHeld ?_
        simp only [Act.put, List.setIfInBounds_toArray, List.set_cons_zero, List.set_cons_succ]
        refine skip_at (i := 25) 40 rfl rfl (by kernel_rfl) (by kernel_rfl) (by kernel_rfl) (fun _ _ _ h => h) (by rfl) hHeld ?_
        simp only [Act.put, List.setIfInBounds_toArray, List.set_cons_zero, List.set_cons_succ]
        refine skip_at (i := 26) 41 rfl rfl (by kernel_rfl) (by kernel_rfl) (by kernel_rfl) (fun _ _ _ h => h) (by rfl) hHeld ?_
        simp only [Act.put, List.setIfInBounds_toArray, List.set_cons_zero, List.set_cons_succ]
        refine skip_at (i := 27) 42 rfl rfl (by kernel_rfl) (by kernel_rfl) (by kernel_rfl) (fun _ _ _ h => h) (by rfl) hHeld ?_
        simp only [Act.put, List.setIfInBounds_toArray, List.set_cons_zero, List.set_cons_succ]
        refine skip_at (i := 28) 43 rfl rfl (by kernel_rfl) (by kernel_rfl) (by kernel_rfl) (fun _ _ _ h => h) (by rfl) hHeld ?_
        simp only [Act.put, List.setIfInBounds_toArray, List.set_cons_zero, List.set_cons_succ]
        refine take_at (i := 29) 44 (v := ?_) rfl rfl (by kernel_rfl) (by kernel_rfl) (by kernel_rfl) (fun _ _ _ h => h) (by rfl) ?_ hHeld ?_
        rotate_left
        · (intro w hSw; (try dsimp only at hSw); go_simp; try with_reducible rfl)
        simp only [Act.put, List.setIfInBounds_toArray, List.set_cons_zero, List.set_cons_succ]
        refine wpAnyH_done (by kernel_rfl) ?_ _
        refine NoPanic.normal ?_
        all_goals go_wp2
        all_goals go_ret
        all_goals exact ⟨⟨false, rfl, by simp; exact HG.out⟩, below_next hbel (below_next hb3 (by assumption))⟩
      · rcases hB : numbS (l.take k) l[k].n with _ | _
        · skip
          have HG : Hid (¬ GoodBlks l) := fun h => by have := h.2 k hlt; unfold blkS at this; simp [hA, hB] at this
          refine wp_region_noPanic ?_
          refine wp_region_held_drew (S := (fun u => Below W3.heap.size W3 u)) (by kernel_rfl) (by with_reducible first | assumption | exact (Below.refl _ _).drew) (fun hHeld => ?_)
          refine take_at (i := 0) 15 (v := ?_) rfl rfl (by kernel_rfl) (by kernel_rfl) (by kernel_rfl) (fun _ _ _ h => h) (by rfl) ?_ hHeld ?_
          rotate_left
          · (intro w hSw; (try dsimp only at hSw); go_simp; try with_reducible rfl)
          simp only [Act.put, List.setIfInBounds_toArray, List.set_cons_zero, List.set_cons_succ]
          refine take_at (i := 1) 16 (v := ?_) rfl rfl (by kernel_rfl) (by kernel_rfl) (by kernel_rfl) (fun _ _ _ h => h) (by rfl) ?_ hHeld ?_
          rotate_left
          · (intro w hSw; (try dsimp only at hSw); go_simp; try with_reducible rfl)
          simp only [Act.put, List.setIfInBounds_toArray, List.set_cons_zero, List.set_cons_succ]
          refine take_at (i := 2) 17 (v := ?_) rfl rfl (by kernel_rfl) (by kernel_rfl) (by kernel_rfl) (fun _ _ _ h => h) (by rfl) ?_ hHeld ?_
          rotate_left
          · (intro w hSw; (try dsimp only at hSw); go_simp; try with_reducible rfl)
          simp only [Act.put, List.setIfInBounds_toArray, List.set_cons_zero, List.set_cons_succ]
          refine take_at (i := 3) 18 (v := ?_) rfl rfl (by kernel_rfl) (by kernel_rfl) (by kernel_rfl) (fun _ _ _ h => h) (by rfl) ?_ hHeld ?_
          rotate_left
          · (intro w hSw; (try dsimp only at hSw); go_simp; try with_reducible rfl)
          simp only [Act.put, List.setIfInBounds_toArray, List.set_cons_zero, List.set_cons_succ]
          refine take_at (i := 4) 19 (v := ?_) rfl rfl (by kernel_rfl) (by kernel_rfl) (by kernel_rfl) (fun _ _ _ h => h) (by rfl) ?_ hHeld ?_
          rotate_left
          · (intro w hSw; (try dsimp only at hSw); go_simp; try with_reducible rfl)
          simp only [Act.put, List.setIfInBounds_toArray, List.set_cons_zero, List.set_cons_succ]
          refine run_at (i := 5) rfl (by kernel_rfl) (by rfl) (fun K hK => ?_)
          simp only [List.getElem_toArray, List.getElem_cons_zero, List.getElem_cons_succ]
          go_simp
          first | (go_at_call 75; refine (goodType_n _ k cap (l.take k) l[k].t _ HKL.out (HT.out.below (by first | exact (Below.refl _ _).drew | assumption)) (by have := HKL.out; omega) (by have := HKL.out; omega)).mono ?_; rintro e w5 ⟨rfl, hb5⟩; rw [hA]; have hS5 := below_next (B := W3) (by first | exact (Below.refl _ _).drew | assumption) hb5) | (go_at_call 76; refine (goodNumber_n _ k cap (l.take k) l[k].n _ HKL.out (HT.out.below (by first | exact (Below.refl _ _).drew | assumption)) (by have := HKL.out; omega) (by have := HKL.out; omega)).mono ?_; rintro e w6 ⟨rfl, hb6⟩; rw [hB]; have hS6 := below_next (B := W3) (by first | exact (Below.refl _ _).drew | assumption) hb6)
          go_wp2_with fail
          refine hK.out _ _ (by with_reducible first | assumption | exact (Below.refl _ _).drew) ?_
          clear hK K
          intro hHeld2
          clear hHeld
          have hHeld := hHeld2
          clear hHeld2
          try simp only [Act.put, List.setIfInBounds_toArray, List.set_cons_zero, List.set_cons_succ]
          refine take_at (i := 6) 21 (v := ?_) rfl rfl (by kernel_rfl) (by kernel_rfl) (by kernel_rfl) (fun _ _ _ h => h) (by rfl) ?_ hHeld ?_
          rotate_left
          · (intro w hSw; (try dsimp only at hSw); go_simp; try with_reducible rfl)
          simp only [Act.put, List.setIfInBounds_toArray, List.set_cons_zero, List.set_cons_succ]
          refine take_at (i := 7) 22 (v := ?_) rfl rfl (by kernel_rfl) (by kernel_rfl) (by kernel_rfl) (fun _ _ _ h => h) (by rfl) ?_ hHeld ?_
          rotate_left
          · (intro w hSw; (try dsimp only at hSw); go_simp; try with_reducible rfl)
          simp only [Act.put, List.setIfInBounds_toArray, List.set_cons_zero, List.set_cons_succ]
          refine take_at (i := 8) 23 (v := ?_) rfl rfl (by kernel_rfl) (by kernel_rfl) (by kernel_rfl) (fun _ _ _ h => h) (by rfl) ?_ hHeld ?_
          rotate_left
          · (intro w hSw; (try dsimp only at hSw); go_simp; try with_reducible rfl)
          simp only [Act.put, List.setIfInBounds_toArray, List.set_cons_zero, List.set_cons_succ]
          refine take_at (i := 9) 24 (v := ?_) rfl rfl (by kernel_rfl) (by kernel_rfl) (by kernel_rfl) (fun _ _ _ h => h) (by rfl) ?_ hHeld ?_
          rotate_left
          · (intro w hSw; (try dsimp only at hSw); go_simp; try with_reducible rfl)
          simp only [Act.put, List.setIfInBounds_toArray, List.set_cons_zero, List.set_cons_succ]
          refine take_at (i := 10) 25 (v := ?_) rfl rfl (by kernel_rfl) (by kernel_rfl) (by kernel_rfl) (fun _ _ _ h => h) (by rfl) ?_ hHeld ?_
          rotate_left
          · (intro w hSw; (try dsimp only at hSw); go_simp; try with_reducible rfl)
          simp only [Act.put, List.setIfInBounds_toArray, List.set_cons_zero, List.set_cons_succ]
          refine take_at (i := 11) 26 (v := ?_) rfl rfl (by kernel_rfl) (by kernel_rfl) (by kernel_rfl) (fun _ _ _ h => h) (by rfl) ?_ hHeld ?_
          rotate_left
          · (intro w hSw; (try dsimp only at hSw); go_simp; try with_reducible rfl)
          simp only [Act.put, List.setIfInBounds_toArray, List.set_cons_zero, List.set_cons_succ]
          refine take_at (i := 12) 27 (v := ?_) rfl rfl (by kernel_rfl) (by kernel_rfl) (by kernel_rfl) (fun _ _ _ h => h) (by rfl) ?_ hHeld ?_
          rotate_left
          · (intro w hSw; (try dsimp only at hSw); go_simp; try with_reducible rfl)
          simp only [Act.put, List.setIfInBounds_toArray, List.set_cons_zero, List.set_cons_succ]
          refine run_at (i := 13) rfl (by kernel_rfl) (by rfl) (fun K hK => ?_)
          simp only [List.getElem_toArray, List.getElem_cons_zero, List.getElem_cons_succ]
          go_simp
          first | (go_at_call 75; refine (goodType_n _ k cap (l.take k) l[k].t _ HKL.out (HT.out.below (by first | exact (Below.refl _ _).drew | assumption)) (by have := HKL.out; omega) (by have := HKL.out; omega)).mono ?_; rintro e w5 ⟨rfl, hb5⟩; rw [hA]; have hS5 := below_next (B := W3) (by first | exact (Below.refl _ _).drew | assumption) hb5) | (go_at_call 76; refine (goodNumber_n _ k cap (l.take k) l[k].n _ HKL.out (HT.out.below (by first | exact (Below.refl _ _).drew | assumption)) (by have := HKL.out; omega) (by have := HKL.out; omega)).mono ?_; rintro e w6 ⟨rfl, hb6⟩; rw [hB]; have hS6 := below_next (B := W3) (by first | exact (Below.refl _ _).drew | assumption) hb6)
          go_wp2_with fail
          refine hK.out _ _ (by with_reducible first | assumption | exact (Below.refl _ _).drew) ?_
          clear hK K
          intro hHeld2
          clear hHeld
          have hHeld := hHeld2
          clear hHeld2
          try simp only [Act.put, List.setIfInBounds_toArray, List.set_cons_zero, List.set_cons_succ]
          refine take_at (i := 14) 29 (v := ?_) rfl rfl (by kernel_rfl) (by kernel_rfl) (by kernel_rfl) (fun _ _ _ h => h) (by rfl) ?_ hHeld ?_
          rotate_left
          · (intro w hSw; (try dsimp only at hSw); go_simp; try with_reducible rfl)
          simp only [Act.put, List.setIfInBounds_toArray, List.set_cons_zero, List.set_cons_succ]
          refine take_at (i := 15) 30 (v := ?_) rfl rfl (by kernel_rfl) (by kernel_rfl) (by kernel_rfl) (fun _ _ _ h => h) (by rfl) ?_ hHeld ?_
          rotate_left
          · (intro w hSw; (try dsimp only at hSw); go_simp; try with_reducible rfl)
          simp only [Act.put, List.setIfInBounds_toArray, List.set_cons_zero, List.set_cons_succ]
          refine take_at (i := 16) 31 (v := ?_) rfl rfl (by kernel_rfl) (by kernel_rfl) (by kernel_rfl) (fun _ _ _ h => h) (by rfl) ?_ hHeld ?_
          rotate_left
          · (intro w hSw; (try dsimp only at hSw); go_simp; try with_reducible rfl)
          simp only [Act.put, List.setIfInBounds_toArray, List.set_cons_zero, List.set_cons_succ]
          refine skip_at (i := 17) 32 rfl rfl (by kernel_rfl) (by kernel_rfl) (by kernel_rfl) (fun _ _ _ h => h) (by rfl) hHeld ?_
          simp only [Act.put, List.setIfInBounds_toArray, List.set_cons_zero, List.set_cons_succ]
          refine skip_at (i := 18) 33 rfl rfl (by kernel_rfl) (by kernel_rfl) (by kernel_rfl) (fun _ _ _ h => h) (by rfl) hHeld ?_
          simp only [Act.put, List.setIfInBounds_toArray, List.set_cons_zero, List.set_cons_succ]
          refine skip_at (i := 19) 34 rfl rfl (by kernel_rfl) (by kernel_rfl) (by kernel_rfl) (fun _ _ _ h => h) (by rfl) hHeld ?_
          simp only [Act.put, List.setIfInBounds_toArray, List.set_cons_zero, List.set_cons_succ]
          refine skip_at (i := 20) 35 rfl rfl (by kernel_rfl) (by kernel_rfl) (by kernel_rfl) (fun _ _ _ h => h) (by rfl) hHeld ?_
          simp only [Act.put, List.setIfInBounds_toArray, List.set_cons_zero, List.set_cons_succ]
          refine take_at (i := 21) 36 (v := ?_) rfl rfl (by kernel_rfl) (by kernel_rfl) (by kernel_rfl) (fun _ _ _ h => h) (by rfl) ?_ hHeld ?_
          rotate_left
          · (intro w hSw; (try dsimp only at hSw); go_simp; try with_reducible rfl)
          simp only [Act.put, List.setIfInBounds_toArray, List.set_cons_zero, List.set_cons_succ]
          refine take_at (i := 22) 37 (v := ?_) rfl rfl (by kernel_rfl) (by kernel_rfl) (by kernel_rfl) (fun _ _ _ h => h) (by rfl) ?_ hHeld ?_
          rotate_left
          · (intro w hSw; (try dsimp only at hSw); go_simp; try with_reducible rfl)
          simp only [Act.put, List.setIfInBounds_toArray, List.set_cons_zero, List.set_cons_succ]
          refine skip_at (i := 23) 38 rfl rfl (by kernel_rfl) (by kernel_rfl) (by kernel_rfl) (fun _ _ _ h => h) (by rfl) hHeld ?_
          simp only [Act.put, List.setIfInBounds_toArray, List.set_cons_zero, List.set_cons_succ]
          refine skip_at (i := 24) 39 rfl rfl (by kernel_rfl) (by kernel_rfl) (by kernel_rfl) (fun _ _ _ h => h) (by rfl) hHeld ?_
          simp only [Act.put, List.setIfInBounds_toArray, List.set_cons_zero, List.set_cons_succ]
          refine skip_at (i := 25) 40 rfl rfl (by kernel_rfl) (by kernel_rfl) (by kernel_rfl) (fun _ _ _ h => h) (by rfl) hHeld ?_
          simp only [Act.put, List.setIfInBounds_toArray, List.set_cons_zero, List.set_cons_succ]
          refine skip_at (i := 26) 41 rfl rfl (by kernel_rfl) (by kernel_rfl) (by kernel_rfl) (fun _ _ _ h => h) (by rfl) hHeld ?_
          simp only [Act.put, List.setIfInBounds_toArray, List.set_cons_zero, List.set_cons_succ]
          refine skip_at (i := 27) 42 rfl rfl (by kernel_rfl) (by kernel_rfl) (by kernel_rfl) (fun _ _ _ h => h) (by rfl) hHeld ?_
          simp only [Act.put, List.setIfInBounds_toArray, List.set_cons_zero, List.set_cons_succ]
          refine skip_at (i := 28) 43 rfl rfl (by kernel_rfl) (by kernel_rfl) (by kernel_rfl) (fun _ _ _ h => h) (by rfl) hHeld ?_
          simp only [Act.put, List.setIfInBounds_toArray, List.set_cons_zero, List.set_cons_succ]
          refine take_at (i := 29) 44 (v := ?_) rfl rfl (by kernel_rfl) (by kernel_rfl) (by kernel_rfl) (fun _ _ _ h => h) (by rfl) ?_ hHeld ?_
          rotate_left
          · (intro w hSw; (try dsimp only at hSw); go_simp; try with_reducible rfl)
          simp only [Act.put, List.setIfInBounds_toArray, List.set_cons_zero, List.set_cons_succ]
          refine wpAnyH_done (by kernel_rfl) ?_ _
          refine NoPanic.normal ?_
          all_goals go_wp2
          all_goals go_ret
          all_goals exact ⟨⟨false, rfl, by simp; exact HG.out⟩, below_next hbel (below_next hb3 (by assumption))⟩
        · rcases hC : decide (l[k].f ≤ 255) with _ | _
          · skip
            have HG : Hid (¬ GoodBlks l) := fun h => by have := h.2 k hlt; unfold blkS at this; simp [hA, hB, hC] at this
            refine wp_region_noPanic ?_
            refine wp_region_held_drew (S := (fun u => Below W3.heap.size W3 u)) (by kernel_rfl) (by with_reducible first | assumption | exact (Below.refl _ _).drew) (fun hHeld => ?_)
            refine take_at (i := 0) 15 (v := ?_) rfl rfl (by kernel_rfl) (by kernel_rfl) (by kernel_rfl) (fun _ _ _ h => h) (by rfl) ?_ hHeld ?_
            rotate_left
            · (intro w hSw; (try dsimp only at hSw); go_simp; try with_reducible rfl)
            simp only [Act.put, List.setIfInBounds_toArray, List.set_cons_zero, List.set_cons_succ]
            refine take_at (i := 1) 16 (v := ?_) rfl rfl (by kernel_rfl) (by kernel_rfl) (by kernel_rfl) (fun _ _ _ h => h) (by rfl) ?_ hHeld ?_
            rotate_left
            · (intro w hSw; (try dsimp only at hSw); go_simp; try with_reducible rfl)
            simp only [Act.put, List.setIfInBounds_toArray, List.set_cons_zero, List.set_cons_succ]
            refine take_at (i := 2) 17 (v := ?_) rfl rfl (by kernel_rfl) (by kernel_rfl) (by kernel_rfl) (fun _ _ _ h => h) (by rfl) ?_ hHeld ?_
            rotate_left
            · (intro w hSw; (try dsimp only at hSw); go_simp; try with_reducible rfl)
            simp only [Act.put, List.setIfInBounds_toArray, List.set_cons_zero, List.set_cons_succ]
            refine take_at (i := 3) 18 (v := ?_) rfl rfl (by kernel_rfl) (by kernel_rfl) (by kernel_rfl) (fun _ _ _ h => h) (by rfl) ?_ hHeld ?_
            rotate_left
            · (intro w hSw; (try dsimp only at hSw); go_simp; try with_reducible rfl)
            simp only [Act.put, List.setIfInBounds_toArray, List.set_cons_zero, List.set_cons_succ]
            refine take_at (i := 4) 19 (v := ?_) rfl rfl (by kernel_rfl) (by kernel_rfl) (by kernel_rfl) (fun _ _ _ h => h) (by rfl) ?_ hHeld ?_
            rotate_left
            · (intro w hSw; (try dsimp only at hSw); go_simp; try with_reducible rfl)
            simp only [Act.put, List.setIfInBounds_toArray, List.set_cons_zero, List.set_cons_succ]
            refine run_at (i := 5) rfl (by kernel_rfl) (by rfl) (fun K hK => ?_)
            simp only [List.getElem_toArray, List.getElem_cons_zero, List.getElem_cons_succ]
            go_simp
            first | (go_at_call 75; refine (goodType_n _ k cap (l.take k) l[k].t _ HKL.out (HT.out.below (by first | exact (Below.refl _ _).drew | assumption)) (by have := HKL.out; omega) (by have := HKL.out; omega)).mono ?_; rintro e w5 ⟨rfl, hb5⟩; rw [hA]; have hS5 := below_next (B := W3) (by first | exact (Below.refl _ _).drew | assumption) hb5) | (go_at_call 76; refine (goodNumber_n _ k cap (l.take k) l[k].n _ HKL.out (HT.out.below (by first | exact (Below.refl _ _).drew | assumption)) (by have := HKL.out; omega) (by have := HKL.out; omega)).mono ?_; rintro e w6 ⟨rfl, hb6⟩; rw [hB]; have hS6 := below_next (B := W3) (by first | exact (Below.refl _ _).drew | assumption) hb6) | (go_at_call 77; refine (goodFlags_b l[k].f _).mono ?_; rintro e w7 ⟨rfl, hb7⟩; rw [hC]; have hS7 := below_next (B := W3) (by first | exact (Below.refl _ _).drew | assumption) hb7)
            go_wp2_with fail
            refine hK.out _ _ (by with_reducible first | assumption | exact (Below.refl _ _).drew) ?_
            clear hK K
            intro hHeld2
            clear hHeld
            have hHeld := hHeld2
            clear hHeld2
            try simp only [Act.put, List.setIfInBounds_toArray, List.set_cons_zero, List.set_cons_succ]
            refine take_at (i := 6) 21 (v := ?_) rfl rfl (by kernel_rfl) (by kernel_rfl) (by kernel_rfl) (fun _ _ _ h => h) (by rfl) ?_ hHeld ?_
            rotate_left
            · (intro w hSw; (try dsimp only at hSw); go_simp; try with_reducible rfl)
            simp only [Act.put, List.setIfInBounds_toArray, List.set_cons_zero, List.set_cons_succ]
            refine take_at (i := 7) 22 (v := ?_) rfl rfl (by kernel_rfl) (by kernel_rfl) (by kernel_rfl) (fun _ _ _ h => h) (by rfl) ?_ hHeld ?_
            rotate_left
            · (intro w hSw; (try dsimp only at hSw); go_simp; try with_reducible rfl)
            simp only [Act.put, List.setIfInBounds_toArray, List.set_cons_zero, List.set_cons_succ]
            refine take_at (i := 8) 23 (v := ?_) rfl rfl (by kernel_rfl) (by kernel_rfl) (by kernel_rfl) (fun _ _ _ h => h) (by rfl) ?_ hHeld ?_
            rotate_left
            · (intro w hSw; (try dsimp only at hSw); go_simp; try with_reducible rfl)
            simp only [Act.put, List.setIfInBounds_toArray, List.set_cons_zero, List.set_cons_succ]
            refine take_at (i := 9) 24 (v := ?_) rfl rfl (by kernel_rfl) (by kernel_rfl) (by kernel_rfl) (fun _ _ _ h => h) (by rfl) ?_ hHeld ?_
            rotate_left
            · (intro w hSw; (try dsimp only at hSw); go_simp; try with_reducible rfl)
            simp only [Act.put, List.setIfInBounds_toArray, List.set_cons_zero, List.set_cons_succ]
            refine take_at (i := 10) 25 (v := ?_) rfl rfl (by kernel_rfl) (by kernel_rfl) (by kernel_rfl) (fun _ _ _ h => h) (by rfl) ?_ hHeld ?_
            rotate_left
            · (intro w hSw; (try dsimp only at hSw); go_simp; try with_reducible rfl)
            simp only [Act.put, List.setIfInBounds_toArray, List.set_cons_zero, List.set_cons_succ]
            refine take_at (i := 11) 26 (v := ?_) rfl rfl (by kernel_rfl) (by kernel_rfl) (by kernel_rfl) (fun _ _ _ h => h) (by rfl) ?_ hHeld ?_
            rotate_left
            · (intro w hSw; (try dsimp only at hSw); go_simp; try with_reducible rfl)
            simp only [Act.put, List.setIfInBounds_toArray, List.set_cons_zero, List.set_cons_succ]
            refine take_at (i := 12) 27 (v := ?_) rfl rfl (by kernel_rfl) (by kernel_rfl) (by kernel_rfl) (fun _ _ _ h => h) (by rfl) ?_ hHeld ?_
            rotate_left
            · (intro w hSw; (try dsimp only at hSw); go_simp; try with_reducible rfl)
            simp only [Act.put, List.setIfInBounds_toArray, List.set_cons_zero, List.set_cons_succ]
            refine run_at (i := 13) rfl (by kernel_rfl) (by rfl) (fun K hK => ?_)
            simp only [List.getElem_toArray, List.getElem_cons_zero, List.getElem_cons_succ]
            go_simp
            first | (go_at_call 75; refine (goodType_n _ k cap (l.take k) l[k].t _ HKL.out (HT.out.below (by first | exact (Below.refl _ _).drew | assumption)) (by have := HKL.out; omega) (by have := HKL.out; omega)).mono ?_; rintro e w5 ⟨rfl, hb5⟩; rw [hA]; have hS5 := below_next (B := W3) (by first | exact (Below.refl _ _).drew | assumption) hb5) | (go_at_call 76; refine (goodNumber_n _ k cap (l.take k) l[k].n _ HKL.out (HT.out.below (by first | exact (Below.refl _ _).drew | assumption)) (by have := HKL.out; omega) (by have := HKL.out; omega)).mono ?_; rintro e w6 ⟨rfl, hb6⟩; rw [hB]; have hS6 := below_next (B := W3) (by first | exact (Below.refl _ _).drew | assumption) hb6) | (go_at_call 77; refine (goodFlags_b l[k].f _).mono ?_; rintro e w7 ⟨rfl, hb7⟩; rw [hC]; have hS7 := below_next (B := W3) (by first | exact (Below.refl _ _).drew | assumption) hb7)
            go_wp2_with fail
            refine hK.out _ _ (by with_reducible first | assumption | exact (Below.refl _ _).drew) ?_
            clear hK K
            intro hHeld2
            clear hHeld
            have hHeld := hHeld2
            clear hHeld2
            try simp only [Act.put, List.setIfInBounds_toArray, List.set_cons_zero, List.set_cons_succ]
            refine take_at (i := 14) 29 (v := ?_) rfl rfl (by kernel_rfl) (by kernel_rfl) (by kernel_rfl) (fun _ _ _ h => h) (by rfl) ?_ hHeld ?_
            rotate_left
            · (intro w hSw; (try dsimp only at hSw); go_simp; try with_reducible rfl)
            simp only [Act.put, List.setIfInBounds_toArray, List.set_cons_zero, List.set_cons_succ]
            refine take_at (i := 15) 30 (v := ?_) rfl rfl (by kernel_rfl) (by kernel_rfl) (by kernel_rfl) (fun _ _ _ h => h) (by rfl) ?_ hHeld ?_
            rotate_left
            · (intro w hSw; (try dsimp only at hSw); go_simp; try with_reducible rfl)
            simp only [Act.put, List.setIfInBounds_toArray, List.set_cons_zero, List.set_cons_succ]
            refine take_at (i := 16) 31 (v := ?_) rfl rfl (by kernel_rfl) (by kernel_rfl) (by kernel_rfl) (fun _ _ _ h => h) (by rfl) ?_ hHeld ?_
            rotate_left
            · (intro w hSw; (try dsimp only at hSw); go_simp; try with_reducible rfl)
            simp only [Act.put, List.setIfInBounds_toArray, List.set_cons_zero, List.set_cons_succ]
            refine take_at (i := 17) 32 (v := ?_) rfl rfl (by kernel_rfl) (by kernel_rfl) (by kernel_rfl) (fun _ _ _ h => h) (by rfl) ?_ hHeld ?_
            rotate_left
            · (intro w hSw; (try dsimp only at hSw); go_simp; try with_reducible rfl)
            simp only [Act.put, List.setIfInBounds_toArray, List.set_cons_zero, List.set_cons_succ]
            refine take_at (i := 18) 33 (v := ?_) rfl rfl (by kernel_rfl) (by kernel_rfl) (by kernel_rfl) (fun _ _ _ h => h) (by rfl) ?_ hHeld ?_
            rotate_left
            · (intro w hSw; (try dsimp only at hSw); go_simp; try with_reducible rfl)
            simp only [Act.put, List.setIfInBounds_toArray, List.set_cons_zero, List.set_cons_succ]
            refine run_at (i := 19) rfl (by kernel_rfl) (by rfl) (fun K hK => ?_)
            simp only [List.getElem_toArray, List.getElem_cons_zero, List.getElem_cons_succ]
            go_simp
            first | (go_at_call 75; refine (goodType_n _ k cap (l.take k) l[k].t _ HKL.out (HT.out.below (by first | exact (Below.refl _ _).drew | assumption)) (by have := HKL.out; omega) (by have := HKL.out; omega)).mono ?_; rintro e w5 ⟨rfl, hb5⟩; rw [hA]; have hS5 := below_next (B := W3) (by first | exact (Below.refl _ _).drew | assumption) hb5) | (go_at_call 76; refine (goodNumber_n _ k cap (l.take k) l[k].n _ HKL.out (HT.out.below (by first | exact (Below.refl _ _).drew | assumption)) (by have := HKL.out; omega) (by have := HKL.out; omega)).mono ?_; rintro e w6 ⟨rfl, hb6⟩; rw [hB]; have hS6 := below_next (B := W3) (by first | exact (Below.refl _ _).drew | assumption) hb6) | (go_at_call 77; refine (goodFlags_b l[k].f _).mono ?_; rintro e w7 ⟨rfl, hb7⟩; rw [hC]; have hS7 := below_next (B := W3) (by first | exact (Below.refl _ _).drew | assumption) hb7)
            go_wp2_with fail
            refine hK.out _ _ (by with_reducible first | assumption | exact (Below.refl _ _).drew) ?_
            clear hK K
            intro hHeld2
            clear hHeld
            have hHeld := hHeld2
            clear hHeld2
            try simp only [Act.put, List.setIfInBounds_toArray, List.set_cons_zero, List.set_cons_succ]
            refine take_at (i := 20) 35 (v := ?_) rfl rfl (by kernel_rfl) (by kernel_rfl) (by kernel_rfl) (fun _ _ _ h => h) (by rfl) ?_ hHeld ?_
            rotate_left
            · (intro w hSw; (try dsimp only at hSw); go_simp; try with_reducible rfl)
            simp only [Act.put, List.setIfInBounds_toArray, List.set_cons_zero, List.set_cons_succ]
            refine take_at (i := 21) 36 (v := ?_) rfl rfl (by kernel_rfl) (by kernel_rfl) (by kernel_rfl) (fun _ _ _ h => h) (by rfl) ?_ hHeld ?_
            rotate_left
            · (intro w hSw; (try dsimp only at hSw); go_simp; try with_reducible rfl)
            simp only [Act.put, List.setIfInBounds_toArray, List.set_cons_zero, List.set_cons_succ]
            refine take_at (i := 22) 37 (v := ?_) rfl rfl (by kernel_rfl) (by kernel_rfl) (by kernel_rfl) (fun _ _ _ h => h) (by rfl) ?_ hHeld ?_
            rotate_left
            · (intro w hSw; (try dsimp only at hSw); go_simp; try with_reducible rfl)
            simp only [Act.put, List.setIfInBounds_toArray, List.set_cons_zero, List.set_cons_succ]
            refine skip_at (i := 23) 38 rfl rfl (by kernel_rfl) (by kernel_rfl) (by kernel_rfl) (fun _ _ _ h => h) (by rfl) hHeld ?_
            simp only [Act.put, List.setIfInBounds_toArray, List.set_cons_zero, List.set_cons_succ]
            refine skip_at (i := 24) 39 rfl rfl (by kernel_rfl) (by kernel_rfl) (by kernel_rfl) (fun _ _ _ h => h) (by rfl) hHeld ?_
            simp only [Act.put, List.setIfInBounds_toArray, List.set_cons_zero, List.set_cons_succ]
            refine skip_at (i := 25) 40 rfl rfl (by kernel_rfl) (by kernel_rfl) (by kernel_rfl) (fun _ _ _ h => h) (by rfl) hHeld ?_
            simp only [Act.put, List.setIfInBounds_toArray, List.set_cons_zero, List.set_cons_succ]
            refine skip_at (i := 26) 41 rfl rfl (by kernel_rfl) (by kernel_rfl) (by kernel_rfl) (fun _ _ _ h => h) (by rfl) hHeld ?_
            simp only [Act.put, List.setIfInBounds_toArray, List.set_cons_zero, List.set_cons_succ]
            refine skip_at (i := 27) 42 rfl rfl (by kernel_rfl) (by kernel_rfl) (by kernel_rfl) (fun _ _ _ h => h) (by rfl) hHeld ?_
            simp only [Act.put, List.setIfInBounds_toArray, List.set_cons_zero, List.set_cons_succ]
            refine skip_at (i := 28) 43 rfl rfl (by kernel_rfl) (by kernel_rfl) (by kernel_rfl) (fun _ _ _ h => h) (by rfl) hHeld ?_
            simp only [Act.put, List.setIfInBounds_toArray, List.set_cons_zero, List.set_cons_succ]
            refine take_at (i := 29) 44 (v := ?_) rfl rfl (by kernel_rfl) (by kernel_rfl) (by kernel_rfl) (fun _ _ _ h => h) (by rfl) ?_ hHeld ?_
            rotate_left
            · (intro w hSw; (try dsimp only at hSw); go_simp; try with_reducible rfl)
            simp only [Act.put, List.setIfInBounds_toArray, List.set_cons_zero, List.set_cons_succ]
            refine wpAnyH_done (by kernel_rfl) ?_ _
            refine NoPanic.normal ?_
            all_goals go_wp2
            all_goals go_ret
            all_goals exact ⟨⟨false, rfl, by simp; exact HG.out⟩, below_next hbel (below_next hb3 (by assumption))⟩
          · rcases hD : dataS l[k].t l[k].d with _ | _
            · skip
              have HG : Hid (¬ GoodBlks l) := fun h => by have := h.2 k hlt; unfold blkS at this; simp [hA, hB, hC, hD] at this
              refine wp_region_noPanic ?_
              refine wp_region_held_drew (S := (fun u => Below W3.heap.size W3 u)) (by kernel_rfl) (by with_reducible first | assumption | exact (Below.refl _ _).drew) (fun hHeld => ?_)
              refine take_at (i := 0) 15 (v := ?_) rfl rfl (by kernel_rfl) (by kernel_rfl) (by kernel_rfl) (fun _ _ _ h => h) (by rfl) ?_ hHeld ?_
              rotate_left
              · (intro w hSw; (try dsimp only at hSw); go_simp; try with_reducible rfl)
              simp only [Act.put, List.setIfInBounds_toArray, List.set_cons_zero, List.set_cons_succ]
              refine take_at (i := 1) 16 (v := ?_) rfl rfl (by kernel_rfl) (by kernel_rfl) (by kernel_rfl) (fun _ _ _ h => h) (by rfl) ?_ hHeld ?_
              rotate_left
              · (intro w hSw; (try dsimp only at hSw); go_simp; try with_reducible rfl)
              simp only [Act.put, List.setIfInBounds_toArray, List.set_cons_zero, List.set_cons_succ]
              refine take_at (i := 2) 17 (v := ?_) rfl rfl (by kernel_rfl) (by kernel_rfl) (by kernel_rfl) (fun _ _ _ h => h) (by rfl) ?_ hHeld ?_
              rotate_left
              · (intro w hSw; (try dsimp only at hSw); go_simp; try with_reducible rfl)
              simp only [Act.put, List.setIfInBounds_toArray, List.set_cons_zero, List.set_cons_succ]
              refine take_at (i := 3) 18 (v := ?_) rfl rfl (by kernel_rfl) (by kernel_rfl) (by kernel_rfl) (fun _ _ _ h => h) (by rfl) ?_ hHeld ?_
              rotate_left
              · (intro w hSw; (try dsimp only at hSw); go_simp; try with_reducible rfl)
              simp only [Act.put, List.setIfInBounds_toArray, List.set_cons_zero, List.set_cons_succ]
              refine take_at (i := 4) 19 (v := ?_) rfl rfl (by kernel_rfl) (by kernel_rfl) (by kernel_rfl) (fun _ _ _ h => h) (by rfl) ?_ hHeld ?_
              rotate_left
              · (intro w hSw; (try dsimp only at hSw); go_simp; try with_reducible rfl)
              simp only [Act.put, List.setIfInBounds_toArray, List.set_cons_zero, List.set_cons_succ]
              refine run_at (i := 5) rfl (by kernel_rfl) (by rfl) (fun K hK => ?_)
              simp only [List.getElem_toArray, List.getElem_cons_zero, List.getElem_cons_succ]
              go_simp
              first | (go_at_call 75; refine (goodType_n _ k cap (l.take k) l[k].t _ HKL.out (HT.out.below (by first | exact (Below.refl _ _).drew | assumption)) (by have := HKL.out; omega) (by have := HKL.out; omega)).mono ?_; rintro e w5 ⟨rfl, hb5⟩; rw [hA]; have hS5 := below_next (B := W3) (by first | exact (Below.refl _ _).drew | assumption) hb5) | (go_at_call 76; refine (goodNumber_n _ k cap (l.take k) l[k].n _ HKL.out (HT.out.below (by first | exact (Below.refl _ _).drew | assumption)) (by have := HKL.out; omega) (by have := HKL.out; omega)).mono ?_; rintro e w6 ⟨rfl, hb6⟩; rw [hB]; have hS6 := below_next (B := W3) (by first | exact (Below.refl _ _).drew | assumption) hb6) | (go_at_call 77; refine (goodFlags_b l[k].f _).mono ?_; rintro e w7 ⟨rfl, hb7⟩; rw [hC]; have hS7 := below_next (B := W3) (by first | exact (Below.refl _ _).drew | assumption) hb7) | (go_at_call 78; refine (goodData_any l[k].t a c l[k].d _ (HX.out.below (by first | exact (Below.refl _ _).drew | assumption)) HN.out (by omega)).mono ?_; rintro e w8 ⟨rfl, hb8⟩; rw [hD]; have hS8 := below_next (B := W3) (by first | exact (Below.refl _ _).drew | assumption) hb8)
              go_wp2_with fail
              refine hK.out _ _ (by with_reducible first | assumption | exact (Below.refl _ _).drew) ?_
              clear hK K
              intro hHeld2
              clear hHeld
              have hHeld := hHeld2
              clear hHeld2
              try simp only [Act.put, List.setIfInBounds_toArray, List.set_cons_zero, List.set_cons_succ]
              refine take_at (i := 6) 21 (v := ?_) rfl rfl (by kernel_rfl) (by kernel_rfl) (by kernel_rfl) (fun _ _ _ h => h) (by rfl) ?_ hHeld ?_
              rotate_left
              · (intro w hSw; (try dsimp only at hSw); go_simp; try with_reducible rfl)
              simp only [Act.put, List.setIfInBounds_toArray, List.set_cons_zero, List.set_cons_succ]
              refine take_at (i := 7) 22 (v := ?_) rfl rfl (by kernel_rfl) (by kernel_rfl) (by kernel_rfl) (fun _ _ _ h => h) (by rfl) ?_ hHeld ?_
              rotate_left
              · (intro w hSw; (try dsimp only at hSw); go_simp; try with_reducible rfl)
              simp only [Act.put, List.setIfInBounds_toArray, List.set_cons_zero, List.set_cons_succ]
              refine take_at (i := 8) 23 (v := ?_) rfl rfl (by kernel_rfl) (by kernel_rfl) (by kernel_rfl) (fun _ _ _ h => h) (by rfl) ?_ hHeld ?_
              rotate_left
              · (intro w hSw; (try dsimp only at hSw); go_simp; try with_reducible rfl)
              simp only [Act.put, List.setIfInBounds_toArray, List.set_cons_zero, List.set_cons_succ]
              refine take_at (i := 9) 24 (v := ?_) rfl rfl (by kernel_rfl) (by kernel_rfl) (by kernel_rfl) (fun _ _ _ h => h) (by rfl) ?_ hHeld ?_
              rotate_left
              · (intro w hSw; (try dsimp only at hSw); go_simp; try with_reducible rfl)
              simp only [Act.put, List.setIfInBounds_toArray, List.set_cons_zero, List.set_cons_succ]
              refine take_at (i := 10) 25 (v := ?_) rfl rfl (by kernel_rfl) (by kernel_rfl) (by kernel_rfl) (fun _ _ _ h => h) (by rfl) ?_ hHeld ?_
              rotate_left
              · (intro w hSw; (try dsimp only at hSw); go_simp; try with_reducible rfl)
              simp only [Act.put, List.setIfInBounds_toArray, List.set_cons_zero, List.set_cons_succ]
              refine take_at (i := 11) 26 (v := ?_) rfl rfl (by kernel_rfl) (by kernel_rfl) (by kernel_rfl) (fun _ _ _ h => h) (by rfl) ?_ hHeld ?_
              rotate_left
              · (intro w hSw; (try dsimp only at hSw); go_simp; try with_reducible rfl)
              simp only [Act.put, List.setIfInBounds_toArray, List.set_cons_zero, List.set_cons_succ]
              refine take_at (i := 12) 27 (v := ?_) rfl rfl (by kernel_rfl) (by kernel_rfl) (by kernel_rfl) (fun _ _ _ h => h) (by rfl) ?_ hHeld ?_
              rotate_left
              · (intro w hSw; (try dsimp only at hSw); go_simp; try with_reducible rfl)
              simp only [Act.put, List.setIfInBounds_toArray, List.set_cons_zero, List.set_cons_succ]
              refine run_at (i := 13) rfl (by kernel_rfl) (by rfl) (fun K hK => ?_)
              simp only [List.getElem_toArray, List.getElem_cons_zero, List.getElem_cons_succ]
              go_simp
              first | (go_at_call 75; refine (goodType_n _ k cap (l.take k) l[k].t _ HKL.out (HT.out.below (by first | exact (Below.refl _ _).drew | assumption)) (by have := HKL.out; omega) (by have := HKL.out; omega)).mono ?_; rintro e w5 ⟨rfl, hb5⟩; rw [hA]; have hS5 := below_next (B := W3) (by first | exact (Below.refl _ _).drew | assumption) hb5) | (go_at_call 76; refine (goodNumber_n _ k cap (l.take k) l[k].n _ HKL.out (HT.out.below (by first | exact (Below.refl _ _).drew | assumption)) (by have := HKL.out; omega) (by have := HKL.out; omega)).mono ?_; rintro e w6 ⟨rfl, hb6⟩; rw [hB]; have hS6 := below_next (B := W3) (by first | exact (Below.refl _ _).drew | assumption) hb6) | (go_at_call 77; refine (goodFlags_b l[k].f _).mono ?_; rintro e w7 ⟨rfl, hb7⟩; rw [hC]; have hS7 := below_next (B := W3) (by first | exact (Below.refl _ _).drew | assumption) hb7) | (go_at_call 78; refine (goodData_any l[k].t a c l[k].d _ (HX.out.below (by first | exact (Below.refl _ _).drew | assumption)) HN.out (by omega)).mono ?_; rintro e w8 ⟨rfl, hb8⟩; rw [hD]; have hS8 := below_next (B := W3) (by first | exact (Below.refl _ _).drew | assumption) hb8)
              go_wp2_with fail
              refine hK.out _ _ (by with_reducible first | assumption | exact (Below.refl _ _).drew) ?_
              clear hK K
              intro hHeld2
              clear hHeld
              have hHeld := hHeld2
              clear hHeld2
              try simp only [Act.put, List.setIfInBounds_toArray, List.set_cons_zero, List.set_cons_succ]
              refine take_at (i := 14) 29 (v := ?_) rfl rfl (by kernel_rfl) (by kernel_rfl) (by kernel_rfl) (fun _ _ _ h => h) (by rfl) ?_ hHeld ?_
              rotate_left
              · (intro w hSw; (try dsimp only at hSw); go_simp; try with_reducible rfl)
              simp only [Act.put, List.setIfInBounds_toArray, List.set_cons_zero, List.set_cons_succ]
              refine take_at (i := 15) 30 (v := ?_) rfl rfl (by kernel_rfl) (by kernel_rfl) (by kernel_rfl) (fun _ _ _ h => h) (by rfl) ?_ hHeld ?_
              rotate_left
              · (intro w hSw; (try dsimp only at hSw); go_simp; try with_reducible rfl)
              simp only [Act.put, List.setIfInBounds_toArray, List.set_cons_zero, List.set_cons_succ]
              refine take_at (i := 16) 31 (v := ?_) rfl rfl (by kernel_rfl) (by kernel_rfl) (by kernel_rfl) (fun _ _ _ h => h) (by rfl) ?_ hHeld ?_
              rotate_left
              · (intro w hSw; (try dsimp only at hSw); go_simp; try with_reducible rfl)
              simp only [Act.put, List.setIfInBounds_toArray, List.set_cons_zero, List.set_cons_succ]
              refine take_at (i := 17) 32 (v := ?_) rfl rfl (by kernel_rfl) (by kernel_rfl) (by kernel_rfl) (fun _ _ _ h => h) (by rfl) ?_ hHeld ?_
              rotate_left
              · (intro w hSw; (try dsimp only at hSw); go_simp; try with_reducible rfl)
              simp only [Act.put, List.setIfInBounds_toArray, List.set_cons_zero, List.set_cons_succ]
              refine take_at (i := 18) 33 (v := ?_) rfl rfl (by kernel_rfl) (by kernel_rfl) (by kernel_rfl) (fun _ _ _ h => h) (by rfl) ?_ hHeld ?_
              rotate_left
              · (intro w hSw; (try dsimp only at hSw); go_simp; try with_reducible rfl)
              simp only [Act.put, List.setIfInBounds_toArray, List.set_cons_zero, List.set_cons_succ]
              refine run_at (i := 19) rfl (by kernel_rfl) (by rfl) (fun K hK => ?_)
              simp only [List.getElem_toArray, List.getElem_cons_zero, List.getElem_cons_succ]
              go_simp
              first | (go_at_call 75; refine (goodType_n _ k cap (l.take k) l[k].t _ HKL.out (HT.out.below (by first | exact (Below.refl _ _).drew | assumption)) (by have := HKL.out; omega) (by have := HKL.out; omega)).mono ?_; rintro e w5 ⟨rfl, hb5⟩; rw [hA]; have hS5 := below_next (B := W3) (by first | exact (Below.refl _ _).drew | assumption) hb5) | (go_at_call 76; refine (goodNumber_n _ k cap (l.take k) l[k].n _ HKL.out (HT.out.below (by first | exact (Below.refl _ _).drew | assumption)) (by have := HKL.out; omega) (by have := HKL.out; omega)).mono ?_; rintro e w6 ⟨rfl, hb6⟩; rw [hB]; have hS6 := below_next (B := W3) (by first | exact (Below.refl _ _).drew | assumption) hb6) | (go_at_call 77; refine (goodFlags_b l[k].f _).mono ?_; rintro e w7 ⟨rfl, hb7⟩; rw [hC]; have hS7 := below_next (B := W3) (by first | exact (Below.refl _ _).drew | assumption) hb7) | (go_at_call 78; refine (goodData_any l[k].t a c l[k].d _ (HX.out.below (by first | exact (Below.refl _ _).drew | assumption)) HN.out (by omega)).mono ?_; rintro e w8 ⟨rfl, hb8⟩; rw [hD]; have hS8 := below_next (B := W3) (by first | exact (Below.refl _ _).drew | assumption) hb8)
              go_wp2_with fail
              refine hK.out _ _ (by with_reducible first | assumption | exact (Below.refl _ _).drew) ?_
              clear hK K
              intro hHeld2
              clear hHeld
              have hHeld := hHeld2
              clear hHeld2
              try simp only [Act.put, List.setIfInBounds_toArray, List.set_cons_zero, List.set_cons_succ]
              refine take_at (i := 20) 35 (v := ?_) rfl rfl (by kernel_rfl) (by kernel_rfl) (by kernel_rfl) (fun _ _ _ h => h) (by rfl) ?_ hHeld ?_
              rotate_left
              · (intro w hSw; (try dsimp only at hSw); go_simp; try with_reducible rfl)
              simp only [Act.put, List.setIfInBounds_toArray, List.set_cons_zero, List.set_cons_succ]
              refine take_at (i := 21) 36 (v := ?_) rfl rfl (by kernel_rfl) (by kernel_rfl) (by kernel_rfl) (fun _ _ _ h => h) (by rfl) ?_ hHeld ?_
              rotate_left
              · (intro w hSw; (try dsimp only at hSw); go_simp; try with_reducible rfl)
              simp only [Act.put, List.setIfInBounds_toArray, List.set_cons_zero, List.set_cons_succ]
              refine take_at (i := 22) 37 (v := ?_) rfl rfl (by kernel_rfl) (by kernel_rfl) (by kernel_rfl) (fun _ _ _ h => h) (by rfl) ?_ hHeld ?_
              rotate_left
              · (intro w hSw; (try dsimp only at hSw); go_simp; try with_reducible rfl)
              simp only [Act.put, List.setIfInBounds_toArray, List.set_cons_zero, List.set_cons_succ]
              refine take_at (i := 23) 38 (v := ?_) rfl rfl (by kernel_rfl) (by kernel_rfl) (by kernel_rfl) (fun _ _ _ h => h) (by rfl) ?_ hHeld ?_
              rotate_left
              · (intro w hSw; (try dsimp only at hSw); go_simp; try with_reducible rfl)
              simp only [Act.put, List.setIfInBounds_toArray, List.set_cons_zero, List.set_cons_succ]
              refine take_at (i := 24) 39 (v := ?_) rfl rfl (by kernel_rfl) (by kernel_rfl) (by kernel_rfl) (fun _ _ _ h => h) (by rfl) ?_ hHeld ?_
              rotate_left
              · (intro w hSw; (try dsimp only at hSw); go_simp; try with_reducible rfl)
              simp only [Act.put, List.setIfInBounds_toArray, List.set_cons_zero, List.set_cons_succ]
              refine take_at (i := 25) 40 (v := ?_) rfl rfl (by kernel_rfl) (by kernel_rfl) (by kernel_rfl) (fun _ _ _ h => h) (by rfl) ?_ hHeld ?_
              rotate_left
              · (intro w hSw; (try dsimp only at hSw); go_simp; try with_reducible rfl)
              simp only [Act.put, List.setIfInBounds_toArray, List.set_cons_zero, List.set_cons_succ]
              refine take_at (i := 26) 41 (v := ?_) rfl rfl (by kernel_rfl) (by kernel_rfl) (by kernel_rfl) (fun _ _ _ h => h) (by rfl) ?_ hHeld ?_
              rotate_left
              · (intro w hSw; (try dsimp only at hSw); go_simp; try with_reducible rfl)
              simp only [Act.put, List.setIfInBounds_toArray, List.set_cons_zero, List.set_cons_succ]
              refine run_at (i := 27) rfl (by kernel_rfl) (by rfl) (fun K hK => ?_)
              simp only [List.getElem_toArray, List.getElem_cons_zero, List.getElem_cons_succ]
              go_simp
              first | (go_at_call 75; refine (goodType_n _ k cap (l.take k) l[k].t _ HKL.out (HT.out.below (by first | exact (Below.refl _ _).drew | assumption)) (by have := HKL.out; omega) (by have := HKL.out; omega)).mono ?_; rintro e w5 ⟨rfl, hb5⟩; rw [hA]; have hS5 := below_next (B := W3) (by first | exact (Below.refl _ _).drew | assumption) hb5) | (go_at_call 76; refine (goodNumber_n _ k cap (l.take k) l[k].n _ HKL.out (HT.out.below (by first | exact (Below.refl _ _).drew | assumption)) (by have := HKL.out; omega) (by have := HKL.out; omega)).mono ?_; rintro e w6 ⟨rfl, hb6⟩; rw [hB]; have hS6 := below_next (B := W3) (by first | exact (Below.refl _ _).drew | assumption) hb6) | (go_at_call 77; refine (goodFlags_b l[k].f _).mono ?_; rintro e w7 ⟨rfl, hb7⟩; rw [hC]; have hS7 := below_next (B := W3) (by first | exact (Below.refl _ _).drew | assumption) hb7) | (go_at_call 78; refine (goodData_any l[k].t a c l[k].d _ (HX.out.below (by first | exact (Below.refl _ _).drew | assumption)) HN.out (by omega)).mono ?_; rintro e w8 ⟨rfl, hb8⟩; rw [hD]; have hS8 := below_next (B := W3) (by first | exact (Below.refl _ _).drew | assumption) hb8)
              go_wp2_with fail
              refine hK.out _ _ (by with_reducible first | assumption | exact (Below.refl _ _).drew) ?_
              clear hK K
              intro hHeld2
              clear hHeld
              have hHeld := hHeld2
              clear hHeld2
              try simp only [Act.put, List.setIfInBounds_toArray, List.set_cons_zero, List.set_cons_succ]
              refine take_at (i := 28) 43 (v := ?_) rfl rfl (by kernel_rfl) (by kernel_rfl) (by kernel_rfl) (fun _ _ _ h => h) (by rfl) ?_ hHeld ?_
              rotate_left
              · (intro w hSw; (try dsimp only at hSw); go_simp; try with_reducible rfl)
              simp only [Act.put, List.setIfInBounds_toArray, List.set_cons_zero, List.set_cons_succ]
              refine take_at (i := 29) 44 (v := ?_) rfl rfl (by kernel_rfl) (by kernel_rfl) (by kernel_rfl) (fun _ _ _ h => h) (by rfl) ?_ hHeld ?_
              rotate_left
              · (intro w hSw; (try dsimp only at hSw); go_simp; try with_reducible rfl)
              simp only [Act.put, List.setIfInBounds_toArray, List.set_cons_zero, List.set_cons_succ]
              refine wpAnyH_done (by kernel_rfl) ?_ _
              refine NoPanic.normal ?_
              all_goals go_wp2
              all_goals go_ret
              all_goals exact ⟨⟨false, rfl, by simp; exact HG.out⟩, below_next hbel (below_next hb3 (by assumption))⟩
            · have HB : Hid (blkS (l.take k) l[k] = true) := by unfold Hid blkS; rw [hA, hB, hC, hD]; rfl
              refine wp_region_noPanic ?_
              refine wp_region_held_drew (S := (fun u => Below W3.heap.size W3 u)) (by kernel_rfl) (by with_reducible first | assumption | exact (Below.refl _ _).drew) (fun hHeld => ?_)
              refine take_at (i := 0) 15 (v := ?_) rfl rfl (by kernel_rfl) (by kernel_rfl) (by kernel_rfl) (fun _ _ _ h => h) (by rfl) ?_ hHeld ?_
              rotate_left
              · (intro w hSw; (try dsimp only at hSw); go_simp; try with_reducible rfl)
              simp only [Act.put, List.setIfInBounds_toArray, List.set_cons_zero, List.set_cons_succ]
              refine take_at (i := 1) 16 (v := ?_) rfl rfl (by kernel_rfl) (by kernel_rfl) (by kernel_rfl) (fun _ _ _ h => h) (by rfl) ?_ hHeld ?_
              rotate_left
              · (intro w hSw; (try dsimp only at hSw); go_simp; try with_reducible rfl)
              simp only [Act.put, List.setIfInBounds_toArray, List.set_cons_zero, List.set_cons_succ]
              refine take_at (i := 2) 17 (v := ?_) rfl rfl (by kernel_rfl) (by kernel_rfl) (by kernel_rfl) (fun _ _ _ h => h) (by rfl) ?_ hHeld ?_
              rotate_left
              · (intro w hSw; (try dsimp only at hSw); go_simp; try with_reducible rfl)
              simp only [Act.put, List.setIfInBounds_toArray, List.set_cons_zero, List.set_cons_succ]
              refine take_at (i := 3) 18 (v := ?_) rfl rfl (by kernel_rfl) (by kernel_rfl) (by kernel_rfl) (fun _ _ _ h => h) (by rfl) ?_ hHeld ?_
              rotate_left
              · (intro w hSw; (try dsimp only at hSw); go_simp; try with_reducible rfl)
              simp only [Act.put, List.setIfInBounds_toArray, List.set_cons_zero, List.set_cons_succ]
              refine take_at (i := 4) 19 (v := ?_) rfl rfl (by kernel_rfl) (by kernel_rfl) (by kernel_rfl) (fun _ _ _ h => h) (by rfl) ?_ hHeld ?_
              rotate_left
              · (intro w hSw; (try dsimp only at hSw); go_simp; try with_reducible rfl)
              simp only [Act.put, List.setIfInBounds_toArray, List.set_cons_zero, List.set_cons_succ]
              refine run_at (i := 5) rfl (by kernel_rfl) (by rfl) (fun K hK => ?_)
              simp only [List.getElem_toArray, List.getElem_cons_zero, List.getElem_cons_succ]
              go_simp
              first | (go_at_call 75; refine (goodType_n _ k cap (l.take k) l[k].t _ HKL.out (HT.out.below (by first | exact (Below.refl _ _).drew | assumption)) (by have := HKL.out; omega) (by have := HKL.out; omega)).mono ?_; rintro e w5 ⟨rfl, hb5⟩; rw [hA]; have hS5 := below_next (B := W3) (by first | exact (Below.refl _ _).drew | assumption) hb5) | (go_at_call 76; refine (goodNumber_n _ k cap (l.take k) l[k].n _ HKL.out (HT.out.below (by first | exact (Below.refl _ _).drew | assumption)) (by have := HKL.out; omega) (by have := HKL.out; omega)).mono ?_; rintro e w6 ⟨rfl, hb6⟩; rw [hB]; have hS6 := below_next (B := W3) (by first | exact (Below.refl _ _).drew | assumption) hb6) | (go_at_call 77; refine (goodFlags_b l[k].f _).mono ?_; rintro e w7 ⟨rfl, hb7⟩; rw [hC]; have hS7 := below_next (B := W3) (by first | exact (Below.refl _ _).drew | assumption) hb7) | (go_at_call 78; refine (goodData_any l[k].t a c l[k].d _ (HX.out.below (by first | exact (Below.refl _ _).drew | assumption)) HN.out (by omega)).mono ?_; rintro e w8 ⟨rfl, hb8⟩; rw [hD]; have hS8 := below_next (B := W3) (by first | exact (Below.refl _ _).drew | assumption) hb8)
              go_wp2_with fail
              refine hK.out _ _ (by with_reducible first | assumption | exact (Below.refl _ _).drew) ?_
              clear hK K
              intro hHeld2
              clear hHeld
              have hHeld := hHeld2
              clear hHeld2
              try simp only [Act.put, List.setIfInBounds_toArray, List.set_cons_zero, List.set_cons_succ]
              refine take_at (i := 6) 21 (v := ?_) rfl rfl (by kernel_rfl) (by kernel_rfl) (by kernel_rfl) (fun _ _ _ h => h) (by rfl) ?_ hHeld ?_
              rotate_left
              · (intro w hSw; (try dsimp only at hSw); go_simp; try with_reducible rfl)
              simp only [Act.put, List.setIfInBounds_toArray, List.set_cons_zero, List.set_cons_succ]
              refine take_at (i := 7) 22 (v := ?_) rfl rfl (by kernel_rfl) (by kernel_rfl) (by kernel_rfl) (fun _ _ _ h => h) (by rfl) ?_ hHeld ?_
              rotate_left
              · (intro w hSw; (try dsimp only at hSw); go_simp; try with_reducible rfl)
              simp only [Act.put, List.setIfInBounds_toArray, List.set_cons_zero, List.set_cons_succ]
              refine take_at (i := 8) 23 (v := ?_) rfl rfl (by kernel_rfl) (by kernel_rfl) (by kernel_rfl) (fun _ _ _ h => h) (by rfl) ?_ hHeld ?_
              rotate_left
              · (intro w hSw; (try dsimp only at hSw); go_simp; try with_reducible rfl)
              simp only [Act.put, List.setIfInBounds_toArray, List.set_cons_zero, List.set_cons_succ]
              refine take_at (i := 9) 24 (v := ?_) rfl rfl (by kernel_rfl) (by kernel_rfl) (by kernel_rfl) (fun _ _ _ h => h) (by rfl) ?_ hHeld ?_
              rotate_left
              · (intro w hSw; (try dsimp only at hSw); go_simp; try with_reducible rfl)
              simp only [Act.put, List.setIfInBounds_toArray, List.set_cons_zero, List.set_cons_succ]
              refine take_at (i := 10) 25 (v := ?_) rfl rfl (by kernel_rfl) (by kernel_rfl) (by kernel_rfl) (fun _ _ _ h => h) (by rfl) ?_ hHeld ?_
              rotate_left
              · (intro w hSw; (try dsimp only at hSw); go_simp; try with_reducible rfl)
              simp only [Act.put, List.setIfInBounds_toArray, List.set_cons_zero, List.set_cons_succ]
              refine take_at (i := 11) 26 (v := ?_) rfl rfl (by kernel_rfl) (by kernel_rfl) (by kernel_rfl) (fun _ _ _ h => h) (by rfl) ?_ hHeld ?_
              rotate_left
              · (intro w hSw; (try dsimp only at hSw); go_simp; try with_reducible rfl)
              simp only [Act.put, List.setIfInBounds_toArray, List.set_cons_zero, List.set_cons_succ]
              refine take_at (i := 12) 27 (v := ?_) rfl rfl (by kernel_rfl) (by kernel_rfl) (by kernel_rfl) (fun _ _ _ h => h) (by rfl) ?_ hHeld ?_
              rotate_left
              · (intro w hSw; (try dsimp only at hSw); go_simp; try with_reducible rfl)
              simp only [Act.put, List.setIfInBounds_toArray, List.set_cons_zero, List.set_cons_succ]
              refine run_at (i := 13) rfl (by kernel_rfl) (by rfl) (fun K hK => ?_)
              simp only [List.getElem_toArray, List.getElem_cons_zero, List.getElem_cons_succ]
              go_simp
              first | (go_at_call 75; refine (goodType_n _ k cap (l.take k) l[k].t _ HKL.out (HT.out.below (by first | exact (Below.refl _ _).drew | assumption)) (by have := HKL.out; omega) (by have := HKL.out; omega)).mono ?_; rintro e w5 ⟨rfl, hb5⟩; rw [hA]; have hS5 := below_next (B := W3) (by first | exact (Below.refl _ _).drew | assumption) hb5) | (go_at_call 76; refine (goodNumber_n _ k cap (l.take k) l[k].n _ HKL.out (HT.out.below (by first | exact (Below.refl _ _).drew | assumption)) (by have := HKL.out; omega) (by have := HKL.out; omega)).mono ?_; rintro e w6 ⟨rfl, hb6⟩; rw [hB]; have hS6 := below_next (B := W3) (by first | exact (Below.refl _ _).drew | assumption) hb6) | (go_at_call 77; refine (goodFlags_b l[k].f _).mono ?_; rintro e w7 ⟨rfl, hb7⟩; rw [hC]; have hS7 := below_next (B := W3) (by first | exact (Below.refl _ _).drew | assumption) hb7) | (go_at_call 78; refine (goodData_any l[k].t a c l[k].d _ (HX.out.below (by first | exact (Below.refl _ _).drew | assumption)) HN.out (by omega)).mono ?_; rintro e w8 ⟨rfl, hb8⟩; rw [hD]; have hS8 := below_next (B := W3) (by first | exact (Below.refl _ _).drew | assumption) hb8)
              go_wp2_with fail
              refine hK.out _ _ (by with_reducible first | assumption | exact (Below.refl _ _).drew) ?_
              clear hK K
              intro hHeld2
              clear hHeld
              have hHeld := hHeld2
              clear hHeld2
              try simp only [Act.put, List.setIfInBounds_toArray, List.set_cons_zero, List.set_cons_succ]
              refine take_at (i := 14) 29 (v := ?_) rfl rfl (by kernel_rfl) (by kernel_rfl) (by kernel_rfl) (fun _ _ _ h => h) (by rfl) ?_ hHeld ?_
              rotate_left
              · (intro w hSw; (try dsimp only at hSw); go_simp; try with_reducible rfl)
              simp only [Act.put, List.setIfInBounds_toArray, List.set_cons_zero, List.set_cons_succ]
              refine take_at (i := 15) 30 (v := ?_) rfl rfl (by kernel_rfl) (by kernel_rfl) (by kernel_rfl) (fun _ _ _ h => h) (by rfl) ?_ hHeld ?_
              rotate_left
              · (intro w hSw; (try dsimp only at hSw); go_simp; try with_reducible rfl)
              simp only [Act.put, List.setIfInBounds_toArray, List.set_cons_zero, List.set_cons_succ]
              refine take_at (i := 16) 31 (v := ?_) rfl rfl (by kernel_rfl) (by kernel_rfl) (by kernel_rfl) (fun _ _ _ h => h) (by rfl) ?_ hHeld ?_
              rotate_left
              · (intro w hSw; (try dsimp only at hSw); go_simp; try with_reducible rfl)
              simp only [Act.put, List.setIfInBounds_toArray, List.set_cons_zero, List.set_cons_succ]
              refine take_at (i := 17) 32 (v := ?_) rfl rfl (by kernel_rfl) (by kernel_rfl) (by kernel_rfl) (fun _ _ _ h => h) (by rfl) ?_ hHeld ?_
              rotate_left
              · (intro w hSw; (try dsimp only at hSw); go_simp; try with_reducible rfl)
              simp only [Act.put, List.setIfInBounds_toArray, List.set_cons_zero, List.set_cons_succ]
              refine take_at (i := 18) 33 (v := ?_) rfl rfl (by kernel_rfl) (by kernel_rfl) (by kernel_rfl) (fun _ _ _ h => h) (by rfl) ?_ hHeld ?_
              rotate_left
              · (intro w hSw; (try dsimp only at hSw); go_simp; try with_reducible rfl)
              simp only [Act.put, List.setIfInBounds_toArray, List.set_cons_zero, List.set_cons_succ]
              refine run_at (i := 19) rfl (by kernel_rfl) (by rfl) (fun K hK => ?_)
              simp only [List.getElem_toArray, List.getElem_cons_zero, List.getElem_cons_succ]
              go_simp
              first | (go_at_call 75; refine (goodType_n _ k cap (l.take k) l[k].t _ HKL.out (HT.out.below (by first | exact (Below.refl _ _).drew | assumption)) (by have := HKL.out; omega) (by have := HKL.out; omega)).mono ?_; rintro e w5 ⟨rfl, hb5⟩; rw [hA]; have hS5 := below_next (B := W3) (by first | exact (Below.refl _ _).drew | assumption) hb5) | (go_at_call 76; refine (goodNumber_n _ k cap (l.take k) l[k].n _ HKL.out (HT.out.below (by first | exact (Below.refl _ _).drew | assumption)) (by have := HKL.out; omega) (by have := HKL.out; omega)).mono ?_; rintro e w6 ⟨rfl, hb6⟩; rw [hB]; have hS6 := below_next (B := W3) (by first | exact (Below.refl _ _).drew | assumption) hb6) | (go_at_call 77; refine (goodFlags_b l[k].f _).mono ?_; rintro e w7 ⟨rfl, hb7⟩; rw [hC]; have hS7 := below_next (B := W3) (by first | exact (Below.refl _ _).drew | assumption) hb7) | (go_at_call 78; refine (goodData_any l[k].t a c l[k].d _ (HX.out.below (by first | exact (Below.refl _ _).drew | assumption)) HN.out (by omega)).mono ?_; rintro e w8 ⟨rfl, hb8⟩; rw [hD]; have hS8 := below_next (B := W3) (by first | exact (Below.refl _ _).drew | assumption) hb8)
              go_wp2_with fail
              refine hK.out _ _ (by with_reducible first | assumption | exact (Below.refl _ _).drew) ?_
              clear hK K
              intro hHeld2
              clear hHeld
              have hHeld := hHeld2
              clear hHeld2
              try simp only [Act.put, List.setIfInBounds_toArray, List.set_cons_zero, List.set_cons_succ]
              refine take_at (i := 20) 35 (v := ?_) rfl rfl (by kernel_rfl) (by kernel_rfl) (by kernel_rfl) (fun _ _ _ h => h) (by rfl) ?_ hHeld ?_
              rotate_left
              · (intro w hSw; (try dsimp only at hSw); go_simp; try with_reducible rfl)
              simp only [Act.put, List.setIfInBounds_toArray, List.set_cons_zero, List.set_cons_succ]
              refine take_at (i := 21) 36 (v := ?_) rfl rfl (by kernel_rfl) (by kernel_rfl) (by kernel_rfl) (fun _ _ _ h => h) (by rfl) ?_ hHeld ?_
              rotate_left
              · (intro w hSw; (try dsimp only at hSw); go_simp; try with_reducible rfl)
              simp only [Act.put, List.setIfInBounds_toArray, List.set_cons_zero, List.set_cons_succ]
              refine take_at (i := 22) 37 (v := ?_) rfl rfl (by kernel_rfl) (by kernel_rfl) (by kernel_rfl) (fun _ _ _ h => h) (by rfl) ?_ hHeld ?_
              rotate_left
              · (intro w hSw; (try dsimp only at hSw); go_simp; try with_reducible rfl)
              simp only [Act.put, List.setIfInBounds_toArray, List.set_cons_zero, List.set_cons_succ]
              refine take_at (i := 23) 38 (v := ?_) rfl rfl (by kernel_rfl) (by kernel_rfl) (by kernel_rfl) (fun _ _ _ h => h) (by rfl) ?_ hHeld ?_
              rotate_left
              · (intro w hSw; (try dsimp only at hSw); go_simp; try with_reducible rfl)
              simp only [Act.put, List.setIfInBounds_toArray, List.set_cons_zero, List.set_cons_succ]
              refine take_at (i := 24) 39 (v := ?_) rfl rfl (by kernel_rfl) (by kernel_rfl) (by kernel_rfl) (fun _ _ _ h => h) (by rfl) ?_ hHeld ?_
              rotate_left
              · (intro w hSw; (try dsimp only at hSw); go_simp; try with_reducible rfl)
              simp only [Act.put, List.setIfInBounds_toArray, List.set_cons_zero, List.set_cons_succ]
              refine take_at (i := 25) 40 (v := ?_) rfl rfl (by kernel_rfl) (by kernel_rfl) (by kernel_rfl) (fun _ _ _ h => h) (by rfl) ?_ hHeld ?_
              rotate_left
              · (intro w hSw; (try dsimp only at hSw); go_simp; try with_reducible rfl)
              simp only [Act.put, List.setIfInBounds_toArray, List.set_cons_zero, List.set_cons_succ]
              refine take_at (i := 26) 41 (v := ?_) rfl rfl (by kernel_rfl) (by kernel_rfl) (by kernel_rfl) (fun _ _ _ h => h) (by rfl) ?_ hHeld ?_
              rotate_left
              · (intro w hSw; (try dsimp only at hSw); go_simp; try with_reducible rfl)
              simp only [Act.put, List.setIfInBounds_toArray, List.set_cons_zero, List.set_cons_succ]
              refine run_at (i := 27) rfl (by kernel_rfl) (by rfl) (fun K hK => ?_)
              simp only [List.getElem_toArray, List.getElem_cons_zero, List.getElem_cons_succ]
              go_simp
              first | (go_at_call 75; refine (goodType_n _ k cap (l.take k) l[k].t _ HKL.out (HT.out.below (by first | exact (Below.refl _ _).drew | assumption)) (by have := HKL.out; omega) (by have := HKL.out; omega)).mono ?_; rintro e w5 ⟨rfl, hb5⟩; rw [hA]; have hS5 := below_next (B := W3) (by first | exact (Below.refl _ _).drew | assumption) hb5) | (go_at_call 76; refine (goodNumber_n _ k cap (l.take k) l[k].n _ HKL.out (HT.out.below (by first | exact (Below.refl _ _).drew | assumption)) (by have := HKL.out; omega) (by have := HKL.out; omega)).mono ?_; rintro e w6 ⟨rfl, hb6⟩; rw [hB]; have hS6 := below_next (B := W3) (by first | exact (Below.refl _ _).drew | assumption) hb6) | (go_at_call 77; refine (goodFlags_b l[k].f _).mono ?_; rintro e w7 ⟨rfl, hb7⟩; rw [hC]; have hS7 := below_next (B := W3) (by first | exact (Below.refl _ _).drew | assumption) hb7) | (go_at_call 78; refine (goodData_any l[k].t a c l[k].d _ (HX.out.below (by first | exact (Below.refl _ _).drew | assumption)) HN.out (by omega)).mono ?_; rintro e w8 ⟨rfl, hb8⟩; rw [hD]; have hS8 := below_next (B := W3) (by first | exact (Below.refl _ _).drew | assumption) hb8)
              go_wp2_with fail
              refine hK.out _ _ (by with_reducible first | assumption | exact (Below.refl _ _).drew) ?_
              clear hK K
              intro hHeld2
              clear hHeld
              have hHeld := hHeld2
              clear hHeld2
              try simp only [Act.put, List.setIfInBounds_toArray, List.set_cons_zero, List.set_cons_succ]
              refine take_at (i := 28) 43 (v := ?_) rfl rfl (by kernel_rfl) (by kernel_rfl) (by kernel_rfl) (fun _ _ _ h => h) (by rfl) ?_ hHeld ?_
              rotate_left
              · (intro w hSw; (try dsimp only at hSw); go_simp; try with_reducible rfl)
              simp only [Act.put, List.setIfInBounds_toArray, List.set_cons_zero, List.set_cons_succ]
              refine take_at (i := 29) 44 (v := ?_) rfl rfl (by kernel_rfl) (by kernel_rfl) (by kernel_rfl) (fun _ _ _ h => h) (by rfl) ?_ hHeld ?_
              rotate_left
              · (intro w hSw; (try dsimp only at hSw); go_simp; try with_reducible rfl)
              simp only [Act.put, List.setIfInBounds_toArray, List.set_cons_zero, List.set_cons_succ]
              refine wpAnyH_done (by kernel_rfl) ?_ _
              refine NoPanic.normal ?_
              all_goals go_wp2
              all_goals go_roundw
              all_goals first
                | (case rel =>
                    refine ⟨k + 1, by omega, by go_num, fun j hj hjk => ?_, below_next hbel (below_next hb3 (by assumption))⟩
                    by_cases e : j = k
                    · subst e; exact HB.out
                    · exact HA.out j hj (by omega))
                | (case measure => simp [intOf]; omega)
    · have HG : Hid (GoodBlks l) := ⟨by omega, fun i hi => HA.out i hi (by omega)⟩
      obtain rfl : k = l.length := by omega
      go_wp2
      go_ret
      exact ⟨⟨true, rfl, by simp; exact HG.out⟩, hbel⟩
end Go.Proofs.Ytdpkommmkcmifaa
