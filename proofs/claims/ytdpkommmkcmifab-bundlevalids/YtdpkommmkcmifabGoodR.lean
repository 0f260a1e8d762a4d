import Derived.Test.YtdpkommmkcmifabHead
namespace Go.Proofs.Ytdpkommmkcmifab
set_option linter.unusedVariables false
set_option linter.unusedSimpArgs false
open Go.RowKit
theorem head_zero {l : List Blk} {x : Blk} : headS l x = 0 ↔ (typeS l x.t = true ∧ numbS l x.n = true ∧ x.f ≤ 255) := by
  unfold headS
  constructor
  · intro h
    split at h
    · split at h
      · split at h
        · exact ⟨by assumption, by assumption, by assumption⟩
        · cases h
      · cases h
    · cases h
  · rintro ⟨h1, h2, h3⟩
    rw [if_pos h1, if_pos h2, if_pos h3]
theorem blk_head {l : List Blk} {x : Blk} : blkS l x = true ↔ (headS l x = 0 ∧ x.d.length ≤ 64 ∧ holdsS x.t x.d = true) := by
  rw [head_zero]
  unfold blkS dataS
  simp
  constructor
  · rintro ⟨h1, h2, h3, h4, h5⟩; exact ⟨⟨h1, h2, h3⟩, h4, h5⟩
  · rintro ⟨⟨h1, h2, h3⟩, h4, h5⟩; exact ⟨h1, h2, h3, h4, h5⟩
theorem nums3 {a b c : Nat} : numsS [a, b, c] = true ↔ (a ≤ 281474976710655 ∧ b ≤ 281474976710655 ∧ c ≤ 281474976710655) := by unfold numsS; simp
theorem ends_at {w : World} {g : Nat} {b : Bun} (c1 : w.cell? ⟨g, 1, none⟩ = some (.int .u64 b.e0)) (c2 : w.cell? ⟨g, 2, none⟩ = some (.int .u64 b.e1)) (c3 : w.cell? ⟨g, 3, none⟩ = some (.int .u64 b.e2)) (c4 : w.cell? ⟨g, 4, none⟩ = some (.int .u64 b.e3)) (c5 : w.cell? ⟨g, 5, none⟩ = some (.int .u64 b.e4)) (c6 : w.cell? ⟨g, 6, none⟩ = some (.int .u64 b.e5)) (k : Nat) (hk : k < [b.e0, b.e1, b.e2, b.e3, b.e4, b.e5].length) : w.cell? ⟨g, 1 + k, none⟩ = some (.int .u64 ([b.e0, b.e1, b.e2, b.e3, b.e4, b.e5][k] : Nat)) := by
  match k, hk with
  | 0, _ => exact c1
  | 1, _ => exact c2
  | 2, _ => exact c3
  | 3, _ => exact c4
  | 4, _ => exact c5
  | 5, _ => exact c6
set_option maxRecDepth 20000 in
set_option maxHeartbeats 3200000 in
theorem goodRef_any (b : Bun) (ba : Option Addr) (bc : Nat) (pa : Option Addr) (pc : Nat) (w : World) (h : BunR w b ba bc pa pc) :
    Calls Try.prog 46 #[bunV b ba bc pa pc] w fun e w' => RetB e (GoodB b) ∧ Below w.heap.size w w' := by
  have hbn := h.ok.bn
  have hpn := h.ok.py
  have hlb := h.lb
  unfold bunV
  obtain ⟨W0, hW0⟩ : ∃ W0 : World, W0 = w.alloc (.cells #[.int .u64 b.fl, .int .u64 b.e0, .int .u64 b.e1, .int .u64 b.e2, .int .u64 b.e3, .int .u64 b.e4, .int .u64 b.e5, .int .u64 b.tm, .int .u64 b.sq, .int .u64 b.lf, .slice ba b.bl.length bc, .slice pa b.py.length pc] 57) := ⟨_, rfl⟩
  have hI : W0.heap[w.heap.size]? = some (.cells #[.int .u64 b.fl, .int .u64 b.e0, .int .u64 b.e1, .int .u64 b.e2, .int .u64 b.e3, .int .u64 b.e4, .int .u64 b.e5, .int .u64 b.tm, .int .u64 b.sq, .int .u64 b.lf, .slice ba b.bl.length bc, .slice pa b.py.length pc] 57 (0, 0)) := by rw [hW0]; exact heap_alloc_new w _
  have hb0 : Below w.heap.size w W0 := by rw [hW0]; exact al (Below.refl _ _) _
  have HS0 : Hid (w.heap.size + 1 = W0.heap.size) := by unfold Hid; rw [hW0]; simp
  by_cases h8 : b.fl ≤ 7
  rotate_left
  · have HG : Hid (¬ GoodB b) := fun hg => h8 (by have := hg.fl; omega)
    go_enter Try.func46, Try.ntmps46
    go_wp2
    rw [← hW0]
    go_ret
    exact ⟨retB_f (by first | rfl | (simp; omega)) HG.out, hb0⟩
  by_cases ht : b.tm ≤ 281474976710655
  rotate_left
  · have HG : Hid (¬ GoodB b) := fun hg => ht (nums3.1 hg.ts).1
    have htd : decide ((281474976710655 : Int) < ((b.tm : Nat) : Int)) = true := by simp; omega
    go_enter Try.func46, Try.ntmps46
    go_wp2
    rw [← hW0]
    go_ret
    exact ⟨retB_f (by first | rfl | (simp; omega)) HG.out, hb0⟩
  by_cases hq : b.sq ≤ 281474976710655
  rotate_left
  · have HG : Hid (¬ GoodB b) := fun hg => hq (nums3.1 hg.ts).2.1
    have htd : decide ((281474976710655 : Int) < ((b.tm : Nat) : Int)) = false := by simp; omega
    have hqd : decide ((281474976710655 : Int) < ((b.sq : Nat) : Int)) = true := by simp; omega
    go_enter Try.func46, Try.ntmps46
    go_wp2
    rw [← hW0]
    go_ret
    exact ⟨retB_f (by first | rfl | (simp; omega)) HG.out, hb0⟩
  by_cases hf : b.lf ≤ 281474976710655
  rotate_left
  · have HG : Hid (¬ GoodB b) := fun hg => hf (nums3.1 hg.ts).2.2
    have htd : decide ((281474976710655 : Int) < ((b.tm : Nat) : Int)) = false := by simp; omega
    have hqd : decide ((281474976710655 : Int) < ((b.sq : Nat) : Int)) = false := by simp; omega
    have hfd : decide ((281474976710655 : Int) < ((b.lf : Nat) : Int)) = true := by simp; omega
    go_enter Try.func46, Try.ntmps46
    go_wp2
    rw [← hW0]
    go_ret
    exact ⟨retB_f (by first | rfl | (simp; omega)) HG.out, hb0⟩
  by_cases hb8 : b.bl.length ≤ 8
  rotate_left
  · have HG : Hid (¬ GoodB b) := fun hg => hb8 hg.bl.1
    have htd : decide ((281474976710655 : Int) < ((b.tm : Nat) : Int)) = false := by simp; omega
    have hqd : decide ((281474976710655 : Int) < ((b.sq : Nat) : Int)) = false := by simp; omega
    have hfd : decide ((281474976710655 : Int) < ((b.lf : Nat) : Int)) = false := by simp; omega
    go_enter Try.func46, Try.ntmps46
    go_wp2
    rw [← hW0]
    go_ret
    exact ⟨retB_f (by first | rfl | (simp; omega)) HG.out, hb0⟩
  by_cases hp : b.py.length ≤ 512
  rotate_left
  · have HG : Hid (¬ GoodB b) := fun hg => hp hg.py
    have htd : decide ((281474976710655 : Int) < ((b.tm : Nat) : Int)) = false := by simp; omega
    have hqd : decide ((281474976710655 : Int) < ((b.sq : Nat) : Int)) = false := by simp; omega
    have hfd : decide ((281474976710655 : Int) < ((b.lf : Nat) : Int)) = false := by simp; omega
    go_enter Try.func46, Try.ntmps46
    go_wp2
    rw [← hW0]
    go_ret
    exact ⟨retB_f (by first | rfl | (simp; omega)) HG.out, hb0⟩
  have htd : decide ((281474976710655 : Int) < ((b.tm : Nat) : Int)) = false := by simp; omega
  have hqd : decide ((281474976710655 : Int) < ((b.sq : Nat) : Int)) = false := by simp; omega
  have hfd : decide ((281474976710655 : Int) < ((b.lf : Nat) : Int)) = false := by simp; omega
  obtain ⟨i0, i1, i2, i3, i4, i5, i6, i7, i8, i9, i10, i11, -⟩ := cells12 hI
  have HE : Hid (∀ k (hk : k < [b.e0, b.e1, b.e2, b.e3, b.e4, b.e5].length), W0.cell? ⟨w.heap.size, 1 + k, none⟩ = some (.int .u64 ([b.e0, b.e1, b.e2, b.e3, b.e4, b.e5][k] : Nat))) := fun k hk => ends_at i1 i2 i3 i4 i5 i6 k hk
  clear i0 i1 i2 i3 i4 i5 i6 i7 i8 i9 i11
  go_enter Try.func46, Try.ntmps46
  go_wp2
  rw [← hW0]
  clear hW0
  go_loop [3] (fun i => ∃ k : Nat, k ≤ 6 ∧ i = .int .i64 k ∧ Hid (∀ j (hj : j < [b.e0, b.e1, b.e2, b.e3, b.e4, b.e5].length), j < k → [b.e0, b.e1, b.e2, b.e3, b.e4, b.e5][j] ≤ 281474976710655)) (fun i => 6 - (intOf i).toNat)
  case atStart => exact ⟨0, Nat.zero_le _, rfl, fun j _ hj => absurd hj (Nat.not_lt_zero j)⟩
  case round =>
    obtain ⟨k, hk, rfl, HA⟩ := hrel
    by_cases hlt : k < 6
    · obtain ⟨ek, hek⟩ : ∃ ek, ek = [b.e0, b.e1, b.e2, b.e3, b.e4, b.e5][k]'(by simpa using hlt) := ⟨_, rfl⟩
      have hck := HE.out k (by simpa using hlt)
      rw [← hek] at hck
      by_cases he : ek ≤ 281474976710655
      · have hed : decide ((281474976710655 : Int) < ((ek : Nat) : Int)) = false := by simp; omega
        have HEK : Hid (ek = [b.e0, b.e1, b.e2, b.e3, b.e4, b.e5][k]'(by simpa using hlt)) := hek
        clear hek
        go_wp2
        go_round
        case rel =>
          refine ⟨k + 1, by omega, by go_num, fun j hj hjk => ?_⟩
          by_cases e : j = k
          · subst e; have := HEK.out; omega
          · exact HA.out j hj (by omega)
        case measure => simp [intOf]; omega
      · have hed : decide ((281474976710655 : Int) < ((ek : Nat) : Int)) = true := by simp; omega
        have HG : Hid (¬ GoodB b) := fun hg => by
          have h1 := List.all_eq_true.1 hg.es ek (by rw [hek]; exact List.getElem_mem _)
          simp at h1
          exact he h1
        clear hek
        go_wp2
        go_ret
        exact ⟨retB_f rfl HG.out, hb0⟩
    · obtain rfl : k = 6 := by omega
      have HES : Hid (numsS [b.e0, b.e1, b.e2, b.e3, b.e4, b.e5] = true) := by
        unfold Hid numsS
        rw [List.all_eq_true]
        intro x hx
        obtain ⟨j, hj, rfl⟩ := List.getElem_of_mem hx
        have := HA.out j hj (by simpa using hj)
        simpa using this
      have HTS : Hid (numsS [b.tm, b.sq, b.lf] = true) := nums3.2 ⟨ht, hq, hf⟩
      clear HA HE htd hqd hfd
      go_wp2
      go_loopw [4] (fun i wr => ∃ k : Nat, k ≤ b.bl.length ∧ i = .int .i64 k ∧ Hid (∀ j (hj : j < b.bl.length), j < k → blkS (b.bl.take j) b.bl[j] = true) ∧ Below W0.heap.size W0 wr) (fun i _ => b.bl.length - (intOf i).toNat)
      case atStart => exact ⟨0, Nat.zero_le _, rfl, fun j _ hj => absurd hj (Nat.not_lt_zero j), Below.refl _ _⟩
      case round =>
        obtain ⟨k, hk, rfl, HA, hbel⟩ := hrel
        have hbw := below_next hb0 hbel
        have q10 := cell_on hbel i10
        clear i10
        by_cases hlt : k < b.bl.length
        · have HTw : Hid (RdBlks wr ba (b.bl.take k)) := (h.rb.below hbw).take k
          obtain ⟨b1, o1, rfl, hx⟩ := h.rb.at k hlt
          obtain ⟨a, c, d0, d1, d2, d3, hr, hdc, hdn⟩ := hx.below hbw
          have hdl := (h.ok.bl _ (List.getElem_mem hlt)).2.2.2
          have HKL : Hid (k = (b.bl.take k).length) := by unfold Hid; simp; omega
          have hkc : (k : Int) ≤ (bc : Int) := by omega
          have hkc1 : ¬ bc = k := by omega
          have hkc2 : k ≤ bc := by omega
          obtain ⟨W3, hW3⟩ : ∃ W3 : World, W3 = wr.alloc (.cells #[.int .u64 b.bl[k].t, .int .u64 b.bl[k].n, .int .u64 b.bl[k].f, .slice a b.bl[k].d.length c] 89) := ⟨_, rfl⟩
          have hX3 : W3.heap[wr.heap.size]? = some (.cells #[.int .u64 b.bl[k].t, .int .u64 b.bl[k].n, .int .u64 b.bl[k].f, .slice a b.bl[k].d.length c] 89 (0, 0)) := by rw [hW3]; exact heap_alloc_new _ _
          have hb3 : Below wr.heap.size wr W3 := by rw [hW3]; exact al (Below.refl _ _) _
          obtain ⟨x0, x1, x2, x3⟩ := box4b hX3
          have q10u := fun (u : World) (hu : Below W3.heap.size W3 u) => cell_on hu (cell_on hb3 q10)
          have HX : Hid (Rd W3 a b.bl[k].d) := hr.below hb3
          have HTk : Hid (RdBlks W3 (some ⟨b1, o1, none⟩) (b.bl.take k)) := HTw.out.below hb3
          have HNd : Hid (a = none → c = 0) := hdn
          have hself := Below.refl W3.heap.size W3
          clear hdn
          go_wp2_with fail
          rw [← hW3]
          clear hW3
          by_cases h0 : headS (b.bl.take k) b.bl[k] = 0
          · have hH := h0
            by_cases h64 : b.bl[k].d.length ≤ 64
            · have h64d : decide ((64 : Int) < ((b.bl[k].d.length : Nat) : Int)) = false := by simp; omega
              rcases hD : holdsS b.bl[k].t b.bl[k].d with _ | _
              · have HG : Hid (¬ GoodB b) := fun hg => by have := (blk_head.1 (hg.bl.2 k hlt)).2.2; rw [hD] at this; cases this
                refine wp_region_noPanic ?_
                refine wp_region_held_drew (S := (fun u => Below W3.heap.size W3 u)) (by kernel_rfl) (by with_reducible first | assumption | exact (Below.refl _ _).drew) (fun hHeld => ?_)
                refine take_at (i := 0) 59 (v := ?_) rfl rfl (by kernel_rfl) (by kernel_rfl) (by kernel_rfl) (fun _ _ _ h => h) (by rfl) ?_ hHeld ?_
                rotate_left
                · (intro w hSw; (try dsimp only at hSw); go_simp; try with_reducible rfl)
                simp only [Act.put, List.setIfInBounds_toArray, List.set_cons_zero, List.set_cons_succ]
                refine take_at (i := 1) 60 (v := ?_) rfl rfl (by kernel_rfl) (by kernel_rfl) (by kernel_rfl) (fun _ _ _ h => h) (by rfl) ?_ hHeld ?_
                rotate_left
                · (intro w hSw; (try dsimp only at hSw); go_simp; try with_reducible rfl)
                simp only [Act.put, List.setIfInBounds_toArray, List.set_cons_zero, List.set_cons_succ]
                refine take_at (i := 2) 61 (v := ?_) rfl rfl (by kernel_rfl) (by kernel_rfl) (by kernel_rfl) (fun _ _ _ h => h) (by rfl) ?_ hHeld ?_
                rotate_left
                · (intro w hSw; (try dsimp only at hSw); go_simp; try with_reducible rfl)
                simp only [Act.put, List.setIfInBounds_toArray, List.set_cons_zero, List.set_cons_succ]
                refine take_at (i := 3) 62 (v := ?_) rfl rfl (by kernel_rfl) (by kernel_rfl) (by kernel_rfl) (fun _ _ _ h => h) (by rfl) ?_ hHeld ?_
                rotate_left
                · (intro w hSw; (try dsimp only at hSw); go_simp; try with_reducible rfl)
                simp only [Act.put, List.setIfInBounds_toArray, List.set_cons_zero, List.set_cons_succ]
                refine take_at (i := 4) 63 (v := ?_) rfl rfl (by kernel_rfl) (by kernel_rfl) (by kernel_rfl) (fun _ _ _ h => h) (by rfl) ?_ hHeld ?_
                rotate_left
                · (intro w hSw; (try dsimp only at hSw); go_simp; try with_reducible rfl)
                simp only [Act.put, List.setIfInBounds_toArray, List.set_cons_zero, List.set_cons_succ]
                refine run_at (i := 5) rfl (by kernel_rfl) (by rfl) (fun K hK => ?_)
                simp only [List.getElem_toArray, List.getElem_cons_zero, List.getElem_cons_succ]
                go_simp
                first | (go_at_call 68; refine (headed_d b.bl[k] a c _ k bc (b.bl.take k) _ HKL.out (HTk.out.below (by first | exact (Below.refl _ _).drew | assumption)) (by have := HKL.out; omega) (by have := HKL.out; omega)).mono ?_; rintro e w5 ⟨rfl, hb5⟩; rw [hH]; have hS5 := below_next (B := W3) (by first | exact (Below.refl _ _).drew | assumption) hb5) | (go_at_call 69; refine (holds_d b.bl[k].t a c b.bl[k].d _ (HX.out.below (by first | exact (Below.refl _ _).drew | assumption)) HNd.out (by omega)).mono ?_; rintro e w8 ⟨rfl, hb8⟩; rw [hD]; have hS8 := below_next (B := W3) (by first | exact (Below.refl _ _).drew | assumption) hb8)
                go_wp2_with fail
                refine hK.out _ _ (by with_reducible first | assumption | exact (Below.refl _ _).drew) ?_
                clear hK K
                intro hHeld2
                clear hHeld
                have hHeld := hHeld2
                clear hHeld2
                try simp only [Act.put, List.setIfInBounds_toArray, List.set_cons_zero, List.set_cons_succ]
                refine take_at (i := 6) 65 (v := ?_) rfl rfl (by kernel_rfl) (by kernel_rfl) (by kernel_rfl) (fun _ _ _ h => h) (by rfl) ?_ hHeld ?_
                rotate_left
                · (intro w hSw; (try dsimp only at hSw); go_simp; try with_reducible rfl)
                simp only [Act.put, List.setIfInBounds_toArray, List.set_cons_zero, List.set_cons_succ]
                refine take_at (i := 7) 66 (v := ?_) rfl rfl (by kernel_rfl) (by kernel_rfl) (by kernel_rfl) (fun _ _ _ h => h) (by rfl) ?_ hHeld ?_
                rotate_left
                · (intro w hSw; (try dsimp only at hSw); go_simp; try with_reducible rfl)
                simp only [Act.put, List.setIfInBounds_toArray, List.set_cons_zero, List.set_cons_succ]
                refine take_at (i := 8) 67 (v := ?_) rfl rfl (by kernel_rfl) (by kernel_rfl) (by kernel_rfl) (fun _ _ _ h => h) (by rfl) ?_ hHeld ?_
                rotate_left
                · (intro w hSw; (try dsimp only at hSw); go_simp; try with_reducible rfl)
                simp only [Act.put, List.setIfInBounds_toArray, List.set_cons_zero, List.set_cons_succ]
                refine take_at (i := 9) 68 (v := ?_) rfl rfl (by kernel_rfl) (by kernel_rfl) (by kernel_rfl) (fun _ _ _ h => h) (by rfl) ?_ hHeld ?_
                rotate_left
                · (intro w hSw; (try dsimp only at hSw); go_simp; try with_reducible rfl)
                simp only [Act.put, List.setIfInBounds_toArray, List.set_cons_zero, List.set_cons_succ]
                refine take_at (i := 10) 69 (v := ?_) rfl rfl (by kernel_rfl) (by kernel_rfl) (by kernel_rfl) (fun _ _ _ h => h) (by rfl) ?_ hHeld ?_
                rotate_left
                · (intro w hSw; (try dsimp only at hSw); go_simp; try with_reducible rfl)
                simp only [Act.put, List.setIfInBounds_toArray, List.set_cons_zero, List.set_cons_succ]
                refine take_at (i := 11) 70 (v := ?_) rfl rfl (by kernel_rfl) (by kernel_rfl) (by kernel_rfl) (fun _ _ _ h => h) (by rfl) ?_ hHeld ?_
                rotate_left
                · (intro w hSw; (try dsimp only at hSw); go_simp; try with_reducible rfl)
                simp only [Act.put, List.setIfInBounds_toArray, List.set_cons_zero, List.set_cons_succ]
                refine take_at (i := 12) 71 (v := ?_) rfl rfl (by kernel_rfl) (by kernel_rfl) (by kernel_rfl) (fun _ _ _ h => h) (by rfl) ?_ hHeld ?_
                rotate_left
                · (intro w hSw; (try dsimp only at hSw); go_simp; try with_reducible rfl)
                simp only [Act.put, List.setIfInBounds_toArray, List.set_cons_zero, List.set_cons_succ]
                refine take_at (i := 13) 72 (v := ?_) rfl rfl (by kernel_rfl) (by kernel_rfl) (by kernel_rfl) (fun _ _ _ h => h) (by rfl) ?_ hHeld ?_
                rotate_left
                · (intro w hSw; (try dsimp only at hSw); go_simp; try with_reducible rfl)
                simp only [Act.put, List.setIfInBounds_toArray, List.set_cons_zero, List.set_cons_succ]
                refine take_at (i := 14) 73 (v := ?_) rfl rfl (by kernel_rfl) (by kernel_rfl) (by kernel_rfl) (fun _ _ _ h => h) (by rfl) ?_ hHeld ?_
                rotate_left
                · (intro w hSw; (try dsimp only at hSw); go_simp; try with_reducible rfl)
                simp only [Act.put, List.setIfInBounds_toArray, List.set_cons_zero, List.set_cons_succ]
                refine take_at (i := 15) 74 (v := ?_) rfl rfl (by kernel_rfl) (by kernel_rfl) (by kernel_rfl) (fun _ _ _ h => h) (by rfl) ?_ hHeld ?_
                rotate_left
                · (intro w hSw; (try dsimp only at hSw); go_simp; try with_reducible rfl)
                simp only [Act.put, List.setIfInBounds_toArray, List.set_cons_zero, List.set_cons_succ]
                refine take_at (i := 16) 75 (v := ?_) rfl rfl (by kernel_rfl) (by kernel_rfl) (by kernel_rfl) (fun _ _ _ h => h) (by rfl) ?_ hHeld ?_
                rotate_left
                · (intro w hSw; (try dsimp only at hSw); go_simp; try with_reducible rfl)
                simp only [Act.put, List.setIfInBounds_toArray, List.set_cons_zero, List.set_cons_succ]
                refine take_at (i := 17) 76 (v := ?_) rfl rfl (by kernel_rfl) (by kernel_rfl) (by kernel_rfl) (fun _ _ _ h => h) (by rfl) ?_ hHeld ?_
                rotate_left
                · (intro w hSw; (try dsimp only at hSw); go_simp; try with_reducible rfl)
                simp only [Act.put, List.setIfInBounds_toArray, List.set_cons_zero, List.set_cons_succ]
                refine run_at (i := 18) rfl (by kernel_rfl) (by rfl) (fun K hK => ?_)
                simp only [List.getElem_toArray, List.getElem_cons_zero, List.getElem_cons_succ]
                go_simp
                first | (go_at_call 68; refine (headed_d b.bl[k] a c _ k bc (b.bl.take k) _ HKL.out (HTk.out.below (by first | exact (Below.refl _ _).drew | assumption)) (by have := HKL.out; omega) (by have := HKL.out; omega)).mono ?_; rintro e w5 ⟨rfl, hb5⟩; rw [hH]; have hS5 := below_next (B := W3) (by first | exact (Below.refl _ _).drew | assumption) hb5) | (go_at_call 69; refine (holds_d b.bl[k].t a c b.bl[k].d _ (HX.out.below (by first | exact (Below.refl _ _).drew | assumption)) HNd.out (by omega)).mono ?_; rintro e w8 ⟨rfl, hb8⟩; rw [hD]; have hS8 := below_next (B := W3) (by first | exact (Below.refl _ _).drew | assumption) hb8)
                go_wp2_with fail
                refine hK.out _ _ (by with_reducible first | assumption | exact (Below.refl _ _).drew) ?_
                clear hK K
                intro hHeld2
                clear hHeld
                have hHeld := hHeld2
                clear hHeld2
                try simp only [Act.put, List.setIfInBounds_toArray, List.set_cons_zero, List.set_cons_succ]
                refine take_at (i := 19) 78 (v := ?_) rfl rfl (by kernel_rfl) (by kernel_rfl) (by kernel_rfl) (fun _ _ _ h => h) (by rfl) ?_ hHeld ?_
                rotate_left
                · (intro w hSw; (try dsimp only at hSw); go_simp; try with_reducible rfl)
                simp only [Act.put, List.setIfInBounds_toArray, List.set_cons_zero, List.set_cons_succ]
                refine take_at (i := 20) 79 (v := ?_) rfl rfl (by kernel_rfl) (by kernel_rfl) (by kernel_rfl) (fun _ _ _ h => h) (by rfl) ?_ hHeld ?_
                rotate_left
                · (intro w hSw; (try dsimp only at hSw); go_simp; try with_reducible rfl)
                simp only [Act.put, List.setIfInBounds_toArray, List.set_cons_zero, List.set_cons_succ]
                refine wpAnyH_done (by kernel_rfl) ?_ _
                refine NoPanic.normal ?_
                all_goals go_wp2
                all_goals go_ret
                all_goals exact ⟨retB_f rfl HG.out, below_next hbw (below_next hb3 (by assumption))⟩
              · have HB : Hid (blkS (b.bl.take k) b.bl[k] = true) := blk_head.2 ⟨h0, h64, hD⟩
                refine wp_region_noPanic ?_
                refine wp_region_held_drew (S := (fun u => Below W3.heap.size W3 u)) (by kernel_rfl) (by with_reducible first | assumption | exact (Below.refl _ _).drew) (fun hHeld => ?_)
                refine take_at (i := 0) 59 (v := ?_) rfl rfl (by kernel_rfl) (by kernel_rfl) (by kernel_rfl) (fun _ _ _ h => h) (by rfl) ?_ hHeld ?_
                rotate_left
                · (intro w hSw; (try dsimp only at hSw); go_simp; try with_reducible rfl)
                simp only [Act.put, List.setIfInBounds_toArray, List.set_cons_zero, List.set_cons_succ]
                refine take_at (i := 1) 60 (v := ?_) rfl rfl (by kernel_rfl) (by kernel_rfl) (by kernel_rfl) (fun _ _ _ h => h) (by rfl) ?_ hHeld ?_
                rotate_left
                · (intro w hSw; (try dsimp only at hSw); go_simp; try with_reducible rfl)
                simp only [Act.put, List.setIfInBounds_toArray, List.set_cons_zero, List.set_cons_succ]
                refine take_at (i := 2) 61 (v := ?_) rfl rfl (by kernel_rfl) (by kernel_rfl) (by kernel_rfl) (fun _ _ _ h => h) (by rfl) ?_ hHeld ?_
                rotate_left
                · (intro w hSw; (try dsimp only at hSw); go_simp; try with_reducible rfl)
                simp only [Act.put, List.setIfInBounds_toArray, List.set_cons_zero, List.set_cons_succ]
                refine take_at (i := 3) 62 (v := ?_) rfl rfl (by kernel_rfl) (by kernel_rfl) (by kernel_rfl) (fun _ _ _ h => h) (by rfl) ?_ hHeld ?_
                rotate_left
                · (intro w hSw; (try dsimp only at hSw); go_simp; try with_reducible rfl)
                simp only [Act.put, List.setIfInBounds_toArray, List.set_cons_zero, List.set_cons_succ]
                refine take_at (i := 4) 63 (v := ?_) rfl rfl (by kernel_rfl) (by kernel_rfl) (by kernel_rfl) (fun _ _ _ h => h) (by rfl) ?_ hHeld ?_
                rotate_left
                · (intro w hSw; (try dsimp only at hSw); go_simp; try with_reducible rfl)
                simp only [Act.put, List.setIfInBounds_toArray, List.set_cons_zero, List.set_cons_succ]
                refine run_at (i := 5) rfl (by kernel_rfl) (by rfl) (fun K hK => ?_)
                simp only [List.getElem_toArray, List.getElem_cons_zero, List.getElem_cons_succ]
                go_simp
                first | (go_at_call 68; refine (headed_d b.bl[k] a c _ k bc (b.bl.take k) _ HKL.out (HTk.out.below (by first | exact (Below.refl _ _).drew | assumption)) (by have := HKL.out; omega) (by have := HKL.out; omega)).mono ?_; rintro e w5 ⟨rfl, hb5⟩; rw [hH]; have hS5 := below_next (B := W3) (by first | exact (Below.refl _ _).drew | assumption) hb5) | (go_at_call 69; refine (holds_d b.bl[k].t a c b.bl[k].d _ (HX.out.below (by first | exact (Below.refl _ _).drew | assumption)) HNd.out (by omega)).mono ?_; rintro e w8 ⟨rfl, hb8⟩; rw [hD]; have hS8 := below_next (B := W3) (by first | exact (Below.refl _ _).drew | assumption) hb8)
                go_wp2_with fail
                refine hK.out _ _ (by with_reducible first | assumption | exact (Below.refl _ _).drew) ?_
                clear hK K
                intro hHeld2
                clear hHeld
                have hHeld := hHeld2
                clear hHeld2
                try simp only [Act.put, List.setIfInBounds_toArray, List.set_cons_zero, List.set_cons_succ]
                refine take_at (i := 6) 65 (v := ?_) rfl rfl (by kernel_rfl) (by kernel_rfl) (by kernel_rfl) (fun _ _ _ h => h) (by rfl) ?_ hHeld ?_
                rotate_left
                · (intro w hSw; (try dsimp only at hSw); go_simp; try with_reducible rfl)
                simp only [Act.put, List.setIfInBounds_toArray, List.set_cons_zero, List.set_cons_succ]
                refine take_at (i := 7) 66 (v := ?_) rfl rfl (by kernel_rfl) (by kernel_rfl) (by kernel_rfl) (fun _ _ _ h => h) (by rfl) ?_ hHeld ?_
                rotate_left
                · (intro w hSw; (try dsimp only at hSw); go_simp; try with_reducible rfl)
                simp only [Act.put, List.setIfInBounds_toArray, List.set_cons_zero, List.set_cons_succ]
                refine take_at (i := 8) 67 (v := ?_) rfl rfl (by kernel_rfl) (by kernel_rfl) (by kernel_rfl) (fun _ _ _ h => h) (by rfl) ?_ hHeld ?_
                rotate_left
                · (intro w hSw; (try dsimp only at hSw); go_simp; try with_reducible rfl)
                simp only [Act.put, List.setIfInBounds_toArray, List.set_cons_zero, List.set_cons_succ]
                refine take_at (i := 9) 68 (v := ?_) rfl rfl (by kernel_rfl) (by kernel_rfl) (by kernel_rfl) (fun _ _ _ h => h) (by rfl) ?_ hHeld ?_
                rotate_left
                · (intro w hSw; (try dsimp only at hSw); go_simp; try with_reducible rfl)
                simp only [Act.put, List.setIfInBounds_toArray, List.set_cons_zero, List.set_cons_succ]
                refine take_at (i := 10) 69 (v := ?_) rfl rfl (by kernel_rfl) (by kernel_rfl) (by kernel_rfl) (fun _ _ _ h => h) (by rfl) ?_ hHeld ?_
                rotate_left
                · (intro w hSw; (try dsimp only at hSw); go_simp; try with_reducible rfl)
                simp only [Act.put, List.setIfInBounds_toArray, List.set_cons_zero, List.set_cons_succ]
                refine take_at (i := 11) 70 (v := ?_) rfl rfl (by kernel_rfl) (by kernel_rfl) (by kernel_rfl) (fun _ _ _ h => h) (by rfl) ?_ hHeld ?_
                rotate_left
                · (intro w hSw; (try dsimp only at hSw); go_simp; try with_reducible rfl)
                simp only [Act.put, List.setIfInBounds_toArray, List.set_cons_zero, List.set_cons_succ]
                refine take_at (i := 12) 71 (v := ?_) rfl rfl (by kernel_rfl) (by kernel_rfl) (by kernel_rfl) (fun _ _ _ h => h) (by rfl) ?_ hHeld ?_
                rotate_left
                · (intro w hSw; (try dsimp only at hSw); go_simp; try with_reducible rfl)
                simp only [Act.put, List.setIfInBounds_toArray, List.set_cons_zero, List.set_cons_succ]
                refine take_at (i := 13) 72 (v := ?_) rfl rfl (by kernel_rfl) (by kernel_rfl) (by kernel_rfl) (fun _ _ _ h => h) (by rfl) ?_ hHeld ?_
                rotate_left
                · (intro w hSw; (try dsimp only at hSw); go_simp; try with_reducible rfl)
                simp only [Act.put, List.setIfInBounds_toArray, List.set_cons_zero, List.set_cons_succ]
                refine take_at (i := 14) 73 (v := ?_) rfl rfl (by kernel_rfl) (by kernel_rfl) (by kernel_rfl) (fun _ _ _ h => h) (by rfl) ?_ hHeld ?_
                rotate_left
                · (intro w hSw; (try dsimp only at hSw); go_simp; try with_reducible rfl)
                simp only [Act.put, List.setIfInBounds_toArray, List.set_cons_zero, List.set_cons_succ]
                refine take_at (i := 15) 74 (v := ?_) rfl rfl (by kernel_rfl) (by kernel_rfl) (by kernel_rfl) (fun _ _ _ h => h) (by rfl) ?_ hHeld ?_
                rotate_left
                · (intro w hSw; (try dsimp only at hSw); go_simp; try with_reducible rfl)
                simp only [Act.put, List.setIfInBounds_toArray, List.set_cons_zero, List.set_cons_succ]
                refine take_at (i := 16) 75 (v := ?_) rfl rfl (by kernel_rfl) (by kernel_rfl) (by kernel_rfl) (fun _ _ _ h => h) (by rfl) ?_ hHeld ?_
                rotate_left
                · (intro w hSw; (try dsimp only at hSw); go_simp; try with_reducible rfl)
                simp only [Act.put, List.setIfInBounds_toArray, List.set_cons_zero, List.set_cons_succ]
                refine take_at (i := 17) 76 (v := ?_) rfl rfl (by kernel_rfl) (by kernel_rfl) (by kernel_rfl) (fun _ _ _ h => h) (by rfl) ?_ hHeld ?_
                rotate_left
                · (intro w hSw; (try dsimp only at hSw); go_simp; try with_reducible rfl)
                simp only [Act.put, List.setIfInBounds_toArray, List.set_cons_zero, List.set_cons_succ]
                refine run_at (i := 18) rfl (by kernel_rfl) (by rfl) (fun K hK => ?_)
                simp only [List.getElem_toArray, List.getElem_cons_zero, List.getElem_cons_succ]
                go_simp
                first | (go_at_call 68; refine (headed_d b.bl[k] a c _ k bc (b.bl.take k) _ HKL.out (HTk.out.below (by first | exact (Below.refl _ _).drew | assumption)) (by have := HKL.out; omega) (by have := HKL.out; omega)).mono ?_; rintro e w5 ⟨rfl, hb5⟩; rw [hH]; have hS5 := below_next (B := W3) (by first | exact (Below.refl _ _).drew | assumption) hb5) | (go_at_call 69; refine (holds_d b.bl[k].t a c b.bl[k].d _ (HX.out.below (by first | exact (Below.refl _ _).drew | assumption)) HNd.out (by omega)).mono ?_; rintro e w8 ⟨rfl, hb8⟩; rw [hD]; have hS8 := below_next (B := W3) (by first | exact (Below.refl _ _).drew | assumption) hb8)
                go_wp2_with fail
                refine hK.out _ _ (by with_reducible first | assumption | exact (Below.refl _ _).drew) ?_
                clear hK K
                intro hHeld2
                clear hHeld
                have hHeld := hHeld2
                clear hHeld2
                try simp only [Act.put, List.setIfInBounds_toArray, List.set_cons_zero, List.set_cons_succ]
                refine take_at (i := 19) 78 (v := ?_) rfl rfl (by kernel_rfl) (by kernel_rfl) (by kernel_rfl) (fun _ _ _ h => h) (by rfl) ?_ hHeld ?_
                rotate_left
                · (intro w hSw; (try dsimp only at hSw); go_simp; try with_reducible rfl)
                simp only [Act.put, List.setIfInBounds_toArray, List.set_cons_zero, List.set_cons_succ]
                refine take_at (i := 20) 79 (v := ?_) rfl rfl (by kernel_rfl) (by kernel_rfl) (by kernel_rfl) (fun _ _ _ h => h) (by rfl) ?_ hHeld ?_
                rotate_left
                · (intro w hSw; (try dsimp only at hSw); go_simp; try with_reducible rfl)
                simp only [Act.put, List.setIfInBounds_toArray, List.set_cons_zero, List.set_cons_succ]
                refine wpAnyH_done (by kernel_rfl) ?_ _
                refine NoPanic.normal ?_
                all_goals go_wp2
                all_goals go_roundw
                all_goals first
                  | (case rel =>
                      refine ⟨k + 1, by omega, by go_num, fun j hj hjk => ?_, below_next hbel (below_next hb3 (by assumption))⟩
                      by_cases e : j = k
                      · subst e; exact HB.out
                      · exact HA.out j hj (by omega))
                  | (case measure => simp [intOf]; omega)
            · have HG : Hid (¬ GoodB b) := fun hg => h64 (blk_head.1 (hg.bl.2 k hlt)).2.1
              have h64d : decide ((64 : Int) < ((b.bl[k].d.length : Nat) : Int)) = true := by simp; omega
              refine wp_region_noPanic ?_
              refine wp_region_held_drew (S := (fun u => Below W3.heap.size W3 u)) (by kernel_rfl) (by with_reducible first | assumption | exact (Below.refl _ _).drew) (fun hHeld => ?_)
              refine take_at (i := 0) 59 (v := ?_) rfl rfl (by kernel_rfl) (by kernel_rfl) (by kernel_rfl) (fun _ _ _ h => h) (by rfl) ?_ hHeld ?_
              rotate_left
              · (intro w hSw; (try dsimp only at hSw); go_simp; try with_reducible rfl)
              simp only [Act.put, List.setIfInBounds_toArray, List.set_cons_zero, List.set_cons_succ]
              refine take_at (i := 1) 60 (v := ?_) rfl rfl (by kernel_rfl) (by kernel_rfl) (by kernel_rfl) (fun _ _ _ h => h) (by rfl) ?_ hHeld ?_
              rotate_left
              · (intro w hSw; (try dsimp only at hSw); go_simp; try with_reducible rfl)
              simp only [Act.put, List.setIfInBounds_toArray, List.set_cons_zero, List.set_cons_succ]
              refine take_at (i := 2) 61 (v := ?_) rfl rfl (by kernel_rfl) (by kernel_rfl) (by kernel_rfl) (fun _ _ _ h => h) (by rfl) ?_ hHeld ?_
              rotate_left
              · (intro w hSw; (try dsimp only at hSw); go_simp; try with_reducible rfl)
              simp only [Act.put, List.setIfInBounds_toArray, List.set_cons_zero, List.set_cons_succ]
              refine take_at (i := 3) 62 (v := ?_) rfl rfl (by kernel_rfl) (by kernel_rfl) (by kernel_rfl) (fun _ _ _ h => h) (by rfl) ?_ hHeld ?_
              rotate_left
              · (intro w hSw; (try dsimp only at hSw); go_simp; try with_reducible rfl)
              simp only [Act.put, List.setIfInBounds_toArray, List.set_cons_zero, List.set_cons_succ]
              refine take_at (i := 4) 63 (v := ?_) rfl rfl (by kernel_rfl) (by kernel_rfl) (by kernel_rfl) (fun _ _ _ h => h) (by rfl) ?_ hHeld ?_
              rotate_left
              · (intro w hSw; (try dsimp only at hSw); go_simp; try with_reducible rfl)
              simp only [Act.put, List.setIfInBounds_toArray, List.set_cons_zero, List.set_cons_succ]
              refine run_at (i := 5) rfl (by kernel_rfl) (by rfl) (fun K hK => ?_)
              simp only [List.getElem_toArray, List.getElem_cons_zero, List.getElem_cons_succ]
              go_simp
              first | (go_at_call 68; refine (headed_d b.bl[k] a c _ k bc (b.bl.take k) _ HKL.out (HTk.out.below (by first | exact (Below.refl _ _).drew | assumption)) (by have := HKL.out; omega) (by have := HKL.out; omega)).mono ?_; rintro e w5 ⟨rfl, hb5⟩; rw [hH]; have hS5 := below_next (B := W3) (by first | exact (Below.refl _ _).drew | assumption) hb5)
              go_wp2_with fail
              refine hK.out _ _ (by with_reducible first | assumption | exact (Below.refl _ _).drew) ?_
              clear hK K
              intro hHeld2
              clear hHeld
              have hHeld := hHeld2
              clear hHeld2
              try simp only [Act.put, List.setIfInBounds_toArray, List.set_cons_zero, List.set_cons_succ]
              refine take_at (i := 6) 65 (v := ?_) rfl rfl (by kernel_rfl) (by kernel_rfl) (by kernel_rfl) (fun _ _ _ h => h) (by rfl) ?_ hHeld ?_
              rotate_left
              · (intro w hSw; (try dsimp only at hSw); go_simp; try with_reducible rfl)
              simp only [Act.put, List.setIfInBounds_toArray, List.set_cons_zero, List.set_cons_succ]
              refine take_at (i := 7) 66 (v := ?_) rfl rfl (by kernel_rfl) (by kernel_rfl) (by kernel_rfl) (fun _ _ _ h => h) (by rfl) ?_ hHeld ?_
              rotate_left
              · (intro w hSw; (try dsimp only at hSw); go_simp; try with_reducible rfl)
              simp only [Act.put, List.setIfInBounds_toArray, List.set_cons_zero, List.set_cons_succ]
              refine take_at (i := 8) 67 (v := ?_) rfl rfl (by kernel_rfl) (by kernel_rfl) (by kernel_rfl) (fun _ _ _ h => h) (by rfl) ?_ hHeld ?_
              rotate_left
              · (intro w hSw; (try dsimp only at hSw); go_simp; try with_reducible rfl)
              simp only [Act.put, List.setIfInBounds_toArray, List.set_cons_zero, List.set_cons_succ]
              refine take_at (i := 9) 68 (v := ?_) rfl rfl (by kernel_rfl) (by kernel_rfl) (by kernel_rfl) (fun _ _ _ h => h) (by rfl) ?_ hHeld ?_
              rotate_left
              · (intro w hSw; (try dsimp only at hSw); go_simp; try with_reducible rfl)
              simp only [Act.put, List.setIfInBounds_toArray, List.set_cons_zero, List.set_cons_succ]
              refine take_at (i := 10) 69 (v := ?_) rfl rfl (by kernel_rfl) (by kernel_rfl) (by kernel_rfl) (fun _ _ _ h => h) (by rfl) ?_ hHeld ?_
              rotate_left
              · (intro w hSw; (try dsimp only at hSw); go_simp; try with_reducible rfl)
              simp only [Act.put, List.setIfInBounds_toArray, List.set_cons_zero, List.set_cons_succ]
              refine take_at (i := 11) 70 (v := ?_) rfl rfl (by kernel_rfl) (by kernel_rfl) (by kernel_rfl) (fun _ _ _ h => h) (by rfl) ?_ hHeld ?_
              rotate_left
              · (intro w hSw; (try dsimp only at hSw); go_simp; try with_reducible rfl)
              simp only [Act.put, List.setIfInBounds_toArray, List.set_cons_zero, List.set_cons_succ]
              refine take_at (i := 12) 71 (v := ?_) rfl rfl (by kernel_rfl) (by kernel_rfl) (by kernel_rfl) (fun _ _ _ h => h) (by rfl) ?_ hHeld ?_
              rotate_left
              · (intro w hSw; (try dsimp only at hSw); go_simp; try with_reducible rfl)
              simp only [Act.put, List.setIfInBounds_toArray, List.set_cons_zero, List.set_cons_succ]
              refine take_at (i := 13) 72 (v := ?_) rfl rfl (by kernel_rfl) (by kernel_rfl) (by kernel_rfl) (fun _ _ _ h => h) (by rfl) ?_ hHeld ?_
              rotate_left
              · (intro w hSw; (try dsimp only at hSw); go_simp; try with_reducible rfl)
              simp only [Act.put, List.setIfInBounds_toArray, List.set_cons_zero, List.set_cons_succ]
              refine skip_at (i := 14) 73 rfl rfl (by kernel_rfl) (by kernel_rfl) (by kernel_rfl) (fun _ _ _ h => h) (by rfl) hHeld ?_
              simp only [Act.put, List.setIfInBounds_toArray, List.set_cons_zero, List.set_cons_succ]
              refine skip_at (i := 15) 74 rfl rfl (by kernel_rfl) (by kernel_rfl) (by kernel_rfl) (fun _ _ _ h => h) (by rfl) hHeld ?_
              simp only [Act.put, List.setIfInBounds_toArray, List.set_cons_zero, List.set_cons_succ]
              refine skip_at (i := 16) 75 rfl rfl (by kernel_rfl) (by kernel_rfl) (by kernel_rfl) (fun _ _ _ h => h) (by rfl) hHeld ?_
              simp only [Act.put, List.setIfInBounds_toArray, List.set_cons_zero, List.set_cons_succ]
              refine skip_at (i := 17) 76 rfl rfl (by kernel_rfl) (by kernel_rfl) (by kernel_rfl) (fun _ _ _ h => h) (by rfl) hHeld ?_
              simp only [Act.put, List.setIfInBounds_toArray, List.set_cons_zero, List.set_cons_succ]
              refine skip_at (i := 18) 77 rfl rfl (by kernel_rfl) (by kernel_rfl) (by kernel_rfl) (fun _ _ _ h => h) (by rfl) hHeld ?_
              simp only [Act.put, List.setIfInBounds_toArray, List.set_cons_zero, List.set_cons_succ]
              refine skip_at (i := 19) 78 rfl rfl (by kernel_rfl) (by kernel_rfl) (by kernel_rfl) (fun _ _ _ h => h) (by rfl) hHeld ?_
              simp only [Act.put, List.setIfInBounds_toArray, List.set_cons_zero, List.set_cons_succ]
              refine take_at (i := 20) 79 (v := ?_) rfl rfl (by kernel_rfl) (by kernel_rfl) (by kernel_rfl) (fun _ _ _ h => h) (by rfl) ?_ hHeld ?_
              rotate_left
              · (intro w hSw; (try dsimp only at hSw); go_simp; try with_reducible rfl)
              simp only [Act.put, List.setIfInBounds_toArray, List.set_cons_zero, List.set_cons_succ]
              refine wpAnyH_done (by kernel_rfl) ?_ _
              refine NoPanic.normal ?_
              all_goals go_wp2
              all_goals go_ret
              all_goals exact ⟨retB_f rfl HG.out, below_next hbw (below_next hb3 (by assumption))⟩
          · have HG : Hid (¬ GoodB b) := fun hg => h0 (blk_head.1 (hg.bl.2 k hlt)).1
            obtain ⟨hv, hH⟩ : ∃ hv, headS (b.bl.take k) b.bl[k] = hv := ⟨_, rfl⟩
            have hvb : (hv == 0) = false := by rw [← hH]; simp [h0]
            have hvn : ¬ hv = 0 := by rw [← hH]; exact h0
            have hvb2 : (hv != 0) = true := by simp [hvn]
            refine wp_region_noPanic ?_
            refine wp_region_held_drew (S := (fun u => Below W3.heap.size W3 u)) (by kernel_rfl) (by with_reducible first | assumption | exact (Below.refl _ _).drew) (fun hHeld => ?_)
            refine take_at (i := 0) 59 (v := ?_) rfl rfl (by kernel_rfl) (by kernel_rfl) (by kernel_rfl) (fun _ _ _ h => h) (by rfl) ?_ hHeld ?_
            rotate_left
            · (intro w hSw; (try dsimp only at hSw); go_simp; try with_reducible rfl)
            simp only [Act.put, List.setIfInBounds_toArray, List.set_cons_zero, List.set_cons_succ]
            refine take_at (i := 1) 60 (v := ?_) rfl rfl (by kernel_rfl) (by kernel_rfl) (by kernel_rfl) (fun _ _ _ h => h) (by rfl) ?_ hHeld ?_
            rotate_left
            · (intro w hSw; (try dsimp only at hSw); go_simp; try with_reducible rfl)
            simp only [Act.put, List.setIfInBounds_toArray, List.set_cons_zero, List.set_cons_succ]
            refine take_at (i := 2) 61 (v := ?_) rfl rfl (by kernel_rfl) (by kernel_rfl) (by kernel_rfl) (fun _ _ _ h => h) (by rfl) ?_ hHeld ?_
            rotate_left
            · (intro w hSw; (try dsimp only at hSw); go_simp; try with_reducible rfl)
            simp only [Act.put, List.setIfInBounds_toArray, List.set_cons_zero, List.set_cons_succ]
            refine take_at (i := 3) 62 (v := ?_) rfl rfl (by kernel_rfl) (by kernel_rfl) (by kernel_rfl) (fun _ _ _ h => h) (by rfl) ?_ hHeld ?_
            rotate_left
            · (intro w hSw; (try dsimp only at hSw); go_simp; try with_reducible rfl)
            simp only [Act.put, List.setIfInBounds_toArray, List.set_cons_zero, List.set_cons_succ]
            refine take_at (i := 4) 63 (v := ?_) rfl rfl (by kernel_rfl) (by kernel_rfl) (by kernel_rfl) (fun _ _ _ h => h) (by rfl) ?_ hHeld ?_
            rotate_left
            · (intro w hSw; (try dsimp only at hSw); go_simp; try with_reducible rfl)
            simp only [Act.put, List.setIfInBounds_toArray, List.set_cons_zero, List.set_cons_succ]
            refine run_at (i := 5) rfl (by kernel_rfl) (by rfl) (fun K hK => ?_)
            simp only [List.getElem_toArray, List.getElem_cons_zero, List.getElem_cons_succ]
            go_simp
            first | (go_at_call 68; refine (headed_d b.bl[k] a c _ k bc (b.bl.take k) _ HKL.out (HTk.out.below (by first | exact (Below.refl _ _).drew | assumption)) (by have := HKL.out; omega) (by have := HKL.out; omega)).mono ?_; rintro e w5 ⟨rfl, hb5⟩; rw [hH]; have hS5 := below_next (B := W3) (by first | exact (Below.refl _ _).drew | assumption) hb5)
            go_wp2_with fail
            refine hK.out _ _ (by with_reducible first | assumption | exact (Below.refl _ _).drew) ?_
            clear hK K
            intro hHeld2
            clear hHeld
            have hHeld := hHeld2
            clear hHeld2
            try simp only [Act.put, List.setIfInBounds_toArray, List.set_cons_zero, List.set_cons_succ]
            refine take_at (i := 6) 65 (v := ?_) rfl rfl (by kernel_rfl) (by kernel_rfl) (by kernel_rfl) (fun _ _ _ h => h) (by rfl) ?_ hHeld ?_
            rotate_left
            · (intro w hSw; (try dsimp only at hSw); go_simp; try with_reducible rfl)
            simp only [Act.put, List.setIfInBounds_toArray, List.set_cons_zero, List.set_cons_succ]
            refine take_at (i := 7) 66 (v := ?_) rfl rfl (by kernel_rfl) (by kernel_rfl) (by kernel_rfl) (fun _ _ _ h => h) (by rfl) ?_ hHeld ?_
            rotate_left
            · (intro w hSw; (try dsimp only at hSw); go_simp; try with_reducible rfl)
            simp only [Act.put, List.setIfInBounds_toArray, List.set_cons_zero, List.set_cons_succ]
            refine skip_at (i := 8) 67 rfl rfl (by kernel_rfl) (by kernel_rfl) (by kernel_rfl) (fun _ _ _ h => h) (by rfl) hHeld ?_
            simp only [Act.put, List.setIfInBounds_toArray, List.set_cons_zero, List.set_cons_succ]
            refine skip_at (i := 9) 68 rfl rfl (by kernel_rfl) (by kernel_rfl) (by kernel_rfl) (fun _ _ _ h => h) (by rfl) hHeld ?_
            simp only [Act.put, List.setIfInBounds_toArray, List.set_cons_zero, List.set_cons_succ]
            refine skip_at (i := 10) 69 rfl rfl (by kernel_rfl) (by kernel_rfl) (by kernel_rfl) (fun _ _ _ h => h) (by rfl) hHeld ?_
            simp only [Act.put, List.setIfInBounds_toArray, List.set_cons_zero, List.set_cons_succ]
            refine skip_at (i := 11) 70 rfl rfl (by kernel_rfl) (by kernel_rfl) (by kernel_rfl) (fun _ _ _ h => h) (by rfl) hHeld ?_
            simp only [Act.put, List.setIfInBounds_toArray, List.set_cons_zero, List.set_cons_succ]
            refine take_at (i := 12) 71 (v := ?_) rfl rfl (by kernel_rfl) (by kernel_rfl) (by kernel_rfl) (fun _ _ _ h => h) (by rfl) ?_ hHeld ?_
            rotate_left
            · (intro w hSw; (try dsimp only at hSw); go_simp; try with_reducible rfl)
            simp only [Act.put, List.setIfInBounds_toArray, List.set_cons_zero, List.set_cons_succ]
            refine take_at (i := 13) 72 (v := ?_) rfl rfl (by kernel_rfl) (by kernel_rfl) (by kernel_rfl) (fun _ _ _ h => h) (by rfl) ?_ hHeld ?_
            rotate_left
            · (intro w hSw; (try dsimp only at hSw); go_simp; try with_reducible rfl)
            simp only [Act.put, List.setIfInBounds_toArray, List.set_cons_zero, List.set_cons_succ]
            refine skip_at (i := 14) 73 rfl rfl (by kernel_rfl) (by kernel_rfl) (by kernel_rfl) (fun _ _ _ h => h) (by rfl) hHeld ?_
            simp only [Act.put, List.setIfInBounds_toArray, List.set_cons_zero, List.set_cons_succ]
            refine skip_at (i := 15) 74 rfl rfl (by kernel_rfl) (by kernel_rfl) (by kernel_rfl) (fun _ _ _ h => h) (by rfl) hHeld ?_
            simp only [Act.put, List.setIfInBounds_toArray, List.set_cons_zero, List.set_cons_succ]
            refine skip_at (i := 16) 75 rfl rfl (by kernel_rfl) (by kernel_rfl) (by kernel_rfl) (fun _ _ _ h => h) (by rfl) hHeld ?_
            simp only [Act.put, List.setIfInBounds_toArray, List.set_cons_zero, List.set_cons_succ]
            refine skip_at (i := 17) 76 rfl rfl (by kernel_rfl) (by kernel_rfl) (by kernel_rfl) (fun _ _ _ h => h) (by rfl) hHeld ?_
            simp only [Act.put, List.setIfInBounds_toArray, List.set_cons_zero, List.set_cons_succ]
            refine skip_at (i := 18) 77 rfl rfl (by kernel_rfl) (by kernel_rfl) (by kernel_rfl) (fun _ _ _ h => h) (by rfl) hHeld ?_
            simp only [Act.put, List.setIfInBounds_toArray, List.set_cons_zero, List.set_cons_succ]
            refine skip_at (i := 19) 78 rfl rfl (by kernel_rfl) (by kernel_rfl) (by kernel_rfl) (fun _ _ _ h => h) (by rfl) hHeld ?_
            simp only [Act.put, List.setIfInBounds_toArray, List.set_cons_zero, List.set_cons_succ]
            refine take_at (i := 20) 79 (v := ?_) rfl rfl (by kernel_rfl) (by kernel_rfl) (by kernel_rfl) (fun _ _ _ h => h) (by rfl) ?_ hHeld ?_
            rotate_left
            · (intro w hSw; (try dsimp only at hSw); go_simp; try with_reducible rfl)
            simp only [Act.put, List.setIfInBounds_toArray, List.set_cons_zero, List.set_cons_succ]
            refine wpAnyH_done (by kernel_rfl) ?_ _
            refine NoPanic.normal ?_
            all_goals go_wp2
            all_goals go_ret
            all_goals exact ⟨retB_f rfl HG.out, below_next hbw (below_next hb3 (by assumption))⟩
        · have HG : Hid (GoodB b) := ⟨by omega, HES.out, HTS.out, ⟨hb8, fun i hi => HA.out i hi (by omega)⟩, hp⟩
          obtain rfl : k = b.bl.length := by omega
          go_wp2
          go_ret
          exact ⟨retB_t rfl HG.out, hbw⟩
end Go.Proofs.Ytdpkommmkcmifab
