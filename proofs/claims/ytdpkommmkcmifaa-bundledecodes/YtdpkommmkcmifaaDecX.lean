import Derived.Test.YtdpkommmkcmifaaRead
import Derived.Test.YtdpkommmkcmifaaHead
import Derived.Test.YtdpkommmkcmifaaRRdr3
namespace Go.Proofs.Ytdpkommmkcmifaa
set_option linter.unusedVariables false
set_option linter.unusedSimpArgs false
open Go.RowKit
/-- the document's Reader: its memory lies from block B on, below block N -/
def DX (w : World) (q B N : Nat) (ys : List UInt8) (f : Int) : Prop := ∃ D ao cap, RefAt w q D ao cap ys f ∧ B ≤ q ∧ q < N ∧ ∀ d, D = some d → B ≤ d ∧ d < N
theorem DX.grown {w w' : World} {q B N : Nat} {ys : List UInt8} {f : Int} {r : Nat} (h : DX w q B N ys f) (hg : w.grownBy w' (some r)) (hr : r < B ∨ N ≤ r) : DX w' q B N ys f := by
  obtain ⟨D, ao, cap, h1, h2, h3, h4⟩ := h
  exact ⟨D, ao, cap, h1.grown hg (by simp; omega) (fun d hd => by have := h4 d hd; simp; omega), h2, h3, h4⟩
theorem DX.grownO {w w' : World} {q B N : Nat} {ys : List UInt8} {f : Int} {row : Option Nat} (h : DX w q B N ys f) (hg : w.grownBy w' row) (hr : ∀ r, row = some r → r < B ∨ N ≤ r) : DX w' q B N ys f := by
  cases row with
  | none => exact h.grown (hg.any (some N)) (.inr (Nat.le_refl _))
  | some r => exact h.grown hg (hr r rfl)
theorem DX.below {w w' : World} {q B N : Nat} {ys : List UInt8} {f : Int} (h : DX w q B N ys f) (hb : Below w.heap.size w w') : DX w' q B N ys f := by
  obtain ⟨D, ao, cap, h1, h2⟩ := h
  exact ⟨D, ao, cap, h1.below hb, h2⟩
theorem DX.set {w : World} {q B N : Nat} {ys : List UInt8} {f : Int} (h : DX w q B N ys f) (r i : Nat) (v : Value) (hr : r < B ∨ N ≤ r) : DX (w.setCell ⟨r, i, none⟩ v) q B N ys f := h.grown (gr_set (World.grownBy.refl _ _) _ _) hr
theorem DX.lt {w : World} {q B N : Nat} {ys : List UInt8} {f : Int} (h : DX w q B N ys f) : B ≤ q ∧ q < N := by obtain ⟨_, _, _, _, h2, h3, _⟩ := h; exact ⟨h2, h3⟩
theorem DX.c1 {w : World} {q B N : Nat} {ys : List UInt8} {f : Int} (h : DX w q B N ys f) : w.cell? ⟨q, 1, none⟩ = some (.int .i64 f) := by obtain ⟨_, _, _, h1, _⟩ := h; exact h1.c1
theorem DX.c0 {w : World} {q B N : Nat} {ys : List UInt8} {f : Int} (h : DX w q B N ys f) : ∃ ao cap, w.cell? ⟨q, 0, none⟩ = some (.slice ao ys.length cap) := by obtain ⟨_, _, _, h1, _⟩ := h; exact ⟨_, _, h1.c0⟩
theorem newX (ao : Option Addr) (cap : Nat) (xs : List UInt8) (w : World) (hx : Rd w ao xs) (hnil : ao = none → cap = 0) (hl : xs.length ≤ 140737488355328) :
    Calls Try.prog 39 #[.slice ao xs.length cap] w fun e w' => ∃ q, e = .returned (.pointer (some ⟨q, 0, none⟩)) ∧ DX w' q w.heap.size w'.heap.size xs 0 ∧ Below w.heap.size w w' := by
  refine (new_d ao cap xs w hx hnil hl).mono ?_
  rintro e w' ⟨q, D, ao', cap', rfl, h1, h2, h3, h4⟩
  exact ⟨q, rfl, ⟨D, ao', cap', h1, h3, World.block_lt_of_cell? w' _ h1.c0, fun d hd => h4 d hd⟩, h2⟩
theorem number_x {q B N m n1 : Nat} {ys ys1 : List UInt8} {f f1 : Int} (w : World) (h : DX w q B N ys f) (hn : nmS m (ys, f) = (n1, ys1, f1)) :
    Calls Try.prog 42 #[.pointer (some ⟨q, 0, none⟩), .int .u64 m] w fun e w' => e = .returned (.int .u64 (n1 : Nat)) ∧ DX w' q B N ys1 f1 ∧ w.grownBy w' (some q) := by
  obtain ⟨D, ao, cap, h1, h2, h3⟩ := h
  refine (number_d m w h1).mono ?_
  rintro e w' ⟨rfl, ⟨ao', cap', k1⟩, k2⟩
  unfold nmS at hn
  simp only [Prod.mk.injEq] at hn
  obtain ⟨rfl, rfl, rfl⟩ := hn
  exact ⟨rfl, ⟨D, ao', cap', k1, h2, h3⟩, k2⟩
theorem bytes_x {q B N : Nat} {ys ys1 d : List UInt8} {f f1 : Int} (n : Int) (hn64 : n ≤ 9223372036854775807) (w : World) (h : DX w q B N ys f) (hn : byS n (ys, f) = (d, ys1, f1)) :
    Calls Try.prog 44 #[.pointer (some ⟨q, 0, none⟩), .int .i64 n] w fun e w' => ∃ a c, e = .returned (.slice a d.length c) ∧ Own w' w.heap.size (.slice a d.length c) d ∧ DX w' q B N ys1 f1 ∧ w.grownBy w' (some q) := by
  obtain ⟨D, ao, cap, h1, h2, h3⟩ := h
  refine (bytes_d n hn64 w h1).mono ?_
  rintro e w' ⟨v, rfl, k0, ⟨ao', cap', k1⟩, k2⟩
  unfold byS at hn
  simp only [Prod.mk.injEq] at hn
  obtain ⟨rfl, rfl, rfl⟩ := hn
  obtain ⟨a, c, rfl, -⟩ := k0.val
  exact ⟨a, c, rfl, k0, ⟨D, ao', cap', k1, h2, h3⟩, k2⟩
theorem take_x {q B N : Nat} {ys ys1 d : List UInt8} {f f1 : Int} (n : Int) (w : World) (h : DX w q B N ys f) (hn : tkS n (ys, f) = (d, ys1, f1)) :
    Calls Try.prog 40 #[.pointer (some ⟨q, 0, none⟩), .int .i64 n] w fun e w' => ∃ a c, e = .returned (.slice a d.length c) ∧ Own w' w.heap.size (.slice a d.length c) d ∧ DX w' q B N ys1 f1 ∧ w.grownBy w' (some q) := by
  obtain ⟨D, ao, cap, h1, h2, h3⟩ := h
  refine (take_d n w h1).mono ?_
  rintro e w' ⟨v, rfl, k0, ⟨ao', cap', k1⟩, k2⟩
  unfold tkS at hn
  simp only [Prod.mk.injEq] at hn
  obtain ⟨rfl, rfl, rfl⟩ := hn
  obtain ⟨a, c, rfl, -⟩ := k0.val
  exact ⟨a, c, rfl, k0, ⟨D, ao', cap', k1, h2, h3⟩, k2⟩
theorem fail_x {q B N : Nat} {ys : List UInt8} {f : Int} (g : Int) (w : World) (h : DX w q B N ys f) :
    Calls Try.prog 45 #[.pointer (some ⟨q, 0, none⟩), .int .i64 g] w fun e w' => e = .returned (.tuple #[]) ∧ DX w' q B N ys (if f = 0 then g else f) ∧ w.grownBy w' (some q) := by
  obtain ⟨D, ao, cap, h1, h2, h3⟩ := h
  refine (fail_d g w h1).mono ?_
  rintro e w' ⟨rfl, k1, k2⟩
  exact ⟨rfl, ⟨D, ao, cap, k1, h2, h3⟩, k2⟩
theorem want_x {q B N : Nat} {ys : List UInt8} {f : Int} (r : Bool) (w : World) (h : DX w q B N ys f) :
    Calls Try.prog 41 #[.pointer (some ⟨q, 0, none⟩), .bool r] w fun e w' => e = .returned (.tuple #[]) ∧ DX w' q B N ys (mustF r f) ∧ w.grownBy w' (some q) := by
  cases r
  · go_enter Try.func41, Try.ntmps41
    go_wp2_with fail
    refine (fail_x 20 w h).mono ?_
    rintro e w' ⟨rfl, k1, k2⟩
    go_wp2
    go_end0
    exact ⟨rfl, by unfold mustF; simpa using k1, k2⟩
  · go_enter Try.func41, Try.ntmps41
    go_wp2
    go_end0
    exact ⟨rfl, by unfold mustF; simpa using h, World.grownBy.refl _ _⟩
theorem head1 (l : List Blk) (t : Nat) : (! (headS l ⟨t, 0, 0, []⟩ == 1)) = typeS l t := by
  unfold headS
  rcases h : typeS l t with _ | _ <;> simp
  rcases numbS l 0 <;> simp
theorem head2 (l : List Blk) (t n : Nat) (h : typeS l t = true) : (! (headS l ⟨t, n, 0, []⟩ == 2)) = numbS l n := by
  unfold headS
  rw [if_pos h]
  rcases numbS l n <;> simp
theorem mustF_f {b c : Bool} {f : Int} (h : ¬ f = 0) : mustF b f = mustF c f := by
  unfold mustF
  rw [if_neg h]
  split <;> split <;> rfl
theorem nmS_f {m n : Nat} {ys y : List UInt8} {f g : Int} (h : nmS m (ys, f) = (n, y, g)) (hf : ¬ f = 0) : g = f := by
  unfold nmS at h
  simp only [Prod.mk.injEq] at h
  rw [← h.2.2, rNum_f hf]
set_option maxRecDepth 20000 in
set_option maxHeartbeats 1600000 in
theorem block_x {q B N n : Nat} {ys ys' : List UInt8} {f f' : Int} {x : Blk} {l : List Blk} (hn : n = l.length) (so : Option Addr) (cap : Nat) (w : World) (h : DX w q B N ys f) (hN : N ≤ w.heap.size) (hl : ∀ u, w.grownBy u (some q) → RdBlks u so l) (hlc : l.length ≤ cap) (hb : l.length ≤ 140737488351232) (hx : blockS l (ys, f) = (x, ys', f')) :
    Calls Try.prog 43 #[.pointer (some ⟨q, 0, none⟩), .slice so n cap] w fun e w' => (∃ a c, e = .returned (blkV x a c) ∧ Own w' w.heap.size (.slice a x.d.length c) x.d ∧ (∀ p, a = some p → w.heap.size < p.block)) ∧ DX w' q B N ys' f' ∧ w.grownBy w' (some q) ∧ x.ok := by
  obtain ⟨hBq, hqN⟩ := h.lt
  have hqw : q < w.heap.size := by omega
  have HL : Hid (∀ u, w.grownBy u (some q) → RdBlks u so l) := hl
  have HNN : Hid (n = l.length) := hn
  clear hl hn
  obtain ⟨W0, hW0⟩ : ∃ W0 : World, W0 = w.alloc (.cells #[.int .u64 0, .int .u64 0, .int .u64 0, .slice none 0 0] 40) := ⟨_, rfl⟩
  have hQ : W0.heap[w.heap.size]? = some (.cells #[.int .u64 0, .int .u64 0, .int .u64 0, .slice none 0 0] 40 (0, 0)) := by rw [hW0]; exact heap_alloc_new w _
  have hb0 : Below w.heap.size w W0 := by rw [hW0]; exact al (Below.refl _ _) _
  have hgw : w.grownBy W0 (some q) := gr_below (World.grownBy.refl _ _) hb0
  have hs0 : w.heap.size < W0.heap.size := (Array.getElem?_eq_some_iff.1 hQ).1
  have hrs := h.below hb0
  go_enter Try.func43, Try.ntmps43
  obtain ⟨n1, y1, f1, e1⟩ : ∃ n1 y1 f1, nmS 281474976710655 (ys, f) = (n1, y1, f1) := ⟨_, _, _, rfl⟩
  go_wp2_with fail
  rw [← hW0]
  clear hW0
  refine (number_x _ hrs e1).mono ?_
  rintro e u1 ⟨rfl, hrs, hg⟩
  have HE1 : Hid (nmS 281474976710655 (ys, f) = (n1, y1, f1)) := e1
  have hgw := grown_add hgw hg (.inl rfl)
  have hQ := gr_box hg (by omega) hQ
  obtain ⟨W1, hW1⟩ : ∃ W1 : World, W1 = u1.alloc (.cells #[.int .u64 (n1 : Nat), .int .u64 0, .int .u64 0, .slice none 0 0] 40) := ⟨_, rfl⟩
  have hR : W1.heap[u1.heap.size]? = some (.cells #[.int .u64 (n1 : Nat), .int .u64 0, .int .u64 0, .slice none 0 0] 40 (0, 0)) := by rw [hW1]; exact heap_alloc_new u1 _
  have hb1 : Below u1.heap.size u1 W1 := by rw [hW1]; exact al (Below.refl _ _) _
  have hgw := gr_below hgw hb1
  have hrs := hrs.below hb1
  have hQ := box_on hQ hb1
  have hu1 : w.heap.size < u1.heap.size := by have := hg.size; omega
  obtain ⟨X, hXe⟩ : ∃ X, X = u1.heap.size := ⟨_, rfl⟩
  clear e1 hg
  go_wp2_with fail
  rw [← hW1]
  rw [← hXe]
  rw [← hXe] at hR hu1
  clear hW1 hXe hb1
  refine (headed_d ⟨n1, 0, 0, []⟩ none 0 so n cap l W1 HNN.out (HL.out _ hgw) hlc hb).mono ?_
  rintro e v1 ⟨rfl, hbk⟩
  obtain ⟨k1, hk1⟩ : ∃ k1, k1 = headS l ⟨n1, 0, 0, []⟩ := ⟨_, rfl⟩
  have hb1' : (k1 != 1) = typeS l n1 := by rw [hk1]; exact head1 l n1
  obtain ⟨b1, hb1⟩ : ∃ b1 : Bool, b1 = typeS l n1 := ⟨_, rfl⟩
  rw [← hb1] at hb1'
  have HB1 : Hid (b1 = typeS l n1) := hb1
  rw [← hk1]
  have hgw := gr_below hgw hbk
  have hrs := hrs.below hbk
  have hR := box_on hR hbk
  have hQ := box_on hQ hbk
  clear hbk hk1 hb1
  go_wp2_with fail
  clear hb1'
  refine (want_x b1 _ hrs).mono ?_
  rintro e w1 ⟨rfl, hrs, hg⟩
  have hgw := grown_add hgw hg (.inl rfl)
  have hR := gr_box hg (by omega) hR
  have hQ := gr_box hg (by omega) hQ
  clear hg
  obtain ⟨n2, y2, f2, e2⟩ : ∃ n2 y2 f2, nmS 281474976710655 (y1, mustF b1 f1) = (n2, y2, f2) := ⟨_, _, _, rfl⟩
  go_wp2_with fail
  refine (number_x _ hrs e2).mono ?_
  rintro e u2 ⟨rfl, hrs, hg⟩
  have HE2 : Hid (nmS 281474976710655 (y1, mustF b1 f1) = (n2, y2, f2)) := e2
  have hgw := grown_add hgw hg (.inl rfl)
  have hR := gr_box hg (by omega) hR
  have hQ := gr_box hg (by omega) hQ
  obtain ⟨c0, c1, c2, c3, z0, z1, z2, z3⟩ := cells4 hR
  have gs : u2.grownBy (u2.setCell ⟨X, 1, none⟩ (.int .u64 (n2 : Nat))) (some X) := gr_set (World.grownBy.refl _ _) _ _
  have hgw : w.grownBy (u2.setCell ⟨X, 1, none⟩ (.int .u64 (n2 : Nat))) (some q) := grown_add hgw gs (.inr fun j hj => by cases hj; omega)
  have hrs := hrs.set X 1 (.int .u64 (n2 : Nat)) (.inr (by omega))
  have hR : (u2.setCell ⟨X, 1, none⟩ (.int .u64 (n2 : Nat))).heap[X]? = some (.cells #[.int .u64 (n1 : Nat), .int .u64 (n2 : Nat), .int .u64 0, .slice none 0 0] 40 (0, 0)) := heap_set1 (i := 1) (v := .int .u64 (n2 : Nat)) hR
  have hQ := gr_box gs (by omega) hQ
  clear e2 hg
  obtain ⟨k0', k1', k2', k3', -⟩ := cells4 hR
  go_wp2_with fail
  clear c0 c1 c2 c3 z0 z1 z2 z3 k0' k1' k2' k3'
  refine (headed_d ⟨n1, n2, 0, []⟩ none 0 so n cap l _ HNN.out (HL.out _ hgw) hlc hb).mono ?_
  rintro e v2 ⟨rfl, hbk⟩
  obtain ⟨k2, hk2⟩ : ∃ k2, k2 = headS l ⟨n1, n2, 0, []⟩ := ⟨_, rfl⟩
  obtain ⟨b2, hb2⟩ : ∃ b2 : Bool, b2 = numbS l n2 := ⟨_, rfl⟩
  have HB2 : Hid (b2 = numbS l n2) := hb2
  obtain ⟨r2, hr2⟩ : ∃ r2 : Bool, r2 = (k2 != 2) := ⟨_, rfl⟩
  have HM2 : Hid (mustF r2 f2 = mustF b2 f2) := by
    unfold Hid
    rcases hc : b1 with _ | _
    · have h1 : ¬ mustF b1 f1 = 0 := mustF_bad hc
      have h2 := nmS_f HE2.out h1
      exact mustF_f (by rw [h2]; exact h1)
    · have h1 : r2 = b2 := by rw [hr2, hk2, hb2]; exact head2 l n1 n2 (by rw [← HB1.out, hc])
      rw [h1]
  rw [← hk2]
  have hgw := gr_below hgw hbk
  have hrs := hrs.below hbk
  have hR := box_on hR hbk
  have hQ := box_on hQ hbk
  clear hbk hk2 hb2
  go_wp2_with fail
  rw [← hr2]
  clear hr2
  refine (want_x r2 _ hrs).mono ?_
  rintro e w2 ⟨rfl, hrs, hg⟩
  rw [HM2.out] at hrs
  have hgw := grown_add hgw hg (.inl rfl)
  have hR := gr_box hg (by omega) hR
  have hQ := gr_box hg (by omega) hQ
  clear hg
  obtain ⟨n3, y3, f3, e3⟩ : ∃ n3 y3 f3, nmS 281474976710655 (y2, mustF b2 f2) = (n3, y3, f3) := ⟨_, _, _, rfl⟩
  go_wp2_with fail
  refine (number_x _ hrs e3).mono ?_
  rintro e u3 ⟨rfl, hrs, hg⟩
  have HE3 : Hid (nmS 281474976710655 (y2, mustF b2 f2) = (n3, y3, f3)) := e3
  have hgw := grown_add hgw hg (.inl rfl)
  have hR := gr_box hg (by omega) hR
  have hQ := gr_box hg (by omega) hQ
  obtain ⟨c0, c1, c2, c3, z0, z1, z2, z3⟩ := cells4 hR
  have gs : u3.grownBy (u3.setCell ⟨X, 2, none⟩ (.int .u64 (n3 : Nat))) (some X) := gr_set (World.grownBy.refl _ _) _ _
  have hgw : w.grownBy (u3.setCell ⟨X, 2, none⟩ (.int .u64 (n3 : Nat))) (some q) := grown_add hgw gs (.inr fun j hj => by cases hj; omega)
  have hrs := hrs.set X 2 (.int .u64 (n3 : Nat)) (.inr (by omega))
  have hR : (u3.setCell ⟨X, 2, none⟩ (.int .u64 (n3 : Nat))).heap[X]? = some (.cells #[.int .u64 (n1 : Nat), .int .u64 (n2 : Nat), .int .u64 (n3 : Nat), .slice none 0 0] 40 (0, 0)) := heap_set1 (i := 2) (v := .int .u64 (n3 : Nat)) hR
  have hQ := gr_box gs (by omega) hQ
  clear e3 hg
  obtain ⟨b3, hb3⟩ : ∃ b3, b3 = decide ((n3 : Int) ≤ 255) := ⟨_, rfl⟩
  have HB3 : Hid (b3 = decide (n3 ≤ 255)) := by unfold Hid; rw [hb3]; exact decide_eq_decide.2 (by omega)
  go_wp2_with fail
  clear c0 c1 c2 c3 z0 z1 z2 z3
  rw [← hb3]
  clear hb3
  refine (want_x b3 _ hrs).mono ?_
  rintro e w3 ⟨rfl, hrs, hg⟩
  have hgw := grown_add hgw hg (.inl rfl)
  have hR := gr_box hg (by omega) hR
  have hQ := gr_box hg (by omega) hQ
  clear hg
  obtain ⟨d, y4, f4, e4⟩ : ∃ d y4 f4, byS 64 (y3, mustF b3 f3) = (d, y4, f4) := ⟨_, _, _, rfl⟩
  go_wp2_with fail
  refine (bytes_x 64 (by decide) _ hrs e4).mono ?_
  rintro e u4 ⟨a, c, rfl, hown, hrs, hg⟩
  have HE4 : Hid (byS 64 (y3, mustF b3 f3) = (d, y4, f4)) := e4
  have hd64 : d.length ≤ 64 := byS_le e4
  have hXl : X < w3.heap.size := (Array.getElem?_eq_some_iff.1 hR).1
  have hgw := grown_add hgw hg (.inl rfl)
  have hR := gr_box hg (by omega) hR
  have hQ := gr_box hg (by omega) hQ
  obtain ⟨c0, c1, c2, c3, z0, z1, z2, z3⟩ := cells4 hR
  obtain ⟨aq, cq, hv, hlcq, -, hnq, hrd, hbk⟩ := hown.val
  simp only [Value.slice.injEq, true_and] at hv
  obtain ⟨rfl, rfl⟩ := hv
  have gs : u4.grownBy (u4.setCell ⟨X, 3, none⟩ (.slice a d.length c)) (some X) := gr_set (World.grownBy.refl _ _) _ _
  have hgw : w.grownBy (u4.setCell ⟨X, 3, none⟩ (.slice a d.length c)) (some q) := grown_add hgw gs (.inr fun j hj => by cases hj; omega)
  have hrs := hrs.set X 3 (.slice a d.length c) (.inr (by omega))
  have hR : (u4.setCell ⟨X, 3, none⟩ (.slice a d.length c)).heap[X]? = some (.cells #[.int .u64 (n1 : Nat), .int .u64 (n2 : Nat), .int .u64 (n3 : Nat), .slice a d.length c] 40 (0, 0)) := heap_set1 (i := 3) (v := .slice a d.length c) hR
  have hQ := gr_box gs (by omega) hQ
  have hown : Own (u4.setCell ⟨X, 3, none⟩ (.slice a d.length c)) w3.heap.size (.slice a d.length c) d := hown.grown gs (own_neD fun q hq => by have := (hbk q hq).1; omega)
  have hrd := Rd.of_ownD hown
  clear e4 hg
  have HOW : Hid _ := hown
  have HBK : Hid _ := hbk
  clear hown hbk
  go_wp2_with fail
  clear c0 c1 c2 c3 z0 z1 z2 z3
  refine (holds_d n1 a c d _ hrd hnq (by omega)).mono ?_
  rintro e v4 ⟨rfl, hbk⟩
  obtain ⟨b4, hb4⟩ : ∃ b4, b4 = holdsS n1 d := ⟨_, rfl⟩
  rw [← hb4]
  have HB4 : Hid (b4 = dataS n1 d) := by unfold Hid dataS; rw [hb4]; simp [hd64]
  have hgw := gr_below hgw hbk
  have hrs := hrs.below hbk
  have hR := box_on hR hbk
  have hQ := box_on hQ hbk
  have HOW2 : Hid (Own v4 w3.heap.size (.slice a d.length c) d) := Own.below HOW.out hbk
  clear hbk hb4
  go_wp2_with fail
  refine (want_x b4 _ hrs).mono ?_
  rintro e w4 ⟨rfl, hrs, hg⟩
  have hgw := grown_add hgw hg (.inl rfl)
  have hR := gr_box hg (by omega) hR
  have hQ := gr_box hg (by omega) hQ
  obtain ⟨c0, c1, c2, c3, z0, z1, z2, z3⟩ := cells4 hR
  obtain ⟨j0, j1, j2, j3, l0, l1, l2, l3⟩ := cells4 hQ
  have HOW3 : Hid (Own w4 w3.heap.size (.slice a d.length c) d) := Own.grown HOW2.out hg (own_neD fun q hq => by have := (HBK.out q hq).1; omega)
  go_wp2
  have hfin := heap_set4 (v0 := .int .u64 (n1 : Nat)) (v1 := .int .u64 (n2 : Nat)) (v2 := .int .u64 (n3 : Nat)) (v3 := .slice a d.length c) hQ
  refine bodyPost_ret (results_cell_row rfl _ _ w.heap.size 40 _ (0, 0) _ rfl hfin Try.underlying40 rfl (by kernel_rfl)) rfl ?_
  have hval : blockS l (ys, f) = (⟨n1, n2, n3, d⟩, y4, mustF b4 f4) := by
    unfold blockS muS
    simp only [HE1.out]
    rw [← HB1.out, HE2.out]
    simp only
    rw [← HB2.out, HE3.out]
    simp only
    rw [← HB3.out, HE4.out]
    simp only
    rw [← HB4.out]
  rw [hval] at hx
  simp only [Prod.mk.injEq] at hx
  obtain ⟨rfl, rfl, rfl⟩ := hx
  have i1 := nmS_le HE1.out
  have i2 := nmS_le HE2.out
  have i3 := nmS_le HE3.out
  refine ⟨⟨a, c, rfl, Own.base (Own.grown HOW3.out gr_set4 (own_neD fun q hq => by have := (HBK.out q hq).1; omega)) (by omega), fun q hq => by have := (HBK.out q hq).1; omega⟩, hrs.grown gr_set4 (.inr (by omega)), grown_add hgw gr_set4 (.inr fun j hj => by cases hj; exact Nat.le_refl _), ?_⟩
  exact ⟨by simp only; omega, by simp only; omega, by simp only; omega, by simp only; omega⟩
end Go.Proofs.Ytdpkommmkcmifaa
