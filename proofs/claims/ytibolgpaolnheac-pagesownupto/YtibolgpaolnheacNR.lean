import Derived.Test.YtibolgpaolnheacNU
import Derived.Test.YtibolgpaolnheacQW
import Derived.Test.YtibolgpaolnheacQA
namespace Go.Proofs.Ytibolgpaolnheac
set_option linter.unusedVariables false
set_option linter.unusedSimpArgs false
open Go.RowKit
section
set_option maxRecDepth 20000
set_option maxHeartbeats 3200000
theorem rall_nil (w : World) : Calls Try.prog 30 #[.pointer none] w fun e w' => e = .returned (.slice none 0 0) ∧ w' = w := by
  go_enter Try.func30, Try.ntmps30
  go_wp2
  go_ret
  exact ⟨rfl, rfl⟩
theorem rpages_nil (w : World) : Calls Try.prog 10 #[.pointer none] w fun e w' => e = .returned (.slice none 0 0) ∧ w' = w := by
  go_enter Try.func10, Try.ntmps10
  go_wp2
  go_ret
  exact ⟨rfl, rfl⟩
theorem rplace_nil (s : St) (w : World) : Calls Try.prog 31 #[.pointer none, sv s] w fun e w' => e = .returned (.tuple #[.int .i64 0, .int .i64 0, .bool false]) ∧ Below w.heap.size w w' := by
  go_enter Try.func31, Try.ntmps31
  go_wp2
  refine bodyPost_ret (results_tmp3 rfl _ _ _) rfl ?_
  exact ⟨rfl, al (Below.refl _ _) _⟩
theorem rput_nil (s : St) (n : Nat) (w : World) : Calls Try.prog 27 #[.pointer none, sv s, uv n] w fun e w' => e = .returned (.bool false) ∧ Below w.heap.size w w' := by
  go_enter Try.func27, Try.ntmps27
  go_wp2
  go_ret
  exact ⟨rfl, al (Below.refl _ _) _⟩
theorem rget_nil (s1 s2 : Nat) (w : World) : Calls Try.prog 29 #[.pointer none, sv (s1, s2)] w fun e w' => e = .returned (.tuple #[.int .u64 0, .bool false]) ∧ Below w.heap.size w w' := by
  have HP : Hid _ := rplace_nil (s1, s2) (w.alloc (.cells #[.int .u64 (s1 : Int), .int .u64 (s2 : Int)] tSt))
  go_enter Try.func29, Try.ntmps29
  go_wp2_with fail
  refine Calls.mono HP.out ?_
  rintro e w1 ⟨rfl, hb⟩
  have HB : Hid (Below w.heap.size w w1) := below_next (al (Below.refl _ _) _) hb
  clear hb
  go_wp2
  refine bodyPost_ret (results_tmp2 rfl _ _ _) rfl ?_
  exact ⟨rfl, HB.out⟩
theorem rremove_nil (s1 s2 : Nat) (w : World) : Calls Try.prog 28 #[.pointer none, sv (s1, s2)] w fun e w' => e = .returned (.tuple #[.int .u64 0, .bool false]) ∧ Below w.heap.size w w' := by
  have HP : Hid _ := rplace_nil (s1, s2) (w.alloc (.cells #[.int .u64 (s1 : Int), .int .u64 (s2 : Int)] tSt))
  go_enter Try.func28, Try.ntmps28
  go_wp2_with fail
  refine Calls.mono HP.out ?_
  rintro e w1 ⟨rfl, hb⟩
  have HB : Hid (Below w.heap.size w w1) := below_next (al (Below.refl _ _) _) hb
  clear hb
  go_wp2
  refine bodyPost_ret (results_tmp2 rfl _ _ _) rfl ?_
  exact ⟨rfl, HB.out⟩
theorem rup_nil (s1 s2 : Nat) (w : World) : Calls Try.prog 33 #[.pointer none, sv (s1, s2)] w fun e w' => e = .returned (.slice none 0 0) ∧ Below w.heap.size w w' := by
  have HB : Hid (∀ ob, Below w.heap.size w (w.alloc ob)) := fun ob => al (Below.refl _ _) _
  go_enter Try.func33, Try.ntmps33
  go_wp2_with fail
  refine Calls.mono (rall_nil _) ?_
  rintro e w1 ⟨rfl, hw1⟩
  have hb1 : Below w.heap.size w w1 := by rw [hw1]; exact HB.out _
  have HB1 : Hid (Below w.heap.size w w1) := hb1
  clear hw1 hb1
  go_wp2_with fail
  go_loopw [5, 7] (fun l i wr => l = .slice none 0 0 ∧ i = .int .i64 0 ∧ Below w.heap.size w wr) (fun _ _ _ => 0)
  case atStart => exact ⟨rfl, rfl, HB1.out⟩
  case round =>
    obtain ⟨rfl, rfl, hb⟩ := hrel
    have HB2 : Hid (Below w.heap.size w wr) := hb
    clear hb
    go_wp2
    go_ret
    exact ⟨rfl, HB2.out⟩
theorem rdown_nil (s1 s2 : Nat) (w : World) : Calls Try.prog 34 #[.pointer none, sv (s1, s2)] w fun e w' => e = .returned (.slice none 0 0) ∧ Below w.heap.size w w' := by
  have HB : Hid (∀ ob, Below w.heap.size w (w.alloc ob)) := fun ob => al (Below.refl _ _) _
  go_enter Try.func34, Try.ntmps34
  go_wp2_with fail
  refine Calls.mono (rall_nil _) ?_
  rintro e w1 ⟨rfl, hw1⟩
  have hb1 : Below w.heap.size w w1 := by rw [hw1]; exact HB.out _
  have HB1 : Hid (Below w.heap.size w w1) := hb1
  clear hw1 hb1
  go_wp2_with fail
  go_loopw [5, 7] (fun l i wr => l = .slice none 0 0 ∧ i = .int .i64 (-1) ∧ Below w.heap.size w wr) (fun _ _ _ => 0)
  case atStart => exact ⟨rfl, rfl, HB1.out⟩
  case round =>
    obtain ⟨rfl, rfl, hb⟩ := hrel
    have HB2 : Hid (Below w.heap.size w wr) := hb
    clear hb
    go_wp2
    go_ret
    exact ⟨rfl, HB2.out⟩
theorem first_nil (w : World) : Calls Try.prog 32 #[.slice none 0 0] w fun e w' => ∃ v, e = .returned v ∧ OwnU w' w.heap.size v [0, 0, 0, 0] ∧ Below w.heap.size w w' := by
  go_enter Try.func32, Try.ntmps32
  go_wp2
  go_ret
  exact ⟨_, rfl, OwnU.lit w (Nat.le_refl _) [0, 0, 0, 0] 4 rfl (by decide), al (Below.refl _ _) _⟩
theorem entries_nil (n : Int) (w : World) : Calls Try.prog 35 #[.slice none 0 0, .int .i64 n] w fun e w' => e = .returned (.slice none 0 0) ∧ Below w.heap.size w w' := by
  have HB1 : Hid (Below w.heap.size w w) := Below.refl _ _
  go_enter Try.func35, Try.ntmps35
  go_wp2_with fail
  go_loopw [5, 6] (fun l i wr => l = .slice none 0 0 ∧ i = .int .i64 0 ∧ Below w.heap.size w wr) (fun _ _ _ => 0)
  case atStart => exact ⟨rfl, rfl, HB1.out⟩
  case round =>
    obtain ⟨rfl, rfl, hb⟩ := hrel
    have HB2 : Hid (Below w.heap.size w wr) := hb
    clear hb
    go_wp2
    go_ret
    exact ⟨rfl, HB2.out⟩
/-- an index that has no pages and no size, or none -/
def Zero (w : World) (x : Value) : Prop := x = .pointer none ∨ ∃ g, x = .pointer (some ⟨g, 0, none⟩) ∧ w.heap[g]? = some (.cells #[.int .i64 0, .slice none 0 0] tIx (0, 0))
variable {w w' : World} {x : Value}
theorem Zero.below (h : Zero w x) (hb : Below w.heap.size w w') : Zero w' x := by
  rcases h with h | ⟨g, h1, h2⟩
  · exact .inl h
  · exact .inr ⟨g, h1, (hb.block g (Array.getElem?_eq_some_iff.1 h2).1).trans h2⟩
theorem Zero.pg (h : Zero w x) : PgV w x none 0 0 := by
  rcases h with h | ⟨g, h1, h2⟩
  · exact .inl ⟨h, rfl, rfl, rfl⟩
  · exact .inr ⟨g, h1, by rw [cell_of_row _ _ _ _ _ _ h2]; rfl⟩
theorem put0_t (h : Zero w x) (s : St) (n : Nat) : Calls Try.prog 17 #[x, sv s, uv n] w fun e w' => e = .returned (.bool false) ∧ Below w.heap.size w w' := by
  rcases h with rfl | ⟨g, rfl, h2⟩
  · go_enter Try.func17, Try.ntmps17
    go_wp2
    go_ret
    exact ⟨rfl, by first | exact al (Below.refl _ _) _ | exact Below.refl _ _⟩
  · have hc : ∀ ob : Obj, (w.alloc ob).cell? ⟨g, 0, none⟩ = some (.int .i64 0) := fun ob => by
      rw [cell_of_row _ _ _ _ _ _ (((al (Below.refl w.heap.size w) ob).block g (Array.getElem?_eq_some_iff.1 h2).1).trans h2)]; rfl
    have hc0 : w.cell? ⟨g, 0, none⟩ = some (.int .i64 0) := by rw [cell_of_row _ _ _ _ _ _ h2]; rfl
    clear h2
    go_enter Try.func17, Try.ntmps17
    go_wp2
    go_ret
    exact ⟨rfl, by first | exact al (Below.refl _ _) _ | exact Below.refl _ _⟩
theorem place0_t (h : Zero w x) (s : St) : Calls Try.prog 22 #[x, sv s] w fun e w' => e = .returned (.tuple #[.int .i64 0, .int .i64 0, .bool false]) ∧ Below w.heap.size w w' := by
  refine (place_t x none 0 0 [] s w h.pg rfl (fun j hj => absurd hj (Nat.not_lt_zero _)) ⟨(fun p hp => by cases hp), List.Pairwise.nil⟩ (by decide) (fun p hp => by cases hp)).mono ?_
  rintro e w' ⟨p, i, ok, rfl, hp, hb⟩
  obtain ⟨rfl, rfl, rfl⟩ := hp.nil rfl
  exact ⟨rfl, hb⟩
theorem get0_t (h : Zero w x) (s1 s2 : Nat) : Calls Try.prog 20 #[x, sv (s1, s2)] w fun e w' => e = .returned (.tuple #[.int .u64 0, .bool false]) ∧ Below w.heap.size w w' := by
  refine (get_t x none 0 0 [] s1 s2 w h.pg rfl (fun j hj => absurd hj (Nat.not_lt_zero _)) ⟨(fun p hp => by cases hp), List.Pairwise.nil⟩ (by decide) (fun p hp => by cases hp)).mono ?_
  rintro e w' ⟨p, i, ok, v, rfl, hp, h0, -, hb⟩
  obtain ⟨rfl, rfl, rfl⟩ := hp.nil rfl
  obtain rfl := h0 rfl
  exact ⟨rfl, hb⟩
theorem remove0_t (h : Zero w x) (s1 s2 : Nat) : Calls Try.prog 19 #[x, sv (s1, s2)] w fun e w' => e = .returned (.tuple #[.int .u64 0, .bool false]) ∧ Below w.heap.size w w' := by
  have HP : Hid (∀ ob : Obj, Calls Try.prog 22 #[x, sv (s1, s2)] (w.alloc ob) fun e w' => e = .returned (.tuple #[.int .i64 0, .int .i64 0, .bool false]) ∧ Below (w.alloc ob).heap.size (w.alloc ob) w') := fun ob => place0_t (h.below (al (Below.refl _ _) _)) (s1, s2)
  obtain ⟨g, rfl⟩ : ∃ g, x = .pointer g := by rcases h with rfl | ⟨g, rfl, -⟩ <;> exact ⟨_, rfl⟩
  clear h
  go_enter Try.func19, Try.ntmps19
  go_wp2_with fail
  refine Calls.mono (HP.out _) ?_
  rintro e w1 ⟨rfl, hb⟩
  have HB : Hid (Below w.heap.size w w1) := below_next (al (Below.refl _ _) _) hb
  clear hb
  go_wp2
  refine bodyPost_ret (results_tmp2 rfl _ _ _) rfl ?_
  exact ⟨rfl, HB.out⟩
end
end Go.Proofs.Ytibolgpaolnheac
