import Derived.Test.YtibolgpaolnheaaQT
import Derived.Test.YtibolgpaolnheaaQRm
import Derived.Test.YtibolgpaolnheaaZQB
import Derived.Test.YtibolgpaolnheaaZQT
import Derived.Test.YtibolgpaolnheaaZQRm
import Derived.Test.YtibolgpaolnheaaZQPut
namespace Go.Proofs.Ytibolgpaolnheaa
set_option linter.unusedVariables false
set_option linter.unusedSimpArgs false
open Go.RowKit
variable {w w' : World}
theorem spNil : SP ([] : List (List Ent)) := ⟨(fun p hp => by cases hp), List.Pairwise.nil⟩
section
set_option maxRecDepth 20000
set_option maxHeartbeats 3200000
theorem put_nilU (s : St) (x : Value) (w : World) : Calls Try.prog 13 #[.pointer none, sv s, x] w fun e w' => e = .returned (.bool false) ∧ Below w.heap.size w w' := by
  go_enter Try.func13, Try.ntmps13
  go_wp2
  go_ret
  exact ⟨rfl, by first | exact al (Below.refl _ _) _ | exact Below.refl _ _⟩
theorem place_nilU (s : St) (w : World) : Calls Try.prog 19 #[.pointer none, sv s] w fun e w' => e = .returned (.tuple #[.int .i64 0, .int .i64 0, .bool false]) ∧ Below w.heap.size w w' := by
  refine (place_t (.pointer none) none 0 0 [] s w (.inl ⟨rfl, rfl, rfl, rfl⟩) rfl (fun j hj => absurd hj (Nat.not_lt_zero _)) spNil (by decide) (fun p hp => by cases hp)).mono ?_
  rintro e w' ⟨p, i, ok, rfl, hp, hb⟩
  obtain ⟨rfl, rfl, rfl⟩ := hp.nil rfl
  exact ⟨rfl, hb⟩
theorem remove_nilU (s1 s2 : Nat) (w : World) : Calls Try.prog 15 #[.pointer none, sv (s1, s2)] w fun e w' => ∃ vv, e = .returned (.tuple #[vv, .bool false]) ∧ Below w.heap.size w w' := by
  have HP : Hid (∀ ob : Obj, Calls Try.prog 19 #[.pointer none, sv (s1, s2)] (w.alloc ob) fun e w' => e = .returned (.tuple #[.int .i64 0, .int .i64 0, .bool false]) ∧ Below (w.alloc ob).heap.size (w.alloc ob) w') := fun ob => place_nilU (s1, s2) _
  go_enter Try.func15, Try.ntmps15
  go_wp2_with fail
  refine Calls.mono (HP.out _) ?_
  rintro e w1 ⟨rfl, hb⟩
  have HB : Hid (Below w.heap.size w w1) := below_next (al (Below.refl _ _) _) hb
  clear hb
  go_wp2
  refine bodyPost_ret (results_tmp2 rfl _ _ _) rfl ?_
  exact ⟨_, rfl, HB.out⟩
theorem put_nilS (s : St) (x : Value) (w : World) : Calls Try.prog 14 #[.pointer none, sv s, x] w fun e w' => e = .returned (.bool false) ∧ Below w.heap.size w w' := by
  go_enter Try.func14, Try.ntmps14
  go_wp2
  go_ret
  exact ⟨rfl, by first | exact al (Below.refl _ _) _ | exact Below.refl _ _⟩
theorem place_nilS (s : St) (w : World) : Calls Try.prog 20 #[.pointer none, sv s] w fun e w' => e = .returned (.tuple #[.int .i64 0, .int .i64 0, .bool false]) ∧ Below w.heap.size w w' := by
  refine (Str.place_t (.pointer none) none 0 0 [] s w (.inl ⟨rfl, rfl, rfl, rfl⟩) rfl (fun j hj => absurd hj (Nat.not_lt_zero _)) spNil (by decide) (fun p hp => by cases hp)).mono ?_
  rintro e w' ⟨p, i, ok, rfl, hp, hb⟩
  obtain ⟨rfl, rfl, rfl⟩ := hp.nil rfl
  exact ⟨rfl, hb⟩
theorem remove_nilS (s1 s2 : Nat) (w : World) : Calls Try.prog 16 #[.pointer none, sv (s1, s2)] w fun e w' => ∃ vv, e = .returned (.tuple #[vv, .bool false]) ∧ Below w.heap.size w w' := by
  have HP : Hid (∀ ob : Obj, Calls Try.prog 20 #[.pointer none, sv (s1, s2)] (w.alloc ob) fun e w' => e = .returned (.tuple #[.int .i64 0, .int .i64 0, .bool false]) ∧ Below (w.alloc ob).heap.size (w.alloc ob) w') := fun ob => place_nilS (s1, s2) _
  go_enter Try.func16, Try.ntmps16
  go_wp2_with fail
  refine Calls.mono (HP.out _) ?_
  rintro e w1 ⟨rfl, hb⟩
  have HB : Hid (Below w.heap.size w w1) := below_next (al (Below.refl _ _) _) hb
  clear hb
  go_wp2
  refine bodyPost_ret (results_tmp2 rfl _ _ _) rfl ?_
  exact ⟨_, rfl, HB.out⟩
end
end Go.Proofs.Ytibolgpaolnheaa
