import Derived.Test.YthpebfibpopinaaGreatDoorBase
import Derived.Test.YthpebfibpopinaaGreatDoorRegn
import Derived.Deep.MidRow
import Derived.Deep.WholeRow
import Derived.OwnWalk
namespace Go.Proofs.YthpebfibpopinaaGreatDoor
set_option linter.unusedVariables false
set_option linter.unusedSimpArgs false
open Go.RowKit
theorem al {w w1 : World} (h : Below w.heap.size w w1) (o : Obj) : Below w.heap.size w (w1.alloc o) := h.alloc h.size o
/-- a cell of what was there stays -/
theorem below_cl {w w' : World} {p : Addr} {v : Value} (h : Below w.heap.size w w') (hc : w.cell? p = some v) : w'.cell? p = some v := (h.cell (World.block_lt_of_cell? w _ hc)).trans hc
abbrev zf : Value := .agg #[.int .i64 0, .int .u64 0, .int .u64 0, .int .u64 0, .slice none 0 0]
section
set_option maxRecDepth 20000
set_option maxHeartbeats 3200000
variable {w : World} {g : Nat}
theorem tmade_none (w : World) : Calls Tryz.prog 32 #[.pointer none] w fun e w' => e = .returned (.bool false) ∧ w' = w := by
  go_enter Tryz.func32, Tryz.ntmps32
  go_wp2
  go_ret
  exact ⟨rfl, rfl⟩
theorem tmade_zero (hc : w.cell? ⟨g, 1, none⟩ = some (.pointer none)) : Calls Tryz.prog 32 #[.pointer (some ⟨g, 0, none⟩)] w fun e w' => e = .returned (.bool false) ∧ w' = w := by
  go_enter Tryz.func32, Tryz.ntmps32
  go_wp2
  go_ret
  exact ⟨rfl, rfl⟩
/-- no table, or one that nobody opened -/
def ZT (w : World) (t : Value) : Prop := t = .pointer none ∨ ∃ g, t = .pointer (some ⟨g, 0, none⟩) ∧ w.cell? ⟨g, 1, none⟩ = some (.pointer none)
theorem ZT.below {w' : World} {t : Value} (h : ZT w t) (hb : Below w.heap.size w w') : ZT w' t := by
  rcases h with h | ⟨g, h1, h2⟩
  · exact .inl h
  · exact .inr ⟨g, h1, below_cl hb h2⟩
theorem tmade_z {t : Value} (h : ZT w t) : Calls Tryz.prog 32 #[t] w fun e w' => e = .returned (.bool false) ∧ w' = w := by
  rcases h with rfl | ⟨g, rfl, h⟩
  · exact tmade_none w
  · exact tmade_zero h
theorem commit_z {t : Value} (h : ZT w t) : Calls Tryz.prog 16 #[t, .slice none 0 0] w fun e w' => e = .returned (.int .i64 1) ∧ w' = w := by
  have H : Hid _ := tmade_z h
  clear h
  go_enter Tryz.func16, Tryz.ntmps16
  go_wp2_with fail
  refine Calls.mono H.out ?_
  rintro e w1 ⟨rfl, hw⟩
  subst hw
  go_wp2
  go_ret
  exact ⟨rfl, rfl⟩
theorem made_z (hc : w.cell? ⟨g, 0, none⟩ = some (.pointer none)) : Calls Tryz.prog 23 #[.pointer (some ⟨g, 0, none⟩)] w fun e w' => e = .returned (.bool false) ∧ w' = w := by
  go_enter Tryz.func23, Tryz.ntmps23
  go_wp2
  go_ret
  exact ⟨rfl, rfl⟩
theorem stream_z (hc : w.cell? ⟨g, 0, none⟩ = some (.pointer none)) (n : Int) : Calls Tryz.prog 25 #[.pointer (some ⟨g, 0, none⟩), .int .i64 n] w fun e w' => e = .returned (.pointer none) ∧ w' = w := by
  have H : Hid _ := made_z hc
  clear hc
  go_enter Tryz.func25, Tryz.ntmps25
  go_wp2_with fail
  refine Calls.mono H.out ?_
  rintro e w1 ⟨rfl, hw⟩
  subst hw
  go_wp2
  go_ret
  exact ⟨rfl, rfl⟩
theorem next_z (hc : w.cell? ⟨g, 0, none⟩ = some (.pointer none)) (n : Int) : Calls Tryz.prog 15 #[.pointer (some ⟨g, 0, none⟩), .int .i64 n] w fun e w' => e = .returned (.int .u64 0) ∧ w' = w := by
  have H : Hid _ := stream_z hc n
  clear hc
  go_enter Tryz.func15, Tryz.ntmps15
  go_wp2_with fail
  refine Calls.mono H.out ?_
  rintro e w1 ⟨rfl, hw⟩
  subst hw
  go_wp2
  go_ret
  exact ⟨rfl, rfl⟩
theorem begin_z (hc : w.cell? ⟨g, 0, none⟩ = some (.pointer none)) (n : Int) : Calls Tryz.prog 8 #[.pointer (some ⟨g, 0, none⟩), .int .i64 n] w fun e w' => e = .returned (.int .i64 1) ∧ w' = w := by
  have H : Hid _ := stream_z hc n
  clear hc
  go_enter Tryz.func8, Tryz.ntmps8
  go_wp2_with fail
  refine Calls.mono H.out ?_
  rintro e w1 ⟨rfl, hw⟩
  subst hw
  go_wp2
  go_ret
  exact ⟨rfl, rfl⟩
theorem cease_z (hc : w.cell? ⟨g, 0, none⟩ = some (.pointer none)) (n : Int) : Calls Tryz.prog 9 #[.pointer (some ⟨g, 0, none⟩), .int .i64 n] w fun e w' => e = .returned (.int .i64 1) ∧ w' = w := by
  have H : Hid _ := stream_z hc n
  clear hc
  go_enter Tryz.func9, Tryz.ntmps9
  go_wp2_with fail
  refine Calls.mono H.out ?_
  rintro e w1 ⟨rfl, hw⟩
  subst hw
  go_wp2
  go_ret
  exact ⟨rfl, rfl⟩
theorem done_z (hc : w.cell? ⟨g, 0, none⟩ = some (.pointer none)) : Calls Tryz.prog 10 #[.pointer (some ⟨g, 0, none⟩), .agg #[.int .i64 0, .int .u64 0]] w fun e w' => e = .returned (.int .i64 1) ∧ Below w.heap.size w w' := by
  have H : Hid (∀ ob, Calls Tryz.prog 23 #[.pointer (some ⟨g, 0, none⟩)] (w.alloc ob) fun e w' => e = .returned (.bool false) ∧ w' = w.alloc ob) := (fun ob => made_z (below_cl (al (Below.refl _ _) ob) hc))
  clear hc
  go_enter Tryz.func10, Tryz.ntmps10
  go_wp2_with fail
  refine Calls.mono (H.out _) ?_
  rintro e w1 ⟨rfl, hw⟩
  subst hw
  go_wp2
  go_ret
  exact ⟨rfl, al (Below.refl _ _) _⟩
theorem streams_z (hc : w.cell? ⟨g, 0, none⟩ = some (.pointer none)) : Calls Tryz.prog 14 #[.pointer (some ⟨g, 0, none⟩)] w fun e w' => e = .returned (.slice none 0 0) ∧ w' = w := by
  have H : Hid _ := made_z hc
  clear hc
  go_enter Tryz.func14, Tryz.ntmps14
  go_wp2_with fail
  refine Calls.mono H.out ?_
  rintro e w1 ⟨rfl, hw⟩
  subst hw
  go_wp2
  go_ret
  exact ⟨rfl, rfl⟩
theorem keys_z (hc : w.cell? ⟨g, 0, none⟩ = some (.pointer none)) (f : Value) : Calls Tryz.prog 28 #[.pointer (some ⟨g, 0, none⟩), f] w fun e w' => e = .returned (.slice none 0 0) ∧ w' = w := by
  have H : Hid _ := made_z hc
  clear hc
  go_enter Tryz.func28, Tryz.ntmps28
  go_wp2_with fail
  refine Calls.mono H.out ?_
  rintro e w1 ⟨rfl, hw⟩
  subst hw
  go_wp2
  go_ret
  exact ⟨rfl, rfl⟩
theorem allKeys_z (hc : w.cell? ⟨g, 0, none⟩ = some (.pointer none)) : Calls Tryz.prog 12 #[.pointer (some ⟨g, 0, none⟩)] w fun e w' => e = .returned (.slice none 0 0) ∧ w' = w := by
  have H : Hid (∀ f, Calls Tryz.prog 28 #[.pointer (some ⟨g, 0, none⟩), f] w fun e w' => e = .returned (.slice none 0 0) ∧ w' = w) := (fun f => keys_z hc f)
  clear hc
  go_enter Tryz.func12, Tryz.ntmps12
  go_wp2_with fail
  refine Calls.mono (H.out _) ?_
  rintro e w1 ⟨rfl, hw⟩
  subst hw
  go_wp2
  go_ret
  exact ⟨rfl, rfl⟩
theorem over_z (hc : w.cell? ⟨g, 0, none⟩ = some (.pointer none)) (n : Int) : Calls Tryz.prog 13 #[.pointer (some ⟨g, 0, none⟩), .int .u64 n] w fun e w' => e = .returned (.slice none 0 0) ∧ Below w.heap.size w w' := by
  have H : Hid (∀ ob f, Calls Tryz.prog 28 #[.pointer (some ⟨g, 0, none⟩), f] (w.alloc ob) fun e w' => e = .returned (.slice none 0 0) ∧ w' = w.alloc ob) := (fun ob f => keys_z (below_cl (al (Below.refl _ _) ob) hc) f)
  clear hc
  go_enter Tryz.func13, Tryz.ntmps13
  go_wp2_with fail
  refine Calls.mono (H.out _ _) ?_
  rintro e w1 ⟨rfl, hw⟩
  subst hw
  go_wp2
  go_ret
  exact ⟨rfl, al (Below.refl _ _) _⟩
theorem clock_z (w : World) : Calls Tryz.prog 21 #[.int .u64 0] w fun e w' => e = .returned (.int .u64 0) ∧ w' = w := by
  go_enter Tryz.func21, Tryz.ntmps21
  go_wp2
  go_ret
  exact ⟨rfl, rfl⟩
theorem refuses_z (hc : w.cell? ⟨g, 0, none⟩ = some (.pointer none)) (n : Int) : Calls Tryz.prog 20 #[.pointer (some ⟨g, 0, none⟩), .agg #[.int .i64 0, .int .u64 1, .int .u64 0, .int .u64 1, .slice none 0 0], .int .u64 n] w fun e w' => e = .returned (.int .i64 1) ∧ Below w.heap.size w w' := by
  have H : Hid (∀ ob, Calls Tryz.prog 25 #[.pointer (some ⟨g, 0, none⟩), .int .i64 0] (w.alloc ob) fun e w' => e = .returned (.pointer none) ∧ w' = w.alloc ob) := (fun ob => stream_z (below_cl (al (Below.refl _ _) ob) hc) 0)
  clear hc
  go_enter Tryz.func20, Tryz.ntmps20
  go_wp2_with fail
  refine Calls.mono (H.out _) ?_
  rintro e w1 ⟨rfl, hw⟩
  subst hw
  go_wp2
  go_ret
  exact ⟨rfl, al (Below.refl _ _) _⟩
end
end Go.Proofs.YthpebfibpopinaaGreatDoor
