import Derived.Test.YthpebfibpopinaaGreatDoorBNo
import Derived.Lib.Strings
import Derived.Laws.BytesArg
namespace Go.Proofs.YthpebfibpopinaaGreatDoor
set_option linter.unusedVariables false
set_option linter.unusedSimpArgs false
open Go.RowKit
section
set_option maxRecDepth 20000
set_option maxHeartbeats 3200000
variable {w : World} {g : Nat}
theorem open_z {t : Value} (h : ZT w t) : Calls Tryz.prog 4 #[t] w fun e w' => e = .returned (.tuple #[.pointer none, .int .i64 1]) ∧ Below w.heap.size w w' := by
  have H : Hid (∀ o1 o2, Calls Tryz.prog 16 #[t, .slice none 0 0] ((w.alloc o1).alloc o2) fun e w' => e = .returned (.int .i64 1) ∧ w' = (w.alloc o1).alloc o2) := (fun o1 o2 => commit_z (h.below (al (al (Below.refl _ _) o1) o2)))
  clear h
  go_enter Tryz.func4, Tryz.ntmps4
  go_wp2_with fail
  refine Calls.mono (H.out _ _) ?_
  rintro e w1 ⟨rfl, hw⟩
  subst hw
  go_wp2
  refine bodyPost_ret (v := .tuple #[.pointer none, .int .i64 1]) (by simp [results, Tryz.results4, go_sem]) rfl ?_
  exact ⟨rfl, al (al (Below.refl _ _) _) _⟩
theorem newest_z (hc : w.cell? ⟨g, 0, none⟩ = some (.pointer none)) : Calls Tryz.prog 7 #[.pointer (some ⟨g, 0, none⟩), .int .i64 0] w fun e w' => e = .returned (.tuple #[.agg #[.int .u64 0, .int .u64 0], .bool false]) ∧ Below w.heap.size w w' := by
  have H : Hid (∀ o1, Calls Tryz.prog 25 #[.pointer (some ⟨g, 0, none⟩), .int .i64 0] (w.alloc o1) fun e w' => e = .returned (.pointer none) ∧ w' = w.alloc o1) := (fun o1 => stream_z (below_cl (al (Below.refl _ _) o1) hc) 0)
  clear hc
  go_enter Tryz.func7, Tryz.ntmps7
  go_wp2_with fail
  refine Calls.mono (H.out _) ?_
  rintro e w1 ⟨rfl, hw⟩
  subst hw
  go_wp2
  refine bodyPost_ret (v := .tuple #[.agg #[.int .u64 0, .int .u64 0], .bool false]) (by simp [results, Tryz.results7, go_sem]) rfl ?_
  exact ⟨rfl, al (Below.refl _ _) _⟩
theorem get_z (hc : w.cell? ⟨g, 0, none⟩ = some (.pointer none)) : Calls Tryz.prog 6 #[.pointer (some ⟨g, 0, none⟩), .agg #[.int .i64 0, .int .u64 0]] w fun e w' => e = .returned (.tuple #[zf, .bool false]) ∧ Below w.heap.size w w' := by
  have H : Hid (∀ o1 o2, Calls Tryz.prog 23 #[.pointer (some ⟨g, 0, none⟩)] ((w.alloc o1).alloc o2) fun e w' => e = .returned (.bool false) ∧ w' = (w.alloc o1).alloc o2) := (fun o1 o2 => made_z (below_cl (al (al (Below.refl _ _) o1) o2) hc))
  clear hc
  go_enter Tryz.func6, Tryz.ntmps6
  go_wp2_with fail
  refine Calls.mono (H.out _ _) ?_
  rintro e w1 ⟨rfl, hw⟩
  subst hw
  go_wp2
  refine bodyPost_ret (v := .tuple #[zf, .bool false]) (by simp [results, Tryz.results6, go_sem]) rfl ?_
  exact ⟨rfl, al (al (Below.refl _ _) _) _⟩
theorem conv_nil (w : World) : (convert 44 9 (.slice none 0 0)).run Tryz.prog w = .ok (.string ⟨#[]⟩) w := by
  rw [run_convert_bytes_string w 44 9 5 _ 0 0 Tryz.underlying44 Tryz.underlying5 Tryz.underlying9]
  simp [Conv.bytesToString, loadCells]
  all_goals rfl
theorem frames_z (w : World) : Calls Tryz.prog 11 #[zf, zf] w fun e w' => e = .returned (.bool true) ∧ Below w.heap.size w w' := by
  have hcv : ∀ u : World, (convert 44 9 (.slice none 0 0)).run Tryz.prog u = .ok (.string ⟨#[]⟩) u := conv_nil
  go_enter Tryz.func11, Tryz.ntmps11
  go_wp2
  go_ret
  exact ⟨rfl, al (al (Below.refl _ _) _) _⟩
end
end Go.Proofs.YthpebfibpopinaaGreatDoor
