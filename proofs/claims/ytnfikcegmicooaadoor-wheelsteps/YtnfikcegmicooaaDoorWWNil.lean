import Derived.Test.YtnfikcegmicooaaDoorLwC
namespace Go.Proofs.YtnfikcegmicooaaDoor
set_option linter.unusedVariables false
set_option linter.unusedSimpArgs false
open Go.RowKit Go.Maps Go.Shelf
def isMapNil (x : Option Value) : Bool := match x with
  | some (.map none) => true
  | _ => false
theorem isMapNil_eq {x : Option Value} (h : isMapNil x = true) : x = some (.map none) := by
  unfold isMapNil at h
  split at h
  · rfl
  · cases h
set_option maxRecDepth 100000 in
theorem zero_map : isMapNil Tryd.zeroCells50[522]? = true := by kernel_rfl
theorem u64_of {n : Int} (h : (Lit.int .u64 n).wf = true) : ∃ m : Nat, n = m ∧ m < 18446744073709551616 := by
  have h2 : 0 ≤ n ∧ n ≤ 18446744073709551615 := by simpa [Lit.wf, IntKind.min, IntKind.max, IntKind.signed, IntKind.bits] using h
  exact ⟨n.toNat, by omega, by omega⟩
theorem inI_of {n : Int} (h : (Lit.int .i64 n).wf = true) : inI n := by
  unfold inI
  simpa [Lit.wf, IntKind.min, IntKind.max, IntKind.signed, IntKind.bits] using h
set_option maxRecDepth 20000 in
set_option maxHeartbeats 3200000 in
theorem wheelNil_walk (id x : Int) (w : World) (_ : (Lit.int .i64 id).wf = true) (hx : (Lit.int .u64 x).wf = true) (ht : TabZ w) : Calls Tryd.prog 5 #[.int .i64 id, .int .u64 x] w fun e w' => e = .returned (.bool true) ∧ Below w.heap.size w w' := by
  obtain ⟨x, rfl, -⟩ := u64_of hx
  have HT : Hid _ := ht
  clear ht hx
  go_enter Tryd.func5, Tryd.ntmps5
  go_wp2_with fail
  refine Calls.mono (knows_t w HT.out) ?_
  rintro e w1 ⟨rfl, hb1⟩
  have HZ : Hid (NoW (w1.alloc (Obj.cells Tryd.zeroCells50 tWh)) (.pointer (some ⟨w1.heap.size, 0, none⟩))) := by
    refine .inr ⟨_, rfl, ?_⟩
    rw [cell_of_row _ _ _ _ _ _ (heap_alloc_new w1 _)]
    exact isMapNil_eq zero_map
  go_wp2_with fail
  refine Calls.mono (nothing_t (.inl rfl) id x) ?_
  rintro e w' ⟨rfl, hq⟩
  have hq := hq.symm
  subst hq
  go_wp2_with fail
  refine Calls.mono (nothing_t HZ.out id x) ?_
  rintro e w' ⟨rfl, hq⟩
  have hq := hq.symm
  subst hq
  go_wp2
  go_ret
  exact ⟨rfl, al hb1 _⟩
end Go.Proofs.YtnfikcegmicooaaDoor
