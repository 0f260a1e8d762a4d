import Derived.Test.YtnhjkipaclchiabQX
import Derived.Test.YtnhjkipaclchiabQA
namespace Go.Proofs.Ytnhjkipaclchiab
set_option linter.unusedVariables false
set_option linter.unusedSimpArgs false
open Go.RowKit Go.Shelf
attribute [local go_sem] Oper.semAt_some
theorem yield_any {m m' : Nat} {P : Program} {l : Nat} {args : Array Value} {W : World} {R : Ending → World → Prop} (h : YieldAt Fence.wide m P l args W R) : YieldAt Fence.wide m' P l args W R := by
  obtain ⟨fn, tmps, assign, body, h1, h2⟩ := h
  exact ⟨fn, tmps, assign, body, h1, ⟨h2.1, fun c cs _ => h2.2 c cs (room_wide _)⟩⟩
section
set_option maxRecDepth 20000
set_option maxHeartbeats 3200000
/-- slices.Clone of a row of pages -/
theorem cloneP_t (b o n cap : Nat) (P : List (List Ent)) (w : World) (hn : n = P.length) (h0 : 0 < n) (hx : RdP w (some ⟨b, o, none⟩) P) (hl : n ≤ 4398046511104) (hne : ∀ p ∈ P, 0 < p.length) :
    Calls Try.prog 44 #[.slice (some ⟨b, o, none⟩) n cap] w fun e w' => ∃ g c, e = .returned (.slice (some ⟨g, 0, none⟩) n c) ∧ RdP w' (some ⟨g, 0, none⟩) P ∧ w.heap.size ≤ g ∧ Below w.heap.size w w' := by
  have q22 : ∀ (w : World) (a : Option Addr) (n c n' c' : Nat), (binOp .eql tPs (.slice a n c) (.slice none n' c')).run Try.prog w = .ok (.bool a.isNone) w := fun w a n c n' c' => Lib.run_eql_slice_nil w _ _ a n c n' c' Try.underlying24
  obtain ⟨i0, hi, hz0, hz1, hz2⟩ := info_parts (show (Try.prog.info? tPg).map (fun i => (i.zero, i.size, i.bytes)) = some (some (.slice none 0 0), 1, 24) by kernel_rfl)
  obtain ⟨A, C, hA⟩ := hx.fix
  obtain ⟨us, hul, hus⟩ : ∃ us : List Value, us.length = n ∧ ∀ j (hj : j < P.length), us[j]? = some (.slice (A j) P[j].length (C j)) := by
    refine ⟨(List.range n).map (fun j => .slice (A j) (P.getD j []).length (C j)), by simp, fun j hj => ?_⟩
    simp [show j < n by omega, List.getD, hj]
  obtain ⟨X, hX⟩ : ∃ X : World, X = w.alloc (.cells #[] tPg) := ⟨_, rfl⟩
  have hbX : Below w.heap.size w X := by rw [hX]; exact al (Below.refl _ _) _
  have HOX : Hid (X.ownsRow w.heap.size tPg 1 (.slice (some ⟨w.heap.size, 0, none⟩) 0 0) 0 []) := (show X.ownsRow w.heap.size tPg 1 (.slice (some ⟨w.heap.size, 0, none⟩) 0 0) 0 [] by rw [hX]; exact World.ownsRow_made w #[] 0 (Nat.le_refl _) (Nat.zero_le _) rfl)
  have HCX : Hid (∀ j u, us[j]? = some u → X.cell? (Addr.add ⟨b, o, none⟩ j) = some u) := fun j u hj => by
    have hjn : j < n := by have := (List.getElem?_eq_some_iff.1 hj).1; omega
    obtain ⟨b', o', e, h1, -⟩ := (hA.below hbX) j (by omega)
    cases e
    rw [Go.WideShapes.add_plain, h1, ← hus j (by omega), hj]
  have HU1 : Hid (∀ u ∈ us, u.oneCell' = true) := fun u hu => by
    obtain ⟨j, hj, e⟩ := List.getElem_of_mem hu
    have h9 := hus j (by omega)
    rw [List.getElem?_eq_getElem hj, e] at h9
    cases h9; rfl
  have HBX : Hid _ := hbX
  have HAX : Hid (RdPA X (some ⟨b, o, none⟩) P A C) := hA.below hbX
  have HUS : Hid _ := hus
  have HUL : Hid (us.length = n) := hul
  have HN : Hid (n = P.length) := hn
  clear hbX hA hus hul hn hx
  go_enter Try.func44, Try.ntmps44
  go_wp2_with (at_builtin; rw [← hX]; refine wpList_append_lies _ rfl _ _ tPs rfl w.heap.size tPg i0 _ 1 24 Try.underlying24 hi hz0 hz1 hz2 rfl (by decide) _ 0 [] rfl HOX.out ⟨b, o, none⟩ n cap us rfl (by rw [HUL.out, Nat.mul_one]) HCX.out HU1.out h0 (by simp only [maxLen]; omega) (by omega) (by rw [hX]; simp) X.heap.size rfl ?_; intro g1 cap1 w1 hown1 hg1 hl1 _; have HO1 : Hid _ := hown1; have HG1 : Hid _ := hg1; have HL1 : Hid _ := hl1; clear hown1 hg1 hl1)
  go_ret
  have hO := HO1.out
  rw [Nat.zero_add, List.nil_append] at hO
  have hC : Chg (fun b => b = w.heap.size) X w1 := Chg.of_grown HG1.out (fun b e => by cases e; rfl)
  have hNN : ∀ b, b = w.heap.size → NoNum X b := fun b e => by subst e; exact ⟨_, tPg, _, by rw [hX]; exact heap_alloc_new w _, by decide⟩
  refine ⟨g1, cap1, rfl, fun j hj => ?_, HL1.out.elim (fun e => by cases e; exact Nat.le_refl _) (fun e => by rw [e]; exact HBX.out.size), HBX.out.grown HG1.out HBX.out.size (fun k e => by cases e; exact Nat.le_refl _)⟩
  obtain ⟨b', o', e, h1, h2, h3⟩ := HAX.out j hj
  refine ⟨g1, 0, rfl, A j, C j, ?_, h2, fun e9 => ?_, h3.kept hC hNN⟩
  · rw [Nat.zero_add, World.ownsRow.cellAt hO j (by have := HN.out; omega), HUS.out j hj]
  · obtain ⟨b9, o9, e8, -⟩ := h3 0 (hne _ (List.getElem_mem hj))
    rw [e9] at e8; cases e8
end
end Go.Proofs.Ytnhjkipaclchiab
