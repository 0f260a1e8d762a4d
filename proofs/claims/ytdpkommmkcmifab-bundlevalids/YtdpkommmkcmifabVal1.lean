import Derived.Test.YtdpkommmkcmifabLay
import Derived.Test.YtdpkommmkcmifabRegn
namespace Go.Proofs.Ytdpkommmkcmifab
set_option linter.unusedVariables false
set_option linter.unusedSimpArgs false
open Go.RowKit
/-- a Bool is answered that says whether p -/
def RetB (e : Ending) (p : Prop) : Prop := ∃ r : Bool, e = .returned (.bool r) ∧ (r = true ↔ p)
theorem retB_t {e : Ending} {p : Prop} (h : e = .returned (.bool true)) (hp : p) : RetB e p := ⟨true, h, ⟨fun _ => hp, fun _ => rfl⟩⟩
theorem retB_f {e : Ending} {p : Prop} (h : e = .returned (.bool false)) (hp : ¬ p) : RetB e p := ⟨false, h, ⟨fun h => (by cases h), fun h => absurd h hp⟩⟩
set_option maxRecDepth 20000 in
set_option maxHeartbeats 3200000 in
theorem good_any (b : Bun) (ba : Option Addr) (bc : Nat) (pa : Option Addr) (pc : Nat) (w : World) (h : BunR w b ba bc pa pc) :
    Calls Try.prog 43 #[bunV b ba bc pa pc] w fun e w' => RetB e (GoodB b) ∧ Below w.heap.size w w' := by
  have hbn := h.ok.bn
  have hpn := h.ok.py
  unfold bunV
  obtain ⟨W0, hW0⟩ : ∃ W0 : World, W0 = w.alloc (.cells #[.int .u64 b.fl, .int .u64 b.e0, .int .u64 b.e1, .int .u64 b.e2, .int .u64 b.e3, .int .u64 b.e4, .int .u64 b.e5, .int .u64 b.tm, .int .u64 b.sq, .int .u64 b.lf, .slice ba b.bl.length bc, .slice pa b.py.length pc] 36) := ⟨_, rfl⟩
  have hI : W0.heap[w.heap.size]? = some (.cells #[.int .u64 b.fl, .int .u64 b.e0, .int .u64 b.e1, .int .u64 b.e2, .int .u64 b.e3, .int .u64 b.e4, .int .u64 b.e5, .int .u64 b.tm, .int .u64 b.sq, .int .u64 b.lf, .slice ba b.bl.length bc, .slice pa b.py.length pc] 36 (0, 0)) := by rw [hW0]; exact heap_alloc_new w _
  have hb0 : Below w.heap.size w W0 := by rw [hW0]; exact al (Below.refl _ _) _
  have HS0 : Hid (w.heap.size + 1 = W0.heap.size) := by unfold Hid; rw [hW0]; simp
  by_cases h8 : b.fl < 8
  · go_enter Try.func43, Try.ntmps43
    go_wp2_with fail
    rw [← hW0]
    clear hW0
    obtain ⟨W1, hW1⟩ : ∃ W1 : World, W1 = W0.alloc (.cells #[.int .u64 b.e0, .int .u64 b.e1, .int .u64 b.e2, .int .u64 b.e3, .int .u64 b.e4, .int .u64 b.e5] 22) := ⟨_, rfl⟩
    have hb1 : Below W0.heap.size W0 W1 := by rw [hW1]; exact al (Below.refl _ _) _
    have hU1 : RdU W1 (some ⟨w.heap.size + 1, 0, none⟩) [b.e0, b.e1, b.e2, b.e3, b.e4, b.e5] := by rw [hW1]; exact rdu_new W0 _ HS0.out _ _ _ _ rfl
    rw [← hW1]
    clear hW1
    refine (numbers_any _ 6 6 [b.e0, b.e1, b.e2, b.e3, b.e4, b.e5] W1 rfl hU1 (by simp)).mono ?_
    rintro e w1 ⟨rfl, hw1⟩
    subst hw1
    rcases hE : numsS [b.e0, b.e1, b.e2, b.e3, b.e4, b.e5] with _ | _
    · have HG : Hid (¬ GoodB b) := fun hg => by have := hg.es; rw [hE] at this; cases this
      go_wp2
      go_ret
      exact ⟨retB_f rfl HG.out, below_next hb0 hb1⟩
    · have hI1 := box_on hI hb1
      obtain ⟨i0, i1, i2, i3, i4, i5, i6, i7, i8, i9, i10, i11, -⟩ := cells12 hI1
      go_wp2_with fail
      obtain ⟨W2, hW2⟩ : ∃ W2 : World, W2 = w1.alloc (.cells #[.int .u64 b.tm, .int .u64 b.sq, .int .u64 b.lf] 22) := ⟨_, rfl⟩
      have hb2 : Below w1.heap.size w1 W2 := by rw [hW2]; exact al (Below.refl _ _) _
      have hU2 : RdU W2 (some ⟨w1.heap.size, 0, none⟩) [b.tm, b.sq, b.lf] := by rw [hW2]; exact rdu_new w1 _ rfl _ _ _ _ rfl
      rw [← hW2]
      clear hW2
      refine (numbers_any _ 3 3 [b.tm, b.sq, b.lf] W2 rfl hU2 (by simp)).mono ?_
      rintro e w2 ⟨rfl, hw2⟩
      subst hw2
      rcases hT : numsS [b.tm, b.sq, b.lf] with _ | _
      · have HG : Hid (¬ GoodB b) := fun hg => by have := hg.ts; rw [hT] at this; cases this
        go_wp2
        go_ret
        exact ⟨retB_f rfl HG.out, below_next hb0 (below_next hb1 hb2)⟩
      · have hI2 := box_on hI1 hb2
        clear i0 i1 i2 i3 i4 i5 i6 i7 i8 i9 i10 i11
        obtain ⟨i0, i1, i2, i3, i4, i5, i6, i7, i8, i9, i10, i11, -⟩ := cells12 hI2
        have hbb := below_next hb0 (below_next hb1 hb2)
        go_wp2_with fail
        refine (goodBlocks_any ba bc b.bl w2 (h.rb.below hbb) h.lb h.nb h.ok.bl (by omega)).mono ?_
        rintro e w3 ⟨⟨r, rfl, hr⟩, hb3⟩
        have hI3 := box_on hI2 hb3
        clear i0 i1 i2 i3 i4 i5 i6 i7 i8 i9 i10 i11
        obtain ⟨i0, i1, i2, i3, i4, i5, i6, i7, i8, i9, i10, i11, -⟩ := cells12 hI3
        have hbw := below_next hbb hb3
        have HR : Hid (r = true ↔ GoodBlks b.bl) := hr
        clear hr hI hI1 hI2 hI3
        rcases r with _ | _
        · have HG : Hid (¬ GoodB b) := fun hg => by have := HR.out.2 hg.bl; cases this
          go_wp2
          go_ret
          exact ⟨retB_f rfl HG.out, hbw⟩
        · by_cases hp : b.py.length ≤ 512
          · have HG : Hid (GoodB b) := ⟨h8, hE, hT, HR.out.1 rfl, hp⟩
            go_wp2
            go_ret
            exact ⟨retB_t (by simp; omega) HG.out, hbw⟩
          · have HG : Hid (¬ GoodB b) := fun hg => hp hg.py
            go_wp2
            go_ret
            exact ⟨retB_f (by simp; omega) HG.out, hbw⟩
  · have HG : Hid (¬ GoodB b) := fun hg => h8 hg.fl
    go_enter Try.func43, Try.ntmps43
    go_wp2
    rw [← hW0]
    go_ret
    exact ⟨retB_f rfl HG.out, hb0⟩
end Go.Proofs.Ytdpkommmkcmifab
