import Derived.Test.YtdpkommmkcmifaaBackN
import Derived.Test.YtdpkommmkcmifaaWrapP
namespace Go.Proofs.Ytdpkommmkcmifaa
set_option linter.unusedVariables false
set_option linter.unusedSimpArgs false
open Go.RowKit
theorem dgs80 : dgs [8, 0] = [8, 0] := by have := dgs_80; simpa using this
theorem dgs00 : dgs [0] = [0] := by have := dgs_0; simpa using this
theorem wr_blks : GoodBlks [⟨10, 2, 0, [8, 0]⟩, ⟨7, 3, 0, [0]⟩] := by
  refine ⟨by decide, fun i hi => ?_⟩
  have h10 : dataS 10 [8, 0] = true := by
    have h := hop_new 8 0 (by decide) (by decide) (by decide)
    rw [dgs80] at h
    unfold dataS holdsS
    simp [h]
  have h7 : dataS 7 [0] = true := by
    have h := age_new 0 (by decide)
    rw [dgs00] at h
    unfold dataS holdsS
    simp [h]
  have hi2 : i = 0 ∨ i = 1 := by simp at hi; omega
  rcases hi2 with rfl | rfl
  · unfold blkS
    simp [h10, typeS, numbS, knownB, placeS]
  · unfold blkS
    simp [h7, typeS, numbS, knownB, placeS]
/-- a wrapped frame is a good bundle -/
theorem wrB_good {st : Int} {tm sq lf : Nat} {d : List UInt8} {fr tt : Nat} {nw : Bool} (hf : fitF st tm sq lf) (h1 : fr ≤ 281474976710655) (h2 : tt ≤ 281474976710655) (hd : d.length ≤ 512) : GoodB (wrB st tm sq lf d fr tt nw) := by
  obtain ⟨g1, g2, g3, g4, g5⟩ := hf
  refine ⟨?_, ?_, ?_, wr_blks, hd⟩
  · unfold wrB
    simp only
    split <;> decide
  · unfold wrB numsS
    simp
    omega
  · unfold wrB numsS
    simp
    omega
theorem wrB_ok {st : Int} {tm sq lf : Nat} {d : List UInt8} {fr tt : Nat} {nw : Bool} (hf : fitF st tm sq lf) (h1 : fr ≤ 281474976710655) (h2 : tt ≤ 281474976710655) (hd : d.length ≤ 512) : (wrB st tm sq lf d fr tt nw).ok := by
  obtain ⟨g1, g2, g3, g4, g5⟩ := hf
  refine ⟨?_, ?_, ?_, ?_, ?_, ?_, ?_, ?_, ?_, ?_, ?_, ?_, ?_⟩ <;> unfold wrB <;> simp only
  · split <;> omega
  · omega
  · omega
  · omega
  · omega
  · omega
  · omega
  · omega
  · omega
  · omega
  · intro x hx
    simp at hx
    rcases hx with rfl | rfl <;> exact ⟨by decide, by decide, by decide, by decide⟩
  · decide
  · omega
theorem wrB_len {st : Int} {tm sq lf : Nat} {d : List UInt8} {fr tt : Nat} {nw : Bool} (hf : fitF st tm sq lf) (h1 : fr ≤ 281474976710655) (h2 : tt ≤ 281474976710655) (hd : d.length ≤ 512) : (encB (wrB st tm sq lf d fr tt nw)).length ≤ 1024 := by
  have hok := wrB_ok (nw := nw) hf h1 h2 hd
  have hh := dgs_len _ (hdr_lt hok)
  have hb := encBlks_len (wrB st tm sq lf d fr tt nw).bl (fun x hx => ⟨hok.bl x hx, by unfold wrB at hx; simp at hx; rcases hx with rfl | rfl <;> simp⟩)
  have hp := (dg_len (wrB st tm sq lf d fr tt nw).py.length (by have := hok.py; omega)).2
  have hl : (wrB st tm sq lf d fr tt nw).bl.length = 2 := rfl
  have hy : (wrB st tm sq lf d fr tt nw).py.length = d.length := rfl
  unfold encB
  simp only [List.length_append]
  simp only [List.length_cons, List.length_nil] at hh ⊢
  omega
end Go.Proofs.Ytdpkommmkcmifaa
