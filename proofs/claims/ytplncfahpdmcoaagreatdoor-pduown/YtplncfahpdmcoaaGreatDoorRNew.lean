import Derived.Test.YtplncfahpdmcoaaGreatDoorRdr5
namespace Go.Proofs.YtplncfahpdmcoaaGreatDoor
set_option linter.unusedVariables false
set_option linter.unusedSimpArgs false
open Go.RowKit
set_option maxRecDepth 20000 in
set_option maxHeartbeats 800000 in
theorem new_r (ao : Option Addr) (n cap : Nat) (xs : List UInt8) (hn : n = xs.length) (w : World) (hx : Rd w ao xs) (hnil : ao = none → cap = 0) (hl : n ≤ 140737488355328) :
    Calls Tryz.prog 28 #[.slice ao n cap] w fun e w' => ∃ p ao' cap', e = .returned (.pointer (some ⟨p, 0, none⟩)) ∧ RdrAt w' p ao' cap' xs 0 0 ∧ Below w.heap.size w w' ∧ w.heap.size ≤ p ∧ (∀ a, ao' = some a → w.heap.size ≤ a.block ∧ a.block < p) := by
  subst hn
  have HN : Hid (ao = none → cap = 0) := hnil
  clear hnil
  go_enter Tryz.func28, Tryz.ntmps28
  go_wp2_with fail
  refine (clone_any ao cap xs w hx HN.out hl).mono ?_
  rintro e w1 ⟨v1, rfl, hown1, hb1⟩
  obtain ⟨a1, c1, rfl, hlc, -, hnil1, hr1, hblk1⟩ := hown1.val
  have HSP : Hid (a1 = none ∨ ∃ b o, a1 = some ⟨b, o, none⟩) := by
    rcases hown1.2 with ⟨h0, -⟩ | ⟨g, c, cur, h0, -⟩
    · simp only [Value.slice.injEq] at h0; exact .inl h0.1
    · simp only [Value.slice.injEq] at h0; exact .inr ⟨_, _, h0.1⟩
  have HN1 : Hid (a1 = none → c1 = 0) := hnil1
  have HBK : Hid (∀ a, a1 = some a → w.heap.size ≤ a.block ∧ a.block < w1.heap.size) := hblk1
  clear hnil1 hblk1
  go_wp2
  go_ret
  refine ⟨_, a1, c1, rfl, ⟨by simp, by simp, by simp, by simp, by simp, by simp, hr1.alloc _, fun a ha => ?_, Nat.zero_le _, hl, hlc, HN1.out, HSP.out⟩, hb1.alloc hb1.size _, hb1.size, HBK.out⟩
  have := HBK.out a ha
  omega
end Go.Proofs.YtplncfahpdmcoaaGreatDoor
