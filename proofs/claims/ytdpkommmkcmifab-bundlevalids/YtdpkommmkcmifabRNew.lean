import Derived.Test.YtdpkommmkcmifabRdr5
import Derived.Test.YtdpkommmkcmifabRRdr
namespace Go.Proofs.Ytdpkommmkcmifab
set_option linter.unusedVariables false
set_option linter.unusedSimpArgs false
open Go.RowKit
set_option maxRecDepth 20000 in
set_option maxHeartbeats 800000 in
theorem new_r (ao : Option Addr) (n cap : Nat) (xs : List UInt8) (hn : n = xs.length) (w : World) (hx : Rd w ao xs) (hnil : ao = none → cap = 0) (hl : n ≤ 140737488355328) :
    Calls Try.prog 37 #[.slice ao n cap] w fun e w' => ∃ p ao' cap', e = .returned (.pointer (some ⟨p, 0, none⟩)) ∧ RdrAt w' p ao' cap' xs 0 0 ∧ Below w.heap.size w w' ∧ w.heap.size ≤ p ∧ (∀ a, ao' = some a → w.heap.size ≤ a.block ∧ a.block < p) := by
  subst hn
  have HN : Hid (ao = none → cap = 0) := hnil
  clear hnil
  go_enter Try.func37, Try.ntmps37
  go_wp2_with fail
  refine (clone_any ao cap xs w hx HN.out hl).mono ?_
  rintro e w1 ⟨v1, rfl, hown1, hb1⟩
  obtain ⟨a1, c1, rfl, hlc, -, hnil1, hr1, hblk1⟩ := hown1.val
  have HSP : Hid (a1 = none ∨ ∃ b o, a1 = some ⟨b, o, none⟩) := by
    rcases hown1.2 with ⟨h0, -⟩ | ⟨g, c, cur, h0, -⟩
    · simp only [Value.slice.injEq] at h0; exact .inl h0.1
    · simp only [Value.slice.injEq] at h0; exact .inr ⟨_, _, h0.1⟩
  have HN1 : Hid (a1 = none → c1 = 0) := hnil1
  have HBK : Hid (∀ a, a1 = some a → w.heap.size ≤ a.block ∧ a.block < w1.heap.size) := hblk1
  clear hnil1 hblk1
  go_wp2
  go_ret
  refine ⟨_, a1, c1, rfl, ⟨by simp, by simp, by simp, by simp, by simp, by simp, hr1.alloc _, fun a ha => ?_, Nat.zero_le _, hl, hlc, HN1.out, HSP.out⟩, hb1.alloc hb1.size _, hb1.size, HBK.out⟩
  have := HBK.out a ha
  omega
set_option maxRecDepth 20000 in
set_option maxHeartbeats 800000 in
theorem new_d (ao : Option Addr) (cap : Nat) (xs : List UInt8) (w : World) (hx : Rd w ao xs) (hnil : ao = none → cap = 0) (hl : xs.length ≤ 140737488355328) :
    Calls Try.prog 70 #[.slice ao xs.length cap] w fun e w' => ∃ q D ao' cap', e = .returned (.pointer (some ⟨q, 0, none⟩)) ∧ RefAt w' q D ao' cap' xs 0 ∧ Below w.heap.size w w' ∧ w.heap.size ≤ q ∧ (∀ d, D = some d → w.heap.size ≤ d ∧ d < w'.heap.size) := by
  have HN : Hid (ao = none → cap = 0) := hnil
  clear hnil
  have h0 : Own w w.heap.size (.slice none 0 0) [] := World.ownsRow_nil _ _ _ _
  go_enter Try.func70, Try.ntmps70
  go_wp2_with (at_builtin; refine wp_app rfl _ _ rfl w.heap.size (.slice none 0 0) [] xs _ _ rfl h0 rfl hx HN.out (by simp; omega) (Nat.le_refl _) ?_; intro v1 w1 hown1 hg1; rw [List.nil_append] at hown1; have hb1 : Below w.heap.size w w1 := (Below.refl _ w).grown hg1 (Nat.le_refl _) (fun k hk => by cases hk); obtain ⟨a1, c1, hv1, hlc, -, hnil1, hr1, hblk1⟩ := hown1.val; subst hv1; have HSP : Hid (a1 = none ∨ ∃ b o, a1 = some ⟨b, o, none⟩) := (by
    rcases hown1.2 with ⟨h0, -⟩ | ⟨g, c, cur, h0, -⟩
    · simp only [Value.slice.injEq] at h0; exact .inl h0.1
    · simp only [Value.slice.injEq] at h0; exact .inr ⟨_, _, h0.1⟩); have HN1 : Hid (a1 = none → c1 = 0) := hnil1; have HBK : Hid (∀ a, a1 = some a → w.heap.size ≤ a.block ∧ a.block < w1.heap.size) := hblk1; clear hnil1 hblk1)
  go_ret
  have hs1 := hb1.size
  rcases HSP.out with hao | ⟨b, o, hao⟩
  · refine ⟨_, none, a1, c1, rfl, ⟨by simp, by simp, by simp, by simp, hr1.alloc _, fun a ha => ?_, by simp, hl, hlc, HN1.out, HSP.out⟩, hb1.alloc hb1.size _, hb1.size, fun _ h => by cases h⟩
    rw [hao] at ha; cases ha
  · have hb := HBK.out _ hao
    simp only at hb
    refine ⟨_, some b, a1, c1, rfl, ⟨by simp, by simp, by simp, by simp, hr1.alloc _, fun a ha => ?_, by simp; omega, hl, hlc, HN1.out, HSP.out⟩, hb1.alloc hb1.size _, hb1.size, fun d hd => by cases hd; exact ⟨hb.1, by simp; omega⟩⟩
    rw [hao] at ha; cases ha; rfl
end Go.Proofs.Ytdpkommmkcmifab
