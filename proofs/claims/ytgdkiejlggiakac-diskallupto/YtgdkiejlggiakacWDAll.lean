import Derived.Test.YtgdkiejlggiakacOpenDO
namespace Go.Proofs.Ytgdkiejlggiakac
set_option linter.unusedVariables false
set_option linter.unusedSimpArgs false
open Go.RowKit Go.Maps
set_option maxRecDepth 20000 in
set_option maxHeartbeats 400000 in
theorem diskAll_walk (a0 : Option Addr) (c0 : Nat) (xs0 : List UInt8) (n0 : Int) (a1 : Option Addr) (c1 : Nat) (xs1 : List Dop) (W : World) (hr0 : Rd W a0 xs0) (hl0 : xs0.length ≤ c0) (hn0 : a0 = none → c0 = 0) (hc0 : c0 ≤ 1048575) (hr1 : RdOps W a1 xs1) (hl1 : xs1.length ≤ c1) (hn1 : a1 = none → c1 = 0) (hc1 : c1 ≤ 1048575) :
    Calls Try.prog 7 #[.agg #[.slice a0 xs0.length c0, .int .i64 n0], .slice a1 xs1.length c1] W fun e w' => e = .returned (.bool true) ∧ Below W.heap.size W w' := by
  obtain ⟨n, hn⟩ : ∃ n : Nat, n = xs0.length := ⟨_, rfl⟩
  obtain ⟨N, hN⟩ : ∃ n : Nat, n = xs1.length := ⟨_, rfl⟩
  rw [← hn, ← hN]
  obtain ⟨X, hX⟩ : ∃ X : World, X = W.alloc (.cells #[.slice a0 n c0, .int .i64 n0] 48) := ⟨_, rfl⟩
  have hXb : Below W.heap.size W X := by rw [hX]; exact al (Below.refl _ _) _
  have HXB : Hid _ := hXb
  have HP : Hid _ := played_t a0 n c0 xs0 n0 a1 N c1 xs1 255 X hn (Rd.below hr0 hXb) (by omega) hn0 (by omega) hN (fun k hk => by
    obtain ⟨b, o, ra, rc, ca, cc, h1, h2, h3⟩ := hr1 k hk
    exact ⟨b, o, ra, rc, ca, cc, h1, rangeAt_below h2 hXb, h3.below hXb⟩) (by omega)
  clear hr0 hl0 hn0 hc0 hr1 hl1 hn1 hc1 hXb hn hN
  go_enter Try.func7, Try.ntmps7
  go_wp2_with fail
  rw [← hX]
  clear hX
  refine Calls.mono HP.out ?_
  rintro e w1 ⟨rfl, hb1⟩
  have HB1 : Hid _ := below_next HXB.out hb1
  clear hb1
  go_wp2
  go_ret
  exact ⟨rfl, HB1.out⟩
end Go.Proofs.Ytgdkiejlggiakac
