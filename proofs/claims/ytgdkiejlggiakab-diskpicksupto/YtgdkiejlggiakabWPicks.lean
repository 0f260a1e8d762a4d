import Derived.Test.YtgdkiejlggiakabDStepB
namespace Go.Proofs.Ytgdkiejlggiakab
set_option linter.unusedVariables false
set_option linter.unusedSimpArgs false
open Go.RowKit Go.Maps
set_option maxRecDepth 20000 in
set_option maxHeartbeats 800000 in
theorem diskPicks_walk (n0 : Int) (a1 : Option Addr) (cap1 : Nat) (xs1 : List Stp) (W : World) (hn0 : -9223372036854775808 ≤ n0 ∧ n0 ≤ 9223372036854775807)
    (hr1 : RdSt W a1 xs1) (hl1 : xs1.length ≤ cap1) (ha1 : a1 = none → cap1 = 0) (hc1 : cap1 ≤ 1048575) :
    Calls Try.prog 6 #[.int .i64 n0, .slice a1 xs1.length cap1] W fun e w' => e = .returned (.bool true) ∧ Below W.heap.size W w' := by
  have HBG : Hid _ := begin_b n0 W hn0
  have HR1 : Hid _ := hr1
  obtain ⟨L1, hL1⟩ : ∃ L : Nat, L = xs1.length := ⟨_, rfl⟩
  rw [← hL1]
  have HL1 : Hid _ := hL1
  have HB1 : Hid (L1 ≤ 1048575) := by unfold Hid; omega
  clear hn0 hr1 ha1 hL1 hl1 hc1
  go_enter Try.func6, Try.ntmps6
  go_wp2_with fail
  refine Calls.mono HBG.out ?_
  rintro e w1 ⟨kb, rfl, hbk⟩
  obtain ⟨N, hN⟩ : ∃ N : Nat, N = spanS n0 1 65536 := ⟨_, rfl⟩
  rw [← hN] at hbk
  have HBK : Hid _ := hbk
  have HPR : Hid _ := bpresent_t HBK.out (by decide)
  clear hbk hN HBG
  go_wp2_with fail
  refine Calls.mono HPR.out ?_
  rintro e w2 ⟨rfl, hb2⟩
  have HBK2 : Hid _ := Bk.below HBK.out hb2
  clear hb2 HPR HBK
  go_wp2_with fail
  go_loopw [7] (fun i wr => ∃ (k : Nat) (d : Dst) (M : Nat → List Int) (nx c : Nat), k ≤ L1 ∧ i = .int .i64 (k : Int) ∧ Bk W wr kb N d M nx c ∧ nx ≤ k + 1 ∧ c ≤ k) (fun i _ => L1 - (intOf i).toNat)
  case atStart => exact ⟨0, _, _, 1, 0, Nat.zero_le _, rfl, HBK2.out, Nat.le_refl _, Nat.le_refl _⟩
  case round =>
    obtain ⟨k, d, M, nx, c, hk, rfl, hbk, hnx, hc⟩ := hrel
    have HBK : Hid _ := hbk
    clear hbk HBK2
    have hkw : IntKind.i64.wrap ((k : Int) + 1) = ((k + 1 : Nat) : Int) := by rw [IntKind.wrap_i64]; have := HB1.out; omega
    by_cases hlt : k < L1
    · have hlti : (k : Int) < (L1 : Int) := by omega
      have hk0 : (0 : Int) ≤ (k : Int) := by omega
      have hkx : k < xs1.length := by rw [← HL1.out]; exact hlt
      obtain ⟨b, o, ca, cc, rfl, hrg, hin, hat⟩ := HR1.out k hkx
      obtain ⟨s, hs⟩ : ∃ s : Stp, s = xs1[k] := ⟨_, rfl⟩
      rw [← hs] at hrg hin hat
      have HRG : Hid (∀ u, Below W.heap.size W u → u.rangeAt b (o + k * 3) [.int .i64 s.op, .int .i64 s.at_, .slice ca s.cs.length cc]) := fun u hu => rangeAt_below hrg hu
      have HST : Hid _ := bstep_t HBK.out s ca cc hin hat (by have := HB1.out; omega) (by have := HB1.out; omega)
      have HRW : Hid _ := HRG.out _ (Bk.bel HBK.out)
      clear hs hrg hin hat
      go_wp2_with (first
        | (refine wpList_load_mid rfl 48 _ rfl b (o + k * 3) (by rfl) [.int .i64 s.op, .int .i64 s.at_, .slice ca s.cs.length cc] _ HRW.out Try.underlying48 rfl (by rw [(zero_of_info info_step).2]; rfl) ?_))
      refine Calls.mono HST.out ?_
      rintro e w3 ⟨rfl, d3, M3, nx3, hbk3, hnx3⟩
      have HBK3 : Hid _ := hbk3
      have hc0 : w3.cell? ⟨b, o + k * 3, none⟩ = some (.int .i64 s.op) := HRG.out w3 hbk3.bel 0 _ rfl
      have HPR : Hid _ := bpresent_t HBK3.out (by have := HB1.out; omega)
      clear hbk3 HST HRW
      by_cases q3 : s.op = 3
      · rw [q3] at hc0
        go_wp2_with fail
        refine Calls.mono HPR.out ?_
        rintro e w4 ⟨rfl, hb4⟩
        go_wp2
        go_roundw
        case rel => exact ⟨k + 1, d3, M3, nx3, c + 1, by omega, rfl, Bk.below HBK3.out hb4, by omega, by omega⟩
        case measure => simp [intOf]; omega
      · have q3b : (s.op == 3) = false := by simpa using q3
        go_wp2
        go_roundw
        case rel => exact ⟨k + 1, d3, M3, nx3, c + 1, by omega, rfl, HBK3.out, by omega, by omega⟩
        case measure => simp [intOf]; omega
    · have hlti : ¬ (k : Int) < (L1 : Int) := by omega
      have HPR : Hid _ := bpresent_t HBK.out (by have := HB1.out; omega)
      go_wp2_with fail
      refine Calls.mono HPR.out ?_
      rintro e w4 ⟨rfl, hb4⟩
      go_wp2
      go_ret
      exact ⟨rfl, Bk.bel (Bk.below HBK.out hb4)⟩
end Go.Proofs.Ytgdkiejlggiakab
