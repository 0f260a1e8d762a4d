import Derived.Test.YtekfolppahnpoaaTolQ
namespace Go.Proofs.Ytekfolppahnpoaa
set_option linter.unusedVariables false
set_option linter.unusedSimpArgs false
open Go.RowKit Go.Maps
variable {W w w' : World} {P : Nat → Nat} {ds : Nat → Dst} {c K : Nat} {F : Key → Row}
theorem row_slv {N : Nat → Nat} (h : Ds W w P ds c K F) (x : Key) : ∃ a cap, (F x).v = .slice a (F x).xs.length cap ∧ (0 < (F x).xs.length → ∃ g, a = some ⟨g, 0, none⟩ ∧ ∀ t, t < (F x).xs.length → w.cell? ⟨g, t, none⟩ = (F x).xs[t]? ∧ w.frozen? ⟨g, t, none⟩ = false) := by
  have h0 := h.fam.own x
  obtain ⟨a, cap, e, -, hg⟩ := Row.val h0
  refine ⟨a, cap, e, fun hp => ?_⟩
  obtain ⟨g, rfl⟩ := hg hp
  refine ⟨g, rfl, fun t ht => ?_⟩
  unfold Row.at at h0
  rw [e] at h0
  exact ⟨World.ownsRow.cellAt h0 t (by omega), World.ownsRow.frozenAt h0 t⟩
theorem mk_rem (k : Nat) (h : k ≤ 1000) : IntKind.i64.wrap (Int.tmod (k : Int) 250) = ((k % 250 : Nat) : Int) := by
  rw [Int.tmod_eq_emod_of_nonneg (by omega), IntKind.wrap_i64]; omega
set_option maxRecDepth 20000 in
set_option maxHeartbeats 1600000 in
theorem hold_t (N : Nat → Nat) (h : Ds W w P ds c K F) (hr : Rel N F) (hm : Mrk N F) (hl : Len F) (h0 : N 0 ≤ 1000) (h2 : N 2 ≤ 1000) :
    Calls Try.prog 15 #[.pointer (some ⟨K, 0, none⟩)] w fun e w' => e = .returned (.bool true) ∧ w' = w := by
  obtain ⟨a0, cap0, e0, g0⟩ := h.named hr 0 (by decide)
  obtain ⟨a2, cap2, e2, g2⟩ := h.named hr 2 (by decide)
  have hc0 := h.cellK 0 (by decide)
  have hc2 := h.cellK 2 (by decide)
  rw [e0] at hc0
  rw [e2] at hc2
  obtain ⟨n, hn⟩ : ∃ n, n = N 0 := ⟨_, rfl⟩
  obtain ⟨m, hm0⟩ : ∃ m, m = N 2 := ⟨_, rfl⟩
  have hmb := hm.b
  have hmi := hm.i
  rw [← hn] at hc0 g0 h0 hmb
  rw [← hm0] at hc2 g2 h2 hmi
  have HB : Hid _ := hmb
  have HI : Hid _ := hmi
  have HG0 : Hid _ := g0
  have HG2 : Hid _ := g2
  have HD : Hid _ := h
  have HL : Hid _ := hl
  clear hmb hmi hm hr hn hm0 e0 e2 h g0 g2 hl
  go_enter Try.func15, Try.ntmps15
  go_wp2
  go_loopw [3, 4] (fun i _ wr => ∃ k : Nat, k ≤ n ∧ i = .int .i64 (k : Int) ∧ wr = w) (fun i _ _ => n - (intOf i).toNat)
  case atStart => exact ⟨0, Nat.zero_le _, rfl, rfl⟩
  case round =>
    obtain ⟨k, hk, rfl, rfl⟩ := hrel
    by_cases hlt : k < n
    · obtain ⟨G, rfl, hG⟩ := HG0.out (by omega)
      have hck := hG k hlt
      obtain ⟨a, cap, ev, hg⟩ := row_slv (N := N) HD.out (0, k)
      rw [ev] at hck
      have hlen := HL.out 0 k (by decide)
      have hB := HB.out k hlt
      generalize (F (0, k)).xs = ys at *
      obtain ⟨L, hL⟩ : ∃ L, L = ys.length := ⟨_, rfl⟩
      rw [← hL] at hck hlen
      have HLL : Hid _ := hL
      have HGG : Hid _ := hg
      have HBB : Hid _ := hB
      clear hG ev hL hg hB
      have hrem := mk_rem k (by omega)
      have hk0 : (0 : Int) ≤ (k : Int) := by omega
      have hki : (k : Int) < (n : Int) := by omega
      go_wp2
      go_loopw [4] (fun j wq => ∃ t : Nat, t ≤ L ∧ j = .int .i64 (t : Int) ∧ wq = wr) (fun j _ => L - (intOf j).toNat)
      case atStart => exact ⟨0, Nat.zero_le _, rfl, rfl⟩
      case round =>
        obtain ⟨t, ht, rfl, rfl⟩ := hrel
        by_cases hlt2 : t < L
        · obtain ⟨g, rfl, hg⟩ := HGG.out (by have := HLL.out; omega)
          have hct := (hg t (by have := HLL.out; omega)).1
          rw [HBB.out t (by have := HLL.out; omega)] at hct
          unfold mkB at hct
          go_wp2
          go_roundw
          case rel => exact ⟨t + 1, by omega, by go_num, by first | rfl | trivial⟩
          case measure => simp [intOf]; omega
        · obtain rfl : t = L := by omega
          go_wp2
          go_roundw
          case rel => exact ⟨k + 1, by omega, by go_num, by first | rfl | trivial⟩
          case measure => simp [intOf]; omega
    · obtain rfl : k = n := by omega
      clear HB HG0
      go_wp2
      go_loopw [5, 6] (fun i _ wq => ∃ k : Nat, k ≤ m ∧ i = .int .i64 (k : Int) ∧ wq = wr) (fun i _ _ => m - (intOf i).toNat)
      case atStart => exact ⟨0, Nat.zero_le _, rfl, rfl⟩
      case round =>
        obtain ⟨k, hk, rfl, rfl⟩ := hrel
        by_cases hlt : k < m
        · obtain ⟨G, rfl, hG⟩ := HG2.out (by omega)
          have hck := hG k hlt
          obtain ⟨a, cap, ev, hg⟩ := row_slv (N := N) HD.out (2, k)
          rw [ev] at hck
          have hlen := HL.out 2 k (by decide)
          have hB := HI.out k hlt
          generalize (F (2, k)).xs = ys at *
          obtain ⟨L, hL⟩ : ∃ L, L = ys.length := ⟨_, rfl⟩
          rw [← hL] at hck hlen
          have HLL : Hid _ := hL
          have HGG : Hid _ := hg
          have HBB : Hid _ := hB
          clear hG ev hL hg hB
          have hk0 : (0 : Int) ≤ (k : Int) := by omega
          have hki : (k : Int) < (m : Int) := by omega
          have hw1 : IntKind.i64.wrap (1000 * (k : Int)) = 1000 * (k : Int) := by rw [IntKind.wrap_i64]; omega
          go_wp2
          go_loopw [6] (fun j wq => ∃ t : Nat, t ≤ L ∧ j = .int .i64 (t : Int) ∧ wq = wr) (fun j _ => L - (intOf j).toNat)
          case atStart => exact ⟨0, Nat.zero_le _, rfl, rfl⟩
          case round =>
            obtain ⟨t, ht, rfl, rfl⟩ := hrel
            by_cases hlt2 : t < L
            · obtain ⟨g, rfl, hg⟩ := HGG.out (by have := HLL.out; omega)
              have hct := (hg t (by have := HLL.out; omega)).1
              rw [HBB.out t (by have := HLL.out; omega)] at hct
              unfold mkI at hct
              have hw2 : IntKind.i64.wrap (1000 * (k : Int) + (t : Int)) = ((1000 * k + t : Nat) : Int) := by rw [IntKind.wrap_i64]; omega
              go_wp2
              go_roundw
              case rel => exact ⟨t + 1, by omega, by go_num, by first | rfl | trivial⟩
              case measure => simp [intOf]; omega
            · obtain rfl : t = L := by omega
              go_wp2
              go_roundw
              case rel => exact ⟨k + 1, by omega, by go_num, by first | rfl | trivial⟩
              case measure => simp [intOf]; omega
        · obtain rfl : k = m := by omega
          go_wp2
          go_ret
          exact ⟨rfl, rfl⟩
end Go.Proofs.Ytekfolppahnpoaa
