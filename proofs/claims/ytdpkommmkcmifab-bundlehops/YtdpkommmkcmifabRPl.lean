import Derived.Test.YtdpkommmkcmifabFind
namespace Go.Proofs.Ytdpkommmkcmifab
set_option linter.unusedVariables false
set_option linter.unusedSimpArgs false
open Go.RowKit
set_option maxRecDepth 20000 in
set_option maxHeartbeats 800000 in
theorem refPlace_any (b : Bun) (ba : Option Addr) (bc : Nat) (pa : Option Addr) (pc : Nat) (kind : Nat) (w : World) (h : BunR w b ba bc pa pc) :
    Calls Try.prog 47 #[bunV b ba bc pa pc, .int .u64 kind] w fun e w' => e = .returned (.int .i64 (placeS b.bl kind)) ∧ Below w.heap.size w w' := by
  unfold bunV
  have hbn := h.ok.bn
  have hlb := h.lb
  obtain ⟨W0, hW0⟩ : ∃ W0 : World, W0 = w.alloc (.cells #[.int .u64 b.fl, .int .u64 b.e0, .int .u64 b.e1, .int .u64 b.e2, .int .u64 b.e3, .int .u64 b.e4, .int .u64 b.e5, .int .u64 b.tm, .int .u64 b.sq, .int .u64 b.lf, .slice ba b.bl.length bc, .slice pa b.py.length pc] 57) := ⟨_, rfl⟩
  have hI : W0.heap[w.heap.size]? = some (.cells #[.int .u64 b.fl, .int .u64 b.e0, .int .u64 b.e1, .int .u64 b.e2, .int .u64 b.e3, .int .u64 b.e4, .int .u64 b.e5, .int .u64 b.tm, .int .u64 b.sq, .int .u64 b.lf, .slice ba b.bl.length bc, .slice pa b.py.length pc] 57 (0, 0)) := by rw [hW0]; exact heap_alloc_new w _
  have hb0 : Below w.heap.size w W0 := by rw [hW0]; exact al (Below.refl _ _) _
  obtain ⟨p0, p1, p2, p3, p4, p5, p6, p7, p8, p9, p10, p11, -⟩ := cells12 hI
  have hl := h.rb.below hb0
  clear p0 p1 p2 p3 p4 p5 p6 p7 p8 p9 p11 hI
  go_enter Try.func47, Try.ntmps47
  go_wp2
  rw [← hW0]
  clear hW0
  go_loop [5] (fun i => ∃ k : Nat, k ≤ b.bl.length ∧ i = .int .i64 k ∧ (∀ j (hj : j < b.bl.length), j < k → b.bl[j].t ≠ kind)) (fun i => b.bl.length - (intOf i).toNat)
  case atStart => exact ⟨0, Nat.zero_le _, rfl, fun j _ h => absurd h (Nat.not_lt_zero j)⟩
  case round =>
    obtain ⟨k, hk, rfl, hall⟩ := hrel
    have HA : Hid (∀ j (hj : j < b.bl.length), j < k → b.bl[j].t ≠ kind) := hall
    clear hall
    by_cases hlt : k < b.bl.length
    · obtain ⟨b1, o1, rfl, hx⟩ := hl.at k hlt
      obtain ⟨a, c, h0, -⟩ := hx
      by_cases he : b.bl[k].t = kind
      · have HP : Hid (placeS b.bl kind = (k : Int)) := placeS_hit b.bl kind k hlt he HA.out
        go_wp2
        go_ret
        exact ⟨by rw [HP.out]; rfl, hb0⟩
      · go_wp2
        go_round
        case rel =>
          refine ⟨k + 1, by omega, by go_num, fun j hj hjk => ?_⟩
          by_cases e : j = k
          · subst e; exact he
          · exact HA.out j hj (by omega)
        case measure => simp [intOf]; omega
    · have HP : Hid (placeS b.bl kind = -1) := placeS_miss b.bl kind (fun j hj => HA.out j hj (by omega))
      obtain rfl : k = b.bl.length := by omega
      go_wp2
      go_ret
      exact ⟨by rw [HP.out]; rfl, hb0⟩
end Go.Proofs.Ytdpkommmkcmifab
