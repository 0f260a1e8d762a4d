import Derived.Test.YtiedgcanndgmoaaGreatDoorOBc
import Derived.Test.YtiedgcanndgmoaaGreatDoorXV
namespace Go.Proofs.YtiedgcanndgmoaaGreatDoor
set_option linter.unusedVariables false
set_option linter.unusedSimpArgs false
open Go.RowKit Go.Maps
theorem rdB_new (u : World) (x : Xe) (n : Nat) (hn : n = u.heap.size) : RdG KBs (u.alloc (.cells #[.int .u64 (x.n : Int), .int .i64 x.k.1, .int .u64 (x.k.2 : Int), .int .u64 (x.ov : Int)] tBs)) (some ⟨n, 0, none⟩) [x] := by
  subst hn
  exact rdG_lit (heap_alloc_new u _) (by simp [Kd.flat])
section
variable {w w' : World} {q : Nat} {v v' v'' : Value} {s : Xs}
set_option maxRecDepth 20000
set_option maxHeartbeats 3200000
theorem bout_t (h : Bk w q v s) (z : Nat) : Calls Tryz.prog 14 #[.pointer (some ⟨q, 0, none⟩), .int .u64 (z : Int)] w fun e w' => (∃ u, e = .returned u) ∧ ∃ v', Bk w' q v' { s with L := dropX s.L z } ∧ RxStp w w' q v v' := by
  obtain ⟨a, cp, hv, -, -, -, hrd⟩ := OwnG.val h.row
  have hl := h.inv.len
  have hcs : ∀ u, Below w.heap.size w u → u.cell? ⟨q, 0, none⟩ = some v := fun u hu => (h.below hu).cell 0
  have hfz : ∀ u, Below w.heap.size w u → u.frozen? ⟨q, 0, none⟩ = false := fun u hu => (h.below hu).frz 0
  obtain ⟨n, hn⟩ : ∃ n, n = s.L.length := ⟨_, rfl⟩
  have hv' : v = .slice a n cp := by rw [hn]; exact hv
  have hl : n ≤ 64 := by rw [hn]; exact hl
  rw [hv'] at hcs
  have HV : Hid (v = .slice a n cp) := hv'
  have HR : Hid (RdG KBs w a s.L) := hrd
  have HN : Hid (n = s.L.length) := hn
  have HH : Hid _ := h
  clear h hn hv hrd hv'
  go_enter Tryz.func14, Tryz.ntmps14
  go_wp2
  go_loopw [5, 6, 7] (fun u f j wr => ∃ (k : Nat) (bb : Bool), k ≤ n ∧ j = .int .i64 (k : Int) ∧ f = .bool bb ∧ OwnG KBs wr w.heap.size u (dropX (s.L.take k) z) ∧ Below w.heap.size w wr) (fun _ _ j _ => n - (intOf j).toNat)
  case atStart => exact ⟨0, false, Nat.zero_le _, rfl, rfl, World.ownsRow_nil _ _ _ _, Below.refl _ _⟩
  case round =>
    obtain ⟨k, bb, hkn, rfl, rfl, hown, hbw⟩ := hrel
    have hkw : IntKind.i64.wrap ((k : Int) + 1) = ((k + 1 : Nat) : Int) := by rw [IntKind.wrap_i64]; omega
    have hcr := hcs wr hbw
    by_cases hlt : k < n
    · have hlti : (k : Int) < (n : Int) := by omega
      have hk0 : (0 : Int) ≤ (k : Int) := by omega
      have hk1 : k < s.L.length := by rw [← HN.out]; exact hlt
      obtain ⟨b, o, rfl, r1, -⟩ := RdG.below HR.out hbw k hk1
      obtain ⟨x, hx⟩ : ∃ x : Xe, x = s.L[k] := ⟨_, rfl⟩
      have g0 := r1 0 (.int .u64 (x.n : Int)) (by rw [hx]; rfl)
      rw [Nat.add_zero] at g0
      have g1 := r1 1 (.int .i64 x.k.1) (by rw [hx]; rfl)
      have g2 := r1 2 (.int .u64 (x.k.2 : Int)) (by rw [hx]; rfl)
      have g3 := r1 3 (.int .u64 (x.ov : Int)) (by rw [hx]; rfl)
      have hT : s.L.take (k + 1) = s.L.take k ++ [x] := by rw [List.take_succ_eq_append_getElem hk1, ← hx]
      have HSZ : Hid (w.heap.size ≤ wr.heap.size) := hbw.size
      have HBW : Hid _ := hbw
      by_cases he : x.n = z
      · have hei : ((x.n : Int) == (z : Int)) = true := by simp; omega
        have HT : Hid (dropX (s.L.take (k + 1)) z = dropX (s.L.take k) z) := by unfold Hid dropX; rw [hT, List.filter_append]; simp [he]
        have HO : Hid _ := hown
        clear r1 hx hk1 hT hown hbw hcs he
        go_wp2
        go_roundw
        case rel => exact ⟨k + 1, true, hlt, by go_num, rfl, by rw [HT.out]; exact HO.out, HBW.out⟩
        case measure => simp [intOf]; omega
      · have hei : ((x.n : Int) == (z : Int)) = false := by simp; omega
        have HT : Hid (dropX (s.L.take k) z ++ [x] = dropX (s.L.take (k + 1)) z) := by unfold Hid dropX; rw [hT, List.filter_append]; simp [he]
        have HO : Hid (OwnG KBs (wr.alloc (.cells #[.int .u64 (x.n : Int), .int .i64 x.k.1, .int .u64 (x.k.2 : Int), .int .u64 (x.ov : Int)] tBs)) w.heap.size u5 (dropX (s.L.take k) z)) := hown.below (alw (Below.refl _ _) _)
        have HL5 : Hid (∀ b, u5.ownBlock = some b → w.heap.size ≤ b) := fun b hb => (hown.lt' hb).1
        obtain ⟨m5, hm5⟩ : ∃ m5, m5 = (dropX (s.L.take k) z).length := ⟨_, rfl⟩
        have hm64 : m5 ≤ 64 := by
          rw [hm5]
          have h1 := List.length_filter_le (fun x : Xe => decide (x.n ≠ z)) (s.L.take k)
          rw [List.length_take] at h1
          unfold dropX
          omega
        have HM5 : Hid _ := hm5
        clear r1 hx hk1 hT hown hbw hcs he hm5
        go_wp2_with (at_builtin; refine wp_appG1 (K := KBs) rfl _ _ rfl w.heap.size u5 (dropX (s.L.take k) z) x m5 HM5.out ⟨wr.heap.size, 0, none⟩ 1 rfl HO.out rfl (rdB_new wr x _ rfl) (by show (m5 + 1) * 32 ≤ _; omega) (by simp only [maxLen]; omega) (by have := HSZ.out; simp; omega) ?_; intro g7 c7 w7 hown7 hg7 hlie7; rw [HT.out] at hown7; have HO7 : Hid _ := hown7; have HG7 : Hid _ := hg7; clear hown7 hg7 hlie7)
        go_roundw
        case rel => exact ⟨k + 1, bb, hlt, by go_num, rfl, HO7.out, (alw HBW.out _).grown HG7.out (by have := HSZ.out; simp; omega) (fun j hj => HL5.out j hj)⟩
        case measure => simp [intOf]; omega
    · have hlti : ¬ (k : Int) < (n : Int) := by omega
      have htk : s.L.take k = s.L := List.take_of_length_le (by rw [← HN.out]; omega)
      rw [htk] at hown
      have hfr := hfz wr hbw
      have HO5 : Hid _ := hown
      have HBW : Hid _ := hbw
      obtain ⟨a6, c6, hv6, -⟩ := hown.val
      obtain ⟨m6, hm6⟩ : ∃ m6, m6 = (dropX s.L z).length := ⟨_, rfl⟩
      rw [← hm6] at hv6
      subst hv6
      clear hown hbw htk hcs hfz hm6
      go_wp2
      go_ret
      obtain ⟨h8, h9⟩ := HH.out.setRow (Chg.of_below HBW.out) (v' := .slice a6 m6 c6) (L' := dropX s.L z) (OwnG.base HO5.out (Nat.zero_le _)) (fun b e => .inr (OwnG.lt' HO5.out e).1) (HH.out.inv.drop _)
      exact ⟨⟨_, rfl⟩, .slice a6 m6 c6, h8, h9⟩
theorem mod_1009 (x : Int) : ∃ (r t : Int) (kk m : Nat), x.tmod 1009 = r ∧ IntKind.i64.wrap (r + 1009) = t ∧ t.tmod 1009 = (kk : Int) ∧ IntKind.i64.wrap (16 + (kk : Int)) = (m : Int) ∧ 16 ≤ m ∧ m ≤ 1024 := by
  have h1 := Int.tmod_lt_of_pos x (show (0 : Int) < 1009 by decide)
  have h2 : -1009 < x.tmod 1009 := by
    have h3 := Int.tmod_lt_of_pos (-x) (show (0 : Int) < 1009 by decide)
    rw [Int.neg_tmod] at h3
    omega
  obtain ⟨y, hy⟩ : ∃ y, y = x.tmod 1009 := ⟨_, rfl⟩
  rw [← hy] at h1 h2
  have h3 : (y + 1009).tmod 1009 = (y + 1009) % 1009 := Int.tmod_eq_emod_of_nonneg (by omega)
  refine ⟨y, y + 1009, ((y + 1009) % 1009).toNat, 16 + ((y + 1009) % 1009).toNat, hy.symm, by rw [IntKind.wrap_i64]; omega, by rw [h3]; omega, by rw [IntKind.wrap_i64]; omega, by omega, by omega⟩
theorem cfgm_t (x : Int) (a : Nat) (ha : a < 18446744073709551616) : ∃ m A : Nat, (16 ≤ m ∧ m ≤ 1024) ∧ (1 ≤ A ∧ A ≤ 4096) ∧ ∀ w : World, Calls Tryz.prog 5 #[.int .i64 x, .int .u64 (a : Int)] w fun e w' => e = .returned (cfgv m A 1 0 1 1) ∧ Below w.heap.size w w' := by
  obtain ⟨r, t, kk, m, q1, q2, q3, q4, q5, q6⟩ := mod_1009 x
  obtain ⟨A, hA⟩ : ∃ A : Nat, (A : Int) = 1 + (a : Int) % 4096 := ⟨1 + a % 4096, by omega⟩
  refine ⟨m, A, ⟨q5, q6⟩, ⟨by omega, by omega⟩, fun w => ?_⟩
  have q8 : IntKind.u64.wrap (1 + (a : Int) % 4096) = (A : Int) := by rw [IntKind.wrap_u64]; omega
  clear q5 q6 hA
  go_enter Tryz.func5, Tryz.ntmps5
  go_wp2
  refine bodyPost_ret (v := cfgv m A 1 0 1 1) (by simp [results, Tryz.results5, go_sem]) rfl ⟨rfl, alw (Below.refl _ _) _⟩
end
end Go.Proofs.YtiedgcanndgmoaaGreatDoor
