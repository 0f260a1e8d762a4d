import Derived.Test.YtinphflminaijacDoorRefUns
import Derived.Test.YtinphflminaijacDoorConv
import Derived.Test.YtinphflminaijacDoorOpen
namespace Go.Proofs.YtinphflminaijacDoor
set_option linter.unusedVariables false
set_option linter.unusedSimpArgs false
open Go.RowKit
theorem len_marksU (xs : List UInt8) : (xs ++ marksL).length = xs.length + 8 := by simp [marksL]
theorem apart_blkU {a : Option Addr} {n c g n' c' z : Nat} (h : ∀ q, a = some q → z ≤ q.block) (hg : g < z) : Value.ownBlock (.slice (some ⟨g, 0, none⟩) n' c') ≠ Value.ownBlock (.slice a n c) := by
  rcases a with _ | q
  · simp [Value.ownBlock]
  · have := h q rfl
    simp [Value.ownBlock]
    omega
theorem unS_len (xs : List UInt8) : (unS xs).1.length ≤ xs.length := by
  unfold unS
  split
  · simp
  · split
    · simp
    · simp
set_option maxRecDepth 20000 in
set_option maxHeartbeats 1600000 in
theorem unseal_law (a0 : Option Addr) (n0 cap0 : Nat) (xs0 : List UInt8) (hn0' : n0 = xs0.length) (w : World) (hr0 : Rd w a0 xs0) (hl0 : n0 ≤ cap0) (hcm : cap0 ≤ 9223372036854775807) (hl1 : n0 ≤ 140737488351300) (hn0 : a0 = none → cap0 = 0) (ht : TabOk w) :
    Calls Tryd.prog 12 #[.slice a0 n0 cap0] w fun e w' => e = .returned (.bool true) ∧ Below w.heap.size w w' := by
  subst hn0'
  have HN : Hid (a0 = none → cap0 = 0) := hn0
  clear hn0
  go_enter Tryd.func12, Tryd.ntmps12
  go_wp2_with fail
  refine (lent_any a0 cap0 xs0 w hr0 HN.out (by omega)).mono ?_
  rintro e w1 ⟨v1, rfl, hown1, hb1⟩
  obtain ⟨g, c1, rfl, hlc1, hcm1, hgB, hgl⟩ := own_head hown1 (by rw [len_marksU]; omega)
  rw [len_marksU] at hlc1 hown1 ⊢
  simp only [maxLen] at hcm1
  have hra : Rd w1 (some ⟨g, 0, none⟩) xs0 := by
    have h := (Rd.of_own hown1).take xs0.length
    rwa [List.take_left' rfl] at h
  have hc1 : (xs0.length : Int) ≤ (c1 : Int) := by omega
  have ht1 := ht.below hb1
  have hul := unS_len xs0
  generalize hu : unS xs0 = rq at *
  obtain ⟨r, q⟩ := rq
  simp only at hul
  go_wp2_with fail
  refine (unseal_n _ _ c1 xs0 rfl r q hu w1 hra (by omega) hcm1 (by omega) ht1).mono ?_
  rintro e w3 ⟨v3, rfl, hown3, hb3⟩
  have hb13 := below_next hb1 hb3
  obtain ⟨a3, c3, rfl, -, -, hn3, hr3, hblk3⟩ := hown3.val
  have hoa3 := hown1.below hb3
  have hr03 := hr0.below hb13
  clear hn3
  go_wp2_with fail
  have hq := refUnseal_n a0 _ cap0 xs0 rfl w3 hr03 hl0 hcm (by omega)
  rw [hu] at hq
  refine hq.mono ?_
  rintro e w4 ⟨v4, rfl, hown4, hb4⟩
  clear hq
  have hb14 := below_next hb13 hb4
  obtain ⟨a4, c4, rfl, -, -, hn4, hr4, -⟩ := hown4.val
  have hoa4 := hoa3.below hb4
  have hos4 := hown3.below hb4
  have hr04 := hr0.below hb14
  have hcx := conv_rd' (Rd.of_own hos4) _ c3 rfl
  have hcy := conv_rd' hr4 _ c4 rfl
  have hz3 := hb3.size
  have hz4 := hb4.size
  have hgz : g < w1.heap.size := hgl
  clear hn4 hu hown1 hown3 hoa3 hra
  go_wp2_with (first | (go_at_call 29; refine (stays_n _ _ c1 (xs0 ++ marksL) (len_marksU _).symm a0 _ cap0 xs0 rfl w4 (Rd.of_own hoa4) hr04 (by omega) rfl).mono ?_; rintro e w5 ⟨rfl, hw5⟩; have hw5' := hw5.symm; subst hw5') | (go_at_call 28; go_in))
  refine (turned_any _ g c1 xs0 w4 hoa4 (by omega) hlc1).mono ?_
  rintro e w7 ⟨v7, rfl, hown7, hoa7, hg7⟩
  have hbw7 : Below w.heap.size w w7 := hb14.grown hg7 hb14.size (fun k hk => by cases hk; exact hgB)
  have hos7 : Own w7 _ _ _ := hos4.grown hg7 (by
    rcases a3 with _ | q3
    · exact .inl rfl
    · right
      have := hblk3 q3 rfl
      simp [Value.ownBlock]
      omega)
  obtain ⟨a7, c7, hv7, hlc7, -, hn7, hr7, hblk7⟩ := hown7.val
  rw [xorL_len] at hv7 hlc7
  subst hv7
  have hoy7 := hown4.grown hg7 (by
    rcases a4 with _ | q4
    · exact .inl rfl
    · right
      have := World.ownsRow.lt hown4 q4.block rfl
      simp [Value.ownBlock]
      omega)
  have hcx7 := conv_rd' (Rd.of_own hos7) _ c3 rfl
  have hcy7 := conv_rd' (Rd.of_own hoy7) _ c4 rfl
  have HXL : Hid (xs0.length = (xorL 21 xs0).length) := (xorL_len 21 xs0).symm
  have hz7 := hg7.size
  clear hn7 hcx hcy hos4 hoa4 hr4 hr3
  go_wp2_with fail
  refine (spoils_n _ _ _ c3 r rfl w7 (hos7.base (Nat.zero_le _)) (by omega) (Nat.zero_le _)).mono ?_
  rintro e w8 ⟨rfl, hg8⟩
  have hW8 : Below w.heap.size w w8 := hbw7.grown hg8 hbw7.size (fun k hk => by
    rcases a3 with _ | q3
    · cases hk
    · have := hblk3 q3 rfl
      have := hb1.size
      cases hk
      omega)
  have hoa8 := hoa7.grown hg8 (.inr (apart_blkU (z := w1.heap.size) (fun q hq => (hblk3 q hq).1) hgz))
  have hon8 := hown7.grown hg8 (by
    rcases a7 with _ | q7
    · exact .inl rfl
    · right
      have h7 := hblk7 q7 rfl
      rcases a3 with _ | q3
      · simp [Value.ownBlock]
      · have h3 := hblk3 q3 rfl
        simp [Value.ownBlock]
        omega)
  clear hcx7 hcy7
  go_wp2_with fail
  refine (stays_n _ _ c1 (xorL 21 xs0 ++ marksL) (by rw [len_marksU, xorL_len]) a7 _ c7 (xorL 21 xs0) HXL.out w8 (Rd.of_own hoa8) (Rd.of_own hon8) (by omega) rfl).mono ?_
  rintro e w9 ⟨rfl, hw9⟩
  have hw9' := hw9.symm
  subst hw9'
  go_wp2
  go_ret
  exact ⟨rfl, hW8⟩
set_option maxRecDepth 20000 in
set_option maxHeartbeats 400000 in
theorem octetUnseals_walk (a0 : Option Addr) (cap0 : Nat) (xs0 : List UInt8) (w : World) (hr0 : Rd w a0 xs0) (hl0 : xs0.length ≤ cap0) (hc0 : cap0 ≤ 140737488351232) (hn0 : a0 = none → cap0 = 0) (ht : TabOk w) :
    Calls Tryd.prog 4 #[.slice a0 xs0.length cap0] w fun e w' => e = .returned (.bool true) ∧ Below w.heap.size w w' := by
  have HN : Hid (a0 = none → cap0 = 0) := hn0
  clear hn0
  go_enter Tryd.func4, Tryd.ntmps4
  go_wp2_with fail
  refine (knows_any _ ht).mono ?_
  rintro e wk ⟨rfl, hbk⟩
  go_wp2_with fail
  refine (unseal_law a0 _ cap0 xs0 rfl wk (hr0.below hbk) hl0 (by omega) (by omega) HN.out (ht.below hbk)).mono ?_
  rintro e w2 ⟨rfl, hb2⟩
  have hb02 := below_next hbk hb2
  go_wp2_with fail
  refine (refSeal_n a0 _ cap0 xs0 rfl w2 (hr0.below hb02) HN.out (by omega)).mono ?_
  rintro e w3 ⟨v3, rfl, hown3, hb3⟩
  have hb03 := below_next hb02 hb3
  obtain ⟨a3, c3, hv3, hlc3, hcm3, hn3, hr3, -⟩ := hown3.val
  rw [len_seal] at hv3 hlc3
  subst hv3
  simp only [maxLen] at hcm3
  have HN3 : Hid (a3 = none → c3 = 0) := hn3
  clear hn3
  go_wp2_with fail
  refine (unseal_law a3 _ c3 (xs0 ++ sealL xs0) (len_seal _ _).symm w3 hr3 hlc3 (by omega) (by omega) HN3.out (ht.below hb03)).mono ?_
  rintro e w4 ⟨rfl, hb4⟩
  go_wp2
  go_ret
  exact ⟨rfl, below_next hb03 hb4⟩
end Go.Proofs.YtinphflminaijacDoor
