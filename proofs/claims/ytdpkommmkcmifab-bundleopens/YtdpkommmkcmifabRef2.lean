import Derived.Test.YtdpkommmkcmifabRef1
namespace Go.Proofs.Ytdpkommmkcmifab
set_option linter.unusedVariables false
set_option linter.unusedSimpArgs false
open Go.RowKit
theorem rEnd_zero (ys : List UInt8) (f : Int) : (rEnd ys f == 0) = (f == 0 && ys.length == 0) := by
  unfold rEnd
  by_cases hf : f = 0
  · subst hf
    by_cases hz : ys.length = 0
    · simp [hz]
    · have h0 : 0 < ys.length := by omega
      rw [if_pos rfl, if_pos h0]
      simp [hz]
  · simp [hf]
theorem rNum_ok {m : Nat} {ys : List UInt8} (he : (numS ys).2.2 = 0) (hm : (numS ys).1 ≤ m) : rNum m ys 0 = ((numS ys).1, (numS ys).2.1, 0) := by
  have ha : ahS m ys = numS ys := by unfold ahS; rw [if_neg (by omega)]
  unfold rNum
  rw [if_pos rfl, ha, if_pos he]
theorem rNum_big {m : Nat} {ys : List UInt8} (he : (numS ys).2.2 = 0) (hm : ¬ (numS ys).1 ≤ m) : rNum m ys 0 = (0, 0, 12) := by
  have ha : ahS m ys = (0, 0, 12) := by unfold ahS; rw [if_pos ⟨he, by omega⟩]
  unfold rNum
  rw [if_pos rfl, ha, if_neg (by simp)]
  rfl
theorem rNum_bad {m : Nat} {ys : List UInt8} (he : ¬ (numS ys).2.2 = 0) : rNum m ys 0 = (0, 0, (((numS ys).2.2 : Nat) : Int)) := by
  have ha : ahS m ys = numS ys := by unfold ahS; rw [if_neg (fun h => he h.1)]
  unfold rNum
  rw [if_pos rfl, ha, if_neg he]
theorem rNum_f {m : Nat} {ys : List UInt8} {f : Int} (hf : ¬ f = 0) : rNum m ys f = (0, 0, f) := by unfold rNum; rw [if_neg hf]
theorem prev_two (xs : List UInt8) : ((prevS xs).2.2 == 0) = (twoS xs).2.2 := by unfold prevS twoS; simp only; exact rEnd_zero _ _
theorem age_one (xs : List UInt8) : ((ageS xs).2 == 0) = (oneS xs).2 := by unfold ageS oneS; simp only; exact rEnd_zero _ _
theorem hop_two (xs : List UInt8) : ((hopS xs).2.2 == 0) = ((twoS xs).2.2 && (decide (1 ≤ (twoS xs).1) && (decide ((twoS xs).1 ≤ 255) && decide ((twoS xs).2.1 ≤ (twoS xs).1)))) := by
  unfold hopS twoS eidS
  simp only [rEnd_zero]
  by_cases he : (numS xs).2.2 = 0
  · by_cases hv : (numS xs).1 ≤ 255
    · rw [rNum_ok he hv, rNum_ok he (show (numS xs).1 ≤ 281474976710655 by omega)]
      simp only
      obtain ⟨v, hvv⟩ : ∃ v, v = (numS xs).1 := ⟨_, rfl⟩
      obtain ⟨ys, hys⟩ : ∃ ys, ys = xs.drop (numS xs).2.1 := ⟨_, rfl⟩
      rw [← List.drop_drop, ← hvv, ← hys]
      rw [← hvv] at hv
      by_cases h1 : 1 ≤ v
      · have hm : mustF (decide ((1 : Int) ≤ (v : Nat))) 0 = 0 := by unfold mustF; rw [if_pos (by simp; omega)]
        rw [hm]
        by_cases he2 : (numS ys).2.2 = 0
        · by_cases hc : (numS ys).1 ≤ v
          · rw [rNum_ok he2 hc, rNum_ok he2 (show (numS ys).1 ≤ 281474976710655 by omega)]
            simp [h1, hv, hc]
          · rw [rNum_big he2 hc]
            by_cases hc2 : (numS ys).1 ≤ 281474976710655
            · rw [rNum_ok he2 hc2]
              simp [hc]
            · rw [rNum_big he2 hc2]
              simp
        · rw [rNum_bad he2, rNum_bad he2]
          have : ¬ (((numS ys).2.2 : Nat) : Int) = 0 := by omega
          simp [this, he2]
      · have hm : mustF (decide ((1 : Int) ≤ (v : Nat))) 0 = 20 := by unfold mustF; rw [if_neg (by simp; omega), if_pos rfl]
        rw [hm, rNum_f (by decide)]
        simp [h1]
    · rw [rNum_big he hv]
      have hm : mustF (decide ((1 : Int) ≤ ((0 : Nat) : Int))) 12 = 12 := by decide
      simp only
      rw [hm, rNum_f (by decide)]
      by_cases hv2 : (numS xs).1 ≤ 281474976710655
      · rw [rNum_ok he hv2]
        simp [hv]
      · rw [rNum_big he hv2]
        simp only
        rw [rNum_f (by decide)]
        simp
  · have hne : ¬ (((numS xs).2.2 : Nat) : Int) = 0 := by omega
    rw [rNum_bad he, rNum_bad he]
    simp only
    have hm : mustF (decide ((1 : Int) ≤ ((0 : Nat) : Int))) (((numS xs).2.2 : Nat) : Int) = (((numS xs).2.2 : Nat) : Int) := by unfold mustF; rw [if_neg (by decide), if_neg hne]
    rw [hm, rNum_f hne, rNum_f hne]
    simp [hne, he]
set_option maxRecDepth 20000 in
theorem known_d (t : Nat) (w : World) : Calls Try.prog 80 #[.int .u64 t] w fun e w' => e = .returned (.bool (knownB t)) ∧ w' = w := by
  by_cases h6 : t = 6
  · subst h6
    go_enter Try.func80, Try.ntmps80
    go_wp2
    go_ret
    exact ⟨rfl, rfl⟩
  by_cases h7 : t = 7
  · subst h7
    go_enter Try.func80, Try.ntmps80
    go_wp2
    go_ret
    exact ⟨rfl, rfl⟩
  by_cases h10 : t = 10
  · subst h10
    go_enter Try.func80, Try.ntmps80
    go_wp2
    go_ret
    exact ⟨rfl, rfl⟩
  have HV : Hid (knownB t = false) := by unfold Hid knownB; simp [h6, h7, h10]
  go_enter Try.func80, Try.ntmps80
  go_wp2
  go_ret
  exact ⟨by rw [HV.out]; simp; omega, rfl⟩
set_option maxRecDepth 20000 in
set_option maxHeartbeats 1600000 in
theorem holds_d (kind : Nat) (ao : Option Addr) (cap : Nat) (xs : List UInt8) (w : World) (hx : Rd w ao xs) (hnil : ao = none → cap = 0) (hl : xs.length ≤ 140737488355328) :
    Calls Try.prog 69 #[.int .u64 kind, .slice ao xs.length cap] w fun e w' => e = .returned (.bool (holdsS kind xs)) ∧ Below w.heap.size w w' := by
  have HN : Hid (ao = none → cap = 0) := hnil
  clear hnil
  by_cases h6 : kind = 6
  · subst h6
    have HV : Hid (holdsS 6 xs = (twoS xs).2.2) := (show holdsS 6 xs = ((prevS xs).2.2 == 0) from rfl).trans (prev_two xs)
    go_enter Try.func69, Try.ntmps69
    go_wp2_with fail
    refine (two_d ao cap xs w hx HN.out hl).mono ?_
    rintro e w1 ⟨rfl, hb1⟩
    go_wp2
    go_ret
    exact ⟨by rw [HV.out]; rfl, hb1⟩
  by_cases h7 : kind = 7
  · subst h7
    have HV : Hid (holdsS 7 xs = (oneS xs).2) := (show holdsS 7 xs = ((ageS xs).2 == 0) from rfl).trans (age_one xs)
    go_enter Try.func69, Try.ntmps69
    go_wp2_with fail
    refine (one_d ao cap xs w hx HN.out hl).mono ?_
    rintro e w1 ⟨rfl, hb1⟩
    go_wp2
    go_ret
    exact ⟨by rw [HV.out]; rfl, hb1⟩
  by_cases h10 : kind = 10
  · subst h10
    have HV : Hid (holdsS 10 xs = ((twoS xs).2.2 && (decide (1 ≤ (twoS xs).1) && (decide ((twoS xs).1 ≤ 255) && decide ((twoS xs).2.1 ≤ (twoS xs).1))))) := (show holdsS 10 xs = ((hopS xs).2.2 == 0) from rfl).trans (hop_two xs)
    go_enter Try.func69, Try.ntmps69
    go_wp2_with fail
    refine (two_d ao cap xs w hx HN.out hl).mono ?_
    rintro e w1 ⟨rfl, hb1⟩
    obtain ⟨v, hv⟩ : ∃ v, v = (twoS xs).1 := ⟨_, rfl⟩
    obtain ⟨c, hc⟩ : ∃ v, v = (twoS xs).2.1 := ⟨_, rfl⟩
    obtain ⟨r, hr⟩ : ∃ v, v = (twoS xs).2.2 := ⟨_, rfl⟩
    rw [← hv, ← hc, ← hr] at HV ⊢
    clear hv hc hr
    rcases r with _ | _
    · go_wp2
      go_ret
      exact ⟨by rw [HV.out]; rfl, hb1⟩
    · by_cases h1 : 1 ≤ v
      · by_cases h2 : v ≤ 255
        · by_cases h3 : c ≤ v
          · go_wp2
            go_ret
            exact ⟨by rw [HV.out]; simp [h1, h2, h3] <;> omega, hb1⟩
          · go_wp2
            go_ret
            exact ⟨by rw [HV.out]; simp [h1, h2, h3] <;> omega, hb1⟩
        · go_wp2
          go_ret
          exact ⟨by rw [HV.out]; simp [h1, h2] <;> omega, hb1⟩
      · go_wp2
        go_ret
        exact ⟨by rw [HV.out]; simp [h1] <;> omega, hb1⟩
  have HV : Hid (holdsS kind xs = true) := holdsS_other h6 h7 h10
  go_enter Try.func69, Try.ntmps69
  go_wp2
  go_ret
  exact ⟨by rw [HV.out]; rfl, Below.refl _ _⟩
end Go.Proofs.Ytdpkommmkcmifab
