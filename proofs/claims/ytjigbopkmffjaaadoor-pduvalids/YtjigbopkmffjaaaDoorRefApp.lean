import Derived.Test.YtjigbopkmffjaaaDoorHelp
namespace Go.Proofs.YtjigbopkmffjaaaDoor
set_option linter.unusedVariables false
set_option linter.unusedSimpArgs false
open Go.RowKit
theorem own_lit1 (w : World) (z : Int) (c : UInt8) (hz : z = (c.toNat : Int)) : Own (w.alloc (.cells #[.int .u8 z] 5)) w.heap.size (.slice (some ⟨w.heap.size, 0, none⟩) 1 1) [c] := by
  subst hz
  exact World.ownsRow_lit (base := w.heap.size) (e := 5) (size := 1) w #[.int .u8 (c.toNat : Int)] 1 (Nat.le_refl _) (by simp [maxLen]) rfl
theorem hiD_step (m : Nat) (suf : List UInt8) (h : m ≠ 0) : hiD m ++ suf = hiD (m / 128) ++ ([UInt8.ofNat (m % 128 + 128)] ++ suf) := by
  rw [hiD_pos m h, List.append_assoc]
set_option maxRecDepth 20000 in
set_option maxHeartbeats 800000 in
theorem refDigits_any (n : Nat) (w : World) (hn : n < 18446744073709551616) :
    Calls Tryd.prog 42 #[.int .u64 n] w fun e w' => ∃ v, e = .returned v ∧ Own w' w.heap.size v (dg n) ∧ Below w.heap.size w w' := by
  have hnI : (n : Int) < 18446744073709551616 := by omega
  have hw0 : IntKind.u64.wrap ((n : Int) / 128) = ((n / 128 : Nat) : Int) := by rw [IntKind.wrap_u64]; omega
  obtain ⟨q0, hq0⟩ : ∃ q : Nat, q = n / 128 := ⟨_, rfl⟩
  rw [← hq0] at hw0
  have hql : q0 < 144115188075855872 := by omega
  have HQ : Hid (q0 = n / 128) := hq0
  clear hq0 hn hnI
  go_enter Tryd.func42, Tryd.ntmps42
  go_wp2
  go_loopw [0, 3] (fun t v wr => ∃ (m : Nat) (suf : List UInt8), t = .int .u64 m ∧ m < 144115188075855872 ∧ Hid (dg n = hiD m ++ suf) ∧ Hid (suf.length + (hiD m).length ≤ 10) ∧ Own wr w.heap.size v suf ∧ Below w.heap.size w wr) (fun t _ _ => (intOf t).toNat)
  case atStart =>
    refine ⟨q0, [UInt8.ofNat (n % 128)], rfl, hql, by rw [HQ.out]; rfl, ?_, own_lit1 w _ _ (by rw [u8_lo]; simp), (Below.refl _ _).alloc (Nat.le_refl _) _⟩
    have := hiD_len 9 q0 (by omega)
    unfold Hid
    simp
    omega
  case round =>
    obtain ⟨m, suf, rfl, hm, HD, HLn, hown, hbel⟩ := hrel
    by_cases h0 : m = 0
    · subst h0
      have hd := HD.out
      rw [hiD_zero, List.nil_append] at hd
      clear HD hw0
      go_wp2
      go_ret
      exact ⟨_, rfl, hd ▸ hown, hbel⟩
    · have hpos : (0 : Int) < (m : Int) := by omega
      have hwm : IntKind.u64.wrap ((m : Int) / 128) = ((m / 128 : Nat) : Int) := by rw [IntKind.wrap_u64]; omega
      obtain ⟨q, hq⟩ : ∃ q : Nat, q = m / 128 := ⟨_, rfl⟩
      rw [← hq] at hwm
      have HD2 : Hid (dg n = hiD q ++ ([UInt8.ofNat (m % 128 + 128)] ++ suf)) := by unfold Hid; rw [HD.out, hq]; exact hiD_step m suf h0
      have HL2 : Hid (([UInt8.ofNat (m % 128 + 128)] ++ suf).length + (hiD q).length ≤ 10) := by
        have := HLn.out
        rw [hiD_pos m h0, ← hq, List.length_append] at this
        unfold Hid
        simp at this ⊢
        omega
      have hqm : q < m := by omega
      have HQL2 : Hid (q < 144115188075855872) := by unfold Hid; omega
      have hsz := hbel.size
      obtain ⟨ao, cp, hv, -, -, hnil, hr, -⟩ := hown.val
      have HNI : Hid (ao = none → cp = 0) := hnil
      have hsl : suf.length ≤ 10 := by have := HLn.out; omega
      subst hv
      clear HD HLn hq hm hnil h0 hw0
      go_wp2_with (at_builtin; refine wp_app rfl _ _ rfl wr.heap.size _ [UInt8.ofNat (m % 128 + 128)] suf ao cp rfl (own_lit1 wr _ _ (by rw [u8_hi]; omega)) rfl (hr.alloc _) HNI.out (by simp; omega) (by simp) ?_; intro v2 w2 hown2 hg2)
      go_roundw
      case rel => exact ⟨q, _, rfl, HQL2.out, HD2, HL2, hown2.base hsz, (hbel.alloc hsz _).grown hg2 (by simp; omega) (fun k hk => by have := (World.ownsRow.lt (own_lit1 wr _ (UInt8.ofNat (m % 128 + 128)) (by rw [u8_hi])) k hk).1; omega)⟩
      case measure => simp [intOf]; omega
set_option maxRecDepth 20000 in
set_option maxHeartbeats 800000 in
theorem refAppendNumber_n (ao : Option Addr) (l cap : Nat) (xs : List UInt8) (hl0 : l = xs.length) (n : Nat) (w : World) (hx : Rd w ao xs) (hnil : ao = none → cap = 0) (hl : l + 10 ≤ 140737488355328) (hn : n < 18446744073709551616) :
    Calls Tryd.prog 72 #[.slice ao l cap, .int .u64 n] w fun e w' => ∃ v, e = .returned v ∧ Own w' w.heap.size v (xs ++ dg n) ∧ Below w.heap.size w w' := by
  subst hl0
  have HN : Hid (ao = none → cap = 0) := hnil
  clear hnil
  have hdl := dg_len n hn
  have h0 : Own w w.heap.size (.slice none 0 0) [] := World.ownsRow_nil _ _ _ _
  go_enter Tryd.func72, Tryd.ntmps72
  go_wp2_with (at_builtin; refine wp_app rfl _ _ rfl w.heap.size (.slice none 0 0) [] xs _ _ rfl h0 rfl hx HN.out (by simp; omega) (Nat.le_refl _) ?_; intro v2 w2 hown2 hg2)
  have hb2 : Below w.heap.size w w2 := (Below.refl _ w).grown hg2 (Nat.le_refl _) (fun k hk => by cases hk)
  go_wp2_with fail
  refine (refDigits_any n w2 hn).mono ?_
  rintro e w3 ⟨v3, rfl, hown3, hb3⟩
  have hown2' := hown2.below hb3
  obtain ⟨a3, c3, rfl, -, -, hn3, hr3, -⟩ := hown3.val
  have HN3 : Hid (a3 = none → c3 = 0) := hn3
  have hz := hb2.size
  have hz3 := hb3.size
  clear hn3
  go_wp2_with (at_builtin; refine wp_app rfl _ _ rfl w.heap.size v2 ([] ++ xs) (dg n) _ _ rfl hown2' rfl hr3 HN3.out (by simp; omega) (by omega) ?_; intro v4 w4 hown4 hg4)
  go_ret
  refine ⟨_, rfl, by simpa using hown4, (hb2.trans (hb3.mono hz)).grown hg4 (by omega) (fun k hk => (World.ownsRow.lt hown2' k hk).1)⟩
theorem appendNumber_n (ao : Option Addr) (l cap : Nat) (xs : List UInt8) (hl0 : l = xs.length) (n : Nat) (w : World) (hx : Rd w ao xs) (hnil : ao = none → cap = 0) (hl : l + 10 ≤ 140737488355328) (hn : n < 18446744073709551616) :
    Calls Tryd.prog 62 #[.slice ao l cap, .int .u64 n] w fun e w' => ∃ v, e = .returned v ∧ Own w' w.heap.size v (xs ++ dg n) ∧ Below w.heap.size w w' := by
  subst hl0; exact appendNumber_any ao cap xs n w hx hnil hl hn
end Go.Proofs.YtjigbopkmffjaaaDoor
