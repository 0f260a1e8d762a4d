import Derived.Test.YtplncfahpdmcoaaGreatDoorApp
import Derived.Lib.AppendStr
import Derived.Deep.AppendLies
import Derived.Lib.Strings
import Derived.Laws.BytesArg
import Derived.RegionTactic
import Derived.ChangeAlike
namespace Go.Proofs.YtplncfahpdmcoaaGreatDoor
set_option linter.unusedVariables false
set_option linter.unusedSimpArgs false
open Go.RowKit
def marksL : List UInt8 := [11, 12, 13, 14, 15, 16, 17, 18]
def marksB : ByteArray := ⟨#[11, 12, 13, 14, 15, 16, 17, 18]⟩
theorem strCells_marks : Lib.strCells marksB = bv marksL := rfl

/-- append(v, s...), v of the call's own, s a string -/
theorem wp_app_str {w : World} {ops : Array Oper} {rest : List Oper} {o : Oper} {a : Act} {Q : Exit → Act → World → Prop} (hgd : o.guard = none) (s x : Operand)
    (ho : o.op = .call { callee := .builtin .append, args := #[s, x], argTypes := #[23, 9] }) (B : Nat) (v : Value) (xs : List UInt8)
    (hs : a.eval s = v) (hown : Own w B v xs) (hx : a.eval x = .string marksB)
    (hb : xs.length + 8 ≤ 140737488355328) (hbase : B ≤ w.heap.size)
    (h : ∀ v' w', Own w' B v' (xs ++ marksL) → w.grownBy w' v.ownBlock → wpList Tryz.prog ops Q rest (a.put o.dst v') w') : wpList Tryz.prog ops Q (o :: rest) a w := by
  obtain ⟨i0, hi, hz0, hz1, hz2⟩ := info_parts info5
  obtain ⟨v', w', hr, h2, h3, -⟩ := Lib.run_append_own_string (P := Tryz.prog) w B 23 9 o.type 5 i0 Tryz.underlying23 Tryz.underlying9 hi hz0 hz1 hz2 v xs.length (bv xs) hown marksB
    (by simp only [maxLen]; show xs.length + 8 ≤ _; omega) (by show xs.length + 8 ≤ _; omega) hbase
  refine Lib.wpList_append_run w hgd s x 23 9 ho v (.string marksB) hs hx v' w' hr ?_
  refine h v' w' ?_ h3
  unfold Own
  rw [bv_append, List.length_append, ← strCells_marks]
  exact h2

theorem conv_rd' {w : World} {ao : Option Addr} {xs : List UInt8} (h : Rd w ao xs) (n cap : Nat) (hn : n = xs.length) :
    (convert 23 9 (.slice ao n cap)).run Tryz.prog w = .ok (.string ⟨xs.toArray⟩) w := by
  subst hn
  by_cases h0 : 0 < xs.length
  · obtain ⟨b, o, rfl, hc⟩ := h h0
    rw [run_convert_bytes_arg w 23 5 Tryz.underlying23 Tryz.underlying5 b o xs.length cap (xs.map fun b => (b.toNat : Int)) (by simp) (fun i hi => by rw [hc i hi]; simp [hi]) 9 Tryz.underlying9]
    congr 2
    unfold strOfNums
    congr 2
    rw [List.map_map]
    conv => rhs; rw [← List.map_id xs]
    apply List.map_congr_left
    intro a _
    simp
  · obtain rfl : xs = [] := List.eq_nil_of_length_eq_zero (by omega)
    rw [List.length_nil, run_convert_bytes_string w 23 9 5 _ 0 cap Tryz.underlying23 Tryz.underlying5 Tryz.underlying9]
    cases ao <;> simp [Conv.bytesToString, loadCells]
    all_goals rfl

/-- every byte changed by exclusive or -/
def xorL (c : UInt8) (xs : List UInt8) : List UInt8 := xs.map (· ^^^ c)
theorem xorL_len (c : UInt8) (xs : List UInt8) : (xorL c xs).length = xs.length := by simp [xorL]
theorem set_mid (A : List UInt8) (x y : UInt8) (R : List UInt8) (k : Nat) (hk : k = A.length) : (A ++ x :: R).set k y = A ++ y :: R := by
  subst hk
  rw [List.set_append_right _ _ (Nat.le_refl _), Nat.sub_self]
  rfl
theorem get_mid (A : List UInt8) (x : UInt8) (R : List UInt8) (k : Nat) (hk : k = A.length) (h : k < (A ++ x :: R).length) : (A ++ x :: R)[k] = x := by
  subst hk
  rw [List.getElem_append_right (Nat.le_refl _)]
  simp
theorem xorL_app (c : UInt8) (xs ys : List UInt8) : xorL c (xs ++ ys) = xorL c xs ++ xorL c ys := by unfold xorL; rw [List.map_append]
theorem xorL_snoc (c : UInt8) (xs : List UInt8) (k : Nat) (h : k < xs.length) (ys : List UInt8) : (xorL c (xs.take k) ++ (xs.drop k ++ ys)).set k (xs[k] ^^^ c) = xorL c (xs.take (k + 1)) ++ (xs.drop (k + 1) ++ ys) := by
  have hl : k = (xorL c (xs.take k)).length := by rw [xorL_len, List.length_take]; omega
  rw [List.drop_eq_getElem_cons h, List.cons_append, set_mid _ _ _ _ k hl, List.take_succ_eq_append_getElem h, xorL_app, List.append_assoc]
  rfl
theorem xorL_at (c : UInt8) (xs : List UInt8) (k : Nat) (h : k < xs.length) (ys : List UInt8) (h2 : k < (xorL c (xs.take k) ++ (xs.drop k ++ ys)).length) : (xorL c (xs.take k) ++ (xs.drop k ++ ys))[k] = xs[k] := by
  have hl : k = (xorL c (xs.take k)).length := by rw [xorL_len, List.length_take]; omega
  have e : xorL c (xs.take k) ++ (xs.drop k ++ ys) = xorL c (xs.take k) ++ xs[k] :: (xs.drop (k + 1) ++ ys) := by rw [List.drop_eq_getElem_cons h, List.cons_append]
  simp only [e]
  exact get_mid _ _ _ k hl _

/-- v is the slice at the head of block g -/
theorem own_head {w : World} {B : Nat} {v : Value} {xs : List UInt8} (h : Own w B v xs) (hp : 0 < xs.length) : ∃ g cap, v = .slice (some ⟨g, 0, none⟩) xs.length cap ∧ xs.length ≤ cap ∧ cap ≤ maxLen ∧ B ≤ g ∧ g < w.heap.size := by
  rcases h.2 with ⟨-, h0⟩ | ⟨g, cap, cur, rfl, hB, hg, hn, hm, -⟩
  · omega
  · exact ⟨g, cap, rfl, hn, hm, hB, (Array.getElem?_eq_some_iff.1 hg).1⟩

theorem own_alloc {w : World} {B : Nat} {v : Value} {xs : List UInt8} (h : Own w B v xs) (o : Obj) : Own (w.alloc o) B v xs := h.below ((Below.refl _ _).alloc (Nat.le_refl _) o)
/-- what was grown from a on, the row apart or a new one -/
theorem grown_step {a b c : World} {row row' : Option Nat} (h : a.grownBy b row) (k : b.grownBy c row') (hr : row' = row ∨ ∀ j, row' = some j → a.heap.size ≤ j) : a.grownBy c row :=
  ⟨k.os.trans h.os, k.tape.trans h.tape, k.output.trans h.output, Nat.le_trans h.size k.size, fun i hi hne => (k.block i (Nat.lt_of_lt_of_le hi h.size) (by
    rcases hr with rfl | hr
    · exact hne
    · intro e; have := hr i e.symm; omega)).trans (h.block i hi hne)⟩

/-- append(v, c) of one byte that has just been laid: where the new slice lies -/
theorem wp_app1 {w : World} {ops : Array Oper} {rest : List Oper} {o : Oper} {a : Act} {Q : Exit → Act → World → Prop} (hgd : o.guard = none) (s x : Operand)
    (ho : o.op = .call { callee := .builtin .append, args := #[s, x], argTypes := #[23, 23] }) (B : Nat) (v : Value) (n : Nat) (xs : List UInt8) (c : UInt8) (ad : Addr) (cap : Nat)
    (hs : a.eval s = v) (hn : n = xs.length) (hown : Own w B v xs) (hx : a.eval x = .slice (some ad) 1 cap) (hr : Rd w (some ad) [c])
    (hb : xs.length + 1 ≤ 140737488355328) (hbase : B ≤ w.heap.size)
    (h : ∀ g cap w', Own w' B (.slice (some ⟨g, 0, none⟩) (n + 1) cap) (xs ++ [c]) → w.grownBy w' v.ownBlock → (v.ownBlock = some g ∨ g = w.heap.size) → wpList Tryz.prog ops Q rest (a.put o.dst (.slice (some ⟨g, 0, none⟩) (n + 1) cap)) w') : wpList Tryz.prog ops Q (o :: rest) a w := by
  subst hn
  obtain ⟨i0, hi, hz0, hz1, hz2⟩ := info_parts info5
  refine wpList_append_lies w hgd s x 23 ho B 5 i0 (.int .u8 0) 1 1 Tryz.underlying23 hi hz0 hz1 hz2 rfl (by decide) v xs.length (bv xs) hs hown ad 1 cap (bv [c]) hx (by simp [bv_length]) ?_ (bv_one [c]) (by decide) (by simp only [maxLen]; omega) (by omega) hbase w.heap.size rfl ?_
  · intro j u hj
    have hlt : j < [c].length := by
      have := (List.getElem?_eq_some_iff.1 hj).1
      simpa [bv_length] using this
    obtain ⟨b, o, h1, hc⟩ := hr (by simp)
    cases h1
    rw [bv_get [c] j hlt] at hj
    rw [Go.WideShapes.add_plain, hc j hlt]
    exact hj
  · intro g cap w' h1 h2 h3 _
    exact h g cap w' (by unfold Own; rw [bv_append, List.length_append]; exact h1) h2 h3

end Go.Proofs.YtplncfahpdmcoaaGreatDoor
namespace Go.Proofs.YtplncfahpdmcoaaGreatDoor
set_option linter.unusedVariables false
set_option linter.unusedSimpArgs false
open Go.RowKit
theorem own_lit1 (w : World) (z : Int) (c : UInt8) (hz : z = (c.toNat : Int)) : Own (w.alloc (.cells #[.int .u8 z] 5)) w.heap.size (.slice (some ⟨w.heap.size, 0, none⟩) 1 1) [c] := by
  subst hz
  exact World.ownsRow_lit (base := w.heap.size) (e := 5) (size := 1) w #[.int .u8 (c.toNat : Int)] 1 (Nat.le_refl _) (by simp [maxLen]) rfl
theorem hiD_step (m : Nat) (suf : List UInt8) (h : m ≠ 0) : hiD m ++ suf = hiD (m / 128) ++ ([UInt8.ofNat (m % 128 + 128)] ++ suf) := by
  rw [hiD_pos m h, List.append_assoc]
set_option maxRecDepth 20000 in
set_option maxHeartbeats 800000 in
theorem refDigits_any (n : Nat) (w : World) (hn : n < 18446744073709551616) :
    Calls Tryz.prog 41 #[.int .u64 n] w fun e w' => ∃ v, e = .returned v ∧ Own w' w.heap.size v (dg n) ∧ Below w.heap.size w w' := by
  have hnI : (n : Int) < 18446744073709551616 := by omega
  have hw0 : IntKind.u64.wrap ((n : Int) / 128) = ((n / 128 : Nat) : Int) := by rw [IntKind.wrap_u64]; omega
  obtain ⟨q0, hq0⟩ : ∃ q : Nat, q = n / 128 := ⟨_, rfl⟩
  rw [← hq0] at hw0
  have hql : q0 < 144115188075855872 := by omega
  have HQ : Hid (q0 = n / 128) := hq0
  clear hq0 hn hnI
  go_enter Tryz.func41, Tryz.ntmps41
  go_wp2
  go_loopw [0, 3] (fun t v wr => ∃ (m : Nat) (suf : List UInt8), t = .int .u64 m ∧ m < 144115188075855872 ∧ Hid (dg n = hiD m ++ suf) ∧ Hid (suf.length + (hiD m).length ≤ 10) ∧ Own wr w.heap.size v suf ∧ Below w.heap.size w wr) (fun t _ _ => (intOf t).toNat)
  case atStart =>
    refine ⟨q0, [UInt8.ofNat (n % 128)], rfl, hql, by rw [HQ.out]; rfl, ?_, own_lit1 w _ _ (by rw [u8_lo]; simp), (Below.refl _ _).alloc (Nat.le_refl _) _⟩
    have := hiD_len 9 q0 (by omega)
    unfold Hid
    simp
    omega
  case round =>
    obtain ⟨m, suf, rfl, hm, HD, HLn, hown, hbel⟩ := hrel
    by_cases h0 : m = 0
    · subst h0
      have hd := HD.out
      rw [hiD_zero, List.nil_append] at hd
      clear HD hw0
      go_wp2
      go_ret
      exact ⟨_, rfl, hd ▸ hown, hbel⟩
    · have hpos : (0 : Int) < (m : Int) := by omega
      have hwm : IntKind.u64.wrap ((m : Int) / 128) = ((m / 128 : Nat) : Int) := by rw [IntKind.wrap_u64]; omega
      obtain ⟨q, hq⟩ : ∃ q : Nat, q = m / 128 := ⟨_, rfl⟩
      rw [← hq] at hwm
      have HD2 : Hid (dg n = hiD q ++ ([UInt8.ofNat (m % 128 + 128)] ++ suf)) := by unfold Hid; rw [HD.out, hq]; exact hiD_step m suf h0
      have HL2 : Hid (([UInt8.ofNat (m % 128 + 128)] ++ suf).length + (hiD q).length ≤ 10) := by
        have := HLn.out
        rw [hiD_pos m h0, ← hq, List.length_append] at this
        unfold Hid
        simp at this ⊢
        omega
      have hqm : q < m := by omega
      have HQL2 : Hid (q < 144115188075855872) := by unfold Hid; omega
      have hsz := hbel.size
      obtain ⟨ao, cp, hv, -, -, hnil, hr, -⟩ := hown.val
      have HNI : Hid (ao = none → cp = 0) := hnil
      have hsl : suf.length ≤ 10 := by have := HLn.out; omega
      subst hv
      clear HD HLn hq hm hnil h0 hw0
      go_wp2_with (at_builtin; refine wp_app rfl _ _ rfl wr.heap.size _ [UInt8.ofNat (m % 128 + 128)] suf ao cp rfl (own_lit1 wr _ _ (by rw [u8_hi]; omega)) rfl (hr.alloc _) HNI.out (by simp; omega) (by simp) ?_; intro v2 w2 hown2 hg2)
      go_roundw
      case rel => exact ⟨q, _, rfl, HQL2.out, HD2, HL2, hown2.base hsz, (hbel.alloc hsz _).grown hg2 (by simp; omega) (fun k hk => by have := (World.ownsRow.lt (own_lit1 wr _ (UInt8.ofNat (m % 128 + 128)) (by rw [u8_hi])) k hk).1; omega)⟩
      case measure => simp [intOf]; omega
set_option maxRecDepth 20000 in
set_option maxHeartbeats 800000 in
theorem refAppendNumber_n (ao : Option Addr) (l cap : Nat) (xs : List UInt8) (hl0 : l = xs.length) (n : Nat) (w : World) (hx : Rd w ao xs) (hnil : ao = none → cap = 0) (hl : l + 10 ≤ 140737488355328) (hn : n < 18446744073709551616) :
    Calls Tryz.prog 62 #[.slice ao l cap, .int .u64 n] w fun e w' => ∃ v, e = .returned v ∧ Own w' w.heap.size v (xs ++ dg n) ∧ Below w.heap.size w w' := by
  subst hl0
  have HN : Hid (ao = none → cap = 0) := hnil
  clear hnil
  have hdl := dg_len n hn
  have h0 : Own w w.heap.size (.slice none 0 0) [] := World.ownsRow_nil _ _ _ _
  go_enter Tryz.func62, Tryz.ntmps62
  go_wp2_with (at_builtin; refine wp_app rfl _ _ rfl w.heap.size (.slice none 0 0) [] xs _ _ rfl h0 rfl hx HN.out (by simp; omega) (Nat.le_refl _) ?_; intro v2 w2 hown2 hg2)
  have hb2 : Below w.heap.size w w2 := (Below.refl _ w).grown hg2 (Nat.le_refl _) (fun k hk => by cases hk)
  go_wp2_with fail
  refine (refDigits_any n w2 hn).mono ?_
  rintro e w3 ⟨v3, rfl, hown3, hb3⟩
  have hown2' := hown2.below hb3
  obtain ⟨a3, c3, rfl, -, -, hn3, hr3, -⟩ := hown3.val
  have HN3 : Hid (a3 = none → c3 = 0) := hn3
  have hz := hb2.size
  have hz3 := hb3.size
  clear hn3
  go_wp2_with (at_builtin; refine wp_app rfl _ _ rfl w.heap.size v2 ([] ++ xs) (dg n) _ _ rfl hown2' rfl hr3 HN3.out (by simp; omega) (by omega) ?_; intro v4 w4 hown4 hg4)
  go_ret
  refine ⟨_, rfl, by simpa using hown4, (hb2.trans (hb3.mono hz)).grown hg4 (by omega) (fun k hk => (World.ownsRow.lt hown2' k hk).1)⟩
theorem appendNumber_n (ao : Option Addr) (l cap : Nat) (xs : List UInt8) (hl0 : l = xs.length) (n : Nat) (w : World) (hx : Rd w ao xs) (hnil : ao = none → cap = 0) (hl : l + 10 ≤ 140737488355328) (hn : n < 18446744073709551616) :
    Calls Tryz.prog 47 #[.slice ao l cap, .int .u64 n] w fun e w' => ∃ v, e = .returned v ∧ Own w' w.heap.size v (xs ++ dg n) ∧ Below w.heap.size w w' := by
  subst hl0; exact appendNumber_any ao cap xs n w hx hnil hl hn
end Go.Proofs.YtplncfahpdmcoaaGreatDoor
namespace Go.Proofs.YtplncfahpdmcoaaGreatDoor
set_option linter.unusedVariables false
set_option linter.unusedSimpArgs false
open Go.RowKit
theorem cells3 {w : World} {b : Nat} {p q r : Part} (h0 : w.cell? ⟨b, 0, none⟩ = some p.v) (h1 : w.cell? ⟨b, 1, none⟩ = some q.v) (h2 : w.cell? ⟨b, 2, none⟩ = some r.v) (hp : p.ok w) (hq : q.ok w) (hr : r.ok w) :
    ∀ j (h : j < [p, q, r].length), w.cell? ⟨b, 0 + j, none⟩ = some [p, q, r][j].v ∧ [p, q, r][j].ok w := by
  intro j hj
  match j, hj with
  | 0, _ => exact ⟨h0, hp⟩
  | 1, _ => exact ⟨h1, hq⟩
  | 2, _ => exact ⟨h2, hr⟩
theorem catL3 (p q r : Part) : catL [p, q, r] = p.xs ++ (q.xs ++ r.xs) := by simp [catL]
set_option maxRecDepth 20000 in
set_option maxHeartbeats 800000 in
theorem appendBytes_n (ao : Option Addr) (l cap : Nat) (xs : List UInt8) (hl0 : l = xs.length) (bo : Option Addr) (m cap' : Nat) (ys : List UInt8) (hm0 : m = ys.length) (w : World) (hx : Rd w ao xs) (hy : Rd w bo ys) (hnil : ao = none → cap = 0) (hnil' : bo = none → cap' = 0) (hl : l + m + 10 ≤ 140737488355328) :
    Calls Tryz.prog 93 #[.slice ao l cap, .slice bo m cap'] w fun e w' => ∃ v, e = .returned v ∧ Own w' w.heap.size v (xs ++ (dg ys.length ++ ys)) ∧ Below w.heap.size w w' := by
  subst hl0 hm0
  have hyb : ys.length < 18446744073709551616 := by omega
  have hdl := dg_len ys.length hyb
  have HN : Hid (ao = none → cap = 0) := hnil
  have HN' : Hid (bo = none → cap' = 0) := hnil'
  have HY : Hid (ys.length < 18446744073709551616) := hyb
  clear hnil hnil' hyb
  go_enter Tryz.func93, Tryz.ntmps93
  go_wp2_with fail
  refine (digits_any ys.length w HY.out).mono ?_
  rintro e w1 ⟨k, hk, rfl, hr1, hb1, hs1⟩
  have HK : Hid (k + (dg ys.length).length = 10) := hk
  clear hk
  go_wp2_with fail
  refine (concat_any w1.heap.size 0 3 [⟨ao, cap, xs⟩, ⟨some ⟨w.heap.size, k, none⟩, (dg ys.length).length, dg ys.length⟩, ⟨bo, cap', ys⟩] _ (by simp) (cells3 (by simp [Part.v]) (by simp [Part.v]) (by simp [Part.v]) ⟨(hx.below hb1).alloc _, HN.out⟩ ⟨hr1.alloc _, fun h => by cases h⟩ ⟨(hy.below hb1).alloc _, HN'.out⟩) (by rw [catL3]; simp only [List.length_append]; omega)).mono ?_
  rintro e w2 ⟨v, rfl, hown, hb2⟩
  go_wp2
  go_ret
  rw [catL3] at hown
  have hz : w.heap.size ≤ (w1.alloc (.cells #[.slice ao xs.length cap, .slice (some ⟨w.heap.size, k, none⟩) (dg ys.length).length (dg ys.length).length, .slice bo ys.length cap'] 23)).heap.size := by simp; omega
  exact ⟨v, rfl, hown.base hz, (hb1.alloc (by omega) _).trans (hb2.mono hz)⟩
set_option maxRecDepth 20000 in
set_option maxHeartbeats 800000 in
theorem refAppendBytes_n (ao : Option Addr) (l cap : Nat) (xs : List UInt8) (hl0 : l = xs.length) (bo : Option Addr) (m cap' : Nat) (ys : List UInt8) (hm0 : m = ys.length) (w : World) (hx : Rd w ao xs) (hy : Rd w bo ys) (hnil : ao = none → cap = 0) (hnil' : bo = none → cap' = 0) (hl : l + m + 10 ≤ 140737488355328) :
    Calls Tryz.prog 42 #[.slice ao l cap, .slice bo m cap'] w fun e w' => ∃ v, e = .returned v ∧ Own w' w.heap.size v (xs ++ (dg ys.length ++ ys)) ∧ Below w.heap.size w w' := by
  subst hl0 hm0
  have hyb : ys.length < 18446744073709551616 := by omega
  have hdl := dg_len ys.length hyb
  have HN : Hid (ao = none → cap = 0) := hnil
  have HN' : Hid (bo = none → cap' = 0) := hnil'
  have HY : Hid (ys.length < 18446744073709551616) := hyb
  clear hnil hnil' hyb
  go_enter Tryz.func42, Tryz.ntmps42
  go_wp2_with fail
  refine (refAppendNumber_n ao _ cap xs rfl ys.length w hx HN.out (by omega) HY.out).mono ?_
  rintro e w1 ⟨v1, rfl, hown1, hb1⟩
  have hz := hb1.size
  go_wp2_with (at_builtin; refine wp_app rfl _ _ rfl w.heap.size v1 (xs ++ dg ys.length) ys bo cap' rfl hown1 rfl (hy.below hb1) HN'.out (by simp only [List.length_append]; omega) hz ?_; intro v2 w2 hown2 hg2)
  go_ret
  refine ⟨_, rfl, by simpa [List.append_assoc] using hown2, hb1.grown hg2 hz (fun k hk => (World.ownsRow.lt hown1 k hk).1)⟩
end Go.Proofs.YtplncfahpdmcoaaGreatDoor
