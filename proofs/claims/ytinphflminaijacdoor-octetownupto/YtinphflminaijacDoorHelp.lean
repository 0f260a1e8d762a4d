import Derived.Test.YtinphflminaijacDoorApp
import Derived.Lib.AppendStr
import Derived.Deep.AppendLies
import Derived.Lib.Strings
import Derived.Laws.BytesArg
import Derived.RegionTactic
import Derived.ChangeAlike
namespace Go.Proofs.YtinphflminaijacDoor
set_option linter.unusedVariables false
set_option linter.unusedSimpArgs false
open Go.RowKit
def marksL : List UInt8 := [11, 12, 13, 14, 15, 16, 17, 18]
def marksB : ByteArray := ⟨#[11, 12, 13, 14, 15, 16, 17, 18]⟩
theorem strCells_marks : Lib.strCells marksB = bv marksL := rfl

/-- append(v, s...), v of the call's own, s a string -/
theorem wp_app_str {w : World} {ops : Array Oper} {rest : List Oper} {o : Oper} {a : Act} {Q : Exit → Act → World → Prop} (hgd : o.guard = none) (s x : Operand)
    (ho : o.op = .call { callee := .builtin .append, args := #[s, x], argTypes := #[25, 9] }) (B : Nat) (v : Value) (xs : List UInt8)
    (hs : a.eval s = v) (hown : Own w B v xs) (hx : a.eval x = .string marksB)
    (hb : xs.length + 8 ≤ 140737488355328) (hbase : B ≤ w.heap.size)
    (h : ∀ v' w', Own w' B v' (xs ++ marksL) → w.grownBy w' v.ownBlock → wpList Tryd.prog ops Q rest (a.put o.dst v') w') : wpList Tryd.prog ops Q (o :: rest) a w := by
  obtain ⟨i0, hi, hz0, hz1, hz2⟩ := info_parts info5
  obtain ⟨v', w', hr, h2, h3, -⟩ := Lib.run_append_own_string (P := Tryd.prog) w B 25 9 o.type 5 i0 Tryd.underlying25 Tryd.underlying9 hi hz0 hz1 hz2 v xs.length (bv xs) hown marksB
    (by simp only [maxLen]; show xs.length + 8 ≤ _; omega) (by show xs.length + 8 ≤ _; omega) hbase
  refine Lib.wpList_append_run w hgd s x 25 9 ho v (.string marksB) hs hx v' w' hr ?_
  refine h v' w' ?_ h3
  unfold Own
  rw [bv_append, List.length_append, ← strCells_marks]
  exact h2

set_option maxRecDepth 20000 in
set_option maxHeartbeats 400000 in
theorem lent_any (ao : Option Addr) (cap : Nat) (xs : List UInt8) (w : World) (hx : Rd w ao xs) (hnil : ao = none → cap = 0) (hl : xs.length + 8 ≤ 140737488355328) :
    Calls Tryd.prog 25 #[.slice ao xs.length cap] w fun e w' => ∃ v, e = .returned v ∧ Own w' w.heap.size v (xs ++ marksL) ∧ Below w.heap.size w w' := by
  have HN : Hid (ao = none → cap = 0) := hnil
  clear hnil
  have h0 : Own w w.heap.size (.slice none 0 0) [] := World.ownsRow_nil _ _ _ _
  go_enter Tryd.func25, Tryd.ntmps25
  go_wp2_with (first
    | (at_builtin; refine wp_app rfl _ _ rfl w.heap.size (.slice none 0 0) [] xs _ _ rfl h0 rfl hx HN.out (by simp; omega) (Nat.le_refl _) ?_; intro v2 w2 hown2 hg2)
    | (at_builtin; refine wp_app_str rfl _ _ rfl w.heap.size _ ([] ++ xs) rfl hown2 rfl (by simpa using hl) hg2.size ?_; intro v3 w3 hown3 hg3))
  go_ret
  have hb2 : Below w.heap.size w w2 := (Below.refl _ w).grown hg2 (Nat.le_refl _) (fun k hk => by cases hk)
  refine ⟨_, rfl, by simpa using hown3, hb2.grown hg3 hg2.size (fun k hk => (World.ownsRow.lt hown2 k hk).1)⟩

theorem conv_rd' {w : World} {ao : Option Addr} {xs : List UInt8} (h : Rd w ao xs) (n cap : Nat) (hn : n = xs.length) :
    (convert 25 9 (.slice ao n cap)).run Tryd.prog w = .ok (.string ⟨xs.toArray⟩) w := by
  subst hn
  by_cases h0 : 0 < xs.length
  · obtain ⟨b, o, rfl, hc⟩ := h h0
    rw [run_convert_bytes_arg w 25 5 Tryd.underlying25 Tryd.underlying5 b o xs.length cap (xs.map fun b => (b.toNat : Int)) (by simp) (fun i hi => by rw [hc i hi]; simp [hi]) 9 Tryd.underlying9]
    congr 2
    unfold strOfNums
    congr 2
    rw [List.map_map]
    conv => rhs; rw [← List.map_id xs]
    apply List.map_congr_left
    intro a _
    simp
  · obtain rfl : xs = [] := List.eq_nil_of_length_eq_zero (by omega)
    rw [List.length_nil, run_convert_bytes_string w 25 9 5 _ 0 cap Tryd.underlying25 Tryd.underlying5 Tryd.underlying9]
    cases ao <;> simp [Conv.bytesToString, loadCells]
    all_goals rfl

set_option maxRecDepth 20000 in
set_option maxHeartbeats 400000 in
theorem stays_any (ao : Option Addr) (cap : Nat) (ys : List UInt8) (bo : Option Addr) (cap' : Nat) (xs : List UInt8) (w : World) (hy : Rd w ao ys) (hx : Rd w bo xs) (hl : xs.length ≤ 140737488355328) :
    Calls Tryd.prog 29 #[.slice ao ys.length cap, .slice bo xs.length cap'] w fun e w' => e = .returned (.bool (ys == xs ++ marksL)) ∧ w' = w := by
  have h1 := conv_rd' hy _ cap rfl
  have h2 := conv_rd' hx _ cap' rfl
  go_enter Tryd.func29, Tryd.ntmps29
  go_wp2
  go_ret
  have e : ((⟨xs.toArray⟩ : ByteArray) ++ (⟨#[11, 12, 13, 14, 15, 16, 17, 18]⟩ : ByteArray)).toList = xs ++ marksL := by
    rw [Lib.toList_data]; simp [marksL]
  rw [← e]
  exact ⟨rfl, rfl⟩

/-- every byte changed by exclusive or -/
def xorL (c : UInt8) (xs : List UInt8) : List UInt8 := xs.map (· ^^^ c)
theorem xorL_len (c : UInt8) (xs : List UInt8) : (xorL c xs).length = xs.length := by simp [xorL]
theorem set_mid (A : List UInt8) (x y : UInt8) (R : List UInt8) (k : Nat) (hk : k = A.length) : (A ++ x :: R).set k y = A ++ y :: R := by
  subst hk
  rw [List.set_append_right _ _ (Nat.le_refl _), Nat.sub_self]
  rfl
theorem get_mid (A : List UInt8) (x : UInt8) (R : List UInt8) (k : Nat) (hk : k = A.length) (h : k < (A ++ x :: R).length) : (A ++ x :: R)[k] = x := by
  subst hk
  rw [List.getElem_append_right (Nat.le_refl _)]
  simp
theorem xorL_app (c : UInt8) (xs ys : List UInt8) : xorL c (xs ++ ys) = xorL c xs ++ xorL c ys := by unfold xorL; rw [List.map_append]
theorem xorL_snoc (c : UInt8) (xs : List UInt8) (k : Nat) (h : k < xs.length) (ys : List UInt8) : (xorL c (xs.take k) ++ (xs.drop k ++ ys)).set k (xs[k] ^^^ c) = xorL c (xs.take (k + 1)) ++ (xs.drop (k + 1) ++ ys) := by
  have hl : k = (xorL c (xs.take k)).length := by rw [xorL_len, List.length_take]; omega
  rw [List.drop_eq_getElem_cons h, List.cons_append, set_mid _ _ _ _ k hl, List.take_succ_eq_append_getElem h, xorL_app, List.append_assoc]
  rfl
theorem xorL_at (c : UInt8) (xs : List UInt8) (k : Nat) (h : k < xs.length) (ys : List UInt8) (h2 : k < (xorL c (xs.take k) ++ (xs.drop k ++ ys)).length) : (xorL c (xs.take k) ++ (xs.drop k ++ ys))[k] = xs[k] := by
  have hl : k = (xorL c (xs.take k)).length := by rw [xorL_len, List.length_take]; omega
  have e : xorL c (xs.take k) ++ (xs.drop k ++ ys) = xorL c (xs.take k) ++ xs[k] :: (xs.drop (k + 1) ++ ys) := by rw [List.drop_eq_getElem_cons h, List.cons_append]
  simp only [e]
  exact get_mid _ _ _ k hl _

/-- v is the slice at the head of block g -/
theorem own_head {w : World} {B : Nat} {v : Value} {xs : List UInt8} (h : Own w B v xs) (hp : 0 < xs.length) : ∃ g cap, v = .slice (some ⟨g, 0, none⟩) xs.length cap ∧ xs.length ≤ cap ∧ cap ≤ maxLen ∧ B ≤ g ∧ g < w.heap.size := by
  rcases h.2 with ⟨-, h0⟩ | ⟨g, cap, cur, rfl, hB, hg, hn, hm, -⟩
  · omega
  · exact ⟨g, cap, rfl, hn, hm, hB, (Array.getElem?_eq_some_iff.1 hg).1⟩

set_option maxRecDepth 20000 in
set_option maxHeartbeats 800000 in
theorem turned_any (B g cap : Nat) (xs : List UInt8) (w : World) (hown : Own w B (.slice (some ⟨g, 0, none⟩) (xs.length + 8) cap) (xs ++ marksL)) (hl : xs.length ≤ 140737488355328) (hlc : xs.length + 8 ≤ cap) :
    Calls Tryd.prog 30 #[.slice (some ⟨g, 0, none⟩) (xs.length + 8) cap] w fun e w' => ∃ v, e = .returned v ∧ Own w' w.heap.size v (xorL 21 xs) ∧ Own w' B (.slice (some ⟨g, 0, none⟩) (xs.length + 8) cap) (xorL 21 xs ++ marksL) ∧ w.grownBy w' (some g) := by
  have hgB : B ≤ g ∧ g < w.heap.size := World.ownsRow.lt hown g rfl
  go_enter Tryd.func30, Tryd.ntmps30
  go_wp2
  go_loopw [4] (fun i wr => ∃ k : Nat, k ≤ xs.length ∧ i = .int .i64 k ∧ Own wr B (.slice (some ⟨g, 0, none⟩) (xs.length + 8) cap) (xorL 21 (xs.take k) ++ (xs.drop k ++ marksL)) ∧ w.grownBy wr (some g)) (fun i _ => xs.length - (intOf i).toNat)
  case atStart => exact ⟨0, Nat.zero_le _, rfl, by simpa [xorL] using hown, World.grownBy.refl _ _⟩
  case round =>
    obtain ⟨k, hk, rfl, hok, hgk⟩ := hrel
    clear hown
    by_cases hlt : k < xs.length
    · have hlen : (xorL 21 (xs.take k) ++ (xs.drop k ++ marksL)).length = xs.length + 8 := by simp [xorL_len, marksL]; omega
      have hok' := hok
      rw [← hlen] at hok'
      have hcell : wr.cell? ⟨g, k, none⟩ = some (.int .u8 (xs[k].toNat : Int)) := by
        rw [World.ownsRow.cellAt hok' k (by omega), bv_get _ k (by omega), xorL_at 21 xs k hlt marksL (by omega)]
      have hfz := World.ownsRow.frozenAt hok' k
      have hst := own_set hok' k (xs[k] ^^^ 21) (bits .xor .u8 (xs[k].toNat : Int) 21) (by rw [show (21 : Int) = (((21 : UInt8).toNat : Nat) : Int) from rfl, u8_xor_ints])
      rw [hlen, xorL_snoc 21 xs k hlt] at hst
      have HST : Hid _ := hst
      clear hlen hok' hst hok
      go_wp2
      go_roundw
      case rel => exact ⟨k + 1, by omega, by go_num, HST.out.1, hgk.trans' HST.out.2⟩
      case measure => simp [intOf]; omega
    · obtain rfl : k = xs.length := by omega
      rw [List.take_length, List.drop_length, List.nil_append] at hok
      have hlen : (xorL 21 xs ++ marksL).length = xs.length + 8 := by simp [xorL_len, marksL]
      have hok' := hok
      rw [← hlen] at hok'
      obtain ⟨aq, cq, hv, -, -, -, hrq, -⟩ := hok'.val
      have hrt : Rd wr (some ⟨g, 0, none⟩) (xorL 21 xs) := by
        have h1 := hrq.take xs.length
        rw [List.take_left' (xorL_len 21 xs)] at h1
        simp only [Value.slice.injEq] at hv
        rw [hv.1]
        exact h1
      have h0 : Own wr wr.heap.size (.slice none 0 0) [] := World.ownsRow_nil _ _ _ _
      have hxl := xorL_len 21 xs
      clear hok' hv hrq hlen
      have HXL : Hid ((xorL 21 xs).length = xs.length) := hxl
      clear hxl
      go_wp2_with (at_builtin; refine wp_app rfl _ _ rfl wr.heap.size (.slice none 0 0) [] (xorL 21 xs) (some ⟨g, 0, none⟩) cap rfl h0 (by rw [HXL.out]; rfl) hrt (fun h => by cases h) (by simp [HXL.out]; omega) (Nat.le_refl _) ?_; intro v2 w2 hown2 hg2)
      go_ret
      refine ⟨_, rfl, hown2.base hgk.size, Own.grown hok hg2 (by simp [Value.ownBlock]), hgk.trans' (hg2.any _)⟩
theorem own_alloc {w : World} {B : Nat} {v : Value} {xs : List UInt8} (h : Own w B v xs) (o : Obj) : Own (w.alloc o) B v xs := h.below ((Below.refl _ _).alloc (Nat.le_refl _) o)
/-- what was grown from a on, the row apart or a new one -/
theorem grown_step {a b c : World} {row row' : Option Nat} (h : a.grownBy b row) (k : b.grownBy c row') (hr : row' = row ∨ ∀ j, row' = some j → a.heap.size ≤ j) : a.grownBy c row :=
  ⟨k.os.trans h.os, k.tape.trans h.tape, k.output.trans h.output, Nat.le_trans h.size k.size, fun i hi hne => (k.block i (Nat.lt_of_lt_of_le hi h.size) (by
    rcases hr with rfl | hr
    · exact hne
    · intro e; have := hr i e.symm; omega)).trans (h.block i hi hne)⟩

/-- append(v, c) of one byte that has just been laid: where the new slice lies -/
theorem wp_app1 {w : World} {ops : Array Oper} {rest : List Oper} {o : Oper} {a : Act} {Q : Exit → Act → World → Prop} (hgd : o.guard = none) (s x : Operand)
    (ho : o.op = .call { callee := .builtin .append, args := #[s, x], argTypes := #[25, 25] }) (B : Nat) (v : Value) (n : Nat) (xs : List UInt8) (c : UInt8) (ad : Addr) (cap : Nat)
    (hs : a.eval s = v) (hn : n = xs.length) (hown : Own w B v xs) (hx : a.eval x = .slice (some ad) 1 cap) (hr : Rd w (some ad) [c])
    (hb : xs.length + 1 ≤ 140737488355328) (hbase : B ≤ w.heap.size)
    (h : ∀ g cap w', Own w' B (.slice (some ⟨g, 0, none⟩) (n + 1) cap) (xs ++ [c]) → w.grownBy w' v.ownBlock → (v.ownBlock = some g ∨ g = w.heap.size) → wpList Tryd.prog ops Q rest (a.put o.dst (.slice (some ⟨g, 0, none⟩) (n + 1) cap)) w') : wpList Tryd.prog ops Q (o :: rest) a w := by
  subst hn
  obtain ⟨i0, hi, hz0, hz1, hz2⟩ := info_parts info5
  refine wpList_append_lies w hgd s x 25 ho B 5 i0 (.int .u8 0) 1 1 Tryd.underlying25 hi hz0 hz1 hz2 rfl (by decide) v xs.length (bv xs) hs hown ad 1 cap (bv [c]) hx (by simp [bv_length]) ?_ (bv_one [c]) (by decide) (by simp only [maxLen]; omega) (by omega) hbase w.heap.size rfl ?_
  · intro j u hj
    have hlt : j < [c].length := by
      have := (List.getElem?_eq_some_iff.1 hj).1
      simpa [bv_length] using this
    obtain ⟨b, o, h1, hc⟩ := hr (by simp)
    cases h1
    rw [bv_get [c] j hlt] at hj
    rw [Go.WideShapes.add_plain, hc j hlt]
    exact hj
  · intro g cap w' h1 h2 h3 _
    exact h g cap w' (by unfold Own; rw [bv_append, List.length_append]; exact h1) h2 h3

set_option maxRecDepth 20000 in
set_option maxHeartbeats 1600000 in
theorem spoils_any (B : Nat) (ao : Option Addr) (cap : Nat) (xs : List UInt8) (w : World) (hown : Own w B (.slice ao xs.length cap) xs) (hl : xs.length + 64 ≤ 140737488355328) (hB : B ≤ w.heap.size) :
    Calls Tryd.prog 31 #[.slice ao xs.length cap] w fun e w' => e = .returned (.bool true) ∧ w.grownBy w' (Value.ownBlock (.slice ao xs.length cap)) := by
  go_enter Tryd.func31, Tryd.ntmps31
  go_wp2
  go_loopw [3] (fun i wr => ∃ k : Nat, k ≤ xs.length ∧ i = .int .i64 k ∧ Own wr B (.slice ao xs.length cap) (xorL 106 (xs.take k) ++ (xs.drop k ++ [])) ∧ w.grownBy wr (Value.ownBlock (.slice ao xs.length cap))) (fun i _ => xs.length - (intOf i).toNat)
  case atStart => exact ⟨0, Nat.zero_le _, rfl, by simpa [xorL] using hown, World.grownBy.refl _ _⟩
  case round =>
    obtain ⟨k, hk, rfl, hok, hgk⟩ := hrel
    have hlen : (xorL 106 (xs.take k) ++ (xs.drop k ++ [])).length = xs.length := by simp [xorL_len]; omega
    by_cases hlt : k < xs.length
    · obtain ⟨g, cq, hv, -, -, -, -⟩ := own_head hown (by omega)
      simp only [Value.slice.injEq, true_and] at hv
      obtain ⟨rfl, rfl⟩ := hv
      clear hown
      have hok' := hok
      rw [← hlen] at hok'
      have hcell : wr.cell? ⟨g, k, none⟩ = some (.int .u8 (xs[k].toNat : Int)) := by
        rw [World.ownsRow.cellAt hok' k (by omega), bv_get _ k (by omega), xorL_at 106 xs k hlt [] (by omega)]
      have hfz := World.ownsRow.frozenAt hok' k
      have hst := own_set hok' k (xs[k] ^^^ 106) (bits .xor .u8 (xs[k].toNat : Int) 106) (by rw [show (106 : Int) = (((106 : UInt8).toNat : Nat) : Int) from rfl, u8_xor_ints])
      rw [hlen, xorL_snoc 106 xs k hlt] at hst
      have HST : Hid _ := hst
      clear hlen hok' hst hok
      go_wp2
      go_roundw
      case rel => exact ⟨k + 1, by omega, by go_num, HST.out.1, hgk.trans' HST.out.2⟩
      case measure => simp [intOf]; omega
    · obtain rfl : k = xs.length := by omega
      clear hown
      generalize xorL 106 (xs.take xs.length) ++ (xs.drop xs.length ++ []) = ys at *
      have HL : Hid (ys.length = xs.length) := hlen
      clear hlen
      go_wp2
      go_loopw [0, 5] (fun v i wr => ∃ (k : Nat) (a2 : Option Addr) (c2 : Nat) (zs : List UInt8), k ≤ 64 ∧ i = .int .i64 k ∧ v = .slice a2 (xs.length + k) c2 ∧ Hid (zs.length = xs.length + k) ∧ Own wr B v zs ∧ w.grownBy wr (Value.ownBlock (.slice ao xs.length cap)) ∧ (Value.ownBlock v = Value.ownBlock (.slice ao xs.length cap) ∨ ∀ j, Value.ownBlock v = some j → w.heap.size ≤ j)) (fun _ i _ => 64 - (intOf i).toNat)
      case atStart => exact ⟨0, ao, cap, ys, Nat.zero_le _, rfl, rfl, HL, hok, hgk, .inl rfl⟩
      case round =>
        obtain ⟨j, a2, c2, zs, hj, rfl, rfl, HZ, hoz, hgz, hrow⟩ := hrel
        clear hok
        by_cases hlt2 : j < 64
        · have hbyte : (j : Int) % 256 = (j : Int) := by omega
          have hwz := hgz.size
          go_wp2_with (at_builtin; refine wp_app1 rfl _ _ rfl B (.slice a2 (xs.length + j) c2) (xs.length + j) zs (UInt8.ofNat j) ⟨wr.heap.size, 0, none⟩ 1 rfl HZ.out.symm (own_alloc hoz _) rfl (rd_lit wr _ rfl _ 5 (0, 0) _ (by simp [bv]; omega)) (by rw [HZ.out]; omega) (by simp; omega) ?_; intro g2 c3 w2 hown2 hg2 hlies)
          have hl3 : (zs ++ [UInt8.ofNat j]).length = xs.length + (j + 1) := by have := HZ.out; simp; omega
          go_roundw
          case rel =>
            refine ⟨j + 1, some ⟨g2, 0, none⟩, c3, _, by omega, by go_num, rfl, hl3, hown2, ?_, ?_⟩
            · exact grown_step (grown_step hgz (World.grownBy_alloc wr _ none) (.inr (fun _ h => by cases h))) hg2 hrow
            · rcases hlies with h1 | h1
              · rcases hrow with h2 | h2
                · left; rw [← h2, h1]; rfl
                · right; intro q hq; cases hq; exact h2 _ h1
              · right; intro q hq; cases hq; rw [h1]; simp; omega
          case measure => simp [intOf]; omega
        · obtain rfl : j = 64 := by omega
          go_wp2
          go_ret
          exact ⟨rfl, hgz⟩
theorem spoils_n (B : Nat) (ao : Option Addr) (n cap : Nat) (xs : List UInt8) (hn : n = xs.length) (w : World) (hown : Own w B (.slice ao n cap) xs) (hl : n + 64 ≤ 140737488355328) (hB : B ≤ w.heap.size) :
    Calls Tryd.prog 31 #[.slice ao n cap] w fun e w' => e = .returned (.bool true) ∧ w.grownBy w' (Value.ownBlock (.slice ao n cap)) := by
  subst hn
  exact spoils_any B ao cap xs w hown hl hB
theorem stays_n (ao : Option Addr) (n cap : Nat) (ys : List UInt8) (hn : n = ys.length) (bo : Option Addr) (m cap' : Nat) (xs : List UInt8) (hm : m = xs.length) (w : World) (hy : Rd w ao ys) (hx : Rd w bo xs) (hl : m ≤ 140737488355328) (he : ys = xs ++ marksL) :
    Calls Tryd.prog 29 #[.slice ao n cap, .slice bo m cap'] w fun e w' => e = .returned (.bool true) ∧ w' = w := by
  subst hn hm
  refine (stays_any ao cap ys bo cap' xs w hy hx hl).mono ?_
  rintro e w' ⟨rfl, hw⟩
  refine ⟨?_, hw⟩
  rw [he, beq_self_eq_true]
end Go.Proofs.YtinphflminaijacDoor
