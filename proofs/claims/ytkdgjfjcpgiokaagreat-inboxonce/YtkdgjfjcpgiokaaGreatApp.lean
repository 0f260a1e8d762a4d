import Derived.Test.YtkdgjfjcpgiokaaGreatNum
import Derived.Lib.AppendZeros
import Derived.Laws.AppendOwnNone
namespace Go.Proofs.YtkdgjfjcpgiokaaGreat
set_option linter.unusedVariables false
set_option linter.unusedSimpArgs false
open Go.RowKit

theorem info5 : (Tryz.prog.info? 5).map (fun i => (i.zero, i.size, i.bytes)) = some (some (.int .u8 0), 1, 1) := by kernel_rfl

/-- append(v, x...), v of the call's own, x whatever readable slice -/
theorem wp_app {w : World} {ops : Array Oper} {rest : List Oper} {o : Oper} {a : Act} {Q : Exit → Act → World → Prop} (hgd : o.guard = none) (s x : Operand)
    (ho : o.op = .call { callee := .builtin .append, args := #[s, x], argTypes := #[24, 24] }) (B : Nat) (v : Value) (xs ys : List UInt8) (ao : Option Addr) (cap : Nat)
    (hs : a.eval s = v) (hown : Own w B v xs) (hx : a.eval x = .slice ao ys.length cap) (hr : Rd w ao ys) (hnil : ao = none → cap = 0)
    (hb : xs.length + ys.length ≤ 140737488355328) (hbase : B ≤ w.heap.size)
    (h : ∀ v' w', Own w' B v' (xs ++ ys) → w.grownBy w' v.ownBlock → wpList Tryz.prog ops Q rest (a.put o.dst v') w') : wpList Tryz.prog ops Q (o :: rest) a w := by
  obtain ⟨i0, hi, hz0, hz1, hz2⟩ := info_parts info5
  rcases ao with _ | ad
  · have h0 : ys = [] := by
      rcases ys with _ | ⟨y, ys⟩
      · rfl
      · obtain ⟨b, o, h1, _⟩ := hr (by simp); cases h1
    subst h0
    obtain rfl := hnil rfl
    refine wpList_append_own_none hgd s x 24 ho B 5 i0 1 Tryz.underlying24 hi v xs.length (bv xs) hs hown hx ?_
    exact h v w (by simpa using hown) ⟨rfl, rfl, rfl, Nat.le_refl _, fun _ _ _ => rfl⟩
  · refine wpList_append_own w hgd s x 24 ho B 5 i0 (.int .u8 0) 1 1 Tryz.underlying24 hi hz0 hz1 hz2 rfl (by decide) v xs.length (bv xs) hs hown ad ys.length cap (bv ys) hx (by simp [bv_length]) ?_ (bv_one ys) (by simp only [maxLen]; omega) (by omega) hbase ?_
    · intro j u hj
      have hlt : j < ys.length := by
        have := (List.getElem?_eq_some_iff.1 hj).1
        simpa [bv_length] using this
      obtain ⟨b, o, h1, hc⟩ := hr (by omega)
      cases h1
      rw [bv_get ys j hlt] at hj
      rw [Go.WideShapes.add_plain, hc j hlt]
      exact hj
    · intro v' w' h1 h2 _
      exact h v' w' (by unfold Own; rw [bv_append, List.length_append]; exact h1) h2

set_option maxRecDepth 20000 in
set_option maxHeartbeats 400000 in
theorem grow_nil (n : Nat) (w : World) (hn : n ≤ 140737488355328) :
    Calls Tryz.prog 139 #[.slice none 0 0, .int .i64 n] w fun e w' => ∃ v, e = .returned v ∧ Own w' w.heap.size v [] ∧ Below w.heap.size w w' := by
  obtain ⟨i0, hi, hz0, hz1, hz2⟩ := info_parts info5
  by_cases h0 : n = 0
  · subst h0
    go_enter Tryz.func139, Tryz.ntmps139
    go_wp2
    go_ret
    exact ⟨_, rfl, World.ownsRow_nil _ _ _ _, Below.refl _ _⟩
  · have hpos : (0 : Int) < n := by omega
    have hap := fun (u : World) (ty : TypeId) => Go.Lib.run_append_nil_zeros (P := Tryz.prog) u 24 3 ty 5 i0 (.int .u8 0) .i64 .i64 Tryz.underlying24 Tryz.underlying3 hi hz0 n (by omega) (by omega) (by omega) (by rw [hz2]; omega)
    have HAP : Hid _ := hap
    clear hap
    go_enter Tryz.func139, Tryz.ntmps139
    go_wp2_with (at_builtin; refine Go.Lib.wpList_append_run _ rfl _ _ _ _ rfl _ _ rfl rfl _ _ (HAP.out _ _) ?_)
    go_ret
    refine ⟨_, rfl, World.ownsRow.drew (World.ownsRow_made w _ _ (Nat.le_refl _) (grownCap_le_maxLen w n 0 5 (by simp only [maxLen]; omega)) ?_), ((Below.refl _ _).alloc (Nat.le_refl _) _).drew⟩
    have := grownCap_ge w n 0 5
    simp [size_zeroCells, Value.cells]
    omega

/-- a slice value handed in: its address, its capacity, its bytes -/
structure Part where
  ao : Option Addr
  cap : Nat
  xs : List UInt8
def Part.v (p : Part) : Value := .slice p.ao p.xs.length p.cap
def Part.ok (w : World) (p : Part) : Prop := Rd w p.ao p.xs ∧ (p.ao = none → p.cap = 0)
def catL (ps : List Part) : List UInt8 := ps.flatMap (·.xs)
theorem catL_snoc (ps : List Part) (k : Nat) (h : k < ps.length) : catL (ps.take (k + 1)) = catL (ps.take k) ++ ps[k].xs := by
  unfold catL
  rw [List.take_succ_eq_append_getElem h, List.flatMap_append]
  simp
theorem catL_le (ps : List Part) (k : Nat) : (catL (ps.take k)).length ≤ (catL ps).length := by
  have h : catL ps = catL (ps.take k) ++ catL (ps.drop k) := by
    conv => lhs; rw [← List.take_append_drop k ps]
    unfold catL
    rw [List.flatMap_append]
  rw [h, List.length_append]
  omega

set_option maxRecDepth 20000 in
set_option maxHeartbeats 400000 in
theorem concat_any (b o c : Nat) (ps : List Part) (w : World) (hn : ps.length ≤ 1000) (hp : ∀ j (h : j < ps.length), w.cell? ⟨b, o + j, none⟩ = some ps[j].v ∧ ps[j].ok w) (hb : (catL ps).length ≤ 140737488355328) :
    Calls Tryz.prog 121 #[.slice (some ⟨b, o, none⟩) ps.length c] w fun e w' => ∃ v, e = .returned v ∧ Own w' w.heap.size v (catL ps) ∧ Below w.heap.size w w' := by
  go_enter Tryz.func121, Tryz.ntmps121
  go_wp2
  go_loop [3, 11] (fun s i => ∃ k : Nat, k ≤ ps.length ∧ i = .int .i64 k ∧ s = .int .i64 ((catL (ps.take k)).length : Nat)) (fun _ i => ps.length - (intOf i).toNat)
  case atStart => exact ⟨0, Nat.zero_le _, rfl, rfl⟩
  case round =>
    obtain ⟨k, hk, rfl, rfl⟩ := hrel
    have hcl := catL_le ps k
    by_cases hlt : k < ps.length
    · have hc1 := (hp k hlt).1
      unfold Part.v at hc1
      have hcl1 := catL_le ps (k + 1)
      have HS : Hid ((catL (ps.take (k + 1))).length = (catL (ps.take k)).length + ps[k].xs.length) := by unfold Hid; rw [catL_snoc ps k hlt, List.length_append]
      have hcl2 : (catL (ps.take k)).length + ps[k].xs.length ≤ 140737488355328 := by have := HS.out; omega
      clear hp hcl1
      go_wp2
      go_round
      case rel => exact ⟨k + 1, by omega, by go_num, by rw [HS.out]; go_num⟩
      case measure => simp [intOf]; omega
    · obtain rfl : k = ps.length := by omega
      rw [List.take_length]
      clear hcl
      go_wp2_with fail
      refine (grow_nil _ _ hb).mono ?_
      rintro e w1 ⟨v0, rfl, hown0, hb0⟩
      go_wp2
      go_loopw [6, 27] (fun v i wr => ∃ k : Nat, k ≤ ps.length ∧ i = .int .i64 k ∧ Own wr w.heap.size v (catL (ps.take k)) ∧ Below w.heap.size w wr) (fun _ i _ => ps.length - (intOf i).toNat)
      case atStart => exact ⟨0, Nat.zero_le _, rfl, hown0, hb0⟩
      case round =>
        obtain ⟨k, hk, rfl, hown, hbel⟩ := hrel
        by_cases hlt : k < ps.length
        · obtain ⟨hc1, hr1, hn1⟩ := hp k hlt
          unfold Part.v at hc1
          have hc2 := (hbel.cell (World.block_lt_of_cell? w _ hc1)).trans hc1
          have hr2 := hr1.below hbel
          have hsz := hbel.size
          have HS : Hid (catL (ps.take (k + 1)) = catL (ps.take k) ++ ps[k].xs) := catL_snoc ps k hlt
          have hle : (catL (ps.take k)).length + ps[k].xs.length ≤ 140737488355328 := by
            have h1 := catL_le ps (k + 1)
            rw [HS.out, List.length_append] at h1
            omega
          have HR : Hid _ := hr2
          have HN : Hid _ := hn1
          clear hp hc1 hr1 hr2 hn1 hown0 hb0
          go_wp2_with (at_builtin; refine wp_app rfl _ _ rfl _ _ _ _ _ _ rfl hown rfl HR.out HN.out hle hsz ?_; intro v2 w2 hown2 hg2)
          go_roundw
          case rel => exact ⟨k + 1, by omega, by go_num, by rw [HS.out]; exact hown2, hbel.grown hg2 hsz (fun j hj => (World.ownsRow.lt hown j hj).1)⟩
          case measure => simp [intOf]; omega
        · obtain rfl : k = ps.length := by omega
          rw [List.take_length] at hown
          go_wp2
          go_ret
          exact ⟨_, rfl, hown, hbel⟩
end Go.Proofs.YtkdgjfjcpgiokaaGreat
namespace Go.Proofs.YtkdgjfjcpgiokaaGreat
set_option linter.unusedVariables false
set_option linter.unusedSimpArgs false
open Go.RowKit

theorem cells2 {w : World} {b : Nat} {p q : Part} (h0 : w.cell? ⟨b, 0, none⟩ = some p.v) (h1 : w.cell? ⟨b, 1, none⟩ = some q.v) (hp : p.ok w) (hq : q.ok w) :
    ∀ j (h : j < [p, q].length), w.cell? ⟨b, 0 + j, none⟩ = some [p, q][j].v ∧ [p, q][j].ok w := by
  intro j hj
  match j, hj with
  | 0, _ => exact ⟨h0, hp⟩
  | 1, _ => exact ⟨h1, hq⟩
theorem catL2 (p q : Part) : catL [p, q] = p.xs ++ q.xs := by simp [catL]

set_option maxRecDepth 20000 in
set_option maxHeartbeats 400000 in
theorem appendNumber_any (ao : Option Addr) (cap : Nat) (xs : List UInt8) (n : Nat) (w : World) (hx : Rd w ao xs) (hnil : ao = none → cap = 0) (hl : xs.length + 10 ≤ 140737488355328) (hn : n < 18446744073709551616) :
    Calls Tryz.prog 123 #[.slice ao xs.length cap, .int .u64 n] w fun e w' => ∃ v, e = .returned v ∧ Own w' w.heap.size v (xs ++ dg n) ∧ Below w.heap.size w w' := by
  have hdl := dg_len n hn
  have HN : Hid (ao = none → cap = 0) := hnil
  clear hnil
  go_enter Tryz.func123, Tryz.ntmps123
  go_wp2_with fail
  refine (digits_any n w hn).mono ?_
  rintro e w1 ⟨k, hk, rfl, hr1, hb1, hs1⟩
  have HK : Hid _ := hk
  clear hk
  go_wp2_with fail
  refine (concat_any w1.heap.size 0 2 [⟨ao, cap, xs⟩, ⟨some ⟨w.heap.size, k, none⟩, (dg n).length, dg n⟩] _ (by simp) (cells2 (by simp [Part.v]) (by simp [Part.v]) ⟨(hx.below hb1).alloc _, HN.out⟩ ⟨hr1.alloc _, fun h => by cases h⟩) (by rw [catL2, List.length_append]; simp only; omega)).mono ?_
  rintro e w2 ⟨v, rfl, hown, hb2⟩
  go_wp2
  go_ret
  rw [catL2] at hown
  have hz : w.heap.size ≤ (w1.alloc (.cells #[.slice ao xs.length cap, .slice (some ⟨w.heap.size, k, none⟩) (dg n).length (dg n).length] 24)).heap.size := by simp; omega
  exact ⟨v, rfl, hown.base hz, (hb1.alloc (by omega) _).trans (hb2.mono hz)⟩
end Go.Proofs.YtkdgjfjcpgiokaaGreat
