import Derived.Test.YtiedgcanndgmoaaGreatDoorOBd
import Derived.Test.YtiedgcanndgmoaaGreatDoorZJ
namespace Go.Proofs.YtiedgcanndgmoaaGreatDoor
set_option linter.unusedVariables false
set_option linter.unusedSimpArgs false
open Go.RowKit Go.Maps
theorem segN_flatX (xs : Seg) (m : Nat) : ∀ k, (segN xs m k).flatten = xs.take (k * m)
  | 0 => by simp [segN]
  | k + 1 => by
    rw [segN_succ, List.flatten_append, segN_flatX xs m k, Nat.succ_mul, List.take_add]
    simp
theorem segN_ok {xs : Seg} {m : Nat} (h1 : 16 ≤ m) (h2 : 1 ≤ xs.length) : ∀ i (hi : i < (segN xs m (cutN xs.length m)).length), 1 ≤ ((segN xs m (cutN xs.length m))[i]).length ∧ ((segN xs m (cutN xs.length m))[i]).length ≤ m ∧ (i + 1 < (segN xs m (cutN xs.length m)).length → ((segN xs m (cutN xs.length m))[i]).length = m) := by
  intro i hi
  rw [segN_len] at hi ⊢
  have hc : ∀ j, j < cutN xs.length m → j * m < xs.length := fun j hj => by
    unfold cutN at hj
    have h3 := (Nat.lt_div_iff_mul_lt (by omega)).1 hj
    omega
  have hi0 := hc i hi
  have he : ((segN xs m (cutN xs.length m))[i]'(by rw [segN_len]; exact hi)).length = min m (xs.length - i * m) := by
    simp [segN]
  rw [he]
  refine ⟨by omega, by omega, fun h3 => ?_⟩
  have h4 := hc (i + 1) h3
  rw [Nat.succ_mul] at h4
  omega
theorem segN_whole {xs : Seg} {m : Nat} (h1 : 16 ≤ m) : (segN xs m (cutN xs.length m)).flatten = xs := by
  rw [segN_flatX, List.take_of_length_le]
  unfold cutN
  have h2 := Nat.lt_mul_div_succ (xs.length + m - 1) (show 0 < m by omega)
  rw [Nat.mul_comm, Nat.succ_mul] at h2
  omega
section
variable {w w' : World}
set_option maxRecDepth 20000
set_option maxHeartbeats 6400000
theorem joined_t (ep n m N B : Nat) (a : Option Addr) (ca : Nat) (E : List Dc) (T : List (List UInt8)) (xs : List UInt8) (ao : Option Addr) (bl bc : Nat) (hN : N = E.length) (h64 : N ≤ 64) (hra : RdG KBu w a (uns ep n N E)) (htx : Fml w B E T) (hT : T.flatten = xs)
    (hTl : ∀ i (hi : i < T.length), 1 ≤ (T[i]).length ∧ (T[i]).length ≤ m ∧ (i + 1 < T.length → (T[i]).length = m)) (hm : m ≤ 1024) (hb : bl = xs.length) (hrb : Rd w ao xs) (hle : bl ≤ 1024) :
    Calls Tryz.prog 12 #[.slice a N ca, .int .u64 (ep : Int), .int .u64 (n : Int), .slice ao bl bc, .int .i64 (m : Int)] w fun e w' => e = .returned (.bool true) ∧ Below w.heap.size w w' := by
  have HN : Hid _ := hN
  have HRA : Hid (RdG KBu w a (uns ep n N E)) := hra
  have HTX : Hid _ := htx
  have HT : Hid _ := hT
  have HTL : Hid _ := hTl
  have HB : Hid _ := hb
  have HRB : Hid (Rd w ao xs) := hrb
  have HTN : Hid (T.length = N) := by unfold Hid; rw [hN, htx.len]
  clear hN hra htx hT hTl hb hrb
  go_enter Tryz.func12, Tryz.ntmps12
  go_wp2
  go_loopw [11, 12] (fun u j wr => ∃ k : Nat, k ≤ N ∧ j = .int .i64 (k : Int) ∧ Own wr w.heap.size u (T.take k).flatten ∧ Below w.heap.size w wr) (fun _ j _ => N - (intOf j).toNat)
  case atStart => exact ⟨0, Nat.zero_le _, rfl, World.ownsRow_nil _ _ _ _, Below.refl _ _⟩
  case round =>
    obtain ⟨k, hkn, rfl, hown, hbw⟩ := hrel
    have hkw : IntKind.i64.wrap ((k : Int) + 1) = ((k + 1 : Nat) : Int) := by rw [IntKind.wrap_i64]; omega
    by_cases hlt : k < N
    · have hlti : (k : Int) < (N : Int) := by omega
      have hk0 : (0 : Int) ≤ (k : Int) := by omega
      have hkE : k < E.length := by rw [← HN.out]; exact hlt
      have hkT : k < T.length := by rw [HTN.out]; exact hlt
      obtain ⟨b, o, rfl, r1, -⟩ := RdG.below HRA.out hbw k (by rw [uns_len]; exact hkE)
      rw [uns_get ep n N E k hkE] at r1
      obtain ⟨d, hd⟩ : ∃ d, d = E[k] := ⟨_, rfl⟩
      obtain ⟨t, ht⟩ : ∃ t, t = T[k] := ⟨_, rfl⟩
      have o1 := HTX.out.own k d t (by rw [hd]; exact List.getElem?_eq_getElem hkE) (by rw [ht]; exact List.getElem?_eq_getElem hkT)
      obtain ⟨l1, l2, l3⟩ := HTL.out k hkT
      rw [← ht] at l1 l2 l3
      rw [HTN.out] at l3
      rw [← hd] at r1
      obtain ⟨da, dn, dc⟩ := d
      obtain ⟨a1, c1, e1, -, -, hnl, rd1, -⟩ := o1.val
      simp only [Dc.v, Value.slice.injEq] at e1
      obtain ⟨rfl, hdn, rfl⟩ := e1
      have q0 := r1 0 (.int .i64 1) rfl
      rw [Nat.add_zero] at q0
      have q1 := r1 1 (.int .u64 (ep : Int)) rfl
      have q2 := r1 2 (.int .u64 (n : Int)) rfl
      have q3 := r1 3 (.int .i64 1) rfl
      have q4 := r1 4 (.int .i64 (k : Int)) rfl
      have q5 := r1 5 (.int .i64 (N : Int)) rfl
      have q6 := r1 6 (.slice da dn dc) rfl
      have q7 := r1 7 (.int .i64 0) rfl
      have q8 := r1 8 (.slice none 0 0) rfl
      have z1 : ((dn : Int) == 0) = false := by simp; omega
      have z2 : ¬ (m : Int) < (dn : Int) := by omega
      have HFL : Hid ((T.take (k + 1)).flatten = (T.take k).flatten ++ t) := by unfold Hid; rw [List.take_succ_eq_append_getElem hkT, ← ht]; simp
      have HLF : Hid ((T.take k).flatten.length + dn ≤ 1024) := by
        unfold Hid
        have h9 : ((T.take (k + 1)).flatten).length ≤ T.flatten.length := by
          conv => rhs; rw [← List.take_append_drop (k + 1) T, List.flatten_append, List.length_append]
          omega
        rw [HFL.out, HT.out, List.length_append, ← HB.out] at h9
        omega
      obtain ⟨wb, hwb⟩ : ∃ wb, wb = wr.alloc (.cells #[.int .i64 1, .int .u64 (ep : Int), .int .u64 (n : Int), .int .i64 1, .int .i64 (k : Int), .int .i64 (N : Int), .slice da dn dc, .int .i64 0, .slice none 0 0] tUni) := ⟨_, rfl⟩
      have hbb : Below wr.heap.size wr wb := by rw [hwb]; exact alw (Below.refl _ _) _
      have HWB : Hid (wb = _) := hwb
      have HBB : Hid _ := hbb
      have HO : Hid (Own wb w.heap.size u11 (T.take k).flatten) := hown.below hbb
      have HRD : Hid (Rd wb da t) := Rd.below rd1 (below_next hbw hbb)
      have HDN : Hid _ := hdn
      have HNL : Hid _ := hnl
      have HBW : Hid _ := hbw
      have hz : w.heap.size ≤ wb.heap.size := Nat.le_trans hbw.size hbb.size
      clear r1 o1 rd1 hd ht hkE hkT hwb hbb hown hbw hdn l1 l2
      by_cases hlast : k + 1 < N
      · have z3 : ((k : Int) + 1) < (N : Int) := by omega
        have z4 : ((dn : Int) != (m : Int)) = false := by have := l3 hlast; have := HDN.out; simp; omega
        clear l3 hlast
        go_wp2_with (at_builtin; rw [← HWB.out]; refine wp_app rfl _ _ rfl w.heap.size u11 (T.take k).flatten t da dc rfl HO.out (by rw [← HDN.out]; rfl) HRD.out HNL.out (by have := HLF.out; have := HDN.out; omega) hz ?_; intro v2 w2 hown2 hg2; rw [← HFL.out] at hown2; have HO2 : Hid _ := hown2; have HG2 : Hid _ := hg2; clear hown2 hg2)
        go_roundw
        case rel => exact ⟨k + 1, by omega, by go_num, HO2.out, (below_next HBW.out HBB.out).grown HG2.out hz (fun j hj => (World.ownsRow.lt HO.out j hj).1)⟩
        case measure => simp [intOf]; omega
      · have z3 : ¬ ((k : Int) + 1) < (N : Int) := by omega
        clear l3 hlast
        go_wp2_with (at_builtin; rw [← HWB.out]; refine wp_app rfl _ _ rfl w.heap.size u11 (T.take k).flatten t da dc rfl HO.out (by rw [← HDN.out]; rfl) HRD.out HNL.out (by have := HLF.out; have := HDN.out; omega) hz ?_; intro v2 w2 hown2 hg2; rw [← HFL.out] at hown2; have HO2 : Hid _ := hown2; have HG2 : Hid _ := hg2; clear hown2 hg2)
        go_roundw
        case rel => exact ⟨k + 1, by omega, by go_num, HO2.out, (below_next HBW.out HBB.out).grown HG2.out hz (fun j hj => (World.ownsRow.lt HO.out j hj).1)⟩
        case measure => simp [intOf]; omega
    · have hlti : ¬ (k : Int) < (N : Int) := by omega
      have hkT : T.take k = T := List.take_of_length_le (by rw [HTN.out]; omega)
      rw [hkT, HT.out] at hown
      obtain ⟨a1, c1, hv1, -, -, -, rd1, -⟩ := hown.val
      obtain ⟨L, hL⟩ : ∃ L, L = xs.length := ⟨_, rfl⟩
      rw [← hL] at hv1
      subst hv1
      have hv1 := conv_rd' rd1 L c1 hL
      have hv2 := conv_rd' (Rd.below HRB.out hbw) bl bc HB.out
      have HBW : Hid _ := hbw
      clear hown hbw rd1 hkT hL
      go_wp2
      go_ret
      exact ⟨rfl, HBW.out⟩
end
end Go.Proofs.YtiedgcanndgmoaaGreatDoor
namespace Go.Proofs.YtiedgcanndgmoaaGreatDoor
set_option linter.unusedVariables false
set_option linter.unusedSimpArgs false
open Go.RowKit Go.Maps
/-- the sender in the state s, the book in the state t; the blocks of H are none of theirs -/
structure Exb (w : World) (H : Nat → Prop) (p ms mn pw mw : Nat) (V : Nat → Nat → Value) (q : Nat) (v : Value) (s t : Xs) : Prop where
  a : XSt w p ms mn pw mw V s
  b : Bk w q v t
  ap : ∀ b, footX p ms mn pw mw V b → ¬ footR q v b
  av : ∀ b, H b → b < w.heap.size ∧ ¬ footX p ms mn pw mw V b ∧ ¬ footR q v b
  tz : Wh.TabZ w
  h0 : H 0
section
variable {w w' : World} {H : Nat → Prop} {p ms mn pw mw : Nat} {V V' : Nat → Nat → Value} {q : Nat} {v v' : Value} {s s' t t' : Xs}
theorem Exb.below (h : Exb w H p ms mn pw mw V q v s t) (hb : Below w.heap.size w w') : Exb w' H p ms mn pw mw V q v s t :=
  ⟨h.a.below hb, h.b.below hb, h.ap, fun b hb' => ⟨Nat.lt_of_lt_of_le (h.av b hb').1 hb.size, (h.av b hb').2⟩, h.tz.below hb, h.h0⟩
theorem Exb.chg0 (h : Exb w H p ms mn pw mw V q v s t) {F : Nat → Prop} (hc : Chg F w w') (h1 : ∀ b, F b → ¬ footX p ms mn pw mw V b) (h2 : ∀ b, F b → ¬ footR q v b) (h3 : ∀ b, F b → ¬ H b) : Exb w' H p ms mn pw mw V q v s t :=
  ⟨h.a.chg hc (fun b hb hf => h1 b hf hb), h.b.chg hc (fun b hb hf => h2 b hf hb), h.ap, fun b hb' => ⟨Nat.lt_of_lt_of_le (h.av b hb').1 hc.size, (h.av b hb').2⟩, tab_kept h.tz (hc.block 0 (h.av 0 h.h0).1 (fun hf => h3 0 hf h.h0)), h.h0⟩
theorem Exb.prog (h : Exb w H p ms mn pw mw V q v s t) (ha : XSt w' p ms mn pw mw V' s') (hs : XStp w w' p ms mn pw mw V V') : Exb w' H p ms mn pw mw V' q v s' t ∧ Chg (fun b => ¬ H b) w w' := by
  have hq : ∀ b, footR q v b → ¬ footX p ms mn pw mw V b := fun b hb hf => h.ap b hf hb
  refine ⟨⟨ha, h.b.chg hs.chg hq, ?_, ?_, tab_kept h.tz (hs.chg.block 0 (h.av 0 h.h0).1 (h.av 0 h.h0).2.1), h.h0⟩, hs.chg.mono (fun b hb hh => (h.av b hh).2.1 hb)⟩
  · intro b hb hr
    rcases hs.new b hb with h1 | h1
    · exact h.ap b h1 hr
    · have := h.b.lt hr; omega
  · intro b hb
    refine ⟨Nat.lt_of_lt_of_le (h.av b hb).1 hs.chg.size, fun hf => ?_, (h.av b hb).2.2⟩
    rcases hs.new b hf with h1 | h1
    · exact (h.av b hb).2.1 h1
    · have := (h.av b hb).1; omega
theorem Exb.doc (h : Exb w H p ms mn pw mw V q v s t) (ha : Bk w' q v' t') (hs : RxStp w w' q v v') : Exb w' H p ms mn pw mw V q v' s t' ∧ Chg (fun b => ¬ H b) w w' := by
  refine ⟨⟨h.a.chg hs.chg h.ap, ha, ?_, ?_, tab_kept h.tz (hs.chg.block 0 (h.av 0 h.h0).1 (h.av 0 h.h0).2.2), h.h0⟩, hs.chg.mono (fun b hb hh => (h.av b hh).2.2 hb)⟩
  · intro b hb hr
    rcases hs.new b hr with h1 | h1
    · exact h.ap b hb h1
    · have := h.a.lt hb; omega
  · intro b hb
    refine ⟨Nat.lt_of_lt_of_le (h.av b hb).1 hs.chg.size, (h.av b hb).2.1, fun hf => ?_⟩
    rcases hs.new b hf with h1 | h1
    · exact (h.av b hb).2.2 h1
    · have := (h.av b hb).1; omega
/-- one block more that is none of theirs -/
theorem Exb.more (h : Exb w H p ms mn pw mw V q v s t) {B : Nat} (hB : B < w.heap.size) (h1 : ¬ footX p ms mn pw mw V B) (h2 : ¬ footR q v B) : Exb w (fun b => H b ∨ b = B) p ms mn pw mw V q v s t :=
  ⟨h.a, h.b, h.ap, fun b hb => by
    rcases hb with hb | rfl
    · exact h.av b hb
    · exact ⟨hB, h1, h2⟩, h.tz, .inl h.h0⟩
theorem Exb.less {H' : Nat → Prop} (h : Exb w H p ms mn pw mw V q v s t) (hs : ∀ b, H' b → H b) (h0 : H' 0) : Exb w H' p ms mn pw mw V q v s t := ⟨h.a, h.b, h.ap, fun b hb => h.av b (hs b hb), h.tz, h0⟩
theorem Exb.box (h : Exb w H p ms mn pw mw V q v s t) (o : Obj) : Exb (w.alloc o) (fun b => H b ∨ b = w.heap.size) p ms mn pw mw V q v s t :=
  (h.below (alw (Below.refl _ _) o)).more (by simp) (fun hf => Nat.lt_irrefl _ (h.a.lt hf)) (fun hf => Nat.lt_irrefl _ (h.b.lt hf))
end
end Go.Proofs.YtiedgcanndgmoaaGreatDoor
