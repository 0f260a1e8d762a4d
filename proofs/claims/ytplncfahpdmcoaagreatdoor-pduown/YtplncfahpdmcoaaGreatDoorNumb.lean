import Derived.Test.YtplncfahpdmcoaaGreatDoorUF
import Derived.Test.YtplncfahpdmcoaaGreatDoorApp
namespace Go.Proofs.YtplncfahpdmcoaaGreatDoor
set_option linter.unusedVariables false
set_option linter.unusedSimpArgs false
open Go.RowKit
theorem wpo_appU {w : World} {o : Oper} {a : Act} {K : Act → World → Prop} {Q : Exit → Act → World → Prop} (s x : Operand)
    (ho : o.op = .call { callee := .builtin .append, args := #[s, x], argTypes := #[23, 23] }) (B : Nat) (v : Value) (xs ys : List UInt8) (ad : Addr) (n cap : Nat) (hn : n = ys.length)
    (hs : a.eval s = v) (hown : Own w B v xs) (hx : a.eval x = .slice (some ad) n cap) (hr : Rd w (some ad) ys)
    (hb : xs.length + n ≤ 140737488355328) (hbase : B ≤ w.heap.size)
    (h : ∀ v' w', Own w' B v' (xs ++ ys) → w.grownBy w' v.ownBlock → K (a.put o.dst v') w') : Oper.wp Tryz.prog o a w K Q := by
  subst hn
  obtain ⟨i0, hi, hz0, hz1, hz2⟩ := info_parts info5
  refine wp_append_own w s x 23 ho B 5 i0 (.int .u8 0) 1 1 Tryz.underlying23 hi hz0 hz1 hz2 rfl (by decide) v xs.length (bv xs) hs hown ad ys.length cap (bv ys) hx (by simp [bv_length]) ?_ (bv_one ys) (by simp only [maxLen]; omega) (by omega) hbase ?_
  · intro j u hj
    have hlt : j < ys.length := by
      have := (List.getElem?_eq_some_iff.1 hj).1
      simpa [bv_length] using this
    obtain ⟨b, o, h1, hc⟩ := hr (by omega)
    cases h1
    rw [bv_get ys j hlt] at hj
    rw [Go.WideShapes.add_plain, hc j hlt]
    exact hj
  · intro v' w' h1 h2 _
    exact h v' w' (by unfold Own; rw [bv_append, List.length_append]; exact h1) h2
section
set_option maxRecDepth 20000
set_option maxHeartbeats 6400000
/-- the document's loop over the ranges -/
def RfRel (X : List UInt8) (l : List Rg) (gn B : Nat) (W : World) (ov ev j : Value) (wr : World) : Prop := ∃ k : Nat, k ≤ gn ∧ j = .int .i64 (k : Int) ∧ ev = .int .i64 (endR (l.take k)) ∧ Own wr B ov (X ++ gotB (l.take k)) ∧ Below B W wr
theorem renc_2 (E S : Nat) (p i c : Int) (da : Option Addr) (dn dc : Nat) (CD : Nat) (ga : Option Addr) (gn gc : Nat) (l : List Rg) (w : World) (hv : validR 2 (E : Nat) (S : Nat) p i c dn (CD : Nat) gn l) (hn : gn = l.length) (hx : RdR w ga l) (hl : gn ≤ 8796093022208) :
    Calls Tryz.prog 19 #[.agg #[.int .i64 2, .int .u64 (E : Nat), .int .u64 (S : Nat), .int .i64 p, .int .i64 i, .int .i64 c, .slice da dn dc, .int .i64 (CD : Nat), .slice ga gn gc]] w fun e w' => EncOut (repX (dgs [2, E, S]) CD gn l) w e w' := by
  have HBX : Hid (∀ u, Below (w.heap.size + 1) (w.alloc (.cells #[.int .i64 2, .int .u64 (E : Nat), .int .u64 (S : Nat), .int .i64 p, .int .i64 i, .int .i64 c, .slice da dn dc, .int .i64 (CD : Nat), .slice ga gn gc] 26 (0, 0))) u → u.rangeAt w.heap.size 0 [.int .i64 2, .int .u64 (E : Nat), .int .u64 (S : Nat), .int .i64 p, .int .i64 i, .int .i64 c, .slice da dn dc, .int .i64 (CD : Nat), .slice ga gn gc]) := fun u hu => range_below (range_box w [.int .i64 2, .int .u64 (E : Nat), .int .u64 (S : Nat), .int .i64 p, .int .i64 i, .int .i64 c, .slice da dn dc, .int .i64 (CD : Nat), .slice ga gn gc] 26) (by rw [heap_alloc_size1']; exact hu)
  have HV : Hid _ := fun (u : World) (hu : Below w.heap.size w u) => rvalid_t 2 (E : Nat) (S : Nat) p i c da dn dc (CD : Nat) ga gn gc l true ⟨fun _ => hv, fun _ => rfl⟩ u hn (hx.below hu) hl
  have HVV : Hid ((CD ≤ 7 ∧ gotOk l) ∧ (CD = 0 ∨ gn = 0)) := by unfold Hid; obtain ⟨⟨hE, hS⟩, h | ⟨-, r1, r2, r3, r4⟩ | h⟩ := hv; (· have := h.1; omega); (· exact ⟨⟨by omega, r3⟩, by omega⟩); (· have := h.1; omega)
  have HES : Hid (E ≤ 281474976710655 ∧ S ≤ 281474976710655) := by have h1 := hv.1.1.2; have h2 := hv.1.2.2; unfold Hid; omega
  have HG : Hid (gn = l.length ∧ (∀ u, Below w.heap.size w u → RdR u ga l) ∧ gn ≤ 33) := ⟨hn, fun u hu => hx.below hu, by have := gotOk_cnt HVV.out.1.2; omega⟩
  have hbD : IntKind.u8.wrap (CD : Int) = (CD : Int) := by rw [IntKind.wrap_u8]; have := HVV.out; omega
  have hbG : IntKind.u8.wrap (gn : Int) = (gn : Int) := by rw [IntKind.wrap_u8]; have := HG.out; omega
  have HSW0 : Hid (Below (w.heap.size + 1) (w.alloc (.cells #[.int .i64 2, .int .u64 (E : Nat), .int .u64 (S : Nat), .int .i64 p, .int .i64 i, .int .i64 c, .slice da dn dc, .int .i64 (CD : Nat), .slice ga gn gc] 26 (0, 0))) (w.alloc (.cells #[.int .i64 2, .int .u64 (E : Nat), .int .u64 (S : Nat), .int .i64 p, .int .i64 i, .int .i64 c, .slice da dn dc, .int .i64 (CD : Nat), .slice ga gn gc] 26 (0, 0)))) := Below.refl _ _
  have HW : Hid (∀ u, Below (w.heap.size + 1) (w.alloc (.cells #[.int .i64 2, .int .u64 (E : Nat), .int .u64 (S : Nat), .int .i64 p, .int .i64 i, .int .i64 c, .slice da dn dc, .int .i64 (CD : Nat), .slice ga gn gc] 26 (0, 0))) u → Below w.heap.size w u) := fun u hu => (al (Below.refl _ w) _).trans (hu.mono (by omega))
  have HW0s : Hid (w.heap.size + 1 ≤ (w.alloc (.cells #[.int .i64 2, .int .u64 (E : Nat), .int .u64 (S : Nat), .int .i64 p, .int .i64 i, .int .i64 c, .slice da dn dc, .int .i64 (CD : Nat), .slice ga gn gc] 26 (0, 0))).heap.size) := by unfold Hid; simp
  have HLE : Hid ((dg 2).length ≤ 10 ∧ (dg E).length ≤ 10 ∧ (dg S).length ≤ 10) := ⟨(dg_len _ (by decide)).2, (dg_len _ (by have := HES.out; omega)).2, (dg_len _ (by have := HES.out; omega)).2⟩
  clear hv hn hx hl
  by_cases h0 : CD = 0
  · have h0b : ((CD : Int) == 0) = true := by simpa using h0
    have H0 : Hid (CD = 0) := h0
    clear h0
    go_enter Tryz.func19, Tryz.ntmps19
    go_wp2_with (first
    | (refine wpList_load_g (by rfl) 26 _ rfl w.heap.size 0 (by rfl) [.int .i64 2, .int .u64 (E : Nat), .int .u64 (S : Nat), .int .i64 p, .int .i64 i, .int .i64 c, .slice da dn dc, .int .i64 (CD : Nat), .slice ga gn gc] _ (HBX.out _ HSW0.out) Tryz.underlying26 rfl info_un ?_)
    | (go_at_call 4; refine Calls.mono (HV.out _ (al (Below.refl _ _) _)) ?_; rintro e1 w1 ⟨rfl, hb1⟩; have HSw1 : Hid (Below (w.heap.size + 1) (w.alloc (.cells #[.int .i64 2, .int .u64 (E : Nat), .int .u64 (S : Nat), .int .i64 p, .int .i64 i, .int .i64 c, .slice da dn dc, .int .i64 (CD : Nat), .slice ga gn gc] 26 (0, 0))) w1) := (by have h9 := hb1; rw [heap_alloc_size1'] at h9; exact h9); have hw10 : w1.cell? ⟨w.heap.size, 0, none⟩ = some (.int .i64 2) := HBX.out _ HSw1.out 0 _ rfl; have hw11 : w1.cell? ⟨w.heap.size, 1, none⟩ = some (.int .u64 (E : Nat)) := HBX.out _ HSw1.out 1 _ rfl; have hw12 : w1.cell? ⟨w.heap.size, 2, none⟩ = some (.int .u64 (S : Nat)) := HBX.out _ HSw1.out 2 _ rfl; have hw17 : w1.cell? ⟨w.heap.size, 7, none⟩ = some (.int .i64 (CD : Nat)) := HBX.out _ HSw1.out 7 _ rfl; have hw18 : w1.cell? ⟨w.heap.size, 8, none⟩ = some (.slice ga gn gc) := HBX.out _ HSw1.out 8 _ rfl; clear hb1)
    | (go_at_call_of 41 (Value.int .u64 2); refine Calls.mono (refDigits_any 2 _ (by decide)) ?_; rintro e1 w2 ⟨v2, rfl, hown2, hb2⟩; have HSw2 : Hid (Below (w.heap.size + 1) (w.alloc (.cells #[.int .i64 2, .int .u64 (E : Nat), .int .u64 (S : Nat), .int .i64 p, .int .i64 i, .int .i64 c, .slice da dn dc, .int .i64 (CD : Nat), .slice ga gn gc] 26 (0, 0))) w2) := HSw1.out.trans (hb2.mono (Nat.le_trans HW0s.out HSw1.out.size)); have HO2 : Hid (Own w2 (w.heap.size + 1) v2 (dg 2)) := hown2.base (Nat.le_trans HW0s.out HSw1.out.size); have hw20 : w2.cell? ⟨w.heap.size, 0, none⟩ = some (.int .i64 2) := HBX.out _ HSw2.out 0 _ rfl; have hw21 : w2.cell? ⟨w.heap.size, 1, none⟩ = some (.int .u64 (E : Nat)) := HBX.out _ HSw2.out 1 _ rfl; have hw22 : w2.cell? ⟨w.heap.size, 2, none⟩ = some (.int .u64 (S : Nat)) := HBX.out _ HSw2.out 2 _ rfl; have hw27 : w2.cell? ⟨w.heap.size, 7, none⟩ = some (.int .i64 (CD : Nat)) := HBX.out _ HSw2.out 7 _ rfl; have hw28 : w2.cell? ⟨w.heap.size, 8, none⟩ = some (.slice ga gn gc) := HBX.out _ HSw2.out 8 _ rfl; clear hown2 hb2)
    | (go_at_call_of 41 (Value.int .u64 (E : Nat)); refine Calls.mono (refDigits_any E _ (by have := HES.out; omega)) ?_; rintro e1 w3 ⟨v3, rfl, hown3, hb3⟩; have HSw3 : Hid (Below (w.heap.size + 1) (w.alloc (.cells #[.int .i64 2, .int .u64 (E : Nat), .int .u64 (S : Nat), .int .i64 p, .int .i64 i, .int .i64 c, .slice da dn dc, .int .i64 (CD : Nat), .slice ga gn gc] 26 (0, 0))) w3) := HSw2.out.trans (hb3.mono (Nat.le_trans HW0s.out HSw2.out.size)); have HO3 : Hid (Own w3 (w.heap.size + 1) v2 (dg 2)) := Own.below HO2.out hb3; obtain ⟨a3, c3, hv3, -, -, hn3, hr3, -⟩ := hown3.val; subst hv3; have HR3 : Hid (Rd w3 a3 (dg E)) := hr3; have HN3 : Hid (a3 = none → c3 = 0) := hn3; clear hown3 hb3 hr3 hn3)
    | (at_builtin; refine wp_app rfl _ _ rfl (w.heap.size + 1) v2 (dg 2) (dg E) a3 c3 rfl HO3.out rfl HR3.out HN3.out (by have := HLE.out; omega) (Nat.le_trans HW0s.out HSw3.out.size) ?_; intro v4 w4 hown4 hg4; have HSw4 : Hid (Below (w.heap.size + 1) (w.alloc (.cells #[.int .i64 2, .int .u64 (E : Nat), .int .u64 (S : Nat), .int .i64 p, .int .i64 i, .int .i64 c, .slice da dn dc, .int .i64 (CD : Nat), .slice ga gn gc] 26 (0, 0))) w4) := below_row HSw3.out HO3.out HW0s.out hg4; have HO4 : Hid (Own w4 (w.heap.size + 1) v4 (dg 2 ++ dg E)) := hown4; have hw40 : w4.cell? ⟨w.heap.size, 0, none⟩ = some (.int .i64 2) := HBX.out _ HSw4.out 0 _ rfl; have hw41 : w4.cell? ⟨w.heap.size, 1, none⟩ = some (.int .u64 (E : Nat)) := HBX.out _ HSw4.out 1 _ rfl; have hw42 : w4.cell? ⟨w.heap.size, 2, none⟩ = some (.int .u64 (S : Nat)) := HBX.out _ HSw4.out 2 _ rfl; have hw47 : w4.cell? ⟨w.heap.size, 7, none⟩ = some (.int .i64 (CD : Nat)) := HBX.out _ HSw4.out 7 _ rfl; have hw48 : w4.cell? ⟨w.heap.size, 8, none⟩ = some (.slice ga gn gc) := HBX.out _ HSw4.out 8 _ rfl; clear hown4 hg4)
    | (go_at_call_of 41 (Value.int .u64 (S : Nat)); refine Calls.mono (refDigits_any S _ (by have := HES.out; omega)) ?_; rintro e1 w5 ⟨v5, rfl, hown5, hb5⟩; have HSw5 : Hid (Below (w.heap.size + 1) (w.alloc (.cells #[.int .i64 2, .int .u64 (E : Nat), .int .u64 (S : Nat), .int .i64 p, .int .i64 i, .int .i64 c, .slice da dn dc, .int .i64 (CD : Nat), .slice ga gn gc] 26 (0, 0))) w5) := HSw4.out.trans (hb5.mono (Nat.le_trans HW0s.out HSw4.out.size)); have HO5 : Hid (Own w5 (w.heap.size + 1) v4 (dg 2 ++ dg E)) := Own.below HO4.out hb5; obtain ⟨a5, c5, hv5, -, -, hn5, hr5, -⟩ := hown5.val; subst hv5; have HR5 : Hid (Rd w5 a5 (dg S)) := hr5; have HN5 : Hid (a5 = none → c5 = 0) := hn5; clear hown5 hb5 hr5 hn5)
    | (at_builtin; refine wp_app rfl _ _ rfl (w.heap.size + 1) v4 (dg 2 ++ dg E) (dg S) a5 c5 rfl HO5.out rfl HR5.out HN5.out (by have := HLE.out; rw [List.length_append]; omega) (Nat.le_trans HW0s.out HSw5.out.size) ?_; intro v6 w6 hown6 hg6; have HSw6 : Hid (Below (w.heap.size + 1) (w.alloc (.cells #[.int .i64 2, .int .u64 (E : Nat), .int .u64 (S : Nat), .int .i64 p, .int .i64 i, .int .i64 c, .slice da dn dc, .int .i64 (CD : Nat), .slice ga gn gc] 26 (0, 0))) w6) := below_row HSw5.out HO5.out HW0s.out hg6; have HO6 : Hid (Own w6 (w.heap.size + 1) v6 (dgs [2, E, S])) := (by have h9 := hown6; unfold Hid dgs; simpa [List.append_assoc] using h9); have HL6 : Hid ((dgs [2, E, S]).length ≤ 30) := (by have h9 := HLE.out; unfold Hid dgs; simp [List.length_append]; omega); have hw60 : w6.cell? ⟨w.heap.size, 0, none⟩ = some (.int .i64 2) := HBX.out _ HSw6.out 0 _ rfl; have hw61 : w6.cell? ⟨w.heap.size, 1, none⟩ = some (.int .u64 (E : Nat)) := HBX.out _ HSw6.out 1 _ rfl; have hw62 : w6.cell? ⟨w.heap.size, 2, none⟩ = some (.int .u64 (S : Nat)) := HBX.out _ HSw6.out 2 _ rfl; have hw67 : w6.cell? ⟨w.heap.size, 7, none⟩ = some (.int .i64 (CD : Nat)) := HBX.out _ HSw6.out 7 _ rfl; have hw68 : w6.cell? ⟨w.heap.size, 8, none⟩ = some (.slice ga gn gc) := HBX.out _ HSw6.out 8 _ rfl; clear hown6 hg6)
    | (at_builtin; refine wp_app rfl _ _ rfl (w.heap.size + 1) v6 (dgs [2, E, S]) ([CD].map UInt8.ofNat) (some ⟨w6.heap.size, 0, none⟩) 1 rfl (Own.below HO6.out (al (Below.refl _ _) _)) rfl (rd_u8 w6 [CD] (fun n hn => by simp at hn; have := HVV.out; omega) _ rfl) (fun h => by cases h) (by have := HL6.out; simp; omega) (by have := Nat.le_trans HW0s.out HSw6.out.size; simp; omega) ?_; intro v7 w7 hown7 hg7; have HSw7 : Hid (Below (w.heap.size + 1) (w.alloc (.cells #[.int .i64 2, .int .u64 (E : Nat), .int .u64 (S : Nat), .int .i64 p, .int .i64 i, .int .i64 c, .slice da dn dc, .int .i64 (CD : Nat), .slice ga gn gc] 26 (0, 0))) w7) := below_row (HSw6.out.alloc (Nat.le_trans HW0s.out HSw6.out.size) _) (Own.below HO6.out (al (Below.refl _ _) _)) HW0s.out hg7; have HO7 : Hid (Own w7 (w.heap.size + 1) v7 (dgs [2, E, S] ++ dgs [CD])) := (by unfold Hid; rw [dgs_bytes [CD] (fun n hn => by simp at hn; have := HVV.out; omega)]; exact hown7); have HL7 : Hid ((dgs [2, E, S] ++ dgs [CD]).length ≤ 31) := (by unfold Hid; rw [dgs_bytes [CD] (fun n hn => by simp at hn; have := HVV.out; omega), List.length_append]; have := HL6.out; simp; omega); have hw70 : w7.cell? ⟨w.heap.size, 0, none⟩ = some (.int .i64 2) := HBX.out _ HSw7.out 0 _ rfl; have hw71 : w7.cell? ⟨w.heap.size, 1, none⟩ = some (.int .u64 (E : Nat)) := HBX.out _ HSw7.out 1 _ rfl; have hw72 : w7.cell? ⟨w.heap.size, 2, none⟩ = some (.int .u64 (S : Nat)) := HBX.out _ HSw7.out 2 _ rfl; have hw77 : w7.cell? ⟨w.heap.size, 7, none⟩ = some (.int .i64 (CD : Nat)) := HBX.out _ HSw7.out 7 _ rfl; have hw78 : w7.cell? ⟨w.heap.size, 8, none⟩ = some (.slice ga gn gc) := HBX.out _ HSw7.out 8 _ rfl; clear hown7 hg7)
    | (at_builtin; refine wp_app rfl _ _ rfl (w.heap.size + 1) v7 (dgs [2, E, S] ++ dgs [CD]) ([gn].map UInt8.ofNat) (some ⟨w7.heap.size, 0, none⟩) 1 rfl (Own.below HO7.out (al (Below.refl _ _) _)) rfl (rd_u8 w7 [gn] (fun n hn => by simp at hn; have := HG.out; omega) _ rfl) (fun h => by cases h) (by have := HL7.out; simp at this ⊢; omega) (by have := Nat.le_trans HW0s.out HSw7.out.size; simp; omega) ?_; intro v8 w8 hown8 hg8; have HSw8 : Hid (Below (w.heap.size + 1) (w.alloc (.cells #[.int .i64 2, .int .u64 (E : Nat), .int .u64 (S : Nat), .int .i64 p, .int .i64 i, .int .i64 c, .slice da dn dc, .int .i64 (CD : Nat), .slice ga gn gc] 26 (0, 0))) w8) := below_row (HSw7.out.alloc (Nat.le_trans HW0s.out HSw7.out.size) _) (Own.below HO7.out (al (Below.refl _ _) _)) HW0s.out hg8; have HO8 : Hid (Own w8 (w.heap.size + 1) v8 (dgs [2, E, S] ++ dgs [CD] ++ dgs [gn])) := (by unfold Hid; rw [dgs_bytes [gn] (fun n hn => by simp at hn; have := HG.out; omega)]; exact hown8); have HL8 : Hid ((dgs [2, E, S] ++ dgs [CD] ++ dgs [gn]).length ≤ 32) := (by unfold Hid; rw [List.length_append, dgs_bytes [gn] (fun n hn => by simp at hn; have := HG.out; omega)]; have := HL7.out; simp only [List.length_map, List.length_cons, List.length_nil]; omega); clear hown8 hg8))
    obtain ⟨X0, hX0⟩ : ∃ X0 : List UInt8, X0 = dgs [2, E, S] ++ dgs [CD] ++ dgs [gn] := ⟨_, rfl⟩
    have HX0 : Hid _ := hX0
    have HST : Hid (RfRel X0 l gn (w.heap.size + 1) (w.alloc (.cells #[.int .i64 2, .int .u64 (E : Nat), .int .u64 (S : Nat), .int .i64 p, .int .i64 i, .int .i64 c, .slice da dn dc, .int .i64 (CD : Nat), .slice ga gn gc] 26 (0, 0))) v8 (.int .i64 0) (.int .i64 0) w8) := ⟨0, Nat.zero_le _, rfl, rfl, by rw [hX0]; simpa [gotB, gotBF] using HO8.out, HSw8.out⟩
    have HLX : Hid (X0.length ≤ 32) := by have := HL8.out; unfold Hid; rw [hX0]; omega
    clear hX0
    go_wp2_with fail
    go_loopw [5, 6, 7] (fun ov ev j wr => RfRel X0 l gn (w.heap.size + 1) (w.alloc (.cells #[.int .i64 2, .int .u64 (E : Nat), .int .u64 (S : Nat), .int .i64 p, .int .i64 i, .int .i64 c, .slice da dn dc, .int .i64 (CD : Nat), .slice ga gn gc] 26 (0, 0))) ov ev j wr) (fun _ _ j _ => gn - (intOf j).toNat)
    case atStart => exact HST.out
    case round =>
      obtain ⟨kk, hk, rfl, rfl, hown, hbw⟩ := hrel
      have hkw : IntKind.i64.wrap ((kk : Int) + 1) = ((kk + 1 : Nat) : Int) := by rw [IntKind.wrap_i64]; have := HG.out; omega
      have HO : Hid (Own wr (w.heap.size + 1) u5 (X0 ++ gotB (l.take kk))) := hown
      have HB : Hid (Below (w.heap.size + 1) (w.alloc (.cells #[.int .i64 2, .int .u64 (E : Nat), .int .u64 (S : Nat), .int .i64 p, .int .i64 i, .int .i64 c, .slice da dn dc, .int .i64 (CD : Nat), .slice ga gn gc] 26 (0, 0))) wr) := hbw
      have hu8 : ∀ u, Below (w.heap.size + 1) (w.alloc (.cells #[.int .i64 2, .int .u64 (E : Nat), .int .u64 (S : Nat), .int .i64 p, .int .i64 i, .int .i64 c, .slice da dn dc, .int .i64 (CD : Nat), .slice ga gn gc] 26 (0, 0))) u → u.cell? ⟨w.heap.size, 8, none⟩ = some (.slice ga gn gc) := fun u hu => HBX.out u hu 8 _ rfl
      have hw8r := hu8 _ hbw
      clear hown HST
      by_cases hlt : kk < gn
      · have hk1 : kk < l.length := by have := HG.out; omega
        have hlti : (kk : Int) < (gn : Int) := by omega
        have hk0 : (0 : Int) ≤ (kk : Int) := by omega
        have hr : ∀ b o u, ga = some ⟨b, o, none⟩ → Below (w.heap.size + 1) (w.alloc (.cells #[.int .i64 2, .int .u64 (E : Nat), .int .u64 (S : Nat), .int .i64 p, .int .i64 i, .int .i64 c, .slice da dn dc, .int .i64 (CD : Nat), .slice ga gn gc] 26 (0, 0))) u → u.cell? ⟨b, o + kk * 2, none⟩ = some (.int .i64 l[kk].1) ∧ u.cell? ⟨b, o + kk * 2 + 1, none⟩ = some (.int .i64 l[kk].2) := fun b o u e hu => by
          obtain ⟨b', o', e9, h1, h2⟩ := (HG.out.2.1 u (HW.out u hu)) kk hk1
          rw [e] at e9
          cases e9
          exact ⟨h1, h2⟩
        obtain ⟨bb, oo, hga, -, -⟩ := (HG.out.2.1 wr (HW.out wr hbw)) kk hk1
        have hrr := fun u hu => hr bb oo u hga hu
        obtain ⟨x, hx9⟩ : ∃ x : Rg, x = l[kk] := ⟨_, rfl⟩
        rw [← hx9] at hrr
        have HTK : Hid (l.take (kk + 1) = l.take kk ++ [x]) := by unfold Hid; rw [List.take_succ_eq_append_getElem hk1, hx9]
        have HO2 : Hid (gotOk (l.take kk) ∧ freeR (l.take kk) ≤ x.1 ∧ x.1 < x.2 ∧ x.2 ≤ 64) := by
          have h := HVV.out.1.2
          rw [← List.take_append_drop (kk + 1) l, HTK.out] at h
          exact (gotOk_snoc _ _).1 (gotOk_pre h)
        obtain ⟨a1, a2⟩ := x
        have HEN : Hid (0 ≤ endR (l.take kk) ∧ endR (l.take kk) ≤ a1 ∧ a1 < a2 ∧ a2 ≤ 64) := by
          have h := HO2.out
          have h2 := gotOk_end h.1
          refine ⟨h2.1, ?_, h.2.2.1, h.2.2.2⟩
          by_cases h9 : 0 < (l.take kk).length
          · have h8 := freeR_eq h9; have h7 := h.2.1; simp only at h7; omega
          · have h8 : l.take kk = [] := List.eq_nil_of_length_eq_zero (by omega)
            rw [h8] at h ⊢
            have h7 := h.2.1
            rw [freeR_nil] at h7
            rw [endR_nil]
            exact h7
        have HGB : Hid (gotB (l.take (kk + 1)) = gotB (l.take kk) ++ dgs [(a1 - endR (l.take kk)).toNat, (a2 - a1).toNat] ∧ endR (l.take (kk + 1)) = a2) := by unfold Hid; rw [HTK.out, gotB_snoc, endR_snoc]; exact ⟨rfl, rfl⟩
        obtain ⟨EE, hE⟩ : ∃ EE : Int, EE = endR (l.take kk) := ⟨_, rfl⟩
        rw [← hE] at HEN HGB ⊢
        obtain ⟨d1, hd1⟩ : ∃ d : Nat, d = (a1 - EE).toNat := ⟨_, rfl⟩
        obtain ⟨d2, hd2⟩ : ∃ d : Nat, d = (a2 - a1).toNat := ⟨_, rfl⟩
        rw [← hd1, ← hd2] at HGB
        have hw1 : IntKind.i64.wrap (a1 - EE) = (d1 : Int) := by rw [IntKind.wrap_i64]; have := HEN.out; omega
        have hw2 : IntKind.i64.wrap (a2 - a1) = (d2 : Int) := by rw [IntKind.wrap_i64]; have := HEN.out; omega
        have HDB : Hid (d1 ≤ 64 ∧ d2 ≤ 64) := by have := HEN.out; unfold Hid; omega
        have hu1 : IntKind.u8.wrap (d1 : Int) = (d1 : Int) := by rw [IntKind.wrap_u8]; have := HDB.out; omega
        have hu2 : IntKind.u8.wrap (d2 : Int) = (d2 : Int) := by rw [IntKind.wrap_u8]; have := HDB.out; omega
        have HLB : Hid ((X0 ++ gotB (l.take kk)).length ≤ 1000) := by have h1 := gotB_len HO2.out.1; have h2 := HLX.out; unfold Hid; rw [List.length_append]; omega
        subst hga
        have hx0 : ∀ u, Below (w.heap.size + 1) (w.alloc (.cells #[.int .i64 2, .int .u64 (E : Nat), .int .u64 (S : Nat), .int .i64 p, .int .i64 i, .int .i64 c, .slice da dn dc, .int .i64 (CD : Nat), .slice (some ⟨bb, oo, none⟩) gn gc] 26 (0, 0))) u → u.cell? ⟨bb, oo + kk * 2, none⟩ = some (.int .i64 a1) := fun u hu => (hrr u hu).1
        have hx1 : ∀ u, Below (w.heap.size + 1) (w.alloc (.cells #[.int .i64 2, .int .u64 (E : Nat), .int .u64 (S : Nat), .int .i64 p, .int .i64 i, .int .i64 c, .slice da dn dc, .int .i64 (CD : Nat), .slice (some ⟨bb, oo, none⟩) gn gc] 26 (0, 0))) u → u.cell? ⟨bb, oo + kk * 2 + 1, none⟩ = some (.int .i64 a2) := fun u hu => (hrr u hu).2
        have HX1 : Hid _ := hx1
        have HU8 : Hid _ := hu8
        have HSAL : Hid (∀ o, Below (w.heap.size + 1) (w.alloc (.cells #[.int .i64 2, .int .u64 (E : Nat), .int .u64 (S : Nat), .int .i64 p, .int .i64 i, .int .i64 c, .slice da dn dc, .int .i64 (CD : Nat), .slice (some ⟨bb, oo, none⟩) gn gc] 26 (0, 0))) (wr.drew.alloc o)) := fun o => hbw.drew.alloc (Nat.le_trans HW0s.out hbw.size) o
        clear hx9 hr hrr hE hd1 hd2
        go_wp2_with fail
        refine wp_region_noPanic ?_
        refine wp_region_held_drew (S := (fun u => Below (w.heap.size + 1) (w.alloc (.cells #[.int .i64 2, .int .u64 (E : Nat), .int .u64 (S : Nat), .int .i64 p, .int .i64 i, .int .i64 c, .slice da dn dc, .int .i64 (CD : Nat), .slice (some ⟨bb, oo, none⟩) gn gc] 26 (0, 0))) u)) (by kernel_rfl) (by first | exact hbw.drew | assumption | exact HSw9.out | exact HSAL.out _) (fun hHeld => ?_)
        refine take_at (i := 0) 72 (v := ?_) rfl rfl (by kernel_rfl) (by kernel_rfl) (by kernel_rfl) (fun _ _ _ h => h) (by rfl) ?_ hHeld ?_
        rotate_left
        · (intro w hSw; (try dsimp only at hSw); go_simp; try with_reducible rfl)
        simp only [Act.put, List.setIfInBounds_toArray, List.set_cons_zero, List.set_cons_succ]
        refine take_at (i := 1) 73 (v := ?_) rfl rfl (by kernel_rfl) (by kernel_rfl) (by kernel_rfl) (fun _ _ _ h => h) (by rfl) ?_ hHeld ?_
        rotate_left
        · (intro w hSw; (try dsimp only at hSw); go_simp; try with_reducible rfl)
        simp only [Act.put, List.setIfInBounds_toArray, List.set_cons_zero, List.set_cons_succ]
        refine take_at (i := 2) 74 (v := ?_) rfl rfl (by kernel_rfl) (by kernel_rfl) (by kernel_rfl) (fun _ _ _ h => h) (by rfl) ?_ hHeld ?_
        rotate_left
        · (intro w hSw; (try dsimp only at hSw); go_simp; try with_reducible rfl)
        simp only [Act.put, List.setIfInBounds_toArray, List.set_cons_zero, List.set_cons_succ]
        refine take_at (i := 3) 75 (v := ?_) rfl rfl (by kernel_rfl) (by kernel_rfl) (by kernel_rfl) (fun _ _ _ h => h) (by rfl) ?_ hHeld ?_
        rotate_left
        · (intro w hSw; (try dsimp only at hSw); go_simp; try with_reducible rfl)
        simp only [Act.put, List.setIfInBounds_toArray, List.set_cons_zero, List.set_cons_succ]
        refine take_at (i := 4) 76 (v := ?_) rfl rfl (by kernel_rfl) (by kernel_rfl) (by kernel_rfl) (fun _ _ _ h => h) (by rfl) ?_ hHeld ?_
        rotate_left
        · (intro w hSw; (try dsimp only at hSw); go_simp; try with_reducible rfl)
        simp only [Act.put, List.setIfInBounds_toArray, List.set_cons_zero, List.set_cons_succ]
        refine take_at (i := 5) 77 (v := ?_) rfl rfl (by kernel_rfl) (by kernel_rfl) (by kernel_rfl) (fun _ _ _ h => h) (by rfl) ?_ hHeld ?_
        rotate_left
        · (intro w hSw; (try dsimp only at hSw); go_simp; try with_reducible rfl)
        simp only [Act.put, List.setIfInBounds_toArray, List.set_cons_zero, List.set_cons_succ]
        refine take_at (i := 6) 78 (v := ?_) rfl rfl (by kernel_rfl) (by kernel_rfl) (by kernel_rfl) (fun _ _ _ h => h) (by rfl) ?_ hHeld ?_
        rotate_left
        · (intro w hSw; (try dsimp only at hSw); go_simp; try with_reducible rfl)
        simp only [Act.put, List.setIfInBounds_toArray, List.set_cons_zero, List.set_cons_succ]
        refine take_at (i := 7) 79 (v := ?_) rfl rfl (by kernel_rfl) (by kernel_rfl) (by kernel_rfl) (fun _ _ _ h => h) (by rfl) ?_ hHeld ?_
        rotate_left
        · (intro w hSw; (try dsimp only at hSw); go_simp; try with_reducible rfl)
        simp only [Act.put, List.setIfInBounds_toArray, List.set_cons_zero, List.set_cons_succ]
        refine take_at (i := 8) 80 (v := ?_) rfl rfl (by kernel_rfl) (by kernel_rfl) (by kernel_rfl) (fun _ _ _ h => h) (by rfl) ?_ hHeld ?_
        rotate_left
        · (intro w hSw; (try dsimp only at hSw); go_simp; try with_reducible rfl)
        simp only [Act.put, List.setIfInBounds_toArray, List.set_cons_zero, List.set_cons_succ]
        refine take_at (i := 9) 81 (v := ?_) rfl rfl (by kernel_rfl) (by kernel_rfl) (by kernel_rfl) (fun _ _ _ h => h) (by rfl) ?_ hHeld ?_
        rotate_left
        · (intro w hSw; (try dsimp only at hSw); go_simp; try with_reducible rfl)
        simp only [Act.put, List.setIfInBounds_toArray, List.set_cons_zero, List.set_cons_succ]
        refine take_at (i := 10) 82 (v := ?_) rfl rfl (by kernel_rfl) (by kernel_rfl) (by kernel_rfl) (fun _ _ _ h => h) (by rfl) ?_ hHeld ?_
        rotate_left
        · (intro w hSw; (try dsimp only at hSw); go_simp; try with_reducible rfl)
        simp only [Act.put, List.setIfInBounds_toArray, List.set_cons_zero, List.set_cons_succ]
        refine take_at (i := 11) 83 (v := ?_) rfl rfl (by kernel_rfl) (by kernel_rfl) (by kernel_rfl) (fun _ _ _ h => h) (by rfl) ?_ hHeld ?_
        rotate_left
        · (intro w hSw; (try dsimp only at hSw); go_simp; try with_reducible rfl)
        simp only [Act.put, List.setIfInBounds_toArray, List.set_cons_zero, List.set_cons_succ]
        refine take_at (i := 12) 84 (v := ?_) rfl rfl (by kernel_rfl) (by kernel_rfl) (by kernel_rfl) (fun _ _ _ h => h) (by rfl) ?_ hHeld ?_
        rotate_left
        · (intro w hSw; (try dsimp only at hSw); go_simp; try with_reducible rfl)
        simp only [Act.put, List.setIfInBounds_toArray, List.set_cons_zero, List.set_cons_succ]
        refine take_at (i := 13) 85 (v := ?_) rfl rfl (by kernel_rfl) (by kernel_rfl) (by kernel_rfl) (fun _ _ _ h => h) (by rfl) ?_ hHeld ?_
        rotate_left
        · (intro w hSw; (try dsimp only at hSw); go_simp; try with_reducible rfl)
        simp only [Act.put, List.setIfInBounds_toArray, List.set_cons_zero, List.set_cons_succ]
        refine take_at (i := 14) 86 (v := ?_) rfl rfl (by kernel_rfl) (by kernel_rfl) (by kernel_rfl) (fun _ _ _ h => h) (by rfl) ?_ hHeld ?_
        rotate_left
        · (intro w hSw; (try dsimp only at hSw); go_simp; try with_reducible rfl)
        simp only [Act.put, List.setIfInBounds_toArray, List.set_cons_zero, List.set_cons_succ]
        refine take_at (i := 15) 87 (v := ?_) rfl rfl (by kernel_rfl) (by kernel_rfl) (by kernel_rfl) (fun _ _ _ h => h) (by rfl) ?_ hHeld ?_
        rotate_left
        · (intro w hSw; (try dsimp only at hSw); go_simp; try with_reducible rfl)
        simp only [Act.put, List.setIfInBounds_toArray, List.set_cons_zero, List.set_cons_succ]
        refine take_at (i := 16) 88 (v := ?_) rfl rfl (by kernel_rfl) (by kernel_rfl) (by kernel_rfl) (fun _ _ _ h => h) (by rfl) ?_ hHeld ?_
        rotate_left
        · (intro w hSw; (try dsimp only at hSw); go_simp; try with_reducible rfl)
        simp only [Act.put, List.setIfInBounds_toArray, List.set_cons_zero, List.set_cons_succ]
        refine take_at (i := 17) 89 (v := ?_) rfl rfl (by kernel_rfl) (by kernel_rfl) (by kernel_rfl) (fun _ _ _ h => h) (by rfl) ?_ hHeld ?_
        rotate_left
        · (intro w hSw; (try dsimp only at hSw); go_simp; try with_reducible rfl)
        simp only [Act.put, List.setIfInBounds_toArray, List.set_cons_zero, List.set_cons_succ]
        refine take_at (i := 18) 90 (v := ?_) rfl rfl (by kernel_rfl) (by kernel_rfl) (by kernel_rfl) (fun _ _ _ h => h) (by rfl) ?_ hHeld ?_
        rotate_left
        · (intro w hSw; (try dsimp only at hSw); go_simp; try with_reducible rfl)
        simp only [Act.put, List.setIfInBounds_toArray, List.set_cons_zero, List.set_cons_succ]
        refine take_at (i := 19) 91 (v := ?_) rfl rfl (by kernel_rfl) (by kernel_rfl) (by kernel_rfl) (fun _ _ _ h => h) (by rfl) ?_ hHeld ?_
        rotate_left
        · (intro w hSw; (try dsimp only at hSw); go_simp; try with_reducible rfl)
        simp only [Act.put, List.setIfInBounds_toArray, List.set_cons_zero, List.set_cons_succ]
        refine take_at (i := 20) 92 (v := ?_) rfl rfl (by kernel_rfl) (by kernel_rfl) (by kernel_rfl) (fun _ _ _ h => h) (by rfl) ?_ hHeld ?_
        rotate_left
        · (intro w hSw; (try dsimp only at hSw); go_simp; try with_reducible rfl)
        simp only [Act.put, List.setIfInBounds_toArray, List.set_cons_zero, List.set_cons_succ]
        refine take_at (i := 21) 93 (v := ?_) rfl rfl (by kernel_rfl) (by kernel_rfl) (by kernel_rfl) (fun _ _ _ h => h) (by rfl) ?_ hHeld ?_
        rotate_left
        · (intro w hSw; (try dsimp only at hSw); go_simp; try with_reducible rfl)
        simp only [Act.put, List.setIfInBounds_toArray, List.set_cons_zero, List.set_cons_succ]
        refine take_at (i := 22) 94 (v := ?_) rfl rfl (by kernel_rfl) (by kernel_rfl) (by kernel_rfl) (fun _ _ _ h => h) (by rfl) ?_ hHeld ?_
        rotate_left
        · (intro w hSw; (try dsimp only at hSw); go_simp; try with_reducible rfl)
        simp only [Act.put, List.setIfInBounds_toArray, List.set_cons_zero, List.set_cons_succ]
        refine take_at (i := 23) 95 (v := ?_) rfl rfl (by kernel_rfl) (by kernel_rfl) (by kernel_rfl) (fun _ _ _ h => h) (by rfl) ?_ hHeld ?_
        rotate_left
        · (intro w hSw; (try dsimp only at hSw); go_simp; try with_reducible rfl)
        simp only [Act.put, List.setIfInBounds_toArray, List.set_cons_zero, List.set_cons_succ]
        refine run_at (i := 24) rfl (by kernel_rfl) (by rfl) (fun K hK => ?_)
        simp only [List.getElem_toArray, List.getElem_cons_zero, List.getElem_cons_succ]
        go_simp
        go_wp2_with fail
        refine hK.out _ _ (by first | exact hbw.drew | assumption | exact HSw9.out | exact HSAL.out _) ?_
        clear hK K
        intro hHeld2
        clear hHeld
        have hHeld := hHeld2
        clear hHeld2
        try simp only [Act.put, List.setIfInBounds_toArray, List.set_cons_zero, List.set_cons_succ]
        refine run_at (i := 25) rfl (by kernel_rfl) (by rfl) (fun K hK => ?_)
        simp only [List.getElem_toArray, List.getElem_cons_zero, List.getElem_cons_succ]
        (refine wpo_appU _ _ rfl (w.heap.size + 1) u5 (X0 ++ gotB (l.take kk)) ([d1, d2].map UInt8.ofNat) ⟨wr.heap.size, 0, none⟩ 2 2 rfl rfl (Own.below HO.out (al (Below.refl _ _).drew _)) rfl (rd_u8 wr.drew [d1, d2] (fun n hn => by simp at hn; have := HDB.out; omega) _ rfl) (by have := HLB.out; omega) (by have := Nat.le_trans HW0s.out HB.out.size; simp; omega) ?_; intro v9 w9 hown9 hg9; have HSw9 : Hid (Below (w.heap.size + 1) (w.alloc (.cells #[.int .i64 2, .int .u64 (E : Nat), .int .u64 (S : Nat), .int .i64 p, .int .i64 i, .int .i64 c, .slice da dn dc, .int .i64 (CD : Nat), .slice (some ⟨bb, oo, none⟩) gn gc] 26 (0, 0))) w9) := below_row (HSAL.out _) (Own.below HO.out (al (Below.refl _ _).drew _)) HW0s.out hg9; have HO9 : Hid (Own w9 (w.heap.size + 1) v9 (X0 ++ gotB (l.take (kk + 1)))) := (by unfold Hid; rw [HGB.out.1, dgs_bytes [d1, d2] (fun n hn => by simp at hn; have := HDB.out; omega), ← List.append_assoc]; exact hown9); have hx19 := HX1.out _ HSw9.out; have hu89 := HU8.out _ HSw9.out; clear hown9 hg9)
        refine hK.out _ _ (by first | exact hbw.drew | assumption | exact HSw9.out | exact HSAL.out _) ?_
        clear hK K
        intro hHeld2
        clear hHeld
        have hHeld := hHeld2
        clear hHeld2
        try simp only [Act.put, List.setIfInBounds_toArray, List.set_cons_zero, List.set_cons_succ]
        refine take_at (i := 26) 5 (v := ?_) rfl rfl (by kernel_rfl) (by kernel_rfl) (by kernel_rfl) (fun _ _ _ h => h) (by rfl) ?_ hHeld ?_
        rotate_left
        · (intro w hSw; (try dsimp only at hSw); go_simp; try with_reducible rfl)
        simp only [Act.put, List.setIfInBounds_toArray, List.set_cons_zero, List.set_cons_succ]
        refine wpAnyH_done (by kernel_rfl) ?_ _
        refine NoPanic.normal ?_
        go_wp2
        go_roundw
        case rel => exact ⟨kk + 1, by omega, by go_num, by rw [HGB.out.2], HO9.out, HSw9.out⟩
        case measure => simp [intOf]; omega
      · have hlti : ¬ (kk : Int) < (gn : Int) := by omega
        have HT : Hid (l.take kk = l) := List.take_of_length_le (by have := HG.out; omega)
        rw [HT.out] at HO
        clear hbw
        obtain ⟨aZ, cZ, hvZ, -, -, hnZ, hrZ, -⟩ := Own.val HO.out
        obtain ⟨LZ, hLZ⟩ : ∃ L : Nat, L = (X0 ++ gotB l).length := ⟨_, rfl⟩
        rw [← hLZ] at hvZ
        subst hvZ
        have HTT : Hid (X0 ++ gotB l = repX (dgs [2, E, S]) CD gn l) := by unfold Hid repX; rw [HX0.out, if_pos H0.out]
        rw [HTT.out] at hLZ hrZ
        have HLZ : Hid (LZ = (repX (dgs [2, E, S]) CD gn l).length) := hLZ
        have HLB : Hid (LZ + 4 ≤ 140737488355328) := by have h1 := gotB_len HVV.out.1.2; have h2 := HLX.out; unfold Hid; rw [HLZ.out, ← HTT.out, List.length_append]; omega
        clear hLZ
        go_wp2_with (go_at_call 43; refine Calls.mono (refSeal_n aZ LZ cZ (repX (dgs [2, E, S]) CD gn l) HLZ.out wr hrZ hnZ HLB.out) ?_; rintro e1 wZ ⟨vZ, rfl, hownZ, hbZ⟩; have HOZ : Hid (StrOut ((repX (dgs [2, E, S]) CD gn l) ++ sealL (repX (dgs [2, E, S]) CD gn l)) wr (.returned vZ) wZ) := StrOut.own hownZ hbZ; clear hownZ hbZ; obtain ⟨aY, LY, cY, hvY, -⟩ := HOZ.out; cases hvY)
        go_ret2
        obtain ⟨a6, L6, c6, hv6, h1, h2, h3, h4⟩ := HOZ.out
        cases hv6
        exact ⟨_, _, _, rfl, h1, h2, h3, below_next (HW.out _ HB.out) h4⟩
  · have h0b : ((CD : Int) == 0) = false := by simpa using h0
    have HGZ : Hid (gn = 0) := by have := HVV.out.2; unfold Hid; omega
    have H0 : Hid (¬ CD = 0) := h0
    clear h0
    go_enter Tryz.func19, Tryz.ntmps19
    go_wp2_with (first
    | (refine wpList_load_g (by rfl) 26 _ rfl w.heap.size 0 (by rfl) [.int .i64 2, .int .u64 (E : Nat), .int .u64 (S : Nat), .int .i64 p, .int .i64 i, .int .i64 c, .slice da dn dc, .int .i64 (CD : Nat), .slice ga gn gc] _ (HBX.out _ HSW0.out) Tryz.underlying26 rfl info_un ?_)
    | (go_at_call 4; refine Calls.mono (HV.out _ (al (Below.refl _ _) _)) ?_; rintro e1 w1 ⟨rfl, hb1⟩; have HSw1 : Hid (Below (w.heap.size + 1) (w.alloc (.cells #[.int .i64 2, .int .u64 (E : Nat), .int .u64 (S : Nat), .int .i64 p, .int .i64 i, .int .i64 c, .slice da dn dc, .int .i64 (CD : Nat), .slice ga gn gc] 26 (0, 0))) w1) := (by have h9 := hb1; rw [heap_alloc_size1'] at h9; exact h9); have hw10 : w1.cell? ⟨w.heap.size, 0, none⟩ = some (.int .i64 2) := HBX.out _ HSw1.out 0 _ rfl; have hw11 : w1.cell? ⟨w.heap.size, 1, none⟩ = some (.int .u64 (E : Nat)) := HBX.out _ HSw1.out 1 _ rfl; have hw12 : w1.cell? ⟨w.heap.size, 2, none⟩ = some (.int .u64 (S : Nat)) := HBX.out _ HSw1.out 2 _ rfl; have hw17 : w1.cell? ⟨w.heap.size, 7, none⟩ = some (.int .i64 (CD : Nat)) := HBX.out _ HSw1.out 7 _ rfl; have hw18 : w1.cell? ⟨w.heap.size, 8, none⟩ = some (.slice ga gn gc) := HBX.out _ HSw1.out 8 _ rfl; clear hb1)
    | (go_at_call_of 41 (Value.int .u64 2); refine Calls.mono (refDigits_any 2 _ (by decide)) ?_; rintro e1 w2 ⟨v2, rfl, hown2, hb2⟩; have HSw2 : Hid (Below (w.heap.size + 1) (w.alloc (.cells #[.int .i64 2, .int .u64 (E : Nat), .int .u64 (S : Nat), .int .i64 p, .int .i64 i, .int .i64 c, .slice da dn dc, .int .i64 (CD : Nat), .slice ga gn gc] 26 (0, 0))) w2) := HSw1.out.trans (hb2.mono (Nat.le_trans HW0s.out HSw1.out.size)); have HO2 : Hid (Own w2 (w.heap.size + 1) v2 (dg 2)) := hown2.base (Nat.le_trans HW0s.out HSw1.out.size); have hw20 : w2.cell? ⟨w.heap.size, 0, none⟩ = some (.int .i64 2) := HBX.out _ HSw2.out 0 _ rfl; have hw21 : w2.cell? ⟨w.heap.size, 1, none⟩ = some (.int .u64 (E : Nat)) := HBX.out _ HSw2.out 1 _ rfl; have hw22 : w2.cell? ⟨w.heap.size, 2, none⟩ = some (.int .u64 (S : Nat)) := HBX.out _ HSw2.out 2 _ rfl; have hw27 : w2.cell? ⟨w.heap.size, 7, none⟩ = some (.int .i64 (CD : Nat)) := HBX.out _ HSw2.out 7 _ rfl; have hw28 : w2.cell? ⟨w.heap.size, 8, none⟩ = some (.slice ga gn gc) := HBX.out _ HSw2.out 8 _ rfl; clear hown2 hb2)
    | (go_at_call_of 41 (Value.int .u64 (E : Nat)); refine Calls.mono (refDigits_any E _ (by have := HES.out; omega)) ?_; rintro e1 w3 ⟨v3, rfl, hown3, hb3⟩; have HSw3 : Hid (Below (w.heap.size + 1) (w.alloc (.cells #[.int .i64 2, .int .u64 (E : Nat), .int .u64 (S : Nat), .int .i64 p, .int .i64 i, .int .i64 c, .slice da dn dc, .int .i64 (CD : Nat), .slice ga gn gc] 26 (0, 0))) w3) := HSw2.out.trans (hb3.mono (Nat.le_trans HW0s.out HSw2.out.size)); have HO3 : Hid (Own w3 (w.heap.size + 1) v2 (dg 2)) := Own.below HO2.out hb3; obtain ⟨a3, c3, hv3, -, -, hn3, hr3, -⟩ := hown3.val; subst hv3; have HR3 : Hid (Rd w3 a3 (dg E)) := hr3; have HN3 : Hid (a3 = none → c3 = 0) := hn3; clear hown3 hb3 hr3 hn3)
    | (at_builtin; refine wp_app rfl _ _ rfl (w.heap.size + 1) v2 (dg 2) (dg E) a3 c3 rfl HO3.out rfl HR3.out HN3.out (by have := HLE.out; omega) (Nat.le_trans HW0s.out HSw3.out.size) ?_; intro v4 w4 hown4 hg4; have HSw4 : Hid (Below (w.heap.size + 1) (w.alloc (.cells #[.int .i64 2, .int .u64 (E : Nat), .int .u64 (S : Nat), .int .i64 p, .int .i64 i, .int .i64 c, .slice da dn dc, .int .i64 (CD : Nat), .slice ga gn gc] 26 (0, 0))) w4) := below_row HSw3.out HO3.out HW0s.out hg4; have HO4 : Hid (Own w4 (w.heap.size + 1) v4 (dg 2 ++ dg E)) := hown4; have hw40 : w4.cell? ⟨w.heap.size, 0, none⟩ = some (.int .i64 2) := HBX.out _ HSw4.out 0 _ rfl; have hw41 : w4.cell? ⟨w.heap.size, 1, none⟩ = some (.int .u64 (E : Nat)) := HBX.out _ HSw4.out 1 _ rfl; have hw42 : w4.cell? ⟨w.heap.size, 2, none⟩ = some (.int .u64 (S : Nat)) := HBX.out _ HSw4.out 2 _ rfl; have hw47 : w4.cell? ⟨w.heap.size, 7, none⟩ = some (.int .i64 (CD : Nat)) := HBX.out _ HSw4.out 7 _ rfl; have hw48 : w4.cell? ⟨w.heap.size, 8, none⟩ = some (.slice ga gn gc) := HBX.out _ HSw4.out 8 _ rfl; clear hown4 hg4)
    | (go_at_call_of 41 (Value.int .u64 (S : Nat)); refine Calls.mono (refDigits_any S _ (by have := HES.out; omega)) ?_; rintro e1 w5 ⟨v5, rfl, hown5, hb5⟩; have HSw5 : Hid (Below (w.heap.size + 1) (w.alloc (.cells #[.int .i64 2, .int .u64 (E : Nat), .int .u64 (S : Nat), .int .i64 p, .int .i64 i, .int .i64 c, .slice da dn dc, .int .i64 (CD : Nat), .slice ga gn gc] 26 (0, 0))) w5) := HSw4.out.trans (hb5.mono (Nat.le_trans HW0s.out HSw4.out.size)); have HO5 : Hid (Own w5 (w.heap.size + 1) v4 (dg 2 ++ dg E)) := Own.below HO4.out hb5; obtain ⟨a5, c5, hv5, -, -, hn5, hr5, -⟩ := hown5.val; subst hv5; have HR5 : Hid (Rd w5 a5 (dg S)) := hr5; have HN5 : Hid (a5 = none → c5 = 0) := hn5; clear hown5 hb5 hr5 hn5)
    | (at_builtin; refine wp_app rfl _ _ rfl (w.heap.size + 1) v4 (dg 2 ++ dg E) (dg S) a5 c5 rfl HO5.out rfl HR5.out HN5.out (by have := HLE.out; rw [List.length_append]; omega) (Nat.le_trans HW0s.out HSw5.out.size) ?_; intro v6 w6 hown6 hg6; have HSw6 : Hid (Below (w.heap.size + 1) (w.alloc (.cells #[.int .i64 2, .int .u64 (E : Nat), .int .u64 (S : Nat), .int .i64 p, .int .i64 i, .int .i64 c, .slice da dn dc, .int .i64 (CD : Nat), .slice ga gn gc] 26 (0, 0))) w6) := below_row HSw5.out HO5.out HW0s.out hg6; have HO6 : Hid (Own w6 (w.heap.size + 1) v6 (dgs [2, E, S])) := (by have h9 := hown6; unfold Hid dgs; simpa [List.append_assoc] using h9); have HL6 : Hid ((dgs [2, E, S]).length ≤ 30) := (by have h9 := HLE.out; unfold Hid dgs; simp [List.length_append]; omega); have hw60 : w6.cell? ⟨w.heap.size, 0, none⟩ = some (.int .i64 2) := HBX.out _ HSw6.out 0 _ rfl; have hw61 : w6.cell? ⟨w.heap.size, 1, none⟩ = some (.int .u64 (E : Nat)) := HBX.out _ HSw6.out 1 _ rfl; have hw62 : w6.cell? ⟨w.heap.size, 2, none⟩ = some (.int .u64 (S : Nat)) := HBX.out _ HSw6.out 2 _ rfl; have hw67 : w6.cell? ⟨w.heap.size, 7, none⟩ = some (.int .i64 (CD : Nat)) := HBX.out _ HSw6.out 7 _ rfl; have hw68 : w6.cell? ⟨w.heap.size, 8, none⟩ = some (.slice ga gn gc) := HBX.out _ HSw6.out 8 _ rfl; clear hown6 hg6)
    | (at_builtin; refine wp_app rfl _ _ rfl (w.heap.size + 1) v6 (dgs [2, E, S]) ([CD].map UInt8.ofNat) (some ⟨w6.heap.size, 0, none⟩) 1 rfl (Own.below HO6.out (al (Below.refl _ _) _)) rfl (rd_u8 w6 [CD] (fun n hn => by simp at hn; have := HVV.out; omega) _ rfl) (fun h => by cases h) (by have := HL6.out; simp; omega) (by have := Nat.le_trans HW0s.out HSw6.out.size; simp; omega) ?_; intro v7 w7 hown7 hg7; have HSw7 : Hid (Below (w.heap.size + 1) (w.alloc (.cells #[.int .i64 2, .int .u64 (E : Nat), .int .u64 (S : Nat), .int .i64 p, .int .i64 i, .int .i64 c, .slice da dn dc, .int .i64 (CD : Nat), .slice ga gn gc] 26 (0, 0))) w7) := below_row (HSw6.out.alloc (Nat.le_trans HW0s.out HSw6.out.size) _) (Own.below HO6.out (al (Below.refl _ _) _)) HW0s.out hg7; have HO7 : Hid (Own w7 (w.heap.size + 1) v7 (dgs [2, E, S] ++ dgs [CD])) := (by unfold Hid; rw [dgs_bytes [CD] (fun n hn => by simp at hn; have := HVV.out; omega)]; exact hown7); have HL7 : Hid ((dgs [2, E, S] ++ dgs [CD]).length ≤ 31) := (by unfold Hid; rw [dgs_bytes [CD] (fun n hn => by simp at hn; have := HVV.out; omega), List.length_append]; have := HL6.out; simp; omega); have hw70 : w7.cell? ⟨w.heap.size, 0, none⟩ = some (.int .i64 2) := HBX.out _ HSw7.out 0 _ rfl; have hw71 : w7.cell? ⟨w.heap.size, 1, none⟩ = some (.int .u64 (E : Nat)) := HBX.out _ HSw7.out 1 _ rfl; have hw72 : w7.cell? ⟨w.heap.size, 2, none⟩ = some (.int .u64 (S : Nat)) := HBX.out _ HSw7.out 2 _ rfl; have hw77 : w7.cell? ⟨w.heap.size, 7, none⟩ = some (.int .i64 (CD : Nat)) := HBX.out _ HSw7.out 7 _ rfl; have hw78 : w7.cell? ⟨w.heap.size, 8, none⟩ = some (.slice ga gn gc) := HBX.out _ HSw7.out 8 _ rfl; clear hown7 hg7))
    obtain ⟨X0, hX0⟩ : ∃ X0 : List UInt8, X0 = dgs [2, E, S] ++ dgs [CD] := ⟨_, rfl⟩
    have HX0 : Hid _ := hX0
    have HST : Hid (RfRel X0 l gn (w.heap.size + 1) (w.alloc (.cells #[.int .i64 2, .int .u64 (E : Nat), .int .u64 (S : Nat), .int .i64 p, .int .i64 i, .int .i64 c, .slice da dn dc, .int .i64 (CD : Nat), .slice ga gn gc] 26 (0, 0))) v7 (.int .i64 0) (.int .i64 0) w7) := ⟨0, Nat.zero_le _, rfl, rfl, by rw [hX0]; simpa [gotB, gotBF] using HO7.out, HSw7.out⟩
    have HLX : Hid (X0.length ≤ 32) := by have := HL7.out; unfold Hid; rw [hX0]; omega
    clear hX0
    go_wp2_with fail
    go_loopw [5, 6, 7] (fun ov ev j wr => RfRel X0 l gn (w.heap.size + 1) (w.alloc (.cells #[.int .i64 2, .int .u64 (E : Nat), .int .u64 (S : Nat), .int .i64 p, .int .i64 i, .int .i64 c, .slice da dn dc, .int .i64 (CD : Nat), .slice ga gn gc] 26 (0, 0))) ov ev j wr) (fun _ _ j _ => gn - (intOf j).toNat)
    case atStart => exact HST.out
    case round =>
      obtain ⟨kk, hk, rfl, rfl, hown, hbw⟩ := hrel
      have hkw : IntKind.i64.wrap ((kk : Int) + 1) = ((kk + 1 : Nat) : Int) := by rw [IntKind.wrap_i64]; have := HG.out; omega
      have HO : Hid (Own wr (w.heap.size + 1) u5 (X0 ++ gotB (l.take kk))) := hown
      have HB : Hid (Below (w.heap.size + 1) (w.alloc (.cells #[.int .i64 2, .int .u64 (E : Nat), .int .u64 (S : Nat), .int .i64 p, .int .i64 i, .int .i64 c, .slice da dn dc, .int .i64 (CD : Nat), .slice ga gn gc] 26 (0, 0))) wr) := hbw
      have hu8 : ∀ u, Below (w.heap.size + 1) (w.alloc (.cells #[.int .i64 2, .int .u64 (E : Nat), .int .u64 (S : Nat), .int .i64 p, .int .i64 i, .int .i64 c, .slice da dn dc, .int .i64 (CD : Nat), .slice ga gn gc] 26 (0, 0))) u → u.cell? ⟨w.heap.size, 8, none⟩ = some (.slice ga gn gc) := fun u hu => HBX.out u hu 8 _ rfl
      have hw8r := hu8 _ hbw
      clear hown HST
      by_cases hlt : kk < gn
      · have := HGZ.out
        omega
      · have hlti : ¬ (kk : Int) < (gn : Int) := by omega
        have HT : Hid (l.take kk = l) := List.take_of_length_le (by have := HG.out; omega)
        rw [HT.out] at HO
        clear hbw
        obtain ⟨aZ, cZ, hvZ, -, -, hnZ, hrZ, -⟩ := Own.val HO.out
        obtain ⟨LZ, hLZ⟩ : ∃ L : Nat, L = (X0 ++ gotB l).length := ⟨_, rfl⟩
        rw [← hLZ] at hvZ
        subst hvZ
        have HTT : Hid (X0 ++ gotB l = repX (dgs [2, E, S]) CD gn l) := by unfold Hid repX; rw [HX0.out, if_neg H0.out, show l = [] from List.eq_nil_of_length_eq_zero (by have := HG.out.1; have := HGZ.out; omega)]; simp [gotB, gotBF]
        rw [HTT.out] at hLZ hrZ
        have HLZ : Hid (LZ = (repX (dgs [2, E, S]) CD gn l).length) := hLZ
        have HLB : Hid (LZ + 4 ≤ 140737488355328) := by have h1 := gotB_len HVV.out.1.2; have h2 := HLX.out; unfold Hid; rw [HLZ.out, ← HTT.out, List.length_append]; omega
        clear hLZ
        go_wp2_with (go_at_call 43; refine Calls.mono (refSeal_n aZ LZ cZ (repX (dgs [2, E, S]) CD gn l) HLZ.out wr hrZ hnZ HLB.out) ?_; rintro e1 wZ ⟨vZ, rfl, hownZ, hbZ⟩; have HOZ : Hid (StrOut ((repX (dgs [2, E, S]) CD gn l) ++ sealL (repX (dgs [2, E, S]) CD gn l)) wr (.returned vZ) wZ) := StrOut.own hownZ hbZ; clear hownZ hbZ; obtain ⟨aY, LY, cY, hvY, -⟩ := HOZ.out; cases hvY)
        go_ret2
        obtain ⟨a6, L6, c6, hv6, h1, h2, h3, h4⟩ := HOZ.out
        cases hv6
        exact ⟨_, _, _, rfl, h1, h2, h3, below_next (HW.out _ HB.out) h4⟩
end
end Go.Proofs.YtplncfahpdmcoaaGreatDoor
namespace Go.Proofs.YtplncfahpdmcoaaGreatDoor
set_option linter.unusedVariables false
set_option linter.unusedSimpArgs false
open Go.RowKit

/-- how many bytes the number at the front has; 0: no end among the first ten -/
def nszF : Nat → List UInt8 → Nat → Nat
  | 0, _, _ => 0
  | _ + 1, [], _ => 0
  | f + 1, x :: xs, k => if x < 128 then k + 1 else nszF f xs (k + 1)
def nsz (xs : List UInt8) : Nat := nszF 10 xs 0
theorem nszF_drop (xs : List UInt8) (f k j : Nat) (h : f + j = 10) (hk : k = j) (hall : ∀ i (hi : i < xs.length), i < j → 128 ≤ xs[i].toNat) (hj : j ≤ xs.length) : nszF f (xs.drop j) k = nsz xs := by
  subst hk
  induction k generalizing f with
  | zero => obtain rfl : f = 10 := by omega
            rfl
  | succ k ih =>
    have hx := hall k (by omega) (by omega)
    rw [← ih (f + 1) (by omega) (fun i hi hik => hall i hi (by omega)) (by omega)]
    rw [show xs.drop k = xs[k] :: xs.drop (k + 1) from List.drop_eq_getElem_cons (by omega)]
    simp only [nszF]
    rw [if_neg (by rw [UInt8.lt_iff_toNat_lt]; simp; omega)]
theorem nsz_hit (xs : List UInt8) (k : Nat) (hk : k < xs.length) (h10 : k < 10) (hall : ∀ i (hi : i < xs.length), i < k → 128 ≤ xs[i].toNat) (hx : xs[k].toNat < 128) : nsz xs = k + 1 := by
  rw [← nszF_drop xs (10 - k) k k (by omega) rfl hall (by omega), show xs.drop k = xs[k] :: xs.drop (k + 1) from List.drop_eq_getElem_cons (by omega), show 10 - k = (9 - k) + 1 from by omega]
  simp only [nszF]
  rw [if_pos (by rw [UInt8.lt_iff_toNat_lt]; simpa using hx)]
theorem nsz_miss (xs : List UInt8) (k : Nat) (hk : k = min xs.length 10) (hall : ∀ i (hi : i < xs.length), i < k → 128 ≤ xs[i].toNat) : nsz xs = 0 := by
  rw [← nszF_drop xs (10 - k) k k (by omega) rfl hall (by omega)]
  by_cases h : xs.length ≤ 10
  · rw [List.drop_of_length_le (by omega)]
    cases 10 - k <;> rfl
  · rw [show 10 - k = 0 from by omega]; rfl
theorem nszF_le (f : Nat) : ∀ (xs : List UInt8) (k : Nat), nszF f xs k = 0 ∨ (k < nszF f xs k ∧ nszF f xs k ≤ k + min xs.length f ∧ ∃ h : nszF f xs k - 1 - k < xs.length, xs[nszF f xs k - 1 - k].toNat < 128 ∧ ∀ i (hi : i < xs.length), i < nszF f xs k - 1 - k → 128 ≤ xs[i].toNat) := by
  induction f with
  | zero => intro xs k; left; cases xs <;> rfl
  | succ f ih =>
    intro xs k
    cases xs with
    | nil => left; rfl
    | cons x xs =>
      simp only [nszF]
      split
      · right
        rename_i h
        rw [UInt8.lt_iff_toNat_lt] at h
        refine ⟨by omega, by simp only [List.length_cons]; omega, by simp, ?_, ?_⟩
        · simpa using h
        · intro i hi h2; omega
      · rename_i h
        rw [UInt8.lt_iff_toNat_lt] at h
        rcases ih xs (k + 1) with h0 | ⟨h1, h2, h3, h4, h5⟩
        · left; exact h0
        · right
          have e : nszF f xs (k + 1) - 1 - k = (nszF f xs (k + 1) - 1 - (k + 1)) + 1 := by omega
          refine ⟨by omega, by simp only [List.length_cons]; omega, by rw [e]; simpa using h3, ?_, ?_⟩
          · simp only [e, List.getElem_cons_succ]; exact h4
          · intro i hi hlt
            rcases i with _ | i
            · simp at h ⊢; omega
            · simp only [List.getElem_cons_succ]
              exact h5 i (by simpa using hi) (by omega)
theorem nsz_le (xs : List UInt8) : nsz xs = 0 ∨ (0 < nsz xs ∧ nsz xs ≤ min xs.length 10 ∧ ∃ h : nsz xs - 1 < xs.length, xs[nsz xs - 1].toNat < 128 ∧ ∀ i (hi : i < xs.length), i < nsz xs - 1 → 128 ≤ xs[i].toNat) := by
  have := nszF_le 10 xs 0
  simpa [nsz] using this

set_option maxRecDepth 20000 in
set_option maxHeartbeats 400000 in
theorem numberSize_any (ao : Option Addr) (cap : Nat) (xs : List UInt8) (w : World) (hx : Rd w ao xs) (hlc : xs.length ≤ cap) (hl : xs.length ≤ 140737488355328) :
    Calls Tryz.prog 108 #[.slice ao xs.length cap] w fun e w' => e = .returned (.int .i64 (nsz xs : Nat)) ∧ w' = w := by
  go_enter Tryz.func108, Tryz.ntmps108
  go_wp2
  all_goals
    go_loop [11] (fun i => ∃ k : Nat, k ≤ min xs.length 10 ∧ i = .int .i64 k ∧ ∀ j (hj : j < xs.length), j < k → 128 ≤ xs[j].toNat) (fun i => 10 - (intOf i).toNat)
    case atStart => exact ⟨0, Nat.zero_le _, rfl, fun j _ h => absurd h (Nat.not_lt_zero j)⟩
    case round =>
      obtain ⟨k, hk, rfl, hall⟩ := hrel
      by_cases hlt : k < min xs.length 10
      · obtain ⟨b, o, rfl, hc⟩ := hx (by omega)
        have hc1 := hc k (by omega)
        have HA : Hid (∀ j (hj : j < xs.length), j < k → 128 ≤ xs[j].toNat) := hall
        have hkl : k < xs.length := by omega
        have hk10 : k < 10 := by omega
        clear hc hx hall
        by_cases h128 : xs[k].toNat < 128
        · have HH : Hid (nsz xs = k + 1) := nsz_hit xs k hkl hk10 HA.out h128
          go_wp2
          go_ret
          exact ⟨by rw [HH.out]; rfl, rfl⟩
        · go_wp2
          go_round
          case rel =>
            refine ⟨k + 1, by omega, by go_num, fun j hj hjk => ?_⟩
            by_cases e : j = k
            · subst e; omega
            · exact HA.out j hj (by omega)
          case measure => simp [intOf]; omega
      · have HH : Hid (nsz xs = 0) := nsz_miss xs k (by omega) hall
        have hge : ¬ k < min xs.length 10 := hlt
        have hl1 : (k = xs.length ∧ xs.length ≤ 10) ∨ (k = 10 ∧ 10 < xs.length) := by omega
        clear hall hlt
        go_wp2
        go_ret
        exact ⟨by rw [HH.out]; rfl, rfl⟩
end Go.Proofs.YtplncfahpdmcoaaGreatDoor
namespace Go.Proofs.YtplncfahpdmcoaaGreatDoor
set_option linter.unusedVariables false
set_option linter.unusedSimpArgs false
open Go.RowKit

/-- the number that the digits say, from n on; none: 2^64 or more -/
def vl : Nat → List UInt8 → Option Nat
  | n, [] => some n
  | n, c :: r => if 144115188075855872 ≤ n then none else vl (n * 128 + c.toNat % 128) r
/-- what Number answers: the number, its bytes, the fault -/
def numS (xs : List UInt8) : Nat × Nat × Nat :=
  if nsz xs = 0 then (if xs.length < 10 then (0, 0, 10) else (0, 0, 12))
  else if xs.head? = some 128 then (0, 0, 12)
  else match vl 0 (xs.take (nsz xs)) with
    | none => (0, 0, 12)
    | some n => (n, nsz xs, 0)
def numV (xs : List UInt8) : Value := .tuple #[.int .u64 ((numS xs).1 : Nat), .int .i64 ((numS xs).2.1 : Nat), .int .i64 ((numS xs).2.2 : Nat)]
theorem vl_lt : ∀ (xs : List UInt8) (n m : Nat), n < 18446744073709551616 → vl n xs = some m → m < 18446744073709551616
  | [], n, m, h, e => by simp [vl] at e; omega
  | c :: r, n, m, h, e => by
    simp only [vl] at e
    split at e
    · cases e
    · exact vl_lt r _ m (by have := c.toNat_lt; omega) e
theorem numS_lt (xs : List UInt8) : (numS xs).1 < 18446744073709551616 ∧ (numS xs).2.1 ≤ min xs.length 10 := by
  have h1 := nsz_le xs
  unfold numS
  split
  · split <;> simp
  · split
    · simp
    · split
      · simp
      · rename_i h
        refine ⟨vl_lt _ _ _ (by omega) h, ?_⟩
        rcases h1 with h1 | h1
        · omega
        · exact h1.2.1

theorem jump_ret (l : Nat) (J : Act → World → Prop) (Q : Exit → Act → World → Prop) (a : Act) (w : World) : Exit.jump l J Q .ret a w = Q .ret a w := rfl
theorem jump_goto {l : Nat} {J : Act → World → Prop} {Q : Exit → Act → World → Prop} {a : Act} {w : World} (h : J a w) : Exit.jump l J Q (.goto l) a w := ⟨rfl, h⟩
/-- what holds at the jump to the one fault -/
def JW (w : World) (p : Prop) (a' : Act) (w' : World) : Prop := w' = w ∧ p ∧ ∃ (u0 u1 u2 u3 u4 u5 u6 u7 u8 u9 u10 u11 u12 u13 u14 u15 u16 u17 u18 u19 u20 u21 u22 u23 u24 u25 u26 u27 u28 u29 u30 u31 u32 u33 u34 u35 u36 u37 u38 u39 u40 u41 u42 : Value), a' = { tmps := #[u0, u1, u2, u3, u4, u5, u6, u7, u8, u9, u10, u11, u12, u13, u14, u15, u16, u17, u18, u19, u20, u21, u22, u23, u24, u25, u26, u27, u28, u29, u30, u31, u32, u33, u34, u35, u36, u37, u38, u39, u40, u41, u42], defers := [] }
set_option maxRecDepth 20000 in
set_option maxHeartbeats 800000 in
theorem number_any (ao : Option Addr) (cap : Nat) (xs : List UInt8) (w : World) (hx : Rd w ao xs) (hlc : xs.length ≤ cap) (hl : xs.length ≤ 140737488355328) :
    Calls Tryz.prog 100 #[.slice ao xs.length cap] w fun e w' => e = .returned (numV xs) ∧ w' = w := by
  go_enter Tryz.func100, Tryz.ntmps100
  go_wp2
  refine wp_scope_jumps 0 (JW w (Hid (numV xs = .tuple #[.int .u64 0, .int .i64 0, .int .i64 12]))) (fun _ _ => 0) rfl ?first ?pass
  case pass =>
    rintro a1 w1 ⟨rfl, HV, u0, u1, u2, u3, u4, u5, u6, u7, u8, u9, u10, u11, u12, u13, u14, u15, u16, u17, u18, u19, u20, u21, u22, u23, u24, u25, u26, u27, u28, u29, u30, u31, u32, u33, u34, u35, u36, u37, u38, u39, u40, u41, u42, rfl⟩
    go_wp2
    rw [jump_ret]
    go_ret3
    exact ⟨by rw [HV.out]; rfl, rfl⟩
  case first =>
    go_wp2_with fail
    refine (numberSize_any ao cap xs w hx hlc hl).mono ?_
    rintro e w' ⟨rfl, hw⟩
    subst hw
    by_cases h0 : nsz xs = 0
    · by_cases h10 : xs.length < 10
      · have HV : Hid (numV xs = .tuple #[.int .u64 0, .int .i64 0, .int .i64 10]) := by unfold Hid numV numS; rw [if_pos h0, if_pos h10]; rfl
        rw [h0]
        clear h0
        go_wp2
        rw [jump_ret]
        go_ret3
        exact ⟨by rw [HV.out]; rfl, rfl⟩
      · have HV : Hid (numV xs = .tuple #[.int .u64 0, .int .i64 0, .int .i64 12]) := by unfold Hid numV numS; rw [if_pos h0, if_neg h10]; rfl
        rw [h0]
        clear h0
        go_wp2
        go_step3
        exact id (α := (0 : Nat) = 0 ∧ JW _ _ _ _) ⟨rfl, rfl, HV, by (repeat apply Exists.intro); rfl⟩
    · rcases nsz_le xs with h1 | ⟨h1, h2, _⟩
      · exact absurd h1 h0
      · have hlen : 0 < xs.length := by omega
        obtain ⟨b, o, rfl, hc⟩ := hx hlen
        have hc0 := hc 0 hlen
        simp only [Nat.add_zero] at hc0
        have hhd : xs.head? = some xs[0] := List.head?_eq_getElem? ▸ List.getElem?_eq_getElem hlen
        have HNS : Hid (numS xs = if xs[0] = 128 then (0, 0, 12) else match vl 0 (xs.take (nsz xs)) with | none => (0, 0, 12) | some n => (n, nsz xs, 0)) := by
          unfold Hid numS
          rw [if_neg h0, hhd]
          simp only [Option.some.injEq]
        generalize hsz : nsz xs = s at *
        clear hsz hhd
        have hb1 : ((s : Int) == 0) = false := by simp; omega
        have hs1 : s ≤ xs.length := by omega
        clear h0 h2
        by_cases h128 : xs[0] = 128
        · have HV : Hid (numV xs = .tuple #[.int .u64 0, .int .i64 0, .int .i64 12]) := by unfold Hid numV; rw [HNS.out, if_pos h128]; rfl
          have h128b : ((xs[0].toNat : Int) == 128) = true := by rw [h128]; rfl
          clear h128
          go_wp2
          go_step3
          exact id (α := (0 : Nat) = 0 ∧ JW _ _ _ _) ⟨rfl, rfl, HV, by (repeat apply Exists.intro); rfl⟩
        · have HV : Hid (numS xs = match vl 0 (xs.take s) with | none => (0, 0, 12) | some n => (n, s, 0)) := by unfold Hid; rw [HNS.out, if_neg h128]
          have h128b : ((xs[0].toNat : Int) == 128) = false := by
            rw [beq_eq_false_iff_ne]; intro e; apply h128; apply UInt8.toNat_inj.1; simp; omega
          clear h128 HNS
          go_wp2
          go_loop [5, 28] (fun v i => ∃ k n : Nat, k ≤ s ∧ i = .int .i64 k ∧ v = .int .u64 n ∧ n < 18446744073709551616 ∧ Hid (vl 0 (xs.take s) = vl n ((xs.take s).drop k))) (fun _ i => s - (intOf i).toNat)
          case atStart => exact ⟨0, 0, Nat.zero_le _, rfl, rfl, by omega, rfl⟩
          case round =>
            obtain ⟨k, n, hk, rfl, rfl, hn, HK⟩ := hrel
            by_cases hlt : k < s
            · have hkx : k < xs.length := by omega
              have hc1 := hc k hkx
              have HK1 : Hid (vl 0 (xs.take s) = vl n (xs[k] :: (xs.take s).drop (k + 1))) := by
                unfold Hid; rw [HK.out, List.drop_eq_getElem_cons (i := k) (by simp; omega)]; simp
              clear HK hc
              by_cases hbig : 144115188075855872 ≤ n
              · have HV2 : Hid (numV xs = .tuple #[.int .u64 0, .int .i64 0, .int .i64 12]) := by
                  have e1 := HK1.out
                  simp only [vl, if_pos hbig] at e1
                  unfold Hid numV; rw [HV.out, e1]; rfl
                have hbI : (144115188075855872 : Int) ≤ (n : Int) := by omega
                have hnI : (n : Int) < 18446744073709551616 := by omega
                clear HV HK1 hbig hn
                go_wp2
                go_step3
                exact id (α := (0 : Nat) = 0 ∧ JW _ _ _ _) ⟨rfl, rfl, HV2, by (repeat apply Exists.intro); rfl⟩
              · have HK2 : Hid (vl 0 (xs.take s) = vl (n * 128 + xs[k].toNat % 128) ((xs.take s).drop (k + 1))) := by
                  have e1 := HK1.out
                  rw [vl, if_neg hbig] at e1
                  exact e1
                have hxk : (xs[k].toNat : Int) < 256 := by have := xs[k].toNat_lt; omega
                have hbI : decide ((144115188075855872 : Int) ≤ (n : Int)) = false := by simp; omega
                have HB : Hid (¬ 144115188075855872 ≤ n) := hbig
                obtain ⟨q, hq⟩ : ∃ q : Nat, q = n * 128 := ⟨_, rfl⟩
                obtain ⟨r, hr⟩ : ∃ r : Nat, r = q + xs[k].toNat % 128 := ⟨_, rfl⟩
                have hw1 : IntKind.u64.wrap ((n : Int) * 128) = (q : Int) := by rw [IntKind.wrap_u64]; omega
                have hw2 : IntKind.u64.wrap ((q : Int) + (xs[k].toNat : Int) % 128) = (r : Int) := by rw [IntKind.wrap_u64]; omega
                have HR : Hid (r = n * 128 + xs[k].toNat % 128) := by unfold Hid; omega
                clear HK1 hbig hn hq hr
                go_wp2
                go_round
                case rel => exact ⟨k + 1, n * 128 + xs[k].toNat % 128, by omega, by go_num, by rw [← HR.out], by have := HB.out; omega, HK2⟩
                case measure => simp [intOf]; omega
            · obtain rfl : k = s := by omega
              have e1 := HK.out
              rw [List.drop_of_length_le (by simp; omega), vl] at e1
              have HV2 : Hid (numV xs = .tuple #[.int .u64 n, .int .i64 k, .int .i64 0]) := by
                unfold Hid numV; rw [HV.out, e1]; rfl
              clear HV HK e1 hc
              go_wp2
              rw [jump_ret]
              go_ret3
              exact ⟨by rw [HV2.out]; rfl, rfl⟩
end Go.Proofs.YtplncfahpdmcoaaGreatDoor
