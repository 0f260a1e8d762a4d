import Derived.Test.YtdoikcolkbjnfaaGreatGEnd
import Derived.Test.YtdoikcolkbjnfaaGreatUG
namespace Go.Proofs.YtdoikcolkbjnfaaGreat
set_option linter.unusedVariables false
set_option linter.unusedSimpArgs false
open Go.RowKit
section
set_option maxRecDepth 20000
set_option maxHeartbeats 800000
end
end Go.Proofs.YtdoikcolkbjnfaaGreat
namespace Go.Proofs.YtdoikcolkbjnfaaGreat
set_option linter.unusedVariables false
set_option linter.unusedSimpArgs false
open Go.RowKit
section
set_option maxRecDepth 20000
set_option maxHeartbeats 1600000
end
end Go.Proofs.YtdoikcolkbjnfaaGreat
namespace Go.Proofs.YtdoikcolkbjnfaaGreat
set_option linter.unusedVariables false
set_option linter.unusedSimpArgs false
open Go.RowKit
theorem RdR.take {w : World} {ao : Option Addr} {l : List Rg} (h : RdR w ao l) (k : Nat) : RdR w ao (l.take k) := fun j hj => by
  obtain ⟨b, o, h1, h2, h3⟩ := h j (by simp at hj; omega)
  exact ⟨b, o, h1, by rw [h2]; simp, by rw [h3]; simp⟩
/-- a load whose guard is met -/
theorem wpList_load_g {ops : Array Oper} {rest : List Oper} {op : Oper} {a : Act} {w : World} {Q : Exit → Act → World → Prop} (hw : Region.wanted op (yielded ops a.tmps) = true) (ty : TypeId) (x : Operand) (ho : op.op = .load ty x)
    (b o : Nat) (hx : a.eval x = .pointer (some ⟨b, o, none⟩)) (cs : List Value) (d : TypeDesc) (hc : w.rangeAt b o cs)
    (hu : Tryz.prog.underlying ty = some d) (hd : d.isRow = true) (hi : (Tryz.prog.info? ty).map (·.size) = some cs.length)
    (h : wpList Tryz.prog ops Q rest (a.put op.dst (.agg cs.toArray)) w) : wpList Tryz.prog ops Q (op :: rest) a w :=
  wpList_step fun K hK => by simp only [hw, if_true]; exact wp_load_mid ty x ho b o hx cs d hc hu hd hi (hK _ _ h)
section
set_option maxRecDepth 20000
set_option maxHeartbeats 1600000
theorem goodData_b (k e s p i c : Int) (da : Option Addr) (dn dc : Nat) (cd : Int) (ga : Option Addr) (gn gc : Nat) (b : Bool) (w : World)  (hb : b = true ↔ ((p = 1 ∨ p = 2) ∧ (0 ≤ i ∧ i < 64) ∧ (i < c ∧ c ≤ 64) ∧ (1 ≤ dn ∧ dn ≤ 1024) ∧ (cd = 0 ∧ gn = 0))) : Calls Tryz.prog 92 #[.agg #[.int .i64 k, .int .u64 e, .int .u64 s, .int .i64 p, .int .i64 i, .int .i64 c, .slice da dn dc, .int .i64 cd, .slice ga gn gc]] w fun e w' => e = .returned (.bool b) ∧ Below w.heap.size w w' := by
  have hbx := range_box w [.int .i64 k, .int .u64 e, .int .u64 s, .int .i64 p, .int .i64 i, .int .i64 c, .slice da dn dc, .int .i64 cd, .slice ga gn gc] 41
  have HBX : Hid _ := hbx
  clear hbx
  by_cases h0 : (p = 1 ∨ p = 2)
  · skip
    by_cases h1 : (0 ≤ i ∧ i < 64)
    · skip
      by_cases h2 : (i < c ∧ c ≤ 64)
      · skip
        by_cases h3 : (1 ≤ dn ∧ dn ≤ 1024)
        · skip
          by_cases h4 : (cd = 0 ∧ gn = 0)
          · skip
            obtain rfl : b = true := bT hb ⟨h0, h1, h2, h3, h4⟩
            have H0 : Hid _ := h0
            have H1 : Hid _ := h1
            have H2 : Hid _ := h2
            have H3 : Hid _ := h3
            have H4 : Hid _ := h4
            clear hb h0 h1 h2 h3 h4
            go_enter Tryz.func92, Tryz.ntmps92
            go_wp2_with (first
              | (go_at_call 119; refine (goodPath_b p true ⟨fun _ => H0.out, fun _ => rfl⟩ _).mono ?_; rintro e w0 ⟨rfl, rfl⟩)
              | (go_at_call 120; refine (goodIndex_b i true ⟨fun _ => H1.out, fun _ => rfl⟩ _).mono ?_; rintro e w1 ⟨rfl, rfl⟩)
              | (go_at_call 121; refine (goodCount_b i c true ⟨fun _ => H2.out, fun _ => rfl⟩ _).mono ?_; rintro e w2 ⟨rfl, rfl⟩)
              | (go_at_call 122; refine (goodBytes_b da dn dc true ⟨fun _ => H3.out, fun _ => rfl⟩ _).mono ?_; rintro e w3 ⟨rfl, rfl⟩)
              | (go_at_call 123; refine (reportless_b k e s p i c da dn dc cd ga gn gc true ⟨fun _ => H4.out, fun _ => rfl⟩ _).mono ?_; rintro e w4 ⟨rfl, hb4⟩; have HB4 : Hid (Below w.heap.size w w4) := below_next (al (Below.refl _ w) _) hb4)
              | (refine wpList_load_g (by rfl) 41 _ rfl w.heap.size 0 (by rfl) [.int .i64 k, .int .u64 e, .int .u64 s, .int .i64 p, .int .i64 i, .int .i64 c, .slice da dn dc, .int .i64 cd, .slice ga gn gc] _ (by first | exact HL9.out | exact HBX.out) Tryz.underlying41 rfl info_un ?_))
            go_ret
            exact ⟨by first | rfl | (simp; done) | (simp; omega) | simp_all, HB4.out⟩
          · obtain rfl : b = false := bF hb (fun h => h4 h.2.2.2.2)
            have H0 : Hid _ := h0
            have H1 : Hid _ := h1
            have H2 : Hid _ := h2
            have H3 : Hid _ := h3
            have H4 : Hid _ := h4
            clear hb h0 h1 h2 h3 h4
            go_enter Tryz.func92, Tryz.ntmps92
            go_wp2_with (first
              | (go_at_call 119; refine (goodPath_b p true ⟨fun _ => H0.out, fun _ => rfl⟩ _).mono ?_; rintro e w0 ⟨rfl, rfl⟩)
              | (go_at_call 120; refine (goodIndex_b i true ⟨fun _ => H1.out, fun _ => rfl⟩ _).mono ?_; rintro e w1 ⟨rfl, rfl⟩)
              | (go_at_call 121; refine (goodCount_b i c true ⟨fun _ => H2.out, fun _ => rfl⟩ _).mono ?_; rintro e w2 ⟨rfl, rfl⟩)
              | (go_at_call 122; refine (goodBytes_b da dn dc true ⟨fun _ => H3.out, fun _ => rfl⟩ _).mono ?_; rintro e w3 ⟨rfl, rfl⟩)
              | (go_at_call 123; refine (reportless_b k e s p i c da dn dc cd ga gn gc false ⟨(fun h => by cases h), fun h => absurd h H4.out⟩ _).mono ?_; rintro e w4 ⟨rfl, hb4⟩; have HB4 : Hid (Below w.heap.size w w4) := below_next (al (Below.refl _ w) _) hb4)
              | (refine wpList_load_g (by rfl) 41 _ rfl w.heap.size 0 (by rfl) [.int .i64 k, .int .u64 e, .int .u64 s, .int .i64 p, .int .i64 i, .int .i64 c, .slice da dn dc, .int .i64 cd, .slice ga gn gc] _ (by first | exact HL9.out | exact HBX.out) Tryz.underlying41 rfl info_un ?_))
            go_ret
            exact ⟨by first | rfl | (simp; done) | (simp; omega) | simp_all, HB4.out⟩
        · obtain rfl : b = false := bF hb (fun h => h3 h.2.2.2.1)
          have H0 : Hid _ := h0
          have H1 : Hid _ := h1
          have H2 : Hid _ := h2
          have H3 : Hid _ := h3
          clear hb h0 h1 h2 h3
          go_enter Tryz.func92, Tryz.ntmps92
          go_wp2_with (first
            | (go_at_call 119; refine (goodPath_b p true ⟨fun _ => H0.out, fun _ => rfl⟩ _).mono ?_; rintro e w0 ⟨rfl, rfl⟩)
            | (go_at_call 120; refine (goodIndex_b i true ⟨fun _ => H1.out, fun _ => rfl⟩ _).mono ?_; rintro e w1 ⟨rfl, rfl⟩)
            | (go_at_call 121; refine (goodCount_b i c true ⟨fun _ => H2.out, fun _ => rfl⟩ _).mono ?_; rintro e w2 ⟨rfl, rfl⟩)
            | (go_at_call 122; refine (goodBytes_b da dn dc false ⟨(fun h => by cases h), fun h => absurd h H3.out⟩ _).mono ?_; rintro e w3 ⟨rfl, rfl⟩)
            | (refine wpList_load_g (by rfl) 41 _ rfl w.heap.size 0 (by rfl) [.int .i64 k, .int .u64 e, .int .u64 s, .int .i64 p, .int .i64 i, .int .i64 c, .slice da dn dc, .int .i64 cd, .slice ga gn gc] _ (by first | exact HL9.out | exact HBX.out) Tryz.underlying41 rfl info_un ?_))
          go_ret
          exact ⟨by first | rfl | (simp; done) | (simp; omega) | simp_all, al (Below.refl _ _) _⟩
      · obtain rfl : b = false := bF hb (fun h => h2 h.2.2.1)
        have H0 : Hid _ := h0
        have H1 : Hid _ := h1
        have H2 : Hid _ := h2
        clear hb h0 h1 h2
        go_enter Tryz.func92, Tryz.ntmps92
        go_wp2_with (first
          | (go_at_call 119; refine (goodPath_b p true ⟨fun _ => H0.out, fun _ => rfl⟩ _).mono ?_; rintro e w0 ⟨rfl, rfl⟩)
          | (go_at_call 120; refine (goodIndex_b i true ⟨fun _ => H1.out, fun _ => rfl⟩ _).mono ?_; rintro e w1 ⟨rfl, rfl⟩)
          | (go_at_call 121; refine (goodCount_b i c false ⟨(fun h => by cases h), fun h => absurd h H2.out⟩ _).mono ?_; rintro e w2 ⟨rfl, rfl⟩)
          | (refine wpList_load_g (by rfl) 41 _ rfl w.heap.size 0 (by rfl) [.int .i64 k, .int .u64 e, .int .u64 s, .int .i64 p, .int .i64 i, .int .i64 c, .slice da dn dc, .int .i64 cd, .slice ga gn gc] _ (by first | exact HL9.out | exact HBX.out) Tryz.underlying41 rfl info_un ?_))
        go_ret
        exact ⟨by first | rfl | (simp; done) | (simp; omega) | simp_all, al (Below.refl _ _) _⟩
    · obtain rfl : b = false := bF hb (fun h => h1 h.2.1)
      have H0 : Hid _ := h0
      have H1 : Hid _ := h1
      clear hb h0 h1
      go_enter Tryz.func92, Tryz.ntmps92
      go_wp2_with (first
        | (go_at_call 119; refine (goodPath_b p true ⟨fun _ => H0.out, fun _ => rfl⟩ _).mono ?_; rintro e w0 ⟨rfl, rfl⟩)
        | (go_at_call 120; refine (goodIndex_b i false ⟨(fun h => by cases h), fun h => absurd h H1.out⟩ _).mono ?_; rintro e w1 ⟨rfl, rfl⟩)
        | (refine wpList_load_g (by rfl) 41 _ rfl w.heap.size 0 (by rfl) [.int .i64 k, .int .u64 e, .int .u64 s, .int .i64 p, .int .i64 i, .int .i64 c, .slice da dn dc, .int .i64 cd, .slice ga gn gc] _ (by first | exact HL9.out | exact HBX.out) Tryz.underlying41 rfl info_un ?_))
      go_ret
      exact ⟨by first | rfl | (simp; done) | (simp; omega) | simp_all, al (Below.refl _ _) _⟩
  · obtain rfl : b = false := bF hb (fun h => h0 h.1)
    have H0 : Hid _ := h0
    clear hb h0
    go_enter Tryz.func92, Tryz.ntmps92
    go_wp2_with (first
      | (go_at_call 119; refine (goodPath_b p false ⟨(fun h => by cases h), fun h => absurd h H0.out⟩ _).mono ?_; rintro e w0 ⟨rfl, rfl⟩)
      | (refine wpList_load_g (by rfl) 41 _ rfl w.heap.size 0 (by rfl) [.int .i64 k, .int .u64 e, .int .u64 s, .int .i64 p, .int .i64 i, .int .i64 c, .slice da dn dc, .int .i64 cd, .slice ga gn gc] _ (by first | exact HL9.out | exact HBX.out) Tryz.underlying41 rfl info_un ?_))
    go_ret
    exact ⟨by first | rfl | (simp; done) | (simp; omega) | simp_all, al (Below.refl _ _) _⟩
end
end Go.Proofs.YtdoikcolkbjnfaaGreat
