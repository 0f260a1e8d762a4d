import Derived.Test.YtpakkpahcpgnnaaGreatDoorUG
import Derived.Test.YtpakkpahcpgnnaaGreatDoorGSame
import Derived.Laws.Rows
import Derived.Laws.ResultCell
import Derived.Deep.CutRange
set_option linter.unusedVariables false
set_option linter.unusedSimpArgs false
namespace Go.Proofs.YtpakkpahcpgnnaaGreatDoor
open Go.RowKit
def endR (l : List Rg) : Int := match l.getLast? with
 | none => 0
 | some y => y.2
theorem endR_nil : endR [] = 0 := rfl
theorem endR_snoc (l : List Rg) (y : Rg) : endR (l ++ [y]) = y.2 := by simp [endR]
theorem freeR_snoc (l : List Rg) (y : Rg) : freeR (l ++ [y]) = y.2 + 1 := by simp [freeR]
theorem gotF_end : ∀ (l : List Rg) (f : Int), 0 ≤ f → gotF f l → 0 ≤ endR l ∧ endR l ≤ 64
 | [], f, _, _ => by simp [endR]
 | [y], f, hf, h => by
  have h1 := h.1; simp only [endR, List.getLast?_singleton]; omega
 | y :: z :: l, f, hf, h => by
  have h1 := h.1; have h2 := gotF_end (z :: l) (y.2 + 1) (by omega) h.2; have e : endR (y :: z :: l) = endR (z :: l) := by unfold endR; rw [List.getLast?_cons_cons]
  rw [e]; exact h2
theorem gotOk_end {l : List Rg} (h : gotOk l) : 0 ≤ endR l ∧ endR l ≤ 64 := gotF_end l 0 (Int.le_refl _) h
theorem freeR_eq {l : List Rg} (h : 0 < l.length) : freeR l = endR l + 1 := by
 rcases List.eq_nil_or_concat l with h0 | ⟨q, z, h0⟩
 · subst h0; cases h
 · rw [List.concat_eq_append] at h0; subst h0; rw [freeR_snoc, endR_snoc]
section
set_option maxRecDepth 20000
set_option maxHeartbeats 1600000
theorem pend_t (ao : Option Addr) (n cap : Nat) (l : List Rg) (w : World) (hn : n = l.length) (hx : RdR w ao l) (hl : n ≤ 8796093022208) :
 Calls Tryz.prog 190 #[.slice ao n cap] w fun e w' => e = .returned (.int .i64 (endR l)) ∧ w' = w := by
 rcases List.eq_nil_or_concat l with h0 | ⟨q, y, h0⟩
 · subst h0; rw [endR_nil]; obtain rfl : n = 0 := hn; clear hx; go_enter Tryz.func190, Tryz.ntmps190
   go_wp2; go_ret; exact ⟨rfl, rfl⟩
 · rw [List.concat_eq_append] at h0; subst h0; rw [endR_snoc]; obtain ⟨m, hm⟩ : ∃ m : Nat, m = q.length := ⟨_, rfl⟩; have hnm : n = m + 1 := by rw [hn, hm]; simp
   obtain ⟨b, o, rfl, -, hc2⟩ := hx m (by simp; omega); have hc : w.cell? ⟨b, o + m * 2 + 1, none⟩ = some (.int .i64 y.2) := by rw [hc2]; subst hm; simp
   have hw : IntKind.i64.wrap ((n : Int) - 1) = (m : Int) := by rw [IntKind.wrap_i64]; omega
   have h0 : ¬ n = 0 := by omega
   have hlt : (m : Int) < (n : Int) := by omega
   have hm0 : (0 : Int) ≤ (m : Int) := by omega
   clear hn hx hnm hm hc2; go_enter Tryz.func190, Tryz.ntmps190
   go_wp2; go_ret; exact ⟨rfl, rfl⟩
theorem goodRange_b (ao : Option Addr) (n cap : Nat) (l : List Rg) (a1 a2 : Int) (b : Bool) (hb : b = true ↔ (freeR l ≤ a1 ∧ a1 < a2 ∧ a2 ≤ 64)) (w : World) (hn : n = l.length) (hx : RdR w ao l) (hl : n ≤ 8796093022208) (he : 0 ≤ endR l ∧ endR l ≤ 64) :
 Calls Tryz.prog 207 #[.slice ao n cap, .agg #[.int .i64 a1, .int .i64 a2]] w fun e w' => e = .returned (.bool b) ∧ Below w.heap.size w w' := by
 have HE : Hid _ := fun (u : World) (hu : Below w.heap.size w u) => pend_t ao n cap l u hn (hx.below hu) hl
 obtain ⟨E, hE⟩ : ∃ E : Int, E = endR l := ⟨_, rfl⟩; rw [← hE] at HE he; obtain ⟨F, hF⟩ : ∃ F : Int, F = freeR l := ⟨_, rfl⟩; rw [← hF] at hb; have hw : IntKind.i64.wrap (E + 1) = E + 1 := by rw [IntKind.wrap_i64]; omega
 have hFF : (n = 0 ∧ F = 0) ∨ (0 < n ∧ F = E + 1) := by
  by_cases h : 0 < l.length
  · exact .inr ⟨by omega, by rw [hF, hE, freeR_eq h]⟩
  · refine .inl ⟨by omega, ?_⟩; obtain rfl : l = [] := List.eq_nil_of_length_eq_zero (by omega); rw [hF]; rfl
 have HW : Hid _ := hw; clear hn hx hE hF he hw; have GO : ∀ (r : Bool), r = b → True := fun _ _ => trivial
 clear GO; rcases hFF with ⟨rfl, rfl⟩ | ⟨hn0, rfl⟩
 · clear HE HW
   by_cases h0 : 0 ≤ a1
   · skip
     by_cases h1 : a1 < a2
     · skip
       by_cases h2 : a2 ≤ 64
       · skip
         obtain rfl : b = true := bT hb ⟨h0, h1, h2⟩; clear hb; go_enter Tryz.func207, Tryz.ntmps207
         go_wp2; go_ret; exact ⟨by first | rfl | (simp; done) | (simp; omega) | simp_all, al (bR _ _) _⟩
       · obtain rfl : b = false := bF hb (fun h => h2 h.2.2); clear hb; go_enter Tryz.func207, Tryz.ntmps207
         go_wp2; go_ret; exact ⟨by first | rfl | (simp; done) | (simp; omega) | simp_all, al (bR _ _) _⟩
     · obtain rfl : b = false := bF hb (fun h => h1 h.2.1); clear hb; go_enter Tryz.func207, Tryz.ntmps207
       go_wp2; go_ret; exact ⟨by first | rfl | (simp; done) | (simp; omega) | simp_all, al (bR _ _) _⟩
   · obtain rfl : b = false := bF hb (fun h => h0 h.1); clear hb; go_enter Tryz.func207, Tryz.ntmps207
     go_wp2; go_ret; exact ⟨by first | rfl | (simp; done) | (simp; omega) | simp_all, al (bR _ _) _⟩
 · have hn1 : ¬ n = 0 := by omega
   have hn2 : (0 : Int) < (n : Int) := by omega
   by_cases h0 : E + 1 ≤ a1
   · skip
     by_cases h1 : a1 < a2
     · skip
       by_cases h2 : a2 ≤ 64
       · skip
         obtain rfl : b = true := bT hb ⟨h0, h1, h2⟩; clear hb; go_enter Tryz.func207, Tryz.ntmps207
         go_wp2_with (go_at_call 190; refine Calls.mono (HE.out _ (al (bR _ _) _)) ?_; rintro e w1 ⟨rfl, rfl⟩; have hw := HW.out)
         go_ret; exact ⟨by first | rfl | (simp; done) | (simp; omega) | simp_all, al (bR _ _) _⟩
       · obtain rfl : b = false := bF hb (fun h => h2 h.2.2); clear hb; go_enter Tryz.func207, Tryz.ntmps207
         go_wp2_with (go_at_call 190; refine Calls.mono (HE.out _ (al (bR _ _) _)) ?_; rintro e w1 ⟨rfl, rfl⟩; have hw := HW.out)
         go_ret; exact ⟨by first | rfl | (simp; done) | (simp; omega) | simp_all, al (bR _ _) _⟩
     · obtain rfl : b = false := bF hb (fun h => h1 h.2.1); clear hb; go_enter Tryz.func207, Tryz.ntmps207
       go_wp2_with (go_at_call 190; refine Calls.mono (HE.out _ (al (bR _ _) _)) ?_; rintro e w1 ⟨rfl, rfl⟩; have hw := HW.out)
       go_ret; exact ⟨by first | rfl | (simp; done) | (simp; omega) | simp_all, al (bR _ _) _⟩
   · obtain rfl : b = false := bF hb (fun h => h0 h.1); clear hb; go_enter Tryz.func207, Tryz.ntmps207
     go_wp2_with (go_at_call 190; refine Calls.mono (HE.out _ (al (bR _ _) _)) ?_; rintro e w1 ⟨rfl, rfl⟩; have hw := HW.out)
     go_ret; exact ⟨by first | rfl | (simp; done) | (simp; omega) | simp_all, al (bR _ _) _⟩
end
open Go.RowKit
theorem RdR.take {w : World} {ao : Option Addr} {l : List Rg} (h : RdR w ao l) (k : Nat) : RdR w ao (l.take k) := fun j hj => by
 obtain ⟨b, o, h1, h2, h3⟩ := h j (by simp at hj; omega); exact ⟨b, o, h1, by rw [h2]; simp, by rw [h3]; simp⟩
theorem wpList_load_g {ops : Array Oper} {rest : List Oper} {op : Oper} {a : Act} {w : World} {Q : Exit → Act → World → Prop} (hw : Region.wanted op (yielded ops a.tmps) = true) (ty : TypeId) (x : Operand) (ho : op.op = .load ty x)
 (b o : Nat) (hx : a.eval x = .pointer (some ⟨b, o, none⟩)) (cs : List Value) (d : TypeDesc) (hc : w.rangeAt b o cs)
 (hu : Tryz.prog.underlying ty = some d) (hd : d.isRow = true) (hi : (Tryz.prog.info? ty).map (·.size) = some cs.length)
 (h : wpList Tryz.prog ops Q rest (a.put op.dst (.agg cs.toArray)) w) : wpList Tryz.prog ops Q (op :: rest) a w :=
 wpList_step fun K hK => by simp only [hw, if_true]; exact wp_load_mid ty x ho b o hx cs d hc hu hd hi (hK _ _ h)
section
set_option maxRecDepth 20000
set_option maxHeartbeats 1600000
theorem goodGot_b (ao : Option Addr) (n cap : Nat) (l : List Rg) (b : Bool) (hb : b = true ↔ gotOk l) (w : World) (hn : n = l.length) (hx : RdR w ao l) (hl : n ≤ 8796093022208) (hc : n ≤ cap) :
 Calls Tryz.prog 189 #[.slice ao n cap] w fun e w' => e = .returned (.bool b) ∧ Below w.heap.size w w' := by
 have HN : Hid (n = l.length) := hn; have HBB : Hid (b = true ↔ gotOk l) := hb; clear hn hb; go_enter Tryz.func189, Tryz.ntmps189
 go_wp2; go_loopw [7] (fun j wr => ∃ k : Nat, k ≤ n ∧ j = .int .i64 (k : Int) ∧ gotOk (l.take k) ∧ Below w.heap.size w wr) (fun j _ => n - (intOf j).toNat)
 case atStart => exact ⟨0, Nat.zero_le _, rfl, trivial, bR _ _⟩
 case round =>
  obtain ⟨k, hk, rfl, hok, hbw⟩ := hrel; have hkw : IntKind.i64.wrap ((k : Int) + 1) = ((k + 1 : Nat) : Int) := by rw [IntKind.wrap_i64]; omega
  have HOK : Hid (gotOk (l.take k)) := hok; have HB : Hid (Below w.heap.size w wr) := hbw; clear hok
  by_cases hlt : k < n
  · have hk1 : k < l.length := by rw [← HN.out]; exact hlt
    have hlti : (k : Int) < (n : Int) := by omega
    have hk0 : (0 : Int) ≤ (k : Int) := by omega
    have hkc : (k : Int) ≤ (cap : Int) := by omega
    have hkca : ¬ cap = k := by omega
    have hxr := hx.below hbw; obtain ⟨bb, o, rfl, -, -⟩ := hxr k hk1; have HRG : Hid _ := hxr.range k hk1; obtain ⟨x, hx9⟩ : ∃ x : Rg, x = l[k] := ⟨_, rfl⟩; rw [← hx9] at HRG; have HTK : Hid (l.take (k + 1) = l.take k ++ [x]) := by unfold Hid; rw [List.take_succ_eq_append_getElem hk1, hx9]
    have HPRE : Hid (gotOk l → gotOk (l.take (k + 1))) := fun h => by
     rw [← List.take_append_drop (k + 1) l] at h; exact gotOk_pre h
    obtain ⟨a1, a2⟩ := x; have hz := (zero_of_info info_rg).1; have HTL : Hid (k = (l.take k).length) := by unfold Hid; rw [List.length_take]; omega
    have HGR : Hid (∀ (g : Bool), (g = true ↔ (freeR (l.take k) ≤ a1 ∧ a1 < a2 ∧ a2 ≤ 64)) → ∀ u, Below w.heap.size w u → Calls Tryz.prog 207 #[.slice (some ⟨bb, o, none⟩) k cap, .agg #[.int .i64 a1, .int .i64 a2]] u fun e w' => e = .returned (.bool g) ∧ Below u.heap.size u w') := fun g hg u hu => goodRange_b (some ⟨bb, o, none⟩) k cap (l.take k) a1 a2 g hg u HTL.out ((hx.below hu).take k) (by omega) (gotOk_end HOK.out)
    have hbx : ∀ u, Below (wr.heap.size + 1) (wr.alloc (.cells #[.int .i64 a1, .int .i64 a2] 108 (0, 0))) u → (Instr.loadAt 108 (.pointer (some ⟨wr.heap.size, 0, none⟩))).run Tryz.prog u = .ok (.agg #[.int .i64 a1, .int .i64 a2]) u := fun u hu => load_rg u _ _ a1 a2 (((rd_lit1 wr (a1, a2)).below (by simpa using hu)).range 0 (Nat.zero_lt_succ _))
    clear hx9 hxr hbw
    by_cases hg : freeR (l.take k) ≤ a1 ∧ a1 < a2 ∧ a2 ≤ 64
    · have HNX : Hid (gotOk (l.take (k + 1))) := by unfold Hid; rw [HTK.out]; exact (gotOk_snoc _ _).2 ⟨HOK.out, hg⟩
      have HGG : Hid _ := HGR.out true ⟨fun _ => hg, fun _ => rfl⟩; clear hg HGR; go_wp2_with (refine wpList_load_mid rfl 108 _ rfl bb (o + k * 2) (by rfl) [.int .i64 a1, .int .i64 a2] _ HRG.out Tryz.underlying108 rfl (by rw [(zero_of_info info_rg).2]; rfl) ?_)
      have hS0 : Below (wr.heap.size + 1) (wr.alloc (.cells #[.int .i64 a1, .int .i64 a2] 108 (0, 0))) (wr.alloc (.cells #[.int .i64 a1, .int .i64 a2] 108 (0, 0))) := bR _ _; refine wp_region_noPanic ?_; refine wp_region_held_drew (S := (fun u => Below (wr.heap.size + 1) (wr.alloc (.cells #[.int .i64 a1, .int .i64 a2] 108 (0, 0))) u)) (by kernel_rfl) (by first | exact hS0.drew | exact hS5 | assumption) (fun hHeld => ?_); refine tz 0 12 hHeld ?_; simp only [pS]; refine tz 1 13 hHeld ?_; simp only [pS]; refine tz 2 14 hHeld ?_; simp only [pS]; refine tk 3 15 (v := .agg #[.int .i64 a1, .int .i64 a2]) ?_ hHeld ?_
      · (intro w hSw; refine exec_load (by rfl) ?_; exact hbx w hSw)
      simp only [pS]; refine run_at (i := 4) rfl (by kernel_rfl) (by rfl) (fun K hK => ?_); simp only [gE]; go_simp
      (go_at_call 207; refine Calls.mono (HGG.out _ (al HB.out _).drew) ?_; rintro e w5 ⟨rfl, hb5⟩; have hS5 : Below (wr.heap.size + 1) (wr.alloc (.cells #[.int .i64 a1, .int .i64 a2] 108 (0, 0))) w5 := hS0.drew.trans (by simpa using hb5); have HB5 : Hid (Below w.heap.size w w5) := below_next (al HB.out _).drew hb5)
      (go_wp2_with fail); refine hK.out _ _ (by first | exact hS0.drew | exact hS5 | assumption) ?_; clear hK K; clear hHeld; intro hHeld; (try simp only [pS]); refine tz 5 17 hHeld ?_; simp only [pS]; refine wpAnyH_done (by kernel_rfl) ?_ _; refine NoPanic.normal ?_; go_wp2; go_roundw
      case rel => exact ⟨k + 1, by omega, by go_num, HNX.out, HB5.out⟩
      case measure => simp [intOf]; omega
    · obtain rfl : b = false := bF HBB.out (fun h => hg (by have h9 := HPRE.out h; rw [HTK.out] at h9; exact ((gotOk_snoc _ _).1 h9).2)); have HGG : Hid _ := HGR.out false ⟨(fun h => by cases h), fun h => absurd h hg⟩; clear hg HGR HBB; go_wp2_with (refine wpList_load_mid rfl 108 _ rfl bb (o + k * 2) (by rfl) [.int .i64 a1, .int .i64 a2] _ HRG.out Tryz.underlying108 rfl (by rw [(zero_of_info info_rg).2]; rfl) ?_)
      have hS0 : Below (wr.heap.size + 1) (wr.alloc (.cells #[.int .i64 a1, .int .i64 a2] 108 (0, 0))) (wr.alloc (.cells #[.int .i64 a1, .int .i64 a2] 108 (0, 0))) := bR _ _; refine wp_region_noPanic ?_; refine wp_region_held_drew (S := (fun u => Below (wr.heap.size + 1) (wr.alloc (.cells #[.int .i64 a1, .int .i64 a2] 108 (0, 0))) u)) (by kernel_rfl) (by first | exact hS0.drew | exact hS5 | assumption) (fun hHeld => ?_); refine tz 0 12 hHeld ?_; simp only [pS]; refine tz 1 13 hHeld ?_; simp only [pS]; refine tz 2 14 hHeld ?_; simp only [pS]; refine tk 3 15 (v := .agg #[.int .i64 a1, .int .i64 a2]) ?_ hHeld ?_
      · (intro w hSw; refine exec_load (by rfl) ?_; exact hbx w hSw)
      simp only [pS]; refine run_at (i := 4) rfl (by kernel_rfl) (by rfl) (fun K hK => ?_); simp only [gE]; go_simp
      (go_at_call 207; refine Calls.mono (HGG.out _ (al HB.out _).drew) ?_; rintro e w5 ⟨rfl, hb5⟩; have hS5 : Below (wr.heap.size + 1) (wr.alloc (.cells #[.int .i64 a1, .int .i64 a2] 108 (0, 0))) w5 := hS0.drew.trans (by simpa using hb5); have HB5 : Hid (Below w.heap.size w w5) := below_next (al HB.out _).drew hb5)
      (go_wp2_with fail); refine hK.out _ _ (by first | exact hS0.drew | exact hS5 | assumption) ?_; clear hK K; clear hHeld; intro hHeld; (try simp only [pS]); refine tz 5 17 hHeld ?_; simp only [pS]; refine wpAnyH_done (by kernel_rfl) ?_ _; refine NoPanic.normal ?_; go_wp2; go_ret; exact ⟨rfl, HB5.out⟩
  · have hlti : ¬ (k : Int) < (n : Int) := by omega
    obtain rfl : b = true := HBB.out.2 (by have h9 := HOK.out; rw [List.take_of_length_le (by rw [← HN.out]; omega)] at h9; exact h9); clear hbw HBB; go_wp2; go_ret; exact ⟨rfl, HB.out⟩
theorem goodData_b (k e s p i c : Int) (da : Option Addr) (dn dc : Nat) (cd : Int) (ga : Option Addr) (gn gc : Nat) (b : Bool) (w : World)  (hb : b = true ↔ ((p = 1 ∨ p = 2) ∧ (0 ≤ i ∧ i < 64) ∧ (i < c ∧ c ≤ 64) ∧ (1 ≤ dn ∧ dn ≤ 1024) ∧ (cd = 0 ∧ gn = 0))) : Calls Tryz.prog 147 #[.agg #[.int .i64 k, .int .u64 e, .int .u64 s, .int .i64 p, .int .i64 i, .int .i64 c, .slice da dn dc, .int .i64 cd, .slice ga gn gc]] w fun e w' => e = .returned (.bool b) ∧ Below w.heap.size w w' := by
 have hbx := range_box w [.int .i64 k, .int .u64 e, .int .u64 s, .int .i64 p, .int .i64 i, .int .i64 c, .slice da dn dc, .int .i64 cd, .slice ga gn gc] 49; have HBX : Hid _ := hbx; clear hbx
 by_cases h0 : (p = 1 ∨ p = 2)
 · skip
   by_cases h1 : (0 ≤ i ∧ i < 64)
   · skip
     by_cases h2 : (i < c ∧ c ≤ 64)
     · skip
       by_cases h3 : (1 ≤ dn ∧ dn ≤ 1024)
       · skip
         by_cases h4 : (cd = 0 ∧ gn = 0)
         · skip
           obtain rfl : b = true := bT hb ⟨h0, h1, h2, h3, h4⟩; have H0 : Hid _ := h0; have H1 : Hid _ := h1; have H2 : Hid _ := h2; have H3 : Hid _ := h3; have H4 : Hid _ := h4; clear hb h0 h1 h2 h3 h4; go_enter Tryz.func147, Tryz.ntmps147
           go_wp2_with (first
             | (go_at_call 177; refine (goodPath_b p true ⟨fun _ => H0.out, fun _ => rfl⟩ _).mono ?_; rintro e w0 ⟨rfl, rfl⟩)
             | (go_at_call 178; refine (goodIndex_b i true ⟨fun _ => H1.out, fun _ => rfl⟩ _).mono ?_; rintro e w1 ⟨rfl, rfl⟩)
             | (go_at_call 179; refine (goodCount_b i c true ⟨fun _ => H2.out, fun _ => rfl⟩ _).mono ?_; rintro e w2 ⟨rfl, rfl⟩)
             | (go_at_call 180; refine (goodBytes_b da dn dc true ⟨fun _ => H3.out, fun _ => rfl⟩ _).mono ?_; rintro e w3 ⟨rfl, rfl⟩)
             | (go_at_call 181; refine (reportless_b k e s p i c da dn dc cd ga gn gc true ⟨fun _ => H4.out, fun _ => rfl⟩ _).mono ?_; rintro e w4 ⟨rfl, hb4⟩; have HB4 : Hid (Below w.heap.size w w4) := below_next (al (Below.refl _ w) _) hb4)
             | (refine wpList_load_g (by rfl) 49 _ rfl w.heap.size 0 (by rfl) [.int .i64 k, .int .u64 e, .int .u64 s, .int .i64 p, .int .i64 i, .int .i64 c, .slice da dn dc, .int .i64 cd, .slice ga gn gc] _ (by first | exact HL9.out | exact HBX.out) Tryz.underlying49 rfl info_un ?_))
           go_ret; exact ⟨by first | rfl | (simp; done) | (simp; omega) | simp_all, HB4.out⟩
         · obtain rfl : b = false := bF hb (fun h => h4 h.2.2.2.2); have H0 : Hid _ := h0; have H1 : Hid _ := h1; have H2 : Hid _ := h2; have H3 : Hid _ := h3; have H4 : Hid _ := h4; clear hb h0 h1 h2 h3 h4; go_enter Tryz.func147, Tryz.ntmps147
           go_wp2_with (first
             | (go_at_call 177; refine (goodPath_b p true ⟨fun _ => H0.out, fun _ => rfl⟩ _).mono ?_; rintro e w0 ⟨rfl, rfl⟩)
             | (go_at_call 178; refine (goodIndex_b i true ⟨fun _ => H1.out, fun _ => rfl⟩ _).mono ?_; rintro e w1 ⟨rfl, rfl⟩)
             | (go_at_call 179; refine (goodCount_b i c true ⟨fun _ => H2.out, fun _ => rfl⟩ _).mono ?_; rintro e w2 ⟨rfl, rfl⟩)
             | (go_at_call 180; refine (goodBytes_b da dn dc true ⟨fun _ => H3.out, fun _ => rfl⟩ _).mono ?_; rintro e w3 ⟨rfl, rfl⟩)
             | (go_at_call 181; refine (reportless_b k e s p i c da dn dc cd ga gn gc false ⟨(fun h => by cases h), fun h => absurd h H4.out⟩ _).mono ?_; rintro e w4 ⟨rfl, hb4⟩; have HB4 : Hid (Below w.heap.size w w4) := below_next (al (Below.refl _ w) _) hb4)
             | (refine wpList_load_g (by rfl) 49 _ rfl w.heap.size 0 (by rfl) [.int .i64 k, .int .u64 e, .int .u64 s, .int .i64 p, .int .i64 i, .int .i64 c, .slice da dn dc, .int .i64 cd, .slice ga gn gc] _ (by first | exact HL9.out | exact HBX.out) Tryz.underlying49 rfl info_un ?_))
           go_ret; exact ⟨by first | rfl | (simp; done) | (simp; omega) | simp_all, HB4.out⟩
       · obtain rfl : b = false := bF hb (fun h => h3 h.2.2.2.1); have H0 : Hid _ := h0; have H1 : Hid _ := h1; have H2 : Hid _ := h2; have H3 : Hid _ := h3; clear hb h0 h1 h2 h3; go_enter Tryz.func147, Tryz.ntmps147
         go_wp2_with (first
           | (go_at_call 177; refine (goodPath_b p true ⟨fun _ => H0.out, fun _ => rfl⟩ _).mono ?_; rintro e w0 ⟨rfl, rfl⟩)
           | (go_at_call 178; refine (goodIndex_b i true ⟨fun _ => H1.out, fun _ => rfl⟩ _).mono ?_; rintro e w1 ⟨rfl, rfl⟩)
           | (go_at_call 179; refine (goodCount_b i c true ⟨fun _ => H2.out, fun _ => rfl⟩ _).mono ?_; rintro e w2 ⟨rfl, rfl⟩)
           | (go_at_call 180; refine (goodBytes_b da dn dc false ⟨(fun h => by cases h), fun h => absurd h H3.out⟩ _).mono ?_; rintro e w3 ⟨rfl, rfl⟩)
           | (refine wpList_load_g (by rfl) 49 _ rfl w.heap.size 0 (by rfl) [.int .i64 k, .int .u64 e, .int .u64 s, .int .i64 p, .int .i64 i, .int .i64 c, .slice da dn dc, .int .i64 cd, .slice ga gn gc] _ (by first | exact HL9.out | exact HBX.out) Tryz.underlying49 rfl info_un ?_))
         go_ret; exact ⟨by first | rfl | (simp; done) | (simp; omega) | simp_all, al (bR _ _) _⟩
     · obtain rfl : b = false := bF hb (fun h => h2 h.2.2.1); have H0 : Hid _ := h0; have H1 : Hid _ := h1; have H2 : Hid _ := h2; clear hb h0 h1 h2; go_enter Tryz.func147, Tryz.ntmps147
       go_wp2_with (first
         | (go_at_call 177; refine (goodPath_b p true ⟨fun _ => H0.out, fun _ => rfl⟩ _).mono ?_; rintro e w0 ⟨rfl, rfl⟩)
         | (go_at_call 178; refine (goodIndex_b i true ⟨fun _ => H1.out, fun _ => rfl⟩ _).mono ?_; rintro e w1 ⟨rfl, rfl⟩)
         | (go_at_call 179; refine (goodCount_b i c false ⟨(fun h => by cases h), fun h => absurd h H2.out⟩ _).mono ?_; rintro e w2 ⟨rfl, rfl⟩)
         | (refine wpList_load_g (by rfl) 49 _ rfl w.heap.size 0 (by rfl) [.int .i64 k, .int .u64 e, .int .u64 s, .int .i64 p, .int .i64 i, .int .i64 c, .slice da dn dc, .int .i64 cd, .slice ga gn gc] _ (by first | exact HL9.out | exact HBX.out) Tryz.underlying49 rfl info_un ?_))
       go_ret; exact ⟨by first | rfl | (simp; done) | (simp; omega) | simp_all, al (bR _ _) _⟩
   · obtain rfl : b = false := bF hb (fun h => h1 h.2.1); have H0 : Hid _ := h0; have H1 : Hid _ := h1; clear hb h0 h1; go_enter Tryz.func147, Tryz.ntmps147
     go_wp2_with (first
       | (go_at_call 177; refine (goodPath_b p true ⟨fun _ => H0.out, fun _ => rfl⟩ _).mono ?_; rintro e w0 ⟨rfl, rfl⟩)
       | (go_at_call 178; refine (goodIndex_b i false ⟨(fun h => by cases h), fun h => absurd h H1.out⟩ _).mono ?_; rintro e w1 ⟨rfl, rfl⟩)
       | (refine wpList_load_g (by rfl) 49 _ rfl w.heap.size 0 (by rfl) [.int .i64 k, .int .u64 e, .int .u64 s, .int .i64 p, .int .i64 i, .int .i64 c, .slice da dn dc, .int .i64 cd, .slice ga gn gc] _ (by first | exact HL9.out | exact HBX.out) Tryz.underlying49 rfl info_un ?_))
     go_ret; exact ⟨by first | rfl | (simp; done) | (simp; omega) | simp_all, al (bR _ _) _⟩
 · obtain rfl : b = false := bF hb (fun h => h0 h.1); have H0 : Hid _ := h0; clear hb h0; go_enter Tryz.func147, Tryz.ntmps147
   go_wp2_with (first
     | (go_at_call 177; refine (goodPath_b p false ⟨(fun h => by cases h), fun h => absurd h H0.out⟩ _).mono ?_; rintro e w0 ⟨rfl, rfl⟩)
     | (refine wpList_load_g (by rfl) 49 _ rfl w.heap.size 0 (by rfl) [.int .i64 k, .int .u64 e, .int .u64 s, .int .i64 p, .int .i64 i, .int .i64 c, .slice da dn dc, .int .i64 cd, .slice ga gn gc] _ (by first | exact HL9.out | exact HBX.out) Tryz.underlying49 rfl info_un ?_))
   go_ret; exact ⟨by first | rfl | (simp; done) | (simp; omega) | simp_all, al (bR _ _) _⟩
theorem goodCancel_b (k e s p i c : Int) (da : Option Addr) (dn dc : Nat) (cd : Int) (ga : Option Addr) (gn gc : Nat) (b : Bool) (w : World)  (hb : b = true ↔ ((p = 0 ∧ i = 0 ∧ c = 0 ∧ dn = 0) ∧ (cd = 0 ∧ gn = 0))) : Calls Tryz.prog 153 #[.agg #[.int .i64 k, .int .u64 e, .int .u64 s, .int .i64 p, .int .i64 i, .int .i64 c, .slice da dn dc, .int .i64 cd, .slice ga gn gc]] w fun e w' => e = .returned (.bool b) ∧ Below w.heap.size w w' := by
 have hbx := range_box w [.int .i64 k, .int .u64 e, .int .u64 s, .int .i64 p, .int .i64 i, .int .i64 c, .slice da dn dc, .int .i64 cd, .slice ga gn gc] 49; have HBX : Hid _ := hbx; clear hbx
 by_cases h0 : (p = 0 ∧ i = 0 ∧ c = 0 ∧ dn = 0)
 · skip
   by_cases h1 : (cd = 0 ∧ gn = 0)
   · skip
     obtain rfl : b = true := bT hb ⟨h0, h1⟩; have H0 : Hid _ := h0; have H1 : Hid _ := h1; clear hb h0 h1; go_enter Tryz.func153, Tryz.ntmps153
     go_wp2_with (first
       | (go_at_call 187; refine (dataless_b k e s p i c da dn dc cd ga gn gc true ⟨fun _ => H0.out, fun _ => rfl⟩ _).mono ?_; rintro e w0 ⟨rfl, hb0⟩; have HB0 : Hid (Below w.heap.size w w0) := below_next (al (Below.refl _ w) _) hb0; have HL9 : Hid _ := range_below HBX.out hb0)
       | (go_at_call 181; refine (reportless_b k e s p i c da dn dc cd ga gn gc true ⟨fun _ => H1.out, fun _ => rfl⟩ _).mono ?_; rintro e w1 ⟨rfl, hb1⟩; have HB1 : Hid (Below w.heap.size w w1) := below_next HB0.out hb1)
       | (refine wpList_load_g (by rfl) 49 _ rfl w.heap.size 0 (by rfl) [.int .i64 k, .int .u64 e, .int .u64 s, .int .i64 p, .int .i64 i, .int .i64 c, .slice da dn dc, .int .i64 cd, .slice ga gn gc] _ (by first | exact HL9.out | exact HBX.out) Tryz.underlying49 rfl info_un ?_))
     go_ret; exact ⟨by first | rfl | (simp; done) | (simp; omega) | simp_all, HB1.out⟩
   · obtain rfl : b = false := bF hb (fun h => h1 h.2); have H0 : Hid _ := h0; have H1 : Hid _ := h1; clear hb h0 h1; go_enter Tryz.func153, Tryz.ntmps153
     go_wp2_with (first
       | (go_at_call 187; refine (dataless_b k e s p i c da dn dc cd ga gn gc true ⟨fun _ => H0.out, fun _ => rfl⟩ _).mono ?_; rintro e w0 ⟨rfl, hb0⟩; have HB0 : Hid (Below w.heap.size w w0) := below_next (al (Below.refl _ w) _) hb0; have HL9 : Hid _ := range_below HBX.out hb0)
       | (go_at_call 181; refine (reportless_b k e s p i c da dn dc cd ga gn gc false ⟨(fun h => by cases h), fun h => absurd h H1.out⟩ _).mono ?_; rintro e w1 ⟨rfl, hb1⟩; have HB1 : Hid (Below w.heap.size w w1) := below_next HB0.out hb1)
       | (refine wpList_load_g (by rfl) 49 _ rfl w.heap.size 0 (by rfl) [.int .i64 k, .int .u64 e, .int .u64 s, .int .i64 p, .int .i64 i, .int .i64 c, .slice da dn dc, .int .i64 cd, .slice ga gn gc] _ (by first | exact HL9.out | exact HBX.out) Tryz.underlying49 rfl info_un ?_))
     go_ret; exact ⟨by first | rfl | (simp; done) | (simp; omega) | simp_all, HB1.out⟩
 · obtain rfl : b = false := bF hb (fun h => h0 h.1); have H0 : Hid _ := h0; clear hb h0; go_enter Tryz.func153, Tryz.ntmps153
   go_wp2_with (first
     | (go_at_call 187; refine (dataless_b k e s p i c da dn dc cd ga gn gc false ⟨(fun h => by cases h), fun h => absurd h H0.out⟩ _).mono ?_; rintro e w0 ⟨rfl, hb0⟩; have HB0 : Hid (Below w.heap.size w w0) := below_next (al (Below.refl _ w) _) hb0; have HL9 : Hid _ := range_below HBX.out hb0)
     | (refine wpList_load_g (by rfl) 49 _ rfl w.heap.size 0 (by rfl) [.int .i64 k, .int .u64 e, .int .u64 s, .int .i64 p, .int .i64 i, .int .i64 c, .slice da dn dc, .int .i64 cd, .slice ga gn gc] _ (by first | exact HL9.out | exact HBX.out) Tryz.underlying49 rfl info_un ?_))
   go_ret; exact ⟨by first | rfl | (simp; done) | (simp; omega) | simp_all, HB0.out⟩
end
open Go.RowKit
theorem splice_step {α : Type} (L : List α) (k : Nat) (v : α) (r : List α) (h : k < L.length) : splice (L.set k v) (k + 1) r = splice L k (v :: r) := by
 unfold splice; rw [List.take_set, List.drop_set_of_lt (by omega), List.take_succ_eq_append_getElem h]; rw [List.set_append_right _ _ (by simp; omega)]; simp only [List.length_take, Nat.min_eq_left (Nat.le_of_lt h), Nat.sub_self, List.set_cons_zero, List.append_assoc, List.cons_append, List.nil_append, List.length_cons]; rw [show k + 1 + r.length = k + (r.length + 1) from by omega]
theorem heap_setCells (g : Nat) (t : TypeId) : ∀ (cs : List Value) (o : Nat) (L : List Value) (w : World), w.heap[g]? = some (.cells L.toArray t (0, 0)) → o + cs.length ≤ L.length → (w.setCells g o cs).heap[g]? = some (.cells (splice L o cs).toArray t (0, 0))
 | [], o, L, w, h, _ => by simpa [splice, World.setCells] using h
 | v :: r, o, L, w, h, hl => by
  rw [World.setCells, heap_setCells g t r (o + 1) (L.set o v) _ (by rw [heap_setCell_same w g o _ t v h]; simp) (by simp at hl ⊢; omega), splice_step _ _ _ _ (by simp at hl; omega)]
theorem gset1u (w : World) (g i : Nat) (v : Value) : w.grownBy (w.setCell ⟨g, i, none⟩ v) (some g) :=
 ⟨rfl, rfl, rfl, by simp, fun k _ hne => heap_setCell_other _ _ _ _ (fun e => hne (by rw [e]))⟩
theorem setCells_grown (g : Nat) : ∀ (cs : List Value) (o : Nat) (w : World), w.grownBy (w.setCells g o cs) (some g)
 | [], _, w => World.grownBy.refl _ _
 | v :: r, o, w => by
  rw [World.setCells]; exact (gset1u w g o v).trans' (setCells_grown g r (o + 1) _)
theorem results_ctu {P : Program} {fn : Func} {p u : Tmp} {ty : TypeId} (h : fn.results = #[.cell p ty, .tmp u]) (tmps : Array Value) (w : World) (g : Nat) (t : TypeId) (cs : Array Value) (fr : Nat × Nat) (d : TypeDesc)
 (hp : tmps.getD p undef = .pointer (some ⟨g, 0, none⟩)) (hg : w.heap[g]? = some (.cells cs t fr))
 (hu : P.underlying ty = some d) (hd : (match d with | .struct _ | .array _ _ => true | _ => false) = true) (hi : (P.info? ty).map (·.size) = some cs.size) :
 (results fn tmps).run P w = .ok (.tuple #[.agg cs, tmps.getD u undef]) w := by
 rw [results_cell_tmp h]; rw [hp]; simp [asAddr, run_loadVar_row w g t ty cs fr d hg hu hd hi, Result.andThen]
theorem splice_all {L cs : List Value} (h : L.length = cs.length) : splice L 0 cs = cs := by unfold splice; simp; omega
theorem box_set {w : World} {g : Nat} {t : TypeId} {C : Array Value} {cs : List Value} (h : w.heap[g]? = some (.cells C t (0, 0))) (hl : C.size = cs.length) : (w.setCells g 0 cs).heap[g]? = some (.cells cs.toArray t (0, 0)) := by
 have h2 := heap_setCells g t cs 0 C.toList w (by simpa using h) (by simp; omega); rw [splice_all (by simpa using hl)] at h2; exact h2
theorem box_there {w : World} {g n : Nat} {t : TypeId} {C : Array Value} (h : w.heap[g]? = some (.cells C t (0, 0))) (hl : C.size = n) : w.there g 0 n := fun i hi => by
 refine ⟨?_, by simp [World.frozen?, h]⟩; rw [Nat.zero_add, cR h]; simp [hl, hi]
theorem box_range {w : World} {g : Nat} {t : TypeId} {cs : List Value} (h : w.heap[g]? = some (.cells cs.toArray t (0, 0))) : w.rangeAt g 0 cs := fun j v hv => by
 rw [Nat.zero_add, cR h]
 simpa using hv
theorem heap_alloc_size1' (w : World) (o : Obj) : (w.alloc o).heap.size = w.heap.size + 1 := by simp
open Go.RowKit
theorem freeR_pos {l : List Rg} (h : gotOk l) : 0 ≤ freeR l := by
 by_cases h0 : 0 < l.length
 · rw [freeR_eq h0]; have := gotOk_end h; omega
 · obtain rfl : l = [] := List.eq_nil_of_length_eq_zero (by omega); exact Int.le_refl _
section
set_option maxRecDepth 20000
set_option maxHeartbeats 3200000
theorem told_b (ao : Option Addr) (n cap : Nat) (l : List Rg) (b : Bool) (hb : b = true ↔ gotOk l) (w : World) (hn : n = l.length) (hx : RdR w ao l) (hl : n ≤ 8796093022208) :
 Calls Tryz.prog 118 #[.slice ao n cap] w fun e w' => e = .returned (.bool b) ∧ Below w.heap.size w w' := by
 have HN : Hid (n = l.length) := hn; have HBB : Hid (b = true ↔ gotOk l) := hb; clear hn hb; go_enter Tryz.func118, Tryz.ntmps118
 go_wp2; go_loopw [3, 4] (fun ev j wr => ∃ (k : Nat) (E : Int), k ≤ n ∧ j = .int .i64 (k : Int) ∧ ev = .int .i64 E ∧ E = freeR (l.take k) - 1 ∧ gotOk (l.take k) ∧ Below w.heap.size w wr) (fun _ j _ => n - (intOf j).toNat)
 case atStart => exact ⟨0, -1, Nat.zero_le _, rfl, rfl, rfl, trivial, bR _ _⟩
 case round =>
  obtain ⟨k, E, hk, rfl, rfl, hE, hok, hbw⟩ := hrel; have hkw : IntKind.i64.wrap ((k : Int) + 1) = ((k + 1 : Nat) : Int) := by rw [IntKind.wrap_i64]; omega
  have HOK : Hid (gotOk (l.take k)) := hok; have HE : Hid (E = freeR (l.take k) - 1) := hE; have HB : Hid (Below w.heap.size w wr) := hbw; clear hok hE
  by_cases hlt : k < n
  · have hk1 : k < l.length := by rw [← HN.out]; exact hlt
    have hlti : (k : Int) < (n : Int) := by omega
    have hk0 : (0 : Int) ≤ (k : Int) := by omega
    obtain ⟨bb, o, rfl, -, -⟩ := hx k hk1
    have hr : ∀ u, Below w.heap.size w u → u.cell? ⟨bb, o + k * 2, none⟩ = some (.int .i64 l[k].1) ∧ u.cell? ⟨bb, o + k * 2 + 1, none⟩ = some (.int .i64 l[k].2) := fun u hu => by
     obtain ⟨b', o', e9, h1, h2⟩ := (hx.below hu) k hk1; cases e9; exact ⟨h1, h2⟩
    obtain ⟨x, hx9⟩ : ∃ x : Rg, x = l[k] := ⟨_, rfl⟩; rw [← hx9] at hr; have HTK : Hid (l.take (k + 1) = l.take k ++ [x]) := by unfold Hid; rw [List.take_succ_eq_append_getElem hk1, hx9]
    have HPRE : Hid (gotOk l → freeR (l.take k) ≤ x.1 ∧ x.1 < x.2 ∧ x.2 ≤ 64) := fun h => by
     rw [← List.take_append_drop (k + 1) l, HTK.out] at h; exact ((gotOk_snoc _ _).1 (gotOk_pre h)).2
    obtain ⟨a1, a2⟩ := x
    have HNX : Hid (freeR (l.take k) ≤ a1 ∧ a1 < a2 ∧ a2 ≤ 64 → gotOk (l.take (k + 1)) ∧ a2 = freeR (l.take (k + 1)) - 1) := fun h => by
     rw [HTK.out]; exact ⟨(gotOk_snoc _ _).2 ⟨HOK.out, h⟩, by rw [freeR_snoc]; simp⟩
    have hc1 : ∀ u, Below w.heap.size w u → u.cell? ⟨bb, o + k * 2, none⟩ = some (.int .i64 a1) := fun u hu => (hr u hu).1
    have hc2 : ∀ u, Below w.heap.size w u → u.cell? ⟨bb, o + k * 2 + 1, none⟩ = some (.int .i64 a2) := fun u hu => (hr u hu).2
    have hc2w : wr.drew.cell? ⟨bb, o + k * 2 + 1, none⟩ = some (.int .i64 a2) := hc2 _ hbw.drew; clear hx9 hr
    by_cases h0 : a1 ≤ E
    · have d0 : decide (a1 ≤ E) = true := by simpa using h0
      obtain rfl : b = false := bF HBB.out (fun h => by have h9 := HPRE.out h; have h8 := HE.out; have h7 := freeR_pos HOK.out; simp only at h9; omega); clear HBB; (go_wp2_with fail); refine wp_region_noPanic ?_; refine wp_region_held_drew (S := (fun u => Below w.heap.size w u)) (by kernel_rfl) (by first | exact hbw.drew | assumption) (fun hHeld => ?_); refine tz 0 11 hHeld ?_; simp only [pS]; refine tz 1 12 hHeld ?_; simp only [pS]; refine tz 2 13 hHeld ?_; simp only [pS]; refine tz 3 14 hHeld ?_; simp only [pS]; refine tz 4 15 hHeld ?_; simp only [pS]; refine tz 5 16 hHeld ?_; simp only [pS]; refine tz 6 17 hHeld ?_; simp only [pS]; refine tz 7 18 hHeld ?_; simp only [pS]; refine qS 8 19 hHeld ?_; simp only [pS]; refine qS 9 20 hHeld ?_; simp only [pS]; refine qS 10 21 hHeld ?_; simp only [pS]; refine qS 11 22 hHeld ?_; simp only [pS]; refine qS 12 23 hHeld ?_; simp only [pS]; refine qS 13 24 hHeld ?_; simp only [pS]; refine tz 14 25 hHeld ?_; simp only [pS]; refine tz 15 26 hHeld ?_; simp only [pS]; refine qS 16 27 hHeld ?_; simp only [pS]; refine qS 17 28 hHeld ?_; simp only [pS]; refine qS 18 29 hHeld ?_; simp only [pS]; refine qS 19 30 hHeld ?_; simp only [pS]; refine qS 20 31 hHeld ?_; simp only [pS]; refine qS 21 32 hHeld ?_; simp only [pS]; refine qS 22 33 hHeld ?_; simp only [pS]; refine qS 23 34 hHeld ?_; simp only [pS]; refine qS 24 35 hHeld ?_; simp only [pS]; refine qS 25 36 hHeld ?_; simp only [pS]; refine qS 26 37 hHeld ?_; simp only [pS]; refine tz 27 38 hHeld ?_; simp only [pS]; refine tz 28 39 hHeld ?_; simp only [pS]; refine qS 29 40 hHeld ?_; simp only [pS]; refine qS 30 41 hHeld ?_; simp only [pS]; refine qS 31 42 hHeld ?_; simp only [pS]; refine qS 32 43 hHeld ?_; simp only [pS]; refine qS 33 44 hHeld ?_; simp only [pS]; refine qS 34 45 hHeld ?_; simp only [pS]; refine tz 35 46 hHeld ?_; simp only [pS]; refine wpAnyH_done (by kernel_rfl) ?_ _; refine NoPanic.normal ?_; go_wp2; go_ret; exact ⟨rfl, HB.out.drew⟩
    · have d0 : decide (a1 ≤ E) = false := by simpa using h0
      by_cases h1 : a1 < 0
      · have d1 : decide (a1 < 0) = true := by simpa using h1
        obtain rfl : b = false := bF HBB.out (fun h => by have h9 := HPRE.out h; have h8 := HE.out; have h7 := freeR_pos HOK.out; simp only at h9; omega); clear HBB; (go_wp2_with fail); refine wp_region_noPanic ?_; refine wp_region_held_drew (S := (fun u => Below w.heap.size w u)) (by kernel_rfl) (by first | exact hbw.drew | assumption) (fun hHeld => ?_); refine tz 0 11 hHeld ?_; simp only [pS]; refine tz 1 12 hHeld ?_; simp only [pS]; refine tz 2 13 hHeld ?_; simp only [pS]; refine tz 3 14 hHeld ?_; simp only [pS]; refine tz 4 15 hHeld ?_; simp only [pS]; refine tz 5 16 hHeld ?_; simp only [pS]; refine tz 6 17 hHeld ?_; simp only [pS]; refine tz 7 18 hHeld ?_; simp only [pS]; refine tz 8 19 hHeld ?_; simp only [pS]; refine tz 9 20 hHeld ?_; simp only [pS]; refine tz 10 21 hHeld ?_; simp only [pS]; refine tz 11 22 hHeld ?_; simp only [pS]; refine tz 12 23 hHeld ?_; simp only [pS]; refine tz 13 24 hHeld ?_; simp only [pS]; refine tz 14 25 hHeld ?_; simp only [pS]; refine tz 15 26 hHeld ?_; simp only [pS]; refine qS 16 27 hHeld ?_; simp only [pS]; refine qS 17 28 hHeld ?_; simp only [pS]; refine qS 18 29 hHeld ?_; simp only [pS]; refine qS 19 30 hHeld ?_; simp only [pS]; refine qS 20 31 hHeld ?_; simp only [pS]; refine qS 21 32 hHeld ?_; simp only [pS]; refine qS 22 33 hHeld ?_; simp only [pS]; refine qS 23 34 hHeld ?_; simp only [pS]; refine qS 24 35 hHeld ?_; simp only [pS]; refine qS 25 36 hHeld ?_; simp only [pS]; refine qS 26 37 hHeld ?_; simp only [pS]; refine tz 27 38 hHeld ?_; simp only [pS]; refine tz 28 39 hHeld ?_; simp only [pS]; refine qS 29 40 hHeld ?_; simp only [pS]; refine qS 30 41 hHeld ?_; simp only [pS]; refine qS 31 42 hHeld ?_; simp only [pS]; refine qS 32 43 hHeld ?_; simp only [pS]; refine qS 33 44 hHeld ?_; simp only [pS]; refine qS 34 45 hHeld ?_; simp only [pS]; refine tz 35 46 hHeld ?_; simp only [pS]; refine wpAnyH_done (by kernel_rfl) ?_ _; refine NoPanic.normal ?_; go_wp2; go_ret; exact ⟨rfl, HB.out.drew⟩
      · have d1 : decide (a1 < 0) = false := by simpa using h1
        by_cases h2 : a2 ≤ a1
        · have d2 : decide (a2 ≤ a1) = true := by simpa using h2
          obtain rfl : b = false := bF HBB.out (fun h => by have h9 := HPRE.out h; have h8 := HE.out; have h7 := freeR_pos HOK.out; simp only at h9; omega); clear HBB; (go_wp2_with fail); refine wp_region_noPanic ?_; refine wp_region_held_drew (S := (fun u => Below w.heap.size w u)) (by kernel_rfl) (by first | exact hbw.drew | assumption) (fun hHeld => ?_); refine tz 0 11 hHeld ?_; simp only [pS]; refine tz 1 12 hHeld ?_; simp only [pS]; refine tz 2 13 hHeld ?_; simp only [pS]; refine tz 3 14 hHeld ?_; simp only [pS]; refine tz 4 15 hHeld ?_; simp only [pS]; refine tz 5 16 hHeld ?_; simp only [pS]; refine tz 6 17 hHeld ?_; simp only [pS]; refine tz 7 18 hHeld ?_; simp only [pS]; refine tz 8 19 hHeld ?_; simp only [pS]; refine tz 9 20 hHeld ?_; simp only [pS]; refine tz 10 21 hHeld ?_; simp only [pS]; refine tz 11 22 hHeld ?_; simp only [pS]; refine tz 12 23 hHeld ?_; simp only [pS]; refine tz 13 24 hHeld ?_; simp only [pS]; refine tz 14 25 hHeld ?_; simp only [pS]; refine tz 15 26 hHeld ?_; simp only [pS]; refine tz 16 27 hHeld ?_; simp only [pS]; refine tz 17 28 hHeld ?_; simp only [pS]; refine tz 18 29 hHeld ?_; simp only [pS]; refine tz 19 30 hHeld ?_; simp only [pS]; refine tz 20 31 hHeld ?_; simp only [pS]; refine tz 21 32 hHeld ?_; simp only [pS]; refine tz 22 33 hHeld ?_; simp only [pS]; refine tz 23 34 hHeld ?_; simp only [pS]; refine tz 24 35 hHeld ?_; simp only [pS]; refine tz 25 36 hHeld ?_; simp only [pS]; refine tz 26 37 hHeld ?_; simp only [pS]; refine tz 27 38 hHeld ?_; simp only [pS]; refine tz 28 39 hHeld ?_; simp only [pS]; refine qS 29 40 hHeld ?_; simp only [pS]; refine qS 30 41 hHeld ?_; simp only [pS]; refine qS 31 42 hHeld ?_; simp only [pS]; refine qS 32 43 hHeld ?_; simp only [pS]; refine qS 33 44 hHeld ?_; simp only [pS]; refine qS 34 45 hHeld ?_; simp only [pS]; refine tz 35 46 hHeld ?_; simp only [pS]; refine wpAnyH_done (by kernel_rfl) ?_ _; refine NoPanic.normal ?_; go_wp2; go_ret; exact ⟨rfl, HB.out.drew⟩
        · have d2 : decide (a2 ≤ a1) = false := by simpa using h2
          by_cases h3 : 64 < a2
          · have d3 : decide (64 < a2) = true := by simpa using h3
            obtain rfl : b = false := bF HBB.out (fun h => by have h9 := HPRE.out h; have h8 := HE.out; have h7 := freeR_pos HOK.out; simp only at h9; omega); clear HBB; (go_wp2_with fail); refine wp_region_noPanic ?_; refine wp_region_held_drew (S := (fun u => Below w.heap.size w u)) (by kernel_rfl) (by first | exact hbw.drew | assumption) (fun hHeld => ?_); refine tz 0 11 hHeld ?_; simp only [pS]; refine tz 1 12 hHeld ?_; simp only [pS]; refine tz 2 13 hHeld ?_; simp only [pS]; refine tz 3 14 hHeld ?_; simp only [pS]; refine tz 4 15 hHeld ?_; simp only [pS]; refine tz 5 16 hHeld ?_; simp only [pS]; refine tz 6 17 hHeld ?_; simp only [pS]; refine tz 7 18 hHeld ?_; simp only [pS]; refine tz 8 19 hHeld ?_; simp only [pS]; refine tz 9 20 hHeld ?_; simp only [pS]; refine tz 10 21 hHeld ?_; simp only [pS]; refine tz 11 22 hHeld ?_; simp only [pS]; refine tz 12 23 hHeld ?_; simp only [pS]; refine tz 13 24 hHeld ?_; simp only [pS]; refine tz 14 25 hHeld ?_; simp only [pS]; refine tz 15 26 hHeld ?_; simp only [pS]; refine tz 16 27 hHeld ?_; simp only [pS]; refine tz 17 28 hHeld ?_; simp only [pS]; refine tz 18 29 hHeld ?_; simp only [pS]; refine tz 19 30 hHeld ?_; simp only [pS]; refine tz 20 31 hHeld ?_; simp only [pS]; refine tz 21 32 hHeld ?_; simp only [pS]; refine tz 22 33 hHeld ?_; simp only [pS]; refine tz 23 34 hHeld ?_; simp only [pS]; refine tz 24 35 hHeld ?_; simp only [pS]; refine tz 25 36 hHeld ?_; simp only [pS]; refine tz 26 37 hHeld ?_; simp only [pS]; refine tz 27 38 hHeld ?_; simp only [pS]; refine tz 28 39 hHeld ?_; simp only [pS]; refine tz 29 40 hHeld ?_; simp only [pS]; refine tz 30 41 hHeld ?_; simp only [pS]; refine tz 31 42 hHeld ?_; simp only [pS]; refine tz 32 43 hHeld ?_; simp only [pS]; refine tz 33 44 hHeld ?_; simp only [pS]; refine tz 34 45 hHeld ?_; simp only [pS]; refine tz 35 46 hHeld ?_; simp only [pS]; refine wpAnyH_done (by kernel_rfl) ?_ _; refine NoPanic.normal ?_; go_wp2; go_ret; exact ⟨rfl, HB.out.drew⟩
          · have d3 : decide (64 < a2) = false := by simpa using h3
            have HF : Hid _ := HNX.out ⟨by have := HE.out; omega, by omega, by omega⟩; (go_wp2_with fail); refine wp_region_noPanic ?_; refine wp_region_held_drew (S := (fun u => Below w.heap.size w u)) (by kernel_rfl) (by first | exact hbw.drew | assumption) (fun hHeld => ?_); refine tz 0 11 hHeld ?_; simp only [pS]; refine tz 1 12 hHeld ?_; simp only [pS]; refine tz 2 13 hHeld ?_; simp only [pS]; refine tz 3 14 hHeld ?_; simp only [pS]; refine tz 4 15 hHeld ?_; simp only [pS]; refine tz 5 16 hHeld ?_; simp only [pS]; refine tz 6 17 hHeld ?_; simp only [pS]; refine tz 7 18 hHeld ?_; simp only [pS]; refine tz 8 19 hHeld ?_; simp only [pS]; refine tz 9 20 hHeld ?_; simp only [pS]; refine tz 10 21 hHeld ?_; simp only [pS]; refine tz 11 22 hHeld ?_; simp only [pS]; refine tz 12 23 hHeld ?_; simp only [pS]; refine tz 13 24 hHeld ?_; simp only [pS]; refine tz 14 25 hHeld ?_; simp only [pS]; refine tz 15 26 hHeld ?_; simp only [pS]; refine tz 16 27 hHeld ?_; simp only [pS]; refine tz 17 28 hHeld ?_; simp only [pS]; refine tz 18 29 hHeld ?_; simp only [pS]; refine tz 19 30 hHeld ?_; simp only [pS]; refine tz 20 31 hHeld ?_; simp only [pS]; refine tz 21 32 hHeld ?_; simp only [pS]; refine tz 22 33 hHeld ?_; simp only [pS]; refine tz 23 34 hHeld ?_; simp only [pS]; refine tz 24 35 hHeld ?_; simp only [pS]; refine tz 25 36 hHeld ?_; simp only [pS]; refine tz 26 37 hHeld ?_; simp only [pS]; refine tz 27 38 hHeld ?_; simp only [pS]; refine tz 28 39 hHeld ?_; simp only [pS]; refine tz 29 40 hHeld ?_; simp only [pS]; refine tz 30 41 hHeld ?_; simp only [pS]; refine tz 31 42 hHeld ?_; simp only [pS]; refine tz 32 43 hHeld ?_; simp only [pS]; refine tz 33 44 hHeld ?_; simp only [pS]; refine tz 34 45 hHeld ?_; simp only [pS]; refine tz 35 46 hHeld ?_; simp only [pS]; refine wpAnyH_done (by kernel_rfl) ?_ _; refine NoPanic.normal ?_; go_wp2; go_roundw
            case rel => exact ⟨k + 1, a2, by omega, by go_num, rfl, HF.out.2, HF.out.1, HB.out.drew⟩
            case measure => simp [intOf]; omega
  · have hlti : ¬ (k : Int) < (n : Int) := by omega
    obtain rfl : b = true := HBB.out.2 (by have h9 := HOK.out; rw [List.take_of_length_le (by rw [← HN.out]; omega)] at h9; exact h9); clear hbw HBB; go_wp2; go_ret; exact ⟨rfl, HB.out⟩
end
open Go.RowKit
def validR (k e s p i c : Int) (dn : Nat) (cd : Int) (gn : Nat) (l : List Rg) : Prop := (nameOk e ∧ nameOk s) ∧ ((k = 1 ∧ ((p = 1 ∨ p = 2) ∧ (0 ≤ i ∧ i < 64) ∧ (i < c ∧ c ≤ 64) ∧ (1 ≤ dn ∧ dn ≤ 1024) ∧ (cd = 0 ∧ gn = 0))) ∨ (k = 2 ∧ ((p = 0 ∧ i = 0 ∧ c = 0 ∧ dn = 0) ∧ (0 ≤ cd ∧ cd ≤ 7) ∧ gotOk l ∧ (cd = 0 ∨ gn = 0))) ∨ (k = 3 ∧ ((p = 0 ∧ i = 0 ∧ c = 0 ∧ dn = 0) ∧ (cd = 0 ∧ gn = 0))))
theorem exB (p : Prop) : ∃ b : Bool, b = true ↔ p := by
 by_cases h : p
 · exact ⟨true, fun _ => h, fun _ => rfl⟩
 · exact ⟨false, (fun h9 => by cases h9), fun h9 => absurd h9 h⟩
section
set_option maxRecDepth 20000
set_option maxHeartbeats 12800000
theorem rvalid_t (k e s p i c : Int) (da : Option Addr) (dn dc : Nat) (cd : Int) (ga : Option Addr) (gn gc : Nat) (l : List Rg) (v : Bool) (hv : v = true ↔ validR k e s p i c dn cd gn l) (w : World) (hn : gn = l.length) (hx : RdR w ga l) (hl : gn ≤ 8796093022208) :
 Calls Tryz.prog 95 #[.agg #[.int .i64 k, .int .u64 e, .int .u64 s, .int .i64 p, .int .i64 i, .int .i64 c, .slice da dn dc, .int .i64 cd, .slice ga gn gc]] w fun e w' => e = .returned (.int .i64 (if v then 0 else 30)) ∧ Below w.heap.size w w' := by
 have HV : Hid (v = true ↔ validR k e s p i c dn cd gn l) := hv; obtain ⟨tb, htb⟩ := exB (gotOk l); have HTB : Hid (tb = true ↔ gotOk l) := htb; have HTO : Hid (∀ u, Below w.heap.size w u → Calls Tryz.prog 118 #[.slice ga gn gc] u fun e w' => e = .returned (.bool tb) ∧ Below u.heap.size u w') := fun u hu => told_b ga gn gc l tb htb u hn (hx.below hu) hl
 obtain ⟨nb, hnb⟩ := exB (nameOk e ∧ nameOk s); obtain ⟨sb, hsb⟩ := exB (p = 0 ∧ i = 0 ∧ c = 0 ∧ dn = 0); have HNB : Hid (nb = true ↔ nameOk e ∧ nameOk s) := hnb; have HSB : Hid (sb = true ↔ (p = 0 ∧ i = 0 ∧ c = 0 ∧ dn = 0)) := hsb; clear hv htb hn hx hl hnb hsb; go_enter Tryz.func95, Tryz.ntmps95
 go_upto_region 1 with fail
 go_cut [3] from 5 to 22 (fun cv wx => cv = .bool nb ∧ wx = w.alloc (.cells #[.int .i64 k, .int .u64 e, .int .u64 s, .int .i64 p, .int .i64 i, .int .i64 c, .slice da dn dc, .int .i64 cd, .slice ga gn gc] 49 (0, 0)))
 case first =>
  by_cases h0 : 1 ≤ e
  · skip
    by_cases h1 : e ≤ 281474976710655
    · skip
      by_cases h2 : 1 ≤ s
      · skip
        by_cases h3 : s ≤ 281474976710655
        · skip
          obtain rfl : nb = true := HNB.out.2 ⟨⟨h0, h1⟩, ⟨h2, h3⟩⟩; clear HNB; (go_wp2_with fail); go_meet
          exact ⟨by first | rfl | (simp; done) | (simp; omega) | simp_all, rfl⟩
        · skip
          obtain rfl : nb = false := bF HNB.out (fun h => by obtain ⟨⟨g0, g1⟩, ⟨g2, g3⟩⟩ := h; omega); clear HNB; (go_wp2_with fail); go_meet
          exact ⟨by first | rfl | (simp; done) | (simp; omega) | simp_all, rfl⟩
      · skip
        obtain rfl : nb = false := bF HNB.out (fun h => by obtain ⟨⟨g0, g1⟩, ⟨g2, g3⟩⟩ := h; omega); clear HNB; (go_wp2_with fail); go_meet
        exact ⟨by first | rfl | (simp; done) | (simp; omega) | simp_all, rfl⟩
    · skip
      obtain rfl : nb = false := bF HNB.out (fun h => by obtain ⟨⟨g0, g1⟩, ⟨g2, g3⟩⟩ := h; omega); clear HNB; (go_wp2_with fail); go_meet
      exact ⟨by first | rfl | (simp; done) | (simp; omega) | simp_all, rfl⟩
  · skip
    obtain rfl : nb = false := bF HNB.out (fun h => by obtain ⟨⟨g0, g1⟩, ⟨g2, g3⟩⟩ := h; omega); clear HNB; (go_wp2_with fail); go_meet
    exact ⟨by first | rfl | (simp; done) | (simp; omega) | simp_all, rfl⟩
 obtain ⟨rfl, rfl⟩ := hcut; go_upto_region 2 with fail
 go_cut [4] from 23 to 41 (fun cv wx => cv = .bool sb ∧ wx = w.alloc (.cells #[.int .i64 k, .int .u64 e, .int .u64 s, .int .i64 p, .int .i64 i, .int .i64 c, .slice da dn dc, .int .i64 cd, .slice ga gn gc] 49 (0, 0)))
 case first =>
  by_cases h0 : p = 0
  · subst h0
    by_cases h1 : i = 0
    · subst h1
      by_cases h2 : c = 0
      · subst h2
        by_cases h3 : dn = 0
        · subst h3; obtain rfl : sb = true := HSB.out.2 ⟨rfl, rfl, rfl, rfl⟩; clear HSB; (go_wp2_with fail); go_meet
          exact ⟨by first | rfl | (simp; done) | (simp; omega) | simp_all, rfl⟩
        · have hb3 : ((dn : Int) == 0) = false := by simpa using h3
          obtain rfl : sb = false := bF HSB.out (fun h => by obtain ⟨g0, g1, g2, g3⟩ := h; omega); clear HSB; (go_wp2_with fail); go_meet
          exact ⟨by first | rfl | (simp; done) | (simp; omega) | simp_all, rfl⟩
      · have hb2 : ((c : Int) == 0) = false := by simpa using h2
        obtain rfl : sb = false := bF HSB.out (fun h => by obtain ⟨g0, g1, g2, g3⟩ := h; omega); clear HSB; (go_wp2_with fail); go_meet
        exact ⟨by first | rfl | (simp; done) | (simp; omega) | simp_all, rfl⟩
    · have hb1 : ((i : Int) == 0) = false := by simpa using h1
      obtain rfl : sb = false := bF HSB.out (fun h => by obtain ⟨g0, g1, g2, g3⟩ := h; omega); clear HSB; (go_wp2_with fail); go_meet
      exact ⟨by first | rfl | (simp; done) | (simp; omega) | simp_all, rfl⟩
  · have hb0 : ((p : Int) == 0) = false := by simpa using h0
    obtain rfl : sb = false := bF HSB.out (fun h => by obtain ⟨g0, g1, g2, g3⟩ := h; omega); clear HSB; (go_wp2_with fail); go_meet
    exact ⟨by first | rfl | (simp; done) | (simp; omega) | simp_all, rfl⟩
 obtain ⟨rfl, rfl⟩ := hcut; cases nb
 · obtain rfl : v = false := bF HV.out (fun h => by have h9 := HNB.out.2 h.1; cases h9)
   by_cases k1 : k = 1
   · subst k1; clear HV HNB HSB HTB; go_wp2; go_ret; exact ⟨by first | rfl | (simp; done) | simp_all, al (bR _ _) _⟩
   · have kb1 : (k == 1) = false := by simpa using k1
     by_cases k2 : k = 2
     · subst k2; clear HV HNB HSB HTB; go_wp2; go_ret; exact ⟨by first | rfl | (simp; done) | simp_all, al (bR _ _) _⟩
     · have kb2 : (k == 2) = false := by simpa using k2
       by_cases k3 : k = 3
       · subst k3; clear HV HNB HSB HTB; go_wp2; go_ret; exact ⟨by first | rfl | (simp; done) | simp_all, al (bR _ _) _⟩
       · have kb3 : (k == 3) = false := by simpa using k3
         clear HV HNB HSB HTB; go_wp2; go_ret; exact ⟨by first | rfl | (simp; done) | simp_all, al (bR _ _) _⟩
 · skip
   by_cases k1 : k = 1
   · subst k1
     by_cases p1 : p = 1
     · subst p1
       by_cases h0 : 1 ≤ c
       · skip
         by_cases h1 : c ≤ 64
         · skip
           by_cases h2 : 0 ≤ i
           · skip
             by_cases h3 : i < c
             · skip
               by_cases h4 : 1 ≤ dn
               · have hi4 : (1 : Int) ≤ (dn : Int) := by omega
                 by_cases h5 : dn ≤ 1024
                 · have hi5 : (dn : Int) ≤ 1024 := by omega
                   by_cases h6 : cd = 0
                   · subst h6
                     by_cases h7 : gn = 0
                     · subst h7; obtain rfl : v = true := HV.out.2 ⟨HNB.out.1 rfl, .inl ⟨rfl, (by omega), (by omega), (by omega), (by omega), rfl, rfl⟩⟩; clear HV HNB HSB HTB; go_wp2; go_ret; exact ⟨by first | rfl | (simp; done) | simp_all, al (bR _ _) _⟩
                     · have hb7 : ((gn : Int) == 0) = false := by simpa using h7
                       obtain rfl : v = false := bF HV.out (fun h => by rcases h with ⟨hh, ⟨hk, d1, ⟨d2, d3⟩, ⟨d4, d5⟩, ⟨d6, d7⟩, d8, d9⟩ | ⟨hk, hR⟩ | ⟨hk, hC⟩⟩ <;> omega); clear HV HNB HSB HTB; go_wp2; go_ret; exact ⟨by first | rfl | (simp; done) | simp_all, al (bR _ _) _⟩
                   · have hb6 : (cd == 0) = false := by simpa using h6
                     obtain rfl : v = false := bF HV.out (fun h => by rcases h with ⟨hh, ⟨hk, d1, ⟨d2, d3⟩, ⟨d4, d5⟩, ⟨d6, d7⟩, d8, d9⟩ | ⟨hk, hR⟩ | ⟨hk, hC⟩⟩ <;> omega); clear HV HNB HSB HTB; go_wp2; go_ret; exact ⟨by first | rfl | (simp; done) | simp_all, al (bR _ _) _⟩
                 · have hi5 : ¬ (dn : Int) ≤ 1024 := by omega
                   obtain rfl : v = false := bF HV.out (fun h => by rcases h with ⟨hh, ⟨hk, d1, ⟨d2, d3⟩, ⟨d4, d5⟩, ⟨d6, d7⟩, d8, d9⟩ | ⟨hk, hR⟩ | ⟨hk, hC⟩⟩ <;> omega); clear HV HNB HSB HTB; go_wp2; go_ret; exact ⟨by first | rfl | (simp; done) | simp_all, al (bR _ _) _⟩
               · have hi4 : ¬ (1 : Int) ≤ (dn : Int) := by omega
                 obtain rfl : v = false := bF HV.out (fun h => by rcases h with ⟨hh, ⟨hk, d1, ⟨d2, d3⟩, ⟨d4, d5⟩, ⟨d6, d7⟩, d8, d9⟩ | ⟨hk, hR⟩ | ⟨hk, hC⟩⟩ <;> omega); clear HV HNB HSB HTB; go_wp2; go_ret; exact ⟨by first | rfl | (simp; done) | simp_all, al (bR _ _) _⟩
             · skip
               obtain rfl : v = false := bF HV.out (fun h => by rcases h with ⟨hh, ⟨hk, d1, ⟨d2, d3⟩, ⟨d4, d5⟩, ⟨d6, d7⟩, d8, d9⟩ | ⟨hk, hR⟩ | ⟨hk, hC⟩⟩ <;> omega); clear HV HNB HSB HTB; go_wp2; go_ret; exact ⟨by first | rfl | (simp; done) | simp_all, al (bR _ _) _⟩
           · skip
             obtain rfl : v = false := bF HV.out (fun h => by rcases h with ⟨hh, ⟨hk, d1, ⟨d2, d3⟩, ⟨d4, d5⟩, ⟨d6, d7⟩, d8, d9⟩ | ⟨hk, hR⟩ | ⟨hk, hC⟩⟩ <;> omega); clear HV HNB HSB HTB; go_wp2; go_ret; exact ⟨by first | rfl | (simp; done) | simp_all, al (bR _ _) _⟩
         · skip
           obtain rfl : v = false := bF HV.out (fun h => by rcases h with ⟨hh, ⟨hk, d1, ⟨d2, d3⟩, ⟨d4, d5⟩, ⟨d6, d7⟩, d8, d9⟩ | ⟨hk, hR⟩ | ⟨hk, hC⟩⟩ <;> omega); clear HV HNB HSB HTB; go_wp2; go_ret; exact ⟨by first | rfl | (simp; done) | simp_all, al (bR _ _) _⟩
       · skip
         obtain rfl : v = false := bF HV.out (fun h => by rcases h with ⟨hh, ⟨hk, d1, ⟨d2, d3⟩, ⟨d4, d5⟩, ⟨d6, d7⟩, d8, d9⟩ | ⟨hk, hR⟩ | ⟨hk, hC⟩⟩ <;> omega); clear HV HNB HSB HTB; go_wp2; go_ret; exact ⟨by first | rfl | (simp; done) | simp_all, al (bR _ _) _⟩
     · have pb1 : (p == 1) = false := by simpa using p1
       by_cases p2 : p = 2
       · subst p2
         by_cases h0 : 1 ≤ c
         · skip
           by_cases h1 : c ≤ 64
           · skip
             by_cases h2 : 0 ≤ i
             · skip
               by_cases h3 : i < c
               · skip
                 by_cases h4 : 1 ≤ dn
                 · have hi4 : (1 : Int) ≤ (dn : Int) := by omega
                   by_cases h5 : dn ≤ 1024
                   · have hi5 : (dn : Int) ≤ 1024 := by omega
                     by_cases h6 : cd = 0
                     · subst h6
                       by_cases h7 : gn = 0
                       · subst h7; obtain rfl : v = true := HV.out.2 ⟨HNB.out.1 rfl, .inl ⟨rfl, (by omega), (by omega), (by omega), (by omega), rfl, rfl⟩⟩; clear HV HNB HSB HTB; go_wp2; go_ret; exact ⟨by first | rfl | (simp; done) | simp_all, al (bR _ _) _⟩
                       · have hb7 : ((gn : Int) == 0) = false := by simpa using h7
                         obtain rfl : v = false := bF HV.out (fun h => by rcases h with ⟨hh, ⟨hk, d1, ⟨d2, d3⟩, ⟨d4, d5⟩, ⟨d6, d7⟩, d8, d9⟩ | ⟨hk, hR⟩ | ⟨hk, hC⟩⟩ <;> omega); clear HV HNB HSB HTB; go_wp2; go_ret; exact ⟨by first | rfl | (simp; done) | simp_all, al (bR _ _) _⟩
                     · have hb6 : (cd == 0) = false := by simpa using h6
                       obtain rfl : v = false := bF HV.out (fun h => by rcases h with ⟨hh, ⟨hk, d1, ⟨d2, d3⟩, ⟨d4, d5⟩, ⟨d6, d7⟩, d8, d9⟩ | ⟨hk, hR⟩ | ⟨hk, hC⟩⟩ <;> omega); clear HV HNB HSB HTB; go_wp2; go_ret; exact ⟨by first | rfl | (simp; done) | simp_all, al (bR _ _) _⟩
                   · have hi5 : ¬ (dn : Int) ≤ 1024 := by omega
                     obtain rfl : v = false := bF HV.out (fun h => by rcases h with ⟨hh, ⟨hk, d1, ⟨d2, d3⟩, ⟨d4, d5⟩, ⟨d6, d7⟩, d8, d9⟩ | ⟨hk, hR⟩ | ⟨hk, hC⟩⟩ <;> omega); clear HV HNB HSB HTB; go_wp2; go_ret; exact ⟨by first | rfl | (simp; done) | simp_all, al (bR _ _) _⟩
                 · have hi4 : ¬ (1 : Int) ≤ (dn : Int) := by omega
                   obtain rfl : v = false := bF HV.out (fun h => by rcases h with ⟨hh, ⟨hk, d1, ⟨d2, d3⟩, ⟨d4, d5⟩, ⟨d6, d7⟩, d8, d9⟩ | ⟨hk, hR⟩ | ⟨hk, hC⟩⟩ <;> omega); clear HV HNB HSB HTB; go_wp2; go_ret; exact ⟨by first | rfl | (simp; done) | simp_all, al (bR _ _) _⟩
               · skip
                 obtain rfl : v = false := bF HV.out (fun h => by rcases h with ⟨hh, ⟨hk, d1, ⟨d2, d3⟩, ⟨d4, d5⟩, ⟨d6, d7⟩, d8, d9⟩ | ⟨hk, hR⟩ | ⟨hk, hC⟩⟩ <;> omega); clear HV HNB HSB HTB; go_wp2; go_ret; exact ⟨by first | rfl | (simp; done) | simp_all, al (bR _ _) _⟩
             · skip
               obtain rfl : v = false := bF HV.out (fun h => by rcases h with ⟨hh, ⟨hk, d1, ⟨d2, d3⟩, ⟨d4, d5⟩, ⟨d6, d7⟩, d8, d9⟩ | ⟨hk, hR⟩ | ⟨hk, hC⟩⟩ <;> omega); clear HV HNB HSB HTB; go_wp2; go_ret; exact ⟨by first | rfl | (simp; done) | simp_all, al (bR _ _) _⟩
           · skip
             obtain rfl : v = false := bF HV.out (fun h => by rcases h with ⟨hh, ⟨hk, d1, ⟨d2, d3⟩, ⟨d4, d5⟩, ⟨d6, d7⟩, d8, d9⟩ | ⟨hk, hR⟩ | ⟨hk, hC⟩⟩ <;> omega); clear HV HNB HSB HTB; go_wp2; go_ret; exact ⟨by first | rfl | (simp; done) | simp_all, al (bR _ _) _⟩
         · skip
           obtain rfl : v = false := bF HV.out (fun h => by rcases h with ⟨hh, ⟨hk, d1, ⟨d2, d3⟩, ⟨d4, d5⟩, ⟨d6, d7⟩, d8, d9⟩ | ⟨hk, hR⟩ | ⟨hk, hC⟩⟩ <;> omega); clear HV HNB HSB HTB; go_wp2; go_ret; exact ⟨by first | rfl | (simp; done) | simp_all, al (bR _ _) _⟩
       · have pb2 : (p == 2) = false := by simpa using p2
         obtain rfl : v = false := bF HV.out (fun h => by rcases h with ⟨hh, ⟨hk, d1, ⟨d2, d3⟩, ⟨d4, d5⟩, ⟨d6, d7⟩, d8, d9⟩ | ⟨hk, hR⟩ | ⟨hk, hC⟩⟩ <;> omega); clear HV HNB HSB HTB; go_wp2; go_ret; exact ⟨by first | rfl | (simp; done) | simp_all, al (bR _ _) _⟩
   · have kb1 : (k == 1) = false := by simpa using k1
     by_cases k2 : k = 2
     · subst k2; cases sb
       · obtain rfl : v = false := bF HV.out (fun h => by rcases h with ⟨hh, ⟨hk, hD⟩ | ⟨hk, r1, ⟨r2, r3⟩, r4, r5⟩ | ⟨hk, hC⟩⟩; (· omega); (· have h9 := HSB.out.2 r1; cases h9); (· omega)); clear HV HNB HSB HTB; go_wp2; go_ret; exact ⟨by first | rfl | (simp; done) | simp_all, al (bR _ _) _⟩
       · by_cases h0 : 0 ≤ cd
         · by_cases h1 : cd ≤ 7
           · cases tb
             · obtain rfl : v = false := bF HV.out (fun h => by rcases h with ⟨hh, ⟨hk, hD⟩ | ⟨hk, r1, ⟨r2, r3⟩, r4, r5⟩ | ⟨hk, hC⟩⟩; (· omega); (· have h9 := HTB.out.2 r4; cases h9); (· omega)); clear HV HNB HSB HTB; go_wp2_with (go_at_call 118; refine Calls.mono (HTO.out _ (al (bR _ _) _)) ?_; rintro e1 w1 ⟨rfl, hb1⟩; have HB1 : Hid (Below w.heap.size w w1) := below_next (al (bR _ _) _) hb1; have hx7 : w1.cell? ⟨w.heap.size, 7, none⟩ = some (.int .i64 cd) := (range_below (range_box w [.int .i64 2, .int .u64 e, .int .u64 s, .int .i64 p, .int .i64 i, .int .i64 c, .slice da dn dc, .int .i64 cd, .slice ga gn gc] 49) hb1 7 _ rfl); have hx8 : w1.cell? ⟨w.heap.size, 8, none⟩ = some (.slice ga gn gc) := (range_below (range_box w [.int .i64 2, .int .u64 e, .int .u64 s, .int .i64 p, .int .i64 i, .int .i64 c, .slice da dn dc, .int .i64 cd, .slice ga gn gc] 49) hb1 8 _ rfl))
               go_ret; exact ⟨by first | rfl | (simp; done) | simp_all, HB1.out⟩
             · by_cases h2 : cd = 0
               · have hb2 : (cd == 0) = true := by simpa using h2
                 obtain rfl : v = true := HV.out.2 ⟨HNB.out.1 rfl, .inr (.inl ⟨rfl, HSB.out.1 rfl, ⟨h0, h1⟩, HTB.out.1 rfl, .inl h2⟩)⟩; clear h2; clear HV HNB HSB HTB; go_wp2_with (go_at_call 118; refine Calls.mono (HTO.out _ (al (bR _ _) _)) ?_; rintro e1 w1 ⟨rfl, hb1⟩; have HB1 : Hid (Below w.heap.size w w1) := below_next (al (bR _ _) _) hb1; have hx7 : w1.cell? ⟨w.heap.size, 7, none⟩ = some (.int .i64 cd) := (range_below (range_box w [.int .i64 2, .int .u64 e, .int .u64 s, .int .i64 p, .int .i64 i, .int .i64 c, .slice da dn dc, .int .i64 cd, .slice ga gn gc] 49) hb1 7 _ rfl); have hx8 : w1.cell? ⟨w.heap.size, 8, none⟩ = some (.slice ga gn gc) := (range_below (range_box w [.int .i64 2, .int .u64 e, .int .u64 s, .int .i64 p, .int .i64 i, .int .i64 c, .slice da dn dc, .int .i64 cd, .slice ga gn gc] 49) hb1 8 _ rfl))
                 go_ret; exact ⟨by first | rfl | (simp; done) | simp_all, HB1.out⟩
               · have hb2 : (cd == 0) = false := by simpa using h2
                 by_cases h3 : gn = 0
                 · have hb3 : ((gn : Int) == 0) = true := by simpa using h3
                   obtain rfl : v = true := HV.out.2 ⟨HNB.out.1 rfl, .inr (.inl ⟨rfl, HSB.out.1 rfl, ⟨h0, h1⟩, HTB.out.1 rfl, .inr h3⟩)⟩; clear h2 h3; clear HV HNB HSB HTB; go_wp2_with (go_at_call 118; refine Calls.mono (HTO.out _ (al (bR _ _) _)) ?_; rintro e1 w1 ⟨rfl, hb1⟩; have HB1 : Hid (Below w.heap.size w w1) := below_next (al (bR _ _) _) hb1; have hx7 : w1.cell? ⟨w.heap.size, 7, none⟩ = some (.int .i64 cd) := (range_below (range_box w [.int .i64 2, .int .u64 e, .int .u64 s, .int .i64 p, .int .i64 i, .int .i64 c, .slice da dn dc, .int .i64 cd, .slice ga gn gc] 49) hb1 7 _ rfl); have hx8 : w1.cell? ⟨w.heap.size, 8, none⟩ = some (.slice ga gn gc) := (range_below (range_box w [.int .i64 2, .int .u64 e, .int .u64 s, .int .i64 p, .int .i64 i, .int .i64 c, .slice da dn dc, .int .i64 cd, .slice ga gn gc] 49) hb1 8 _ rfl))
                   go_ret; exact ⟨by first | rfl | (simp; done) | simp_all, HB1.out⟩
                 · have hb3 : ((gn : Int) == 0) = false := by simpa using h3
                   obtain rfl : v = false := bF HV.out (fun h => by rcases h with ⟨hh, ⟨hk, hD⟩ | ⟨hk, r1, ⟨r2, r3⟩, r4, r5⟩ | ⟨hk, hC⟩⟩; (· omega); (· omega); (· omega)); clear HV HNB HSB HTB; go_wp2_with (go_at_call 118; refine Calls.mono (HTO.out _ (al (bR _ _) _)) ?_; rintro e1 w1 ⟨rfl, hb1⟩; have HB1 : Hid (Below w.heap.size w w1) := below_next (al (bR _ _) _) hb1; have hx7 : w1.cell? ⟨w.heap.size, 7, none⟩ = some (.int .i64 cd) := (range_below (range_box w [.int .i64 2, .int .u64 e, .int .u64 s, .int .i64 p, .int .i64 i, .int .i64 c, .slice da dn dc, .int .i64 cd, .slice ga gn gc] 49) hb1 7 _ rfl); have hx8 : w1.cell? ⟨w.heap.size, 8, none⟩ = some (.slice ga gn gc) := (range_below (range_box w [.int .i64 2, .int .u64 e, .int .u64 s, .int .i64 p, .int .i64 i, .int .i64 c, .slice da dn dc, .int .i64 cd, .slice ga gn gc] 49) hb1 8 _ rfl))
                   go_ret; exact ⟨by first | rfl | (simp; done) | simp_all, HB1.out⟩
           · obtain rfl : v = false := bF HV.out (fun h => by rcases h with ⟨hh, ⟨hk, hD⟩ | ⟨hk, r1, ⟨r2, r3⟩, r4, r5⟩ | ⟨hk, hC⟩⟩; (· omega); (· omega); (· omega)); clear HV HNB HSB HTB; go_wp2; go_ret; exact ⟨by first | rfl | (simp; done) | simp_all, al (bR _ _) _⟩
         · obtain rfl : v = false := bF HV.out (fun h => by rcases h with ⟨hh, ⟨hk, hD⟩ | ⟨hk, r1, ⟨r2, r3⟩, r4, r5⟩ | ⟨hk, hC⟩⟩; (· omega); (· omega); (· omega)); clear HV HNB HSB HTB; go_wp2; go_ret; exact ⟨by first | rfl | (simp; done) | simp_all, al (bR _ _) _⟩
     · have kb2 : (k == 2) = false := by simpa using k2
       by_cases k3 : k = 3
       · subst k3; cases sb
         · obtain rfl : v = false := bF HV.out (fun h => by rcases h with ⟨hh, ⟨hk, hD⟩ | ⟨hk, hR⟩ | ⟨hk, c1, c2, c3⟩⟩; (· omega); (· omega); (· have h9 := HSB.out.2 c1; cases h9)); clear HV HNB HSB HTB; go_wp2; go_ret; exact ⟨by first | rfl | (simp; done) | simp_all, al (bR _ _) _⟩
         · by_cases h0 : cd = 0
           · subst h0
             by_cases h1 : gn = 0
             · subst h1; obtain rfl : v = true := HV.out.2 ⟨HNB.out.1 rfl, .inr (.inr ⟨rfl, HSB.out.1 rfl, rfl, rfl⟩)⟩; clear HV HNB HSB HTB; go_wp2; go_ret; exact ⟨by first | rfl | (simp; done) | simp_all, al (bR _ _) _⟩
             · have hb1 : ((gn : Int) == 0) = false := by simpa using h1
               obtain rfl : v = false := bF HV.out (fun h => by rcases h with ⟨hh, ⟨hk, hD⟩ | ⟨hk, hR⟩ | ⟨hk, c1, c2, c3⟩⟩; (· omega); (· omega); (· omega)); clear HV HNB HSB HTB; go_wp2; go_ret; exact ⟨by first | rfl | (simp; done) | simp_all, al (bR _ _) _⟩
           · have hb0 : (cd == 0) = false := by simpa using h0
             obtain rfl : v = false := bF HV.out (fun h => by rcases h with ⟨hh, ⟨hk, hD⟩ | ⟨hk, hR⟩ | ⟨hk, c1, c2, c3⟩⟩; (· omega); (· omega); (· omega)); clear HV HNB HSB HTB; go_wp2; go_ret; exact ⟨by first | rfl | (simp; done) | simp_all, al (bR _ _) _⟩
       · have kb3 : (k == 3) = false := by simpa using k3
         obtain rfl : v = false := bF HV.out (fun h => by rcases h with ⟨hh, ⟨hk, hD⟩ | ⟨hk, hR⟩ | ⟨hk, hC⟩⟩ <;> omega); clear HV HNB HSB HTB; go_wp2; go_ret; exact ⟨by first | rfl | (simp; done) | simp_all, al (bR _ _) _⟩
end
end Go.Proofs.YtpakkpahcpgnnaaGreatDoor
