import Derived.Test.YtpakkpahcpgnnaaGreatDoorUW
set_option linter.unusedVariables false
set_option linter.unusedSimpArgs false
namespace Go.Proofs.YtpakkpahcpgnnaaGreatDoor
open Go.RowKit
section
set_option maxRecDepth 20000
set_option maxHeartbeats 12800000
theorem goodReport_b (k e s p i c : Int) (da : Option Addr) (dn dc : Nat) (cd : Int) (ga : Option Addr) (gn gc : Nat) (l : List Rg) (b : Bool) (w : World) (hn : gn = l.length) (hx : RdR w ga l) (hl : gn ≤ 8796093022208) (hc : gn ≤ gc) (hb : b = true ↔ ((p = 0 ∧ i = 0 ∧ c = 0 ∧ dn = 0) ∧ (0 ≤ cd ∧ cd ≤ 7) ∧ gotOk l ∧ (cd = 0 ∨ gn = 0))) : Calls Tryz.prog 150 #[.agg #[.int .i64 k, .int .u64 e, .int .u64 s, .int .i64 p, .int .i64 i, .int .i64 c, .slice da dn dc, .int .i64 cd, .slice ga gn gc]] w fun e w' => e = .returned (.bool b) ∧ Below w.heap.size w w' := by
 have HBX : Hid (∀ u, Below (w.heap.size + 1) (w.alloc (.cells #[.int .i64 k, .int .u64 e, .int .u64 s, .int .i64 p, .int .i64 i, .int .i64 c, .slice da dn dc, .int .i64 cd, .slice ga gn gc] 49 (0, 0))) u → u.rangeAt w.heap.size 0 [.int .i64 k, .int .u64 e, .int .u64 s, .int .i64 p, .int .i64 i, .int .i64 c, .slice da dn dc, .int .i64 cd, .slice ga gn gc]) := fun u hu => range_below (range_box w [.int .i64 k, .int .u64 e, .int .u64 s, .int .i64 p, .int .i64 i, .int .i64 c, .slice da dn dc, .int .i64 cd, .slice ga gn gc] 49) (by rw [heap_alloc_size1']; exact hu)
 have HXR : Hid (∀ u, Below w.heap.size w u → RdR u ga l) := fun u hu => hx.below hu
 have HN : Hid (gn = l.length) := hn; have HL : Hid (gn ≤ 8796093022208 ∧ gn ≤ gc) := ⟨hl, hc⟩; have HS : Hid (Below (w.heap.size + 1) (w.alloc (.cells #[.int .i64 k, .int .u64 e, .int .u64 s, .int .i64 p, .int .i64 i, .int .i64 c, .slice da dn dc, .int .i64 cd, .slice ga gn gc] 49 (0, 0))) (w.alloc (.cells #[.int .i64 k, .int .u64 e, .int .u64 s, .int .i64 p, .int .i64 i, .int .i64 c, .slice da dn dc, .int .i64 cd, .slice ga gn gc] 49 (0, 0)))) := bR _ _; clear hx hn hl hc
 by_cases h0 : (p = 0 ∧ i = 0 ∧ c = 0 ∧ dn = 0)
 · skip
   by_cases h1 : (0 ≤ cd ∧ cd ≤ 7)
   · skip
     by_cases h2 : gotOk l
     · skip
       by_cases h3 : cd = 0
       · obtain rfl : b = true := bT hb ⟨h0, h1, h2, .inl h3⟩; have hd3 : (cd == 0) = true := by simpa using h3
         clear h3; have H0 : Hid _ := h0; have H1 : Hid _ := h1; have H2 : Hid _ := h2; clear hb h0 h1 h2; go_enter Tryz.func150, Tryz.ntmps150
         go_wp2_with (refine wpList_load_g (by rfl) 49 _ rfl w.heap.size 0 (by rfl) [.int .i64 k, .int .u64 e, .int .u64 s, .int .i64 p, .int .i64 i, .int .i64 c, .slice da dn dc, .int .i64 cd, .slice ga gn gc] _ (HBX.out _ HS.out) Tryz.underlying49 rfl info_un ?_)
         (refine (dataless_b k e s p i c da dn dc cd ga gn gc true ⟨fun _ => H0.out, fun _ => rfl⟩ _).mono ?_; rintro e w0 ⟨rfl, hb0⟩; have HB0 : Hid (Below w.heap.size w w0) := below_next (al (Below.refl _ w) _) hb0; have HS0 : Hid (Below (w.heap.size + 1) (w.alloc (.cells #[.int .i64 k, .int .u64 e, .int .u64 s, .int .i64 p, .int .i64 i, .int .i64 c, .slice da dn dc, .int .i64 cd, .slice ga gn gc] 49 (0, 0))) w0) := (by have h9 := hb0; rw [heap_alloc_size1'] at h9; exact h9); have hc7 : w0.cell? ⟨w.heap.size, 7, none⟩ = some (.int .i64 cd) := HBX.out w0 HS0.out 7 _ rfl; have hc8 : w0.cell? ⟨w.heap.size, 8, none⟩ = some (.slice ga gn gc) := HBX.out w0 HS0.out 8 _ rfl)
         clear hb0
         go_wp2_with (first
           | (go_at_call 188; refine (goodCode_b cd true ⟨fun _ => H1.out, fun _ => rfl⟩ _).mono ?_; rintro e w1 ⟨rfl, rfl⟩)
           | (go_at_call 189; refine (goodGot_b ga gn gc l true ⟨fun _ => H2.out, fun _ => rfl⟩ _ HN.out (HXR.out _ HB0.out) HL.out.1 HL.out.2).mono ?_; rintro e w2 ⟨rfl, hb2⟩; have HB2 : Hid (Below w.heap.size w w2) := below_next HB0.out hb2; have HS2 : Hid (Below (w.heap.size + 1) (w.alloc (.cells #[.int .i64 k, .int .u64 e, .int .u64 s, .int .i64 p, .int .i64 i, .int .i64 c, .slice da dn dc, .int .i64 cd, .slice ga gn gc] 49 (0, 0))) w2) := HS0.out.trans (hb2.mono (by have h9 := HS0.out.size; rw [heap_alloc_size1'] at h9; exact h9)); have hc72 : w2.cell? ⟨w.heap.size, 7, none⟩ = some (.int .i64 cd) := HBX.out w2 HS2.out 7 _ rfl; have hc82 : w2.cell? ⟨w.heap.size, 8, none⟩ = some (.slice ga gn gc) := HBX.out w2 HS2.out 8 _ rfl))
         go_ret; exact ⟨by first | rfl | (simp; done) | (simp; omega) | simp_all, HB2.out⟩
       · by_cases h4 : gn = 0
         · obtain rfl : b = true := bT hb ⟨h0, h1, h2, .inr h4⟩; have hd3 : (cd == 0) = false := by simpa using h3
           have hd4 : ((gn : Int) == 0) = true := by simpa using h4
           clear h3 h4; have H0 : Hid _ := h0; have H1 : Hid _ := h1; have H2 : Hid _ := h2; clear hb h0 h1 h2; go_enter Tryz.func150, Tryz.ntmps150
           go_wp2_with (refine wpList_load_g (by rfl) 49 _ rfl w.heap.size 0 (by rfl) [.int .i64 k, .int .u64 e, .int .u64 s, .int .i64 p, .int .i64 i, .int .i64 c, .slice da dn dc, .int .i64 cd, .slice ga gn gc] _ (HBX.out _ HS.out) Tryz.underlying49 rfl info_un ?_)
           (refine (dataless_b k e s p i c da dn dc cd ga gn gc true ⟨fun _ => H0.out, fun _ => rfl⟩ _).mono ?_; rintro e w0 ⟨rfl, hb0⟩; have HB0 : Hid (Below w.heap.size w w0) := below_next (al (Below.refl _ w) _) hb0; have HS0 : Hid (Below (w.heap.size + 1) (w.alloc (.cells #[.int .i64 k, .int .u64 e, .int .u64 s, .int .i64 p, .int .i64 i, .int .i64 c, .slice da dn dc, .int .i64 cd, .slice ga gn gc] 49 (0, 0))) w0) := (by have h9 := hb0; rw [heap_alloc_size1'] at h9; exact h9); have hc7 : w0.cell? ⟨w.heap.size, 7, none⟩ = some (.int .i64 cd) := HBX.out w0 HS0.out 7 _ rfl; have hc8 : w0.cell? ⟨w.heap.size, 8, none⟩ = some (.slice ga gn gc) := HBX.out w0 HS0.out 8 _ rfl)
           clear hb0
           go_wp2_with (first
             | (go_at_call 188; refine (goodCode_b cd true ⟨fun _ => H1.out, fun _ => rfl⟩ _).mono ?_; rintro e w1 ⟨rfl, rfl⟩)
             | (go_at_call 189; refine (goodGot_b ga gn gc l true ⟨fun _ => H2.out, fun _ => rfl⟩ _ HN.out (HXR.out _ HB0.out) HL.out.1 HL.out.2).mono ?_; rintro e w2 ⟨rfl, hb2⟩; have HB2 : Hid (Below w.heap.size w w2) := below_next HB0.out hb2; have HS2 : Hid (Below (w.heap.size + 1) (w.alloc (.cells #[.int .i64 k, .int .u64 e, .int .u64 s, .int .i64 p, .int .i64 i, .int .i64 c, .slice da dn dc, .int .i64 cd, .slice ga gn gc] 49 (0, 0))) w2) := HS0.out.trans (hb2.mono (by have h9 := HS0.out.size; rw [heap_alloc_size1'] at h9; exact h9)); have hc72 : w2.cell? ⟨w.heap.size, 7, none⟩ = some (.int .i64 cd) := HBX.out w2 HS2.out 7 _ rfl; have hc82 : w2.cell? ⟨w.heap.size, 8, none⟩ = some (.slice ga gn gc) := HBX.out w2 HS2.out 8 _ rfl))
           go_ret; exact ⟨by first | rfl | (simp; done) | (simp; omega) | simp_all, HB2.out⟩
         · obtain rfl : b = false := bF hb (fun h => by have := h.2.2.2; omega); have hd3 : (cd == 0) = false := by simpa using h3
           have hd4 : ((gn : Int) == 0) = false := by simpa using h4
           clear h3 h4; have H0 : Hid _ := h0; have H1 : Hid _ := h1; have H2 : Hid _ := h2; clear hb h0 h1 h2; go_enter Tryz.func150, Tryz.ntmps150
           go_wp2_with (refine wpList_load_g (by rfl) 49 _ rfl w.heap.size 0 (by rfl) [.int .i64 k, .int .u64 e, .int .u64 s, .int .i64 p, .int .i64 i, .int .i64 c, .slice da dn dc, .int .i64 cd, .slice ga gn gc] _ (HBX.out _ HS.out) Tryz.underlying49 rfl info_un ?_)
           (refine (dataless_b k e s p i c da dn dc cd ga gn gc true ⟨fun _ => H0.out, fun _ => rfl⟩ _).mono ?_; rintro e w0 ⟨rfl, hb0⟩; have HB0 : Hid (Below w.heap.size w w0) := below_next (al (Below.refl _ w) _) hb0; have HS0 : Hid (Below (w.heap.size + 1) (w.alloc (.cells #[.int .i64 k, .int .u64 e, .int .u64 s, .int .i64 p, .int .i64 i, .int .i64 c, .slice da dn dc, .int .i64 cd, .slice ga gn gc] 49 (0, 0))) w0) := (by have h9 := hb0; rw [heap_alloc_size1'] at h9; exact h9); have hc7 : w0.cell? ⟨w.heap.size, 7, none⟩ = some (.int .i64 cd) := HBX.out w0 HS0.out 7 _ rfl; have hc8 : w0.cell? ⟨w.heap.size, 8, none⟩ = some (.slice ga gn gc) := HBX.out w0 HS0.out 8 _ rfl)
           clear hb0
           go_wp2_with (first
             | (go_at_call 188; refine (goodCode_b cd true ⟨fun _ => H1.out, fun _ => rfl⟩ _).mono ?_; rintro e w1 ⟨rfl, rfl⟩)
             | (go_at_call 189; refine (goodGot_b ga gn gc l true ⟨fun _ => H2.out, fun _ => rfl⟩ _ HN.out (HXR.out _ HB0.out) HL.out.1 HL.out.2).mono ?_; rintro e w2 ⟨rfl, hb2⟩; have HB2 : Hid (Below w.heap.size w w2) := below_next HB0.out hb2; have HS2 : Hid (Below (w.heap.size + 1) (w.alloc (.cells #[.int .i64 k, .int .u64 e, .int .u64 s, .int .i64 p, .int .i64 i, .int .i64 c, .slice da dn dc, .int .i64 cd, .slice ga gn gc] 49 (0, 0))) w2) := HS0.out.trans (hb2.mono (by have h9 := HS0.out.size; rw [heap_alloc_size1'] at h9; exact h9)); have hc72 : w2.cell? ⟨w.heap.size, 7, none⟩ = some (.int .i64 cd) := HBX.out w2 HS2.out 7 _ rfl; have hc82 : w2.cell? ⟨w.heap.size, 8, none⟩ = some (.slice ga gn gc) := HBX.out w2 HS2.out 8 _ rfl))
           go_ret; exact ⟨by first | rfl | (simp; done) | (simp; omega) | simp_all, HB2.out⟩
     · obtain rfl : b = false := bF hb (fun h => h2 h.2.2.1); have H0 : Hid _ := h0; have H1 : Hid _ := h1; have H2 : Hid _ := h2; clear hb h0 h1 h2; go_enter Tryz.func150, Tryz.ntmps150
       go_wp2_with (refine wpList_load_g (by rfl) 49 _ rfl w.heap.size 0 (by rfl) [.int .i64 k, .int .u64 e, .int .u64 s, .int .i64 p, .int .i64 i, .int .i64 c, .slice da dn dc, .int .i64 cd, .slice ga gn gc] _ (HBX.out _ HS.out) Tryz.underlying49 rfl info_un ?_)
       (refine (dataless_b k e s p i c da dn dc cd ga gn gc true ⟨fun _ => H0.out, fun _ => rfl⟩ _).mono ?_; rintro e w0 ⟨rfl, hb0⟩; have HB0 : Hid (Below w.heap.size w w0) := below_next (al (Below.refl _ w) _) hb0; have HS0 : Hid (Below (w.heap.size + 1) (w.alloc (.cells #[.int .i64 k, .int .u64 e, .int .u64 s, .int .i64 p, .int .i64 i, .int .i64 c, .slice da dn dc, .int .i64 cd, .slice ga gn gc] 49 (0, 0))) w0) := (by have h9 := hb0; rw [heap_alloc_size1'] at h9; exact h9); have hc7 : w0.cell? ⟨w.heap.size, 7, none⟩ = some (.int .i64 cd) := HBX.out w0 HS0.out 7 _ rfl; have hc8 : w0.cell? ⟨w.heap.size, 8, none⟩ = some (.slice ga gn gc) := HBX.out w0 HS0.out 8 _ rfl)
       clear hb0
       go_wp2_with (first
         | (go_at_call 188; refine (goodCode_b cd true ⟨fun _ => H1.out, fun _ => rfl⟩ _).mono ?_; rintro e w1 ⟨rfl, rfl⟩)
         | (go_at_call 189; refine (goodGot_b ga gn gc l false ⟨(fun h => by cases h), fun h => absurd h H2.out⟩ _ HN.out (HXR.out _ HB0.out) HL.out.1 HL.out.2).mono ?_; rintro e w2 ⟨rfl, hb2⟩; have HB2 : Hid (Below w.heap.size w w2) := below_next HB0.out hb2; have HS2 : Hid (Below (w.heap.size + 1) (w.alloc (.cells #[.int .i64 k, .int .u64 e, .int .u64 s, .int .i64 p, .int .i64 i, .int .i64 c, .slice da dn dc, .int .i64 cd, .slice ga gn gc] 49 (0, 0))) w2) := HS0.out.trans (hb2.mono (by have h9 := HS0.out.size; rw [heap_alloc_size1'] at h9; exact h9)); have hc72 : w2.cell? ⟨w.heap.size, 7, none⟩ = some (.int .i64 cd) := HBX.out w2 HS2.out 7 _ rfl; have hc82 : w2.cell? ⟨w.heap.size, 8, none⟩ = some (.slice ga gn gc) := HBX.out w2 HS2.out 8 _ rfl))
       go_ret; exact ⟨by first | rfl | (simp; done) | (simp; omega) | simp_all, HB2.out⟩
   · obtain rfl : b = false := bF hb (fun h => h1 h.2.1); have H0 : Hid _ := h0; have H1 : Hid _ := h1; clear hb h0 h1; go_enter Tryz.func150, Tryz.ntmps150
     go_wp2_with (refine wpList_load_g (by rfl) 49 _ rfl w.heap.size 0 (by rfl) [.int .i64 k, .int .u64 e, .int .u64 s, .int .i64 p, .int .i64 i, .int .i64 c, .slice da dn dc, .int .i64 cd, .slice ga gn gc] _ (HBX.out _ HS.out) Tryz.underlying49 rfl info_un ?_)
     (refine (dataless_b k e s p i c da dn dc cd ga gn gc true ⟨fun _ => H0.out, fun _ => rfl⟩ _).mono ?_; rintro e w0 ⟨rfl, hb0⟩; have HB0 : Hid (Below w.heap.size w w0) := below_next (al (Below.refl _ w) _) hb0; have HS0 : Hid (Below (w.heap.size + 1) (w.alloc (.cells #[.int .i64 k, .int .u64 e, .int .u64 s, .int .i64 p, .int .i64 i, .int .i64 c, .slice da dn dc, .int .i64 cd, .slice ga gn gc] 49 (0, 0))) w0) := (by have h9 := hb0; rw [heap_alloc_size1'] at h9; exact h9); have hc7 : w0.cell? ⟨w.heap.size, 7, none⟩ = some (.int .i64 cd) := HBX.out w0 HS0.out 7 _ rfl; have hc8 : w0.cell? ⟨w.heap.size, 8, none⟩ = some (.slice ga gn gc) := HBX.out w0 HS0.out 8 _ rfl)
     clear hb0
     go_wp2_with (first
       | (go_at_call 188; refine (goodCode_b cd false ⟨(fun h => by cases h), fun h => absurd h H1.out⟩ _).mono ?_; rintro e w1 ⟨rfl, rfl⟩))
     go_ret; exact ⟨by first | rfl | (simp; done) | (simp; omega) | simp_all, HB0.out⟩
 · obtain rfl : b = false := bF hb (fun h => h0 h.1); have H0 : Hid _ := h0; clear hb h0; go_enter Tryz.func150, Tryz.ntmps150
   go_wp2_with (refine wpList_load_g (by rfl) 49 _ rfl w.heap.size 0 (by rfl) [.int .i64 k, .int .u64 e, .int .u64 s, .int .i64 p, .int .i64 i, .int .i64 c, .slice da dn dc, .int .i64 cd, .slice ga gn gc] _ (HBX.out _ HS.out) Tryz.underlying49 rfl info_un ?_)
   (refine (dataless_b k e s p i c da dn dc cd ga gn gc false ⟨(fun h => by cases h), fun h => absurd h H0.out⟩ _).mono ?_; rintro e w0 ⟨rfl, hb0⟩; have HB0 : Hid (Below w.heap.size w w0) := below_next (al (Below.refl _ w) _) hb0; have HS0 : Hid (Below (w.heap.size + 1) (w.alloc (.cells #[.int .i64 k, .int .u64 e, .int .u64 s, .int .i64 p, .int .i64 i, .int .i64 c, .slice da dn dc, .int .i64 cd, .slice ga gn gc] 49 (0, 0))) w0) := (by have h9 := hb0; rw [heap_alloc_size1'] at h9; exact h9); have hc7 : w0.cell? ⟨w.heap.size, 7, none⟩ = some (.int .i64 cd) := HBX.out w0 HS0.out 7 _ rfl; have hc8 : w0.cell? ⟨w.heap.size, 8, none⟩ = some (.slice ga gn gc) := HBX.out w0 HS0.out 8 _ rfl)
   clear hb0; go_wp2; go_ret; exact ⟨by first | rfl | (simp; done) | (simp; omega) | simp_all, HB0.out⟩
end
open Go.RowKit
abbrev kd1 : List Value := [.int .i64 1, .func (.func 147) #[] #[], .func (.func 148) #[] #[], .func (.func 149) #[] #[]]
abbrev kd2 : List Value := [.int .i64 2, .func (.func 150) #[] #[], .func (.func 151) #[] #[], .func (.func 152) #[] #[]]
abbrev kd3 : List Value := [.int .i64 3, .func (.func 153) #[] #[], .func (.func 154) #[] #[], .func (.func 155) #[] #[]]
abbrev kd0 : List Value := [.int .i64 0, .nilFunc, .nilFunc, .nilFunc]
abbrev kdAll : Array Value := #[.int .i64 1, .func (.func 147) #[] #[], .func (.func 148) #[] #[], .func (.func 149) #[] #[], .int .i64 2, .func (.func 150) #[] #[], .func (.func 151) #[] #[], .func (.func 152) #[] #[], .int .i64 3, .func (.func 153) #[] #[], .func (.func 154) #[] #[], .func (.func 155) #[] #[]]
theorem info_kd : (Tryz.prog.info? 160).map (·.size) = some 4 := by kernel_rfl
theorem kd_one : ∀ cs : List Value, (cs = kd1 ∨ cs = kd2 ∨ cs = kd3 ∨ cs = kd0) → cs.toArray.all (·.oneCell') = true := by
 rintro cs (rfl | rfl | rfl | rfl) <;> simp [Value.oneCell']
def KindIs (n : Int) (cs : List Value) (kn : Bool) : Prop := (n = 1 ∧ cs = kd1 ∧ kn = true) ∨ (n = 2 ∧ cs = kd2 ∧ kn = true) ∨ (n = 3 ∧ cs = kd3 ∧ kn = true) ∨ ((n ≠ 1 ∧ n ≠ 2 ∧ n ≠ 3) ∧ cs = kd0 ∧ kn = false)
section
set_option maxRecDepth 20000
set_option maxHeartbeats 3200000
theorem kinds_t (w : World) : Calls Tryz.prog 117 #[] w fun e w' => e = .returned (.slice (some ⟨w.heap.size, 0, none⟩) 3 3) ∧ w' = w.alloc (.cells kdAll 160 (0, 0)) := by
 go_enter Tryz.func117, Tryz.ntmps117
 go_wp2; go_ret; exact ⟨rfl, rfl⟩
def kdAt : Nat → List Value
 | 0 => kd1
 | 1 => kd2
 | 2 => kd3
 | _ => kd0
theorem kdAt_range {w : World} {g : Nat} (h : w.heap[g]? = some (.cells kdAll 160 (0, 0))) : ∀ j, j < 3 → w.rangeAt g (j * 4) (kdAt j) := fun j hj i v hv => by
 rw [cR h]
 match j, hj with
 | 0, _ => (match i with
   | 0 => exact hv | 1 => exact hv | 2 => exact hv | 3 => exact hv | i + 4 => simp [kdAt] at hv)
 | 1, _ => (match i with
   | 0 => exact hv | 1 => exact hv | 2 => exact hv | 3 => exact hv | i + 4 => simp [kdAt] at hv)
 | 2, _ => (match i with
   | 0 => exact hv | 1 => exact hv | 2 => exact hv | 3 => exact hv | i + 4 => simp [kdAt] at hv)
def KRel (n : Int) (W : World) (j : Value) (wr : World) : Prop := ∃ k : Nat, k ≤ 3 ∧ j = .int .i64 (k : Int) ∧ (∀ t : Nat, t < k → n ≠ (t : Int) + 1) ∧ Below W.heap.size W wr
theorem kindOf_t (n : Int) (cs : List Value) (kn : Bool) (hk : KindIs n cs kn) (w : World) :
 Calls Tryz.prog 86 #[.int .i64 n] w fun e w' => e = .returned (.tuple #[.agg cs.toArray, .bool kn]) ∧ Below w.heap.size w w' := by
 have HK : Hid (KindIs n cs kn) := hk; clear hk; go_enter Tryz.func86, Tryz.ntmps86
 go_wp2_with (go_at_call 117; refine (kinds_t _).mono ?_; rintro e w1 ⟨rfl, hw1⟩; have HW1 : Hid _ := hw1; clear hw1)
 have hw1 := HW1.out
 have hg0 : w1.heap[w.heap.size]? = some (.cells #[.int .i64 0, .nilFunc, .nilFunc, .nilFunc] 160 (0, 0)) := by
  rw [hw1]; exact ((al (bR _ _) _).block w.heap.size (by simp)).trans (heap_alloc_new w _)
 have hg1 : w1.heap[w.heap.size + 1]? = some (.cells kdAll 160 (0, 0)) := by
  rw [hw1]; have h9 := heap_alloc_new (w.alloc (.cells #[.int .i64 0, .nilFunc, .nilFunc, .nilFunc] 160 (0, 0))) (.cells kdAll 160 (0, 0)); rw [heap_alloc_size1'] at h9; exact h9
 have hb1 : Below w.heap.size w w1 := by rw [hw1]; exact al (al (bR _ _) _) _
 have HG0 : Hid _ := hg0; have HG1 : Hid _ := hg1; have HB1 : Hid _ := hb1; have hs1 : w1.heap.size = w.heap.size + 2 := by rw [hw1]; simp
 have HS1 : Hid _ := hs1; clear hw1 HW1 hg0 hg1 hb1 hs1; go_loopw [8] (fun j wr => KRel n w1 j wr) (fun j _ => 3 - (intOf j).toNat)
 case atStart => exact ⟨0, by omega, rfl, fun t ht => by omega, bR _ _⟩
 case round =>
  obtain ⟨k, hk3, rfl, hno, hbw⟩ := hrel; have HNO : Hid (∀ t : Nat, t < k → n ≠ (t : Int) + 1) := hno; have HB : Hid (Below w1.heap.size w1 wr) := hbw; have hsz : w.heap.size + 2 ≤ wr.heap.size := by have := hbw.size; have := HS1.out; omega
  have HR0 : Hid (wr.heap[w.heap.size]? = some (.cells #[.int .i64 0, .nilFunc, .nilFunc, .nilFunc] 160 (0, 0))) := (hbw.block w.heap.size (by have := HS1.out; omega)).trans HG0.out; have HR1 : Hid (wr.heap[w.heap.size + 1]? = some (.cells kdAll 160 (0, 0))) := (hbw.block (w.heap.size + 1) (by have := HS1.out; omega)).trans HG1.out; have HBW : Hid (Below w.heap.size w wr) := below_next HB1.out hbw; have hsf := fun (u : World) (a : Addr) (n : Nat) => run_store Tryz.prog u a (.func (.func n) #[] #[]) .plain rfl
  clear hno hbw
  by_cases e0 : k = 0
  · subst e0
    by_cases hn : n = 1
    · subst hn
      have HKK : Hid (cs = kd1 ∧ kn = true) := by
       rcases HK.out with h | h | h | h
       · exact ⟨h.2.1, h.2.2⟩
       · exact absurd h.1 (by decide)
       · exact absurd h.1 (by decide)
       · exact absurd rfl h.1.1
      obtain ⟨rfl, rfl⟩ := HKK.out; clear HK HNO
      go_wp2_with (first
        | (refine wpList_load_mid rfl 160 _ rfl (w.heap.size + 1) (0 * 4) (by rfl) [.int .i64 1, .func (.func 147) #[] #[], .func (.func 148) #[] #[], .func (.func 149) #[] #[]] _ (kdAt_range HR1.out 0 (by decide)) Tryz.underlying160 rfl info_kd ?_)
        | (refine wpList_store_mid rfl 160 _ _ rfl w.heap.size 0 #[.int .i64 1, .func (.func 147) #[] #[], .func (.func 148) #[] #[], .func (.func 149) #[] #[]] rfl rfl (box_there (C := #[.int .i64 0, .nilFunc, .nilFunc, .nilFunc]) (((al (Below.refl _ wr) _).block w.heap.size (by omega)).trans HR0.out) rfl) (by kernel_rfl) (kd_one kd1 (by simp)) ?_))
      (try simp only [Exit.inBlock, Exit.then]); refine bodyPost_ret (results_ctu Tryz.results86 _ _ w.heap.size 160 kd1.toArray (0, 0) _ rfl (box_set (C := #[.int .i64 0, .nilFunc, .nilFunc, .nilFunc]) (((al (Below.refl _ wr) _).block w.heap.size (by omega)).trans HR0.out) rfl) Tryz.underlying160 rfl (by kernel_rfl)) rfl ?_; exact ⟨rfl, (al HBW.out _).grown (setCells_grown _ _ _ _) (by have := HBW.out.size; simp; omega) (fun j hj => by cases hj; exact Nat.le_refl _)⟩
    · have hne : ¬ (1 : Int) = n := fun h => hn h.symm
      have hnb : ((1 : Int) == n) = false := by simpa using hne
      go_wp2_with (refine wpList_load_mid rfl 160 _ rfl (w.heap.size + 1) (0 * 4) (by rfl) [.int .i64 1, .func (.func 147) #[] #[], .func (.func 148) #[] #[], .func (.func 149) #[] #[]] _ (kdAt_range HR1.out 0 (by decide)) Tryz.underlying160 rfl info_kd ?_)
      go_roundw
      case rel => exact ⟨1, by omega, rfl, fun t ht => (by rcases (show t < 0 ∨ t = 0 by omega) with h | h; (· exact HNO.out t h); (· subst h; intro h9; exact hn (by simpa using h9))), below_next HB.out (al (bR _ _) _)⟩
      case measure => simp [intOf]
  · skip
    by_cases e1 : k = 1
    · subst e1
      by_cases hn : n = 2
      · subst hn
        have HKK : Hid (cs = kd2 ∧ kn = true) := by
         rcases HK.out with h | h | h | h
         · exact absurd h.1 (by decide)
         · exact ⟨h.2.1, h.2.2⟩
         · exact absurd h.1 (by decide)
         · exact absurd rfl h.1.2.1
        obtain ⟨rfl, rfl⟩ := HKK.out; clear HK HNO
        go_wp2_with (first
          | (refine wpList_load_mid rfl 160 _ rfl (w.heap.size + 1) (1 * 4) (by rfl) [.int .i64 2, .func (.func 150) #[] #[], .func (.func 151) #[] #[], .func (.func 152) #[] #[]] _ (kdAt_range HR1.out 1 (by decide)) Tryz.underlying160 rfl info_kd ?_)
          | (refine wpList_store_mid rfl 160 _ _ rfl w.heap.size 0 #[.int .i64 2, .func (.func 150) #[] #[], .func (.func 151) #[] #[], .func (.func 152) #[] #[]] rfl rfl (box_there (C := #[.int .i64 0, .nilFunc, .nilFunc, .nilFunc]) (((al (Below.refl _ wr) _).block w.heap.size (by omega)).trans HR0.out) rfl) (by kernel_rfl) (kd_one kd2 (by simp)) ?_))
        (try simp only [Exit.inBlock, Exit.then]); refine bodyPost_ret (results_ctu Tryz.results86 _ _ w.heap.size 160 kd2.toArray (0, 0) _ rfl (box_set (C := #[.int .i64 0, .nilFunc, .nilFunc, .nilFunc]) (((al (Below.refl _ wr) _).block w.heap.size (by omega)).trans HR0.out) rfl) Tryz.underlying160 rfl (by kernel_rfl)) rfl ?_; exact ⟨rfl, (al HBW.out _).grown (setCells_grown _ _ _ _) (by have := HBW.out.size; simp; omega) (fun j hj => by cases hj; exact Nat.le_refl _)⟩
      · have hne : ¬ (2 : Int) = n := fun h => hn h.symm
        have hnb : ((2 : Int) == n) = false := by simpa using hne
        go_wp2_with (refine wpList_load_mid rfl 160 _ rfl (w.heap.size + 1) (1 * 4) (by rfl) [.int .i64 2, .func (.func 150) #[] #[], .func (.func 151) #[] #[], .func (.func 152) #[] #[]] _ (kdAt_range HR1.out 1 (by decide)) Tryz.underlying160 rfl info_kd ?_)
        go_roundw
        case rel => exact ⟨2, by omega, rfl, fun t ht => (by rcases (show t < 1 ∨ t = 1 by omega) with h | h; (· exact HNO.out t h); (· subst h; intro h9; exact hn (by simpa using h9))), below_next HB.out (al (bR _ _) _)⟩
        case measure => simp [intOf]
    · skip
      by_cases e2 : k = 2
      · subst e2
        by_cases hn : n = 3
        · subst hn
          have HKK : Hid (cs = kd3 ∧ kn = true) := by
           rcases HK.out with h | h | h | h
           · exact absurd h.1 (by decide)
           · exact absurd h.1 (by decide)
           · exact ⟨h.2.1, h.2.2⟩
           · exact absurd rfl h.1.2.2
          obtain ⟨rfl, rfl⟩ := HKK.out; clear HK HNO
          go_wp2_with (first
            | (refine wpList_load_mid rfl 160 _ rfl (w.heap.size + 1) (2 * 4) (by rfl) [.int .i64 3, .func (.func 153) #[] #[], .func (.func 154) #[] #[], .func (.func 155) #[] #[]] _ (kdAt_range HR1.out 2 (by decide)) Tryz.underlying160 rfl info_kd ?_)
            | (refine wpList_store_mid rfl 160 _ _ rfl w.heap.size 0 #[.int .i64 3, .func (.func 153) #[] #[], .func (.func 154) #[] #[], .func (.func 155) #[] #[]] rfl rfl (box_there (C := #[.int .i64 0, .nilFunc, .nilFunc, .nilFunc]) (((al (Below.refl _ wr) _).block w.heap.size (by omega)).trans HR0.out) rfl) (by kernel_rfl) (kd_one kd3 (by simp)) ?_))
          (try simp only [Exit.inBlock, Exit.then]); refine bodyPost_ret (results_ctu Tryz.results86 _ _ w.heap.size 160 kd3.toArray (0, 0) _ rfl (box_set (C := #[.int .i64 0, .nilFunc, .nilFunc, .nilFunc]) (((al (Below.refl _ wr) _).block w.heap.size (by omega)).trans HR0.out) rfl) Tryz.underlying160 rfl (by kernel_rfl)) rfl ?_; exact ⟨rfl, (al HBW.out _).grown (setCells_grown _ _ _ _) (by have := HBW.out.size; simp; omega) (fun j hj => by cases hj; exact Nat.le_refl _)⟩
        · have hne : ¬ (3 : Int) = n := fun h => hn h.symm
          have hnb : ((3 : Int) == n) = false := by simpa using hne
          go_wp2_with (refine wpList_load_mid rfl 160 _ rfl (w.heap.size + 1) (2 * 4) (by rfl) [.int .i64 3, .func (.func 153) #[] #[], .func (.func 154) #[] #[], .func (.func 155) #[] #[]] _ (kdAt_range HR1.out 2 (by decide)) Tryz.underlying160 rfl info_kd ?_)
          go_roundw
          case rel => exact ⟨3, by omega, rfl, fun t ht => (by rcases (show t < 2 ∨ t = 2 by omega) with h | h; (· exact HNO.out t h); (· subst h; intro h9; exact hn (by simpa using h9))), below_next HB.out (al (bR _ _) _)⟩
          case measure => simp [intOf]
      · skip
        obtain rfl : k = 3 := by omega
        have HKK : Hid (cs = kd0 ∧ kn = false) := by
         have n1 := HNO.out 0 (by omega); have n2 := HNO.out 1 (by omega); have n3 := HNO.out 2 (by omega); rcases HK.out with h | h | h | h
         · exact absurd (by rw [h.1]; rfl) n1
         · exact absurd (by rw [h.1]; rfl) n2
         · exact absurd (by rw [h.1]; rfl) n3
         · exact ⟨h.2.1, h.2.2⟩
        obtain ⟨rfl, rfl⟩ := HKK.out; clear HK HNO e0 e1 e2; go_wp2_with (refine wpList_store_mid rfl 160 _ _ rfl w.heap.size 0 kd0.toArray rfl rfl (box_there (C := #[.int .i64 0, .nilFunc, .nilFunc, .nilFunc]) HR0.out rfl) (by kernel_rfl) (kd_one kd0 (by simp)) ?_)
        (try simp only [Exit.inBlock, Exit.then]); refine bodyPost_ret (results_ctu Tryz.results86 _ _ w.heap.size 160 kd0.toArray (0, 0) _ rfl (box_set (C := #[.int .i64 0, .nilFunc, .nilFunc, .nilFunc]) HR0.out rfl) Tryz.underlying160 rfl (by kernel_rfl)) rfl ?_; exact ⟨rfl, HBW.out.grown (setCells_grown _ _ _ _) HBW.out.size (fun j hj => by cases hj; exact Nat.le_refl _)⟩
end
open Go.RowKit
section
set_option maxRecDepth 20000
set_option maxHeartbeats 3200000
theorem valid_k (k e s p i c : Int) (da : Option Addr) (dn dc : Nat) (cd : Int) (ga : Option Addr) (gn gc : Nat) (l : List Rg) (w : World) (hk : k ≠ 1 ∧ k ≠ 2 ∧ k ≠ 3) : Calls Tryz.prog 49 #[.agg #[.int .i64 k, .int .u64 e, .int .u64 s, .int .i64 p, .int .i64 i, .int .i64 c, .slice da dn dc, .int .i64 cd, .slice ga gn gc]] w fun e w' => e = .returned (.int .i64 30) ∧ Below w.heap.size w w' := by
 have HBX : Hid (∀ u, Below (w.heap.size + 1) (w.alloc (.cells #[.int .i64 k, .int .u64 e, .int .u64 s, .int .i64 p, .int .i64 i, .int .i64 c, .slice da dn dc, .int .i64 cd, .slice ga gn gc] 49 (0, 0))) u → u.rangeAt w.heap.size 0 [.int .i64 k, .int .u64 e, .int .u64 s, .int .i64 p, .int .i64 i, .int .i64 c, .slice da dn dc, .int .i64 cd, .slice ga gn gc]) := fun u hu => range_below (range_box w [.int .i64 k, .int .u64 e, .int .u64 s, .int .i64 p, .int .i64 i, .int .i64 c, .slice da dn dc, .int .i64 cd, .slice ga gn gc] 49) (by rw [heap_alloc_size1']; exact hu)
 have hsf := fun (u : World) (a : Addr) (n : Nat) => run_store Tryz.prog u a (.func (.func n) #[] #[]) .plain rfl
 have hsn := fun (u : World) (a : Addr) => run_store Tryz.prog u a .nilFunc .plain rfl
 have HKN : Hid _ := hk; clear hk; go_enter Tryz.func49, Tryz.ntmps49
 go_wp2_with (first
   | (go_at_call 86; refine (kindOf_t k kd0 false (.inr (.inr (.inr ⟨HKN.out, rfl, rfl⟩))) _).mono ?_; rintro e1 w1 ⟨rfl, hb1⟩; have HS1 : Hid (Below (w.heap.size + 1) (w.alloc (.cells #[.int .i64 k, .int .u64 e, .int .u64 s, .int .i64 p, .int .i64 i, .int .i64 c, .slice da dn dc, .int .i64 cd, .slice ga gn gc] 49 (0, 0))) w1) := (by have h9 := hb1; rw [heap_alloc_size1'] at h9; exact h9); have HW1 : Hid (Below w.heap.size w w1) := below_next (al (Below.refl _ w) _) hb1; have hc1 : ∀ o, (w1.alloc o).cell? ⟨w.heap.size, 1, none⟩ = some (.int .u64 e) := (fun o => HBX.out _ (HS1.out.alloc (by have := HS1.out.size; simpa using this) o) 1 _ rfl); have hc2 : ∀ o, (w1.alloc o).cell? ⟨w.heap.size, 2, none⟩ = some (.int .u64 s) := (fun o => HBX.out _ (HS1.out.alloc (by have := HS1.out.size; simpa using this) o) 2 _ rfl); clear hb1))
 go_ret; exact ⟨rfl, (al HW1.out _)⟩
theorem valid_1e (e s p i c : Int) (da : Option Addr) (dn dc : Nat) (cd : Int) (ga : Option Addr) (gn gc : Nat) (l : List Rg) (w : World) (he : ¬ nameOk e) : Calls Tryz.prog 49 #[.agg #[.int .i64 1, .int .u64 e, .int .u64 s, .int .i64 p, .int .i64 i, .int .i64 c, .slice da dn dc, .int .i64 cd, .slice ga gn gc]] w fun e w' => e = .returned (.int .i64 30) ∧ Below w.heap.size w w' := by
 have HBX : Hid (∀ u, Below (w.heap.size + 1) (w.alloc (.cells #[.int .i64 1, .int .u64 e, .int .u64 s, .int .i64 p, .int .i64 i, .int .i64 c, .slice da dn dc, .int .i64 cd, .slice ga gn gc] 49 (0, 0))) u → u.rangeAt w.heap.size 0 [.int .i64 1, .int .u64 e, .int .u64 s, .int .i64 p, .int .i64 i, .int .i64 c, .slice da dn dc, .int .i64 cd, .slice ga gn gc]) := fun u hu => range_below (range_box w [.int .i64 1, .int .u64 e, .int .u64 s, .int .i64 p, .int .i64 i, .int .i64 c, .slice da dn dc, .int .i64 cd, .slice ga gn gc] 49) (by rw [heap_alloc_size1']; exact hu)
 have hsf := fun (u : World) (a : Addr) (n : Nat) => run_store Tryz.prog u a (.func (.func n) #[] #[]) .plain rfl
 have hsn := fun (u : World) (a : Addr) => run_store Tryz.prog u a .nilFunc .plain rfl
 have HE : Hid _ := he; clear he; go_enter Tryz.func49, Tryz.ntmps49
 go_wp2_with (first
   | (go_at_call 86; refine (kindOf_t 1 kd1 true (.inl ⟨rfl, rfl, rfl⟩) _).mono ?_; rintro e1 w1 ⟨rfl, hb1⟩; have HS1 : Hid (Below (w.heap.size + 1) (w.alloc (.cells #[.int .i64 1, .int .u64 e, .int .u64 s, .int .i64 p, .int .i64 i, .int .i64 c, .slice da dn dc, .int .i64 cd, .slice ga gn gc] 49 (0, 0))) w1) := (by have h9 := hb1; rw [heap_alloc_size1'] at h9; exact h9); have HW1 : Hid (Below w.heap.size w w1) := below_next (al (Below.refl _ w) _) hb1; have hc1 : ∀ o, (w1.alloc o).cell? ⟨w.heap.size, 1, none⟩ = some (.int .u64 e) := (fun o => HBX.out _ (HS1.out.alloc (by have := HS1.out.size; simpa using this) o) 1 _ rfl); have hc2 : ∀ o, (w1.alloc o).cell? ⟨w.heap.size, 2, none⟩ = some (.int .u64 s) := (fun o => HBX.out _ (HS1.out.alloc (by have := HS1.out.size; simpa using this) o) 2 _ rfl); clear hb1)
   | (go_at_call_of 87 (Value.int .u64 e); refine (goodName_b e false ⟨(fun h => by cases h), fun h => absurd h HE.out⟩ _).mono ?_; rintro e2 w2 ⟨rfl, rfl⟩))
 go_ret; exact ⟨rfl, (al HW1.out _)⟩
theorem valid_1s (e s p i c : Int) (da : Option Addr) (dn dc : Nat) (cd : Int) (ga : Option Addr) (gn gc : Nat) (l : List Rg) (w : World) (he : nameOk e) (hs : ¬ nameOk s) : Calls Tryz.prog 49 #[.agg #[.int .i64 1, .int .u64 e, .int .u64 s, .int .i64 p, .int .i64 i, .int .i64 c, .slice da dn dc, .int .i64 cd, .slice ga gn gc]] w fun e w' => e = .returned (.int .i64 30) ∧ Below w.heap.size w w' := by
 have HBX : Hid (∀ u, Below (w.heap.size + 1) (w.alloc (.cells #[.int .i64 1, .int .u64 e, .int .u64 s, .int .i64 p, .int .i64 i, .int .i64 c, .slice da dn dc, .int .i64 cd, .slice ga gn gc] 49 (0, 0))) u → u.rangeAt w.heap.size 0 [.int .i64 1, .int .u64 e, .int .u64 s, .int .i64 p, .int .i64 i, .int .i64 c, .slice da dn dc, .int .i64 cd, .slice ga gn gc]) := fun u hu => range_below (range_box w [.int .i64 1, .int .u64 e, .int .u64 s, .int .i64 p, .int .i64 i, .int .i64 c, .slice da dn dc, .int .i64 cd, .slice ga gn gc] 49) (by rw [heap_alloc_size1']; exact hu)
 have hsf := fun (u : World) (a : Addr) (n : Nat) => run_store Tryz.prog u a (.func (.func n) #[] #[]) .plain rfl
 have hsn := fun (u : World) (a : Addr) => run_store Tryz.prog u a .nilFunc .plain rfl
 have HE : Hid _ := he; have HSN : Hid _ := hs; clear he hs; go_enter Tryz.func49, Tryz.ntmps49
 go_wp2_with (first
   | (go_at_call 86; refine (kindOf_t 1 kd1 true (.inl ⟨rfl, rfl, rfl⟩) _).mono ?_; rintro e1 w1 ⟨rfl, hb1⟩; have HS1 : Hid (Below (w.heap.size + 1) (w.alloc (.cells #[.int .i64 1, .int .u64 e, .int .u64 s, .int .i64 p, .int .i64 i, .int .i64 c, .slice da dn dc, .int .i64 cd, .slice ga gn gc] 49 (0, 0))) w1) := (by have h9 := hb1; rw [heap_alloc_size1'] at h9; exact h9); have HW1 : Hid (Below w.heap.size w w1) := below_next (al (Below.refl _ w) _) hb1; have hc1 : ∀ o, (w1.alloc o).cell? ⟨w.heap.size, 1, none⟩ = some (.int .u64 e) := (fun o => HBX.out _ (HS1.out.alloc (by have := HS1.out.size; simpa using this) o) 1 _ rfl); have hc2 : ∀ o, (w1.alloc o).cell? ⟨w.heap.size, 2, none⟩ = some (.int .u64 s) := (fun o => HBX.out _ (HS1.out.alloc (by have := HS1.out.size; simpa using this) o) 2 _ rfl); clear hb1)
   | (go_at_call_of 87 (Value.int .u64 e); refine (goodName_b e true ⟨fun _ => HE.out, fun _ => rfl⟩ _).mono ?_; rintro e2 w2 ⟨rfl, rfl⟩)
   | (go_at_call_of 87 (Value.int .u64 s); refine (goodName_b s false ⟨(fun h => by cases h), fun h => absurd h HSN.out⟩ _).mono ?_; rintro e3 w3 ⟨rfl, rfl⟩))
 go_ret; exact ⟨rfl, (al HW1.out _)⟩
theorem valid_1b (e s p i c : Int) (da : Option Addr) (dn dc : Nat) (cd : Int) (ga : Option Addr) (gn gc : Nat) (l : List Rg) (w : World) (he : nameOk e) (hs : nameOk s) (hg : ¬ ((p = 1 ∨ p = 2) ∧ (0 ≤ i ∧ i < 64) ∧ (i < c ∧ c ≤ 64) ∧ (1 ≤ dn ∧ dn ≤ 1024) ∧ (cd = 0 ∧ gn = 0))) : Calls Tryz.prog 49 #[.agg #[.int .i64 1, .int .u64 e, .int .u64 s, .int .i64 p, .int .i64 i, .int .i64 c, .slice da dn dc, .int .i64 cd, .slice ga gn gc]] w fun e w' => e = .returned (.int .i64 30) ∧ Below w.heap.size w w' := by
 have HBX : Hid (∀ u, Below (w.heap.size + 1) (w.alloc (.cells #[.int .i64 1, .int .u64 e, .int .u64 s, .int .i64 p, .int .i64 i, .int .i64 c, .slice da dn dc, .int .i64 cd, .slice ga gn gc] 49 (0, 0))) u → u.rangeAt w.heap.size 0 [.int .i64 1, .int .u64 e, .int .u64 s, .int .i64 p, .int .i64 i, .int .i64 c, .slice da dn dc, .int .i64 cd, .slice ga gn gc]) := fun u hu => range_below (range_box w [.int .i64 1, .int .u64 e, .int .u64 s, .int .i64 p, .int .i64 i, .int .i64 c, .slice da dn dc, .int .i64 cd, .slice ga gn gc] 49) (by rw [heap_alloc_size1']; exact hu)
 have hsf := fun (u : World) (a : Addr) (n : Nat) => run_store Tryz.prog u a (.func (.func n) #[] #[]) .plain rfl
 have hsn := fun (u : World) (a : Addr) => run_store Tryz.prog u a .nilFunc .plain rfl
 have HE : Hid (nameOk e) := he; have HSN : Hid (nameOk s) := hs; have HG : Hid (¬ ((p = 1 ∨ p = 2) ∧ (0 ≤ i ∧ i < 64) ∧ (i < c ∧ c ≤ 64) ∧ (1 ≤ dn ∧ dn ≤ 1024) ∧ (cd = 0 ∧ gn = 0))) := hg; clear he hs hg; go_enter Tryz.func49, Tryz.ntmps49
 go_wp2_with (first
   | (go_at_call 86; refine (kindOf_t 1 kd1 true (.inl ⟨rfl, rfl, rfl⟩) _).mono ?_; rintro e1 w1 ⟨rfl, hb1⟩; have HS1 : Hid (Below (w.heap.size + 1) (w.alloc (.cells #[.int .i64 1, .int .u64 e, .int .u64 s, .int .i64 p, .int .i64 i, .int .i64 c, .slice da dn dc, .int .i64 cd, .slice ga gn gc] 49 (0, 0))) w1) := (by have h9 := hb1; rw [heap_alloc_size1'] at h9; exact h9); have HW1 : Hid (Below w.heap.size w w1) := below_next (al (Below.refl _ w) _) hb1; have hc1 : ∀ o, (w1.alloc o).cell? ⟨w.heap.size, 1, none⟩ = some (.int .u64 e) := (fun o => HBX.out _ (HS1.out.alloc (by have := HS1.out.size; simpa using this) o) 1 _ rfl); have hc2 : ∀ o, (w1.alloc o).cell? ⟨w.heap.size, 2, none⟩ = some (.int .u64 s) := (fun o => HBX.out _ (HS1.out.alloc (by have := HS1.out.size; simpa using this) o) 2 _ rfl); clear hb1)
   | (go_at_call_of 87 (Value.int .u64 e); refine (goodName_b e true ⟨fun _ => HE.out, fun _ => rfl⟩ _).mono ?_; rintro e2 w2 ⟨rfl, rfl⟩)
   | (go_at_call_of 87 (Value.int .u64 s); refine (goodName_b s true ⟨fun _ => HSN.out, fun _ => rfl⟩ _).mono ?_; rintro e3 w3 ⟨rfl, rfl⟩)
   | (refine wpList_load_g (by rfl) 49 _ rfl w.heap.size 0 (by rfl) [.int .i64 1, .int .u64 e, .int .u64 s, .int .i64 p, .int .i64 i, .int .i64 c, .slice da dn dc, .int .i64 cd, .slice ga gn gc] _ (HBX.out _ (HS1.out.alloc (by have := HS1.out.size; simpa using this) _)) Tryz.underlying49 rfl info_un ?_)
   | (go_at_call 147; refine (goodData_b 1 e s p i c da dn dc cd ga gn gc false _ ⟨(fun h => by cases h), fun h => absurd h HG.out⟩).mono ?_; rintro e4 w4 ⟨rfl, hb4⟩; have HB4 : Hid (Below w.heap.size w w4) := below_next (al HW1.out _) hb4))
 go_ret; exact ⟨rfl, HB4.out⟩
theorem valid_1g (e s p i c : Int) (da : Option Addr) (dn dc : Nat) (cd : Int) (ga : Option Addr) (gn gc : Nat) (l : List Rg) (w : World) (he : nameOk e) (hs : nameOk s) (hg : ((p = 1 ∨ p = 2) ∧ (0 ≤ i ∧ i < 64) ∧ (i < c ∧ c ≤ 64) ∧ (1 ≤ dn ∧ dn ≤ 1024) ∧ (cd = 0 ∧ gn = 0))) : Calls Tryz.prog 49 #[.agg #[.int .i64 1, .int .u64 e, .int .u64 s, .int .i64 p, .int .i64 i, .int .i64 c, .slice da dn dc, .int .i64 cd, .slice ga gn gc]] w fun e w' => e = .returned (.int .i64 0) ∧ Below w.heap.size w w' := by
 have HBX : Hid (∀ u, Below (w.heap.size + 1) (w.alloc (.cells #[.int .i64 1, .int .u64 e, .int .u64 s, .int .i64 p, .int .i64 i, .int .i64 c, .slice da dn dc, .int .i64 cd, .slice ga gn gc] 49 (0, 0))) u → u.rangeAt w.heap.size 0 [.int .i64 1, .int .u64 e, .int .u64 s, .int .i64 p, .int .i64 i, .int .i64 c, .slice da dn dc, .int .i64 cd, .slice ga gn gc]) := fun u hu => range_below (range_box w [.int .i64 1, .int .u64 e, .int .u64 s, .int .i64 p, .int .i64 i, .int .i64 c, .slice da dn dc, .int .i64 cd, .slice ga gn gc] 49) (by rw [heap_alloc_size1']; exact hu)
 have hsf := fun (u : World) (a : Addr) (n : Nat) => run_store Tryz.prog u a (.func (.func n) #[] #[]) .plain rfl
 have hsn := fun (u : World) (a : Addr) => run_store Tryz.prog u a .nilFunc .plain rfl
 have HE : Hid (nameOk e) := he; have HSN : Hid (nameOk s) := hs; have HG : Hid (((p = 1 ∨ p = 2) ∧ (0 ≤ i ∧ i < 64) ∧ (i < c ∧ c ≤ 64) ∧ (1 ≤ dn ∧ dn ≤ 1024) ∧ (cd = 0 ∧ gn = 0))) := hg; clear he hs hg; go_enter Tryz.func49, Tryz.ntmps49
 go_wp2_with (first
   | (go_at_call 86; refine (kindOf_t 1 kd1 true (.inl ⟨rfl, rfl, rfl⟩) _).mono ?_; rintro e1 w1 ⟨rfl, hb1⟩; have HS1 : Hid (Below (w.heap.size + 1) (w.alloc (.cells #[.int .i64 1, .int .u64 e, .int .u64 s, .int .i64 p, .int .i64 i, .int .i64 c, .slice da dn dc, .int .i64 cd, .slice ga gn gc] 49 (0, 0))) w1) := (by have h9 := hb1; rw [heap_alloc_size1'] at h9; exact h9); have HW1 : Hid (Below w.heap.size w w1) := below_next (al (Below.refl _ w) _) hb1; have hc1 : ∀ o, (w1.alloc o).cell? ⟨w.heap.size, 1, none⟩ = some (.int .u64 e) := (fun o => HBX.out _ (HS1.out.alloc (by have := HS1.out.size; simpa using this) o) 1 _ rfl); have hc2 : ∀ o, (w1.alloc o).cell? ⟨w.heap.size, 2, none⟩ = some (.int .u64 s) := (fun o => HBX.out _ (HS1.out.alloc (by have := HS1.out.size; simpa using this) o) 2 _ rfl); clear hb1)
   | (go_at_call_of 87 (Value.int .u64 e); refine (goodName_b e true ⟨fun _ => HE.out, fun _ => rfl⟩ _).mono ?_; rintro e2 w2 ⟨rfl, rfl⟩)
   | (go_at_call_of 87 (Value.int .u64 s); refine (goodName_b s true ⟨fun _ => HSN.out, fun _ => rfl⟩ _).mono ?_; rintro e3 w3 ⟨rfl, rfl⟩)
   | (refine wpList_load_g (by rfl) 49 _ rfl w.heap.size 0 (by rfl) [.int .i64 1, .int .u64 e, .int .u64 s, .int .i64 p, .int .i64 i, .int .i64 c, .slice da dn dc, .int .i64 cd, .slice ga gn gc] _ (HBX.out _ (HS1.out.alloc (by have := HS1.out.size; simpa using this) _)) Tryz.underlying49 rfl info_un ?_)
   | (go_at_call 147; refine (goodData_b 1 e s p i c da dn dc cd ga gn gc true _ ⟨fun _ => HG.out, fun _ => rfl⟩).mono ?_; rintro e4 w4 ⟨rfl, hb4⟩; have HB4 : Hid (Below w.heap.size w w4) := below_next (al HW1.out _) hb4))
 go_ret; exact ⟨rfl, HB4.out⟩
theorem valid_2e (e s p i c : Int) (da : Option Addr) (dn dc : Nat) (cd : Int) (ga : Option Addr) (gn gc : Nat) (l : List Rg) (w : World) (he : ¬ nameOk e) : Calls Tryz.prog 49 #[.agg #[.int .i64 2, .int .u64 e, .int .u64 s, .int .i64 p, .int .i64 i, .int .i64 c, .slice da dn dc, .int .i64 cd, .slice ga gn gc]] w fun e w' => e = .returned (.int .i64 30) ∧ Below w.heap.size w w' := by
 have HBX : Hid (∀ u, Below (w.heap.size + 1) (w.alloc (.cells #[.int .i64 2, .int .u64 e, .int .u64 s, .int .i64 p, .int .i64 i, .int .i64 c, .slice da dn dc, .int .i64 cd, .slice ga gn gc] 49 (0, 0))) u → u.rangeAt w.heap.size 0 [.int .i64 2, .int .u64 e, .int .u64 s, .int .i64 p, .int .i64 i, .int .i64 c, .slice da dn dc, .int .i64 cd, .slice ga gn gc]) := fun u hu => range_below (range_box w [.int .i64 2, .int .u64 e, .int .u64 s, .int .i64 p, .int .i64 i, .int .i64 c, .slice da dn dc, .int .i64 cd, .slice ga gn gc] 49) (by rw [heap_alloc_size1']; exact hu)
 have hsf := fun (u : World) (a : Addr) (n : Nat) => run_store Tryz.prog u a (.func (.func n) #[] #[]) .plain rfl
 have hsn := fun (u : World) (a : Addr) => run_store Tryz.prog u a .nilFunc .plain rfl
 have HE : Hid _ := he; clear he; go_enter Tryz.func49, Tryz.ntmps49
 go_wp2_with (first
   | (go_at_call 86; refine (kindOf_t 2 kd2 true (.inr (.inl ⟨rfl, rfl, rfl⟩)) _).mono ?_; rintro e1 w1 ⟨rfl, hb1⟩; have HS1 : Hid (Below (w.heap.size + 1) (w.alloc (.cells #[.int .i64 2, .int .u64 e, .int .u64 s, .int .i64 p, .int .i64 i, .int .i64 c, .slice da dn dc, .int .i64 cd, .slice ga gn gc] 49 (0, 0))) w1) := (by have h9 := hb1; rw [heap_alloc_size1'] at h9; exact h9); have HW1 : Hid (Below w.heap.size w w1) := below_next (al (Below.refl _ w) _) hb1; have hc1 : ∀ o, (w1.alloc o).cell? ⟨w.heap.size, 1, none⟩ = some (.int .u64 e) := (fun o => HBX.out _ (HS1.out.alloc (by have := HS1.out.size; simpa using this) o) 1 _ rfl); have hc2 : ∀ o, (w1.alloc o).cell? ⟨w.heap.size, 2, none⟩ = some (.int .u64 s) := (fun o => HBX.out _ (HS1.out.alloc (by have := HS1.out.size; simpa using this) o) 2 _ rfl); clear hb1)
   | (go_at_call_of 87 (Value.int .u64 e); refine (goodName_b e false ⟨(fun h => by cases h), fun h => absurd h HE.out⟩ _).mono ?_; rintro e2 w2 ⟨rfl, rfl⟩))
 go_ret; exact ⟨rfl, (al HW1.out _)⟩
theorem valid_2s (e s p i c : Int) (da : Option Addr) (dn dc : Nat) (cd : Int) (ga : Option Addr) (gn gc : Nat) (l : List Rg) (w : World) (he : nameOk e) (hs : ¬ nameOk s) : Calls Tryz.prog 49 #[.agg #[.int .i64 2, .int .u64 e, .int .u64 s, .int .i64 p, .int .i64 i, .int .i64 c, .slice da dn dc, .int .i64 cd, .slice ga gn gc]] w fun e w' => e = .returned (.int .i64 30) ∧ Below w.heap.size w w' := by
 have HBX : Hid (∀ u, Below (w.heap.size + 1) (w.alloc (.cells #[.int .i64 2, .int .u64 e, .int .u64 s, .int .i64 p, .int .i64 i, .int .i64 c, .slice da dn dc, .int .i64 cd, .slice ga gn gc] 49 (0, 0))) u → u.rangeAt w.heap.size 0 [.int .i64 2, .int .u64 e, .int .u64 s, .int .i64 p, .int .i64 i, .int .i64 c, .slice da dn dc, .int .i64 cd, .slice ga gn gc]) := fun u hu => range_below (range_box w [.int .i64 2, .int .u64 e, .int .u64 s, .int .i64 p, .int .i64 i, .int .i64 c, .slice da dn dc, .int .i64 cd, .slice ga gn gc] 49) (by rw [heap_alloc_size1']; exact hu)
 have hsf := fun (u : World) (a : Addr) (n : Nat) => run_store Tryz.prog u a (.func (.func n) #[] #[]) .plain rfl
 have hsn := fun (u : World) (a : Addr) => run_store Tryz.prog u a .nilFunc .plain rfl
 have HE : Hid _ := he; have HSN : Hid _ := hs; clear he hs; go_enter Tryz.func49, Tryz.ntmps49
 go_wp2_with (first
   | (go_at_call 86; refine (kindOf_t 2 kd2 true (.inr (.inl ⟨rfl, rfl, rfl⟩)) _).mono ?_; rintro e1 w1 ⟨rfl, hb1⟩; have HS1 : Hid (Below (w.heap.size + 1) (w.alloc (.cells #[.int .i64 2, .int .u64 e, .int .u64 s, .int .i64 p, .int .i64 i, .int .i64 c, .slice da dn dc, .int .i64 cd, .slice ga gn gc] 49 (0, 0))) w1) := (by have h9 := hb1; rw [heap_alloc_size1'] at h9; exact h9); have HW1 : Hid (Below w.heap.size w w1) := below_next (al (Below.refl _ w) _) hb1; have hc1 : ∀ o, (w1.alloc o).cell? ⟨w.heap.size, 1, none⟩ = some (.int .u64 e) := (fun o => HBX.out _ (HS1.out.alloc (by have := HS1.out.size; simpa using this) o) 1 _ rfl); have hc2 : ∀ o, (w1.alloc o).cell? ⟨w.heap.size, 2, none⟩ = some (.int .u64 s) := (fun o => HBX.out _ (HS1.out.alloc (by have := HS1.out.size; simpa using this) o) 2 _ rfl); clear hb1)
   | (go_at_call_of 87 (Value.int .u64 e); refine (goodName_b e true ⟨fun _ => HE.out, fun _ => rfl⟩ _).mono ?_; rintro e2 w2 ⟨rfl, rfl⟩)
   | (go_at_call_of 87 (Value.int .u64 s); refine (goodName_b s false ⟨(fun h => by cases h), fun h => absurd h HSN.out⟩ _).mono ?_; rintro e3 w3 ⟨rfl, rfl⟩))
 go_ret; exact ⟨rfl, (al HW1.out _)⟩
theorem valid_2b (e s p i c : Int) (da : Option Addr) (dn dc : Nat) (cd : Int) (ga : Option Addr) (gn gc : Nat) (l : List Rg) (w : World) (hn : gn = l.length) (hx : RdR w ga l) (hl : gn ≤ 8796093022208) (hc : gn ≤ gc) (he : nameOk e) (hs : nameOk s) (hg : ¬ ((p = 0 ∧ i = 0 ∧ c = 0 ∧ dn = 0) ∧ (0 ≤ cd ∧ cd ≤ 7) ∧ gotOk l ∧ (cd = 0 ∨ gn = 0))) : Calls Tryz.prog 49 #[.agg #[.int .i64 2, .int .u64 e, .int .u64 s, .int .i64 p, .int .i64 i, .int .i64 c, .slice da dn dc, .int .i64 cd, .slice ga gn gc]] w fun e w' => e = .returned (.int .i64 30) ∧ Below w.heap.size w w' := by
 have HBX : Hid (∀ u, Below (w.heap.size + 1) (w.alloc (.cells #[.int .i64 2, .int .u64 e, .int .u64 s, .int .i64 p, .int .i64 i, .int .i64 c, .slice da dn dc, .int .i64 cd, .slice ga gn gc] 49 (0, 0))) u → u.rangeAt w.heap.size 0 [.int .i64 2, .int .u64 e, .int .u64 s, .int .i64 p, .int .i64 i, .int .i64 c, .slice da dn dc, .int .i64 cd, .slice ga gn gc]) := fun u hu => range_below (range_box w [.int .i64 2, .int .u64 e, .int .u64 s, .int .i64 p, .int .i64 i, .int .i64 c, .slice da dn dc, .int .i64 cd, .slice ga gn gc] 49) (by rw [heap_alloc_size1']; exact hu)
 have hsf := fun (u : World) (a : Addr) (n : Nat) => run_store Tryz.prog u a (.func (.func n) #[] #[]) .plain rfl
 have hsn := fun (u : World) (a : Addr) => run_store Tryz.prog u a .nilFunc .plain rfl
 have HXR : Hid (∀ u, Below w.heap.size w u → RdR u ga l) := fun u hu => hx.below hu
 have HGN : Hid (gn = l.length) := hn; have HLC : Hid (gn ≤ 8796093022208 ∧ gn ≤ gc) := ⟨hl, hc⟩; clear hx hn hl hc; have HE : Hid (nameOk e) := he; have HSN : Hid (nameOk s) := hs; have HG : Hid (¬ ((p = 0 ∧ i = 0 ∧ c = 0 ∧ dn = 0) ∧ (0 ≤ cd ∧ cd ≤ 7) ∧ gotOk l ∧ (cd = 0 ∨ gn = 0))) := hg; clear he hs hg; go_enter Tryz.func49, Tryz.ntmps49
 go_wp2_with (first
   | (go_at_call 86; refine (kindOf_t 2 kd2 true (.inr (.inl ⟨rfl, rfl, rfl⟩)) _).mono ?_; rintro e1 w1 ⟨rfl, hb1⟩; have HS1 : Hid (Below (w.heap.size + 1) (w.alloc (.cells #[.int .i64 2, .int .u64 e, .int .u64 s, .int .i64 p, .int .i64 i, .int .i64 c, .slice da dn dc, .int .i64 cd, .slice ga gn gc] 49 (0, 0))) w1) := (by have h9 := hb1; rw [heap_alloc_size1'] at h9; exact h9); have HW1 : Hid (Below w.heap.size w w1) := below_next (al (Below.refl _ w) _) hb1; have hc1 : ∀ o, (w1.alloc o).cell? ⟨w.heap.size, 1, none⟩ = some (.int .u64 e) := (fun o => HBX.out _ (HS1.out.alloc (by have := HS1.out.size; simpa using this) o) 1 _ rfl); have hc2 : ∀ o, (w1.alloc o).cell? ⟨w.heap.size, 2, none⟩ = some (.int .u64 s) := (fun o => HBX.out _ (HS1.out.alloc (by have := HS1.out.size; simpa using this) o) 2 _ rfl); clear hb1)
   | (go_at_call_of 87 (Value.int .u64 e); refine (goodName_b e true ⟨fun _ => HE.out, fun _ => rfl⟩ _).mono ?_; rintro e2 w2 ⟨rfl, rfl⟩)
   | (go_at_call_of 87 (Value.int .u64 s); refine (goodName_b s true ⟨fun _ => HSN.out, fun _ => rfl⟩ _).mono ?_; rintro e3 w3 ⟨rfl, rfl⟩)
   | (refine wpList_load_g (by rfl) 49 _ rfl w.heap.size 0 (by rfl) [.int .i64 2, .int .u64 e, .int .u64 s, .int .i64 p, .int .i64 i, .int .i64 c, .slice da dn dc, .int .i64 cd, .slice ga gn gc] _ (HBX.out _ (HS1.out.alloc (by have := HS1.out.size; simpa using this) _)) Tryz.underlying49 rfl info_un ?_)
   | (go_at_call 150; refine (goodReport_b 2 e s p i c da dn dc cd ga gn gc l false _ HGN.out (HXR.out _ (al HW1.out _)) HLC.out.1 HLC.out.2 ⟨(fun h => by cases h), fun h => absurd h HG.out⟩).mono ?_; rintro e4 w4 ⟨rfl, hb4⟩; have HB4 : Hid (Below w.heap.size w w4) := below_next (al HW1.out _) hb4))
 go_ret; exact ⟨rfl, HB4.out⟩
theorem valid_2g (e s p i c : Int) (da : Option Addr) (dn dc : Nat) (cd : Int) (ga : Option Addr) (gn gc : Nat) (l : List Rg) (w : World) (hn : gn = l.length) (hx : RdR w ga l) (hl : gn ≤ 8796093022208) (hc : gn ≤ gc) (he : nameOk e) (hs : nameOk s) (hg : ((p = 0 ∧ i = 0 ∧ c = 0 ∧ dn = 0) ∧ (0 ≤ cd ∧ cd ≤ 7) ∧ gotOk l ∧ (cd = 0 ∨ gn = 0))) : Calls Tryz.prog 49 #[.agg #[.int .i64 2, .int .u64 e, .int .u64 s, .int .i64 p, .int .i64 i, .int .i64 c, .slice da dn dc, .int .i64 cd, .slice ga gn gc]] w fun e w' => e = .returned (.int .i64 0) ∧ Below w.heap.size w w' := by
 have HBX : Hid (∀ u, Below (w.heap.size + 1) (w.alloc (.cells #[.int .i64 2, .int .u64 e, .int .u64 s, .int .i64 p, .int .i64 i, .int .i64 c, .slice da dn dc, .int .i64 cd, .slice ga gn gc] 49 (0, 0))) u → u.rangeAt w.heap.size 0 [.int .i64 2, .int .u64 e, .int .u64 s, .int .i64 p, .int .i64 i, .int .i64 c, .slice da dn dc, .int .i64 cd, .slice ga gn gc]) := fun u hu => range_below (range_box w [.int .i64 2, .int .u64 e, .int .u64 s, .int .i64 p, .int .i64 i, .int .i64 c, .slice da dn dc, .int .i64 cd, .slice ga gn gc] 49) (by rw [heap_alloc_size1']; exact hu)
 have hsf := fun (u : World) (a : Addr) (n : Nat) => run_store Tryz.prog u a (.func (.func n) #[] #[]) .plain rfl
 have hsn := fun (u : World) (a : Addr) => run_store Tryz.prog u a .nilFunc .plain rfl
 have HXR : Hid (∀ u, Below w.heap.size w u → RdR u ga l) := fun u hu => hx.below hu
 have HGN : Hid (gn = l.length) := hn; have HLC : Hid (gn ≤ 8796093022208 ∧ gn ≤ gc) := ⟨hl, hc⟩; clear hx hn hl hc; have HE : Hid (nameOk e) := he; have HSN : Hid (nameOk s) := hs; have HG : Hid (((p = 0 ∧ i = 0 ∧ c = 0 ∧ dn = 0) ∧ (0 ≤ cd ∧ cd ≤ 7) ∧ gotOk l ∧ (cd = 0 ∨ gn = 0))) := hg; clear he hs hg; go_enter Tryz.func49, Tryz.ntmps49
 go_wp2_with (first
   | (go_at_call 86; refine (kindOf_t 2 kd2 true (.inr (.inl ⟨rfl, rfl, rfl⟩)) _).mono ?_; rintro e1 w1 ⟨rfl, hb1⟩; have HS1 : Hid (Below (w.heap.size + 1) (w.alloc (.cells #[.int .i64 2, .int .u64 e, .int .u64 s, .int .i64 p, .int .i64 i, .int .i64 c, .slice da dn dc, .int .i64 cd, .slice ga gn gc] 49 (0, 0))) w1) := (by have h9 := hb1; rw [heap_alloc_size1'] at h9; exact h9); have HW1 : Hid (Below w.heap.size w w1) := below_next (al (Below.refl _ w) _) hb1; have hc1 : ∀ o, (w1.alloc o).cell? ⟨w.heap.size, 1, none⟩ = some (.int .u64 e) := (fun o => HBX.out _ (HS1.out.alloc (by have := HS1.out.size; simpa using this) o) 1 _ rfl); have hc2 : ∀ o, (w1.alloc o).cell? ⟨w.heap.size, 2, none⟩ = some (.int .u64 s) := (fun o => HBX.out _ (HS1.out.alloc (by have := HS1.out.size; simpa using this) o) 2 _ rfl); clear hb1)
   | (go_at_call_of 87 (Value.int .u64 e); refine (goodName_b e true ⟨fun _ => HE.out, fun _ => rfl⟩ _).mono ?_; rintro e2 w2 ⟨rfl, rfl⟩)
   | (go_at_call_of 87 (Value.int .u64 s); refine (goodName_b s true ⟨fun _ => HSN.out, fun _ => rfl⟩ _).mono ?_; rintro e3 w3 ⟨rfl, rfl⟩)
   | (refine wpList_load_g (by rfl) 49 _ rfl w.heap.size 0 (by rfl) [.int .i64 2, .int .u64 e, .int .u64 s, .int .i64 p, .int .i64 i, .int .i64 c, .slice da dn dc, .int .i64 cd, .slice ga gn gc] _ (HBX.out _ (HS1.out.alloc (by have := HS1.out.size; simpa using this) _)) Tryz.underlying49 rfl info_un ?_)
   | (go_at_call 150; refine (goodReport_b 2 e s p i c da dn dc cd ga gn gc l true _ HGN.out (HXR.out _ (al HW1.out _)) HLC.out.1 HLC.out.2 ⟨fun _ => HG.out, fun _ => rfl⟩).mono ?_; rintro e4 w4 ⟨rfl, hb4⟩; have HB4 : Hid (Below w.heap.size w w4) := below_next (al HW1.out _) hb4))
 go_ret; exact ⟨rfl, HB4.out⟩
theorem valid_3e (e s p i c : Int) (da : Option Addr) (dn dc : Nat) (cd : Int) (ga : Option Addr) (gn gc : Nat) (l : List Rg) (w : World) (he : ¬ nameOk e) : Calls Tryz.prog 49 #[.agg #[.int .i64 3, .int .u64 e, .int .u64 s, .int .i64 p, .int .i64 i, .int .i64 c, .slice da dn dc, .int .i64 cd, .slice ga gn gc]] w fun e w' => e = .returned (.int .i64 30) ∧ Below w.heap.size w w' := by
 have HBX : Hid (∀ u, Below (w.heap.size + 1) (w.alloc (.cells #[.int .i64 3, .int .u64 e, .int .u64 s, .int .i64 p, .int .i64 i, .int .i64 c, .slice da dn dc, .int .i64 cd, .slice ga gn gc] 49 (0, 0))) u → u.rangeAt w.heap.size 0 [.int .i64 3, .int .u64 e, .int .u64 s, .int .i64 p, .int .i64 i, .int .i64 c, .slice da dn dc, .int .i64 cd, .slice ga gn gc]) := fun u hu => range_below (range_box w [.int .i64 3, .int .u64 e, .int .u64 s, .int .i64 p, .int .i64 i, .int .i64 c, .slice da dn dc, .int .i64 cd, .slice ga gn gc] 49) (by rw [heap_alloc_size1']; exact hu)
 have hsf := fun (u : World) (a : Addr) (n : Nat) => run_store Tryz.prog u a (.func (.func n) #[] #[]) .plain rfl
 have hsn := fun (u : World) (a : Addr) => run_store Tryz.prog u a .nilFunc .plain rfl
 have HE : Hid _ := he; clear he; go_enter Tryz.func49, Tryz.ntmps49
 go_wp2_with (first
   | (go_at_call 86; refine (kindOf_t 3 kd3 true (.inr (.inr (.inl ⟨rfl, rfl, rfl⟩))) _).mono ?_; rintro e1 w1 ⟨rfl, hb1⟩; have HS1 : Hid (Below (w.heap.size + 1) (w.alloc (.cells #[.int .i64 3, .int .u64 e, .int .u64 s, .int .i64 p, .int .i64 i, .int .i64 c, .slice da dn dc, .int .i64 cd, .slice ga gn gc] 49 (0, 0))) w1) := (by have h9 := hb1; rw [heap_alloc_size1'] at h9; exact h9); have HW1 : Hid (Below w.heap.size w w1) := below_next (al (Below.refl _ w) _) hb1; have hc1 : ∀ o, (w1.alloc o).cell? ⟨w.heap.size, 1, none⟩ = some (.int .u64 e) := (fun o => HBX.out _ (HS1.out.alloc (by have := HS1.out.size; simpa using this) o) 1 _ rfl); have hc2 : ∀ o, (w1.alloc o).cell? ⟨w.heap.size, 2, none⟩ = some (.int .u64 s) := (fun o => HBX.out _ (HS1.out.alloc (by have := HS1.out.size; simpa using this) o) 2 _ rfl); clear hb1)
   | (go_at_call_of 87 (Value.int .u64 e); refine (goodName_b e false ⟨(fun h => by cases h), fun h => absurd h HE.out⟩ _).mono ?_; rintro e2 w2 ⟨rfl, rfl⟩))
 go_ret; exact ⟨rfl, (al HW1.out _)⟩
theorem valid_3s (e s p i c : Int) (da : Option Addr) (dn dc : Nat) (cd : Int) (ga : Option Addr) (gn gc : Nat) (l : List Rg) (w : World) (he : nameOk e) (hs : ¬ nameOk s) : Calls Tryz.prog 49 #[.agg #[.int .i64 3, .int .u64 e, .int .u64 s, .int .i64 p, .int .i64 i, .int .i64 c, .slice da dn dc, .int .i64 cd, .slice ga gn gc]] w fun e w' => e = .returned (.int .i64 30) ∧ Below w.heap.size w w' := by
 have HBX : Hid (∀ u, Below (w.heap.size + 1) (w.alloc (.cells #[.int .i64 3, .int .u64 e, .int .u64 s, .int .i64 p, .int .i64 i, .int .i64 c, .slice da dn dc, .int .i64 cd, .slice ga gn gc] 49 (0, 0))) u → u.rangeAt w.heap.size 0 [.int .i64 3, .int .u64 e, .int .u64 s, .int .i64 p, .int .i64 i, .int .i64 c, .slice da dn dc, .int .i64 cd, .slice ga gn gc]) := fun u hu => range_below (range_box w [.int .i64 3, .int .u64 e, .int .u64 s, .int .i64 p, .int .i64 i, .int .i64 c, .slice da dn dc, .int .i64 cd, .slice ga gn gc] 49) (by rw [heap_alloc_size1']; exact hu)
 have hsf := fun (u : World) (a : Addr) (n : Nat) => run_store Tryz.prog u a (.func (.func n) #[] #[]) .plain rfl
 have hsn := fun (u : World) (a : Addr) => run_store Tryz.prog u a .nilFunc .plain rfl
 have HE : Hid _ := he; have HSN : Hid _ := hs; clear he hs; go_enter Tryz.func49, Tryz.ntmps49
 go_wp2_with (first
   | (go_at_call 86; refine (kindOf_t 3 kd3 true (.inr (.inr (.inl ⟨rfl, rfl, rfl⟩))) _).mono ?_; rintro e1 w1 ⟨rfl, hb1⟩; have HS1 : Hid (Below (w.heap.size + 1) (w.alloc (.cells #[.int .i64 3, .int .u64 e, .int .u64 s, .int .i64 p, .int .i64 i, .int .i64 c, .slice da dn dc, .int .i64 cd, .slice ga gn gc] 49 (0, 0))) w1) := (by have h9 := hb1; rw [heap_alloc_size1'] at h9; exact h9); have HW1 : Hid (Below w.heap.size w w1) := below_next (al (Below.refl _ w) _) hb1; have hc1 : ∀ o, (w1.alloc o).cell? ⟨w.heap.size, 1, none⟩ = some (.int .u64 e) := (fun o => HBX.out _ (HS1.out.alloc (by have := HS1.out.size; simpa using this) o) 1 _ rfl); have hc2 : ∀ o, (w1.alloc o).cell? ⟨w.heap.size, 2, none⟩ = some (.int .u64 s) := (fun o => HBX.out _ (HS1.out.alloc (by have := HS1.out.size; simpa using this) o) 2 _ rfl); clear hb1)
   | (go_at_call_of 87 (Value.int .u64 e); refine (goodName_b e true ⟨fun _ => HE.out, fun _ => rfl⟩ _).mono ?_; rintro e2 w2 ⟨rfl, rfl⟩)
   | (go_at_call_of 87 (Value.int .u64 s); refine (goodName_b s false ⟨(fun h => by cases h), fun h => absurd h HSN.out⟩ _).mono ?_; rintro e3 w3 ⟨rfl, rfl⟩))
 go_ret; exact ⟨rfl, (al HW1.out _)⟩
theorem valid_3b (e s p i c : Int) (da : Option Addr) (dn dc : Nat) (cd : Int) (ga : Option Addr) (gn gc : Nat) (l : List Rg) (w : World) (he : nameOk e) (hs : nameOk s) (hg : ¬ ((p = 0 ∧ i = 0 ∧ c = 0 ∧ dn = 0) ∧ (cd = 0 ∧ gn = 0))) : Calls Tryz.prog 49 #[.agg #[.int .i64 3, .int .u64 e, .int .u64 s, .int .i64 p, .int .i64 i, .int .i64 c, .slice da dn dc, .int .i64 cd, .slice ga gn gc]] w fun e w' => e = .returned (.int .i64 30) ∧ Below w.heap.size w w' := by
 have HBX : Hid (∀ u, Below (w.heap.size + 1) (w.alloc (.cells #[.int .i64 3, .int .u64 e, .int .u64 s, .int .i64 p, .int .i64 i, .int .i64 c, .slice da dn dc, .int .i64 cd, .slice ga gn gc] 49 (0, 0))) u → u.rangeAt w.heap.size 0 [.int .i64 3, .int .u64 e, .int .u64 s, .int .i64 p, .int .i64 i, .int .i64 c, .slice da dn dc, .int .i64 cd, .slice ga gn gc]) := fun u hu => range_below (range_box w [.int .i64 3, .int .u64 e, .int .u64 s, .int .i64 p, .int .i64 i, .int .i64 c, .slice da dn dc, .int .i64 cd, .slice ga gn gc] 49) (by rw [heap_alloc_size1']; exact hu)
 have hsf := fun (u : World) (a : Addr) (n : Nat) => run_store Tryz.prog u a (.func (.func n) #[] #[]) .plain rfl
 have hsn := fun (u : World) (a : Addr) => run_store Tryz.prog u a .nilFunc .plain rfl
 have HE : Hid (nameOk e) := he; have HSN : Hid (nameOk s) := hs; have HG : Hid (¬ ((p = 0 ∧ i = 0 ∧ c = 0 ∧ dn = 0) ∧ (cd = 0 ∧ gn = 0))) := hg; clear he hs hg; go_enter Tryz.func49, Tryz.ntmps49
 go_wp2_with (first
   | (go_at_call 86; refine (kindOf_t 3 kd3 true (.inr (.inr (.inl ⟨rfl, rfl, rfl⟩))) _).mono ?_; rintro e1 w1 ⟨rfl, hb1⟩; have HS1 : Hid (Below (w.heap.size + 1) (w.alloc (.cells #[.int .i64 3, .int .u64 e, .int .u64 s, .int .i64 p, .int .i64 i, .int .i64 c, .slice da dn dc, .int .i64 cd, .slice ga gn gc] 49 (0, 0))) w1) := (by have h9 := hb1; rw [heap_alloc_size1'] at h9; exact h9); have HW1 : Hid (Below w.heap.size w w1) := below_next (al (Below.refl _ w) _) hb1; have hc1 : ∀ o, (w1.alloc o).cell? ⟨w.heap.size, 1, none⟩ = some (.int .u64 e) := (fun o => HBX.out _ (HS1.out.alloc (by have := HS1.out.size; simpa using this) o) 1 _ rfl); have hc2 : ∀ o, (w1.alloc o).cell? ⟨w.heap.size, 2, none⟩ = some (.int .u64 s) := (fun o => HBX.out _ (HS1.out.alloc (by have := HS1.out.size; simpa using this) o) 2 _ rfl); clear hb1)
   | (go_at_call_of 87 (Value.int .u64 e); refine (goodName_b e true ⟨fun _ => HE.out, fun _ => rfl⟩ _).mono ?_; rintro e2 w2 ⟨rfl, rfl⟩)
   | (go_at_call_of 87 (Value.int .u64 s); refine (goodName_b s true ⟨fun _ => HSN.out, fun _ => rfl⟩ _).mono ?_; rintro e3 w3 ⟨rfl, rfl⟩)
   | (refine wpList_load_g (by rfl) 49 _ rfl w.heap.size 0 (by rfl) [.int .i64 3, .int .u64 e, .int .u64 s, .int .i64 p, .int .i64 i, .int .i64 c, .slice da dn dc, .int .i64 cd, .slice ga gn gc] _ (HBX.out _ (HS1.out.alloc (by have := HS1.out.size; simpa using this) _)) Tryz.underlying49 rfl info_un ?_)
   | (go_at_call 153; refine (goodCancel_b 3 e s p i c da dn dc cd ga gn gc false _ ⟨(fun h => by cases h), fun h => absurd h HG.out⟩).mono ?_; rintro e4 w4 ⟨rfl, hb4⟩; have HB4 : Hid (Below w.heap.size w w4) := below_next (al HW1.out _) hb4))
 go_ret; exact ⟨rfl, HB4.out⟩
theorem valid_3g (e s p i c : Int) (da : Option Addr) (dn dc : Nat) (cd : Int) (ga : Option Addr) (gn gc : Nat) (l : List Rg) (w : World) (he : nameOk e) (hs : nameOk s) (hg : ((p = 0 ∧ i = 0 ∧ c = 0 ∧ dn = 0) ∧ (cd = 0 ∧ gn = 0))) : Calls Tryz.prog 49 #[.agg #[.int .i64 3, .int .u64 e, .int .u64 s, .int .i64 p, .int .i64 i, .int .i64 c, .slice da dn dc, .int .i64 cd, .slice ga gn gc]] w fun e w' => e = .returned (.int .i64 0) ∧ Below w.heap.size w w' := by
 have HBX : Hid (∀ u, Below (w.heap.size + 1) (w.alloc (.cells #[.int .i64 3, .int .u64 e, .int .u64 s, .int .i64 p, .int .i64 i, .int .i64 c, .slice da dn dc, .int .i64 cd, .slice ga gn gc] 49 (0, 0))) u → u.rangeAt w.heap.size 0 [.int .i64 3, .int .u64 e, .int .u64 s, .int .i64 p, .int .i64 i, .int .i64 c, .slice da dn dc, .int .i64 cd, .slice ga gn gc]) := fun u hu => range_below (range_box w [.int .i64 3, .int .u64 e, .int .u64 s, .int .i64 p, .int .i64 i, .int .i64 c, .slice da dn dc, .int .i64 cd, .slice ga gn gc] 49) (by rw [heap_alloc_size1']; exact hu)
 have hsf := fun (u : World) (a : Addr) (n : Nat) => run_store Tryz.prog u a (.func (.func n) #[] #[]) .plain rfl
 have hsn := fun (u : World) (a : Addr) => run_store Tryz.prog u a .nilFunc .plain rfl
 have HE : Hid (nameOk e) := he; have HSN : Hid (nameOk s) := hs; have HG : Hid (((p = 0 ∧ i = 0 ∧ c = 0 ∧ dn = 0) ∧ (cd = 0 ∧ gn = 0))) := hg; clear he hs hg; go_enter Tryz.func49, Tryz.ntmps49
 go_wp2_with (first
   | (go_at_call 86; refine (kindOf_t 3 kd3 true (.inr (.inr (.inl ⟨rfl, rfl, rfl⟩))) _).mono ?_; rintro e1 w1 ⟨rfl, hb1⟩; have HS1 : Hid (Below (w.heap.size + 1) (w.alloc (.cells #[.int .i64 3, .int .u64 e, .int .u64 s, .int .i64 p, .int .i64 i, .int .i64 c, .slice da dn dc, .int .i64 cd, .slice ga gn gc] 49 (0, 0))) w1) := (by have h9 := hb1; rw [heap_alloc_size1'] at h9; exact h9); have HW1 : Hid (Below w.heap.size w w1) := below_next (al (Below.refl _ w) _) hb1; have hc1 : ∀ o, (w1.alloc o).cell? ⟨w.heap.size, 1, none⟩ = some (.int .u64 e) := (fun o => HBX.out _ (HS1.out.alloc (by have := HS1.out.size; simpa using this) o) 1 _ rfl); have hc2 : ∀ o, (w1.alloc o).cell? ⟨w.heap.size, 2, none⟩ = some (.int .u64 s) := (fun o => HBX.out _ (HS1.out.alloc (by have := HS1.out.size; simpa using this) o) 2 _ rfl); clear hb1)
   | (go_at_call_of 87 (Value.int .u64 e); refine (goodName_b e true ⟨fun _ => HE.out, fun _ => rfl⟩ _).mono ?_; rintro e2 w2 ⟨rfl, rfl⟩)
   | (go_at_call_of 87 (Value.int .u64 s); refine (goodName_b s true ⟨fun _ => HSN.out, fun _ => rfl⟩ _).mono ?_; rintro e3 w3 ⟨rfl, rfl⟩)
   | (refine wpList_load_g (by rfl) 49 _ rfl w.heap.size 0 (by rfl) [.int .i64 3, .int .u64 e, .int .u64 s, .int .i64 p, .int .i64 i, .int .i64 c, .slice da dn dc, .int .i64 cd, .slice ga gn gc] _ (HBX.out _ (HS1.out.alloc (by have := HS1.out.size; simpa using this) _)) Tryz.underlying49 rfl info_un ?_)
   | (go_at_call 153; refine (goodCancel_b 3 e s p i c da dn dc cd ga gn gc true _ ⟨fun _ => HG.out, fun _ => rfl⟩).mono ?_; rintro e4 w4 ⟨rfl, hb4⟩; have HB4 : Hid (Below w.heap.size w w4) := below_next (al HW1.out _) hb4))
 go_ret; exact ⟨rfl, HB4.out⟩
end
end Go.Proofs.YtpakkpahcpgnnaaGreatDoor
