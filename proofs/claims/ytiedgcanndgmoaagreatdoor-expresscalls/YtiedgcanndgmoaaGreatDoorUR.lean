import Derived.Test.YtiedgcanndgmoaaGreatDoorUT
namespace Go.Proofs.YtiedgcanndgmoaaGreatDoor
set_option linter.unusedVariables false
set_option linter.unusedSimpArgs false
open Go.RowKit
section
set_option maxRecDepth 20000
set_option maxHeartbeats 12800000
theorem goodReport_b (k e s p i c : Int) (da : Option Addr) (dn dc : Nat) (cd : Int) (ga : Option Addr) (gn gc : Nat) (l : List Rg) (b : Bool) (w : World) (hn : gn = l.length) (hx : RdR w ga l) (hl : gn ≤ 8796093022208) (hc : gn ≤ gc) (hb : b = true ↔ ((p = 0 ∧ i = 0 ∧ c = 0 ∧ dn = 0) ∧ (0 ≤ cd ∧ cd ≤ 7) ∧ gotOk l ∧ (cd = 0 ∨ gn = 0))) : Calls Tryz.prog 82 #[.agg #[.int .i64 k, .int .u64 e, .int .u64 s, .int .i64 p, .int .i64 i, .int .i64 c, .slice da dn dc, .int .i64 cd, .slice ga gn gc]] w fun e w' => e = .returned (.bool b) ∧ Below w.heap.size w w' := by
  have HBX : Hid (∀ u, Below (w.heap.size + 1) (w.alloc (.cells #[.int .i64 k, .int .u64 e, .int .u64 s, .int .i64 p, .int .i64 i, .int .i64 c, .slice da dn dc, .int .i64 cd, .slice ga gn gc] 41 (0, 0))) u → u.rangeAt w.heap.size 0 [.int .i64 k, .int .u64 e, .int .u64 s, .int .i64 p, .int .i64 i, .int .i64 c, .slice da dn dc, .int .i64 cd, .slice ga gn gc]) := fun u hu => range_below (range_box w [.int .i64 k, .int .u64 e, .int .u64 s, .int .i64 p, .int .i64 i, .int .i64 c, .slice da dn dc, .int .i64 cd, .slice ga gn gc] 41) (by rw [heap_alloc_size1']; exact hu)
  have HXR : Hid (∀ u, Below w.heap.size w u → RdR u ga l) := fun u hu => hx.below hu
  have HN : Hid (gn = l.length) := hn
  have HL : Hid (gn ≤ 8796093022208 ∧ gn ≤ gc) := ⟨hl, hc⟩
  have HS : Hid (Below (w.heap.size + 1) (w.alloc (.cells #[.int .i64 k, .int .u64 e, .int .u64 s, .int .i64 p, .int .i64 i, .int .i64 c, .slice da dn dc, .int .i64 cd, .slice ga gn gc] 41 (0, 0))) (w.alloc (.cells #[.int .i64 k, .int .u64 e, .int .u64 s, .int .i64 p, .int .i64 i, .int .i64 c, .slice da dn dc, .int .i64 cd, .slice ga gn gc] 41 (0, 0)))) := Below.refl _ _
  clear hx hn hl hc
  by_cases h0 : (p = 0 ∧ i = 0 ∧ c = 0 ∧ dn = 0)
  · skip
    by_cases h1 : (0 ≤ cd ∧ cd ≤ 7)
    · skip
      by_cases h2 : gotOk l
      · skip
        by_cases h3 : cd = 0
        · obtain rfl : b = true := bT hb ⟨h0, h1, h2, .inl h3⟩
          have hd3 : (cd == 0) = true := by simpa using h3
          clear h3
          have H0 : Hid _ := h0
          have H1 : Hid _ := h1
          have H2 : Hid _ := h2
          clear hb h0 h1 h2
          go_enter Tryz.func82, Tryz.ntmps82
          go_wp2_with (refine wpList_load_g (by rfl) 41 _ rfl w.heap.size 0 (by rfl) [.int .i64 k, .int .u64 e, .int .u64 s, .int .i64 p, .int .i64 i, .int .i64 c, .slice da dn dc, .int .i64 cd, .slice ga gn gc] _ (HBX.out _ HS.out) Tryz.underlying41 rfl info_un ?_)
          (refine (dataless_b k e s p i c da dn dc cd ga gn gc true ⟨fun _ => H0.out, fun _ => rfl⟩ _).mono ?_; rintro e w0 ⟨rfl, hb0⟩; have HB0 : Hid (Below w.heap.size w w0) := below_next (al (Below.refl _ w) _) hb0; have HS0 : Hid (Below (w.heap.size + 1) (w.alloc (.cells #[.int .i64 k, .int .u64 e, .int .u64 s, .int .i64 p, .int .i64 i, .int .i64 c, .slice da dn dc, .int .i64 cd, .slice ga gn gc] 41 (0, 0))) w0) := (by have h9 := hb0; rw [heap_alloc_size1'] at h9; exact h9); have hc7 : w0.cell? ⟨w.heap.size, 7, none⟩ = some (.int .i64 cd) := HBX.out w0 HS0.out 7 _ rfl; have hc8 : w0.cell? ⟨w.heap.size, 8, none⟩ = some (.slice ga gn gc) := HBX.out w0 HS0.out 8 _ rfl)
          clear hb0
          go_wp2_with (first
            | (go_at_call 112; refine (goodCode_b cd true ⟨fun _ => H1.out, fun _ => rfl⟩ _).mono ?_; rintro e w1 ⟨rfl, rfl⟩)
            | (go_at_call 113; refine (goodGot_b ga gn gc l true ⟨fun _ => H2.out, fun _ => rfl⟩ _ HN.out (HXR.out _ HB0.out) HL.out.1 HL.out.2).mono ?_; rintro e w2 ⟨rfl, hb2⟩; have HB2 : Hid (Below w.heap.size w w2) := below_next HB0.out hb2; have HS2 : Hid (Below (w.heap.size + 1) (w.alloc (.cells #[.int .i64 k, .int .u64 e, .int .u64 s, .int .i64 p, .int .i64 i, .int .i64 c, .slice da dn dc, .int .i64 cd, .slice ga gn gc] 41 (0, 0))) w2) := HS0.out.trans (hb2.mono (by have h9 := HS0.out.size; rw [heap_alloc_size1'] at h9; exact h9)); have hc72 : w2.cell? ⟨w.heap.size, 7, none⟩ = some (.int .i64 cd) := HBX.out w2 HS2.out 7 _ rfl; have hc82 : w2.cell? ⟨w.heap.size, 8, none⟩ = some (.slice ga gn gc) := HBX.out w2 HS2.out 8 _ rfl))
          go_ret
          exact ⟨by first | rfl | (simp; done) | (simp; omega) | simp_all, HB2.out⟩
        · by_cases h4 : gn = 0
          · obtain rfl : b = true := bT hb ⟨h0, h1, h2, .inr h4⟩
            have hd3 : (cd == 0) = false := by simpa using h3
            have hd4 : ((gn : Int) == 0) = true := by simpa using h4
            clear h3 h4
            have H0 : Hid _ := h0
            have H1 : Hid _ := h1
            have H2 : Hid _ := h2
            clear hb h0 h1 h2
            go_enter Tryz.func82, Tryz.ntmps82
            go_wp2_with (refine wpList_load_g (by rfl) 41 _ rfl w.heap.size 0 (by rfl) [.int .i64 k, .int .u64 e, .int .u64 s, .int .i64 p, .int .i64 i, .int .i64 c, .slice da dn dc, .int .i64 cd, .slice ga gn gc] _ (HBX.out _ HS.out) Tryz.underlying41 rfl info_un ?_)
            (refine (dataless_b k e s p i c da dn dc cd ga gn gc true ⟨fun _ => H0.out, fun _ => rfl⟩ _).mono ?_; rintro e w0 ⟨rfl, hb0⟩; have HB0 : Hid (Below w.heap.size w w0) := below_next (al (Below.refl _ w) _) hb0; have HS0 : Hid (Below (w.heap.size + 1) (w.alloc (.cells #[.int .i64 k, .int .u64 e, .int .u64 s, .int .i64 p, .int .i64 i, .int .i64 c, .slice da dn dc, .int .i64 cd, .slice ga gn gc] 41 (0, 0))) w0) := (by have h9 := hb0; rw [heap_alloc_size1'] at h9; exact h9); have hc7 : w0.cell? ⟨w.heap.size, 7, none⟩ = some (.int .i64 cd) := HBX.out w0 HS0.out 7 _ rfl; have hc8 : w0.cell? ⟨w.heap.size, 8, none⟩ = some (.slice ga gn gc) := HBX.out w0 HS0.out 8 _ rfl)
            clear hb0
            go_wp2_with (first
              | (go_at_call 112; refine (goodCode_b cd true ⟨fun _ => H1.out, fun _ => rfl⟩ _).mono ?_; rintro e w1 ⟨rfl, rfl⟩)
              | (go_at_call 113; refine (goodGot_b ga gn gc l true ⟨fun _ => H2.out, fun _ => rfl⟩ _ HN.out (HXR.out _ HB0.out) HL.out.1 HL.out.2).mono ?_; rintro e w2 ⟨rfl, hb2⟩; have HB2 : Hid (Below w.heap.size w w2) := below_next HB0.out hb2; have HS2 : Hid (Below (w.heap.size + 1) (w.alloc (.cells #[.int .i64 k, .int .u64 e, .int .u64 s, .int .i64 p, .int .i64 i, .int .i64 c, .slice da dn dc, .int .i64 cd, .slice ga gn gc] 41 (0, 0))) w2) := HS0.out.trans (hb2.mono (by have h9 := HS0.out.size; rw [heap_alloc_size1'] at h9; exact h9)); have hc72 : w2.cell? ⟨w.heap.size, 7, none⟩ = some (.int .i64 cd) := HBX.out w2 HS2.out 7 _ rfl; have hc82 : w2.cell? ⟨w.heap.size, 8, none⟩ = some (.slice ga gn gc) := HBX.out w2 HS2.out 8 _ rfl))
            go_ret
            exact ⟨by first | rfl | (simp; done) | (simp; omega) | simp_all, HB2.out⟩
          · obtain rfl : b = false := bF hb (fun h => by have := h.2.2.2; omega)
            have hd3 : (cd == 0) = false := by simpa using h3
            have hd4 : ((gn : Int) == 0) = false := by simpa using h4
            clear h3 h4
            have H0 : Hid _ := h0
            have H1 : Hid _ := h1
            have H2 : Hid _ := h2
            clear hb h0 h1 h2
            go_enter Tryz.func82, Tryz.ntmps82
            go_wp2_with (refine wpList_load_g (by rfl) 41 _ rfl w.heap.size 0 (by rfl) [.int .i64 k, .int .u64 e, .int .u64 s, .int .i64 p, .int .i64 i, .int .i64 c, .slice da dn dc, .int .i64 cd, .slice ga gn gc] _ (HBX.out _ HS.out) Tryz.underlying41 rfl info_un ?_)
            (refine (dataless_b k e s p i c da dn dc cd ga gn gc true ⟨fun _ => H0.out, fun _ => rfl⟩ _).mono ?_; rintro e w0 ⟨rfl, hb0⟩; have HB0 : Hid (Below w.heap.size w w0) := below_next (al (Below.refl _ w) _) hb0; have HS0 : Hid (Below (w.heap.size + 1) (w.alloc (.cells #[.int .i64 k, .int .u64 e, .int .u64 s, .int .i64 p, .int .i64 i, .int .i64 c, .slice da dn dc, .int .i64 cd, .slice ga gn gc] 41 (0, 0))) w0) := (by have h9 := hb0; rw [heap_alloc_size1'] at h9; exact h9); have hc7 : w0.cell? ⟨w.heap.size, 7, none⟩ = some (.int .i64 cd) := HBX.out w0 HS0.out 7 _ rfl; have hc8 : w0.cell? ⟨w.heap.size, 8, none⟩ = some (.slice ga gn gc) := HBX.out w0 HS0.out 8 _ rfl)
            clear hb0
            go_wp2_with (first
              | (go_at_call 112; refine (goodCode_b cd true ⟨fun _ => H1.out, fun _ => rfl⟩ _).mono ?_; rintro e w1 ⟨rfl, rfl⟩)
              | (go_at_call 113; refine (goodGot_b ga gn gc l true ⟨fun _ => H2.out, fun _ => rfl⟩ _ HN.out (HXR.out _ HB0.out) HL.out.1 HL.out.2).mono ?_; rintro e w2 ⟨rfl, hb2⟩; have HB2 : Hid (Below w.heap.size w w2) := below_next HB0.out hb2; have HS2 : Hid (Below (w.heap.size + 1) (w.alloc (.cells #[.int .i64 k, .int .u64 e, .int .u64 s, .int .i64 p, .int .i64 i, .int .i64 c, .slice da dn dc, .int .i64 cd, .slice ga gn gc] 41 (0, 0))) w2) := HS0.out.trans (hb2.mono (by have h9 := HS0.out.size; rw [heap_alloc_size1'] at h9; exact h9)); have hc72 : w2.cell? ⟨w.heap.size, 7, none⟩ = some (.int .i64 cd) := HBX.out w2 HS2.out 7 _ rfl; have hc82 : w2.cell? ⟨w.heap.size, 8, none⟩ = some (.slice ga gn gc) := HBX.out w2 HS2.out 8 _ rfl))
            go_ret
            exact ⟨by first | rfl | (simp; done) | (simp; omega) | simp_all, HB2.out⟩
      · obtain rfl : b = false := bF hb (fun h => h2 h.2.2.1)
        have H0 : Hid _ := h0
        have H1 : Hid _ := h1
        have H2 : Hid _ := h2
        clear hb h0 h1 h2
        go_enter Tryz.func82, Tryz.ntmps82
        go_wp2_with (refine wpList_load_g (by rfl) 41 _ rfl w.heap.size 0 (by rfl) [.int .i64 k, .int .u64 e, .int .u64 s, .int .i64 p, .int .i64 i, .int .i64 c, .slice da dn dc, .int .i64 cd, .slice ga gn gc] _ (HBX.out _ HS.out) Tryz.underlying41 rfl info_un ?_)
        (refine (dataless_b k e s p i c da dn dc cd ga gn gc true ⟨fun _ => H0.out, fun _ => rfl⟩ _).mono ?_; rintro e w0 ⟨rfl, hb0⟩; have HB0 : Hid (Below w.heap.size w w0) := below_next (al (Below.refl _ w) _) hb0; have HS0 : Hid (Below (w.heap.size + 1) (w.alloc (.cells #[.int .i64 k, .int .u64 e, .int .u64 s, .int .i64 p, .int .i64 i, .int .i64 c, .slice da dn dc, .int .i64 cd, .slice ga gn gc] 41 (0, 0))) w0) := (by have h9 := hb0; rw [heap_alloc_size1'] at h9; exact h9); have hc7 : w0.cell? ⟨w.heap.size, 7, none⟩ = some (.int .i64 cd) := HBX.out w0 HS0.out 7 _ rfl; have hc8 : w0.cell? ⟨w.heap.size, 8, none⟩ = some (.slice ga gn gc) := HBX.out w0 HS0.out 8 _ rfl)
        clear hb0
        go_wp2_with (first
          | (go_at_call 112; refine (goodCode_b cd true ⟨fun _ => H1.out, fun _ => rfl⟩ _).mono ?_; rintro e w1 ⟨rfl, rfl⟩)
          | (go_at_call 113; refine (goodGot_b ga gn gc l false ⟨(fun h => by cases h), fun h => absurd h H2.out⟩ _ HN.out (HXR.out _ HB0.out) HL.out.1 HL.out.2).mono ?_; rintro e w2 ⟨rfl, hb2⟩; have HB2 : Hid (Below w.heap.size w w2) := below_next HB0.out hb2; have HS2 : Hid (Below (w.heap.size + 1) (w.alloc (.cells #[.int .i64 k, .int .u64 e, .int .u64 s, .int .i64 p, .int .i64 i, .int .i64 c, .slice da dn dc, .int .i64 cd, .slice ga gn gc] 41 (0, 0))) w2) := HS0.out.trans (hb2.mono (by have h9 := HS0.out.size; rw [heap_alloc_size1'] at h9; exact h9)); have hc72 : w2.cell? ⟨w.heap.size, 7, none⟩ = some (.int .i64 cd) := HBX.out w2 HS2.out 7 _ rfl; have hc82 : w2.cell? ⟨w.heap.size, 8, none⟩ = some (.slice ga gn gc) := HBX.out w2 HS2.out 8 _ rfl))
        go_ret
        exact ⟨by first | rfl | (simp; done) | (simp; omega) | simp_all, HB2.out⟩
    · obtain rfl : b = false := bF hb (fun h => h1 h.2.1)
      have H0 : Hid _ := h0
      have H1 : Hid _ := h1
      clear hb h0 h1
      go_enter Tryz.func82, Tryz.ntmps82
      go_wp2_with (refine wpList_load_g (by rfl) 41 _ rfl w.heap.size 0 (by rfl) [.int .i64 k, .int .u64 e, .int .u64 s, .int .i64 p, .int .i64 i, .int .i64 c, .slice da dn dc, .int .i64 cd, .slice ga gn gc] _ (HBX.out _ HS.out) Tryz.underlying41 rfl info_un ?_)
      (refine (dataless_b k e s p i c da dn dc cd ga gn gc true ⟨fun _ => H0.out, fun _ => rfl⟩ _).mono ?_; rintro e w0 ⟨rfl, hb0⟩; have HB0 : Hid (Below w.heap.size w w0) := below_next (al (Below.refl _ w) _) hb0; have HS0 : Hid (Below (w.heap.size + 1) (w.alloc (.cells #[.int .i64 k, .int .u64 e, .int .u64 s, .int .i64 p, .int .i64 i, .int .i64 c, .slice da dn dc, .int .i64 cd, .slice ga gn gc] 41 (0, 0))) w0) := (by have h9 := hb0; rw [heap_alloc_size1'] at h9; exact h9); have hc7 : w0.cell? ⟨w.heap.size, 7, none⟩ = some (.int .i64 cd) := HBX.out w0 HS0.out 7 _ rfl; have hc8 : w0.cell? ⟨w.heap.size, 8, none⟩ = some (.slice ga gn gc) := HBX.out w0 HS0.out 8 _ rfl)
      clear hb0
      go_wp2_with (first
        | (go_at_call 112; refine (goodCode_b cd false ⟨(fun h => by cases h), fun h => absurd h H1.out⟩ _).mono ?_; rintro e w1 ⟨rfl, rfl⟩))
      go_ret
      exact ⟨by first | rfl | (simp; done) | (simp; omega) | simp_all, HB0.out⟩
  · obtain rfl : b = false := bF hb (fun h => h0 h.1)
    have H0 : Hid _ := h0
    clear hb h0
    go_enter Tryz.func82, Tryz.ntmps82
    go_wp2_with (refine wpList_load_g (by rfl) 41 _ rfl w.heap.size 0 (by rfl) [.int .i64 k, .int .u64 e, .int .u64 s, .int .i64 p, .int .i64 i, .int .i64 c, .slice da dn dc, .int .i64 cd, .slice ga gn gc] _ (HBX.out _ HS.out) Tryz.underlying41 rfl info_un ?_)
    (refine (dataless_b k e s p i c da dn dc cd ga gn gc false ⟨(fun h => by cases h), fun h => absurd h H0.out⟩ _).mono ?_; rintro e w0 ⟨rfl, hb0⟩; have HB0 : Hid (Below w.heap.size w w0) := below_next (al (Below.refl _ w) _) hb0; have HS0 : Hid (Below (w.heap.size + 1) (w.alloc (.cells #[.int .i64 k, .int .u64 e, .int .u64 s, .int .i64 p, .int .i64 i, .int .i64 c, .slice da dn dc, .int .i64 cd, .slice ga gn gc] 41 (0, 0))) w0) := (by have h9 := hb0; rw [heap_alloc_size1'] at h9; exact h9); have hc7 : w0.cell? ⟨w.heap.size, 7, none⟩ = some (.int .i64 cd) := HBX.out w0 HS0.out 7 _ rfl; have hc8 : w0.cell? ⟨w.heap.size, 8, none⟩ = some (.slice ga gn gc) := HBX.out w0 HS0.out 8 _ rfl)
    clear hb0
    go_wp2
    go_ret
    exact ⟨by first | rfl | (simp; done) | (simp; omega) | simp_all, HB0.out⟩
end
end Go.Proofs.YtiedgcanndgmoaaGreatDoor
