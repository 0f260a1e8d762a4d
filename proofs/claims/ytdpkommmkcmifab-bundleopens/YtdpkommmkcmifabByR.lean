import Derived.Test.YtdpkommmkcmifabGoodR
namespace Go.Proofs.Ytdpkommmkcmifab
set_option linter.unusedVariables false
set_option linter.unusedSimpArgs false
open Go.RowKit
theorem es_lt {b : Bun} (h : b.ok) (k : Nat) : ∀ n ∈ [b.e0, b.e1, b.e2, b.e3, b.e4, b.e5].take k, n < 18446744073709551616 := by
  intro n hn
  have hn := List.mem_of_mem_take hn
  simp only [List.mem_cons, List.not_mem_nil, or_false] at hn
  rcases hn with rfl | rfl | rfl | rfl | rfl | rfl
  all_goals first | exact h.e0 | exact h.e1 | exact h.e2 | exact h.e3 | exact h.e4 | exact h.e5
theorem own_six (w : World) (n : Nat) (hn : n = w.heap.size) : Own (w.alloc (.cells #[.int .u8 6] 5)) w.heap.size (.slice (some ⟨n, 0, none⟩) 1 1) [6] := by
  subst hn
  exact own_row (Nat.le_refl _) rfl (by simp only [maxLen]; omega) (heap_alloc_new w _)
set_option maxRecDepth 20000 in
set_option maxHeartbeats 3200000 in
theorem bytesRef_any (b : Bun) (ba : Option Addr) (bc : Nat) (pa : Option Addr) (pc : Nat) (w : World) (h : BunR w b ba bc pa pc) (hg : GoodB b) :
    Calls Try.prog 45 #[bunV b ba bc pa pc] w fun e w' => ∃ v, e = .returned v ∧ Own w' w.heap.size v (encB b) ∧ Below w.heap.size w w' := by
  have hbn := hg.bl.1
  have hpn := hg.py
  unfold bunV
  obtain ⟨W0, hW0⟩ : ∃ W0 : World, W0 = w.alloc (.cells #[.int .u64 b.fl, .int .u64 b.e0, .int .u64 b.e1, .int .u64 b.e2, .int .u64 b.e3, .int .u64 b.e4, .int .u64 b.e5, .int .u64 b.tm, .int .u64 b.sq, .int .u64 b.lf, .slice ba b.bl.length bc, .slice pa b.py.length pc] 57) := ⟨_, rfl⟩
  have hI : W0.heap[w.heap.size]? = some (.cells #[.int .u64 b.fl, .int .u64 b.e0, .int .u64 b.e1, .int .u64 b.e2, .int .u64 b.e3, .int .u64 b.e4, .int .u64 b.e5, .int .u64 b.tm, .int .u64 b.sq, .int .u64 b.lf, .slice ba b.bl.length bc, .slice pa b.py.length pc] 57 (0, 0)) := by rw [hW0]; exact heap_alloc_new w _
  have hb0 : Below w.heap.size w W0 := by rw [hW0]; exact al (Below.refl _ _) _
  have HS0 : Hid (w.heap.size + 1 = W0.heap.size) := by unfold Hid; rw [hW0]; simp
  have hwl : IntKind.u64.wrap (b.bl.length : Int) = (b.bl.length : Int) := by rw [IntKind.wrap_u64]; omega
  have HG : Hid (GoodB b) := hg
  have HOK : Hid b.ok := h.ok
  clear hg
  obtain ⟨i0, i1, i2, i3, i4, i5, i6, i7, i8, i9, i10, i11, -⟩ := cells12 hI
  have HE : Hid (∀ k (hk : k < [b.e0, b.e1, b.e2, b.e3, b.e4, b.e5].length), W0.cell? ⟨w.heap.size, 1 + k, none⟩ = some (.int .u64 ([b.e0, b.e1, b.e2, b.e3, b.e4, b.e5][k] : Nat))) := fun k hk => ends_at i1 i2 i3 i4 i5 i6 k hk
  clear hI i1 i2 i3 i4 i5 i6
  go_enter Try.func45, Try.ntmps45
  go_wp2_with fail
  rw [← hW0]
  clear hW0
  obtain ⟨w1, hw1⟩ : ∃ w1 : World, w1 = W0.alloc (.cells #[.int .u8 6] 5) := ⟨_, rfl⟩
  rw [← hw1]
  have hbel1 : Below W0.heap.size W0 w1 := by rw [hw1]; exact al (Below.refl _ _) _
  have HO1 : Hid (Own w1 W0.heap.size (.slice (some ⟨w.heap.size + 1, 0, none⟩) 1 1) [6]) := by rw [hw1]; exact own_six W0 _ HS0.out
  clear hw1
  refine (refDigits_any b.fl w1 HOK.out.fl).mono ?_
  rintro e x1 ⟨d1, rfl, hd1, hbx1⟩
  obtain ⟨da1, dc1, rfl, -, -, hdn1, hdr1, -⟩ := hd1.val
  have hbelx1 := below_next hbel1 hbx1
  have HOX1 : Hid _ := HO1.out.below hbx1
  have HDR1 : Hid _ := hdr1
  have HDN1 : Hid _ := hdn1
  clear hd1 hdr1 hdn1
  go_wp2_with (at_builtin; refine wp_app rfl _ _ rfl W0.heap.size (.slice (some ⟨w.heap.size + 1, 0, none⟩) 1 1) [6] (dg b.fl) da1 dc1 rfl HOX1.out rfl HDR1.out HDN1.out (by simp only [List.length_append, List.length_cons, List.length_nil]; have := (dg_len b.fl HOK.out.fl).2; have := (dg_len b.tm HOK.out.tm).2; have := (dg_len b.sq HOK.out.sq).2; have := (dg_len b.lf HOK.out.lf).2; have := dgs_len ([b.e0, b.e1, b.e2, b.e3, b.e4, b.e5].take 6) (es_lt HOK.out 6); have := (dg_len b.bl.length (by have := HOK.out.bn; omega)).2; simp only [List.length_take, List.length_cons, List.length_nil] at *; omega) hbelx1.size ?_; intro v2 w2 hown2 hg2; have hbel2 := hbelx1.grown hg2 hbelx1.size (fun q hq => (World.ownsRow.lt HOX1.out q hq).1); have HO2 : Hid (Own w2 W0.heap.size v2 ([6] ++ dg b.fl)) := hown2; clear hown2 hg2)
  go_loopw [3, 4] (fun v i wr => ∃ k : Nat, k ≤ 6 ∧ i = .int .i64 k ∧ Hid (Own wr W0.heap.size v ([6] ++ dg b.fl ++ dgs ([b.e0, b.e1, b.e2, b.e3, b.e4, b.e5].take k))) ∧ Below W0.heap.size W0 wr) (fun _ i _ => 6 - (intOf i).toNat)
  case atStart => exact ⟨0, Nat.zero_le _, rfl, by have := HO2.out; unfold Hid; rw [show [6] ++ dg b.fl ++ dgs ([b.e0, b.e1, b.e2, b.e3, b.e4, b.e5].take 0) = [6] ++ dg b.fl from by simp [dgs]]; exact this, hbel2⟩
  case round =>
    obtain ⟨k, hk, rfl, HO3, hbel3⟩ := hrel
    by_cases hlt : k < 6
    · obtain ⟨ek, hek⟩ : ∃ ek, ek = [b.e0, b.e1, b.e2, b.e3, b.e4, b.e5][k]'(by simpa using hlt) := ⟨_, rfl⟩
      have hck := cell_on hbel3 (HE.out k (by simpa using hlt))
      rw [← hek] at hck
      have HEK : Hid (ek < 18446744073709551616) := by rw [hek]; exact es_lt HOK.out 6 _ (by simp)
      have HS : Hid ([6] ++ dg b.fl ++ dgs ([b.e0, b.e1, b.e2, b.e3, b.e4, b.e5].take (k + 1)) = [6] ++ dg b.fl ++ dgs ([b.e0, b.e1, b.e2, b.e3, b.e4, b.e5].take k) ++ dg ek) := by unfold Hid; rw [dgs_snoc _ k (by simpa using hlt), hek, List.append_assoc ([6] ++ dg b.fl)]
      have HLB : Hid (([6] ++ dg b.fl ++ dgs ([b.e0, b.e1, b.e2, b.e3, b.e4, b.e5].take k)).length + (dg ek).length ≤ 140737488355328) := by
        have h1 := (dg_len b.fl HOK.out.fl).2
        have h2 := dgs_len ([b.e0, b.e1, b.e2, b.e3, b.e4, b.e5].take k) (es_lt HOK.out k)
        have h3 := (dg_len ek HEK.out).2
        unfold Hid
        simp only [List.length_append, List.length_cons, List.length_nil]
        simp at h2
        omega
      clear hek
      go_wp2_with fail
      refine (refDigits_any ek wr HEK.out).mono ?_
      rintro e x3 ⟨d3, rfl, hd3, hbx3⟩
      obtain ⟨da3, dc3, rfl, -, -, hdn3, hdr3, -⟩ := hd3.val
      have hbelx3 := below_next hbel3 hbx3
      have HOX3 : Hid _ := HO3.out.below hbx3
      have HDR3 : Hid _ := hdr3
      have HDN3 : Hid _ := hdn3
      clear hd3 hdr3 hdn3
      go_wp2_with (at_builtin; refine wp_app rfl _ _ rfl W0.heap.size _ ([6] ++ dg b.fl ++ dgs ([b.e0, b.e1, b.e2, b.e3, b.e4, b.e5].take k)) (dg ek) da3 dc3 rfl HOX3.out rfl HDR3.out HDN3.out HLB.out hbelx3.size ?_; intro v4 w4 hown4 hg4; have hbel4 := hbelx3.grown hg4 hbelx3.size (fun q hq => (World.ownsRow.lt HOX3.out q hq).1); have HO4 : Hid (Own w4 W0.heap.size v4 (([6] ++ dg b.fl ++ dgs ([b.e0, b.e1, b.e2, b.e3, b.e4, b.e5].take k)) ++ dg ek)) := hown4; clear hown4 hg4)
      go_roundw
      case rel => exact ⟨k + 1, by omega, by go_num, by rw [HS.out]; exact HO4.out, hbel4⟩
      case measure => simp [intOf]; omega
    · obtain rfl : k = 6 := by omega
      have c7 := cell_on hbel3 i7
      obtain ⟨L3, hL3⟩ : ∃ L3, L3 = [6] ++ dg b.fl ++ dgs ([b.e0, b.e1, b.e2, b.e3, b.e4, b.e5].take 6) := ⟨_, rfl⟩
      rw [← hL3] at HO3
      have HL3 : Hid (L3.length ≤ 71) := by
        have h1 := (dg_len b.fl HOK.out.fl).2
        have h2 := dgs_len ([b.e0, b.e1, b.e2, b.e3, b.e4, b.e5].take 6) (es_lt HOK.out 6)
        unfold Hid
        rw [hL3]
        have h3 : ([b.e0, b.e1, b.e2, b.e3, b.e4, b.e5].take 6).length = 6 := rfl
        rw [h3] at h2
        simp only [List.length_append, List.length_cons, List.length_nil]
        omega
      have HP : Hid (L3 ++ dg b.tm ++ dg b.sq ++ dg b.lf ++ dg b.bl.length = pref b 0) := by
        unfold Hid
        rw [hL3]
        unfold pref dgs encBlks
        simp
      have HTM : Hid ((dg b.tm).length ≤ 10 ∧ (dg b.sq).length ≤ 10 ∧ (dg b.lf).length ≤ 10 ∧ (dg b.bl.length).length ≤ 10) := ⟨(dg_len _ HOK.out.tm).2, (dg_len _ HOK.out.sq).2, (dg_len _ HOK.out.lf).2, (dg_len _ (by omega)).2⟩
      clear hL3 HE
      go_wp2_with fail
      refine (refDigits_any b.tm wr HOK.out.tm).mono ?_
      rintro e x3 ⟨d3, rfl, hd3, hbx3⟩
      obtain ⟨da3, dc3, rfl, -, -, hdn3, hdr3, -⟩ := hd3.val
      have hbelx3 := below_next hbel3 hbx3
      have HOX3 : Hid _ := HO3.out.below hbx3
      have HDR3 : Hid _ := hdr3
      have HDN3 : Hid _ := hdn3
      clear hd3 hdr3 hdn3
      go_wp2_with (at_builtin; refine wp_app rfl _ _ rfl W0.heap.size _ L3 (dg b.tm) da3 dc3 rfl HOX3.out rfl HDR3.out HDN3.out (by have h1 := HL3.out; obtain ⟨t1, t2, t3, t4⟩ := HTM.out; (try simp only [List.length_append]); omega) hbelx3.size ?_; intro v5 w5 hown5 hg5; have hbel5 := hbelx3.grown hg5 hbelx3.size (fun q hq => (World.ownsRow.lt HOX3.out q hq).1); have HO5 : Hid (Own w5 W0.heap.size v5 (L3 ++ dg b.tm)) := hown5; clear hown5 hg5; have c8 := cell_on hbel5 i8)
      refine (refDigits_any b.sq w5 HOK.out.sq).mono ?_
      rintro e x5 ⟨d5, rfl, hd5, hbx5⟩
      obtain ⟨da5, dc5, rfl, -, -, hdn5, hdr5, -⟩ := hd5.val
      have hbelx5 := below_next hbel5 hbx5
      have HOX5 : Hid _ := HO5.out.below hbx5
      have HDR5 : Hid _ := hdr5
      have HDN5 : Hid _ := hdn5
      clear hd5 hdr5 hdn5
      go_wp2_with (at_builtin; refine wp_app rfl _ _ rfl W0.heap.size _ (L3 ++ dg b.tm) (dg b.sq) da5 dc5 rfl HOX5.out rfl HDR5.out HDN5.out (by have h1 := HL3.out; obtain ⟨t1, t2, t3, t4⟩ := HTM.out; (try simp only [List.length_append]); omega) hbelx5.size ?_; intro v6 w6 hown6 hg6; have hbel6 := hbelx5.grown hg6 hbelx5.size (fun q hq => (World.ownsRow.lt HOX5.out q hq).1); have HO6 : Hid (Own w6 W0.heap.size v6 ((L3 ++ dg b.tm) ++ dg b.sq)) := hown6; clear hown6 hg6; have c9 := cell_on hbel6 i9)
      refine (refDigits_any b.lf w6 HOK.out.lf).mono ?_
      rintro e x6 ⟨d6, rfl, hd6, hbx6⟩
      obtain ⟨da6, dc6, rfl, -, -, hdn6, hdr6, -⟩ := hd6.val
      have hbelx6 := below_next hbel6 hbx6
      have HOX6 : Hid _ := HO6.out.below hbx6
      have HDR6 : Hid _ := hdr6
      have HDN6 : Hid _ := hdn6
      clear hd6 hdr6 hdn6
      go_wp2_with (at_builtin; refine wp_app rfl _ _ rfl W0.heap.size _ (L3 ++ dg b.tm ++ dg b.sq) (dg b.lf) da6 dc6 rfl HOX6.out rfl HDR6.out HDN6.out (by have h1 := HL3.out; obtain ⟨t1, t2, t3, t4⟩ := HTM.out; (try simp only [List.length_append]); omega) hbelx6.size ?_; intro v7 w7 hown7 hg7; have hbel7 := hbelx6.grown hg7 hbelx6.size (fun q hq => (World.ownsRow.lt HOX6.out q hq).1); have HO7 : Hid (Own w7 W0.heap.size v7 ((L3 ++ dg b.tm ++ dg b.sq) ++ dg b.lf)) := hown7; clear hown7 hg7; have c10 := cell_on hbel7 i10)
      refine (refDigits_any b.bl.length w7 (by omega)).mono ?_
      rintro e x7 ⟨d7, rfl, hd7, hbx7⟩
      obtain ⟨da7, dc7, rfl, -, -, hdn7, hdr7, -⟩ := hd7.val
      have hbelx7 := below_next hbel7 hbx7
      have HOX7 : Hid _ := HO7.out.below hbx7
      have HDR7 : Hid _ := hdr7
      have HDN7 : Hid _ := hdn7
      clear hd7 hdr7 hdn7
      go_wp2_with (at_builtin; refine wp_app rfl _ _ rfl W0.heap.size _ (L3 ++ dg b.tm ++ dg b.sq ++ dg b.lf) (dg b.bl.length) da7 dc7 rfl HOX7.out rfl HDR7.out HDN7.out (by have h1 := HL3.out; obtain ⟨t1, t2, t3, t4⟩ := HTM.out; (try simp only [List.length_append]); omega) hbelx7.size ?_; intro v8 w8 hown8 hg8; have hbel8 := hbelx7.grown hg8 hbelx7.size (fun q hq => (World.ownsRow.lt HOX7.out q hq).1); have HO8 : Hid (Own w8 W0.heap.size v8 ((L3 ++ dg b.tm ++ dg b.sq ++ dg b.lf) ++ dg b.bl.length)) := hown8; clear hown8 hg8)
      rw [HP.out] at HO8
      clear c7 c8 c9 c10
      go_loopw [3, 5] (fun v i wr => ∃ k : Nat, k ≤ b.bl.length ∧ i = .int .i64 k ∧ Hid (Own wr W0.heap.size v (pref b k)) ∧ Below W0.heap.size W0 wr) (fun _ i _ => b.bl.length - (intOf i).toNat)
      case atStart => exact ⟨0, Nat.zero_le _, rfl, HO8, hbel8⟩
      case round =>
        obtain ⟨k, hk, rfl, HOa, hbela⟩ := hrel
        have hbwa := below_next hb0 hbela
        have c10 := cell_on hbela i10
        by_cases hlt : k < b.bl.length
        · obtain ⟨b1, o1, rfl, hx⟩ := h.rb.at k hlt
          have hxa := hx.below hbwa
          obtain ⟨a1, c1, d0, d1, d2, d3, hr, hdc, hdn⟩ := id hx
          have HXK : Hid b.bl[k].ok := h.ok.bl _ (List.getElem_mem hlt)
          have HPL : Hid ((pref b k).length ≤ 1000) := pref_len HOK.out HG.out.bl k
          have HT3 : Hid ((dg b.bl[k].t).length ≤ 10 ∧ (dg b.bl[k].n).length ≤ 10 ∧ (dg b.bl[k].f).length ≤ 10) := ⟨(dg_len _ HXK.out.1).2, (dg_len _ HXK.out.2.1).2, (dg_len _ HXK.out.2.2.1).2⟩
          have hd64 := HG.out.bl.data (List.getElem_mem hlt)
          have HS : Hid (pref b (k + 1) = pref b k ++ dg b.bl[k].t ++ dg b.bl[k].n ++ dg b.bl[k].f ++ (dg b.bl[k].d.length ++ b.bl[k].d)) := by unfold Hid; rw [pref_snoc b k hlt]; simp [dgs]
          have HDN9 : Hid (a1 = none → c1 = 0) := hdn
          have HR9 : Hid (Rd w a1 b.bl[k].d) := hr
          have e0 := cell_on hbwa d0
          clear hdn hr hx hxa i7 i8 i9
          go_wp2_with fail
          refine (refDigits_any b.bl[k].t wr HXK.out.1).mono ?_
          rintro e xa ⟨da, rfl, hda, hbxa⟩
          obtain ⟨daa, dca, rfl, -, -, hdna, hdra, -⟩ := hda.val
          have hbelxa := below_next hbela hbxa
          have HOXa : Hid _ := HOa.out.below hbxa
          have HDRa : Hid _ := hdra
          have HDNa : Hid _ := hdna
          clear hda hdra hdna
          go_wp2_with (at_builtin; refine wp_app rfl _ _ rfl W0.heap.size _ (pref b k) (dg b.bl[k].t) daa dca rfl HOXa.out rfl HDRa.out HDNa.out (by have h1 := HPL.out; obtain ⟨t1, t2, t3⟩ := HT3.out; (try simp only [List.length_append]); omega) hbelxa.size ?_; intro vb wb hownb hgb; have hbelb := hbelxa.grown hgb hbelxa.size (fun q hq => (World.ownsRow.lt HOXa.out q hq).1); have HOb : Hid (Own wb W0.heap.size vb ((pref b k) ++ dg b.bl[k].t)) := hownb; clear hownb hgb; have c10 := cell_on hbelb i10; have e1 := cell_on (below_next hb0 hbelb) d1)
          refine (refDigits_any b.bl[k].n wb HXK.out.2.1).mono ?_
          rintro e xb ⟨db, rfl, hdb, hbxb⟩
          obtain ⟨dab, dcb, rfl, -, -, hdnb, hdrb, -⟩ := hdb.val
          have hbelxb := below_next hbelb hbxb
          have HOXb : Hid _ := HOb.out.below hbxb
          have HDRb : Hid _ := hdrb
          have HDNb : Hid _ := hdnb
          clear hdb hdrb hdnb
          go_wp2_with (at_builtin; refine wp_app rfl _ _ rfl W0.heap.size _ (pref b k ++ dg b.bl[k].t) (dg b.bl[k].n) dab dcb rfl HOXb.out rfl HDRb.out HDNb.out (by have h1 := HPL.out; obtain ⟨t1, t2, t3⟩ := HT3.out; (try simp only [List.length_append]); omega) hbelxb.size ?_; intro vc wc hownc hgc; have hbelc := hbelxb.grown hgc hbelxb.size (fun q hq => (World.ownsRow.lt HOXb.out q hq).1); have HOc : Hid (Own wc W0.heap.size vc ((pref b k ++ dg b.bl[k].t) ++ dg b.bl[k].n)) := hownc; clear hownc hgc; have c10 := cell_on hbelc i10; have e2 := cell_on (below_next hb0 hbelc) d2)
          refine (refDigits_any b.bl[k].f wc HXK.out.2.2.1).mono ?_
          rintro e xc ⟨dc, rfl, hdc, hbxc⟩
          obtain ⟨dac, dcc, rfl, -, -, hdnc, hdrc, -⟩ := hdc.val
          have hbelxc := below_next hbelc hbxc
          have HOXc : Hid _ := HOc.out.below hbxc
          have HDRc : Hid _ := hdrc
          have HDNc : Hid _ := hdnc
          clear hdc hdrc hdnc
          go_wp2_with (at_builtin; refine wp_app rfl _ _ rfl W0.heap.size _ (pref b k ++ dg b.bl[k].t ++ dg b.bl[k].n) (dg b.bl[k].f) dac dcc rfl HOXc.out rfl HDRc.out HDNc.out (by have h1 := HPL.out; obtain ⟨t1, t2, t3⟩ := HT3.out; (try simp only [List.length_append]); omega) hbelxc.size ?_; intro vd wd hownd hgd; have hbeld := hbelxc.grown hgd hbelxc.size (fun q hq => (World.ownsRow.lt HOXc.out q hq).1); have HOd : Hid (Own wd W0.heap.size vd ((pref b k ++ dg b.bl[k].t ++ dg b.bl[k].n) ++ dg b.bl[k].f)) := hownd; clear hownd hgd; have c10 := cell_on hbeld i10; have e3 := cell_on (below_next hb0 hbeld) d3; obtain ⟨ad, cd, hvd, -, -, hnd, hrd, -⟩ := HOd.out.val; obtain ⟨md, hmd⟩ : ∃ md, md = (pref b k ++ dg b.bl[k].t ++ dg b.bl[k].n ++ dg b.bl[k].f).length := ⟨_, rfl⟩; rw [← hmd] at hvd; subst hvd; have HMD : Hid _ := hmd; have HND : Hid _ := hnd; have HRD : Hid _ := hrd; clear hmd hnd hrd)
          refine (refAppendBytes_n ad md cd _ HMD.out a1 _ c1 b.bl[k].d rfl wd HRD.out (HR9.out.below (below_next hb0 hbeld)) HND.out HDN9.out (by have h1 := HPL.out; obtain ⟨t1, t2, t3⟩ := HT3.out; have h2 := HMD.out; simp only [List.length_append] at h2; omega)).mono ?_
          rintro e we ⟨ve, rfl, howne, hbe⟩
          rw [← HS.out] at howne
          have HOe : Hid (Own we W0.heap.size ve (pref b (k + 1))) := howne.base hbeld.size
          have hbele := below_next hbeld hbe
          clear howne
          go_wp2
          go_roundw
          case rel => exact ⟨k + 1, by omega, by go_num, HOe, hbele⟩
          case measure => simp [intOf]; omega
        · obtain rfl : k = b.bl.length := by omega
          have c11 := cell_on hbela i11
          have HPL : Hid ((pref b b.bl.length).length ≤ 1000) := pref_len HOK.out HG.out.bl _
          obtain ⟨ad, cd, hvd, -, -, hnd, hrd, -⟩ := HOa.out.val
          obtain ⟨md, hmd⟩ : ∃ md, md = (pref b b.bl.length).length := ⟨_, rfl⟩
          rw [← hmd] at hvd
          subst hvd
          have HMD : Hid (md = (pref b b.bl.length).length) := hmd
          have HND : Hid _ := hnd
          have HRD : Hid _ := hrd
          clear hmd hnd hrd
          go_wp2_with fail
          refine (refAppendBytes_n ad md cd _ HMD.out pa _ pc b.py rfl wr HRD.out (h.rp.below hbwa) HND.out h.np (by have h1 := HPL.out; have h2 := HMD.out; omega)).mono ?_
          rintro e we ⟨ve, rfl, howne, hbe⟩
          rw [pref_all] at howne
          go_wp2
          go_ret
          exact ⟨_, rfl, howne.base hbwa.size, below_next hbwa hbe⟩
end Go.Proofs.Ytdpkommmkcmifab
