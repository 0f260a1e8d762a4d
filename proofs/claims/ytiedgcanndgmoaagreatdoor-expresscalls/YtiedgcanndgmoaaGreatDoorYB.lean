import Derived.Test.YtiedgcanndgmoaaGreatDoorYA
import Derived.Test.YtiedgcanndgmoaaGreatDoorXG
namespace Go.Proofs.YtiedgcanndgmoaaGreatDoor
set_option linter.unusedVariables false
set_option linter.unusedSimpArgs false
open Go.RowKit Go.Maps
theorem erase_drop : ∀ {L : List Xe}, (L.map Xe.n).Nodup → ∀ (k : Nat) (h : k < L.length), L.eraseIdx k = dropX L (L[k]).n
  | [], _, k, h => by simp at h
  | a :: r, hn, 0, h => by
    rw [List.map_cons, List.nodup_cons] at hn
    simp only [List.eraseIdx_zero, List.tail_cons, List.getElem_cons_zero, dropX]
    rw [List.filter_cons_of_neg (by simp)]
    symm
    rw [List.filter_eq_self]
    intro x hx
    have : x.n ≠ a.n := fun e => hn.1 (List.mem_map.2 ⟨x, hx, e⟩)
    simp [this]
  | a :: r, hn, k + 1, h => by
    rw [List.map_cons, List.nodup_cons] at hn
    have hk : k < r.length := by simpa using h
    simp only [List.eraseIdx_cons_succ, List.getElem_cons_succ, dropX]
    have : a.n ≠ (r[k]).n := fun e => hn.1 (List.mem_map.2 ⟨r[k], List.getElem_mem hk, e.symm⟩)
    rw [List.filter_cons_of_pos (by simp [this])]
    rw [erase_drop hn.2 k hk]
    rfl
section
variable {w w' : World} {q : Nat} {v v' v'' : Value} {X : Value × Value × Value × Value} {s : Xs}
set_option maxRecDepth 20000
set_option maxHeartbeats 3200000
theorem rend_t (h : Rx w q v X s) (k : Nat) (hk : k < s.L.length) : Calls Tryz.prog 65 #[.pointer (some ⟨q, 0, none⟩), .int .i64 (k : Int)] w fun e w' => e = .returned (.tuple #[]) ∧ ∃ v', Rx w' q v' X { s with L := s.L.eraseIdx k } ∧ RxStp w w' q v v' := by
  have HW : Hid _ := h
  have HI : Hid (XInv { s with L := s.L.eraseIdx k }) := by unfold Hid; rw [erase_drop h.inv.nn k hk]; exact h.inv.drop _
  obtain ⟨g, c, hv, hNc, -, -, -⟩ := h.row.one (by omega)
  obtain ⟨N, hN⟩ : ∃ N, N = s.L.length := ⟨_, rfl⟩
  rw [← hN] at hv hk hNc
  subst hv
  have hNm : N ≤ 64 := by rw [hN]; exact h.inv.len
  obtain ⟨j, hj⟩ : ∃ j, j = k + 1 := ⟨_, rfl⟩
  have hk1 : ((k : Int) + 1) = (j : Int) := by omega
  have hkm : k < 64 := by omega
  have hk0 : (0 : Int) ≤ (k : Int) := by omega
  have hj0 : (0 : Int) ≤ (j : Int) := by omega
  have hkc : (k : Int) ≤ (c : Int) := by omega
  have hkcn : k ≤ c := by omega
  have hkn : (k : Int) ≤ (N : Int) := by omega
  have hjn : (j : Int) ≤ (N : Int) := by omega
  have hjnn : j ≤ N := by omega
  have hjc : (j : Int) ≤ (c : Int) := by omega
  have hjcn : j ≤ c := by omega
  have hck : ¬ c = k := by omega
  have hNk : ¬ N = k := by omega
  have HN : Hid (N = s.L.length) := hN
  have HJ : Hid _ := hj
  have hd1 : w.cell? ⟨q, 8, none⟩ = some (.slice (some ⟨g, 0, none⟩) N c) := h.cell 8
  have hf1 := h.frz 8
  have hrd0 := h.row
  rw [HN.out] at hrd0
  have HRD : Hid (RdG KRe w (some ⟨g, 0, none⟩) s.L) := OwnG.rd hrd0
  clear h hN hj hrd0
  by_cases hcj : c = j
  · obtain rfl : N = j := by omega
    subst hcj
    focus
      go_enter Tryz.func65, Tryz.ntmps65
      go_wp2_with (first | (at_builtin; refine wp_appG (K := KRe) rfl _ _ rfl w.heap.size (.slice none 0 0) [] (s.L.take k) k (some ⟨g, 0, none⟩) c (by rw [List.length_take]; have := HN.out; omega) rfl (World.ownsRow_nil _ _ _ _) rfl (RdG.take HRD.out k) (fun h => by cases h) (by show (0 + k) * 32 ≤ _; omega) (by simp only [maxLen, List.length_nil]; omega) (Nat.le_refl _) ?_; intro v2 w2 hown2 hg2; rw [List.nil_append] at hown2; obtain ⟨a2, c2, hv2, -⟩ := hown2.val; have hl2 : (s.L.take k).length = k := (by rw [List.length_take]; have := HN.out; omega); rw [hl2] at hv2; subst hv2; have hb2 : Below w.heap.size w w2 := (Below.refl _ _).grown hg2 (Nat.le_refl _) (fun b hb => by cases hb); have hd2 := (HW.out.below hb2).cell 8; have hf2 := (HW.out.below hb2).frz 8; have HO2 : Hid _ := hown2; have HB2 : Hid _ := hb2; clear hown2 hg2 hb2) | (at_builtin; refine wp_appG (K := KRe) rfl _ _ rfl w.heap.size (.slice a2 k c2) (s.L.take k) (s.L.drop c) _ _ _ (by rw [List.length_drop]; have := HN.out; omega) rfl HO2.out rfl (by rw [List.drop_eq_nil_of_le (by have := HN.out; omega)]; exact RdG.nil _ _) (fun h => by cases h) (by rw [List.length_take]; show (_ + _) * 32 ≤ _; have := HN.out; omega) (by rw [List.length_take]; simp only [maxLen]; have := HN.out; omega) HB2.out.size ?_; intro v3 w3 hown3 hg3; obtain ⟨a3, c3, hv3, -⟩ := hown3.val; obtain ⟨M, hM⟩ : ∃ M, M = (s.L.take k ++ s.L.drop c).length := ⟨_, rfl⟩; rw [← hM] at hv3; subst hv3; have hb3 : Below w.heap.size w w3 := HB2.out.grown hg3 HB2.out.size (fun b hb => (OwnG.lt' HO2.out hb).1); have hd3 := (HW.out.below hb3).cell 8; have hf3 := (HW.out.below hb3).frz 8; have HO3 : Hid _ := hown3; have HB3 : Hid _ := hb3; have HM3 : Hid _ := hM; clear hown3 hg3 hb3 hM))
      go_end0
      have he : s.L.eraseIdx k = s.L.take k ++ s.L.drop c := by rw [List.eraseIdx_eq_take_drop_succ, HJ.out]
      have hO3 : OwnG KRe w3 0 (.slice a3 M c3) (s.L.eraseIdx k) := by rw [he]; exact OwnG.base HO3.out (Nat.zero_le _)
      obtain ⟨h8, h9⟩ := HW.out.setRow (Chg.of_below HB3.out) (v' := .slice a3 M c3) (L' := s.L.eraseIdx k) hO3 (fun b e => .inr (OwnG.lt' HO3.out e).1) HI.out
      exact ⟨rfl, _, h8, h9⟩
  · focus
      go_enter Tryz.func65, Tryz.ntmps65
      go_wp2_with (first | (at_builtin; refine wp_appG (K := KRe) rfl _ _ rfl w.heap.size (.slice none 0 0) [] (s.L.take k) k (some ⟨g, 0, none⟩) c (by rw [List.length_take]; have := HN.out; omega) rfl (World.ownsRow_nil _ _ _ _) rfl (RdG.take HRD.out k) (fun h => by cases h) (by show (0 + k) * 32 ≤ _; omega) (by simp only [maxLen, List.length_nil]; omega) (Nat.le_refl _) ?_; intro v2 w2 hown2 hg2; rw [List.nil_append] at hown2; obtain ⟨a2, c2, hv2, -⟩ := hown2.val; have hl2 : (s.L.take k).length = k := (by rw [List.length_take]; have := HN.out; omega); rw [hl2] at hv2; subst hv2; have hb2 : Below w.heap.size w w2 := (Below.refl _ _).grown hg2 (Nat.le_refl _) (fun b hb => by cases hb); have hd2 := (HW.out.below hb2).cell 8; have hf2 := (HW.out.below hb2).frz 8; have HO2 : Hid _ := hown2; have HB2 : Hid _ := hb2; clear hown2 hg2 hb2) | (at_builtin; refine wp_appG (K := KRe) rfl _ _ rfl w.heap.size (.slice a2 k c2) (s.L.take k) (s.L.drop j) _ _ _ (by rw [List.length_drop]; have := HN.out; omega) rfl HO2.out rfl (by have h9 := RdG.drop (HRD.out.below HB2.out) j; rw [Nat.zero_add] at h9; exact h9) (fun h => by cases h) (by rw [List.length_take]; show (_ + _) * 32 ≤ _; have := HN.out; omega) (by rw [List.length_take]; simp only [maxLen]; have := HN.out; omega) HB2.out.size ?_; intro v3 w3 hown3 hg3; obtain ⟨a3, c3, hv3, -⟩ := hown3.val; obtain ⟨M, hM⟩ : ∃ M, M = (s.L.take k ++ s.L.drop j).length := ⟨_, rfl⟩; rw [← hM] at hv3; subst hv3; have hb3 : Below w.heap.size w w3 := HB2.out.grown hg3 HB2.out.size (fun b hb => (OwnG.lt' HO2.out hb).1); have hd3 := (HW.out.below hb3).cell 8; have hf3 := (HW.out.below hb3).frz 8; have HO3 : Hid _ := hown3; have HB3 : Hid _ := hb3; have HM3 : Hid _ := hM; clear hown3 hg3 hb3 hM))
      go_end0
      have he : s.L.eraseIdx k = s.L.take k ++ s.L.drop j := by rw [List.eraseIdx_eq_take_drop_succ, HJ.out]
      have hO3 : OwnG KRe w3 0 (.slice a3 M c3) (s.L.eraseIdx k) := by rw [he]; exact OwnG.base HO3.out (Nat.zero_le _)
      obtain ⟨h8, h9⟩ := HW.out.setRow (Chg.of_below HB3.out) (v' := .slice a3 M c3) (L' := s.L.eraseIdx k) hO3 (fun b e => .inr (OwnG.lt' HO3.out e).1) HI.out
      exact ⟨rfl, _, h8, h9⟩
theorem rstop_in (h : Rx w q v X s) (x : Xe) (hx : x ∈ s.L) : Calls Tryz.prog 45 #[.pointer (some ⟨q, 0, none⟩), fv x.k] w fun e w' => e = .returned (.tuple #[.int .u64 (x.n : Int), .bool true]) ∧ ∃ v', Rx w' q v' X { s with L := dropX s.L x.n } ∧ RxStp w w' q v v' := by
  have hof := rof_t (h.below (alw (Below.refl w.heap.size w) (.cells #[.int .i64 x.k.1, .int .u64 (x.k.2 : Int)] tFk))) x.k
  obtain ⟨w1, hw1⟩ : ∃ w1, w1 = w.alloc (.cells #[.int .i64 x.k.1, .int .u64 (x.k.2 : Int)] tFk) := ⟨_, rfl⟩
  have hkb := keyBoxF w x.k w1 (by rw [hw1]; exact Below.refl _ _)
  rw [← hw1] at hof
  have HO : Hid _ := hof
  have HH : Hid _ := h
  have HX : Hid _ := hx
  have HW1 : Hid (w1 = _) := hw1
  have hb1 : Below w.heap.size w w1 := by rw [hw1]; exact alw (Below.refl _ _) _
  have HB1 : Hid _ := hb1
  clear h hx hof hw1 hb1
  go_enter Tryz.func45, Tryz.ntmps45
  go_wp2_with fail
  rw [← HW1.out]
  refine Calls.mono HO.out ?_
  rintro e w2 ⟨hf, hb2⟩
  rcases hf with ⟨k, hk, hke, rfl⟩ | ⟨hno, rfl⟩
  · have hbw := below_next HB1.out hb2
    have hR2 := HH.out.below hbw
    have hxe : s.L[k] = x := key_inj HH.out.inv.nk (List.getElem_mem hk) HX.out hke
    have hc8 : w2.cell? ⟨q, 8, none⟩ = some v := hR2.cell 8
    obtain ⟨g, c, hv, -, -, -, -⟩ := hR2.row.one (by omega)
    have hrow := hR2.row
    obtain ⟨N, hN⟩ : ∃ N, N = s.L.length := ⟨_, rfl⟩
    rw [← hN] at hv
    rw [hv] at hc8 hrow
    have h0 := OwnG.cell hrow hN k 0 hk (by decide)
    rw [hxe] at h0
    have h0' : w2.cell? ⟨g, k * 4, none⟩ = some (.int .u64 (x.n : Int)) := h0
    have hki : (k : Int) < (N : Int) := by omega
    have hk0 : (0 : Int) ≤ (k : Int) := by omega
    have hkn : ¬ (k : Int) < 0 := by omega
    have HE : Hid _ := rend_t hR2 k hk
    have HBW : Hid _ := hbw
    have HXE : Hid (s.L.eraseIdx k = dropX s.L x.n) := by unfold Hid; rw [erase_drop HH.out.inv.nn k hk, hxe]
    clear hbw hR2 hxe hv hrow h0 hb2 hke hN hk
    go_wp2_with (go_at_call 65; refine Calls.mono HE.out ?_; rintro e w3 ⟨rfl, v', h1, h2⟩; have H1 : Hid _ := h1; have H2 : Hid _ := h2; clear h1 h2)
    go_ret2
    refine ⟨rfl, v', ?_, (RxStp.below HBW.out q v).trans H2.out⟩
    rw [← HXE.out]
    exact H1.out
  · exact absurd (List.mem_map.2 ⟨x, HX.out, rfl⟩) hno
theorem rstop_out (h : Rx w q v X s) (k : Fk) (hx : k ∉ s.L.map Xe.k) : Calls Tryz.prog 45 #[.pointer (some ⟨q, 0, none⟩), fv k] w fun e w' => e = .returned (.tuple #[.int .u64 0, .bool false]) ∧ Below w.heap.size w w' := by
  have hof := rof_t (h.below (alw (Below.refl w.heap.size w) (.cells #[.int .i64 k.1, .int .u64 (k.2 : Int)] tFk))) k
  obtain ⟨w1, hw1⟩ : ∃ w1, w1 = w.alloc (.cells #[.int .i64 k.1, .int .u64 (k.2 : Int)] tFk) := ⟨_, rfl⟩
  have hkb := keyBoxF w k w1 (by rw [hw1]; exact Below.refl _ _)
  rw [← hw1] at hof
  have HO : Hid _ := hof
  have HX : Hid _ := hx
  have HW1 : Hid (w1 = _) := hw1
  have hb1 : Below w.heap.size w w1 := by rw [hw1]; exact alw (Below.refl _ _) _
  have HB1 : Hid _ := hb1
  clear h hx hof hw1 hb1
  go_enter Tryz.func45, Tryz.ntmps45
  go_wp2_with fail
  rw [← HW1.out]
  refine Calls.mono HO.out ?_
  rintro e w2 ⟨hf, hb2⟩
  rcases hf with ⟨j, hk, hke, rfl⟩ | ⟨-, rfl⟩
  · exact absurd (List.mem_map.2 ⟨_, List.getElem_mem hk, hke⟩) HX.out
  · have HB2 : Hid _ := hb2
    clear hb2
    go_wp2
    go_ret2
    exact ⟨rfl, below_next HB1.out HB2.out⟩
theorem rbusy_t (h : Rx w q v X s) : Calls Tryz.prog 21 #[.pointer (some ⟨q, 0, none⟩)] w fun e w' => ∃ u, e = .returned u ∧ OwnG KKy w' w.heap.size u (s.L.map Xe.k) ∧ Below w.heap.size w w' := by
  have hc8 : ∀ u, Below w.heap.size w u → u.cell? ⟨q, 8, none⟩ = some v := fun u hu => (h.below hu).cell 8
  obtain ⟨a, cp, hv, -, -, -, hrd⟩ := OwnG.val h.row
  have HR : Hid (RdG KRe w a s.L) := hrd
  have hl := h.inv.len
  subst hv
  obtain ⟨n, hn⟩ : ∃ n, n = s.L.length := ⟨_, rfl⟩
  rw [← hn] at hc8 hl
  have HN : Hid (n = s.L.length) := hn
  clear h hn hrd
  go_enter Tryz.func21, Tryz.ntmps21
  go_wp2
  go_loopw [3, 4] (fun u j wr => ∃ k : Nat, k ≤ n ∧ j = .int .i64 (k : Int) ∧ OwnG KKy wr w.heap.size u ((s.L.map Xe.k).take k) ∧ Below w.heap.size w wr) (fun _ j _ => n - (intOf j).toNat)
  case atStart => exact ⟨0, Nat.zero_le _, rfl, World.ownsRow_nil _ _ _ _, Below.refl _ _⟩
  case round =>
    obtain ⟨k, hkn, rfl, hown, hbw⟩ := hrel
    have hkw : IntKind.i64.wrap ((k : Int) + 1) = ((k + 1 : Nat) : Int) := by rw [IntKind.wrap_i64]; omega
    have hc8r := hc8 wr hbw
    by_cases hlt : k < n
    · have hlti : (k : Int) < (n : Int) := by omega
      have hk0 : (0 : Int) ≤ (k : Int) := by omega
      have hk1 : k < s.L.length := by rw [← HN.out]; exact hlt
      obtain ⟨b, o, rfl, r1, -⟩ := RdG.below HR.out hbw k hk1
      obtain ⟨x, hx⟩ : ∃ x : Xe, x = s.L[k] := ⟨_, rfl⟩
      have g1 := r1 1 (.int .i64 x.k.1) (by rw [hx]; rfl)
      have g2 : wr.cell? ⟨b, o + k * 4 + 1 + 1, none⟩ = some (.int .u64 (x.k.2 : Int)) := r1 2 (.int .u64 (x.k.2 : Int)) (by rw [hx]; rfl)
      have HO : Hid (OwnG KKy (wr.alloc (.cells #[.int .i64 x.k.1, .int .u64 (x.k.2 : Int)] tFk)) w.heap.size u3 ((s.L.map Xe.k).take k)) := hown.below (alw (Below.refl _ _) _)
      have HTK : Hid ((s.L.map Xe.k).take k ++ [x.k] = (s.L.map Xe.k).take (k + 1)) := by
        unfold Hid
        rw [List.take_succ_eq_append_getElem (by simpa using hk1), List.getElem_map, ← hx]
      have HLK : Hid (k = ((s.L.map Xe.k).take k).length) := by unfold Hid; rw [List.length_take, List.length_map]; omega
      have HBW : Hid _ := hbw
      have HSZ : Hid (w.heap.size ≤ wr.heap.size) := hbw.size
      have HLT3 : Hid (∀ b, u3.ownBlock = some b → w.heap.size ≤ b) := fun b hb => (hown.lt' hb).1
      clear hx r1 hown hk1 hbw hc8
      go_wp2_with (at_builtin; refine wp_appG1 (K := KKy) rfl _ _ rfl w.heap.size u3 ((s.L.map Xe.k).take k) x.k k HLK.out ⟨wr.heap.size, 0, none⟩ 1 rfl HO.out rfl (rdF_new _ x.k _ rfl) (by show (k + 1) * 16 ≤ _; omega) (by simp only [maxLen]; omega) (by have := HSZ.out; simp; omega) ?_; intro g7 c7 w7 hown7 hg7 hlie7; rw [HTK.out] at hown7; have HO7 : Hid _ := hown7; have HG7 : Hid _ := hg7; clear hown7 hg7 hlie7)
      go_roundw
      case rel =>
        refine ⟨k + 1, hlt, by go_num, HO7.out, (alw HBW.out _).grown HG7.out (by have := HSZ.out; simp; omega) (fun j hj => HLT3.out j hj)⟩
      case measure => simp [intOf]; omega
    · have hlti : ¬ (k : Int) < (n : Int) := by omega
      have HO : Hid (OwnG KKy wr w.heap.size u3 (s.L.map Xe.k)) := by
        have h9 := hown
        rw [List.take_of_length_le (by rw [List.length_map, ← HN.out]; omega)] at h9
        exact h9
      have HBW : Hid _ := hbw
      clear hown hbw
      go_wp2
      go_ret
      exact ⟨_, rfl, HO.out, HBW.out⟩
end
end Go.Proofs.YtiedgcanndgmoaaGreatDoor
