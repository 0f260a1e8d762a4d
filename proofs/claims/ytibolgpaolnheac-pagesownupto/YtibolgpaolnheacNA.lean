import Derived.Test.YtibolgpaolnheacNXw
import Derived.Test.YtibolgpaolnheacNS
import Derived.Test.YtibolgpaolnheacNG
import Derived.Test.YtibolgpaolnheacNXq
import Derived.Test.YtibolgpaolnheacNT
namespace Go.Proofs.Ytibolgpaolnheac
set_option linter.unusedVariables false
set_option linter.unusedSimpArgs false
open Go.RowKit Go.Shelf
theorem first_z (a : Option Addr) (ca : Nat) (w : World) : Calls Try.prog 32 #[.slice a 0 ca] w fun e w' => ∃ v, e = .returned v ∧ OwnU w' w.heap.size v [0, 0, 0, 0] ∧ Below w.heap.size w w' := by
  go_enter Try.func32, Try.ntmps32
  go_wp2
  go_ret
  exact ⟨_, rfl, OwnU.lit w (Nat.le_refl _) [0, 0, 0, 0] 4 rfl (by decide), al (Below.refl _ _) _⟩
/-- first of a row -/
theorem first_x (a : Option Addr) (ca T : Nat) (F : List Ent) (hT : T = F.length) (w : World) (hr : RdX w a F) : Calls Try.prog 32 #[.slice a T ca] w fun e w' => ∃ v, e = .returned v ∧ OwnU w' w.heap.size v (firstN F) ∧ Below w.heap.size w w' := by
  subst hT
  unfold firstN
  cases hF : F.head? with
  | none =>
    obtain rfl : F = [] := List.head?_eq_none_iff.1 hF
    exact first_z a ca w
  | some y => exact first_t a ca F w hr y hF
theorem flat_ge {P : List (List Ent)} (h : ∀ p ∈ P, 0 < p.length) : P.length ≤ P.flatten.length := by
  induction P with
  | nil => exact Nat.le_refl _
  | cons a l ih =>
    have h1 := h a (List.mem_cons_self ..)
    have h2 := ih (fun p hp => h p (List.mem_cons_of_mem _ hp))
    simp only [List.flatten_cons, List.length_append, List.length_cons]
    omega
theorem upL_le (P : List (List Ent)) (s : St) : (upL P s).length ≤ P.flatten.length := by unfold upL; exact List.length_filter_le _ _
theorem downL_le (P : List (List Ent)) (s : St) : (downL P s).length ≤ P.flatten.length := by unfold downL; rw [List.length_reverse]; exact List.length_filter_le _ _
section
set_option maxRecDepth 20000
set_option maxHeartbeats 6400000
theorem doc_t {w : World} {r S : Nat} {P : List (List Ent)} {v : Value} {vs : List Value} (h : RefI w r S P v vs) (ht : Tid S P) (hS : 4 ≤ S ∧ S ≤ 64) (hL : P.flatten.length ≤ 4398046511104) (kd : Int) (s1 s2 n : Nat) : Calls Try.prog 8 #[.pointer (some ⟨r, 0, none⟩), opw kd s1 s2 n] w fun e w' => ∃ p i ok v' vs' vl, PlaceIs P (s1, s2) p i ok ∧ e = .returned vl ∧ OwnU w' w.heap.size vl (ansL P kd (s1, s2) n p i ok) ∧ RefI w' r S (nextP S P kd (s1, s2) n p i ok) v' vs' ∧ (∀ b, footR r v' vs' b → footR r v vs b ∨ w.heap.size ≤ b) ∧ Chg (footR r v vs) w w' := by
  obtain ⟨w1, hw1⟩ : ∃ X : World, X = w.alloc (.cells #[.int .i64 kd, .int .u64 (s1 : Int), .int .u64 (s2 : Int), .int .u64 (n : Int)] tOp) := ⟨_, rfl⟩
  have HB1 : Hid (Below w.heap.size w w1) := (show Below w.heap.size w w1 by rw [hw1]; exact al (Below.refl _ _) _)
  have HX1 : Hid (w1.heap[w.heap.size]? = some (.cells #[.int .i64 kd, .int .u64 (s1 : Int), .int .u64 (s2 : Int), .int .u64 (n : Int)] tOp (0, 0))) := (show _ = _ by rw [hw1]; exact heap_alloc_new w _)
  have HLD : Hid ((w.alloc (.cells #[.int .i64 kd, .int .u64 (s1 : Int), .int .u64 (s2 : Int), .int .u64 (n : Int)] tOp)).rangeAt w.heap.size 1 (sc (s1, s2))) := (show World.rangeAt _ _ _ _ by
    rw [← hw1]
    exact box_off HX1.out)
  have HW1 : Hid (w1 = w.alloc (.cells #[.int .i64 kd, .int .u64 (s1 : Int), .int .u64 (s2 : Int), .int .u64 (n : Int)] tOp)) := hw1
  have HAB : Hid (∀ ob, Below w.heap.size w (w.alloc ob)) := fun ob => al (Below.refl _ _) _
  have HI : Hid (RefI w r S P v vs) := h
  have HZ : Hid (∀ ob, RefI (w.alloc ob) r S P v vs) := fun ob => h.below (al (Below.refl _ _) _)
  have HT : Hid (Tid S P) := ht
  obtain ⟨p0, i0, ok0, hp0⟩ := place_ex ht.1 (s1, s2)
  have HP0 : Hid (PlaceIs P (s1, s2) p0 i0 ok0) := hp0
  have HLP : Hid (∀ q ∈ P, q.length ≤ 100) := (fun q hq => by have := ht.2 q hq; omega)
  have hPl : P.length ≤ 4398046511104 := Nat.le_trans (flat_ge ht.1.1) hL
  have HLF : Hid (P.flatten.length ≤ 4398046511104) := hL
  clear hw1 h ht hp0 hL
  go_enter Try.func8, Try.ntmps8
  by_cases h1 : kd = 1
  · subst h1
    go_wp2_with (first | (refine wpList_load_mid rfl tSt _ rfl w.heap.size 1 rfl (sc (s1, s2)) _ HLD.out Try.underlying36 rfl info_st ?_))
    refine Calls.mono (rput_t (HZ.out _) HT.out ⟨by omega, hS.2⟩ hPl s1 s2 n) ?_
    rintro e w2 ⟨p, i, ok, v2, vs2, hpi, rfl, hi2, hft, hch⟩
    have HPI : Hid (PlaceIs P (s1, s2) p i ok) := hpi
    have HI2 : Hid _ := hi2
    have HFT : Hid (∀ b, footR r v2 vs2 b → footR r v vs b ∨ w.heap.size ≤ b) := (fun b hb => (hft b hb).imp_right (fun h9 => Nat.le_trans (HAB.out _).size h9))
    have HCH : Hid (Chg (footR r v vs) w w2) := (Chg.of_below (HAB.out _)).trans hch (fun k hk => .inl hk)
    clear hpi hi2 hft hch
    go_wp2_with fail
    refine Calls.mono (bit_b _ _) ?_
    rintro e w9 ⟨rfl, hw9⟩
    subst hw9
    go_wp2
    go_ret
    exact ⟨p, i, ok, v2, vs2, _, HPI.out, rfl, OwnU.lit w9 HCH.out.size [bitN (!ok)] 1 rfl (by decide), HI2.out.below (al (Below.refl _ _) _), HFT.out, HCH.out.trans (G := fun _ => False) (Chg.of_below (al (Below.refl _ _) _)) (fun k e => e.elim)⟩
  · have g1 : (kd == 1) = false := by simpa using h1
    by_cases h2 : kd = 2
    · subst h2
      go_wp2_with (first | (refine wpList_load_mid rfl tSt _ rfl w.heap.size 1 rfl (sc (s1, s2)) _ HLD.out Try.underlying36 rfl info_st ?_))
      refine Calls.mono (rremove_t (HZ.out _) HT.out ⟨by omega, hS.2⟩ hPl s1 s2) ?_
      rintro e w2 ⟨p, i, ok, m9, v2, vs2, hpi, rfl, h0, h1, hi2, hft, hch⟩
      have HPI : Hid (PlaceIs P (s1, s2) p i ok) := hpi
      have HI2 : Hid _ := hi2
      have HNV : Hid (m9 = if ok then ((P.getD p []).map (·.n)).getD i 0 else 0) := (show _ = _ by
        cases ok
        · exact h0 rfl
        · obtain ⟨h8, h9⟩ := h1 rfl
          rw [h9]; exact nth_n _ i h8)
      have HFT : Hid (∀ b, footR r v2 vs2 b → footR r v vs b ∨ w.heap.size ≤ b) := (fun b hb => (hft b hb).imp_right (fun h9 => Nat.le_trans (HAB.out _).size h9))
      have HCH : Hid (Chg (footR r v vs) w w2) := (Chg.of_below (HAB.out _)).trans hch (fun k hk => .inl hk)
      clear hpi hi2 hft hch h0 h1
      go_wp2_with fail
      refine Calls.mono (bit_b _ _) ?_
      rintro e w9 ⟨rfl, hw9⟩
      subst hw9
      go_wp2
      go_ret
      exact ⟨p, i, ok, v2, vs2, _, HPI.out, rfl, (show OwnU _ _ _ [if ok then ((P.getD p []).map (·.n)).getD i 0 else 0, bitN ok] by rw [← HNV.out]; exact OwnU.lit w9 HCH.out.size [m9, bitN ok] 2 rfl (by decide)), HI2.out.below (al (Below.refl _ _) _), HFT.out, HCH.out.trans (G := fun _ => False) (Chg.of_below (al (Below.refl _ _) _)) (fun k e => e.elim)⟩
    · have g2 : (kd == 2) = false := by simpa using h2
      by_cases h3 : kd = 3
      · subst h3
        obtain ⟨pa, cap, hv, hcap, hxv⟩ := (show RefI w1 r S P v vs by rw [HW1.out]; exact HZ.out _).view
        have HGT : Hid _ := rget_t hxv HT.out.1 hPl HLP.out s1 s2
        clear hv hcap hxv
        go_wp2_with (first | (refine wpList_load_mid rfl tSt _ rfl w.heap.size 1 rfl (sc (s1, s2)) _ HLD.out Try.underlying36 rfl info_st ?_))
        rw [← HW1.out]
        refine Calls.mono HGT.out ?_
        rintro e w2 ⟨p, i, ok, nv, rfl, hpi, h0, h1, hb⟩
        have HPI : Hid (PlaceIs P (s1, s2) p i ok) := hpi
        have HB2 : Hid (Below w.heap.size w w2) := below_next HB1.out hb
        have HNV : Hid (nv = if ok then ((P.getD p []).map (·.n)).getD i 0 else 0) := (show _ = _ by
          cases ok
          · exact h0 rfl
          · obtain ⟨h8, h9⟩ := h1 rfl
            rw [h9]; exact nth_n _ i h8)
        clear hpi hb h0 h1 HGT
        go_wp2_with fail
        refine Calls.mono (bit_b _ _) ?_
        rintro e w9 ⟨rfl, hw9⟩
        subst hw9
        have HB3 : Hid (∀ ob, Below w.heap.size w (w9.alloc ob)) := fun ob => HB2.out.alloc HB2.out.size ob
        go_wp2
        go_ret
        exact ⟨p, i, ok, v, vs, _, HPI.out, rfl, (show OwnU _ _ _ [if ok then ((P.getD p []).map (·.n)).getD i 0 else 0, bitN ok] by rw [← HNV.out]; exact OwnU.lit w9 HB2.out.size [nv, bitN ok] 2 rfl (by decide)), HI.out.below (HB3.out _), (fun b hb => .inl hb), Chg.of_below (HB3.out _)⟩
      · have g3 : (kd == 3) = false := by simpa using h3
        by_cases h4 : kd = 4
        · subst h4
          obtain ⟨pa, cap, hv, hcap, hxv⟩ := (show RefI w1 r S P v vs by rw [HW1.out]; exact HZ.out _).view
          have HGT : Hid _ := rall_t hxv HT.out.1.1 hPl HLF.out
          clear hv hcap hxv
          go_wp2_with fail
          rw [← HW1.out]
          refine Calls.mono HGT.out ?_
          rintro e w9 ⟨v9, rfl, hown, hb⟩
          obtain ⟨a9, c9, hv9, -⟩ := OwnX.val hown
          obtain ⟨T0, hT0⟩ : ∃ T0, T0 = P.flatten.length := ⟨_, rfl⟩
          rw [← hT0] at hv9
          subst hv9
          have HTE : Hid (T0 = P.flatten.length) := hT0
          have hTb : T0 ≤ 4398046511104 := by rw [hT0]; exact HLF.out
          have hw1 : IntKind.u64.wrap (T0 : Int) = (T0 : Int) := by rw [IntKind.wrap_u64]; omega
          have HB2 : Hid (Below w.heap.size w w9) := below_next HB1.out hb
          have HB3 : Hid (∀ ob, Below w.heap.size w (w9.alloc ob)) := fun ob => HB2.out.alloc HB2.out.size ob
          clear hT0 HGT hown hb
          go_wp2
          go_ret
          exact ⟨p0, i0, ok0, v, vs, _, HP0.out, rfl, (show OwnU _ _ _ [P.flatten.length] by rw [← HTE.out]; exact OwnU.lit w9 HB2.out.size [T0] 1 rfl (by decide)), HI.out.below (HB3.out _), (fun b hb => .inl hb), Chg.of_below (HB3.out _)⟩
        · have g4 : (kd == 4) = false := by simpa using h4
          by_cases h5 : kd = 5
          · subst h5
            obtain ⟨pa, cap, hv, hcap, hxv⟩ := (show RefI w1 r S P v vs by rw [HW1.out]; exact HZ.out _).view
            have HGT : Hid _ := rpages_t hxv hPl
            clear hv hcap hxv
            go_wp2_with fail
            rw [← HW1.out]
            refine Calls.mono HGT.out ?_
            rintro e w2 ⟨v2, rfl, hrow, hb⟩
            obtain ⟨N, hN⟩ : ∃ N, N = P.length := ⟨_, rfl⟩
            rw [← hN] at hrow
            have HN : Hid (N = P.length) := hN
            have hNb : N ≤ 4398046511104 := by omega
            obtain ⟨a2, c2, hv2, hcl2⟩ : ∃ a c, v2 = .slice a N c ∧ ∀ j (hj : j < N), ∃ g, a = some ⟨g, 0, none⟩ ∧ w2.cell? ⟨g, j, none⟩ = some (.int .i64 ((P.getD j []).length : Int)) := (by
              have h' := hrow
              rcases hrow.2 with ⟨rfl, h0⟩ | ⟨g9, cap9, cur, rfl, hB, hg, hc, hm, r⟩
              · exact ⟨none, 0, by rw [h0], fun j hj => by omega⟩
              · refine ⟨_, cap9, rfl, fun j hj => ⟨g9, rfl, ?_⟩⟩
                rw [World.ownsRow.cellAt h' j (by omega)]
                unfold cnt
                rw [List.getElem?_map, List.getElem?_eq_getElem (by omega)]
                simp [List.getD, show j < P.length by omega])
            subst hv2
            have HCE : Hid (∀ j (hj : j < N), ∃ g, a2 = some ⟨g, 0, none⟩ ∧ w2.cell? ⟨g, j, none⟩ = some (.int .i64 ((P.getD j []).length : Int))) := hcl2
            have HB2 : Hid (Below w.heap.size w w2) := below_next HB1.out hb
            clear hrow hb hcl2 HGT hN
            go_wp2_with fail
            go_loopw [5, 12] (fun l i wr => ∃ k : Nat, k ≤ N ∧ i = .int .i64 (k : Int) ∧ OwnU wr w2.heap.size l ((P.take k).map List.length) ∧ Below w2.heap.size w2 wr) (fun _ i _ => N - (intOf i).toNat)
            case atStart => exact ⟨0, Nat.zero_le _, rfl, OwnU.nil _ _, Below.refl _ _⟩
            case round =>
              obtain ⟨k, hk, rfl, hown, hbel⟩ := hrel
              have HBEL : Hid (Below w2.heap.size w2 wr) := hbel
              have HOW : Hid (OwnU wr w2.heap.size u5 ((P.take k).map List.length)) := hown
              obtain ⟨al9, cl9, hv9, -⟩ := OwnU.val hown
              obtain ⟨T0, hT0⟩ : ∃ T0, T0 = ((P.take k).map List.length).length := ⟨_, rfl⟩
              have HT0 : Hid (((P.take k).map List.length).length ≤ 4398046511104) := (show _ ≤ _ by rw [List.length_map, List.length_take]; omega)
              rw [← hT0] at hv9
              subst hv9
              clear hown hbel hT0
              by_cases hlt : k < N
              · obtain ⟨g9, rfl, hc9⟩ := HCE.out k hlt
                have hkP : k < P.length := by have := HN.out; omega
                obtain ⟨x1, hx1⟩ : ∃ x1, x1 = (P.getD k []).length := ⟨_, rfl⟩
                have eP : P.getD k [] = P[k] := by simp [List.getD, hkP]
                rw [← hx1] at hc9
                have hxb : x1 ≤ 100 := by rw [hx1, eP]; exact HLP.out _ (List.getElem_mem hkP)
                have HTK : Hid ((P.take (k + 1)).map List.length = (P.take k).map List.length ++ [x1]) := (show _ = _ by rw [List.take_succ_eq_append_getElem hkP, List.map_append, hx1, eP]; rfl)
                have hcw : wr.cell? ⟨g9, k, none⟩ = some (.int .i64 (x1 : Int)) := (HBEL.out.cell (World.block_lt_of_cell? w2 _ hc9)).trans hc9
                have hw1 : IntKind.u64.wrap (x1 : Int) = (x1 : Int) := by rw [IntKind.wrap_u64]; omega
                have hki : (k : Int) < (N : Int) := by omega
                have hk0 : (0 : Int) ≤ (k : Int) := by omega
                clear hx1 eP hc9
                go_wp2_with (first | (at_builtin; refine wp_appN rfl _ _ rfl w2.heap.size _ ((P.take k).map List.length) [x1] (by rfl) (OwnU.below HOW.out (al (Below.refl _ _) _)) _ 1 rfl (by rfl) _ rfl (heap_alloc_new wr _) (by have := HT0.out; omega) (by have := HBEL.out.size; simp; omega) ?_; intro v6 w6 hown hg; have HOWN6 : Hid _ := hown; have HBEL6 : Hid (Below w2.heap.size w2 w6) := (HBEL.out.alloc HBEL.out.size _).grown hg (by have := HBEL.out.size; simp; omega) (fun j9 h9 => (World.ownsRow.lt HOW.out j9 h9).1); clear hown hg))
                go_roundw
                case rel => exact ⟨k + 1, by omega, by go_num, by rw [HTK.out]; exact HOWN6.out, HBEL6.out⟩
                case measure => simp [intOf]; omega
              · obtain rfl : k = N := by omega
                have hkI : ¬ ((k : Int) < (k : Int)) := by omega
                have HRES : Hid ((P.take k).map List.length = P.map List.length) := (show _ = _ by rw [List.take_of_length_le (by have := HN.out; omega)])
                have HB9 : Hid (Below w.heap.size w wr) := below_next HB2.out HBEL.out
                go_wp2
                go_ret
                cases ok0
                case false => first | exact ⟨p0, i0, .inl ⟨HP0.out, v, vs, _, rfl, (show OwnU _ _ _ (P.map List.length) by rw [← HRES.out]; exact OwnU.base HOW.out HB2.out.size), HI.out.below HB9.out, (fun b hb => .inl hb), Chg.of_below HB9.out⟩⟩ | exact ⟨p0, i0, false, HP0.out, v, vs, _, rfl, (show OwnU _ _ _ (P.map List.length) by rw [← HRES.out]; exact OwnU.base HOW.out HB2.out.size), HI.out.below HB9.out, (fun b hb => .inl hb), Chg.of_below HB9.out⟩
                case true => first | exact ⟨p0, i0, .inr ⟨HP0.out, v, vs, _, rfl, (show OwnU _ _ _ (P.map List.length) by rw [← HRES.out]; exact OwnU.base HOW.out HB2.out.size), HI.out.below HB9.out, (fun b hb => .inl hb), Chg.of_below HB9.out⟩⟩ | exact ⟨p0, i0, true, HP0.out, v, vs, _, rfl, (show OwnU _ _ _ (P.map List.length) by rw [← HRES.out]; exact OwnU.base HOW.out HB2.out.size), HI.out.below HB9.out, (fun b hb => .inl hb), Chg.of_below HB9.out⟩
          · have g5 : (kd == 5) = false := by simpa using h5
            by_cases h6 : kd = 6
            · subst h6
              obtain ⟨pa, cap, hv, hcap, hxv⟩ := (show RefI w1 r S P v vs by rw [HW1.out]; exact HZ.out _).view
              have HGT : Hid _ := rplace_t hxv HT.out.1 hPl HLP.out s1 s2
              clear hv hcap hxv
              go_wp2_with (first | (refine wpList_load_mid rfl tSt _ rfl w.heap.size 1 rfl (sc (s1, s2)) _ HLD.out Try.underlying36 rfl info_st ?_))
              rw [← HW1.out]
              refine Calls.mono HGT.out ?_
              rintro e w2 ⟨p, i, ok, rfl, hpi, hb⟩
              have HPI : Hid (PlaceIs P (s1, s2) p i ok) := hpi
              have HB2 : Hid (Below w.heap.size w w2) := below_next HB1.out hb
              have hpb : p ≤ 4398046511104 ∧ i ≤ 100 := (by
                by_cases hne : P = []
                · obtain ⟨rfl, rfl, -⟩ := hpi.nil hne; omega
                · have h9 := hpi.lt hne
                  have h8 := (hpi.cut HT.out.1 h9).1
                  have h7 := HLP.out _ (List.getElem_mem h9)
                  omega)
              have hw1 : IntKind.u64.wrap (p : Int) = (p : Int) := by rw [IntKind.wrap_u64]; omega
              have hw2 : IntKind.u64.wrap (i : Int) = (i : Int) := by rw [IntKind.wrap_u64]; omega
              clear hpi hb HGT
              go_wp2_with fail
              refine Calls.mono (bit_b _ _) ?_
              rintro e w9 ⟨rfl, hw9⟩
              subst hw9
              have HB3 : Hid (∀ ob, Below w.heap.size w (w9.alloc ob)) := fun ob => HB2.out.alloc HB2.out.size ob
              go_wp2
              go_ret
              exact ⟨p, i, ok, v, vs, _, HPI.out, rfl, OwnU.lit w9 HB2.out.size [p, i, bitN ok] 3 rfl (by decide), HI.out.below (HB3.out _), (fun b hb => .inl hb), Chg.of_below (HB3.out _)⟩
            · have g6 : (kd == 6) = false := by simpa using h6
              by_cases h7 : kd = 7
              · subst h7
                obtain ⟨pa, cap, hv, hcap, hxv⟩ := (show RefI w1 r S P v vs by rw [HW1.out]; exact HZ.out _).view
                have HGT : Hid _ := rup_t hxv HT.out.1.1 hPl HLF.out s1 s2
                clear hv hcap hxv
                go_wp2_with (first | (refine wpList_load_mid rfl tSt _ rfl w.heap.size 1 rfl (sc (s1, s2)) _ HLD.out Try.underlying36 rfl info_st ?_))
                rw [← HW1.out]
                refine Calls.mono HGT.out ?_
                rintro e w2 ⟨v2, rfl, hown, hb⟩
                obtain ⟨a2, c2, hv2, -, hrd2⟩ := OwnX.val hown
                obtain ⟨T2, hT2⟩ : ∃ T2, T2 = (upL P (s1, s2)).length := ⟨_, rfl⟩
                rw [← hT2] at hv2
                subst hv2
                have HT2 : Hid (T2 = (upL P (s1, s2)).length) := hT2
                have HR2 : Hid (RdX w2 a2 (upL P (s1, s2))) := hrd2
                have hb2 : Below w1.heap.size w1 w2 := below_next (Below.refl _ _) hb
                clear hb hown hT2 hrd2
                go_wp2_with fail
                refine Calls.mono (first_x a2 c2 T2 _ HT2.out w2 HR2.out) ?_
                rintro e w3 ⟨v3, rfl, hu, hb⟩
                have HB3 : Hid (Below w.heap.size w w3) := below_next (below_next HB1.out hb2) hb
                have HU3 : Hid (OwnU w3 w.heap.size v3 (firstN (upL P (s1, s2)))) := OwnU.base hu (Nat.le_trans HB1.out.size hb2.size)
                obtain ⟨a3, c3, hv3, -⟩ := OwnU.val hu
                obtain ⟨T3, hT3⟩ : ∃ T3, T3 = (firstN (upL P (s1, s2))).length := ⟨_, rfl⟩
                rw [← hT3] at hv3
                subst hv3
                clear hb hu hb2 hT3 HGT
                go_wp2
                go_ret
                exact ⟨p0, i0, ok0, v, vs, _, HP0.out, rfl, HU3.out, HI.out.below HB3.out, (fun b hb => .inl hb), Chg.of_below HB3.out⟩
              · have g7 : (kd == 7) = false := by simpa using h7
                by_cases h8 : kd = 8
                · subst h8
                  obtain ⟨pa, cap, hv, hcap, hxv⟩ := (show RefI w1 r S P v vs by rw [HW1.out]; exact HZ.out _).view
                  have HGT : Hid _ := rdown_t hxv HT.out.1.1 hPl HLF.out s1 s2
                  clear hv hcap hxv
                  go_wp2_with (first | (refine wpList_load_mid rfl tSt _ rfl w.heap.size 1 rfl (sc (s1, s2)) _ HLD.out Try.underlying36 rfl info_st ?_))
                  rw [← HW1.out]
                  refine Calls.mono HGT.out ?_
                  rintro e w2 ⟨v2, rfl, hown, hb⟩
                  obtain ⟨a2, c2, hv2, -, hrd2⟩ := OwnX.val hown
                  obtain ⟨T2, hT2⟩ : ∃ T2, T2 = (downL P (s1, s2)).length := ⟨_, rfl⟩
                  rw [← hT2] at hv2
                  subst hv2
                  have HT2 : Hid (T2 = (downL P (s1, s2)).length) := hT2
                  have HR2 : Hid (RdX w2 a2 (downL P (s1, s2))) := hrd2
                  have hb2 : Below w1.heap.size w1 w2 := below_next (Below.refl _ _) hb
                  clear hb hown hT2 hrd2
                  go_wp2_with fail
                  refine Calls.mono (first_x a2 c2 T2 _ HT2.out w2 HR2.out) ?_
                  rintro e w3 ⟨v3, rfl, hu, hb⟩
                  have HB3 : Hid (Below w.heap.size w w3) := below_next (below_next HB1.out hb2) hb
                  have HU3 : Hid (OwnU w3 w.heap.size v3 (firstN (downL P (s1, s2)))) := OwnU.base hu (Nat.le_trans HB1.out.size hb2.size)
                  obtain ⟨a3, c3, hv3, -⟩ := OwnU.val hu
                  obtain ⟨T3, hT3⟩ : ∃ T3, T3 = (firstN (downL P (s1, s2))).length := ⟨_, rfl⟩
                  rw [← hT3] at hv3
                  subst hv3
                  clear hb hu hb2 hT3 HGT
                  go_wp2
                  go_ret
                  exact ⟨p0, i0, ok0, v, vs, _, HP0.out, rfl, HU3.out, HI.out.below HB3.out, (fun b hb => .inl hb), Chg.of_below HB3.out⟩
                · have g8 : (kd == 8) = false := by simpa using h8
                  by_cases h9 : kd = 9
                  · subst h9
                    obtain ⟨pa, cap, hv, hcap, hxv⟩ := (show RefI w1 r S P v vs by rw [HW1.out]; exact HZ.out _).view
                    have HGT : Hid _ := rup_t (hxv.below (Below.refl _ _).drew) HT.out.1.1 hPl HLF.out s1 s2
                    clear hv hcap hxv
                    have hn64 : IntKind.i64.wrap ((n : Int).tmod 64) = ((n % 64 : Nat) : Int) := by rw [Int.tmod_eq_emod_of_nonneg (by omega), IntKind.wrap_i64]; omega
                    have HEN : Hid (∀ (a2 : Option Addr) (c2 T2 : Nat) (F : List Ent) (u : World), T2 = F.length → RdX u a2 F → F.length ≤ 4398046511104 → Calls Try.prog 35 #[.slice a2 T2 c2, Value.int .i64 (IntKind.i64.wrap ((n : Int).tmod 64))] u fun e w' => ∃ v, e = .returned v ∧ OwnU w' u.heap.size v (nmE (F.take (n % 64))) ∧ Below u.heap.size u w') := (fun a2 c2 T2 F u hT hr hl => by
                      subst hT
                      rw [hn64]
                      exact entries_t a2 c2 F u hr (n % 64) (by omega) hl)
                    clear hn64
                    go_upto_region 29 with fail
                    rw [← HW1.out]
                    have hl2 : ∀ u, Below w1.heap.size w1 u → (Instr.loadAt tSt (.pointer (some ⟨w.heap.size, 1, none⟩))).run Try.prog u = .ok (sv (s1, s2)) u := fun u hu => load_st u _ _ (s1, s2) (rangeAt_below (box_off HX1.out) hu)
                    have hl5 : ∀ u, Below w1.heap.size w1 u → u.cell? ⟨w.heap.size, 3, none⟩ = some (.int .u64 (n : Int)) := fun u hu => (hu.cell (p := ⟨w.heap.size, 3, none⟩) (Array.getElem?_eq_some_iff.1 HX1.out).1).trans (by rw [cell_of_row _ _ _ _ _ _ HX1.out]; rfl)
                    refine wp_region_held_drew (S := (fun u => Below w1.heap.size w1 u)) (by kernel_rfl) (by first | exact (Below.refl _ _).drew | assumption) (fun hHeld => ?_)
                    refine take_at (i := 0) 114 (v := ?_) rfl rfl (by kernel_rfl) (by kernel_rfl) (by kernel_rfl) (fun _ _ _ h => h) (by rfl) ?_ hHeld ?_
                    rotate_left
                    · (intro w hSw; (try dsimp only at hSw); go_simp; try with_reducible rfl)
                    simp only [Act.put, List.setIfInBounds_toArray, List.set_cons_zero, List.set_cons_succ]
                    refine take_at (i := 1) 115 (v := ?_) rfl rfl (by kernel_rfl) (by kernel_rfl) (by kernel_rfl) (fun _ _ _ h => h) (by rfl) ?_ hHeld ?_
                    rotate_left
                    · (intro w hSw; (try dsimp only at hSw); go_simp; try with_reducible rfl)
                    simp only [Act.put, List.setIfInBounds_toArray, List.set_cons_zero, List.set_cons_succ]
                    refine take_at (i := 2) 116 (v := sv (s1, s2)) rfl rfl (by kernel_rfl) (by kernel_rfl) (by kernel_rfl) (fun _ _ _ h => h) (by rfl) ?_ hHeld ?_
                    · (intro w hSw; refine exec_load (by rfl) ?_; exact hl2 w hSw)
                    simp only [Act.put, List.setIfInBounds_toArray, List.set_cons_zero, List.set_cons_succ]
                    refine take_at (i := 4) 118 (v := ?_) rfl rfl (by kernel_rfl) (by kernel_rfl) (by kernel_rfl) (fun _ _ _ h => h) (by rfl) ?_ hHeld ?_
                    rotate_left
                    · (intro w hSw; (try dsimp only at hSw); go_simp; try with_reducible rfl)
                    simp only [Act.put, List.setIfInBounds_toArray, List.set_cons_zero, List.set_cons_succ]
                    refine take_at (i := 5) 119 (v := ?_) rfl rfl (by kernel_rfl) (by kernel_rfl) (by kernel_rfl) (fun _ _ _ h => h) (by rfl) ?_ hHeld ?_
                    rotate_left
                    · (intro w hSw; (try dsimp only at hSw); go_simp; try with_reducible rfl)
                    simp only [Act.put, List.setIfInBounds_toArray, List.set_cons_zero, List.set_cons_succ]
                    refine take_at (i := 6) 120 (v := ?_) rfl rfl (by kernel_rfl) (by kernel_rfl) (by kernel_rfl) (fun _ _ _ h => h) (by rfl) ?_ hHeld ?_
                    rotate_left
                    · (intro w hSw; (try dsimp only at hSw); go_simp; try with_reducible rfl)
                    simp only [Act.put, List.setIfInBounds_toArray, List.set_cons_zero, List.set_cons_succ]
                    refine take_at (i := 7) 121 (v := ?_) rfl rfl (by kernel_rfl) (by kernel_rfl) (by kernel_rfl) (fun _ _ _ h => h) (by rfl) ?_ hHeld ?_
                    rotate_left
                    · (intro w hSw; (try dsimp only at hSw); go_simp; try with_reducible rfl)
                    simp only [Act.put, List.setIfInBounds_toArray, List.set_cons_zero, List.set_cons_succ]
                    refine run_at (i := 3) rfl (by kernel_rfl) (by rfl) (fun K hK => ?_)
                    simp only [List.getElem_toArray, List.getElem_cons_zero, List.getElem_cons_succ]
                    go_simp
                    first | (go_at_call 35; refine Calls.mono (HEN.out a2 c2 T2 _ w2 HT2.out HR2.out (Nat.le_trans (upL_le _ _) HLF.out)) ?_; rintro e w3 ⟨v3, rfl, hu3, hb⟩; have hb3 : Below w1.heap.size w1 w3 := below_next hb2 hb; have HU3 : Hid (OwnU w3 w2.heap.size v3 (nmE ((upL P (s1, s2)).take (n % 64)))) := hu3; have HZ2 : Hid (w1.heap.size ≤ w2.heap.size) := hb2.size; obtain ⟨a3, c3, hv3, -⟩ := OwnU.val hu3; obtain ⟨T3, hT3⟩ : ∃ T3, T3 = (nmE ((upL P (s1, s2)).take (n % 64))).length := ⟨_, rfl⟩; rw [← hT3] at hv3; subst hv3; clear hb hu3 hT3) | (go_at_call 33; refine Calls.mono HGT.out ?_; rintro e w2 ⟨v2, rfl, hown, hb⟩; obtain ⟨a2, c2, hv2, -, hrd2⟩ := OwnX.val hown; obtain ⟨T2, hT2⟩ : ∃ T2, T2 = (upL P (s1, s2)).length := ⟨_, rfl⟩; rw [← hT2] at hv2; subst hv2; have HT2 : Hid (T2 = (upL P (s1, s2)).length) := hT2; have HR2 : Hid (RdX w2 a2 (upL P (s1, s2))) := hrd2; have hb2 : Below w1.heap.size w1 w2 := below_next (Below.refl _ _).drew hb; clear hb hown hT2 hrd2)
                    go_wp2_with fail
                    refine hK.out _ _ (by first | exact (Below.refl _ _).drew | assumption) ?_
                    clear hK K
                    intro hHeld2
                    clear hHeld
                    have hHeld := hHeld2
                    clear hHeld2
                    try simp only [Act.put, List.setIfInBounds_toArray, List.set_cons_zero, List.set_cons_succ]
                    refine run_at (i := 8) rfl (by kernel_rfl) (by rfl) (fun K hK => ?_)
                    simp only [List.getElem_toArray, List.getElem_cons_zero, List.getElem_cons_succ]
                    go_simp
                    first | (go_at_call 35; refine Calls.mono (HEN.out a2 c2 T2 _ w2 HT2.out HR2.out (Nat.le_trans (upL_le _ _) HLF.out)) ?_; rintro e w3 ⟨v3, rfl, hu3, hb⟩; have hb3 : Below w1.heap.size w1 w3 := below_next hb2 hb; have HU3 : Hid (OwnU w3 w2.heap.size v3 (nmE ((upL P (s1, s2)).take (n % 64)))) := hu3; have HZ2 : Hid (w1.heap.size ≤ w2.heap.size) := hb2.size; obtain ⟨a3, c3, hv3, -⟩ := OwnU.val hu3; obtain ⟨T3, hT3⟩ : ∃ T3, T3 = (nmE ((upL P (s1, s2)).take (n % 64))).length := ⟨_, rfl⟩; rw [← hT3] at hv3; subst hv3; clear hb hu3 hT3) | (go_at_call 33; refine Calls.mono HGT.out ?_; rintro e w2 ⟨v2, rfl, hown, hb⟩; obtain ⟨a2, c2, hv2, -, hrd2⟩ := OwnX.val hown; obtain ⟨T2, hT2⟩ : ∃ T2, T2 = (upL P (s1, s2)).length := ⟨_, rfl⟩; rw [← hT2] at hv2; subst hv2; have HT2 : Hid (T2 = (upL P (s1, s2)).length) := hT2; have HR2 : Hid (RdX w2 a2 (upL P (s1, s2))) := hrd2; have hb2 : Below w1.heap.size w1 w2 := below_next (Below.refl _ _).drew hb; clear hb hown hT2 hrd2)
                    go_wp2_with fail
                    refine hK.out _ _ (by first | exact (Below.refl _ _).drew | assumption) ?_
                    clear hK K
                    intro hHeld2
                    clear hHeld
                    have hHeld := hHeld2
                    clear hHeld2
                    try simp only [Act.put, List.setIfInBounds_toArray, List.set_cons_zero, List.set_cons_succ]
                    refine take_at (i := 9) 4 (v := ?_) rfl rfl (by kernel_rfl) (by kernel_rfl) (by kernel_rfl) (fun _ _ _ h => h) (by rfl) ?_ hHeld ?_
                    rotate_left
                    · (intro w hSw; (try dsimp only at hSw); go_simp; try with_reducible rfl)
                    simp only [Act.put, List.setIfInBounds_toArray, List.set_cons_zero, List.set_cons_succ]
                    refine wpAnyH_done (by kernel_rfl) ?_ _
                    have HB3 : Hid (Below w.heap.size w w3) := below_next HB1.out hb3
                    clear hb3 hb2 hl2 hl5 HGT
                    go_wp2
                    go_ret
                    exact ⟨p0, i0, ok0, v, vs, _, HP0.out, rfl, OwnU.base HU3.out (Nat.le_trans HB1.out.size HZ2.out), HI.out.below HB3.out, (fun b hb => .inl hb), Chg.of_below HB3.out⟩
                  · have g9 : (kd == 9) = false := by simpa using h9
                    by_cases h10 : kd = 10
                    · subst h10
                      obtain ⟨pa, cap, hv, hcap, hxv⟩ := (show RefI w1 r S P v vs by rw [HW1.out]; exact HZ.out _).view
                      have HGT : Hid _ := rdown_t (hxv.below (Below.refl _ _).drew) HT.out.1.1 hPl HLF.out s1 s2
                      clear hv hcap hxv
                      have hn64 : IntKind.i64.wrap ((n : Int).tmod 64) = ((n % 64 : Nat) : Int) := by rw [Int.tmod_eq_emod_of_nonneg (by omega), IntKind.wrap_i64]; omega
                      have HEN : Hid (∀ (a2 : Option Addr) (c2 T2 : Nat) (F : List Ent) (u : World), T2 = F.length → RdX u a2 F → F.length ≤ 4398046511104 → Calls Try.prog 35 #[.slice a2 T2 c2, Value.int .i64 (IntKind.i64.wrap ((n : Int).tmod 64))] u fun e w' => ∃ v, e = .returned v ∧ OwnU w' u.heap.size v (nmE (F.take (n % 64))) ∧ Below u.heap.size u w') := (fun a2 c2 T2 F u hT hr hl => by
                        subst hT
                        rw [hn64]
                        exact entries_t a2 c2 F u hr (n % 64) (by omega) hl)
                      clear hn64
                      go_upto_region 31 with fail
                      rw [← HW1.out]
                      have hl2 : ∀ u, Below w1.heap.size w1 u → (Instr.loadAt tSt (.pointer (some ⟨w.heap.size, 1, none⟩))).run Try.prog u = .ok (sv (s1, s2)) u := fun u hu => load_st u _ _ (s1, s2) (rangeAt_below (box_off HX1.out) hu)
                      have hl5 : ∀ u, Below w1.heap.size w1 u → u.cell? ⟨w.heap.size, 3, none⟩ = some (.int .u64 (n : Int)) := fun u hu => (hu.cell (p := ⟨w.heap.size, 3, none⟩) (Array.getElem?_eq_some_iff.1 HX1.out).1).trans (by rw [cell_of_row _ _ _ _ _ _ HX1.out]; rfl)
                      refine wp_region_held_drew (S := (fun u => Below w1.heap.size w1 u)) (by kernel_rfl) (by first | exact (Below.refl _ _).drew | assumption) (fun hHeld => ?_)
                      refine take_at (i := 0) 125 (v := ?_) rfl rfl (by kernel_rfl) (by kernel_rfl) (by kernel_rfl) (fun _ _ _ h => h) (by rfl) ?_ hHeld ?_
                      rotate_left
                      · (intro w hSw; (try dsimp only at hSw); go_simp; try with_reducible rfl)
                      simp only [Act.put, List.setIfInBounds_toArray, List.set_cons_zero, List.set_cons_succ]
                      refine take_at (i := 1) 126 (v := ?_) rfl rfl (by kernel_rfl) (by kernel_rfl) (by kernel_rfl) (fun _ _ _ h => h) (by rfl) ?_ hHeld ?_
                      rotate_left
                      · (intro w hSw; (try dsimp only at hSw); go_simp; try with_reducible rfl)
                      simp only [Act.put, List.setIfInBounds_toArray, List.set_cons_zero, List.set_cons_succ]
                      refine take_at (i := 2) 127 (v := sv (s1, s2)) rfl rfl (by kernel_rfl) (by kernel_rfl) (by kernel_rfl) (fun _ _ _ h => h) (by rfl) ?_ hHeld ?_
                      · (intro w hSw; refine exec_load (by rfl) ?_; exact hl2 w hSw)
                      simp only [Act.put, List.setIfInBounds_toArray, List.set_cons_zero, List.set_cons_succ]
                      refine take_at (i := 4) 129 (v := ?_) rfl rfl (by kernel_rfl) (by kernel_rfl) (by kernel_rfl) (fun _ _ _ h => h) (by rfl) ?_ hHeld ?_
                      rotate_left
                      · (intro w hSw; (try dsimp only at hSw); go_simp; try with_reducible rfl)
                      simp only [Act.put, List.setIfInBounds_toArray, List.set_cons_zero, List.set_cons_succ]
                      refine take_at (i := 5) 130 (v := ?_) rfl rfl (by kernel_rfl) (by kernel_rfl) (by kernel_rfl) (fun _ _ _ h => h) (by rfl) ?_ hHeld ?_
                      rotate_left
                      · (intro w hSw; (try dsimp only at hSw); go_simp; try with_reducible rfl)
                      simp only [Act.put, List.setIfInBounds_toArray, List.set_cons_zero, List.set_cons_succ]
                      refine take_at (i := 6) 131 (v := ?_) rfl rfl (by kernel_rfl) (by kernel_rfl) (by kernel_rfl) (fun _ _ _ h => h) (by rfl) ?_ hHeld ?_
                      rotate_left
                      · (intro w hSw; (try dsimp only at hSw); go_simp; try with_reducible rfl)
                      simp only [Act.put, List.setIfInBounds_toArray, List.set_cons_zero, List.set_cons_succ]
                      refine take_at (i := 7) 132 (v := ?_) rfl rfl (by kernel_rfl) (by kernel_rfl) (by kernel_rfl) (fun _ _ _ h => h) (by rfl) ?_ hHeld ?_
                      rotate_left
                      · (intro w hSw; (try dsimp only at hSw); go_simp; try with_reducible rfl)
                      simp only [Act.put, List.setIfInBounds_toArray, List.set_cons_zero, List.set_cons_succ]
                      refine run_at (i := 3) rfl (by kernel_rfl) (by rfl) (fun K hK => ?_)
                      simp only [List.getElem_toArray, List.getElem_cons_zero, List.getElem_cons_succ]
                      go_simp
                      first | (go_at_call 35; refine Calls.mono (HEN.out a2 c2 T2 _ w2 HT2.out HR2.out (Nat.le_trans (downL_le _ _) HLF.out)) ?_; rintro e w3 ⟨v3, rfl, hu3, hb⟩; have hb3 : Below w1.heap.size w1 w3 := below_next hb2 hb; have HU3 : Hid (OwnU w3 w2.heap.size v3 (nmE ((downL P (s1, s2)).take (n % 64)))) := hu3; have HZ2 : Hid (w1.heap.size ≤ w2.heap.size) := hb2.size; obtain ⟨a3, c3, hv3, -⟩ := OwnU.val hu3; obtain ⟨T3, hT3⟩ : ∃ T3, T3 = (nmE ((downL P (s1, s2)).take (n % 64))).length := ⟨_, rfl⟩; rw [← hT3] at hv3; subst hv3; clear hb hu3 hT3) | (go_at_call 34; refine Calls.mono HGT.out ?_; rintro e w2 ⟨v2, rfl, hown, hb⟩; obtain ⟨a2, c2, hv2, -, hrd2⟩ := OwnX.val hown; obtain ⟨T2, hT2⟩ : ∃ T2, T2 = (downL P (s1, s2)).length := ⟨_, rfl⟩; rw [← hT2] at hv2; subst hv2; have HT2 : Hid (T2 = (downL P (s1, s2)).length) := hT2; have HR2 : Hid (RdX w2 a2 (downL P (s1, s2))) := hrd2; have hb2 : Below w1.heap.size w1 w2 := below_next (Below.refl _ _).drew hb; clear hb hown hT2 hrd2)
                      go_wp2_with fail
                      refine hK.out _ _ (by first | exact (Below.refl _ _).drew | assumption) ?_
                      clear hK K
                      intro hHeld2
                      clear hHeld
                      have hHeld := hHeld2
                      clear hHeld2
                      try simp only [Act.put, List.setIfInBounds_toArray, List.set_cons_zero, List.set_cons_succ]
                      refine run_at (i := 8) rfl (by kernel_rfl) (by rfl) (fun K hK => ?_)
                      simp only [List.getElem_toArray, List.getElem_cons_zero, List.getElem_cons_succ]
                      go_simp
                      first | (go_at_call 35; refine Calls.mono (HEN.out a2 c2 T2 _ w2 HT2.out HR2.out (Nat.le_trans (downL_le _ _) HLF.out)) ?_; rintro e w3 ⟨v3, rfl, hu3, hb⟩; have hb3 : Below w1.heap.size w1 w3 := below_next hb2 hb; have HU3 : Hid (OwnU w3 w2.heap.size v3 (nmE ((downL P (s1, s2)).take (n % 64)))) := hu3; have HZ2 : Hid (w1.heap.size ≤ w2.heap.size) := hb2.size; obtain ⟨a3, c3, hv3, -⟩ := OwnU.val hu3; obtain ⟨T3, hT3⟩ : ∃ T3, T3 = (nmE ((downL P (s1, s2)).take (n % 64))).length := ⟨_, rfl⟩; rw [← hT3] at hv3; subst hv3; clear hb hu3 hT3) | (go_at_call 34; refine Calls.mono HGT.out ?_; rintro e w2 ⟨v2, rfl, hown, hb⟩; obtain ⟨a2, c2, hv2, -, hrd2⟩ := OwnX.val hown; obtain ⟨T2, hT2⟩ : ∃ T2, T2 = (downL P (s1, s2)).length := ⟨_, rfl⟩; rw [← hT2] at hv2; subst hv2; have HT2 : Hid (T2 = (downL P (s1, s2)).length) := hT2; have HR2 : Hid (RdX w2 a2 (downL P (s1, s2))) := hrd2; have hb2 : Below w1.heap.size w1 w2 := below_next (Below.refl _ _).drew hb; clear hb hown hT2 hrd2)
                      go_wp2_with fail
                      refine hK.out _ _ (by first | exact (Below.refl _ _).drew | assumption) ?_
                      clear hK K
                      intro hHeld2
                      clear hHeld
                      have hHeld := hHeld2
                      clear hHeld2
                      try simp only [Act.put, List.setIfInBounds_toArray, List.set_cons_zero, List.set_cons_succ]
                      refine take_at (i := 9) 4 (v := ?_) rfl rfl (by kernel_rfl) (by kernel_rfl) (by kernel_rfl) (fun _ _ _ h => h) (by rfl) ?_ hHeld ?_
                      rotate_left
                      · (intro w hSw; (try dsimp only at hSw); go_simp; try with_reducible rfl)
                      simp only [Act.put, List.setIfInBounds_toArray, List.set_cons_zero, List.set_cons_succ]
                      refine wpAnyH_done (by kernel_rfl) ?_ _
                      have HB3 : Hid (Below w.heap.size w w3) := below_next HB1.out hb3
                      clear hb3 hb2 hl2 hl5 HGT
                      go_wp2
                      go_ret
                      exact ⟨p0, i0, ok0, v, vs, _, HP0.out, rfl, OwnU.base HU3.out (Nat.le_trans HB1.out.size HZ2.out), HI.out.below HB3.out, (fun b hb => .inl hb), Chg.of_below HB3.out⟩
                    · have g10 : (kd == 10) = false := by simpa using h10
                      have HNL : Hid (∀ p i ok, ansL P kd (s1, s2) n p i ok = [] ∧ nextP S P kd (s1, s2) n p i ok = P) := (fun p i ok => by
                        unfold ansL nextP
                        rw [if_neg h1, if_neg h2, if_neg h3, if_neg h4, if_neg h5, if_neg h6, if_neg h7, if_neg h8, if_neg h9, if_neg h10, if_neg h1, if_neg h2]
                        exact ⟨rfl, rfl⟩)
                      go_wp2
                      go_ret
                      exact ⟨p0, i0, ok0, v, vs, _, HP0.out, rfl, by rw [(HNL.out _ _ _).1]; exact OwnU.nil _ _, by rw [(HNL.out _ _ _).2]; exact HZ.out _, (fun b hb => .inl hb), Chg.of_below (HAB.out _)⟩
end
end Go.Proofs.Ytibolgpaolnheac
namespace Go.Proofs.Ytibolgpaolnheac
set_option linter.unusedVariables false
set_option linter.unusedSimpArgs false
open Go.RowKit Go.Maps
section
set_option maxRecDepth 20000
set_option maxHeartbeats 3200000
theorem newU_no (z : Int) (hz : z < 4 ∨ 64 < z) (w : World) : Calls Try.prog 14 #[.int .i64 z] w fun er w' => er = .returned (.tuple #[.pointer none, .int .i64 1]) ∧ w' = w := by
  by_cases h1 : z < 4
  · go_enter Try.func14, Try.ntmps14
    go_wp2
    refine bodyPost_ret (results_tmp2 rfl _ _ _) rfl ?_
    exact ⟨rfl, rfl⟩
  · have h2 : 64 < z := by omega
    go_enter Try.func14, Try.ntmps14
    go_wp2
    refine bodyPost_ret (results_tmp2 rfl _ _ _) rfl ?_
    exact ⟨rfl, rfl⟩
theorem newR_no (z : Int) (hz : z < 4 ∨ 64 < z) (w : World) : Calls Try.prog 15 #[.int .i64 z] w fun er w' => er = .returned (.tuple #[.pointer none, .int .i64 1]) ∧ w' = w := by
  by_cases h1 : z < 4
  · go_enter Try.func15, Try.ntmps15
    go_wp2
    refine bodyPost_ret (results_tmp2 rfl _ _ _) rfl ?_
    exact ⟨rfl, rfl⟩
  · have h2 : 64 < z := by omega
    go_enter Try.func15, Try.ntmps15
    go_wp2
    refine bodyPost_ret (results_tmp2 rfl _ _ _) rfl ?_
    exact ⟨rfl, rfl⟩
theorem newR_t (S : Nat) (hS : 4 ≤ S ∧ S ≤ 64) (w : World) : Calls Try.prog 15 #[.int .i64 (S : Int)] w fun er w' => er = .returned (.tuple #[.pointer (some ⟨w.heap.size, 0, none⟩), .int .i64 0]) ∧ RefI w' w.heap.size S [] (.slice none 0 0) [] ∧ Below w.heap.size w w' := by
  have h1 : ¬ (S : Int) < 4 := by omega
  have h2 : ¬ (64 : Int) < (S : Int) := by omega
  have h3 : (S : Int) ≤ 64 := by omega
  go_enter Try.func15, Try.ntmps15
  go_wp2
  refine bodyPost_ret (results_tmp2 rfl _ _ _) rfl ?_
  exact ⟨rfl, ⟨heap_alloc_new w _, World.ownsRow_nil _ _ _ _, fun j hj => absurd hj (Nat.not_lt_zero _), List.Pairwise.nil⟩, al (Below.refl _ _) _⟩
/-- begin, where the size fits -/
theorem begin_t (S : Nat) (hS : 4 ≤ S ∧ S ≤ 64) (w : World) : Calls Try.prog 6 #[.int .i64 (S : Int)] w fun e w' => ∃ g r, e = .returned (.tuple #[.pointer (some ⟨g, 0, none⟩), .pointer (some ⟨r, 0, none⟩), .bool true]) ∧ IdxAt w' g S [] (.slice none 0 0) [] ∧ RefI w' r S [] (.slice none 0 0) [] ∧ w.heap.size ≤ g ∧ w.heap.size ≤ r ∧ Below w.heap.size w w' := by
  go_enter Try.func6, Try.ntmps6
  go_wp2_with fail
  refine Calls.mono (newU_t S hS w) ?_
  rintro e w1 ⟨rfl, hi, hb1⟩
  have HI : Hid (IdxAt w1 w.heap.size S [] (.slice none 0 0) []) := hi
  have HB1 : Hid (Below w.heap.size w w1) := hb1
  clear hi hb1
  go_wp2_with fail
  refine Calls.mono (newR_t S hS w1) ?_
  rintro e w2 ⟨rfl, hr, hb2⟩
  have HR : Hid (RefI w2 w1.heap.size S [] (.slice none 0 0) []) := hr
  have HI2 : Hid (IdxAt w2 w.heap.size S [] (.slice none 0 0) []) := HI.out.below hb2
  have HB2 : Hid (Below w.heap.size w w2) := below_next HB1.out hb2
  clear hr hb2
  go_wp2_with fail
  refine Calls.mono (num_t 0 w2) ?_
  rintro e w3 ⟨rfl, hw3⟩
  subst hw3
  go_wp2
  refine bodyPost_ret (results_tmp3 rfl _ _ _) rfl ?_
  exact ⟨_, _, rfl, HI2.out, HR.out, Nat.le_refl _, HB1.out.size, HB2.out⟩
/-- begin, where it does not -/
theorem begin_no (z : Int) (hz : z < 4 ∨ 64 < z) (w : World) : Calls Try.prog 6 #[.int .i64 z] w fun e w' => e = .returned (.tuple #[.pointer none, .pointer none, .bool true]) ∧ w' = w := by
  have HZ : Hid (z < 4 ∨ 64 < z) := hz
  clear hz
  go_enter Try.func6, Try.ntmps6
  go_wp2_with fail
  refine Calls.mono (newU_no z HZ.out w) ?_
  rintro e w1 ⟨rfl, hw1⟩
  subst hw1
  go_wp2_with fail
  refine Calls.mono (newR_no z HZ.out w1) ?_
  rintro e w2 ⟨rfl, hw2⟩
  subst hw2
  go_wp2_with fail
  refine Calls.mono (num_t 1 w2) ?_
  rintro e w3 ⟨rfl, hw3⟩
  subst hw3
  go_wp2
  refine bodyPost_ret (results_tmp3 rfl _ _ _) rfl ?_
  exact ⟨rfl, rfl⟩
end
end Go.Proofs.Ytibolgpaolnheac
namespace Go.Proofs.Ytibolgpaolnheac
set_option linter.unusedVariables false
set_option linter.unusedSimpArgs false
open Go.RowKit Go.Shelf
theorem info_op4 : (Try.prog.info? tOp).map (·.size) = some 4 := by kernel_rfl
section
set_option maxRecDepth 20000
set_option maxHeartbeats 6400000
theorem ask0_t {w : World} {x : Value} (h : Zero w x) (kd : Int) (s1 s2 n : Nat) : Calls Try.prog 7 #[x, opw kd s1 s2 n] w fun e w' => ∃ v, e = .returned v ∧ OwnU w' w.heap.size v (nilL kd) ∧ Below w.heap.size w w' := by
  obtain ⟨w1, hw1⟩ : ∃ X : World, X = w.alloc (.cells #[.int .i64 kd, .int .u64 (s1 : Int), .int .u64 (s2 : Int), .int .u64 (n : Int)] tOp) := ⟨_, rfl⟩
  have HB1 : Hid (Below w.heap.size w w1) := (show Below w.heap.size w w1 by rw [hw1]; exact al (Below.refl _ _) _)
  have HX1 : Hid (w1.heap[w.heap.size]? = some (.cells #[.int .i64 kd, .int .u64 (s1 : Int), .int .u64 (s2 : Int), .int .u64 (n : Int)] tOp (0, 0))) := (show _ = _ by rw [hw1]; exact heap_alloc_new w _)
  have HLD : Hid ((w.alloc (.cells #[.int .i64 kd, .int .u64 (s1 : Int), .int .u64 (s2 : Int), .int .u64 (n : Int)] tOp)).rangeAt w.heap.size 1 (sc (s1, s2))) := (show World.rangeAt _ _ _ _ by
    rw [← hw1]
    exact box_off HX1.out)
  have HLO : Hid ((w.alloc (.cells #[.int .i64 kd, .int .u64 (s1 : Int), .int .u64 (s2 : Int), .int .u64 (n : Int)] tOp)).rangeAt w.heap.size 0 [.int .i64 kd, .int .u64 (s1 : Int), .int .u64 (s2 : Int), .int .u64 (n : Int)]) := (show World.rangeAt _ _ _ _ by
    rw [← hw1]
    exact box_range HX1.out)
  have HW1 : Hid (w1 = w.alloc (.cells #[.int .i64 kd, .int .u64 (s1 : Int), .int .u64 (s2 : Int), .int .u64 (n : Int)] tOp)) := hw1
  have HAB : Hid (∀ ob, Below w.heap.size w (w.alloc ob)) := fun ob => al (Below.refl _ _) _
  have HZ : Hid (∀ ob, Zero (w.alloc ob) x) := fun ob => h.below (al (Below.refl _ _) _)
  obtain ⟨px, rfl⟩ : ∃ g, x = .pointer g := by rcases h with rfl | ⟨g, rfl, -⟩ <;> exact ⟨_, rfl⟩
  clear hw1 h
  go_enter Try.func7, Try.ntmps7
  by_cases h1 : kd = 1
  · subst h1
    go_wp2_with (first | (refine wpList_load_mid rfl tSt _ rfl w.heap.size 1 rfl (sc (s1, s2)) _ HLD.out Try.underlying36 rfl info_st ?_))
    refine Calls.mono (put0_t (HZ.out _) (s1, s2) n) ?_
    rintro e w2 ⟨rfl, hb⟩
    have HB2 : Hid (Below w.heap.size w w2) := below_next (HAB.out _) hb
    clear hb
    go_wp2_with fail
    refine Calls.mono (bit_f _) ?_
    rintro e w9 ⟨rfl, hw9⟩
    subst hw9
    go_wp2
    go_ret
    exact ⟨_, rfl, OwnU.lit w9 HB2.out.size [0] 1 rfl (by decide), HB2.out.alloc HB2.out.size _⟩
  · have g1 : (kd == 1) = false := by simpa using h1
    by_cases h2 : kd = 2
    · subst h2
      go_wp2_with (first | (refine wpList_load_mid rfl tSt _ rfl w.heap.size 1 rfl (sc (s1, s2)) _ HLD.out Try.underlying36 rfl info_st ?_))
      refine Calls.mono (remove0_t (HZ.out _) s1 s2) ?_
      rintro e w2 ⟨rfl, hb⟩
      have HB2 : Hid (Below w.heap.size w w2) := below_next (HAB.out _) hb
      clear hb
      go_wp2_with fail
      refine Calls.mono (bit_f _) ?_
      rintro e w9 ⟨rfl, hw9⟩
      subst hw9
      go_wp2
      go_ret
      exact ⟨_, rfl, OwnU.lit w9 HB2.out.size [0, 0] 2 rfl (by decide), HB2.out.alloc HB2.out.size _⟩
    · have g2 : (kd == 2) = false := by simpa using h2
      by_cases h3 : kd = 3
      · subst h3
        go_wp2_with (first | (refine wpList_load_mid rfl tSt _ rfl w.heap.size 1 rfl (sc (s1, s2)) _ HLD.out Try.underlying36 rfl info_st ?_))
        refine Calls.mono (get0_t (HZ.out _) s1 s2) ?_
        rintro e w2 ⟨rfl, hb⟩
        have HB2 : Hid (Below w.heap.size w w2) := below_next (HAB.out _) hb
        clear hb
        go_wp2_with fail
        refine Calls.mono (bit_f _) ?_
        rintro e w9 ⟨rfl, hw9⟩
        subst hw9
        go_wp2
        go_ret
        exact ⟨_, rfl, OwnU.lit w9 HB2.out.size [0, 0] 2 rfl (by decide), HB2.out.alloc HB2.out.size _⟩
      · have g3 : (kd == 3) = false := by simpa using h3
        by_cases h4 : kd = 4
        · subst h4
          go_wp2_with fail
          rw [← HW1.out]
          have HL9 : Hid _ := len_t (.pointer px) none 0 0 [] w1 (show Zero w1 _ by rw [HW1.out]; exact HZ.out _).pg rfl (fun j hj => absurd hj (Nat.not_lt_zero _)) (by decide) (fun p hp => by cases hp)
          refine Calls.mono HL9.out ?_
          rintro e w9 ⟨rfl, hw9⟩
          subst hw9
          go_wp2
          go_ret
          exact ⟨_, rfl, OwnU.lit w9 HB1.out.size [0] 1 rfl (by decide), HB1.out.alloc HB1.out.size _⟩
        · have g4 : (kd == 4) = false := by simpa using h4
          by_cases h5 : kd = 5
          · subst h5
            go_wp2_with fail
            rw [← HW1.out]
            have HL9 : Hid _ := pages_t (.pointer px) none 0 0 [] w1 (show Zero w1 _ by rw [HW1.out]; exact HZ.out _).pg rfl (fun j hj => absurd hj (Nat.not_lt_zero _)) (by decide)
            refine Calls.mono HL9.out ?_
            rintro e w2 ⟨v2, rfl, hrow, hb⟩
            have HB2 : Hid (Below w.heap.size w w2) := below_next HB1.out hb
            obtain ⟨a2, c2, rfl⟩ : ∃ a c, v2 = .slice a 0 c := (by
              rcases hrow.2 with ⟨rfl, -⟩ | ⟨g, cap, cur, rfl, -⟩
              · exact ⟨_, _, rfl⟩
              · exact ⟨_, _, rfl⟩)
            clear hrow hb HL9
            go_wp2_with fail
            go_loopw [5, 13] (fun l i wr => l = .slice none 0 0 ∧ i = .int .i64 0 ∧ Below w.heap.size w wr) (fun _ _ _ => 0)
            case atStart => exact ⟨rfl, rfl, HB2.out⟩
            case round =>
              obtain ⟨rfl, rfl, hb⟩ := hrel
              have HB3 : Hid (Below w.heap.size w wr) := hb
              clear hb
              go_wp2
              go_ret
              exact ⟨_, rfl, OwnU.nil _ _, HB3.out⟩
          · have g5 : (kd == 5) = false := by simpa using h5
            by_cases h6 : kd = 6
            · subst h6
              go_wp2_with (first | (refine wpList_load_mid rfl tSt _ rfl w.heap.size 1 rfl (sc (s1, s2)) _ HLD.out Try.underlying36 rfl info_st ?_))
              refine Calls.mono (place0_t (HZ.out _) (s1, s2)) ?_
              rintro e w2 ⟨rfl, hb⟩
              have HB2 : Hid (Below w.heap.size w w2) := below_next (HAB.out _) hb
              clear hb
              go_wp2_with fail
              refine Calls.mono (bit_f _) ?_
              rintro e w9 ⟨rfl, hw9⟩
              subst hw9
              go_wp2
              go_ret
              exact ⟨_, rfl, OwnU.lit w9 HB2.out.size [0, 0, 0] 3 rfl (by decide), HB2.out.alloc HB2.out.size _⟩
            · have g6 : (kd == 6) = false := by simpa using h6
              by_cases h7 : kd = 7
              · subst h7
                go_wp2_with (first | (refine wpList_load_mid rfl tSt _ rfl w.heap.size 1 rfl (sc (s1, s2)) _ HLD.out Try.underlying36 rfl info_st ?_))
                refine Calls.mono (least0_t (.pointer px) none 0 (.inl ⟨rfl, rfl⟩) s1 s2 _ (HZ.out _).pg) ?_
                rintro e w2 ⟨rfl, hb⟩
                have HB2 : Hid (Below w.heap.size w w2) := below_next (HAB.out _) hb
                clear hb
                obtain ⟨w3, hw3⟩ : ∃ Y : World, Y = w2.alloc (.cells #[.int .u64 0, .int .u64 0] tSt) := ⟨_, rfl⟩
                have HB3 : Hid (Below w.heap.size w w3) := (show Below _ _ _ by rw [hw3]; exact HB2.out.alloc HB2.out.size _)
                have HX3 : Hid (w3.heap[w2.heap.size]? = some (.cells #[.int .u64 0, .int .u64 0] tSt (0, 0))) := (show _ = _ by rw [hw3]; exact heap_alloc_new w2 _)
                have hl3 : ∀ u, Below w3.heap.size w3 u → (Instr.loadAt tSt (.pointer (some ⟨w2.heap.size, 0, none⟩))).run Try.prog u = .ok (sv (0, 0)) u := fun u hu => load_st u _ _ (0, 0) (rangeAt_below (box_range HX3.out) hu)
                go_upto_region 27 with fail
                rw [← hw3]
                clear hw3
                refine wp_region_held_drew (S := (fun u => Below w3.heap.size w3 u)) (by kernel_rfl) (by first | exact (Below.refl _ _).drew | assumption | exact al (Below.refl _ _).drew _) (fun hHeld => ?_)
                refine take_at (i := 0) 115 (v := ?_) rfl rfl (by kernel_rfl) (by kernel_rfl) (by kernel_rfl) (fun _ _ _ h => h) (by rfl) ?_ hHeld ?_
                rotate_left
                · (intro w hSw; (try dsimp only at hSw); go_simp; try with_reducible rfl)
                simp only [Act.put, List.setIfInBounds_toArray, List.set_cons_zero, List.set_cons_succ]
                refine take_at (i := 3) 118 (v := sv (0, 0)) rfl rfl (by kernel_rfl) (by kernel_rfl) (by kernel_rfl) (fun _ _ _ h => h) (by rfl) ?_ hHeld ?_
                · (intro w hSw; refine exec_load (by rfl) ?_; exact hl3 w hSw)
                simp only [Act.put, List.setIfInBounds_toArray, List.set_cons_zero, List.set_cons_succ]
                refine take_at (i := 4) 119 (v := ?_) rfl rfl (by kernel_rfl) (by kernel_rfl) (by kernel_rfl) (fun _ _ _ h => h) (by rfl) ?_ hHeld ?_
                rotate_left
                · (intro w hSw; (try dsimp only at hSw); go_simp; try with_reducible rfl)
                simp only [Act.put, List.setIfInBounds_toArray, List.set_cons_zero, List.set_cons_succ]
                refine run_at (i := 1) rfl (by kernel_rfl) (by rfl) (fun K hK => ?_)
                simp only [List.getElem_toArray, List.getElem_cons_zero, List.getElem_cons_succ]
                go_simp
                first | (go_at_call 18; refine Calls.mono (bit_f _) ?_; rintro e w9 ⟨rfl, hw9⟩; subst hw9) | (go_at_call 24; refine Calls.mono (two_t (B := w3.heap.size) _ [0] 0 0 0 _ (OwnU.lit w3.drew (Nat.le_refl _) [0] 1 rfl (by decide)) (al (Below.refl _ _).drew _).size (by decide)) ?_; rintro e w4 ⟨v4, rfl, hu4, hb⟩; have hb4 : Below w3.heap.size w3 w4 := (al (Below.refl w3.heap.size w3).drew _).trans hb; have HU4 : Hid (OwnU w4 w3.heap.size v4 [0, 0, 0, 0]) := hu4; obtain ⟨a4, c4, rfl, -⟩ := OwnU.val hu4; clear hb hu4)
                go_wp2_with fail
                refine hK.out _ _ (by first | exact (Below.refl _ _).drew | assumption | exact al (Below.refl _ _).drew _) ?_
                clear hK K
                intro hHeld2
                clear hHeld
                have hHeld := hHeld2
                clear hHeld2
                try simp only [Act.put, List.setIfInBounds_toArray, List.set_cons_zero, List.set_cons_succ]
                refine run_at (i := 2) rfl (by kernel_rfl) (by rfl) (fun K hK => ?_)
                simp only [List.getElem_toArray, List.getElem_cons_zero, List.getElem_cons_succ]
                go_simp
                go_wp2_with fail
                refine hK.out _ _ (by first | exact (Below.refl _ _).drew | assumption | exact al (Below.refl _ _).drew _) ?_
                clear hK K
                intro hHeld2
                clear hHeld
                have hHeld := hHeld2
                clear hHeld2
                try simp only [Act.put, List.setIfInBounds_toArray, List.set_cons_zero, List.set_cons_succ]
                refine run_at (i := 5) rfl (by kernel_rfl) (by rfl) (fun K hK => ?_)
                simp only [List.getElem_toArray, List.getElem_cons_zero, List.getElem_cons_succ]
                go_simp
                first | (go_at_call 18; refine Calls.mono (bit_f _) ?_; rintro e w9 ⟨rfl, hw9⟩; subst hw9) | (go_at_call 24; refine Calls.mono (two_t (B := w3.heap.size) _ [0] 0 0 0 _ (OwnU.lit w3.drew (Nat.le_refl _) [0] 1 rfl (by decide)) (al (Below.refl _ _).drew _).size (by decide)) ?_; rintro e w4 ⟨v4, rfl, hu4, hb⟩; have hb4 : Below w3.heap.size w3 w4 := (al (Below.refl w3.heap.size w3).drew _).trans hb; have HU4 : Hid (OwnU w4 w3.heap.size v4 [0, 0, 0, 0]) := hu4; obtain ⟨a4, c4, rfl, -⟩ := OwnU.val hu4; clear hb hu4)
                go_wp2_with fail
                refine hK.out _ _ (by first | exact (Below.refl _ _).drew | assumption | exact al (Below.refl _ _).drew _) ?_
                clear hK K
                intro hHeld2
                clear hHeld
                have hHeld := hHeld2
                clear hHeld2
                try simp only [Act.put, List.setIfInBounds_toArray, List.set_cons_zero, List.set_cons_succ]
                refine take_at (i := 6) 4 (v := ?_) rfl rfl (by kernel_rfl) (by kernel_rfl) (by kernel_rfl) (fun _ _ _ h => h) (by rfl) ?_ hHeld ?_
                rotate_left
                · (intro w hSw; (try dsimp only at hSw); go_simp; try with_reducible rfl)
                simp only [Act.put, List.setIfInBounds_toArray, List.set_cons_zero, List.set_cons_succ]
                refine wpAnyH_done (by kernel_rfl) ?_ _
                have HB4 : Hid (Below w.heap.size w w4) := below_next HB3.out hb4
                clear hb4 hl3
                go_wp2
                go_ret
                exact ⟨_, rfl, OwnU.base HU4.out HB3.out.size, HB4.out⟩
              · have g7 : (kd == 7) = false := by simpa using h7
                by_cases h8 : kd = 8
                · subst h8
                  go_wp2_with (first | (refine wpList_load_mid rfl tSt _ rfl w.heap.size 1 rfl (sc (s1, s2)) _ HLD.out Try.underlying36 rfl info_st ?_))
                  refine Calls.mono (greatest0_t (.pointer px) none 0 (.inl ⟨rfl, rfl⟩) s1 s2 _ (HZ.out _).pg) ?_
                  rintro e w2 ⟨rfl, hb⟩
                  have HB2 : Hid (Below w.heap.size w w2) := below_next (HAB.out _) hb
                  clear hb
                  obtain ⟨w3, hw3⟩ : ∃ Y : World, Y = w2.alloc (.cells #[.int .u64 0, .int .u64 0] tSt) := ⟨_, rfl⟩
                  have HB3 : Hid (Below w.heap.size w w3) := (show Below _ _ _ by rw [hw3]; exact HB2.out.alloc HB2.out.size _)
                  have HX3 : Hid (w3.heap[w2.heap.size]? = some (.cells #[.int .u64 0, .int .u64 0] tSt (0, 0))) := (show _ = _ by rw [hw3]; exact heap_alloc_new w2 _)
                  have hl3 : ∀ u, Below w3.heap.size w3 u → (Instr.loadAt tSt (.pointer (some ⟨w2.heap.size, 0, none⟩))).run Try.prog u = .ok (sv (0, 0)) u := fun u hu => load_st u _ _ (0, 0) (rangeAt_below (box_range HX3.out) hu)
                  go_upto_region 30 with fail
                  rw [← hw3]
                  clear hw3
                  refine wp_region_held_drew (S := (fun u => Below w3.heap.size w3 u)) (by kernel_rfl) (by first | exact (Below.refl _ _).drew | assumption | exact al (Below.refl _ _).drew _) (fun hHeld => ?_)
                  refine take_at (i := 0) 131 (v := ?_) rfl rfl (by kernel_rfl) (by kernel_rfl) (by kernel_rfl) (fun _ _ _ h => h) (by rfl) ?_ hHeld ?_
                  rotate_left
                  · (intro w hSw; (try dsimp only at hSw); go_simp; try with_reducible rfl)
                  simp only [Act.put, List.setIfInBounds_toArray, List.set_cons_zero, List.set_cons_succ]
                  refine take_at (i := 3) 134 (v := sv (0, 0)) rfl rfl (by kernel_rfl) (by kernel_rfl) (by kernel_rfl) (fun _ _ _ h => h) (by rfl) ?_ hHeld ?_
                  · (intro w hSw; refine exec_load (by rfl) ?_; exact hl3 w hSw)
                  simp only [Act.put, List.setIfInBounds_toArray, List.set_cons_zero, List.set_cons_succ]
                  refine take_at (i := 4) 135 (v := ?_) rfl rfl (by kernel_rfl) (by kernel_rfl) (by kernel_rfl) (fun _ _ _ h => h) (by rfl) ?_ hHeld ?_
                  rotate_left
                  · (intro w hSw; (try dsimp only at hSw); go_simp; try with_reducible rfl)
                  simp only [Act.put, List.setIfInBounds_toArray, List.set_cons_zero, List.set_cons_succ]
                  refine run_at (i := 1) rfl (by kernel_rfl) (by rfl) (fun K hK => ?_)
                  simp only [List.getElem_toArray, List.getElem_cons_zero, List.getElem_cons_succ]
                  go_simp
                  first | (go_at_call 18; refine Calls.mono (bit_f _) ?_; rintro e w9 ⟨rfl, hw9⟩; subst hw9) | (go_at_call 24; refine Calls.mono (two_t (B := w3.heap.size) _ [0] 0 0 0 _ (OwnU.lit w3.drew (Nat.le_refl _) [0] 1 rfl (by decide)) (al (Below.refl _ _).drew _).size (by decide)) ?_; rintro e w4 ⟨v4, rfl, hu4, hb⟩; have hb4 : Below w3.heap.size w3 w4 := (al (Below.refl w3.heap.size w3).drew _).trans hb; have HU4 : Hid (OwnU w4 w3.heap.size v4 [0, 0, 0, 0]) := hu4; obtain ⟨a4, c4, rfl, -⟩ := OwnU.val hu4; clear hb hu4)
                  go_wp2_with fail
                  refine hK.out _ _ (by first | exact (Below.refl _ _).drew | assumption | exact al (Below.refl _ _).drew _) ?_
                  clear hK K
                  intro hHeld2
                  clear hHeld
                  have hHeld := hHeld2
                  clear hHeld2
                  try simp only [Act.put, List.setIfInBounds_toArray, List.set_cons_zero, List.set_cons_succ]
                  refine run_at (i := 2) rfl (by kernel_rfl) (by rfl) (fun K hK => ?_)
                  simp only [List.getElem_toArray, List.getElem_cons_zero, List.getElem_cons_succ]
                  go_simp
                  go_wp2_with fail
                  refine hK.out _ _ (by first | exact (Below.refl _ _).drew | assumption | exact al (Below.refl _ _).drew _) ?_
                  clear hK K
                  intro hHeld2
                  clear hHeld
                  have hHeld := hHeld2
                  clear hHeld2
                  try simp only [Act.put, List.setIfInBounds_toArray, List.set_cons_zero, List.set_cons_succ]
                  refine run_at (i := 5) rfl (by kernel_rfl) (by rfl) (fun K hK => ?_)
                  simp only [List.getElem_toArray, List.getElem_cons_zero, List.getElem_cons_succ]
                  go_simp
                  first | (go_at_call 18; refine Calls.mono (bit_f _) ?_; rintro e w9 ⟨rfl, hw9⟩; subst hw9) | (go_at_call 24; refine Calls.mono (two_t (B := w3.heap.size) _ [0] 0 0 0 _ (OwnU.lit w3.drew (Nat.le_refl _) [0] 1 rfl (by decide)) (al (Below.refl _ _).drew _).size (by decide)) ?_; rintro e w4 ⟨v4, rfl, hu4, hb⟩; have hb4 : Below w3.heap.size w3 w4 := (al (Below.refl w3.heap.size w3).drew _).trans hb; have HU4 : Hid (OwnU w4 w3.heap.size v4 [0, 0, 0, 0]) := hu4; obtain ⟨a4, c4, rfl, -⟩ := OwnU.val hu4; clear hb hu4)
                  go_wp2_with fail
                  refine hK.out _ _ (by first | exact (Below.refl _ _).drew | assumption | exact al (Below.refl _ _).drew _) ?_
                  clear hK K
                  intro hHeld2
                  clear hHeld
                  have hHeld := hHeld2
                  clear hHeld2
                  try simp only [Act.put, List.setIfInBounds_toArray, List.set_cons_zero, List.set_cons_succ]
                  refine take_at (i := 6) 4 (v := ?_) rfl rfl (by kernel_rfl) (by kernel_rfl) (by kernel_rfl) (fun _ _ _ h => h) (by rfl) ?_ hHeld ?_
                  rotate_left
                  · (intro w hSw; (try dsimp only at hSw); go_simp; try with_reducible rfl)
                  simp only [Act.put, List.setIfInBounds_toArray, List.set_cons_zero, List.set_cons_succ]
                  refine wpAnyH_done (by kernel_rfl) ?_ _
                  have HB4 : Hid (Below w.heap.size w w4) := below_next HB3.out hb4
                  clear hb4 hl3
                  go_wp2
                  go_ret
                  exact ⟨_, rfl, OwnU.base HU4.out HB3.out.size, HB4.out⟩
                · have g8 : (kd == 8) = false := by simpa using h8
                  by_cases h9 : kd = 9
                  · subst h9
                    go_wp2_with (first | (refine wpList_load_mid rfl tOp _ rfl w.heap.size 0 rfl [.int .i64 9, .int .u64 (s1 : Int), .int .u64 (s2 : Int), .int .u64 (n : Int)] _ HLO.out Try.underlying38 rfl info_op4 ?_))
                    refine Calls.mono (along0_t (HZ.out _) 9 s1 s2 n) ?_
                    rintro e w2 ⟨rfl, hb⟩
                    have HB2 : Hid (Below w.heap.size w w2) := below_next (HAB.out _) hb
                    clear hb
                    go_wp2
                    go_ret
                    exact ⟨_, rfl, OwnU.nil _ _, HB2.out⟩
                  · have g9 : (kd == 9) = false := by simpa using h9
                    by_cases h10 : kd = 10
                    · subst h10
                      go_wp2_with (first | (refine wpList_load_mid rfl tOp _ rfl w.heap.size 0 rfl [.int .i64 10, .int .u64 (s1 : Int), .int .u64 (s2 : Int), .int .u64 (n : Int)] _ HLO.out Try.underlying38 rfl info_op4 ?_))
                      refine Calls.mono (along0_t (HZ.out _) 10 s1 s2 n) ?_
                      rintro e w2 ⟨rfl, hb⟩
                      have HB2 : Hid (Below w.heap.size w w2) := below_next (HAB.out _) hb
                      clear hb
                      go_wp2
                      go_ret
                      exact ⟨_, rfl, OwnU.nil _ _, HB2.out⟩
                    · have g10 : (kd == 10) = false := by simpa using h10
                      have HNL : Hid (nilL kd = []) := (show _ = _ by unfold nilL; rw [if_neg h1, if_neg h2, if_neg h3, if_neg h4, if_neg h5, if_neg h6, if_neg h7, if_neg h8])
                      go_wp2
                      go_ret
                      exact ⟨_, rfl, by rw [HNL.out]; exact OwnU.nil _ _, HAB.out _⟩
end
end Go.Proofs.Ytibolgpaolnheac
