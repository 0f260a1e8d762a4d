import Derived.Test.YtibolgpaolnheabNAg
namespace Go.Proofs.Ytibolgpaolnheab
set_option linter.unusedVariables false
set_option linter.unusedSimpArgs false
open Go.RowKit Go.Shelf
theorem info_op5 : (Try.prog.info? tOp).map (·.size) = some 4 := by kernel_rfl
abbrev bitN (b : Bool) : Nat := if b then 1 else 0
/-- the first of a row, as numbers -/
def firstN (L : List Ent) : List Nat := match L.head? with | none => [0, 0, 0, 0] | some y => [1, y.st.1, y.st.2, y.n]
/-- the answer to a call -/
def ansL (P : List (List Ent)) (kd : Int) (s : St) (n p i : Nat) (ok : Bool) : List Nat :=
  if kd = 1 then [bitN (!ok)] else if kd = 2 then [if ok then ((P.getD p []).map (·.n)).getD i 0 else 0, bitN ok] else if kd = 3 then [if ok then ((P.getD p []).map (·.n)).getD i 0 else 0, bitN ok]
  else if kd = 4 then [P.flatten.length] else if kd = 5 then P.map List.length else if kd = 6 then [p, i, bitN ok] else if kd = 7 then firstN (upL P s) else if kd = 8 then firstN (downL P s)
  else if kd = 9 then nmE ((upL P s).take (n % 64)) else if kd = 10 then nmE ((downL P s).take (n % 64)) else []
/-- the pages behind a call -/
def nextP (S : Nat) (P : List (List Ent)) (kd : Int) (s : St) (n p i : Nat) (ok : Bool) : List (List Ent) :=
  if kd = 1 then putP S P p i ok ⟨s, n⟩ else if kd = 2 then (if ok then remP S P p i else P) else P
theorem bit_b (b : Bool) (w : World) : Calls Try.prog 22 #[.bool b] w fun e w' => e = .returned (.int .u64 ((bitN b : Nat) : Int)) ∧ w' = w := bit_t b w
theorem nth_n (X : List Ent) (i : Nat) (h : i < X.length) : X[i].n = (X.map (·.n)).getD i 0 := by simp [List.getD, h]
theorem Lies.refl (w : World) (v : Value) : Lies w v v := .inl rfl
section
set_option maxRecDepth 20000
set_option maxHeartbeats 6400000
theorem ask_t {w : World} {g S : Nat} {P : List (List Ent)} {v : Value} {vs : List Value} (h : IdxAt w g S P v vs) (ht : Tid S P) (hS : 4 ≤ S ∧ S ≤ 64) (hPl : P.length ≤ 4398046511104) (kd : Int) (s1 s2 n : Nat) : Calls Try.prog 10 #[.pointer (some ⟨g, 0, none⟩), opw kd s1 s2 n] w fun e w' => ∃ p i ok v' vs' vl, PlaceIs P (s1, s2) p i ok ∧ e = .returned vl ∧ OwnU w' w.heap.size vl (ansL P kd (s1, s2) n p i ok) ∧ IdxAt w' g S (nextP S P kd (s1, s2) n p i ok) v' vs' ∧ Lies w v v' ∧ Chg (foot g v) w w' := by
  obtain ⟨w1, hw1⟩ : ∃ X : World, X = w.alloc (.cells #[.int .i64 kd, .int .u64 (s1 : Int), .int .u64 (s2 : Int), .int .u64 (n : Int)] tOp) := ⟨_, rfl⟩
  have HB1 : Hid (Below w.heap.size w w1) := (show Below w.heap.size w w1 by rw [hw1]; exact al (Below.refl _ _) _)
  have HX1 : Hid (w1.heap[w.heap.size]? = some (.cells #[.int .i64 kd, .int .u64 (s1 : Int), .int .u64 (s2 : Int), .int .u64 (n : Int)] tOp (0, 0))) := (show _ = _ by rw [hw1]; exact heap_alloc_new w _)
  have HLD : Hid ((w.alloc (.cells #[.int .i64 kd, .int .u64 (s1 : Int), .int .u64 (s2 : Int), .int .u64 (n : Int)] tOp)).rangeAt w.heap.size 1 (sc (s1, s2))) := (show World.rangeAt _ _ _ _ by
    rw [← hw1]
    exact box_off HX1.out)
  have HLO : Hid ((w.alloc (.cells #[.int .i64 kd, .int .u64 (s1 : Int), .int .u64 (s2 : Int), .int .u64 (n : Int)] tOp)).rangeAt w.heap.size 0 [.int .i64 kd, .int .u64 (s1 : Int), .int .u64 (s2 : Int), .int .u64 (n : Int)]) := (show World.rangeAt _ _ _ _ by
    rw [← hw1]
    exact box_range HX1.out)
  have HW1 : Hid (w1 = w.alloc (.cells #[.int .i64 kd, .int .u64 (s1 : Int), .int .u64 (s2 : Int), .int .u64 (n : Int)] tOp)) := hw1
  have HAB : Hid (∀ ob, Below w.heap.size w (w.alloc ob)) := fun ob => al (Below.refl _ _) _
  have HI : Hid (IdxAt w g S P v vs) := h
  have HZ : Hid (∀ ob, IdxAt (w.alloc ob) g S P v vs) := fun ob => h.below (al (Below.refl _ _) _)
  have HT : Hid (Tid S P) := ht
  obtain ⟨p0, i0, ok0, hp0⟩ := place_ex ht.1 (s1, s2)
  have HP0 : Hid (PlaceIs P (s1, s2) p0 i0 ok0) := hp0
  have HLP : Hid (∀ q ∈ P, q.length ≤ 100) := (fun q hq => by have := ht.2 q hq; omega)
  clear hw1 h ht hp0
  go_enter Try.func10, Try.ntmps10
  by_cases h1 : kd = 1
  · subst h1
    go_wp2_with (first | (refine wpList_load_mid rfl tSt _ rfl w.heap.size 1 rfl (sc (s1, s2)) _ HLD.out Try.underlying33 rfl info_st ?_))
    refine Calls.mono (put_t (HZ.out _) HT.out ⟨by omega, hS.2⟩ hPl s1 s2 n) ?_
    rintro e w2 ⟨p, i, ok, v2, vs2, hpi, rfl, hi2, hli, hch⟩
    have HPI : Hid (PlaceIs P (s1, s2) p i ok) := hpi
    have HI2 : Hid _ := hi2
    have HLI : Hid (Lies w v v2) := (by
      rcases hli with h9 | ⟨b9, h8, h9⟩
      · exact .inl h9
      · exact .inr ⟨b9, h8, Nat.le_trans (HAB.out _).size h9⟩)
    have HCH : Hid (Chg (foot g v) w w2) := (Chg.of_below (HAB.out _)).trans hch (fun k hk => .inl hk)
    clear hpi hi2 hli hch
    go_wp2_with fail
    refine Calls.mono (bit_b _ _) ?_
    rintro e w9 ⟨rfl, hw9⟩
    subst hw9
    go_wp2
    go_ret
    exact ⟨p, i, ok, v2, vs2, _, HPI.out, rfl, OwnU.lit w9 HCH.out.size [bitN (!ok)] 1 rfl (by decide), HI2.out.below (al (Below.refl _ _) _), HLI.out, HCH.out.trans (G := fun _ => False) (Chg.of_below (al (Below.refl _ _) _)) (fun k e => e.elim)⟩
  · have g1 : (kd == 1) = false := by simpa using h1
    by_cases h2 : kd = 2
    · subst h2
      go_wp2_with (first | (refine wpList_load_mid rfl tSt _ rfl w.heap.size 1 rfl (sc (s1, s2)) _ HLD.out Try.underlying33 rfl info_st ?_))
      refine Calls.mono (remove_t (HZ.out _) HT.out ⟨by omega, hS.2⟩ hPl s1 s2) ?_
      rintro e w2 ⟨p, i, ok, nv, v2, vs2, hpi, rfl, h0, h1, hi2, hob, hch⟩
      have HPI : Hid (PlaceIs P (s1, s2) p i ok) := hpi
      have HI2 : Hid _ := hi2
      have HLI : Hid (Lies w v v2) := .inl hob
      obtain ⟨m9, hm9, hmm⟩ : ∃ m9 : Nat, nv = (m9 : Int) ∧ m9 = if ok then ((P.getD p []).map (·.n)).getD i 0 else 0 := (by
        cases ok
        · exact ⟨0, h0 rfl, rfl⟩
        · obtain ⟨h8, h9⟩ := h1 rfl
          exact ⟨_, h9, nth_n _ i h8⟩)
      subst hm9
      have HNV : Hid (m9 = if ok then ((P.getD p []).map (·.n)).getD i 0 else 0) := hmm
      clear hmm
      have HCH : Hid (Chg (foot g v) w w2) := (Chg.of_below (HAB.out _)).trans hch (fun k hk => .inl hk)
      clear hpi hi2 hob hch h0 h1
      go_wp2_with fail
      refine Calls.mono (bit_b _ _) ?_
      rintro e w9 ⟨rfl, hw9⟩
      subst hw9
      go_wp2
      go_ret
      exact ⟨p, i, ok, v2, vs2, _, HPI.out, rfl, (show OwnU _ _ _ [if ok then ((P.getD p []).map (·.n)).getD i 0 else 0, bitN ok] by rw [← HNV.out]; exact OwnU.lit w9 HCH.out.size [m9, bitN ok] 2 rfl (by decide)), HI2.out.below (al (Below.refl _ _) _), HLI.out, HCH.out.trans (G := fun _ => False) (Chg.of_below (al (Below.refl _ _) _)) (fun k e => e.elim)⟩
    · have g2 : (kd == 2) = false := by simpa using h2
      by_cases h3 : kd = 3
      · subst h3
        obtain ⟨pa, cap, hv, hcap, hnil, hrd, hpg⟩ := (show IdxAt w1 g S P v vs by rw [HW1.out]; exact HZ.out _).rd
        have HGT : Hid _ := get_t (.pointer (some ⟨g, 0, none⟩)) pa P.length cap P s1 s2 w1 hpg rfl hrd HT.out.1 hPl HLP.out
        clear hv hcap hnil hrd hpg
        go_wp2_with (first | (refine wpList_load_mid rfl tSt _ rfl w.heap.size 1 rfl (sc (s1, s2)) _ HLD.out Try.underlying33 rfl info_st ?_))
        rw [← HW1.out]
        refine Calls.mono HGT.out ?_
        rintro e w2 ⟨p, i, ok, nv, rfl, hpi, h0, h1, hb⟩
        have HPI : Hid (PlaceIs P (s1, s2) p i ok) := hpi
        have HB2 : Hid (Below w.heap.size w w2) := below_next HB1.out hb
        have HNV : Hid (nv = if ok then ((P.getD p []).map (·.n)).getD i 0 else 0) := (show _ = _ by
          cases ok
          · exact h0 rfl
          · obtain ⟨h8, h9⟩ := h1 rfl
            rw [h9]; exact nth_n _ i h8)
        clear hpi hb h0 h1 HGT
        go_wp2_with fail
        refine Calls.mono (bit_b _ _) ?_
        rintro e w9 ⟨rfl, hw9⟩
        subst hw9
        have HB3 : Hid (∀ ob, Below w.heap.size w (w9.alloc ob)) := fun ob => HB2.out.alloc HB2.out.size ob
        go_wp2
        go_ret
        exact ⟨p, i, ok, v, vs, _, HPI.out, rfl, (show OwnU _ _ _ [if ok then ((P.getD p []).map (·.n)).getD i 0 else 0, bitN ok] by rw [← HNV.out]; exact OwnU.lit w9 HB2.out.size [nv, bitN ok] 2 rfl (by decide)), HI.out.below (HB3.out _), .inl rfl, Chg.of_below (HB3.out _)⟩
      · have g3 : (kd == 3) = false := by simpa using h3
        by_cases h4 : kd = 4
        · subst h4
          obtain ⟨pa, cap, hv, hcap, hnil, hrd, hpg⟩ := (show IdxAt w1 g S P v vs by rw [HW1.out]; exact HZ.out _).rd
          have HGT : Hid _ := len_t (.pointer (some ⟨g, 0, none⟩)) pa P.length cap P w1 hpg rfl hrd hPl HLP.out
          clear hv hcap hnil hrd hpg
          obtain ⟨T0, hT0⟩ : ∃ T0, T0 = P.flatten.length := ⟨_, rfl⟩
          have hTb : T0 ≤ 439804651110400 := by have h9 := sum_le HLP.out P.length; rw [List.take_length] at h9; omega
          have HTE : Hid (T0 = P.flatten.length) := hT0
          have hw1 : IntKind.u64.wrap (T0 : Int) = (T0 : Int) := by rw [IntKind.wrap_u64]; omega
          go_wp2_with fail
          rw [← HW1.out]
          refine Calls.mono HGT.out ?_
          rintro e w9 ⟨rfl, hw9⟩
          subst hw9
          rw [← hT0]
          have HB3 : Hid (∀ ob, Below w.heap.size w (w9.alloc ob)) := fun ob => HB1.out.alloc HB1.out.size ob
          clear hT0 HGT
          go_wp2
          go_ret
          exact ⟨p0, i0, ok0, v, vs, _, HP0.out, rfl, (show OwnU _ _ _ [P.flatten.length] by rw [← HTE.out]; exact OwnU.lit w9 HB1.out.size [T0] 1 rfl (by decide)), HI.out.below (HB3.out _), .inl rfl, Chg.of_below (HB3.out _)⟩
        · have g4 : (kd == 4) = false := by simpa using h4
          by_cases h5 : kd = 5
          · subst h5
            obtain ⟨pa, cap, hv, hcap, hnil, hrd, hpg⟩ := (show IdxAt w1 g S P v vs by rw [HW1.out]; exact HZ.out _).rd
            have HGT : Hid _ := pages_t (.pointer (some ⟨g, 0, none⟩)) pa P.length cap P w1 hpg rfl hrd hPl
            clear hv hcap hnil hrd hpg
            go_wp2_with fail
            rw [← HW1.out]
            refine Calls.mono HGT.out ?_
            rintro e w2 ⟨v2, rfl, hrow, hb⟩
            obtain ⟨N, hN⟩ : ∃ N, N = P.length := ⟨_, rfl⟩
            rw [← hN] at hrow
            have HN : Hid (N = P.length) := hN
            have hNb : N ≤ 4398046511104 := by omega
            obtain ⟨a2, c2, hv2, hcl2⟩ : ∃ a c, v2 = .slice a N c ∧ ∀ j (hj : j < N), ∃ g, a = some ⟨g, 0, none⟩ ∧ w2.cell? ⟨g, j, none⟩ = some (.int .i64 ((P.getD j []).length : Int)) := (by
              have h' := hrow
              rcases hrow.2 with ⟨rfl, h0⟩ | ⟨g9, cap9, cur, rfl, hB, hg, hc, hm, r⟩
              · exact ⟨none, 0, by rw [h0], fun j hj => by omega⟩
              · refine ⟨_, cap9, rfl, fun j hj => ⟨g9, rfl, ?_⟩⟩
                rw [World.ownsRow.cellAt h' j (by omega)]
                unfold cnt
                rw [List.getElem?_map, List.getElem?_eq_getElem (by omega)]
                simp [List.getD, show j < P.length by omega])
            subst hv2
            have HCE : Hid (∀ j (hj : j < N), ∃ g, a2 = some ⟨g, 0, none⟩ ∧ w2.cell? ⟨g, j, none⟩ = some (.int .i64 ((P.getD j []).length : Int))) := hcl2
            have HB2 : Hid (Below w.heap.size w w2) := below_next HB1.out hb
            clear hrow hb hcl2 HGT hN
            go_wp2_with fail
            go_loopw [5, 13] (fun l i wr => ∃ k : Nat, k ≤ N ∧ i = .int .i64 (k : Int) ∧ OwnU wr w2.heap.size l ((P.take k).map List.length) ∧ Below w2.heap.size w2 wr) (fun _ i _ => N - (intOf i).toNat)
            case atStart => exact ⟨0, Nat.zero_le _, rfl, OwnU.nil _ _, Below.refl _ _⟩
            case round =>
              obtain ⟨k, hk, rfl, hown, hbel⟩ := hrel
              have HBEL : Hid (Below w2.heap.size w2 wr) := hbel
              have HOW : Hid (OwnU wr w2.heap.size u5 ((P.take k).map List.length)) := hown
              obtain ⟨al9, cl9, hv9, -⟩ := OwnU.val hown
              obtain ⟨T0, hT0⟩ : ∃ T0, T0 = ((P.take k).map List.length).length := ⟨_, rfl⟩
              have HT0 : Hid (((P.take k).map List.length).length ≤ 4398046511104) := (show _ ≤ _ by rw [List.length_map, List.length_take]; omega)
              rw [← hT0] at hv9
              subst hv9
              clear hown hbel hT0
              by_cases hlt : k < N
              · obtain ⟨g9, rfl, hc9⟩ := HCE.out k hlt
                have hkP : k < P.length := by have := HN.out; omega
                obtain ⟨x1, hx1⟩ : ∃ x1, x1 = (P.getD k []).length := ⟨_, rfl⟩
                have eP : P.getD k [] = P[k] := by simp [List.getD, hkP]
                rw [← hx1] at hc9
                have hxb : x1 ≤ 100 := by rw [hx1, eP]; exact HLP.out _ (List.getElem_mem hkP)
                have HTK : Hid ((P.take (k + 1)).map List.length = (P.take k).map List.length ++ [x1]) := (show _ = _ by rw [List.take_succ_eq_append_getElem hkP, List.map_append, hx1, eP]; rfl)
                have hcw : wr.cell? ⟨g9, k, none⟩ = some (.int .i64 (x1 : Int)) := (HBEL.out.cell (World.block_lt_of_cell? w2 _ hc9)).trans hc9
                have hw1 : IntKind.u64.wrap (x1 : Int) = (x1 : Int) := by rw [IntKind.wrap_u64]; omega
                have hki : (k : Int) < (N : Int) := by omega
                have hk0 : (0 : Int) ≤ (k : Int) := by omega
                clear hx1 eP hc9
                go_wp2_with (first | (at_builtin; refine wp_appN rfl _ _ rfl w2.heap.size _ ((P.take k).map List.length) [x1] (by rfl) (OwnU.below HOW.out (al (Below.refl _ _) _)) _ 1 rfl (by rfl) _ rfl (heap_alloc_new wr _) (by have := HT0.out; omega) (by have := HBEL.out.size; simp; omega) ?_; intro v6 w6 hown hg; have HOWN6 : Hid _ := hown; have HBEL6 : Hid (Below w2.heap.size w2 w6) := (HBEL.out.alloc HBEL.out.size _).grown hg (by have := HBEL.out.size; simp; omega) (fun j9 h9 => (World.ownsRow.lt HOW.out j9 h9).1); clear hown hg))
                go_roundw
                case rel => exact ⟨k + 1, by omega, by go_num, by rw [HTK.out]; exact HOWN6.out, HBEL6.out⟩
                case measure => simp [intOf]; omega
              · obtain rfl : k = N := by omega
                have hkI : ¬ ((k : Int) < (k : Int)) := by omega
                have HRES : Hid ((P.take k).map List.length = P.map List.length) := (show _ = _ by rw [List.take_of_length_le (by have := HN.out; omega)])
                have HB9 : Hid (Below w.heap.size w wr) := below_next HB2.out HBEL.out
                go_wp2
                go_ret
                cases ok0
                case false => first | exact ⟨p0, i0, .inl ⟨HP0.out, v, vs, _, rfl, (show OwnU _ _ _ (P.map List.length) by rw [← HRES.out]; exact OwnU.base HOW.out HB2.out.size), HI.out.below HB9.out, .inl rfl, Chg.of_below HB9.out⟩⟩ | exact ⟨p0, i0, false, v, vs, _, HP0.out, rfl, (show OwnU _ _ _ (P.map List.length) by rw [← HRES.out]; exact OwnU.base HOW.out HB2.out.size), HI.out.below HB9.out, .inl rfl, Chg.of_below HB9.out⟩
                case true => first | exact ⟨p0, i0, .inr ⟨HP0.out, v, vs, _, rfl, (show OwnU _ _ _ (P.map List.length) by rw [← HRES.out]; exact OwnU.base HOW.out HB2.out.size), HI.out.below HB9.out, .inl rfl, Chg.of_below HB9.out⟩⟩ | exact ⟨p0, i0, true, v, vs, _, HP0.out, rfl, (show OwnU _ _ _ (P.map List.length) by rw [← HRES.out]; exact OwnU.base HOW.out HB2.out.size), HI.out.below HB9.out, .inl rfl, Chg.of_below HB9.out⟩
          · have g5 : (kd == 5) = false := by simpa using h5
            by_cases h6 : kd = 6
            · subst h6
              obtain ⟨pa, cap, hv, hcap, hnil, hrd, hpg⟩ := (show IdxAt w1 g S P v vs by rw [HW1.out]; exact HZ.out _).rd
              have HGT : Hid _ := place_t (.pointer (some ⟨g, 0, none⟩)) pa P.length cap P (s1, s2) w1 hpg rfl hrd HT.out.1 hPl HLP.out
              clear hv hcap hnil hrd hpg
              go_wp2_with (first | (refine wpList_load_mid rfl tSt _ rfl w.heap.size 1 rfl (sc (s1, s2)) _ HLD.out Try.underlying33 rfl info_st ?_))
              rw [← HW1.out]
              refine Calls.mono HGT.out ?_
              rintro e w2 ⟨p, i, ok, rfl, hpi, hb⟩
              have HPI : Hid (PlaceIs P (s1, s2) p i ok) := hpi
              have HB2 : Hid (Below w.heap.size w w2) := below_next HB1.out hb
              have hpb : p ≤ 4398046511104 ∧ i ≤ 100 := (by
                by_cases hne : P = []
                · obtain ⟨rfl, rfl, -⟩ := hpi.nil hne; omega
                · have h9 := hpi.lt hne
                  have h8 := (hpi.cut HT.out.1 h9).1
                  have h7 := HLP.out _ (List.getElem_mem h9)
                  omega)
              have hw1 : IntKind.u64.wrap (p : Int) = (p : Int) := by rw [IntKind.wrap_u64]; omega
              have hw2 : IntKind.u64.wrap (i : Int) = (i : Int) := by rw [IntKind.wrap_u64]; omega
              clear hpi hb HGT
              go_wp2_with fail
              refine Calls.mono (bit_b _ _) ?_
              rintro e w9 ⟨rfl, hw9⟩
              subst hw9
              have HB3 : Hid (∀ ob, Below w.heap.size w (w9.alloc ob)) := fun ob => HB2.out.alloc HB2.out.size ob
              go_wp2
              go_ret
              exact ⟨p, i, ok, v, vs, _, HPI.out, rfl, OwnU.lit w9 HB2.out.size [p, i, bitN ok] 3 rfl (by decide), HI.out.below (HB3.out _), .inl rfl, Chg.of_below (HB3.out _)⟩
            · have g6 : (kd == 6) = false := by simpa using h6
              by_cases h7 : kd = 7
              · subst h7
                go_wp2_with (first | (refine wpList_load_mid rfl tSt _ rfl w.heap.size 1 rfl (sc (s1, s2)) _ HLD.out Try.underlying33 rfl info_st ?_))
                refine Calls.mono (least_any (HZ.out _) HT.out hS.2 hPl s1 s2) ?_
                rintro e w2 ⟨⟨u1, u2⟩, un, uk, rfl, hfi, hb⟩
                have HB2 : Hid (Below w.heap.size w w2) := below_next (HAB.out _) hb
                have HFI : Hid (firstN (upL P (s1, s2)) = [bitN uk, u1, u2, un]) := (show _ = _ by
                  unfold firstN
                  rcases hfi with ⟨e1, e2, e3, e4⟩ | ⟨y, e1, e2, e3, e4⟩
                  · cases e2; rw [e1, e3, e4]; rfl
                  · obtain ⟨⟨y1, y2⟩, yn⟩ := y; rw [e1]; subst e3 e4; cases e2; rfl)
                clear hfi hb
                obtain ⟨w3, hw3⟩ : ∃ Y : World, Y = w2.alloc (.cells #[.int .u64 (u1 : Int), .int .u64 (u2 : Int)] tSt) := ⟨_, rfl⟩
                have HB3 : Hid (Below w.heap.size w w3) := (show Below _ _ _ by rw [hw3]; exact HB2.out.alloc HB2.out.size _)
                have HX3 : Hid (w3.heap[w2.heap.size]? = some (.cells #[.int .u64 (u1 : Int), .int .u64 (u2 : Int)] tSt (0, 0))) := (show _ = _ by rw [hw3]; exact heap_alloc_new w2 _)
                have hl3 : ∀ u, Below w3.heap.size w3 u → (Instr.loadAt tSt (.pointer (some ⟨w2.heap.size, 0, none⟩))).run Try.prog u = .ok (sv (u1, u2)) u := fun u hu => load_st u _ _ (u1, u2) (rangeAt_below (box_range HX3.out) hu)
                go_upto_region 27 with fail
                rw [← hw3]
                clear hw3
                refine wp_region_held_drew (S := (fun u => Below w3.heap.size w3 u)) (by kernel_rfl) (by first | exact (Below.refl _ _).drew | assumption | exact al (Below.refl _ _).drew _) (fun hHeld => ?_)
                refine take_at (i := 0) 115 (v := ?_) rfl rfl (by kernel_rfl) (by kernel_rfl) (by kernel_rfl) (fun _ _ _ h => h) (by rfl) ?_ hHeld ?_
                rotate_left
                · (intro w hSw; (try dsimp only at hSw); go_simp; try with_reducible rfl)
                simp only [Act.put, List.setIfInBounds_toArray, List.set_cons_zero, List.set_cons_succ]
                refine take_at (i := 3) 118 (v := sv (u1, u2)) rfl rfl (by kernel_rfl) (by kernel_rfl) (by kernel_rfl) (fun _ _ _ h => h) (by rfl) ?_ hHeld ?_
                · (intro w hSw; refine exec_load (by rfl) ?_; exact hl3 w hSw)
                simp only [Act.put, List.setIfInBounds_toArray, List.set_cons_zero, List.set_cons_succ]
                refine take_at (i := 4) 119 (v := ?_) rfl rfl (by kernel_rfl) (by kernel_rfl) (by kernel_rfl) (fun _ _ _ h => h) (by rfl) ?_ hHeld ?_
                rotate_left
                · (intro w hSw; (try dsimp only at hSw); go_simp; try with_reducible rfl)
                simp only [Act.put, List.setIfInBounds_toArray, List.set_cons_zero, List.set_cons_succ]
                refine run_at (i := 1) rfl (by kernel_rfl) (by rfl) (fun K hK => ?_)
                simp only [List.getElem_toArray, List.getElem_cons_zero, List.getElem_cons_succ]
                go_simp
                first | (go_at_call 22; refine Calls.mono (bit_b _ _) ?_; rintro e w9 ⟨rfl, hw9⟩; subst hw9) | (go_at_call 27; refine Calls.mono (two_t (B := w3.heap.size) _ [bitN uk] u1 u2 un _ (OwnU.lit w3.drew (Nat.le_refl _) [bitN uk] 1 rfl (by decide)) (al (Below.refl _ _).drew _).size (by simp)) ?_; rintro e w4 ⟨v4, rfl, hu4, hb⟩; have hb4 : Below w3.heap.size w3 w4 := (al (Below.refl w3.heap.size w3).drew _).trans hb; have HU4 : Hid (OwnU w4 w3.heap.size v4 [bitN uk, u1, u2, un]) := hu4; obtain ⟨a4, c4, rfl, -⟩ := OwnU.val hu4; clear hb hu4)
                go_wp2_with fail
                refine hK.out _ _ (by first | exact (Below.refl _ _).drew | assumption | exact al (Below.refl _ _).drew _) ?_
                clear hK K
                intro hHeld2
                clear hHeld
                have hHeld := hHeld2
                clear hHeld2
                try simp only [Act.put, List.setIfInBounds_toArray, List.set_cons_zero, List.set_cons_succ]
                refine run_at (i := 2) rfl (by kernel_rfl) (by rfl) (fun K hK => ?_)
                simp only [List.getElem_toArray, List.getElem_cons_zero, List.getElem_cons_succ]
                go_simp
                go_wp2_with fail
                refine hK.out _ _ (by first | exact (Below.refl _ _).drew | assumption | exact al (Below.refl _ _).drew _) ?_
                clear hK K
                intro hHeld2
                clear hHeld
                have hHeld := hHeld2
                clear hHeld2
                try simp only [Act.put, List.setIfInBounds_toArray, List.set_cons_zero, List.set_cons_succ]
                refine run_at (i := 5) rfl (by kernel_rfl) (by rfl) (fun K hK => ?_)
                simp only [List.getElem_toArray, List.getElem_cons_zero, List.getElem_cons_succ]
                go_simp
                first | (go_at_call 22; refine Calls.mono (bit_b _ _) ?_; rintro e w9 ⟨rfl, hw9⟩; subst hw9) | (go_at_call 27; refine Calls.mono (two_t (B := w3.heap.size) _ [bitN uk] u1 u2 un _ (OwnU.lit w3.drew (Nat.le_refl _) [bitN uk] 1 rfl (by decide)) (al (Below.refl _ _).drew _).size (by simp)) ?_; rintro e w4 ⟨v4, rfl, hu4, hb⟩; have hb4 : Below w3.heap.size w3 w4 := (al (Below.refl w3.heap.size w3).drew _).trans hb; have HU4 : Hid (OwnU w4 w3.heap.size v4 [bitN uk, u1, u2, un]) := hu4; obtain ⟨a4, c4, rfl, -⟩ := OwnU.val hu4; clear hb hu4)
                go_wp2_with fail
                refine hK.out _ _ (by first | exact (Below.refl _ _).drew | assumption | exact al (Below.refl _ _).drew _) ?_
                clear hK K
                intro hHeld2
                clear hHeld
                have hHeld := hHeld2
                clear hHeld2
                try simp only [Act.put, List.setIfInBounds_toArray, List.set_cons_zero, List.set_cons_succ]
                refine take_at (i := 6) 4 (v := ?_) rfl rfl (by kernel_rfl) (by kernel_rfl) (by kernel_rfl) (fun _ _ _ h => h) (by rfl) ?_ hHeld ?_
                rotate_left
                · (intro w hSw; (try dsimp only at hSw); go_simp; try with_reducible rfl)
                simp only [Act.put, List.setIfInBounds_toArray, List.set_cons_zero, List.set_cons_succ]
                refine wpAnyH_done (by kernel_rfl) ?_ _
                have HB4 : Hid (Below w.heap.size w w4) := below_next HB3.out hb4
                clear hb4 hl3
                go_wp2
                go_ret
                exact ⟨p0, i0, ok0, v, vs, _, HP0.out, rfl, (show OwnU _ _ _ (firstN (upL P (s1, s2))) by rw [HFI.out]; exact OwnU.base HU4.out HB3.out.size), HI.out.below HB4.out, .inl rfl, Chg.of_below HB4.out⟩
              · have g7 : (kd == 7) = false := by simpa using h7
                by_cases h8 : kd = 8
                · subst h8
                  go_wp2_with (first | (refine wpList_load_mid rfl tSt _ rfl w.heap.size 1 rfl (sc (s1, s2)) _ HLD.out Try.underlying33 rfl info_st ?_))
                  refine Calls.mono (greatest_any (HZ.out _) HT.out hS.2 hPl s1 s2) ?_
                  rintro e w2 ⟨⟨u1, u2⟩, un, uk, rfl, hfi, hb⟩
                  have HB2 : Hid (Below w.heap.size w w2) := below_next (HAB.out _) hb
                  have HFI : Hid (firstN (downL P (s1, s2)) = [bitN uk, u1, u2, un]) := (show _ = _ by
                    unfold firstN
                    rcases hfi with ⟨e1, e2, e3, e4⟩ | ⟨y, e1, e2, e3, e4⟩
                    · cases e2; rw [e1, e3, e4]; rfl
                    · obtain ⟨⟨y1, y2⟩, yn⟩ := y; rw [e1]; subst e3 e4; cases e2; rfl)
                  clear hfi hb
                  obtain ⟨w3, hw3⟩ : ∃ Y : World, Y = w2.alloc (.cells #[.int .u64 (u1 : Int), .int .u64 (u2 : Int)] tSt) := ⟨_, rfl⟩
                  have HB3 : Hid (Below w.heap.size w w3) := (show Below _ _ _ by rw [hw3]; exact HB2.out.alloc HB2.out.size _)
                  have HX3 : Hid (w3.heap[w2.heap.size]? = some (.cells #[.int .u64 (u1 : Int), .int .u64 (u2 : Int)] tSt (0, 0))) := (show _ = _ by rw [hw3]; exact heap_alloc_new w2 _)
                  have hl3 : ∀ u, Below w3.heap.size w3 u → (Instr.loadAt tSt (.pointer (some ⟨w2.heap.size, 0, none⟩))).run Try.prog u = .ok (sv (u1, u2)) u := fun u hu => load_st u _ _ (u1, u2) (rangeAt_below (box_range HX3.out) hu)
                  go_upto_region 30 with fail
                  rw [← hw3]
                  clear hw3
                  refine wp_region_held_drew (S := (fun u => Below w3.heap.size w3 u)) (by kernel_rfl) (by first | exact (Below.refl _ _).drew | assumption | exact al (Below.refl _ _).drew _) (fun hHeld => ?_)
                  refine take_at (i := 0) 131 (v := ?_) rfl rfl (by kernel_rfl) (by kernel_rfl) (by kernel_rfl) (fun _ _ _ h => h) (by rfl) ?_ hHeld ?_
                  rotate_left
                  · (intro w hSw; (try dsimp only at hSw); go_simp; try with_reducible rfl)
                  simp only [Act.put, List.setIfInBounds_toArray, List.set_cons_zero, List.set_cons_succ]
                  refine take_at (i := 3) 134 (v := sv (u1, u2)) rfl rfl (by kernel_rfl) (by kernel_rfl) (by kernel_rfl) (fun _ _ _ h => h) (by rfl) ?_ hHeld ?_
                  · (intro w hSw; refine exec_load (by rfl) ?_; exact hl3 w hSw)
                  simp only [Act.put, List.setIfInBounds_toArray, List.set_cons_zero, List.set_cons_succ]
                  refine take_at (i := 4) 135 (v := ?_) rfl rfl (by kernel_rfl) (by kernel_rfl) (by kernel_rfl) (fun _ _ _ h => h) (by rfl) ?_ hHeld ?_
                  rotate_left
                  · (intro w hSw; (try dsimp only at hSw); go_simp; try with_reducible rfl)
                  simp only [Act.put, List.setIfInBounds_toArray, List.set_cons_zero, List.set_cons_succ]
                  refine run_at (i := 1) rfl (by kernel_rfl) (by rfl) (fun K hK => ?_)
                  simp only [List.getElem_toArray, List.getElem_cons_zero, List.getElem_cons_succ]
                  go_simp
                  first | (go_at_call 22; refine Calls.mono (bit_b _ _) ?_; rintro e w9 ⟨rfl, hw9⟩; subst hw9) | (go_at_call 27; refine Calls.mono (two_t (B := w3.heap.size) _ [bitN uk] u1 u2 un _ (OwnU.lit w3.drew (Nat.le_refl _) [bitN uk] 1 rfl (by decide)) (al (Below.refl _ _).drew _).size (by simp)) ?_; rintro e w4 ⟨v4, rfl, hu4, hb⟩; have hb4 : Below w3.heap.size w3 w4 := (al (Below.refl w3.heap.size w3).drew _).trans hb; have HU4 : Hid (OwnU w4 w3.heap.size v4 [bitN uk, u1, u2, un]) := hu4; obtain ⟨a4, c4, rfl, -⟩ := OwnU.val hu4; clear hb hu4)
                  go_wp2_with fail
                  refine hK.out _ _ (by first | exact (Below.refl _ _).drew | assumption | exact al (Below.refl _ _).drew _) ?_
                  clear hK K
                  intro hHeld2
                  clear hHeld
                  have hHeld := hHeld2
                  clear hHeld2
                  try simp only [Act.put, List.setIfInBounds_toArray, List.set_cons_zero, List.set_cons_succ]
                  refine run_at (i := 2) rfl (by kernel_rfl) (by rfl) (fun K hK => ?_)
                  simp only [List.getElem_toArray, List.getElem_cons_zero, List.getElem_cons_succ]
                  go_simp
                  go_wp2_with fail
                  refine hK.out _ _ (by first | exact (Below.refl _ _).drew | assumption | exact al (Below.refl _ _).drew _) ?_
                  clear hK K
                  intro hHeld2
                  clear hHeld
                  have hHeld := hHeld2
                  clear hHeld2
                  try simp only [Act.put, List.setIfInBounds_toArray, List.set_cons_zero, List.set_cons_succ]
                  refine run_at (i := 5) rfl (by kernel_rfl) (by rfl) (fun K hK => ?_)
                  simp only [List.getElem_toArray, List.getElem_cons_zero, List.getElem_cons_succ]
                  go_simp
                  first | (go_at_call 22; refine Calls.mono (bit_b _ _) ?_; rintro e w9 ⟨rfl, hw9⟩; subst hw9) | (go_at_call 27; refine Calls.mono (two_t (B := w3.heap.size) _ [bitN uk] u1 u2 un _ (OwnU.lit w3.drew (Nat.le_refl _) [bitN uk] 1 rfl (by decide)) (al (Below.refl _ _).drew _).size (by simp)) ?_; rintro e w4 ⟨v4, rfl, hu4, hb⟩; have hb4 : Below w3.heap.size w3 w4 := (al (Below.refl w3.heap.size w3).drew _).trans hb; have HU4 : Hid (OwnU w4 w3.heap.size v4 [bitN uk, u1, u2, un]) := hu4; obtain ⟨a4, c4, rfl, -⟩ := OwnU.val hu4; clear hb hu4)
                  go_wp2_with fail
                  refine hK.out _ _ (by first | exact (Below.refl _ _).drew | assumption | exact al (Below.refl _ _).drew _) ?_
                  clear hK K
                  intro hHeld2
                  clear hHeld
                  have hHeld := hHeld2
                  clear hHeld2
                  try simp only [Act.put, List.setIfInBounds_toArray, List.set_cons_zero, List.set_cons_succ]
                  refine take_at (i := 6) 4 (v := ?_) rfl rfl (by kernel_rfl) (by kernel_rfl) (by kernel_rfl) (fun _ _ _ h => h) (by rfl) ?_ hHeld ?_
                  rotate_left
                  · (intro w hSw; (try dsimp only at hSw); go_simp; try with_reducible rfl)
                  simp only [Act.put, List.setIfInBounds_toArray, List.set_cons_zero, List.set_cons_succ]
                  refine wpAnyH_done (by kernel_rfl) ?_ _
                  have HB4 : Hid (Below w.heap.size w w4) := below_next HB3.out hb4
                  clear hb4 hl3
                  go_wp2
                  go_ret
                  exact ⟨p0, i0, ok0, v, vs, _, HP0.out, rfl, (show OwnU _ _ _ (firstN (downL P (s1, s2))) by rw [HFI.out]; exact OwnU.base HU4.out HB3.out.size), HI.out.below HB4.out, .inl rfl, Chg.of_below HB4.out⟩
                · have g8 : (kd == 8) = false := by simpa using h8
                  by_cases h9 : kd = 9
                  · subst h9
                    go_wp2_with (first | (refine wpList_load_mid rfl tOp _ rfl w.heap.size 0 rfl [.int .i64 9, .int .u64 (s1 : Int), .int .u64 (s2 : Int), .int .u64 (n : Int)] _ HLO.out Try.underlying35 rfl info_op5 ?_))
                    refine Calls.mono (along_t (HZ.out _) HT.out hS.2 hPl 9 s1 s2 n) ?_
                    rintro e w2 ⟨vl, rfl, hul, hb⟩
                    have HB2 : Hid (Below w.heap.size w w2) := below_next (HAB.out _) hb
                    have HUL : Hid _ := OwnU.base hul (HAB.out _).size
                    obtain ⟨al9, cl9, hvl, -⟩ := OwnU.val hul
                    obtain ⟨T0, hT0⟩ : ∃ T0, T0 = (nmE ((if (9 : Int) = 10 then downL P (s1, s2) else upL P (s1, s2)).take (n % 64))).length := ⟨_, rfl⟩
                    rw [← hT0] at hvl
                    subst hvl
                    clear hb hul hT0
                    go_wp2
                    go_ret
                    exact ⟨p0, i0, ok0, v, vs, _, HP0.out, rfl, HUL.out, HI.out.below HB2.out, .inl rfl, Chg.of_below HB2.out⟩
                  · have g9 : (kd == 9) = false := by simpa using h9
                    by_cases h10 : kd = 10
                    · subst h10
                      go_wp2_with (first | (refine wpList_load_mid rfl tOp _ rfl w.heap.size 0 rfl [.int .i64 10, .int .u64 (s1 : Int), .int .u64 (s2 : Int), .int .u64 (n : Int)] _ HLO.out Try.underlying35 rfl info_op5 ?_))
                      refine Calls.mono (along_t (HZ.out _) HT.out hS.2 hPl 10 s1 s2 n) ?_
                      rintro e w2 ⟨vl, rfl, hul, hb⟩
                      have HB2 : Hid (Below w.heap.size w w2) := below_next (HAB.out _) hb
                      have HUL : Hid _ := OwnU.base hul (HAB.out _).size
                      obtain ⟨al9, cl9, hvl, -⟩ := OwnU.val hul
                      obtain ⟨T0, hT0⟩ : ∃ T0, T0 = (nmE ((if (10 : Int) = 10 then downL P (s1, s2) else upL P (s1, s2)).take (n % 64))).length := ⟨_, rfl⟩
                      rw [← hT0] at hvl
                      subst hvl
                      clear hb hul hT0
                      go_wp2
                      go_ret
                      exact ⟨p0, i0, ok0, v, vs, _, HP0.out, rfl, HUL.out, HI.out.below HB2.out, .inl rfl, Chg.of_below HB2.out⟩
                    · have g10 : (kd == 10) = false := by simpa using h10
                      have HNL : Hid (ansL P kd (s1, s2) n p0 i0 ok0 = [] ∧ nextP S P kd (s1, s2) n p0 i0 ok0 = P) := (show _ ∧ _ by
                        unfold ansL nextP
                        simp only [if_neg h1, if_neg h2, if_neg h3, if_neg h4, if_neg h5, if_neg h6, if_neg h7, if_neg h8, if_neg h9, if_neg h10, and_self])
                      go_wp2
                      go_ret
                      exact ⟨p0, i0, ok0, v, vs, _, HP0.out, rfl, by rw [HNL.out.1]; exact OwnU.nil _ _, by rw [HNL.out.2]; exact HI.out.below (HAB.out _), .inl rfl, Chg.of_below (HAB.out _)⟩
end
end Go.Proofs.Ytibolgpaolnheab
