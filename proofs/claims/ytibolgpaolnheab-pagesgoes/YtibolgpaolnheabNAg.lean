import Derived.Test.YtibolgpaolnheabNAs
namespace Go.Proofs.Ytibolgpaolnheab
set_option linter.unusedVariables false
set_option linter.unusedSimpArgs false
open Go.RowKit Go.Shelf
attribute [local go_sem] Oper.semAt_some
theorem name_actN {F : Fence} {n : Nat} {P : Program} {c : Code} {Q : Exit → Act → World → Prop} {t : Array Value} {d : List Deferred} {w : World} (h : ∀ T : Array Value, T = t → c.wpIn F n P Q { tmps := T, defers := d } w) : c.wpIn F n P Q { tmps := t, defers := d } w := h t rfl
section
set_option maxRecDepth 100000
set_option maxHeartbeats 6400000
theorem along_t {w : World} {g S : Nat} {P : List (List Ent)} {v : Value} {vs : List Value} (h : IdxAt w g S P v vs) (ht : Tid S P) (hS : S ≤ 64) (hPl : P.length ≤ 4398046511104) (kd : Int) (s1 s2 n : Nat) : Calls Try.prog 29 #[.pointer (some ⟨g, 0, none⟩), opw kd s1 s2 n] w fun e w' => ∃ v', e = .returned v' ∧ OwnU w' w.heap.size v' (nmE ((if kd = 10 then downL P (s1, s2) else upL P (s1, s2)).take (n % 64))) ∧ Below w.heap.size w w' := by
  refine (callsIn_wide (n := 12)).1 ?_
  have HZ : Hid (IdxAt w g S P v vs) := h
  have HTD : Hid (Tid S P) := ht
  obtain ⟨px, hpx⟩ : ∃ px, px = some (⟨g, 0, none⟩ : Addr) := ⟨_, rfl⟩
  rw [← hpx]
  have HPX : Hid (px = some (⟨g, 0, none⟩ : Addr)) := hpx
  clear h ht hpx
  obtain ⟨mm, hmm⟩ : ∃ mm : Nat, mm = n % 64 := ⟨_, rfl⟩
  have HMM : Hid ((n : Int) % 64 = (mm : Int)) := (show _ = _ by omega)
  rw [← hmm]
  have hm64 : mm < 64 := by omega
  clear hmm
  have hefn := eql_func_nil
  obtain ⟨W1, hW1⟩ : ∃ X : World, X = ((w.alloc (.cells #[.int .i64 kd, .int .u64 (s1 : Int), .int .u64 (s2 : Int), .int .u64 (n : Int)] tOp)).alloc (.cells #[.slice none 0 0] tUs)).alloc (.cells #[.int .i64 ((n : Int) % 64)] 3) := ⟨_, rfl⟩
  have HBW : Hid (Below w.heap.size w W1) := (show Below w.heap.size w W1 by rw [hW1]; exact al (al (al (Below.refl _ _) _) _) _)
  obtain ⟨H, hH⟩ : ∃ H, H = w.heap.size := ⟨_, rfl⟩
  have HH : Hid (H = w.heap.size) := hH
  have HA : Hid (W1.heap[H]? = some (.cells #[.int .i64 kd, .int .u64 (s1 : Int), .int .u64 (s2 : Int), .int .u64 (n : Int)] tOp (0, 0)) ∧ W1.heap[H + 1]? = some (.cells #[.slice none 0 0] tUs (0, 0)) ∧ W1.heap[H + 1 + 1]? = some (.cells #[.int .i64 ((n : Int) % 64)] 3 (0, 0))) := (show _ ∧ _ ∧ _ by
    rw [hW1, hH]
    have h2 := two_new w (.cells #[.int .i64 kd, .int .u64 (s1 : Int), .int .u64 (s2 : Int), .int .u64 (n : Int)] tOp) (.cells #[.slice none 0 0] tUs)
    have h3 := heap_alloc_new ((w.alloc (.cells #[.int .i64 kd, .int .u64 (s1 : Int), .int .u64 (s2 : Int), .int .u64 (n : Int)] tOp)).alloc (.cells #[.slice none 0 0] tUs)) (.cells #[.int .i64 ((n : Int) % 64)] 3)
    rw [World.size_alloc, World.size_alloc] at h3
    exact ⟨(Below.heap_alloc _ _ _ (by simp; omega)).trans h2.1, (Below.heap_alloc _ _ _ (by simp)).trans h2.2, h3⟩)
  obtain ⟨m, hm⟩ : ∃ m : Int, m = (n : Int) % 64 := ⟨_, rfl⟩
  have HME : Hid (m = (mm : Int)) := hm.trans HMM.out
  refine callsIn_of_wp_marks Try.func29 rfl trivial ?_ rfl
  simp only [Try.ntmps29, List.size_toArray, List.length_cons, List.length_nil, Nat.reduceAdd, Nat.reduceSub, Array.replicate_succ, Array.replicate_zero, List.push_toArray, List.append_toArray, List.nil_append, List.cons_append]
  refine wpIn_wide.2 ?_
  go_wp2_with fail
  rw [← hW1]
  simp only [← hm, ← hH]
  rw [← hm] at HA
  clear hW1 hm hH
  refine Calls.mono (up_t (.pointer px) rfl px rfl s1 s2 W1) ?_
  rintro e z ⟨rfl, hz⟩
  have HBZ : Hid (Below W1.heap.size W1 z) := (show Below _ _ _ by rw [hz]; exact al (al (Below.refl _ _) _) _)
  have ht := two_new W1 (.cells #[.pointer px] 23) (.cells #[.int .u64 (s1 : Int), .int .u64 (s2 : Int)] tSt)
  rw [← hz] at ht
  obtain ⟨gx, hgx⟩ : ∃ gx, gx = W1.heap.size := ⟨_, rfl⟩
  rw [← hgx] at ht ⊢
  have HT : Hid (z.heap[gx]? = some (.cells #[.pointer px] 23 (0, 0)) ∧ z.heap[gx + 1]? = some (.cells #[.int .u64 (s1 : Int), .int .u64 (s2 : Int)] tSt (0, 0))) := ht
  clear hz ht hgx
  have HK : Hid (∀ k o, W1.heap[k]? = some o → z.heap[k]? = some o) := fun k o h9 => (HBZ.out.block k (Array.getElem?_eq_some_iff.1 h9).1).trans h9
  have hck : z.cell? ⟨H, 0, none⟩ = some (.int .i64 kd) := by rw [cell_of_row _ _ _ _ _ _ (HK.out _ _ HA.out.1)]; rfl
  by_cases hkd : kd = 10
  · subst hkd
    go_wp2_with (first | (refine wpList_load_mid rfl tSt _ rfl H 1 rfl (sc (s1, s2)) _ (box_off (HK.out _ _ HA.out.1)) Try.underlying33 rfl info_st ?_))
    refine Calls.mono (down_t (.pointer px) rfl px rfl s1 s2 z) ?_
    rintro e y ⟨rfl, hy⟩
    have HBY : Hid (Below z.heap.size z y) := (show Below _ _ _ by rw [hy]; exact al (al (Below.refl _ _) _) _)
    have ht := two_new z (.cells #[.pointer px] 23) (.cells #[.int .u64 (s1 : Int), .int .u64 (s2 : Int)] tSt)
    rw [← hy] at ht
    obtain ⟨gy, hgy⟩ : ∃ gy, gy = z.heap.size := ⟨_, rfl⟩
    rw [← hgy] at ht ⊢
    have HT2 : Hid (y.heap[gy]? = some (.cells #[.pointer px] 23 (0, 0)) ∧ y.heap[gy + 1]? = some (.cells #[.int .u64 (s1 : Int), .int .u64 (s2 : Int)] tSt (0, 0))) := ht
    clear hy ht hgy
    have HKY : Hid (∀ k o, W1.heap[k]? = some o → y.heap[k]? = some o) := fun k o h9 => (HBY.out.block k (Array.getElem?_eq_some_iff.1 (HK.out k o h9)).1).trans (HK.out k o h9)
    have HBWY : Hid (Below w.heap.size w y) := below_next (below_next HBW.out HBZ.out) HBY.out
    have hcm : y.cell? ⟨H + 1 + 1, 0, none⟩ = some (.int .i64 m) := by rw [cell_of_row _ _ _ _ _ _ (HKY.out _ _ HA.out.2.2)]; rfl
    have hcl : y.cell? ⟨H + 1, 0, none⟩ = some (.slice none 0 0) := by rw [cell_of_row _ _ _ _ _ _ (HKY.out _ _ HA.out.2.1)]; rfl
    have HBN : Hid (Below w.heap.size w y) := HBWY.out
    obtain ⟨X, hX⟩ : ∃ X, X = downL P (s1, s2) := ⟨_, rfl⟩
    have HX : Hid (X = downL P (s1, s2)) := hX
    have HIFX : Hid ((if (10 : Int) = 10 then downL P (s1, s2) else upL P (s1, s2)) = X) := (show _ = _ by rw [HX.out]; first | rw [if_pos rfl] | rw [if_neg hkd])
    clear hX
    by_cases hm0 : m = 0
    · have HM0 : Hid (mm = 0) := (show _ = _ by have := HME.out; omega)
      subst hm0
      go_wp2_with fail
      exact ⟨_, results_tmp rfl _ _ _, _, rfl, by rw [HM0.out]; exact OwnU.nil _ _, HBN.out⟩
    · have hm0b : (m == 0) = false := by simpa using hm0
      have HM0 : Hid (0 < mm) := (show 0 < mm by have := HME.out; omega)
      obtain ⟨C, hC⟩ : ∃ C, C = y.heap.size := ⟨_, rfl⟩
      obtain ⟨z2, hz2⟩ : ∃ Y : World, Y = y.alloc (.cells #[.int .i64 0] 3) := ⟨_, rfl⟩
      have HB2 : Hid (Below y.heap.size y z2) := (show Below _ _ _ by rw [hz2]; exact al (Below.refl _ _) _)
      have HN2 : Hid (Below w.heap.size w z2) := below_next HBN.out HB2.out
      have HK2 : Hid (∀ k o, W1.heap[k]? = some o → z2.heap[k]? = some o) := (fun k o h9 => (HB2.out.block k (Array.getElem?_eq_some_iff.1 (HKY.out k o h9)).1).trans (HKY.out k o h9))
      have HC2 : Hid (z2.heap[C]? = some (.cells #[.int .i64 0] 3 (0, 0))) := (show _ = _ by rw [hz2, hC]; exact heap_alloc_new y _)
      have hCz : C < z2.heap.size := (Array.getElem?_eq_some_iff.1 HC2.out).1
      have hHC : H + 3 ≤ C := by
        have h9 := (Array.getElem?_eq_some_iff.1 (HKY.out _ _ HA.out.2.2)).1
        omega
      have hHz : H ≤ z2.heap.size := by omega
      have HSQ : Hid (SeqG Fence.wide 11 Try.prog 45 #[.pointer (some ⟨gy, 0, none⟩), .pointer (some ⟨gy + 1, 0, none⟩)] encU (EntB z2) (fun xs => xs = X) (fun pre => pre <+: X) 1125899906842624 z2) := (show SeqG Fence.wide 11 Try.prog 45 #[.pointer (some ⟨gy, 0, none⟩), .pointer (some ⟨gy + 1, 0, none⟩)] encU (EntB z2) (fun xs => xs = X) (fun pre => pre <+: X) 1125899906842624 z2 by
        have h9 := down_any 11 (by decide) gy (gy + 1) s1 s2 (HZ.out.below HN2.out) HTD.out hS hPl (by rw [← HPX.out, cell_of_row _ _ _ _ _ _ ((HB2.out.block _ (Array.getElem?_eq_some_iff.1 HT2.out.1).1).trans HT2.out.1)]; rfl) (box_range ((HB2.out.block _ (Array.getElem?_eq_some_iff.1 HT2.out.2).1).trans HT2.out.2))
        rw [← HX.out] at h9
        exact h9)
      have HA0 : Hid (Alg w z2 z2 H C mm (EntB z2) [] (.slice none 0 0)) := (show Alg w z2 z2 H C mm (EntB z2) [] (.slice none 0 0) by
        have hno : ∀ {k : Nat} {cs : Array Value} {t : TypeId}, z2.heap[k]? = some (.cells cs t (0, 0)) → t ≠ tEn → ¬ EntB z2 k := fun hk ht ⟨_, cur, fr, h9⟩ => by
          rw [hk] at h9; injection h9 with h9; injection h9 with h7 h8; exact ht h8
        have hmo := HK2.out _ _ HA.out.2.2
        rw [HME.out] at hmo
        exact ⟨by rw [HH.out]; exact HN2.out, HK2.out _ _ HA.out.2.1, OwnU.nil _ _, HC2.out, hmo, hno (HK2.out _ _ HA.out.2.1) (by decide), hno HC2.out (by decide), (fun b hb => by cases hb), fun k hk => hk.1, Nat.le_refl _⟩)
      go_wp2_with fail
      rw [← hz2]
      simp only [← hC]
      clear hz2 hC hcl hcm hck
      refine (wpIn_wide (n := 12)).1 ?_
      refine name_actN ?_
      intro T hT
      refine wpIn_rangeFunc_G rfl (by decide) (gf := 45) (lb := #[.pointer (some ⟨gy, 0, none⟩), .pointer (some ⟨gy + 1, 0, none⟩)]) (by subst hT; rfl) trivial (enters_of Try.func45 (by kernel_rfl) rfl) HSQ.out (fun k hk => hk.1) (fun _ => rfl)
        (fun pre Z V => pre.length < mm ∧ ∃ vl, Alg w z2 V H C mm Z pre vl)
        (fun c pre Z V => c = .exit 0 ∧ pre.length = mm ∧ ∃ vl, Alg w z2 V H C mm Z pre vl)
        ⟨fun s Z V V' row hs hg hr => ⟨hs.1, hs.2.elim (fun vl h9 => ⟨vl, h9.grow hHz hg hr⟩)⟩, fun s Z Z' V hs hz => ⟨hs.1, hs.2.elim (fun vl h9 => ⟨vl, h9.less hz⟩)⟩⟩
        (fun c => ⟨fun s Z V V' row hs hg hr => ⟨hs.1, hs.2.1, hs.2.2.elim (fun vl h9 => ⟨vl, h9.grow hHz hg hr⟩)⟩, fun s Z Z' V hs hz => ⟨hs.1, hs.2.1, hs.2.2.elim (fun vl h9 => ⟨vl, h9.less hz⟩)⟩⟩)
        ⟨HM0.out, _, HA0.out⟩
        (fun x a' V => ∃ Bx, z2.heap.size ≤ Bx ∧ V.heap[Bx]? = some (.cells #[.int .u64 (x.st.1 : Int), .int .u64 (x.st.2 : Int)] tSt (0, 0)) ∧ a' = { tmps := (((T.setIfInBounds 33 (sv x.st)).setIfInBounds 34 x.v).setIfInBounds 9 (.pointer (some ⟨Bx, 0, none⟩))).setIfInBounds 10 x.v, defers := [] })
        (fun x a' s A B row hs hg hr => by obtain ⟨Bx, h1, h2, h3⟩ := hs; exact ⟨Bx, h1, heap_kept h2 hg (fun r e => (hr r e).2), h3⟩)
        ?assign ?body ?done ?stop
      case assign =>
        rintro l pre Z ⟨⟨x1, x2⟩, xn⟩ V K ⟨hlt, vl, hA9⟩ hK
        subst hT
        simp only [fold2, List.setIfInBounds_toArray, List.set_cons_zero, List.set_cons_succ]
        gi_wp2
        exact hK _ _ ((KeepsOthers.alloc _ _).from _) (fun k hk => Below.heap_alloc V _ k (hA9.zb k hk)) ⟨hlt, vl, (hA9.grow hHz (World.grownBy_alloc V _ none) (fun r e => by cases e)).less (fun j hj => .inl hj)⟩ ⟨V.heap.size, hA9.sz, heap_alloc_new V _, rfl⟩
      case body =>
        rintro l pre Z ⟨⟨x1, x2⟩, xn⟩ a' V hl hlr ⟨hlt, vl, hA9⟩ ⟨Bx, hBx, hX9, rfl⟩ hln
        have HAL : Hid (Alg w z2 V H C mm Z pre vl) := hA9
        have HLT : Hid (pre.length < mm) := hlt
        obtain ⟨al9, cl9, hvl, -⟩ := OwnU.val hA9.o
        obtain ⟨T0, hT0⟩ : ∃ T0, T0 = (nmE pre).length := ⟨_, rfl⟩
        have HT0 : Hid (T0 ≤ 200) := (show T0 ≤ 200 by rw [hT0, nmE_len]; omega)
        have HTE : Hid (T0 = (nmE pre).length) := hT0
        rw [← hT0] at hvl
        subst hvl
        have hcl : V.cell? ⟨H + 1, 0, none⟩ = some (.slice al9 T0 cl9) := by rw [cell_of_row _ _ _ _ _ _ hA9.l]; rfl
        have hb0 : V.cell? ⟨Bx, 0, none⟩ = some (.int .u64 (x1 : Int)) := by rw [cell_of_row _ _ _ _ _ _ hX9]; rfl
        have hb1 : V.cell? ⟨Bx, 1, none⟩ = some (.int .u64 (x2 : Int)) := by rw [cell_of_row _ _ _ _ _ _ hX9]; rfl
        have HTW : Hid _ := two_k (B := z2.heap.size) (.slice al9 T0 cl9) (nmE pre) x1 x2 xn V hA9.o hA9.sz (by have := HT0.out; have := HTE.out; omega)
        clear hA9 hX9 hT0 hlt hln
        subst hT
        simp only [List.setIfInBounds_toArray, List.set_cons_zero, List.set_cons_succ]
        gi_wp2
        refine ⟨trivial, ?_⟩
        refine (callsIn_round.2 HTW.out).mono ?_
        rintro e V2 ⟨v2, rfl, ho2, hg2, hbk2⟩
        have hAL := HAL.out
        have hro : ∀ b, (Value.slice al9 T0 cl9).ownBlock = some b → z2.heap.size ≤ b := fun b hb => (World.ownsRow.lt hAL.o b hb).1
        have kp : ∀ {k : Nat} {o : Obj}, V.heap[k]? = some o → k < z2.heap.size → V2.heap[k]? = some o := fun hk h9 => (hg2.block _ (Array.getElem?_eq_some_iff.1 hk).1 (fun e => by have := hro _ e.symm; omega)).trans hk
        have hl2 := kp hAL.l (by omega)
        have hc2 := kp hAL.c hCz
        have hm2 := kp hAL.mo (by omega)
        obtain ⟨kk, hkk⟩ : ∃ kk, kk = pre.length := ⟨_, rfl⟩
        have HST : Hid (∀ u, u = (V2.setCell ⟨H + 1, 0, none⟩ v2).setCell ⟨C, 0, none⟩ (.int .i64 ((kk : Int) + 1)) → KeepsFrom z2.heap.size V u ∧ KeepZ Z V u ∧ Alg w z2 u H C mm Z (pre ++ [(⟨(x1, x2), xn⟩ : Ent)]) v2) := (fun u hu => hAL.step hHz hHC ⟨(x1, x2), xn⟩ V2 v2 hg2 ho2 hbk2 hCz u (by rw [hu, hkk]))
        rw [← hkk] at hc2
        have HKK : Hid (kk = pre.length) := hkk
        obtain ⟨a2, c2, hv2, -⟩ := OwnU.val ho2
        obtain ⟨T2, hT2⟩ : ∃ T2, T2 = (nmE pre ++ [x1, x2, xn]).length := ⟨_, rfl⟩
        rw [← hT2] at hv2
        subst hv2
        have hcl2 : V2.cell? ⟨H + 1, 0, none⟩ = some (.slice al9 T0 cl9) := by rw [cell_of_row _ _ _ _ _ _ hl2]; rfl
        have hfl2 : V2.frozen? ⟨H + 1, 0, none⟩ = false := by simp [World.frozen?, hl2]
        have hcc2 : V2.cell? ⟨C, 0, none⟩ = some (.int .i64 (kk : Int)) := by rw [cell_of_row _ _ _ _ _ _ hc2]; rfl
        have hfc2 : V2.frozen? ⟨C, 0, none⟩ = false := by simp [World.frozen?, hc2]
        have hcm2 : V2.cell? ⟨H + 1 + 1, 0, none⟩ = some (.int .i64 (mm : Int)) := by rw [cell_of_row _ _ _ _ _ _ hm2]; rfl
        have hne1 : ¬ H + 1 = C := by omega
        have hne2 : ¬ C = H + 1 := by omega
        have hne3 : ¬ H + 1 + 1 = C := by omega
        have hne4 : ¬ C = H + 1 + 1 := by omega
        have hwk : IntKind.i64.wrap ((kk : Int) + 1) = (kk : Int) + 1 := by rw [IntKind.wrap_i64]; have := HLT.out; omega
        clear hl2 hc2 hm2 hkk hT2 ho2 hg2 hbk2 hAL hro kp
        by_cases hE : kk + 1 = mm
        · have hEi : (kk : Int) + 1 = (mm : Int) := by omega
          have HLE : Hid ((pre ++ [(⟨(x1, x2), xn⟩ : Ent)]).length = mm) := (show _ = _ by rw [List.length_append]; simp; have := HKK.out; omega)
          have HEI : Hid ((kk : Int) + 1 = (mm : Int)) := hEi
          gi_wp2
          have h9 := HST.out ((V2.setCell ⟨H + 1, 0, none⟩ (.slice a2 T2 c2)).setCell ⟨C, 0, none⟩ (.int .i64 (mm : Int))) (by rw [HEI.out])
          exact ⟨h9.1, h9.2.1, rfl, HLE.out, _, h9.2.2⟩
        · have hEi : ¬ (kk : Int) + 1 = (mm : Int) := by omega
          have hEb : (((kk : Int) + 1) == (mm : Int)) = false := by simpa using hEi
          have HLE : Hid ((pre ++ [(⟨(x1, x2), xn⟩ : Ent)]).length < mm) := (show _ < _ by rw [List.length_append]; simp; have := HKK.out; have := HLT.out; omega)
          gi_wp2
          exact ⟨(HST.out _ rfl).1, (HST.out _ rfl).2.1, HLE.out, _, (HST.out _ rfl).2.2⟩
      case stop =>
        rintro D c pre Z V hD hpre ⟨rfl, hlt, vl, hA9⟩ hK
        have HAL : Hid (Alg w z2 V H C mm Z pre vl) := hA9
        have HRS : Hid (X.take mm = pre) := (show _ = _ by have h9 := List.prefix_iff_eq_take.1 hpre; rw [hlt] at h9; exact h9.symm)
        obtain ⟨al9, cl9, hvl, -⟩ := OwnU.val hA9.o
        obtain ⟨T0, hT0⟩ : ∃ T0, T0 = (nmE pre).length := ⟨_, rfl⟩
        rw [← hT0] at hvl
        subst hvl
        have hcl9 : V.cell? ⟨H + 1, 0, none⟩ = some (.slice al9 T0 cl9) := by rw [cell_of_row _ _ _ _ _ _ hA9.l]; rfl
        have HDV : Hid (V.heap[D]? = some (.deferred (some []))) := hK
        have HDD : Hid (w.heap.size ≤ D) := (show _ ≤ _ by have := HN2.out.size; omega)
        clear hA9 hK hD hpre hlt hT0
        subst hT
        refine wpIn_wide.2 ?_
        go_wp2_with fail
        refine ⟨by simp, .inl ⟨_, _, rfl, run_takeDeferred HDV.out, ?_⟩⟩
        refine ⟨_, results_tmp rfl _ _ _, _, rfl, ?_, ?_⟩
        · first | rw [HIFX.out, HRS.out] | rw [← HX.out, HRS.out]
          exact OwnU.base (row_kept HAL.out.o (fun b hb => World.putObj_heap_other (fun e => by
            obtain ⟨cur, h9⟩ := rowX_blk HAL.out.o b hb
            rw [e, HDV.out] at h9
            cases h9))) HN2.out.size
        · have h9 := HAL.out.bel
          rw [HH.out] at h9
          exact h9.trans (belowK_b (w := w) (Nat.le_refl _) _ D _ _ HDD.out HDV.out rfl rfl)
      case done =>
        rintro D ys Z V hD hys ⟨hlt, vl, hA9⟩ hK
        obtain rfl : X = ys := hys.symm
        have HAL : Hid (Alg w z2 V H C mm Z X vl) := hA9
        have HRS : Hid (X.take mm = X) := (show _ = _ from List.take_of_length_le (by omega))
        obtain ⟨al9, cl9, hvl, -⟩ := OwnU.val hA9.o
        obtain ⟨T0, hT0⟩ : ∃ T0, T0 = (nmE X).length := ⟨_, rfl⟩
        rw [← hT0] at hvl
        subst hvl
        have hcl9 : V.cell? ⟨H + 1, 0, none⟩ = some (.slice al9 T0 cl9) := by rw [cell_of_row _ _ _ _ _ _ hA9.l]; rfl
        have HDV : Hid (V.heap[D]? = some (.deferred (some []))) := hK
        have HDD : Hid (w.heap.size ≤ D) := (show _ ≤ _ by have := HN2.out.size; omega)
        clear hA9 hK hD hys hlt hT0
        subst hT
        dsimp only
        go_wp2_with fail
        refine ⟨by simp, .inl ⟨_, _, rfl, run_takeDeferred HDV.out, ?_⟩⟩
        refine ⟨_, results_tmp rfl _ _ _, _, rfl, ?_, ?_⟩
        · first | rw [HIFX.out, HRS.out] | rw [← HX.out, HRS.out]
          exact OwnU.base (row_kept HAL.out.o (fun b hb => World.putObj_heap_other (fun e => by
            obtain ⟨cur, h9⟩ := rowX_blk HAL.out.o b hb
            rw [e, HDV.out] at h9
            cases h9))) HN2.out.size
        · have h9 := HAL.out.bel
          rw [HH.out] at h9
          exact h9.trans (belowK_b (w := w) (Nat.le_refl _) _ D _ _ HDD.out HDV.out rfl rfl)
  · have hkdb : (kd == 10) = false := by simpa using hkd
    have HBWZ : Hid (Below w.heap.size w z) := below_next HBW.out HBZ.out
    have hcm : z.cell? ⟨H + 1 + 1, 0, none⟩ = some (.int .i64 m) := by rw [cell_of_row _ _ _ _ _ _ (HK.out _ _ HA.out.2.2)]; rfl
    have hcl : z.cell? ⟨H + 1, 0, none⟩ = some (.slice none 0 0) := by rw [cell_of_row _ _ _ _ _ _ (HK.out _ _ HA.out.2.1)]; rfl
    have HBN : Hid (Below w.heap.size w z) := HBWZ.out
    obtain ⟨X, hX⟩ : ∃ X, X = upL P (s1, s2) := ⟨_, rfl⟩
    have HX : Hid (X = upL P (s1, s2)) := hX
    have HIFX : Hid ((if kd = 10 then downL P (s1, s2) else upL P (s1, s2)) = X) := (show _ = _ by rw [HX.out]; first | rw [if_pos rfl] | rw [if_neg hkd])
    clear hX
    by_cases hm0 : m = 0
    · have HM0 : Hid (mm = 0) := (show _ = _ by have := HME.out; omega)
      subst hm0
      go_wp2_with fail
      exact ⟨_, results_tmp rfl _ _ _, _, rfl, by rw [HM0.out]; exact OwnU.nil _ _, HBN.out⟩
    · have hm0b : (m == 0) = false := by simpa using hm0
      have HM0 : Hid (0 < mm) := (show 0 < mm by have := HME.out; omega)
      obtain ⟨C, hC⟩ : ∃ C, C = z.heap.size := ⟨_, rfl⟩
      obtain ⟨z2, hz2⟩ : ∃ Y : World, Y = z.alloc (.cells #[.int .i64 0] 3) := ⟨_, rfl⟩
      have HB2 : Hid (Below z.heap.size z z2) := (show Below _ _ _ by rw [hz2]; exact al (Below.refl _ _) _)
      have HN2 : Hid (Below w.heap.size w z2) := below_next HBN.out HB2.out
      have HK2 : Hid (∀ k o, W1.heap[k]? = some o → z2.heap[k]? = some o) := (fun k o h9 => (HB2.out.block k (Array.getElem?_eq_some_iff.1 (HK.out k o h9)).1).trans (HK.out k o h9))
      have HC2 : Hid (z2.heap[C]? = some (.cells #[.int .i64 0] 3 (0, 0))) := (show _ = _ by rw [hz2, hC]; exact heap_alloc_new z _)
      have hCz : C < z2.heap.size := (Array.getElem?_eq_some_iff.1 HC2.out).1
      have hHC : H + 3 ≤ C := by
        have h9 := (Array.getElem?_eq_some_iff.1 (HK.out _ _ HA.out.2.2)).1
        omega
      have hHz : H ≤ z2.heap.size := by omega
      have HSQ : Hid (SeqG Fence.wide 11 Try.prog 41 #[.pointer (some ⟨gx, 0, none⟩), .pointer (some ⟨gx + 1, 0, none⟩)] encU (EntB z2) (fun xs => xs = X) (fun pre => pre <+: X) X.length z2) := (show SeqG Fence.wide 11 Try.prog 41 #[.pointer (some ⟨gx, 0, none⟩), .pointer (some ⟨gx + 1, 0, none⟩)] encU (EntB z2) (fun xs => xs = X) (fun pre => pre <+: X) X.length z2 by
        have h9 := up_any 11 (by decide) gx (gx + 1) s1 s2 (HZ.out.below HN2.out) HTD.out hS hPl (by rw [← HPX.out, cell_of_row _ _ _ _ _ _ ((HB2.out.block _ (Array.getElem?_eq_some_iff.1 HT.out.1).1).trans HT.out.1)]; rfl) (box_range ((HB2.out.block _ (Array.getElem?_eq_some_iff.1 HT.out.2).1).trans HT.out.2))
        rw [← HX.out] at h9
        exact h9)
      have HA0 : Hid (Alg w z2 z2 H C mm (EntB z2) [] (.slice none 0 0)) := (show Alg w z2 z2 H C mm (EntB z2) [] (.slice none 0 0) by
        have hno : ∀ {k : Nat} {cs : Array Value} {t : TypeId}, z2.heap[k]? = some (.cells cs t (0, 0)) → t ≠ tEn → ¬ EntB z2 k := fun hk ht ⟨_, cur, fr, h9⟩ => by
          rw [hk] at h9; injection h9 with h9; injection h9 with h7 h8; exact ht h8
        have hmo := HK2.out _ _ HA.out.2.2
        rw [HME.out] at hmo
        exact ⟨by rw [HH.out]; exact HN2.out, HK2.out _ _ HA.out.2.1, OwnU.nil _ _, HC2.out, hmo, hno (HK2.out _ _ HA.out.2.1) (by decide), hno HC2.out (by decide), (fun b hb => by cases hb), fun k hk => hk.1, Nat.le_refl _⟩)
      go_wp2_with fail
      rw [← hz2]
      simp only [← hC]
      clear hz2 hC hcl hcm hck
      refine (wpIn_wide (n := 12)).1 ?_
      refine name_actN ?_
      intro T hT
      refine wpIn_rangeFunc_G rfl (by decide) (gf := 41) (lb := #[.pointer (some ⟨gx, 0, none⟩), .pointer (some ⟨gx + 1, 0, none⟩)]) (by subst hT; rfl) trivial (enters_of Try.func41 (by kernel_rfl) rfl) HSQ.out (fun k hk => hk.1) (fun _ => rfl)
        (fun pre Z V => pre.length < mm ∧ ∃ vl, Alg w z2 V H C mm Z pre vl)
        (fun c pre Z V => c = .exit 0 ∧ pre.length = mm ∧ ∃ vl, Alg w z2 V H C mm Z pre vl)
        ⟨fun s Z V V' row hs hg hr => ⟨hs.1, hs.2.elim (fun vl h9 => ⟨vl, h9.grow hHz hg hr⟩)⟩, fun s Z Z' V hs hz => ⟨hs.1, hs.2.elim (fun vl h9 => ⟨vl, h9.less hz⟩)⟩⟩
        (fun c => ⟨fun s Z V V' row hs hg hr => ⟨hs.1, hs.2.1, hs.2.2.elim (fun vl h9 => ⟨vl, h9.grow hHz hg hr⟩)⟩, fun s Z Z' V hs hz => ⟨hs.1, hs.2.1, hs.2.2.elim (fun vl h9 => ⟨vl, h9.less hz⟩)⟩⟩)
        ⟨HM0.out, _, HA0.out⟩
        (fun x a' V => ∃ Bx, z2.heap.size ≤ Bx ∧ V.heap[Bx]? = some (.cells #[.int .u64 (x.st.1 : Int), .int .u64 (x.st.2 : Int)] tSt (0, 0)) ∧ a' = { tmps := (((T.setIfInBounds 33 (sv x.st)).setIfInBounds 34 x.v).setIfInBounds 9 (.pointer (some ⟨Bx, 0, none⟩))).setIfInBounds 10 x.v, defers := [] })
        (fun x a' s A B row hs hg hr => by obtain ⟨Bx, h1, h2, h3⟩ := hs; exact ⟨Bx, h1, heap_kept h2 hg (fun r e => (hr r e).2), h3⟩)
        ?assign ?body ?done ?stop
      case assign =>
        rintro l pre Z ⟨⟨x1, x2⟩, xn⟩ V K ⟨hlt, vl, hA9⟩ hK
        subst hT
        simp only [fold2, List.setIfInBounds_toArray, List.set_cons_zero, List.set_cons_succ]
        gi_wp2
        exact hK _ _ ((KeepsOthers.alloc _ _).from _) (fun k hk => Below.heap_alloc V _ k (hA9.zb k hk)) ⟨hlt, vl, (hA9.grow hHz (World.grownBy_alloc V _ none) (fun r e => by cases e)).less (fun j hj => .inl hj)⟩ ⟨V.heap.size, hA9.sz, heap_alloc_new V _, rfl⟩
      case body =>
        rintro l pre Z ⟨⟨x1, x2⟩, xn⟩ a' V hl hlr ⟨hlt, vl, hA9⟩ ⟨Bx, hBx, hX9, rfl⟩ hln
        have HAL : Hid (Alg w z2 V H C mm Z pre vl) := hA9
        have HLT : Hid (pre.length < mm) := hlt
        obtain ⟨al9, cl9, hvl, -⟩ := OwnU.val hA9.o
        obtain ⟨T0, hT0⟩ : ∃ T0, T0 = (nmE pre).length := ⟨_, rfl⟩
        have HT0 : Hid (T0 ≤ 200) := (show T0 ≤ 200 by rw [hT0, nmE_len]; omega)
        have HTE : Hid (T0 = (nmE pre).length) := hT0
        rw [← hT0] at hvl
        subst hvl
        have hcl : V.cell? ⟨H + 1, 0, none⟩ = some (.slice al9 T0 cl9) := by rw [cell_of_row _ _ _ _ _ _ hA9.l]; rfl
        have hb0 : V.cell? ⟨Bx, 0, none⟩ = some (.int .u64 (x1 : Int)) := by rw [cell_of_row _ _ _ _ _ _ hX9]; rfl
        have hb1 : V.cell? ⟨Bx, 1, none⟩ = some (.int .u64 (x2 : Int)) := by rw [cell_of_row _ _ _ _ _ _ hX9]; rfl
        have HTW : Hid _ := two_k (B := z2.heap.size) (.slice al9 T0 cl9) (nmE pre) x1 x2 xn V hA9.o hA9.sz (by have := HT0.out; have := HTE.out; omega)
        clear hA9 hX9 hT0 hlt hln
        subst hT
        simp only [List.setIfInBounds_toArray, List.set_cons_zero, List.set_cons_succ]
        gi_wp2
        refine ⟨trivial, ?_⟩
        refine (callsIn_round.2 HTW.out).mono ?_
        rintro e V2 ⟨v2, rfl, ho2, hg2, hbk2⟩
        have hAL := HAL.out
        have hro : ∀ b, (Value.slice al9 T0 cl9).ownBlock = some b → z2.heap.size ≤ b := fun b hb => (World.ownsRow.lt hAL.o b hb).1
        have kp : ∀ {k : Nat} {o : Obj}, V.heap[k]? = some o → k < z2.heap.size → V2.heap[k]? = some o := fun hk h9 => (hg2.block _ (Array.getElem?_eq_some_iff.1 hk).1 (fun e => by have := hro _ e.symm; omega)).trans hk
        have hl2 := kp hAL.l (by omega)
        have hc2 := kp hAL.c hCz
        have hm2 := kp hAL.mo (by omega)
        obtain ⟨kk, hkk⟩ : ∃ kk, kk = pre.length := ⟨_, rfl⟩
        have HST : Hid (∀ u, u = (V2.setCell ⟨H + 1, 0, none⟩ v2).setCell ⟨C, 0, none⟩ (.int .i64 ((kk : Int) + 1)) → KeepsFrom z2.heap.size V u ∧ KeepZ Z V u ∧ Alg w z2 u H C mm Z (pre ++ [(⟨(x1, x2), xn⟩ : Ent)]) v2) := (fun u hu => hAL.step hHz hHC ⟨(x1, x2), xn⟩ V2 v2 hg2 ho2 hbk2 hCz u (by rw [hu, hkk]))
        rw [← hkk] at hc2
        have HKK : Hid (kk = pre.length) := hkk
        obtain ⟨a2, c2, hv2, -⟩ := OwnU.val ho2
        obtain ⟨T2, hT2⟩ : ∃ T2, T2 = (nmE pre ++ [x1, x2, xn]).length := ⟨_, rfl⟩
        rw [← hT2] at hv2
        subst hv2
        have hcl2 : V2.cell? ⟨H + 1, 0, none⟩ = some (.slice al9 T0 cl9) := by rw [cell_of_row _ _ _ _ _ _ hl2]; rfl
        have hfl2 : V2.frozen? ⟨H + 1, 0, none⟩ = false := by simp [World.frozen?, hl2]
        have hcc2 : V2.cell? ⟨C, 0, none⟩ = some (.int .i64 (kk : Int)) := by rw [cell_of_row _ _ _ _ _ _ hc2]; rfl
        have hfc2 : V2.frozen? ⟨C, 0, none⟩ = false := by simp [World.frozen?, hc2]
        have hcm2 : V2.cell? ⟨H + 1 + 1, 0, none⟩ = some (.int .i64 (mm : Int)) := by rw [cell_of_row _ _ _ _ _ _ hm2]; rfl
        have hne1 : ¬ H + 1 = C := by omega
        have hne2 : ¬ C = H + 1 := by omega
        have hne3 : ¬ H + 1 + 1 = C := by omega
        have hne4 : ¬ C = H + 1 + 1 := by omega
        have hwk : IntKind.i64.wrap ((kk : Int) + 1) = (kk : Int) + 1 := by rw [IntKind.wrap_i64]; have := HLT.out; omega
        clear hl2 hc2 hm2 hkk hT2 ho2 hg2 hbk2 hAL hro kp
        by_cases hE : kk + 1 = mm
        · have hEi : (kk : Int) + 1 = (mm : Int) := by omega
          have HLE : Hid ((pre ++ [(⟨(x1, x2), xn⟩ : Ent)]).length = mm) := (show _ = _ by rw [List.length_append]; simp; have := HKK.out; omega)
          have HEI : Hid ((kk : Int) + 1 = (mm : Int)) := hEi
          gi_wp2
          have h9 := HST.out ((V2.setCell ⟨H + 1, 0, none⟩ (.slice a2 T2 c2)).setCell ⟨C, 0, none⟩ (.int .i64 (mm : Int))) (by rw [HEI.out])
          exact ⟨h9.1, h9.2.1, rfl, HLE.out, _, h9.2.2⟩
        · have hEi : ¬ (kk : Int) + 1 = (mm : Int) := by omega
          have hEb : (((kk : Int) + 1) == (mm : Int)) = false := by simpa using hEi
          have HLE : Hid ((pre ++ [(⟨(x1, x2), xn⟩ : Ent)]).length < mm) := (show _ < _ by rw [List.length_append]; simp; have := HKK.out; have := HLT.out; omega)
          gi_wp2
          exact ⟨(HST.out _ rfl).1, (HST.out _ rfl).2.1, HLE.out, _, (HST.out _ rfl).2.2⟩
      case stop =>
        rintro D c pre Z V hD hpre ⟨rfl, hlt, vl, hA9⟩ hK
        have HAL : Hid (Alg w z2 V H C mm Z pre vl) := hA9
        have HRS : Hid (X.take mm = pre) := (show _ = _ by have h9 := List.prefix_iff_eq_take.1 hpre; rw [hlt] at h9; exact h9.symm)
        obtain ⟨al9, cl9, hvl, -⟩ := OwnU.val hA9.o
        obtain ⟨T0, hT0⟩ : ∃ T0, T0 = (nmE pre).length := ⟨_, rfl⟩
        rw [← hT0] at hvl
        subst hvl
        have hcl9 : V.cell? ⟨H + 1, 0, none⟩ = some (.slice al9 T0 cl9) := by rw [cell_of_row _ _ _ _ _ _ hA9.l]; rfl
        have HDV : Hid (V.heap[D]? = some (.deferred (some []))) := hK
        have HDD : Hid (w.heap.size ≤ D) := (show _ ≤ _ by have := HN2.out.size; omega)
        clear hA9 hK hD hpre hlt hT0
        subst hT
        refine wpIn_wide.2 ?_
        go_wp2_with fail
        refine ⟨by simp, .inl ⟨_, _, rfl, run_takeDeferred HDV.out, ?_⟩⟩
        refine ⟨_, results_tmp rfl _ _ _, _, rfl, ?_, ?_⟩
        · first | rw [HIFX.out, HRS.out] | rw [← HX.out, HRS.out]
          exact OwnU.base (row_kept HAL.out.o (fun b hb => World.putObj_heap_other (fun e => by
            obtain ⟨cur, h9⟩ := rowX_blk HAL.out.o b hb
            rw [e, HDV.out] at h9
            cases h9))) HN2.out.size
        · have h9 := HAL.out.bel
          rw [HH.out] at h9
          exact h9.trans (belowK_b (w := w) (Nat.le_refl _) _ D _ _ HDD.out HDV.out rfl rfl)
      case done =>
        rintro D ys Z V hD hys ⟨hlt, vl, hA9⟩ hK
        obtain rfl : X = ys := hys.symm
        have HAL : Hid (Alg w z2 V H C mm Z X vl) := hA9
        have HRS : Hid (X.take mm = X) := (show _ = _ from List.take_of_length_le (by omega))
        obtain ⟨al9, cl9, hvl, -⟩ := OwnU.val hA9.o
        obtain ⟨T0, hT0⟩ : ∃ T0, T0 = (nmE X).length := ⟨_, rfl⟩
        rw [← hT0] at hvl
        subst hvl
        have hcl9 : V.cell? ⟨H + 1, 0, none⟩ = some (.slice al9 T0 cl9) := by rw [cell_of_row _ _ _ _ _ _ hA9.l]; rfl
        have HDV : Hid (V.heap[D]? = some (.deferred (some []))) := hK
        have HDD : Hid (w.heap.size ≤ D) := (show _ ≤ _ by have := HN2.out.size; omega)
        clear hA9 hK hD hys hlt hT0
        subst hT
        dsimp only
        go_wp2_with fail
        refine ⟨by simp, .inl ⟨_, _, rfl, run_takeDeferred HDV.out, ?_⟩⟩
        refine ⟨_, results_tmp rfl _ _ _, _, rfl, ?_, ?_⟩
        · first | rw [HIFX.out, HRS.out] | rw [← HX.out, HRS.out]
          exact OwnU.base (row_kept HAL.out.o (fun b hb => World.putObj_heap_other (fun e => by
            obtain ⟨cur, h9⟩ := rowX_blk HAL.out.o b hb
            rw [e, HDV.out] at h9
            cases h9))) HN2.out.size
        · have h9 := HAL.out.bel
          rw [HH.out] at h9
          exact h9.trans (belowK_b (w := w) (Nat.le_refl _) _ D _ _ HDD.out HDV.out rfl rfl)
end
end Go.Proofs.Ytibolgpaolnheab
