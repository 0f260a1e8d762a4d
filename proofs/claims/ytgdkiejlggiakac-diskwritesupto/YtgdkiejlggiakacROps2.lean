import Derived.Test.YtgdkiejlggiakacROps1
namespace Go.Proofs.Ytgdkiejlggiakac
set_option linter.unusedVariables false
set_option linter.unusedSimpArgs false
open Go.RowKit Go.Maps
theorem presS_last (s : Sec) (C : List (List UInt8)) (h : 0 < C.length) : presS s C = ⟨C[C.length - 1]'(by omega), false⟩ := by
  unfold presS afterS
  rw [if_neg (by omega), if_pos ⟨by omega, Int.le_refl _⟩]
  congr 1
  simp only [Int.toNat_natCast]
  simp [List.getD, List.getElem?_eq_getElem (show C.length - 1 < C.length by omega)]
theorem presS_nil (s : Sec) : presS s [] = s := by unfold presS afterS; simp
variable {w : World} {rp gs N : Nat} {d : Dst} {VT VV : Nat → Value} {vs : Nat → List Value} {Fp : Nat → Prop}
/-- the versions of a sector, as a slice -/
theorem RDk.versV (h : RDk w rp gs N d VT VV vs Fp) (i : Nat) (hi : i < N) : ∃ a c, VV i = .slice a (d.C i).length c ∧ (d.C i = [] → True) ∧ ∀ k (hk : k < (d.C i).length), ∃ g u, a = some ⟨g, 0, none⟩ ∧ w.cell? ⟨g, k, none⟩ = some u ∧ (d.C i)[k].length = 128 ∧ ByAt w Fp u (d.C i)[k] := by
  obtain ⟨h1, h2⟩ := h.vers i hi
  have ho := h.own i hi
  rcases ho.2 with ⟨e, h0⟩ | ⟨g, cap, cur, e, -, hg, -⟩
  · refine ⟨none, 0, by rw [e, ← h1, h0], fun _ => trivial, fun k hk => absurd hk (by omega)⟩
  · refine ⟨_, cap, by rw [e, h1], fun _ => trivial, fun k hk => ?_⟩
    obtain ⟨u, h3, h4, h5⟩ := h2 k hk
    have ho' := ho
    rw [e] at ho'
    exact ⟨g, u, rfl, by rw [World.ownsRow.cellAt ho' k (by omega), h3], h4, h5⟩
theorem info_rsec : (Try.prog.info? 98).map (fun i => (i.zero, i.size)) = some (some (.agg #[.slice none 0 0, .bool false, .slice none 0 0]), 3) := by kernel_rfl
theorem RDk.range (h : RDk w rp gs N d VT VV vs Fp) (i : Nat) (hi : i < N) : w.rangeAt gs (i * 3) [VT i, .bool (d.S.getD i Sec.zero).torn, VV i] := by
  intro j u hj
  match j with
  | 0 => simp at hj; subst hj; simpa using h.s0 i hi
  | 1 => simp at hj; subst hj; exact h.s1 i hi
  | 2 => simp at hj; subst hj; exact h.s2 i hi
  | j + 3 => simp at hj
set_option maxRecDepth 20000 in
set_option maxHeartbeats 800000 in
theorem rread_t (h : RDk w rp gs N d VT VV vs Fp) (i : Nat) (hi : i < N) (hoff : d.off = false) (hfew : (d.C i).length ≤ 1099511627776) :
    Calls Try.prog 53 #[.pointer (some ⟨rp, 0, none⟩), .int .i64 (i : Int)] w fun e w' => ∃ v, e = .returned (.tuple #[v, .int .i64 (readE (rdS d i))]) ∧ Own w' w.heap.size v (readB (rdS d i)) ∧ Below w.heap.size w w' := by
  have hth := rthere_t h (i : Int)
  rw [decide_eq_true (show 0 ≤ (i : Int) ∧ (i : Int) < (N : Int) by omega)] at hth
  have HTH : Hid _ := hth
  have c0 := h.c0
  have c1 := h.c1
  rw [hoff] at c1
  have HRG : Hid _ := h.range i hi
  have htx := h.txt i hi
  obtain ⟨av, cv, hvv, -, hvers⟩ := h.versV i hi
  have q22 : ∀ (w : World) (a : Option Addr) (n c n' c' : Nat), (binOp .eql 40 (.slice a n c) (.slice none n' c')).run Try.prog w = .ok (.bool a.isNone) w := fun w a n c n' c' => Lib.run_eql_slice_nil w _ _ a n c n' c' Try.underlying40
  obtain ⟨s, hs⟩ : ∃ s, s = d.S.getD i Sec.zero := ⟨_, rfl⟩
  have hfs : s.text.length = 128 := by
    have hl := h.len
    have e9 : d.S.getD i Sec.zero = d.S[i]'(by omega) := by simp [show i < d.S.length by omega]
    rw [hs, e9]
    exact (h.fit _ (List.getElem_mem _)).1
  have hrd : rdS d i = presS s (d.C i) := by unfold rdS; rw [hs]
  rw [hrd]
  rw [← hs] at HRG htx
  rw [hvv] at HRG
  have hi0 : (0 : Int) ≤ (i : Int) := by omega
  have hiN : (i : Int) < (N : Int) := by omega
  obtain ⟨n, hn⟩ : ∃ n, n = (d.C i).length := ⟨_, rfl⟩
  rw [← hn] at HRG
  have hz := (zero_of_info info_rsec).1
  clear hth h hvv hs hrd
  by_cases hC : 0 < n
  · obtain ⟨y, hy⟩ : ∃ y : Nat, y = n - 1 := ⟨_, rfl⟩
    obtain ⟨g, u, rfl, hcu, hul, hby⟩ := hvers y (by omega)
    have hpl := presS_last s (d.C i) (by omega)
    have ePl : presS s (d.C i) = ⟨(d.C i)[y]'(by omega), false⟩ := by rw [hpl]; congr 1; congr 1; omega
    obtain ⟨T, hT⟩ : ∃ T, T = (d.C i)[y]'(by omega) := ⟨_, rfl⟩
    rw [← hT] at ePl hby hul
    rw [ePl]
    obtain ⟨b, o, c, rfl, -, hrT, -⟩ := hby.ex
    rw [hul] at hcu
    have hnw : IntKind.i64.wrap ((n : Int) - 1) = (y : Int) := by rw [IntKind.wrap_i64]; omega
    have hy0 : (0 : Int) ≤ (y : Int) := by omega
    have hyn : (y : Int) < (n : Int) := by omega
    have hni : (0 : Int) < (n : Int) := by omega
    obtain ⟨ta, tl, tc, htv⟩ : ∃ ta tl tc, VT i = .slice ta tl tc := by
      rcases htx with ⟨e, -⟩ | ⟨-, e⟩
      · exact ⟨none, 0, 0, e⟩
      · obtain ⟨b, o, c, e, -⟩ := e.ex; exact ⟨_, _, _, e⟩
    rw [htv] at HRG
    obtain ⟨bb, hbb⟩ : ∃ bb, bb = s.torn := ⟨_, rfl⟩
    rw [← hbb] at HRG
    have hgl : g < w.heap.size := World.block_lt_of_cell? w _ hcu
    have HRT : Hid _ := hrT
    have HUL : Hid _ := hul
    have hcu2 : ∀ ob : Obj, (w.alloc ob).cell? ⟨g, y, none⟩ = some (.slice (some ⟨b, o, none⟩) 128 c) := fun ob => ((al (Below.refl _ _) ob).cell (p := ⟨g, y, none⟩) hgl).trans hcu
    have HCP : Hid (∀ u, Below w.heap.size w u → Calls Try.prog 74 #[.slice (some ⟨b, o, none⟩) 128 c] u fun e w' => ∃ v, e = .returned v ∧ Own w' u.heap.size v T ∧ Below u.heap.size u w') := fun u hu => copied_t (some ⟨b, o, none⟩) 128 c T u HUL.out.symm (Rd.below HRT.out hu) (fun h => by cases h) (by decide)
    clear hvers hy hn hpl ePl hT hby hrT hul htv hbb htx
    go_enter Try.func53, Try.ntmps53
    go_wp2_with fail
    refine Calls.mono HTH.out ?_
    rintro e w1 ⟨rfl, hq⟩
    have hq := hq.symm
    subst hq
    go_wp2_with (first
      | (refine wpList_load_mid rfl 98 _ rfl gs (i * 3) (by rfl) [.slice ta tl tc, .bool bb, .slice (some ⟨g, 0, none⟩) n cv] _ HRG.out Try.underlying98 rfl (by rw [(zero_of_info info_rsec).2]; rfl) ?_))
    refine (HCP.out _ (al (Below.refl _ _) _)).mono ?_
    rintro e w5 ⟨v5, rfl, ho5, hb5⟩
    have hb05 : Below w.heap.size w w5 := below_next (al (Below.refl _ _) _) hb5
    go_wp2
    go_ret2
    exact ⟨_, rfl, ho5.base (by simp), hb05⟩
  · obtain rfl : n = 0 := by omega
    have hCn : d.C i = [] := List.eq_nil_of_length_eq_zero hn.symm
    rw [hCn, presS_nil]
    have hni : ¬ (0 : Int) < 0 := by omega
    cases ht : s.torn
    · rw [ht] at HRG
      rcases htx with ⟨e, hzz⟩ | ⟨-, hby⟩
      · have htv : VT i = .slice none 0 0 := e
        rw [htv] at HRG
        have eE : readE s = 0 := by unfold readE; rw [ht]; rfl
        have eB : readB s = List.replicate 128 0 := by unfold readB; rw [ht, hzz]; rfl
        rw [eE, eB]
        have HZ : Hid (∀ u, Calls Try.prog 59 #[.int .i64 128] u fun e w' => ∃ g, e = .returned (.slice (some ⟨g, 0, none⟩) 128 128) ∧ u.heap.size ≤ g ∧ w'.heap[g]? = some (.cells (bv (List.replicate 128 0)).toArray 5 (0, 0)) ∧ Below u.heap.size u w') := fun u => zeros_rd 128 (by decide) u
        clear hvers hn hCn e hzz eE eB htv
        go_enter Try.func53, Try.ntmps53
        go_wp2_with fail
        refine Calls.mono HTH.out ?_
        rintro e w1 ⟨rfl, hq⟩
        have hq := hq.symm
        subst hq
        go_wp2_with (first
          | (refine wpList_load_mid rfl 98 _ rfl gs (i * 3) (by rfl) [.slice none 0 0, .bool false, .slice av 0 cv] _ HRG.out Try.underlying98 rfl (by rw [(zero_of_info info_rsec).2]; rfl) ?_))
        refine (HZ.out _).mono ?_
        rintro e w5 ⟨g5, rfl, hg5, hr5, hb5⟩
        have hb05 : Below w.heap.size w w5 := below_next (al (Below.refl _ _) _) hb5
        go_wp2
        go_ret2
        exact ⟨_, rfl, own_rowD (by simp at hg5; omega) (by simp) (by simp [maxLen]) hr5, hb05⟩
      · obtain ⟨b, o, c, e, -, hrT, -⟩ := hby.ex
        have eE : readE s = 0 := by unfold readE; rw [ht]; rfl
        have eB : readB s = s.text := by unfold readB; rw [ht]; rfl
        rw [eE, eB]
        rw [e, hfs] at HRG
        obtain ⟨T, hT⟩ : ∃ T, T = s.text := ⟨_, rfl⟩
        rw [← hT] at hrT hfs ⊢
        have HRT : Hid _ := hrT
        have HUL : Hid _ := hfs
        have HCP : Hid (∀ u, Below w.heap.size w u → Calls Try.prog 74 #[.slice (some ⟨b, o, none⟩) 128 c] u fun e w' => ∃ v, e = .returned v ∧ Own w' u.heap.size v T ∧ Below u.heap.size u w') := fun u hu => copied_t (some ⟨b, o, none⟩) 128 c T u HUL.out.symm (Rd.below HRT.out hu) (fun h => by cases h) (by decide)
        clear hvers hn hCn e eE eB hby hrT hT hfs
        go_enter Try.func53, Try.ntmps53
        go_wp2_with fail
        refine Calls.mono HTH.out ?_
        rintro e w1 ⟨rfl, hq⟩
        have hq := hq.symm
        subst hq
        go_wp2_with (first
          | (refine wpList_load_mid rfl 98 _ rfl gs (i * 3) (by rfl) [.slice (some ⟨b, o, none⟩) 128 c, .bool false, .slice av 0 cv] _ HRG.out Try.underlying98 rfl (by rw [(zero_of_info info_rsec).2]; rfl) ?_))
        refine (HCP.out _ (al (Below.refl _ _) _)).mono ?_
        rintro e w5 ⟨v5, rfl, ho5, hb5⟩
        have hb05 : Below w.heap.size w w5 := below_next (al (Below.refl _ _) _) hb5
        go_wp2
        go_ret2
        exact ⟨_, rfl, ho5.base (by simp), hb05⟩
    · rw [ht] at HRG
      have htv : VT i = .slice none 0 0 := by
        rcases htx with ⟨e, -⟩ | ⟨e, -⟩
        · exact e
        · rw [ht] at e; cases e
      rw [htv] at HRG
      have eE : readE s = 40 := by unfold readE; rw [ht]; rfl
      have eB : readB s = [] := by unfold readB; rw [ht]; rfl
      rw [eE, eB]
      clear hvers hn hCn eE eB htv htx
      go_enter Try.func53, Try.ntmps53
      go_wp2_with fail
      refine Calls.mono HTH.out ?_
      rintro e w1 ⟨rfl, hq⟩
      have hq := hq.symm
      subst hq
      go_wp2_with (first
        | (refine wpList_load_mid rfl 98 _ rfl gs (i * 3) (by rfl) [.slice none 0 0, .bool true, .slice av 0 cv] _ HRG.out Try.underlying98 rfl (by rw [(zero_of_info info_rsec).2]; rfl) ?_))
      go_ret2
      exact ⟨_, rfl, World.ownsRow_nil _ _ _ _, al (Below.refl _ _) _⟩
end Go.Proofs.Ytgdkiejlggiakac
