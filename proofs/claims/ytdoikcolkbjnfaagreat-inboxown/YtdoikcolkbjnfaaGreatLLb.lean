import Derived.Test.YtdoikcolkbjnfaaGreatLxS
import Derived.Test.YtdoikcolkbjnfaaGreatLxP
import Derived.Test.YtdoikcolkbjnfaaGreatHelp
import Derived.Test.YtdoikcolkbjnfaaGreatUG
namespace Go.Proofs.YtdoikcolkbjnfaaGreat
set_option linter.unusedVariables false
set_option linter.unusedSimpArgs false
open Go.RowKit Go.Maps
def valN (a b : Int) : Prop := (1 ≤ a ∧ a ≤ 64) ∧ (1 ≤ b ∧ b ≤ 4096)
section
set_option maxRecDepth 20000
set_option maxHeartbeats 3200000
theorem both_t (a b : Int) (h : valN a b) (w : World) : Calls Tryz.prog 18 #[.int .i64 a, .int .i64 b] w fun e w' => ∃ p q F, e = .returned (.tuple #[.pointer (some ⟨p, 0, none⟩), .pointer (some ⟨q, 0, none⟩), .bool true]) ∧ IbA w' p 0 (newI a.toNat b.toNat) F ∧ Rib none w' q none 0 0 none 0 0 (newI a.toNat b.toNat) [] ∧ (∀ b, F b → w.heap.size ≤ b ∧ b < q) ∧ w.heap.size ≤ q ∧ Below w.heap.size w w' := by
  obtain ⟨⟨h1, h2⟩, h3, h4⟩ := h
  obtain ⟨a, rfl⟩ : ∃ n : Nat, a = (n : Int) := ⟨a.toNat, by omega⟩
  obtain ⟨b, rfl⟩ : ∃ n : Nat, b = (n : Int) := ⟨b.toNat, by omega⟩
  have H1 : Hid (Calls _ _ _ w _) := new_a a b (by omega) (by omega) (by omega) (by omega) w
  have H2 : Hid (∀ u : World, Calls _ _ _ u _) := fun u => rnew_t13 a b (by omega) (by omega) (by omega) (by omega) u
  go_enter Tryz.func18, Tryz.ntmps18
  go_wp2_with fail
  refine Calls.mono H1.out ?_
  rintro e w1 ⟨p, F, rfl, hI, hF, hb1⟩
  have HI : Hid _ := hI
  have HF : Hid _ := hF
  have HB1 : Hid _ := hb1
  clear hI hF hb1
  go_wp2_with fail
  refine Calls.mono (H2.out _) ?_
  rintro e w2 ⟨q, rfl, hR, hq, hb2⟩
  have HR : Hid _ := hR
  have HQ : Hid _ := hq
  have HB2 : Hid _ := hb2
  clear hR hq hb2
  go_wp2
  refine bodyPost_ret (results_tmp3 rfl _ _ _) rfl ?_
  exact ⟨p, q, F, rfl, HI.out.below HB2.out, HR.out, fun b hb => ⟨HF.out b hb, Nat.lt_of_lt_of_le (HI.out.lt b hb) HQ.out⟩, Nat.le_trans HB1.out.size HQ.out, below_next HB1.out HB2.out⟩
end
end Go.Proofs.YtdoikcolkbjnfaaGreat
namespace Go.Proofs.YtdoikcolkbjnfaaGreat
set_option linter.unusedVariables false
set_option linter.unusedSimpArgs false
open Go.RowKit Go.Maps
theorem wp_appR1L {w : World} {ops : Array Oper} {rest : List Oper} {o : Oper} {a : Act} {Q : Exit → Act → World → Prop} (hgd : o.guard = none) (s x : Operand)
    (ho : o.op = .call { callee := .builtin .append, args := #[s, x], argTypes := #[39, 39] }) (B : Nat) (v : Value) (xs : List Rg) (n : Nat) (hn : n = xs.length) (y : Rg) (g : Nat)
    (hs : a.eval s = v) (hown : OwnR w B v xs) (hx : a.eval x = .slice (some ⟨g, 0, none⟩) 1 1) (hg : w.heap[g]? = some (.cells #[.int .i64 y.1, .int .i64 y.2] 71 (0, 0))) (hb : n ≤ 8796093022207) (hbase : B ≤ w.heap.size)
    (h : ∀ g' cap w', OwnR w' B (.slice (some ⟨g', 0, none⟩) (n + 1) cap) (xs ++ [y]) → w.grownBy w' v.ownBlock → (v.ownBlock = some g' ∨ g' = w.heap.size) → wpList Tryz.prog ops Q rest (a.put o.dst (.slice (some ⟨g', 0, none⟩) (n + 1) cap)) w') : wpList Tryz.prog ops Q (o :: rest) a w := by
  subst hn
  obtain ⟨i0, hi, hz0, hz1, hz2⟩ := info_parts infoR
  refine wpList_append_lies w hgd s x 39 ho B 71 i0 _ 2 16 Tryz.underlying39 hi hz0 hz1 hz2 rfl (by decide) v xs.length (flatR xs) hs hown ⟨g, 0, none⟩ 1 1 (rv y) hx rfl (World.news_of_block hg) (by intro u hu; simp at hu; rcases hu with rfl | rfl <;> rfl) (by decide) (by simp only [maxLen]; omega) (by omega) hbase w.heap.size rfl ?_
  intro g' cap w' h1 h2 h3 _
  refine h g' cap w' ?_ h2 h3
  unfold OwnR
  rw [List.length_append, flatR_app, flatR_one]
  exact h1
theorem wp_appRL {w : World} {ops : Array Oper} {rest : List Oper} {o : Oper} {a : Act} {Q : Exit → Act → World → Prop} (hgd : o.guard = none) (s x : Operand)
    (ho : o.op = .call { callee := .builtin .append, args := #[s, x], argTypes := #[39, 39] }) (B : Nat) (v : Value) (xs ys : List Rg) (n : Nat) (ao : Option Addr) (cap : Nat) (hn : n = ys.length)
    (hs : a.eval s = v) (hown : OwnR w B v xs) (hx : a.eval x = .slice ao n cap) (hr : RdR w ao ys) (hnil : ao = none → cap = 0)
    (hb : xs.length + n ≤ 8796093022208) (hbase : B ≤ w.heap.size)
    (h : ∀ v' w', OwnR w' B v' (xs ++ ys) → w.grownBy w' v.ownBlock → wpList Tryz.prog ops Q rest (a.put o.dst v') w') : wpList Tryz.prog ops Q (o :: rest) a w := by
  subst hn
  obtain ⟨i0, hi, hz0, hz1, hz2⟩ := info_parts infoR
  rcases ao with _ | ad
  · have h0 : ys = [] := by
      rcases ys with _ | ⟨y, ys⟩
      · rfl
      · obtain ⟨b, o, h1, _⟩ := hr 0 (by simp); cases h1
    subst h0
    obtain rfl := hnil rfl
    refine wpList_append_own_none hgd s x 39 ho B 71 i0 2 Tryz.underlying39 hi v xs.length (flatR xs) hs hown hx ?_
    exact h v w (by simpa using hown) ⟨rfl, rfl, rfl, Nat.le_refl _, fun _ _ _ => rfl⟩
  · refine wpList_append_own w hgd s x 39 ho B 71 i0 _ 2 16 Tryz.underlying39 hi hz0 hz1 hz2 rfl (by decide) v xs.length (flatR xs) hs hown ad ys.length cap (flatR ys) hx (flatR_len ys) ?_ (flatR_one' ys) (by simp only [maxLen]; omega) (by omega) hbase ?_
    · intro j u hj
      have hlt : j < ys.length * 2 := by
        have := (List.getElem?_eq_some_iff.1 hj).1
        rw [flatR_len] at this
        exact this
      obtain ⟨b, o, h1, h2, h3⟩ := hr (j / 2) (by omega)
      cases h1
      obtain ⟨f1, f2⟩ := flatR_get ys (j / 2) (by omega)
      rw [Go.WideShapes.add_plain]
      by_cases e : j % 2 = 0
      · have ej : j = j / 2 * 2 := by omega
        rw [ej] at hj ⊢
        rw [f1] at hj
        rw [show o + j / 2 * 2 = o + j / 2 * 2 from rfl, h2]
        exact hj
      · have ej : j = j / 2 * 2 + 1 := by omega
        rw [ej] at hj ⊢
        rw [f2] at hj
        rw [← Nat.add_assoc, h3]
        exact hj
    · intro v' w' h1 h2 _
      refine h v' w' ?_ h2
      unfold OwnR
      rw [List.length_append, flatR_app]
      exact h1
theorem own_some {w : World} {B : Nat} {v : Value} {xs : List UInt8} (h : Own w B v xs) (h0 : 0 < xs.length) : ∃ g c, v = .slice (some ⟨g, 0, none⟩) xs.length c ∧ xs.length ≤ c ∧ c ≤ maxLen ∧ B ≤ g ∧ g < w.heap.size := by
  rcases h.2 with ⟨-, h1⟩ | ⟨g, c, cur, e, hB, hg, hnc, hcm, -⟩
  · omega
  · exact ⟨g, c, e, hnc, hcm, hB, (Array.getElem?_eq_some_iff.1 hg).1⟩
/-- a unit that was lent: its lists with marks behind them -/
structure LentAt (B : Nat) (w' : World) (x : UnM) (g c h d : Nat) : Prop where
  bs : Own w' B (.slice (some ⟨g, 0, none⟩) (x.dn + 8) c) (x.u.data ++ marksL)
  rg : OwnR w' B (.slice (some ⟨h, 0, none⟩) (x.gn + 1) d) (x.u.got ++ [(-7, -7)])
  cc : x.dn + 8 ≤ c
  dd : x.gn + 1 ≤ d
  B1 : B ≤ g ∧ g < w'.heap.size
  B2 : B ≤ h ∧ h < w'.heap.size
abbrev lentC (x : UnM) (g c h d : Nat) : Array Value := unC x.u.kind x.u.ep x.u.se x.u.path x.u.idx x.u.cnt (some ⟨g, 0, none⟩) x.dn c x.u.code (some ⟨h, 0, none⟩) x.gn d
section
set_option maxRecDepth 20000
set_option maxHeartbeats 6400000
theorem lent_t (x : UnM) (w : World) (hx : UnOk w x) : Calls Tryz.prog 43 #[.agg x.c] w fun r w' => ∃ g c h d, r = .returned (.agg (lentC x g c h d)) ∧ LentAt (w.heap.size + 2) w' x g c h d ∧ Below w.heap.size w w' := by
  obtain ⟨⟨k, e, se, pa, i, c, xs, cd, l⟩, da, dn, dc, ga, gn, gc⟩ := x
  obtain ⟨hn, hg, hrd, hdl, hdz, hdb, hrg, hgl, hgz, hgb, -, -⟩ := hx
  simp only at hn hg hrd hdl hdz hdb hrg hgl hgz hgb
  obtain ⟨w1, hw1⟩ : ∃ w1, w1 = (w.alloc (.cells (unC k e se pa i c da dn dc cd ga gn gc) tUn)).alloc (.cells (unC 0 0 0 0 0 0 none 0 0 0 none 0 0) tUn) := ⟨_, rfl⟩
  have hb1 : Below w.heap.size w w1 := by rw [hw1]; exact al (al (Below.refl _ _) _) _
  have hz1 : w1.heap.size = w.heap.size + 2 := by rw [hw1]; simp
  have hU1 : w1.heap[w.heap.size]? = some (.cells (unC k e se pa i c da dn dc cd ga gn gc) tUn (0, 0)) := by
    rw [hw1]
    exact ((al (Below.refl _ (w.alloc (.cells (unC k e se pa i c da dn dc cd ga gn gc) tUn))) _).block _ (by simp)).trans (heap_alloc_new _ _)
  have hZ1 : w1.heap[w.heap.size + 1]? = some (.cells (unC 0 0 0 0 0 0 none 0 0 0 none 0 0) tUn (0, 0)) := by
    rw [hw1]
    have h9 := heap_alloc_new (w.alloc (.cells (unC k e se pa i c da dn dc cd ga gn gc) tUn)) (.cells (unC 0 0 0 0 0 0 none 0 0 0 none 0 0) tUn)
    rw [World.size_alloc] at h9
    exact h9
  have HX1 : Hid (Rd w1 da xs) := Rd.below hrd hb1
  have HL0 : Hid (RdR w ga l) := hrg
  have HN : Hid (dn = xs.length) := hn
  have HGN : Hid (gn = l.length) := hg
  have HDZ : Hid (da = none → dc = 0) := hdz
  have HGZ : Hid (ga = none → gc = 0) := hgz
  have hdnb : dn ≤ 140737488351232 := by omega
  have hgnb : gn ≤ 8796093021952 := by omega
  have HB1 : Hid _ := hb1
  have HZ1s : Hid (w1.heap.size = w.heap.size + 2) := hz1
  have HU1 : Hid _ := hU1
  have HZ1 : Hid _ := hZ1
  have HW1 : Hid (w1 = _) := hw1
  obtain ⟨P, hP⟩ : ∃ P, P = w.heap.size := ⟨_, rfl⟩
  have HP : Hid (P = w.heap.size) := hP
  rw [← hP] at HU1 HZ1
  have hu1 := unBox HU1.out
  clear hn hg hrd hdl hdz hdb hrg hgl hgz hgb hb1 hz1 hU1 hZ1 hw1 hP
  go_enter Tryz.func43, Tryz.ntmps43
  go_upto_region 2 with fail
  rw [← HW1.out, ← HP.out]
  go_upto_region 3 with (first | (at_builtin; refine wp_app rfl _ _ rfl w1.heap.size (.slice none 0 0) [] xs _ _ rfl (World.ownsRow_nil _ _ _ _) (by rw [← HN.out]; rfl) HX1.out HDZ.out (by rw [← HN.out]; simp; omega) (Nat.le_refl _) ?_; intro v2 w2 hown2 hg2; have HO2 : Hid (Own w2 w1.heap.size v2 xs) := hown2; have HG2 : Hid _ := hg2; clear hown2 hg2; have HB2 : Hid (Below w1.heap.size w1 w2) := (Below.refl _ w1).grown HG2.out (Nat.le_refl _) (fun k hk => by cases hk)) | (at_builtin; refine wp_app_str rfl _ _ rfl w1.heap.size v2 xs rfl HO2.out rfl (by rw [← HN.out]; omega) HB2.out.size ?_; intro v3 w3 hown3 hg3; obtain ⟨g, c3, hv3, hc3, hcm3, hgB, hgl⟩ := own_some hown3 (by rw [List.length_append]; show 0 < _ + 8; omega); rw [List.length_append, ← HN.out, show marksL.length = 8 from rfl] at hv3 hc3; subst hv3; have HO3 : Hid (Own w3 w1.heap.size (.slice (some ⟨g, 0, none⟩) (dn + 8) c3) (xs ++ marksL)) := hown3; have HG3 : Hid _ := hg3; have hB3 : Below w1.heap.size w1 w3 := HB2.out.grown HG3.out HB2.out.size (fun j hj => (World.ownsRow.lt HO2.out j hj).1); have HB3 : Hid _ := hB3; have HGB : Hid (w1.heap.size ≤ g ∧ g < w3.heap.size) := ⟨hgB, hgl⟩; have HC3 : Hid (dn + 8 ≤ c3) := hc3; have hU3 := (hB3.block P (by have := HZ1s.out; have := HP.out; omega)).trans HU1.out; have HU3 : Hid _ := hU3; have hu3 := unBox hU3; have f36 : w3.frozen? ⟨P, 6, none⟩ = false := (by simp [World.frozen?, hU3]); have hd0 : (0 : Int) ≤ (dn : Int) := (by omega); have hd1 : (dn : Int) ≤ (c3 : Int) := (by omega); have hd2 : dn ≤ c3 := (by omega); clear hown3 hg3 hc3 hcm3 hgB hgl hB3 hU3))
  obtain ⟨x4, hx4⟩ : ∃ x4, x4 = w3.setCell ⟨P, 6, none⟩ (.slice (some ⟨g, 0, none⟩) dn c3) := ⟨_, rfl⟩
  rw [← hx4]
  have hPg : P ≠ g := by have := HGB.out; have := HZ1s.out; have := HP.out; omega
  have HU4 : Hid (x4.heap[P]? = some (.cells (unC k e se pa i c (some ⟨g, 0, none⟩) dn c3 cd ga gn gc) tUn (0, 0))) := by unfold Hid; rw [hx4, heap_setCell_same w3 P 6 _ _ _ HU3.out]; rfl
  have HO4 : Hid (Own x4 w1.heap.size (.slice (some ⟨g, 0, none⟩) (dn + 8) c3) (xs ++ marksL)) := Own.keptb HO3.out (fun b hb => by rw [hx4]; exact Below.heap_setCell _ _ _ _ (fun e9 => hPg (by cases hb; exact e9.symm)))
  have HB4 : Hid (Below P w1 x4) := by have h9 : Below P w1 w3 := HB3.out.mono (by have := HZ1s.out; have := HP.out; omega); unfold Hid; rw [hx4]; exact h9.setCell (p := ⟨P, 6, none⟩) (Nat.le_refl _) _
  have HZ4 : Hid (x4.heap[P + 1]? = some (.cells (unC 0 0 0 0 0 0 none 0 0 0 none 0 0) tUn (0, 0))) := by unfold Hid; rw [hx4]; exact (Below.heap_setCell _ _ _ _ (by show P + 1 ≠ P; omega)).trans ((HB3.out.block (P + 1) (by have := HZ1s.out; have := HP.out; omega)).trans HZ1.out)
  have HS4 : Hid (w1.heap.size ≤ x4.heap.size ∧ g < x4.heap.size) := by unfold Hid; rw [hx4]; have h9 := HB3.out.size; have h8 := HGB.out.2; simp; omega
  have HBW4 : Hid (Below w.heap.size w x4) := HB1.out.trans (by have h9 := HB4.out; rw [HP.out] at h9; exact h9)
  have HL4 : Hid (RdR x4 ga l) := HL0.out.below HBW4.out
  clear hx4 f36 hu3 hu1
  have hu4 := unBox HU4.out
  go_upto_region 5 with (first
    | (at_builtin; refine wp_appRL rfl _ _ rfl x4.heap.size (.slice none 0 0) [] l gn ga gc HGN.out rfl (OwnR.nil _ _) rfl HL4.out HGZ.out (by simp; omega) (Nat.le_refl _) ?_; intro v5 w5 hown5 hg5; have HO5 : Hid (OwnR w5 x4.heap.size v5 l) := hown5; have HG5 : Hid _ := hg5; have HB5 : Hid (Below x4.heap.size x4 w5) := (Below.refl _ x4).grown HG5.out (Nat.le_refl _) (fun k hk => by cases hk); clear hown5 hg5)
    | (at_builtin; go_loud (refine wp_appR1L rfl _ _ rfl x4.heap.size v5 l gn HGN.out (-7, -7) w5.heap.size rfl (OwnR.below HO5.out (al (Below.refl _ _) _)) rfl (heap_alloc_new w5 _) (by omega) (by have := HB5.out.size; simp; omega) ?_; intro h d7 w7 hown7 hg7 hat7; have HO7 : Hid (OwnR w7 x4.heap.size (.slice (some ⟨h, 0, none⟩) (gn + 1) d7) (l ++ [(-7, -7)])) := hown7; have hB7 : Below x4.heap.size x4 w7 := ((HB5.out.trans ((al (Below.refl _ _) _).mono HB5.out.size))).grown hg7 (by have := HB5.out.size; simp; omega) (fun j hj => (World.ownsRow.lt HO5.out j hj).1); have HB7 : Hid _ := hB7; have hlt7 := World.ownsRow.lt HO7.out h rfl; have hd7 : gn + 1 ≤ d7 := (by obtain ⟨a9, c9, e9, h9, -⟩ := OwnR.val HO7.out; simp only [Value.slice.injEq] at e9; obtain ⟨-, e8, e7⟩ := e9; omega); have HD7 : Hid (gn + 1 ≤ d7) := hd7; have HHB : Hid (x4.heap.size ≤ h ∧ h < w7.heap.size) := hlt7; have hU7 := (hB7.block P (Array.getElem?_eq_some_iff.1 HU4.out).1).trans HU4.out; have HU7 : Hid _ := hU7; have hu7 := unBox hU7; have f78 : w7.frozen? ⟨P, 8, none⟩ = false := (by simp [World.frozen?, hU7]); have hg0 : (0 : Int) ≤ (gn : Int) := (by omega); have hg1 : (gn : Int) ≤ (d7 : Int) := (by omega); have hg2 : gn ≤ d7 := (by omega); clear hown7 hg7 hat7 hB7 hlt7 hd7 hU7)))
  obtain ⟨x8, hx8⟩ : ∃ x8, x8 = w7.setCell ⟨P, 8, none⟩ (.slice (some ⟨h, 0, none⟩) gn d7) := ⟨_, rfl⟩
  rw [← hx8]
  have hP4 : P < x4.heap.size := (Array.getElem?_eq_some_iff.1 HU4.out).1
  have hPh : P ≠ h := by have := HHB.out; omega
  have hPg : P ≠ g := by have := HGB.out; have := HZ1s.out; have := HP.out; omega
  have HU8 : Hid (x8.heap[P]? = some (.cells (unC k e se pa i c (some ⟨g, 0, none⟩) dn c3 cd (some ⟨h, 0, none⟩) gn d7) tUn (0, 0))) := by unfold Hid; rw [hx8, heap_setCell_same w7 P 8 _ _ _ HU7.out]; rfl
  have HZ8 : Hid (x8.heap[P + 1]? = some (.cells (unC 0 0 0 0 0 0 none 0 0 0 none 0 0) tUn (0, 0))) := by unfold Hid; rw [hx8]; exact (Below.heap_setCell _ _ _ _ (by show P + 1 ≠ P; omega)).trans ((HB7.out.block (P + 1) (Array.getElem?_eq_some_iff.1 HZ4.out).1).trans HZ4.out)
  have HO8 : Hid (Own x8 w1.heap.size (.slice (some ⟨g, 0, none⟩) (dn + 8) c3) (xs ++ marksL)) := Own.keptb (Own.below HO4.out HB7.out) (fun b hb => by rw [hx8]; exact Below.heap_setCell _ _ _ _ (fun e9 => hPg (by cases hb; exact e9.symm)))
  have HR8 : Hid (OwnR x8 w1.heap.size (.slice (some ⟨h, 0, none⟩) (gn + 1) d7) (l ++ [(-7, -7)])) := OwnR.base (OwnR.keptb HO7.out (fun b hb => by rw [hx8]; exact Below.heap_setCell _ _ _ _ (fun e9 => hPh (by cases hb; exact e9.symm)))) HS4.out.1
  have HB8 : Hid (Below w.heap.size w x8) := by
    unfold Hid
    rw [hx8]
    exact (HBW4.out.trans (HB7.out.mono HBW4.out.size)).setCell (p := ⟨P, 8, none⟩) (Nat.le_of_eq HP.out.symm) _
  have HS8 : Hid (x4.heap.size ≤ x8.heap.size ∧ w7.heap.size ≤ x8.heap.size) := by unfold Hid; rw [hx8]; have := HB7.out.size; simp; omega
  clear hx8 f78 hu7 hu4
  go_wp2_with (first
    | (refine wpList_load_g (by rfl) 41 _ rfl P 0 (by rfl) [.int .i64 k, .int .u64 e, .int .u64 se, .int .i64 pa, .int .i64 i, .int .i64 c, .slice (some ⟨g, 0, none⟩) dn c3, .int .i64 cd, .slice (some ⟨h, 0, none⟩) gn d7] _ (box_range HU8.out) Tryz.underlying41 rfl info_un ?_)
    | (refine wpList_store_mid rfl 41 _ _ rfl (P + 1) 0 #[.int .i64 k, .int .u64 e, .int .u64 se, .int .i64 pa, .int .i64 i, .int .i64 c, .slice (some ⟨g, 0, none⟩) dn c3, .int .i64 cd, .slice (some ⟨h, 0, none⟩) gn d7] rfl rfl (box_there HZ8.out rfl) (by kernel_rfl) (by simp [Value.oneCell']) ?_))
  (try simp only [Exit.inBlock, Exit.then])
  refine bodyPost_ret (results_cell_row Tryz.results43 _ _ (P + 1) 41 #[.int .i64 k, .int .u64 e, .int .u64 se, .int .i64 pa, .int .i64 i, .int .i64 c, .slice (some ⟨g, 0, none⟩) dn c3, .int .i64 cd, .slice (some ⟨h, 0, none⟩) gn d7] (0, 0) _ rfl (box_set HZ8.out rfl) Tryz.underlying41 rfl (by kernel_rfl)) rfl ?_
  have hfin := setCells_grown (P + 1) [.int .i64 k, .int .u64 e, .int .u64 se, .int .i64 pa, .int .i64 i, .int .i64 c, .slice (some ⟨g, 0, none⟩) dn c3, .int .i64 cd, .slice (some ⟨h, 0, none⟩) gn d7] 0 x8
  have hB1 : w1.heap.size = w.heap.size + 2 := HZ1s.out
  have hPP := HP.out
  have hgb := HGB.out
  have hhb := HHB.out
  have hs4 := HS4.out
  have hs8 := HS8.out
  have hfs := hfin.size
  exact ⟨g, c3, h, d7, rfl, ⟨Own.base (Own.keptb HO8.out (fun b hb => hfin.block b (by have h2 : g = b := Option.some.inj hb; omega) (fun e9 => by have h1 : b = P + 1 := Option.some.inj e9; have h2 : g = b := Option.some.inj hb; omega))) (Nat.le_of_eq hB1.symm), OwnR.base (OwnR.keptb HR8.out (fun b hb => hfin.block b (by have h2 : h = b := Option.some.inj hb; omega) (fun e9 => by have h1 : b = P + 1 := Option.some.inj e9; have h2 : h = b := Option.some.inj hb; omega))) (Nat.le_of_eq hB1.symm), HC3.out, HD7.out, ⟨by omega, by omega⟩, ⟨by omega, by omega⟩⟩, HB8.out.grown hfin HB8.out.size (fun j hj => by cases hj; omega)⟩
end
end Go.Proofs.YtdoikcolkbjnfaaGreat
namespace Go.Proofs.YtdoikcolkbjnfaaGreat
set_option linter.unusedVariables false
set_option linter.unusedSimpArgs false
open Go.RowKit Go.Maps
theorem neq_str (s : ByteArray) (u : World) : (binOp .neq 9 (.string s) (.string s)).run Tryz.prog u = .ok (.bool false) u := by
  go_simp
section
set_option maxRecDepth 20000
set_option maxHeartbeats 6400000
theorem alike_t {w : World} {B B2 : Nat} {a : Ans} {ga ba : Option Addr} {gn gc bn bc : Nat} {rs : List Rg} {xs : List UInt8} {ga2 ba2 : Option Addr} {gn2 gc2 bn2 bc2 : Nat} {rs2 : List Rg} {xs2 : List UInt8} (h1 : AnsAt w B a ga ba gn gc bn bc rs xs) (h2 : AnsAt w B2 a ga2 ba2 gn2 gc2 bn2 bc2 rs2 xs2) : Calls Tryz.prog 23 #[ansV a ga ba gn gc bn bc, ansV a ga2 ba2 gn2 gc2 bn2 bc2] w fun e w' => e = .returned (.bool true) ∧ Below w.heap.size w w' := by
  obtain ⟨e1, e2⟩ := AnsR.uniq h1.is_ h2.is_
  subst e1 e2
  obtain ⟨a1, c1, hv1, -, -, -, hr1, -⟩ := OwnR.val h1.gr
  obtain ⟨a2, c2, hv2, -, -, -, hr2, -⟩ := OwnR.val h2.gr
  obtain ⟨a3, c3, hv3, -, -, -, hr3, -⟩ := Own.val h1.bl
  obtain ⟨a4, c4, hv4, -, -, -, hr4, -⟩ := Own.val h2.bl
  simp only [Value.slice.injEq] at hv1 hv2 hv3 hv4
  obtain ⟨rfl, hg1, rfl⟩ := hv1
  obtain ⟨rfl, hg2, rfl⟩ := hv2
  obtain ⟨rfl, hb1, rfl⟩ := hv3
  obtain ⟨rfl, hb2, rfl⟩ := hv4
  have hl := h1.g64
  obtain ⟨sa, hsa⟩ : ∃ sa, sa = a.st := ⟨_, rfl⟩
  obtain ⟨ca, hca⟩ : ∃ ca, ca = a.cd := ⟨_, rfl⟩
  unfold ansV
  rw [← hsa, ← hca]
  obtain ⟨w1, hw1⟩ : ∃ w1, w1 = (w.alloc (.cells #[.int .i64 sa, .int .i64 ca, .slice ga gn gc, .slice ba bn bc] 44)).alloc (.cells #[.int .i64 sa, .int .i64 ca, .slice ga2 gn2 gc2, .slice ba2 bn2 bc2] tRa) := ⟨_, rfl⟩
  have hbl1 : Below w.heap.size w w1 := by rw [hw1]; exact al (al (Below.refl _ _) _) _
  have hP1 : w1.heap[w.heap.size]? = some (.cells #[.int .i64 sa, .int .i64 ca, .slice ga gn gc, .slice ba bn bc] 44 (0, 0)) := by
    rw [hw1]
    exact ((al (Below.refl _ (w.alloc (.cells #[.int .i64 sa, .int .i64 ca, .slice ga gn gc, .slice ba bn bc] 44))) _).block _ (by simp)).trans (heap_alloc_new _ _)
  have hQ1 : w1.heap[w.heap.size + 1]? = some (.cells #[.int .i64 sa, .int .i64 ca, .slice ga2 gn2 gc2, .slice ba2 bn2 bc2] tRa (0, 0)) := by
    rw [hw1]
    have h9 := heap_alloc_new (w.alloc (.cells #[.int .i64 sa, .int .i64 ca, .slice ga gn gc, .slice ba bn bc] 44)) (.cells #[.int .i64 sa, .int .i64 ca, .slice ga2 gn2 gc2, .slice ba2 bn2 bc2] tRa)
    rw [World.size_alloc] at h9
    exact h9
  have HRG : Hid (Calls _ _ _ w1 _) := rangesI_t ga ga2 gn gn2 gc gc2 rs rs w1 hg1 hg2 (hr1.below hbl1) (hr2.below hbl1) (by omega) rfl
  have HV3 : Hid (∀ u, Below w1.heap.size w1 u → _) := fun u hu => conv_rd' (Rd.below hr3 (below_next hbl1 hu)) bn bc hb1
  have HV4 : Hid (∀ u, Below w1.heap.size w1 u → _) := fun u hu => conv_rd' (Rd.below hr4 (below_next hbl1 hu)) bn2 bc2 hb2
  have hp1 := ansCell hP1
  have hq1 := ansCellR hQ1
  have hse : (sa == sa) = true := by simp
  have hce : (ca == ca) = true := by simp
  have HB1 : Hid _ := hbl1
  have HP1 : Hid _ := hP1
  have HQ1 : Hid _ := hQ1
  have HW1 : Hid (w1 = _) := hw1
  clear h1 h2 hr1 hr2 hr3 hr4 hbl1 hP1 hQ1 hw1 hg1 hg2 hb1 hb2 hl hsa hca
  go_enter Tryz.func23, Tryz.ntmps23
  go_wp2_with fail
  rw [← HW1.out]
  refine Calls.mono HRG.out ?_
  rintro e w2 ⟨rfl, hb2⟩
  have hp2 := ansCell ((hb2.block _ (Array.getElem?_eq_some_iff.1 HP1.out).1).trans HP1.out)
  have hq2 := ansCellR ((hb2.block _ (Array.getElem?_eq_some_iff.1 HQ1.out).1).trans HQ1.out)
  have hv3 := HV3.out w2 hb2
  have hv4 := HV4.out w2 hb2
  have HB2 : Hid (Below w.heap.size w w2) := below_next HB1.out hb2
  clear hp1 hq1 hb2
  go_wp2
  go_ret
  exact ⟨by simp, HB2.out⟩
end
end Go.Proofs.YtdoikcolkbjnfaaGreat
