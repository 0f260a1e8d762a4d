import Derived.Test.YtekfolppahnpoaaTRd
namespace Go.Proofs.Ytekfolppahnpoaa
set_option linter.unusedVariables false
set_option linter.unusedSimpArgs false
open Go.RowKit Go.Maps
variable {W w w' : World} {P : Nat → Nat} {ds : Nat → Dst} {c K : Nat} {F : Key → Row}
def N4 (a b c d : Nat) : Nat → Nat := fun k => if k = 0 then a else if k = 1 then b else if k = 2 then c else d
theorem wpl_tlList {N N' : Nat → Nat} {ops : Array Oper} {rest : List Oper} {o : Oper} {a : Act} {Q : Exit → Act → World → Prop} (hgd : o.guard = none) (s y : Operand) (k : Nat) (t : TypeId) (hst : t = lty k) (ho : o.op = .call { callee := .builtin .append, args := #[s, y], argTypes := #[t, t] })
    (h : Tl W w P ds c K N F) (hk : k < 4) (V : Value) (hV : (F (4, k)).v = V) (g cap0 n : Nat) (us : List Value) (hs : a.eval s = V) (hy : a.eval y = .slice (some ⟨g, 0, none⟩) n cap0) (hn : n = us.length) (hp : 0 < n) (hc : ∀ j, j < us.length → w.cell? ⟨g, j, none⟩ = us[j]?)
    (hus : ∀ j, j < us.length → us[j]? = some (F (k, N k + j)).v) (l : Nat) (hl : l = N k + us.length) (hl2 : l ≤ 2000) (hN : ∀ j, j < 4 → N' j = if j = k then l else N j) (hC : Cnt N' F)
    (hk' : ∀ G cap w', w'.cell? ⟨K, k, none⟩ = some V → w'.frozen? ⟨K, k, none⟩ = false → (∃ xs, Tl W (w'.setCell ⟨K, k, none⟩ (.slice (some ⟨G, 0, none⟩) l cap)) P ds c K N' (updF F (4, k) ⟨rty k, .slice (some ⟨G, 0, none⟩) l cap, xs⟩)) → wpList Try.prog ops Q rest (a.put o.dst (.slice (some ⟨G, 0, none⟩) l cap)) w') : wpList Try.prog ops Q (o :: rest) a w :=
  wpList_plain hgd fun _ hK => wpo_tlList s y k t hst ho h hk V hV g cap0 n us hs hy hn hp hc hus l hl hl2 hN hC fun G cap w' h1 h2 h3 => hK _ _ (hk' G cap w' h1 h2 h3)
theorem cnt_b {a b : Nat} (h : Cnt (N4 a a b b) F) (l : List UInt8) (e : (F (0, a)).xs = bv l) : Cnt (N4 (a + 1) a b b) F := by
  refine ⟨Nat.le_succ _, h.le2, fun i hi => ?_, h.by2, h.sm0, h.sm2⟩
  by_cases q : i = a
  · subst q; exact ⟨l, e⟩
  · exact h.by0 i (by simp [N4] at hi ⊢; omega)
theorem cnt_c {a b : Nat} (h : Cnt (N4 (a + 1) a b b) F) (e : (F (1, a)).xs = (F (0, a)).xs) : Cnt (N4 (a + 1) (a + 1) b b) F := by
  refine ⟨Nat.le_refl _, h.le2, h.by0, h.by2, fun i hi => ?_, h.sm2⟩
  by_cases q : i = a
  · subst q; exact e
  · exact h.sm0 i (by simp [N4] at hi ⊢; omega)
theorem cnt_i {a b : Nat} (h : Cnt (N4 a a b b) F) (l l2 : List Int) (e : (F (2, b)).xs = iv l) (e2 : (F (2, b + 1)).xs = iv l2) : Cnt (N4 a a (b + 2) b) F := by
  refine ⟨h.le0, by simp [N4], h.by0, fun i hi => ?_, h.sm0, h.sm2⟩
  by_cases q : i = b
  · subst q; exact ⟨l, e⟩
  · by_cases q2 : i = b + 1
    · subst q2; exact ⟨l2, e2⟩
    · exact h.by2 i (by simp [N4] at hi ⊢; omega)
theorem cnt_j {a b : Nat} (h : Cnt (N4 a a (b + 2) b) F) (e : (F (3, b)).xs = (F (2, b)).xs) (e2 : (F (3, b + 1)).xs = (F (2, b + 1)).xs) : Cnt (N4 a a (b + 2) (b + 2)) F := by
  refine ⟨h.le0, Nat.le_refl _, h.by0, h.by2, h.sm0, fun i hi => ?_⟩
  by_cases q : i = b
  · subst q; exact e
  · by_cases q2 : i = b + 1
    · subst q2; exact e2
    · exact h.sm2 i (by simp [N4] at hi ⊢; omega)
theorem one_cell {w : World} {g : Nat} {v : Value} {T : TypeId} (h : w.heap[g]? = some (.cells #[v] T (0, 0))) : ∀ j, j < [v].length → w.cell? ⟨g, j, none⟩ = [v][j]? := by
  intro j hj
  rw [cell_of_row _ _ j _ _ _ h]
  simp
theorem two_cell {w : World} {g : Nat} {v u : Value} {T : TypeId} (h : w.heap[g]? = some (.cells #[v, u] T (0, 0))) : ∀ j, j < [v, u].length → w.cell? ⟨g, j, none⟩ = [v, u][j]? := by
  intro j hj
  rw [cell_of_row _ _ j _ _ _ h]
  simp
theorem one_us {v : Value} {k n : Nat} (h : (F (k, n)).v = v) : ∀ j, j < [v].length → [v][j]? = some (F (k, n + j)).v := by
  intro j hj
  obtain rfl : j = 0 := by simpa using hj
  rw [Nat.add_zero, h]; rfl
theorem two_us {v u : Value} {k n : Nat} (h : (F (k, n)).v = v) (h2 : (F (k, n + 1)).v = u) : ∀ j, j < [v, u].length → [v, u][j]? = some (F (k, n + j)).v := by
  intro j hj
  have hj' : j = 0 ∨ j = 1 := by simp at hj; omega
  rcases hj' with rfl | rfl
  · rw [Nat.add_zero, h]; rfl
  · rw [h2]; rfl
theorem bv_one' (l : List UInt8) : ∀ u ∈ bv l, u.oneCell' = true := bv_one l
theorem iv_one (l : List Int) : ∀ u ∈ iv l, u.oneCell' = true := by
  intro u hu
  simp only [iv, List.mem_map] at hu
  obtain ⟨b, _, rfl⟩ := hu
  rfl
theorem Tl.slv {N : Nat → Nat} (h : Tl W w P ds c K N F) {x : Key} {e : TypeId} {v : Value} {us : List Value} (hx : F x = ⟨e, v, us⟩) {n : Nat} (hn : us.length = n) : ∃ a c, v = .slice a n c := by
  obtain ⟨a, c, e9, -⟩ := Row.val (h.d.fam.own x)
  rw [hx] at e9
  subst hn
  exact ⟨a, c, e9⟩
theorem Tl.cell1 {N : Nat → Nat} (h : Tl W w P ds c K N F) (k : Nat) (hk : k < 4) {V : Value} (hV : (F (4, k)).v = V) : w.cell? ⟨K, k, none⟩ = some V := by rw [← hV]; exact h.d.cellK k hk
theorem made0 (w : World) (B T : Nat) (hb : B ≤ w.heap.size) : (w.alloc (.cells #[] T)).ownsRow B T 1 (.slice (some ⟨w.heap.size, 0, none⟩) 0 0) ([] : List Value).length [] :=
  World.ownsRow_made w #[] 0 hb (Nat.zero_le _) rfl
theorem cell_ofB1 {u v : World} {a : Addr} {x : Value} (h : u.cell? a = some x) (hb : Below u.heap.size u v) : v.cell? a = some x := (hb.cell (World.block_lt_of_cell? u _ h)).trans h
theorem n4_0 (a b : Nat) : ∀ j, j < 4 → N4 (a + 1) a b b j = if j = 0 then a + 1 else N4 a a b b j := fun j _ => by unfold N4; split <;> simp_all
theorem n4_1 (a b : Nat) : ∀ j, j < 4 → N4 (a + 1) (a + 1) b b j = if j = 1 then a + 1 else N4 (a + 1) a b b j := fun j _ => by unfold N4; split <;> simp_all
set_option maxRecDepth 20000 in
set_option maxHeartbeats 3200000 in
theorem tread_t (a b : Nat) (h : Tl W w P ds c K (N4 a a b b) F) (ha : a ≤ 500) (hoff : (ds 0).off = false) (i : Nat) (hi : i < (ds 0).S.length) :
    Calls Try.prog 7 #[.pointer (some ⟨K, 0, none⟩), .pointer (some ⟨P 0, 0, none⟩), .int .i64 (i : Int)] w fun e w' => e = .returned (.tuple #[]) ∧ ∃ F', Tl W w' P ds c K (N4 (a + 1) (a + 1) b b) F' := by
  have HRD : Hid _ := h.d.ap.read 0 (by decide) hoff i hi
  have hlen := h.d.ap.readLen 0 (by decide) i hi
  have HT : Hid _ := h
  clear h hoff hi
  go_enter Try.func7, Try.ntmps7
  go_wp2_with fail
  refine Calls.mono HRD.out ?_
  rintro e w1 ⟨v, rfl, hown, hb⟩
  generalize readB (rdS (ds 0) i) = l at *
  clear HRD
  have HT1 : Hid _ := HT.out.put hb 0 a (by decide) (Nat.le_refl _) v (bv l) (by rw [bv_length]; exact hown) (by rw [bv_length]; omega)
  obtain ⟨ao, cp, rfl, -⟩ := hown.val
  obtain ⟨L, hL⟩ : ∃ L, L = l.length := ⟨_, rfl⟩
  rw [← hL] at HT1 ⊢
  obtain ⟨F1, hF1⟩ : ∃ F1, F1 = updF F (0, a) ⟨ety 0, .slice ao L cp, bv l⟩ := ⟨_, rfl⟩
  rw [← hF1] at HT1
  have HEB : Hid (F1 (0, a) = ⟨ety 0, .slice ao L cp, bv l⟩) := by rw [hF1, updF_same]; exact rfl
  have HLL : Hid _ := hL
  clear hF1 hL hown hb HT
  obtain ⟨a0, cap0, e0, -⟩ := HT1.out.d.named HT1.out.r 0 (by decide)
  have hc0 := HT1.out.d.cellK 0 (by decide)
  rw [e0] at hc0
  obtain ⟨X, hX⟩ : ∃ X : World, X = w1.alloc (.cells #[.slice ao L cp] 40) := ⟨_, rfl⟩
  have hXb : Below w1.heap.size w1 X := by rw [hX]; exact al (Below.refl _ _) _
  have hXr : X.heap[w1.heap.size]? = some (.cells #[.slice ao L cp] 40 (0, 0)) := by rw [hX]; exact heap_alloc_new w1 _
  have HTX : Hid _ := HT1.out.below hXb
  have hcX := cell_ofB1 hc0 hXb
  have hN0 : N4 a a b b 0 = a := rfl
  rw [hN0] at e0 hc0 hcX
  have HE0 : Hid _ := e0
  clear e0 hN0 hXb
  go_wp2_with (at_builtin; go_loud (rw [← hX]; refine wpl_tlList (N' := N4 (a + 1) a b b) rfl _ _ 0 30 rfl rfl HTX.out (by decide) (.slice a0 a cap0) HE0.out w1.heap.size 1 1 [.slice ao L cp] (by rfl) (by rfl) rfl (by decide) (one_cell hXr) (one_us (F := F1) (k := 0) (n := a) (by rw [HEB.out])) (a + 1) rfl (by omega) (n4_0 a b) (cnt_b HTX.out.n l (by rw [HEB.out])) ?_; intro G2 cap2 w2 hk2 hz2 ht2))
  obtain ⟨xs2, ht2⟩ := ht2
  have HT2 : Hid _ := ht2
  obtain ⟨F2, hF2⟩ : ∃ F2, F2 = updF F1 (4, 0) ⟨rty 0, .slice (some ⟨G2, 0, none⟩) (a + 1) cap2, xs2⟩ := ⟨_, rfl⟩
  rw [← hF2] at HT2
  have HEB2 : Hid (F2 (0, a) = ⟨ety 0, .slice ao L cp, bv l⟩) := by rw [hF2, updF_other _ (ne4' (by decide))]; exact HEB.out
  clear ht2 hF2 HTX HT1 HE0 HEB hcX hXr hX hc0
  go_wp2_with fail
  obtain ⟨w3, hw3⟩ : ∃ w3 : World, w3 = w2.setCell ⟨K, 0, none⟩ (.slice (some ⟨G2, 0, none⟩) (a + 1) cap2) := ⟨_, rfl⟩
  rw [← hw3] at HT2 ⊢
  clear hk2 hz2 hw3
  obtain ⟨a1, cap1, e1, -⟩ := HT2.out.d.named HT2.out.r 1 (by decide)
  have hc1 := HT2.out.d.cellK 1 (by decide)
  rw [show N4 (a + 1) a b b 1 = a from rfl] at e1
  rw [e1] at hc1
  have HE1 : Hid _ := e1
  clear e1
  have hc1A := fun (ob : Obj) => cell_ofB1 hc1 (al (Below.refl w3.heap.size w3) ob)
  have HT3 : Hid (Tl W (w3.drew.alloc (.cells #[] 5)) P ds c K (N4 (a + 1) a b b) (updF F2 (1, a) ⟨ety 1, .slice (some ⟨w3.heap.size, 0, none⟩) 0 0, []⟩)) := HT2.out.put (al (Below.refl _ _).drew _) 1 a (by decide) (Nat.le_refl _) _ [] (made0 w3.drew w3.heap.size 5 (Nat.le_refl _)) (by decide)
  obtain ⟨F3, hF3⟩ : ∃ F3, F3 = updF F2 (1, a) ⟨ety 1, .slice (some ⟨w3.heap.size, 0, none⟩) 0 0, []⟩ := ⟨_, rfl⟩
  rw [← hF3] at HT3
  have HE3 : Hid (F3 (1, a) = ⟨ety 1, .slice (some ⟨w3.heap.size, 0, none⟩) 0 0, []⟩) := by rw [hF3, updF_same]; exact rfl
  have HS3 : Hid (F3 (0, a) = ⟨ety 1, .slice ao L cp, bv l⟩) := by rw [hF3, updF_other _ (by simp)]; exact HEB2.out
  have HV3 : Hid ((F3 (4, 1)).v = .slice a1 a cap1) := by rw [hF3, updF_other _ (by simp)]; exact HE1.out
  have HLB : Hid ((bv l).length = L) := (bv_length l).trans HLL.out.symm
  clear hF3
  refine wp_region_noPanic ?_
  refine wp_region_held_drew (S := (fun _ => True)) (by kernel_rfl) (by exact trivial) (fun hHeld => ?_)
  refine take_at (i := 0) 24 (v := ?_) rfl rfl (by kernel_rfl) (by kernel_rfl) (by kernel_rfl) (fun _ _ _ h => h) (by rfl) ?_ hHeld ?_
  rotate_left
  · (intro w hSw; (try dsimp only at hSw); go_simp; try with_reducible rfl)
  simp only [Act.put, List.setIfInBounds_toArray, List.set_cons_zero, List.set_cons_succ]
  refine take_at (i := 1) 25 (v := ?_) rfl rfl (by kernel_rfl) (by kernel_rfl) (by kernel_rfl) (fun _ _ _ h => h) (by rfl) ?_ hHeld ?_
  rotate_left
  · (intro w hSw; (try dsimp only at hSw); go_simp; try with_reducible rfl)
  simp only [Act.put, List.setIfInBounds_toArray, List.set_cons_zero, List.set_cons_succ]
  refine take_at (i := 2) 26 (v := ?_) rfl rfl (by kernel_rfl) (by kernel_rfl) (by kernel_rfl) (fun _ _ _ h => h) (by rfl) ?_ hHeld ?_
  rotate_left
  · (intro w hSw; (try dsimp only at hSw); go_simp; try with_reducible rfl)
  simp only [Act.put, List.setIfInBounds_toArray, List.set_cons_zero, List.set_cons_succ]
  refine take_at (i := 3) 27 (v := ?_) rfl rfl (by kernel_rfl) (by kernel_rfl) (by kernel_rfl) (fun _ _ _ h => h) (by rfl) ?_ hHeld ?_
  rotate_left
  · (intro w hSw; (try dsimp only at hSw); go_simp; try with_reducible rfl)
  simp only [Act.put, List.setIfInBounds_toArray, List.set_cons_zero, List.set_cons_succ]
  refine take_at (i := 6) 30 (v := ?_) rfl rfl (by kernel_rfl) (by kernel_rfl) (by kernel_rfl) (fun _ _ _ h => h) (by rfl) ?_ hHeld ?_
  rotate_left
  · (intro w hSw; (try dsimp only at hSw); go_simp; try with_reducible rfl)
  simp only [Act.put, List.setIfInBounds_toArray, List.set_cons_zero, List.set_cons_succ]
  refine wpAnyH_ready (rs := [4, 5]) (by kernel_rfl) (by simp) ?_
  refine AllReadyH.cons (o := _) rfl (fun K hK => ?_) ?_
  focus
    rw [if_pos (by rfl)]
    refine val_wp 28 (v := ?_) rfl ?_ ?_
    rotate_left
    · (go_simp; try with_reducible rfl)
    refine hK.out _ _ (by exact trivial) ?_
    clear hK K
    intro hHeld2
    clear hHeld
    have hHeld := hHeld2
    clear hHeld2
    simp only [Act.put, List.setIfInBounds_toArray, List.set_cons_zero, List.set_cons_succ]
    refine run_at (i := 5) rfl (by kernel_rfl) (by rfl) (fun K hK => ?_)
    simp only [List.getElem_toArray, List.getElem_cons_zero, List.getElem_cons_succ]
    go_simp
    go_wp2_with fail
    refine hK.out _ _ (by exact trivial) ?_
    clear hK K
    intro hHeld2
    clear hHeld
    have hHeld := hHeld2
    clear hHeld2
    try simp only [Act.put, List.setIfInBounds_toArray, List.set_cons_zero, List.set_cons_succ]
    refine run_at (i := 7) rfl (by kernel_rfl) (by rfl) (fun K hK => ?_)
    simp only [List.getElem_toArray, List.getElem_cons_zero, List.getElem_cons_succ]
    first | (refine wpo_tlCopy _ _ 1 40 rfl rfl HT3.out a (by decide) (Nat.le_refl _) (.slice (some ⟨w3.heap.size, 0, none⟩) 0 0) HE3.out (0, a) (.slice ao L cp) (bv l) HS3.out (bv_one l) (by have := HLB.out; have := HLL.out; omega) (by rfl) (by rfl) ?_; intro v5 w5 ht5 hg5; obtain ⟨a5, c5, rfl⟩ := ht5.slv (x := (1, a)) (updF_same _ _ _) HLB.out; have HT5 : Hid _ := ht5; have HV5 : Hid ((updF F3 (1, a) ⟨ety 1, .slice a5 L c5, bv l⟩ (4, 1)).v = .slice a1 a cap1) := (by rw [updF_other _ (by simp)]; exact HV3.out); have hc5 := ht5.cell1 1 (by decide) HV5.out; have hc5A := fun (ob : Obj) => cell_ofB1 hc5 (al (Below.refl w5.heap.size w5) ob); clear ht5 hg5) | (refine wpo_tlList (N' := N4 (a + 1) (a + 1) b b) _ _ 1 30 rfl rfl (HT5.out.below (al (Below.refl _ _) _)) (by decide) (.slice a1 a cap1) HV5.out w5.heap.size 1 1 [.slice a5 L c5] (by rfl) (by rfl) rfl (by decide) (one_cell (heap_alloc_new w5 _)) (one_us (F := updF F3 (1, a) ⟨ety 1, .slice a5 L c5, bv l⟩) (k := 1) (n := a) (by rw [updF_same])) (a + 1) rfl (by omega) (n4_1 a b) (cnt_c HT5.out.n (by rw [updF_same, updF_other _ (by simp), HS3.out])) ?_; intro G6 cap6 w6 hk6 hz6 ht6; obtain ⟨xs6, ht6⟩ := ht6; have HT6 : Hid _ := ht6; clear ht6)
    refine hK.out _ _ (by exact trivial) ?_
    clear hK K
    intro hHeld2
    clear hHeld
    have hHeld := hHeld2
    clear hHeld2
    try simp only [Act.put, List.setIfInBounds_toArray, List.set_cons_zero, List.set_cons_succ]
    refine run_at (i := 8) rfl (by kernel_rfl) (by rfl) (fun K hK => ?_)
    simp only [List.getElem_toArray, List.getElem_cons_zero, List.getElem_cons_succ]
    go_simp
    go_wp2_with fail
    refine hK.out _ _ (by exact trivial) ?_
    clear hK K
    intro hHeld2
    clear hHeld
    have hHeld := hHeld2
    clear hHeld2
    try simp only [Act.put, List.setIfInBounds_toArray, List.set_cons_zero, List.set_cons_succ]
    refine run_at (i := 9) rfl (by kernel_rfl) (by rfl) (fun K hK => ?_)
    simp only [List.getElem_toArray, List.getElem_cons_zero, List.getElem_cons_succ]
    first | (refine wpo_tlCopy _ _ 1 40 rfl rfl HT3.out a (by decide) (Nat.le_refl _) (.slice (some ⟨w3.heap.size, 0, none⟩) 0 0) HE3.out (0, a) (.slice ao L cp) (bv l) HS3.out (bv_one l) (by have := HLB.out; have := HLL.out; omega) (by rfl) (by rfl) ?_; intro v5 w5 ht5 hg5; obtain ⟨a5, c5, rfl⟩ := ht5.slv (x := (1, a)) (updF_same _ _ _) HLB.out; have HT5 : Hid _ := ht5; have HV5 : Hid ((updF F3 (1, a) ⟨ety 1, .slice a5 L c5, bv l⟩ (4, 1)).v = .slice a1 a cap1) := (by rw [updF_other _ (by simp)]; exact HV3.out); have hc5 := ht5.cell1 1 (by decide) HV5.out; have hc5A := fun (ob : Obj) => cell_ofB1 hc5 (al (Below.refl w5.heap.size w5) ob); clear ht5 hg5) | (refine wpo_tlList (N' := N4 (a + 1) (a + 1) b b) _ _ 1 30 rfl rfl (HT5.out.below (al (Below.refl _ _) _)) (by decide) (.slice a1 a cap1) HV5.out w5.heap.size 1 1 [.slice a5 L c5] (by rfl) (by rfl) rfl (by decide) (one_cell (heap_alloc_new w5 _)) (one_us (F := updF F3 (1, a) ⟨ety 1, .slice a5 L c5, bv l⟩) (k := 1) (n := a) (by rw [updF_same])) (a + 1) rfl (by omega) (n4_1 a b) (cnt_c HT5.out.n (by rw [updF_same, updF_other _ (by simp), HS3.out])) ?_; intro G6 cap6 w6 hk6 hz6 ht6; obtain ⟨xs6, ht6⟩ := ht6; have HT6 : Hid _ := ht6; clear ht6)
    refine hK.out _ _ (by exact trivial) ?_
    clear hK K
    intro hHeld2
    clear hHeld
    have hHeld := hHeld2
    clear hHeld2
    try simp only [Act.put, List.setIfInBounds_toArray, List.set_cons_zero, List.set_cons_succ]
    refine take_at (i := 10) 34 (v := ?_) rfl rfl (by kernel_rfl) (by kernel_rfl) (by kernel_rfl) (fun _ _ _ h => h) (by rfl) ?_ hHeld ?_
    rotate_left
    · (intro w hSw; (try dsimp only at hSw); go_simp; try with_reducible rfl)
    simp only [Act.put, List.setIfInBounds_toArray, List.set_cons_zero, List.set_cons_succ]
    refine take_at (i := 11) 35 (v := ?_) rfl rfl (by kernel_rfl) (by kernel_rfl) (by kernel_rfl) (fun _ _ _ h => h) (by rfl) ?_ hHeld ?_
    rotate_left
    · (intro w hSw; (try dsimp only at hSw); go_simp; try with_reducible rfl)
    simp only [Act.put, List.setIfInBounds_toArray, List.set_cons_zero, List.set_cons_succ]
    refine run_at (i := 12) rfl (by kernel_rfl) (by rfl) (fun K hK => ?_)
    simp only [List.getElem_toArray, List.getElem_cons_zero, List.getElem_cons_succ]
    go_simp
    go_wp2_with fail
    refine hK.out _ _ (by exact trivial) ?_
    clear hK K
    intro hHeld2
    clear hHeld
    have hHeld := hHeld2
    clear hHeld2
    try simp only [Act.put, List.setIfInBounds_toArray, List.set_cons_zero, List.set_cons_succ]
    refine wpAnyH_done (by kernel_rfl) ?_ _
    refine NoPanic.normal ?_
  rotate_left 1
  refine AllReadyH.cons (o := _) rfl (fun K hK => ?_) AllReadyH.nil
  focus
    rw [if_pos (by rfl)]
    simp only [List.getElem_toArray, List.getElem_cons_zero, List.getElem_cons_succ]
    go_simp
    go_wp2_with fail
    refine hK.out _ _ (by exact trivial) ?_
    clear hK K
    intro hHeld2
    clear hHeld
    have hHeld := hHeld2
    clear hHeld2
    try simp only [Act.put, List.setIfInBounds_toArray, List.set_cons_zero, List.set_cons_succ]
    refine wpAnyH_ready (rs := [4, 7]) (by kernel_rfl) (by simp) ?_
    refine AllReadyH.cons (o := _) rfl (fun K hK => ?_) ?_
    focus
      rw [if_pos (by rfl)]
      refine val_wp 28 (v := ?_) rfl ?_ ?_
      rotate_left
      · (go_simp; try with_reducible rfl)
      refine hK.out _ _ (by exact trivial) ?_
      clear hK K
      intro hHeld2
      clear hHeld
      have hHeld := hHeld2
      clear hHeld2
      simp only [Act.put, List.setIfInBounds_toArray, List.set_cons_zero, List.set_cons_succ]
      refine run_at (i := 7) rfl (by kernel_rfl) (by rfl) (fun K hK => ?_)
      simp only [List.getElem_toArray, List.getElem_cons_zero, List.getElem_cons_succ]
      first | (refine wpo_tlCopy _ _ 1 40 rfl rfl HT3.out a (by decide) (Nat.le_refl _) (.slice (some ⟨w3.heap.size, 0, none⟩) 0 0) HE3.out (0, a) (.slice ao L cp) (bv l) HS3.out (bv_one l) (by have := HLB.out; have := HLL.out; omega) (by rfl) (by rfl) ?_; intro v5 w5 ht5 hg5; obtain ⟨a5, c5, rfl⟩ := ht5.slv (x := (1, a)) (updF_same _ _ _) HLB.out; have HT5 : Hid _ := ht5; have HV5 : Hid ((updF F3 (1, a) ⟨ety 1, .slice a5 L c5, bv l⟩ (4, 1)).v = .slice a1 a cap1) := (by rw [updF_other _ (by simp)]; exact HV3.out); have hc5 := ht5.cell1 1 (by decide) HV5.out; have hc5A := fun (ob : Obj) => cell_ofB1 hc5 (al (Below.refl w5.heap.size w5) ob); clear ht5 hg5) | (refine wpo_tlList (N' := N4 (a + 1) (a + 1) b b) _ _ 1 30 rfl rfl (HT5.out.below (al (Below.refl _ _) _)) (by decide) (.slice a1 a cap1) HV5.out w5.heap.size 1 1 [.slice a5 L c5] (by rfl) (by rfl) rfl (by decide) (one_cell (heap_alloc_new w5 _)) (one_us (F := updF F3 (1, a) ⟨ety 1, .slice a5 L c5, bv l⟩) (k := 1) (n := a) (by rw [updF_same])) (a + 1) rfl (by omega) (n4_1 a b) (cnt_c HT5.out.n (by rw [updF_same, updF_other _ (by simp), HS3.out])) ?_; intro G6 cap6 w6 hk6 hz6 ht6; obtain ⟨xs6, ht6⟩ := ht6; have HT6 : Hid _ := ht6; clear ht6)
      refine hK.out _ _ (by exact trivial) ?_
      clear hK K
      intro hHeld2
      clear hHeld
      have hHeld := hHeld2
      clear hHeld2
      try simp only [Act.put, List.setIfInBounds_toArray, List.set_cons_zero, List.set_cons_succ]
      refine run_at (i := 8) rfl (by kernel_rfl) (by rfl) (fun K hK => ?_)
      simp only [List.getElem_toArray, List.getElem_cons_zero, List.getElem_cons_succ]
      go_simp
      go_wp2_with fail
      refine hK.out _ _ (by exact trivial) ?_
      clear hK K
      intro hHeld2
      clear hHeld
      have hHeld := hHeld2
      clear hHeld2
      try simp only [Act.put, List.setIfInBounds_toArray, List.set_cons_zero, List.set_cons_succ]
      refine run_at (i := 9) rfl (by kernel_rfl) (by rfl) (fun K hK => ?_)
      simp only [List.getElem_toArray, List.getElem_cons_zero, List.getElem_cons_succ]
      first | (refine wpo_tlCopy _ _ 1 40 rfl rfl HT3.out a (by decide) (Nat.le_refl _) (.slice (some ⟨w3.heap.size, 0, none⟩) 0 0) HE3.out (0, a) (.slice ao L cp) (bv l) HS3.out (bv_one l) (by have := HLB.out; have := HLL.out; omega) (by rfl) (by rfl) ?_; intro v5 w5 ht5 hg5; obtain ⟨a5, c5, rfl⟩ := ht5.slv (x := (1, a)) (updF_same _ _ _) HLB.out; have HT5 : Hid _ := ht5; have HV5 : Hid ((updF F3 (1, a) ⟨ety 1, .slice a5 L c5, bv l⟩ (4, 1)).v = .slice a1 a cap1) := (by rw [updF_other _ (by simp)]; exact HV3.out); have hc5 := ht5.cell1 1 (by decide) HV5.out; have hc5A := fun (ob : Obj) => cell_ofB1 hc5 (al (Below.refl w5.heap.size w5) ob); clear ht5 hg5) | (refine wpo_tlList (N' := N4 (a + 1) (a + 1) b b) _ _ 1 30 rfl rfl (HT5.out.below (al (Below.refl _ _) _)) (by decide) (.slice a1 a cap1) HV5.out w5.heap.size 1 1 [.slice a5 L c5] (by rfl) (by rfl) rfl (by decide) (one_cell (heap_alloc_new w5 _)) (one_us (F := updF F3 (1, a) ⟨ety 1, .slice a5 L c5, bv l⟩) (k := 1) (n := a) (by rw [updF_same])) (a + 1) rfl (by omega) (n4_1 a b) (cnt_c HT5.out.n (by rw [updF_same, updF_other _ (by simp), HS3.out])) ?_; intro G6 cap6 w6 hk6 hz6 ht6; obtain ⟨xs6, ht6⟩ := ht6; have HT6 : Hid _ := ht6; clear ht6)
      refine hK.out _ _ (by exact trivial) ?_
      clear hK K
      intro hHeld2
      clear hHeld
      have hHeld := hHeld2
      clear hHeld2
      try simp only [Act.put, List.setIfInBounds_toArray, List.set_cons_zero, List.set_cons_succ]
      refine take_at (i := 10) 34 (v := ?_) rfl rfl (by kernel_rfl) (by kernel_rfl) (by kernel_rfl) (fun _ _ _ h => h) (by rfl) ?_ hHeld ?_
      rotate_left
      · (intro w hSw; (try dsimp only at hSw); go_simp; try with_reducible rfl)
      simp only [Act.put, List.setIfInBounds_toArray, List.set_cons_zero, List.set_cons_succ]
      refine take_at (i := 11) 35 (v := ?_) rfl rfl (by kernel_rfl) (by kernel_rfl) (by kernel_rfl) (fun _ _ _ h => h) (by rfl) ?_ hHeld ?_
      rotate_left
      · (intro w hSw; (try dsimp only at hSw); go_simp; try with_reducible rfl)
      simp only [Act.put, List.setIfInBounds_toArray, List.set_cons_zero, List.set_cons_succ]
      refine run_at (i := 12) rfl (by kernel_rfl) (by rfl) (fun K hK => ?_)
      simp only [List.getElem_toArray, List.getElem_cons_zero, List.getElem_cons_succ]
      go_simp
      go_wp2_with fail
      refine hK.out _ _ (by exact trivial) ?_
      clear hK K
      intro hHeld2
      clear hHeld
      have hHeld := hHeld2
      clear hHeld2
      try simp only [Act.put, List.setIfInBounds_toArray, List.set_cons_zero, List.set_cons_succ]
      refine wpAnyH_done (by kernel_rfl) ?_ _
      refine NoPanic.normal ?_
    rotate_left 1
    refine AllReadyH.cons (o := _) rfl (fun K hK => ?_) AllReadyH.nil
    focus
      rw [if_pos (by rfl)]
      simp only [List.getElem_toArray, List.getElem_cons_zero, List.getElem_cons_succ]
      first | (refine wpo_tlCopy _ _ 1 40 rfl rfl HT3.out a (by decide) (Nat.le_refl _) (.slice (some ⟨w3.heap.size, 0, none⟩) 0 0) HE3.out (0, a) (.slice ao L cp) (bv l) HS3.out (bv_one l) (by have := HLB.out; have := HLL.out; omega) (by rfl) (by rfl) ?_; intro v5 w5 ht5 hg5; obtain ⟨a5, c5, rfl⟩ := ht5.slv (x := (1, a)) (updF_same _ _ _) HLB.out; have HT5 : Hid _ := ht5; have HV5 : Hid ((updF F3 (1, a) ⟨ety 1, .slice a5 L c5, bv l⟩ (4, 1)).v = .slice a1 a cap1) := (by rw [updF_other _ (by simp)]; exact HV3.out); have hc5 := ht5.cell1 1 (by decide) HV5.out; have hc5A := fun (ob : Obj) => cell_ofB1 hc5 (al (Below.refl w5.heap.size w5) ob); clear ht5 hg5) | (refine wpo_tlList (N' := N4 (a + 1) (a + 1) b b) _ _ 1 30 rfl rfl (HT5.out.below (al (Below.refl _ _) _)) (by decide) (.slice a1 a cap1) HV5.out w5.heap.size 1 1 [.slice a5 L c5] (by rfl) (by rfl) rfl (by decide) (one_cell (heap_alloc_new w5 _)) (one_us (F := updF F3 (1, a) ⟨ety 1, .slice a5 L c5, bv l⟩) (k := 1) (n := a) (by rw [updF_same])) (a + 1) rfl (by omega) (n4_1 a b) (cnt_c HT5.out.n (by rw [updF_same, updF_other _ (by simp), HS3.out])) ?_; intro G6 cap6 w6 hk6 hz6 ht6; obtain ⟨xs6, ht6⟩ := ht6; have HT6 : Hid _ := ht6; clear ht6)
      refine hK.out _ _ (by exact trivial) ?_
      clear hK K
      intro hHeld2
      clear hHeld
      have hHeld := hHeld2
      clear hHeld2
      try simp only [Act.put, List.setIfInBounds_toArray, List.set_cons_zero, List.set_cons_succ]
      refine wpAnyH_ready (rs := [4, 8]) (by kernel_rfl) (by simp) ?_
      refine AllReadyH.cons (o := _) rfl (fun K hK => ?_) ?_
      focus
        rw [if_pos (by rfl)]
        refine val_wp 28 (v := ?_) rfl ?_ ?_
        rotate_left
        · (go_simp; try with_reducible rfl)
        refine hK.out _ _ (by exact trivial) ?_
        clear hK K
        intro hHeld2
        clear hHeld
        have hHeld := hHeld2
        clear hHeld2
        simp only [Act.put, List.setIfInBounds_toArray, List.set_cons_zero, List.set_cons_succ]
        refine run_at (i := 8) rfl (by kernel_rfl) (by rfl) (fun K hK => ?_)
        simp only [List.getElem_toArray, List.getElem_cons_zero, List.getElem_cons_succ]
        go_simp
        go_wp2_with fail
        refine hK.out _ _ (by exact trivial) ?_
        clear hK K
        intro hHeld2
        clear hHeld
        have hHeld := hHeld2
        clear hHeld2
        try simp only [Act.put, List.setIfInBounds_toArray, List.set_cons_zero, List.set_cons_succ]
        refine run_at (i := 9) rfl (by kernel_rfl) (by rfl) (fun K hK => ?_)
        simp only [List.getElem_toArray, List.getElem_cons_zero, List.getElem_cons_succ]
        first | (refine wpo_tlCopy _ _ 1 40 rfl rfl HT3.out a (by decide) (Nat.le_refl _) (.slice (some ⟨w3.heap.size, 0, none⟩) 0 0) HE3.out (0, a) (.slice ao L cp) (bv l) HS3.out (bv_one l) (by have := HLB.out; have := HLL.out; omega) (by rfl) (by rfl) ?_; intro v5 w5 ht5 hg5; obtain ⟨a5, c5, rfl⟩ := ht5.slv (x := (1, a)) (updF_same _ _ _) HLB.out; have HT5 : Hid _ := ht5; have HV5 : Hid ((updF F3 (1, a) ⟨ety 1, .slice a5 L c5, bv l⟩ (4, 1)).v = .slice a1 a cap1) := (by rw [updF_other _ (by simp)]; exact HV3.out); have hc5 := ht5.cell1 1 (by decide) HV5.out; have hc5A := fun (ob : Obj) => cell_ofB1 hc5 (al (Below.refl w5.heap.size w5) ob); clear ht5 hg5) | (refine wpo_tlList (N' := N4 (a + 1) (a + 1) b b) _ _ 1 30 rfl rfl (HT5.out.below (al (Below.refl _ _) _)) (by decide) (.slice a1 a cap1) HV5.out w5.heap.size 1 1 [.slice a5 L c5] (by rfl) (by rfl) rfl (by decide) (one_cell (heap_alloc_new w5 _)) (one_us (F := updF F3 (1, a) ⟨ety 1, .slice a5 L c5, bv l⟩) (k := 1) (n := a) (by rw [updF_same])) (a + 1) rfl (by omega) (n4_1 a b) (cnt_c HT5.out.n (by rw [updF_same, updF_other _ (by simp), HS3.out])) ?_; intro G6 cap6 w6 hk6 hz6 ht6; obtain ⟨xs6, ht6⟩ := ht6; have HT6 : Hid _ := ht6; clear ht6)
        refine hK.out _ _ (by exact trivial) ?_
        clear hK K
        intro hHeld2
        clear hHeld
        have hHeld := hHeld2
        clear hHeld2
        try simp only [Act.put, List.setIfInBounds_toArray, List.set_cons_zero, List.set_cons_succ]
        refine take_at (i := 10) 34 (v := ?_) rfl rfl (by kernel_rfl) (by kernel_rfl) (by kernel_rfl) (fun _ _ _ h => h) (by rfl) ?_ hHeld ?_
        rotate_left
        · (intro w hSw; (try dsimp only at hSw); go_simp; try with_reducible rfl)
        simp only [Act.put, List.setIfInBounds_toArray, List.set_cons_zero, List.set_cons_succ]
        refine take_at (i := 11) 35 (v := ?_) rfl rfl (by kernel_rfl) (by kernel_rfl) (by kernel_rfl) (fun _ _ _ h => h) (by rfl) ?_ hHeld ?_
        rotate_left
        · (intro w hSw; (try dsimp only at hSw); go_simp; try with_reducible rfl)
        simp only [Act.put, List.setIfInBounds_toArray, List.set_cons_zero, List.set_cons_succ]
        refine run_at (i := 12) rfl (by kernel_rfl) (by rfl) (fun K hK => ?_)
        simp only [List.getElem_toArray, List.getElem_cons_zero, List.getElem_cons_succ]
        go_simp
        go_wp2_with fail
        refine hK.out _ _ (by exact trivial) ?_
        clear hK K
        intro hHeld2
        clear hHeld
        have hHeld := hHeld2
        clear hHeld2
        try simp only [Act.put, List.setIfInBounds_toArray, List.set_cons_zero, List.set_cons_succ]
        refine wpAnyH_done (by kernel_rfl) ?_ _
        refine NoPanic.normal ?_
      rotate_left 1
      refine AllReadyH.cons (o := _) rfl (fun K hK => ?_) AllReadyH.nil
      focus
        rw [if_pos (by rfl)]
        simp only [List.getElem_toArray, List.getElem_cons_zero, List.getElem_cons_succ]
        go_simp
        go_wp2_with fail
        refine hK.out _ _ (by exact trivial) ?_
        clear hK K
        intro hHeld2
        clear hHeld
        have hHeld := hHeld2
        clear hHeld2
        try simp only [Act.put, List.setIfInBounds_toArray, List.set_cons_zero, List.set_cons_succ]
        refine val_at (i := 4) 28 (v := ?_) rfl rfl (by kernel_rfl) (by rfl) ?_ ?_ ?_
        rotate_left
        · (go_simp; try with_reducible rfl)
        · (exact trivial)
        intro hHeld2
        clear hHeld
        have hHeld := hHeld2
        clear hHeld2
        simp only [Act.put, List.setIfInBounds_toArray, List.set_cons_zero, List.set_cons_succ]
        refine run_at (i := 9) rfl (by kernel_rfl) (by rfl) (fun K hK => ?_)
        simp only [List.getElem_toArray, List.getElem_cons_zero, List.getElem_cons_succ]
        first | (refine wpo_tlCopy _ _ 1 40 rfl rfl HT3.out a (by decide) (Nat.le_refl _) (.slice (some ⟨w3.heap.size, 0, none⟩) 0 0) HE3.out (0, a) (.slice ao L cp) (bv l) HS3.out (bv_one l) (by have := HLB.out; have := HLL.out; omega) (by rfl) (by rfl) ?_; intro v5 w5 ht5 hg5; obtain ⟨a5, c5, rfl⟩ := ht5.slv (x := (1, a)) (updF_same _ _ _) HLB.out; have HT5 : Hid _ := ht5; have HV5 : Hid ((updF F3 (1, a) ⟨ety 1, .slice a5 L c5, bv l⟩ (4, 1)).v = .slice a1 a cap1) := (by rw [updF_other _ (by simp)]; exact HV3.out); have hc5 := ht5.cell1 1 (by decide) HV5.out; have hc5A := fun (ob : Obj) => cell_ofB1 hc5 (al (Below.refl w5.heap.size w5) ob); clear ht5 hg5) | (refine wpo_tlList (N' := N4 (a + 1) (a + 1) b b) _ _ 1 30 rfl rfl (HT5.out.below (al (Below.refl _ _) _)) (by decide) (.slice a1 a cap1) HV5.out w5.heap.size 1 1 [.slice a5 L c5] (by rfl) (by rfl) rfl (by decide) (one_cell (heap_alloc_new w5 _)) (one_us (F := updF F3 (1, a) ⟨ety 1, .slice a5 L c5, bv l⟩) (k := 1) (n := a) (by rw [updF_same])) (a + 1) rfl (by omega) (n4_1 a b) (cnt_c HT5.out.n (by rw [updF_same, updF_other _ (by simp), HS3.out])) ?_; intro G6 cap6 w6 hk6 hz6 ht6; obtain ⟨xs6, ht6⟩ := ht6; have HT6 : Hid _ := ht6; clear ht6)
        refine hK.out _ _ (by exact trivial) ?_
        clear hK K
        intro hHeld2
        clear hHeld
        have hHeld := hHeld2
        clear hHeld2
        try simp only [Act.put, List.setIfInBounds_toArray, List.set_cons_zero, List.set_cons_succ]
        refine take_at (i := 10) 34 (v := ?_) rfl rfl (by kernel_rfl) (by kernel_rfl) (by kernel_rfl) (fun _ _ _ h => h) (by rfl) ?_ hHeld ?_
        rotate_left
        · (intro w hSw; (try dsimp only at hSw); go_simp; try with_reducible rfl)
        simp only [Act.put, List.setIfInBounds_toArray, List.set_cons_zero, List.set_cons_succ]
        refine take_at (i := 11) 35 (v := ?_) rfl rfl (by kernel_rfl) (by kernel_rfl) (by kernel_rfl) (fun _ _ _ h => h) (by rfl) ?_ hHeld ?_
        rotate_left
        · (intro w hSw; (try dsimp only at hSw); go_simp; try with_reducible rfl)
        simp only [Act.put, List.setIfInBounds_toArray, List.set_cons_zero, List.set_cons_succ]
        refine run_at (i := 12) rfl (by kernel_rfl) (by rfl) (fun K hK => ?_)
        simp only [List.getElem_toArray, List.getElem_cons_zero, List.getElem_cons_succ]
        go_simp
        go_wp2_with fail
        refine hK.out _ _ (by exact trivial) ?_
        clear hK K
        intro hHeld2
        clear hHeld
        have hHeld := hHeld2
        clear hHeld2
        try simp only [Act.put, List.setIfInBounds_toArray, List.set_cons_zero, List.set_cons_succ]
        refine wpAnyH_done (by kernel_rfl) ?_ _
        refine NoPanic.normal ?_
  all_goals
    go_wp2
    refine bodyPost_end (v := .tuple #[]) (by simp [results, Try.results7, go_sem]) rfl ?_
    exact ⟨rfl, _, HT6.out⟩
end Go.Proofs.Ytekfolppahnpoaa
