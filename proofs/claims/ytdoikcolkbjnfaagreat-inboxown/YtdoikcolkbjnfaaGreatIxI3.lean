import Derived.Test.YtdoikcolkbjnfaaGreatIxI2
namespace Go.Proofs.YtdoikcolkbjnfaaGreat
set_option linter.unusedVariables false
set_option linter.unusedSimpArgs false
open Go.RowKit Go.Maps
section
variable {w w' : World} {p o m T : Nat} {E : List (Ss × (Int × Nat))}
set_option maxRecDepth 20000
set_option maxHeartbeats 1600000
theorem putI_in (ty : TypeId) (C : Array Value) (hp : w.heap[p]? = some (.cells C ty (0, 0))) (most : Nat) (c0 : C[o]? = some (.int .i64 (most : Int))) (c1 : C[o + 1]? = some (.int .u64 (T : Int))) (c2 : C[o + 2]? = some (.map (some m)))
    (h : RowM w m T (mp fI E)) {s : Ss} (hs : inS s) (c : Int) {c' : Int} {t : Nat} (hl : lk E s = some (c', t)) (hTb : T < 9223372036854775807) (hL : E.length ≤ 8192) :
    Calls Tryz.prog 37 #[.pointer (some ⟨p, o, none⟩), sv s, (.int .i64 c)] w fun e w' => e = .returned (.tuple #[]) ∧ RowM w' m (T + 1) (mp fI (rm E s ++ [(s, (c, T + 1))])) ∧ w'.heap[p]? = some (.cells (C.setIfInBounds (o + 1) (.int .u64 ((T + 1 : Nat) : Int))) ty (0, 0)) ∧ Chg (fun b => b = p ∨ b = m) w w' := by
  have hlk : ∀ u, Below w.heap.size w u → (Instr.lookup tMI (.map (some m)) (.agg #[.int .u64 (s.1 : Int), .int .u64 (s.2 : Int)]) true).run Tryz.prog u = .ok (.tuple #[.agg #[(fun c : Int => ((.int .i64 c) : Value)) c', .int .u64 (t : Int)], .bool true]) u := fun u hu => (h.below hu).look_in undI zerI hs (lkI hl)
  have hpl : p < w.heap.size := (Array.getElem?_eq_some_iff.1 hp).1
  have HCU : Hid (∀ u : World, u.heap[p]? = some (.cells C ty (0, 0)) → u.cell? ⟨p, o, none⟩ = some (.int .i64 (most : Int)) ∧ u.cell? ⟨p, o + 1, none⟩ = some (.int .u64 (T : Int)) ∧ u.cell? ⟨p, o + 2, none⟩ = some (.map (some m)) ∧ u.frozen? ⟨p, o + 1, none⟩ = false) := fun u h9 =>
    ⟨by rw [cell_of_row _ _ _ _ _ _ h9]; exact c0, by rw [cell_of_row _ _ _ _ _ _ h9]; exact c1, by rw [cell_of_row _ _ _ _ _ _ h9]; exact c2, by simp [World.frozen?, h9]⟩
  have hcu : ∀ u, Below w.heap.size w u → u.cell? ⟨p, o, none⟩ = some (.int .i64 (most : Int)) ∧ u.cell? ⟨p, o + 1, none⟩ = some (.int .u64 (T : Int)) ∧ u.cell? ⟨p, o + 2, none⟩ = some (.map (some m)) ∧ u.frozen? ⟨p, o + 1, none⟩ = false := fun u hu => HCU.out u ((hu.block p hpl).trans hp)
  have hlen : ∀ u, Below w.heap.size w u → ∀ ty, (Builtin.len_ #[tMI] ty #[.map (some m)]).run Tryz.prog u = .ok (.int .i64 (E.length : Int)) u := fun u hu ty => by
    have h9 := (h.below hu).len undI ty
    rw [len_mp] at h9
    exact h9
  have hkb := keyBox w s
  have hpm : p ≠ m := fun e => by
    obtain ⟨es, cl, h9⟩ := h.at_
    rw [← e, hp] at h9
    cases h9
  have HPM : Hid _ := hpm
  have HR : Hid _ := h
  have HP : Hid _ := hp
  have HC1 : Hid (o + 1 < C.size ∧ C[o + 2]? = some (.map (some m))) := ⟨(Array.getElem?_eq_some_iff.1 c1).1, c2⟩
  have hTw : IntKind.u64.wrap ((T : Int) + 1) = ((T + 1 : Nat) : Int) := by rw [IntKind.wrap_u64]; omega
  clear h hp c0 c1 c2 hpm
  go_enter Tryz.func37, Tryz.ntmps37
  go_wp2
  refine wp_region_noPanic ?_
  refine wp_region_held_drew (S := (fun u => Below (w.heap.size + 1) (w.alloc (.cells #[.int .u64 (s.1 : Int), .int .u64 (s.2 : Int)] tSs)) u)) (by kernel_rfl) (by first | exact Below.refl _ _ | exact (Below.refl _ _).drew | assumption | exact Below.drew (Below.alloc (Below.refl _ _) (by simp) _) | exact Below.drew (Below.setCell (by assumption) (by simp) _)) (fun hHeld => ?_)
  refine tz (i := 0) 9 rfl rfl hHeld ?_
  simp only [pS]
  refine tz (i := 1) 10 rfl rfl hHeld ?_
  simp only [pS]
  refine tz (i := 2) 11 rfl rfl hHeld ?_
  simp only [pS]
  refine tz (i := 3) 12 rfl rfl hHeld ?_
  simp only [pS]
  refine tz (i := 4) 13 rfl rfl hHeld ?_
  simp only [pS]
  refine tz (i := 5) 14 rfl rfl hHeld ?_
  simp only [pS]
  refine tz (i := 6) 8 rfl rfl hHeld ?_
  simp only [pS]
  refine tz (i := 7) 15 rfl rfl hHeld ?_
  simp only [pS]
  refine tz (i := 8) 16 rfl rfl hHeld ?_
  simp only [pS]
  refine run_at (i := 9) rfl (by kernel_rfl) (by rfl) (fun K hK => ?_)
  simp only [List.getElem_toArray, List.getElem_cons_zero, List.getElem_cons_succ]
  go_simp
  go_wp2_with fail
  refine hK.out _ _ (by first | exact Below.refl _ _ | exact (Below.refl _ _).drew | assumption | exact Below.drew (Below.alloc (Below.refl _ _) (by simp) _) | exact Below.drew (Below.setCell (by assumption) (by simp) _)) ?_
  clear hK K
  intro hHeld2
  clear hHeld
  have hHeld := hHeld2
  clear hHeld2
  try simp only [pS]
  refine run_at (i := 10) rfl (by kernel_rfl) (by rfl) (fun K hK => ?_)
  simp only [List.getElem_toArray, List.getElem_cons_zero, List.getElem_cons_succ]
  go_simp
  go_wp2_with fail
  refine hK.out _ _ (by first | exact Below.refl _ _ | exact (Below.refl _ _).drew | assumption | exact Below.drew (Below.alloc (Below.refl _ _) (by simp) _) | exact Below.drew (Below.setCell (by assumption) (by simp) _)) ?_
  clear hK K
  intro hHeld2
  clear hHeld
  have hHeld := hHeld2
  clear hHeld2
  try simp only [pS]
  refine tz (i := 11) 7 rfl rfl hHeld ?_
  simp only [pS]
  refine wpAnyH_done (by kernel_rfl) ?_ _
  refine NoPanic.normal ?_
  go_wp2
  refine wp_region_noPanic ?_
  refine wp_region_held_drew (S := (fun u => Below (w.heap.size + 1) (w.alloc (.cells #[.int .u64 (s.1 : Int), .int .u64 (s.2 : Int)] tSs)) u)) (by kernel_rfl) (by first | assumption | exact (Below.alloc (Below.refl _ _) (by simp) _).drew.drew) (fun hHeld => ?_)
  refine tz (i := 0) 17 rfl rfl hHeld ?_
  simp only [pS]
  refine tz (i := 1) 18 rfl rfl hHeld ?_
  simp only [pS]
  refine tz (i := 2) 19 rfl rfl hHeld ?_
  simp only [pS]
  refine skip_at (i := 3) 20 rfl rfl (by kernel_rfl) (by kernel_rfl) (by kernel_rfl) (fun _ _ _ h => h) (by rfl) hHeld ?_
  simp only [pS]
  refine skip_at (i := 4) 21 rfl rfl (by kernel_rfl) (by kernel_rfl) (by kernel_rfl) (fun _ _ _ h => h) (by rfl) hHeld ?_
  simp only [pS]
  refine skip_at (i := 5) 22 rfl rfl (by kernel_rfl) (by kernel_rfl) (by kernel_rfl) (fun _ _ _ h => h) (by rfl) hHeld ?_
  simp only [pS]
  refine skip_at (i := 6) 23 rfl rfl (by kernel_rfl) (by kernel_rfl) (by kernel_rfl) (fun _ _ _ h => h) (by rfl) hHeld ?_
  simp only [pS]
  refine skip_at (i := 7) 24 rfl rfl (by kernel_rfl) (by kernel_rfl) (by kernel_rfl) (fun _ _ _ h => h) (by rfl) hHeld ?_
  simp only [pS]
  refine skip_at (i := 8) 25 rfl rfl (by kernel_rfl) (by kernel_rfl) (by kernel_rfl) (fun _ _ _ h => h) (by rfl) hHeld ?_
  simp only [pS]
  refine skip_at (i := 9) 26 rfl rfl (by kernel_rfl) (by kernel_rfl) (by kernel_rfl) (fun _ _ _ h => h) (by rfl) hHeld ?_
  simp only [pS]
  refine skip_at (i := 10) 27 rfl rfl (by kernel_rfl) (by kernel_rfl) (by kernel_rfl) (fun _ _ _ h => h) (by rfl) hHeld ?_
  simp only [pS]
  refine skip_at (i := 11) 28 rfl rfl (by kernel_rfl) (by kernel_rfl) (by kernel_rfl) (fun _ _ _ h => h) (by rfl) hHeld ?_
  simp only [pS]
  refine skip_at (i := 12) 29 rfl rfl (by kernel_rfl) (by kernel_rfl) (by kernel_rfl) (fun _ _ _ h => h) (by rfl) hHeld ?_
  simp only [pS]
  refine tz (i := 13) 30 rfl rfl hHeld ?_
  simp only [pS]
  refine wpAnyH_done (by kernel_rfl) ?_ _
  refine NoPanic.normal ?_
  go_wp2
  obtain ⟨w5, hw5⟩ : ∃ w5, w5 = (((w.setCell ⟨p, o + 1, none⟩ (.int .u64 ((T : Int) + 1))).alloc (.cells #[.int .u64 (s.1 : Int), .int .u64 (s.2 : Int)] tSs)).alloc (.cells #[(fun c : Int => ((.int .i64 c) : Value)) c', .int .u64 (t : Int)] tEI)).drew.drew := ⟨_, rfl⟩
  rw [← hw5]
  have hpm := HPM.out
  have hT0 : (T : Int) + 1 = ((T + 1 : Nat) : Int) := by omega
  have e5 : ∀ b, b < w.heap.size → b ≠ p → w5.heap[b]? = w.heap[b]? := fun b hb hn => by
    rw [hw5]
    show (((w.setCell _ _).alloc _).alloc _).heap[b]? = _
    rw [Below.heap_alloc _ _ _ (by simp; omega), Below.heap_alloc _ _ _ (by simp; omega), Below.heap_setCell _ _ _ _ hn]
  have hp5 : w5.heap[p]? = some (.cells (C.setIfInBounds (o + 1) (.int .u64 ((T + 1 : Nat) : Int))) ty (0, 0)) := by
    rw [hw5, hT0]
    show (((w.setCell _ _).alloc _).alloc _).heap[p]? = _
    rw [Below.heap_alloc _ _ _ (by simp; omega), Below.heap_alloc _ _ _ (by simp; omega)]
    exact heap_setCell_same w p (o + 1) C ty _ HP.out
  have hk5 : w5.heap[w.heap.size]? = some (.cells #[.int .u64 (s.1 : Int), .int .u64 (s.2 : Int)] tSs (0, 0)) := by
    rw [hw5]
    show (((w.setCell _ _).alloc _).alloc _).heap[_]? = _
    rw [Below.heap_alloc _ _ _ (by simp)]
    have h9 := heap_alloc_new (w.setCell ⟨p, o + 1, none⟩ (.int .u64 ((T : Int) + 1))) (.cells #[.int .u64 (s.1 : Int), .int .u64 (s.2 : Int)] tSs)
    rw [World.size_setCell] at h9
    exact h9
  have hr5 : RowM w5 m (T + 1) (mp fI E) := (RowM.kept HR.out (e5 m (RowM.lt HR.out) (fun e => hpm e.symm))).more (Nat.le_succ T)
  have hch5 : Chg (fun b => b = p ∨ b = m) w w5 := ⟨by rw [hw5]; rfl, by rw [hw5]; rfl, by rw [hw5]; rfl, by rw [hw5]; show _ ≤ (((w.setCell _ _).alloc _).alloc _).heap.size; simp; omega, fun b hb hn => e5 b hb (fun e => hn (.inl e))⟩
  clear hw5 e5 hT0
  have HS5 : Hid (∀ u : World, u.heap[p]? = w5.heap[p]? → u.heap[w.heap.size]? = w5.heap[w.heap.size]? → u.heap[m]? = u.heap[m]? → u.cell? ⟨p, o + 2, none⟩ = some (.map (some m)) ∧ u.cell? ⟨p, o + 1, none⟩ = some (.int .u64 ((T + 1 : Nat) : Int)) ∧ u.cell? ⟨w.heap.size, 0, none⟩ = some (.int .u64 (s.1 : Int)) ∧ u.cell? ⟨w.heap.size, 1, none⟩ = some (.int .u64 (s.2 : Int))) := fun u e1 e2 _ => by
    have h1 := e1.trans hp5
    have h2 := e2.trans hk5
    refine ⟨?_, ?_, ?_, ?_⟩
    · rw [cell_of_row _ _ _ _ _ _ h1, Array.getElem?_setIfInBounds_ne (by omega)]; exact HC1.out.2
    · rw [cell_of_row _ _ _ _ _ _ h1, Array.getElem?_setIfInBounds_self_of_lt HC1.out.1]
    · rw [cell_of_row _ _ _ _ _ _ h2]; rfl
    · rw [cell_of_row _ _ _ _ _ _ h2]; rfl
  have HR5 : Hid _ := hr5
  have HP5 : Hid _ := hp5
  have HK5 : Hid _ := hk5
  have HCH5 : Hid _ := hch5
  have hT1 : (T : Int) + 1 = ((T + 1 : Nat) : Int) := by omega
  rw [hT1]
  have HT1 : Hid _ := hT1
  clear hr5 hp5 hk5 hch5 hcu hlk hlen hkb hT1 hTw
  have HL5 : Hid ((mp fI (E)).length ≤ 8192) := by unfold Hid; rw [len_mp]; exact hL
  have HR5L : Hid (∀ x, x ∈ mp fI (E) → x.2.2 ≤ T) := fun x hx => (RowM.le HR.out x hx).2
  refine wp_region_noPanic ?_
  refine wp_region_held_drew (S := (fun u => u.cell? ⟨p, o + 2, none⟩ = some (.map (some m)) ∧ u.cell? ⟨p, o + 1, none⟩ = some (.int .u64 ((T + 1 : Nat) : Int)) ∧ u.cell? ⟨w.heap.size, 0, none⟩ = some (.int .u64 (s.1 : Int)) ∧ u.cell? ⟨w.heap.size, 1, none⟩ = some (.int .u64 (s.2 : Int)))) (by kernel_rfl) (by first | exact HS5.out w5 rfl rfl rfl | exact HS6.out | assumption) (fun hHeld => ?_)
  refine tz (i := 0) 44 rfl rfl hHeld ?_
  simp only [pS]
  refine tz (i := 1) 45 rfl rfl hHeld ?_
  simp only [pS]
  refine tz (i := 2) 46 rfl rfl hHeld ?_
  simp only [pS]
  refine tz (i := 3) 47 rfl rfl hHeld ?_
  simp only [pS]
  refine tz (i := 4) 48 rfl rfl hHeld ?_
  simp only [pS]
  refine tz (i := 5) 49 rfl rfl hHeld ?_
  simp only [pS]
  refine tz (i := 6) 50 rfl rfl hHeld ?_
  simp only [pS]
  refine tz (i := 7) 51 rfl rfl hHeld ?_
  simp only [pS]
  refine tz (i := 8) 52 rfl rfl hHeld ?_
  simp only [pS]
  refine tz (i := 9) 53 rfl rfl hHeld ?_
  simp only [pS]
  refine tz (i := 10) 54 rfl rfl hHeld ?_
  simp only [pS]
  refine run_at (i := 11) rfl (by kernel_rfl) (by rfl) (fun K hK => ?_)
  simp only [List.getElem_toArray, List.getElem_cons_zero, List.getElem_cons_succ]
  (refine wpo_upd undI _ _ _ rfl (RowM.kept (w' := w5.drew) HR5.out rfl) hs _ (T + 1) (by rfl) (by rfl) (by first | rfl | (show (Value.agg _) = _; simp)) (by omega) (fun x hx => by have := (HR5L.out x hx); omega) (Nat.le_refl _) HL5.out ?_; intro w6 hr6 hg6; have HS6 : Hid (w6.cell? ⟨p, o + 2, none⟩ = some (.map (some m)) ∧ w6.cell? ⟨p, o + 1, none⟩ = some (.int .u64 ((T + 1 : Nat) : Int)) ∧ w6.cell? ⟨w.heap.size, 0, none⟩ = some (.int .u64 (s.1 : Int)) ∧ w6.cell? ⟨w.heap.size, 1, none⟩ = some (.int .u64 (s.2 : Int))) := HS5.out w6 (hg6.block p (Array.getElem?_eq_some_iff.1 HP5.out).1 (fun e => HPM.out (Option.some.inj e))) (hg6.block w.heap.size (Array.getElem?_eq_some_iff.1 HK5.out).1 (fun e => by have := Option.some.inj e; have := RowM.lt HR.out; omega)) rfl; have HF6 : Hid (RowM w6 m (T + 1) (mp fI (rm E s ++ [(s, (c, T + 1))])) ∧ w6.heap[p]? = some (.cells (C.setIfInBounds (o + 1) (.int .u64 ((T + 1 : Nat) : Int))) ty (0, 0)) ∧ Chg (fun b => b = p ∨ b = m) w w6) := And.intro ((by rw [show mp fI (rm E s ++ [(s, (c, T + 1))]) = rm (mp fI E) s ++ [(s, fI (c, T + 1))] by simp [mp, rm, List.filter_map, Function.comp_def]]; exact hr6)) (And.intro ((hg6.block p (Array.getElem?_eq_some_iff.1 HP5.out).1 (fun e => HPM.out (Option.some.inj e))).trans HP5.out) ((Chg.drew HCH5.out).trans (Chg.of_grown hg6 (F := fun b => b = p ∨ b = m) (fun b e => .inr (Option.some.inj e).symm)) (fun b hb => .inl hb))); clear hr6 hg6)
  refine hK.out _ _ (by first | exact HS5.out w5 rfl rfl rfl | exact HS6.out | assumption) ?_
  clear hK K
  intro hHeld2
  clear hHeld
  have hHeld := hHeld2
  clear hHeld2
  try simp only [pS]
  refine wpAnyH_done (by kernel_rfl) ?_ _
  refine NoPanic.normal ?_
  go_end0
  exact ⟨rfl, HF6.out⟩
theorem putI_new (ty : TypeId) (C : Array Value) (hp : w.heap[p]? = some (.cells C ty (0, 0))) (most : Nat) (c0 : C[o]? = some (.int .i64 (most : Int))) (c1 : C[o + 1]? = some (.int .u64 (T : Int))) (c2 : C[o + 2]? = some (.map (some m)))
    (h : RowM w m T (mp fI E)) {s : Ss} (hs : inS s) (c : Int) (hl : lk E s = none) (hm : E.length < most) (hTb : T < 9223372036854775807) (hL : E.length ≤ 8192) :
    Calls Tryz.prog 37 #[.pointer (some ⟨p, o, none⟩), sv s, (.int .i64 c)] w fun e w' => e = .returned (.tuple #[]) ∧ RowM w' m (T + 1) (mp fI (rm E s ++ [(s, (c, T + 1))])) ∧ w'.heap[p]? = some (.cells (C.setIfInBounds (o + 1) (.int .u64 ((T + 1 : Nat) : Int))) ty (0, 0)) ∧ Chg (fun b => b = p ∨ b = m) w w' := by
  have hlk : ∀ u, Below w.heap.size w u → (Instr.lookup tMI (.map (some m)) (.agg #[.int .u64 (s.1 : Int), .int .u64 (s.2 : Int)]) true).run Tryz.prog u = .ok (.tuple #[.agg #[(.int .i64 0), .int .u64 0], .bool false]) u := fun u hu => (h.below hu).look_no undI zerI hs (lkIn hl)
  have hpl : p < w.heap.size := (Array.getElem?_eq_some_iff.1 hp).1
  have HCU : Hid (∀ u : World, u.heap[p]? = some (.cells C ty (0, 0)) → u.cell? ⟨p, o, none⟩ = some (.int .i64 (most : Int)) ∧ u.cell? ⟨p, o + 1, none⟩ = some (.int .u64 (T : Int)) ∧ u.cell? ⟨p, o + 2, none⟩ = some (.map (some m)) ∧ u.frozen? ⟨p, o + 1, none⟩ = false) := fun u h9 =>
    ⟨by rw [cell_of_row _ _ _ _ _ _ h9]; exact c0, by rw [cell_of_row _ _ _ _ _ _ h9]; exact c1, by rw [cell_of_row _ _ _ _ _ _ h9]; exact c2, by simp [World.frozen?, h9]⟩
  have hcu : ∀ u, Below w.heap.size w u → u.cell? ⟨p, o, none⟩ = some (.int .i64 (most : Int)) ∧ u.cell? ⟨p, o + 1, none⟩ = some (.int .u64 (T : Int)) ∧ u.cell? ⟨p, o + 2, none⟩ = some (.map (some m)) ∧ u.frozen? ⟨p, o + 1, none⟩ = false := fun u hu => HCU.out u ((hu.block p hpl).trans hp)
  have hlen : ∀ u, Below w.heap.size w u → ∀ ty, (Builtin.len_ #[tMI] ty #[.map (some m)]).run Tryz.prog u = .ok (.int .i64 (E.length : Int)) u := fun u hu ty => by
    have h9 := (h.below hu).len undI ty
    rw [len_mp] at h9
    exact h9
  have hkb := keyBox w s
  have hpm : p ≠ m := fun e => by
    obtain ⟨es, cl, h9⟩ := h.at_
    rw [← e, hp] at h9
    cases h9
  have HPM : Hid _ := hpm
  have HR : Hid _ := h
  have HP : Hid _ := hp
  have HC1 : Hid (o + 1 < C.size ∧ C[o + 2]? = some (.map (some m))) := ⟨(Array.getElem?_eq_some_iff.1 c1).1, c2⟩
  have hTw : IntKind.u64.wrap ((T : Int) + 1) = ((T + 1 : Nat) : Int) := by rw [IntKind.wrap_u64]; omega
  have hge : ¬ (most : Int) ≤ (E.length : Int) := by omega
  clear h hp c0 c1 c2 hpm
  go_enter Tryz.func37, Tryz.ntmps37
  go_wp2
  refine wp_region_noPanic ?_
  refine wp_region_held_drew (S := (fun u => Below (w.heap.size + 1) (w.alloc (.cells #[.int .u64 (s.1 : Int), .int .u64 (s.2 : Int)] tSs)) u)) (by kernel_rfl) (by first | exact Below.refl _ _ | exact (Below.refl _ _).drew | assumption | exact Below.drew (Below.alloc (Below.refl _ _) (by simp) _) | exact Below.drew (Below.setCell (by assumption) (by simp) _)) (fun hHeld => ?_)
  refine tz (i := 0) 9 rfl rfl hHeld ?_
  simp only [pS]
  refine tz (i := 1) 10 rfl rfl hHeld ?_
  simp only [pS]
  refine tz (i := 2) 11 rfl rfl hHeld ?_
  simp only [pS]
  refine tz (i := 3) 12 rfl rfl hHeld ?_
  simp only [pS]
  refine tz (i := 4) 13 rfl rfl hHeld ?_
  simp only [pS]
  refine tz (i := 5) 14 rfl rfl hHeld ?_
  simp only [pS]
  refine tz (i := 6) 8 rfl rfl hHeld ?_
  simp only [pS]
  refine tz (i := 7) 15 rfl rfl hHeld ?_
  simp only [pS]
  refine tz (i := 8) 16 rfl rfl hHeld ?_
  simp only [pS]
  refine run_at (i := 9) rfl (by kernel_rfl) (by rfl) (fun K hK => ?_)
  simp only [List.getElem_toArray, List.getElem_cons_zero, List.getElem_cons_succ]
  go_simp
  go_wp2_with fail
  refine hK.out _ _ (by first | exact Below.refl _ _ | exact (Below.refl _ _).drew | assumption | exact Below.drew (Below.alloc (Below.refl _ _) (by simp) _) | exact Below.drew (Below.setCell (by assumption) (by simp) _)) ?_
  clear hK K
  intro hHeld2
  clear hHeld
  have hHeld := hHeld2
  clear hHeld2
  try simp only [pS]
  refine run_at (i := 10) rfl (by kernel_rfl) (by rfl) (fun K hK => ?_)
  simp only [List.getElem_toArray, List.getElem_cons_zero, List.getElem_cons_succ]
  go_simp
  go_wp2_with fail
  refine hK.out _ _ (by first | exact Below.refl _ _ | exact (Below.refl _ _).drew | assumption | exact Below.drew (Below.alloc (Below.refl _ _) (by simp) _) | exact Below.drew (Below.setCell (by assumption) (by simp) _)) ?_
  clear hK K
  intro hHeld2
  clear hHeld
  have hHeld := hHeld2
  clear hHeld2
  try simp only [pS]
  refine tz (i := 11) 7 rfl rfl hHeld ?_
  simp only [pS]
  refine wpAnyH_done (by kernel_rfl) ?_ _
  refine NoPanic.normal ?_
  go_wp2
  refine wp_region_noPanic ?_
  refine wp_region_held_drew (S := (fun u => Below (w.heap.size + 1) (w.alloc (.cells #[.int .u64 (s.1 : Int), .int .u64 (s.2 : Int)] tSs)) u)) (by kernel_rfl) (by first | assumption | exact (Below.alloc (Below.refl _ _) (by simp) _).drew.drew) (fun hHeld => ?_)
  refine tz (i := 0) 17 rfl rfl hHeld ?_
  simp only [pS]
  refine tz (i := 1) 18 rfl rfl hHeld ?_
  simp only [pS]
  refine tz (i := 2) 19 rfl rfl hHeld ?_
  simp only [pS]
  refine tz (i := 3) 20 rfl rfl hHeld ?_
  simp only [pS]
  refine tz (i := 4) 21 rfl rfl hHeld ?_
  simp only [pS]
  refine tz (i := 5) 22 rfl rfl hHeld ?_
  simp only [pS]
  refine tz (i := 6) 23 rfl rfl hHeld ?_
  simp only [pS]
  refine tz (i := 8) 25 rfl rfl hHeld ?_
  simp only [pS]
  refine tz (i := 9) 26 rfl rfl hHeld ?_
  simp only [pS]
  refine tz (i := 10) 27 rfl rfl hHeld ?_
  simp only [pS]
  refine tz (i := 11) 28 rfl rfl hHeld ?_
  simp only [pS]
  refine val_at (i := 7) 24 (v := .int .i64 (E.length : Int)) rfl rfl (by kernel_rfl) (by rfl) ?_ ?_ ?_
  · (go_simp; try with_reducible rfl)
  · (first | assumption | exact (Below.alloc (Below.refl _ _) (by simp) _).drew.drew)
  intro hHeld2
  clear hHeld
  have hHeld := hHeld2
  clear hHeld2
  simp only [pS]
  refine tz (i := 12) 29 rfl rfl hHeld ?_
  simp only [pS]
  refine tz (i := 13) 30 rfl rfl hHeld ?_
  simp only [pS]
  refine wpAnyH_done (by kernel_rfl) ?_ _
  refine NoPanic.normal ?_
  go_wp2
  obtain ⟨w5, hw5⟩ : ∃ w5, w5 = (((w.setCell ⟨p, o + 1, none⟩ (.int .u64 ((T : Int) + 1))).alloc (.cells #[.int .u64 (s.1 : Int), .int .u64 (s.2 : Int)] tSs)).alloc (.cells #[(.int .i64 0), .int .u64 0] tEI)).drew.drew := ⟨_, rfl⟩
  rw [← hw5]
  have hpm := HPM.out
  have hT0 : (T : Int) + 1 = ((T + 1 : Nat) : Int) := by omega
  have e5 : ∀ b, b < w.heap.size → b ≠ p → w5.heap[b]? = w.heap[b]? := fun b hb hn => by
    rw [hw5]
    show (((w.setCell _ _).alloc _).alloc _).heap[b]? = _
    rw [Below.heap_alloc _ _ _ (by simp; omega), Below.heap_alloc _ _ _ (by simp; omega), Below.heap_setCell _ _ _ _ hn]
  have hp5 : w5.heap[p]? = some (.cells (C.setIfInBounds (o + 1) (.int .u64 ((T + 1 : Nat) : Int))) ty (0, 0)) := by
    rw [hw5, hT0]
    show (((w.setCell _ _).alloc _).alloc _).heap[p]? = _
    rw [Below.heap_alloc _ _ _ (by simp; omega), Below.heap_alloc _ _ _ (by simp; omega)]
    exact heap_setCell_same w p (o + 1) C ty _ HP.out
  have hk5 : w5.heap[w.heap.size]? = some (.cells #[.int .u64 (s.1 : Int), .int .u64 (s.2 : Int)] tSs (0, 0)) := by
    rw [hw5]
    show (((w.setCell _ _).alloc _).alloc _).heap[_]? = _
    rw [Below.heap_alloc _ _ _ (by simp)]
    have h9 := heap_alloc_new (w.setCell ⟨p, o + 1, none⟩ (.int .u64 ((T : Int) + 1))) (.cells #[.int .u64 (s.1 : Int), .int .u64 (s.2 : Int)] tSs)
    rw [World.size_setCell] at h9
    exact h9
  have hr5 : RowM w5 m (T + 1) (mp fI E) := (RowM.kept HR.out (e5 m (RowM.lt HR.out) (fun e => hpm e.symm))).more (Nat.le_succ T)
  have hch5 : Chg (fun b => b = p ∨ b = m) w w5 := ⟨by rw [hw5]; rfl, by rw [hw5]; rfl, by rw [hw5]; rfl, by rw [hw5]; show _ ≤ (((w.setCell _ _).alloc _).alloc _).heap.size; simp; omega, fun b hb hn => e5 b hb (fun e => hn (.inl e))⟩
  clear hw5 e5 hT0
  have HS5 : Hid (∀ u : World, u.heap[p]? = w5.heap[p]? → u.heap[w.heap.size]? = w5.heap[w.heap.size]? → u.heap[m]? = u.heap[m]? → u.cell? ⟨p, o + 2, none⟩ = some (.map (some m)) ∧ u.cell? ⟨p, o + 1, none⟩ = some (.int .u64 ((T + 1 : Nat) : Int)) ∧ u.cell? ⟨w.heap.size, 0, none⟩ = some (.int .u64 (s.1 : Int)) ∧ u.cell? ⟨w.heap.size, 1, none⟩ = some (.int .u64 (s.2 : Int))) := fun u e1 e2 _ => by
    have h1 := e1.trans hp5
    have h2 := e2.trans hk5
    refine ⟨?_, ?_, ?_, ?_⟩
    · rw [cell_of_row _ _ _ _ _ _ h1, Array.getElem?_setIfInBounds_ne (by omega)]; exact HC1.out.2
    · rw [cell_of_row _ _ _ _ _ _ h1, Array.getElem?_setIfInBounds_self_of_lt HC1.out.1]
    · rw [cell_of_row _ _ _ _ _ _ h2]; rfl
    · rw [cell_of_row _ _ _ _ _ _ h2]; rfl
  have HR5 : Hid _ := hr5
  have HP5 : Hid _ := hp5
  have HK5 : Hid _ := hk5
  have HCH5 : Hid _ := hch5
  have hT1 : (T : Int) + 1 = ((T + 1 : Nat) : Int) := by omega
  rw [hT1]
  have HT1 : Hid _ := hT1
  clear hr5 hp5 hk5 hch5 hcu hlk hlen hkb hT1 hTw
  have HL5 : Hid ((mp fI (E)).length ≤ 8192) := by unfold Hid; rw [len_mp]; exact hL
  have HR5L : Hid (∀ x, x ∈ mp fI (E) → x.2.2 ≤ T) := fun x hx => (RowM.le HR.out x hx).2
  refine wp_region_noPanic ?_
  refine wp_region_held_drew (S := (fun u => u.cell? ⟨p, o + 2, none⟩ = some (.map (some m)) ∧ u.cell? ⟨p, o + 1, none⟩ = some (.int .u64 ((T + 1 : Nat) : Int)) ∧ u.cell? ⟨w.heap.size, 0, none⟩ = some (.int .u64 (s.1 : Int)) ∧ u.cell? ⟨w.heap.size, 1, none⟩ = some (.int .u64 (s.2 : Int)))) (by kernel_rfl) (by first | exact HS5.out w5 rfl rfl rfl | exact HS6.out | assumption) (fun hHeld => ?_)
  refine tz (i := 0) 44 rfl rfl hHeld ?_
  simp only [pS]
  refine tz (i := 1) 45 rfl rfl hHeld ?_
  simp only [pS]
  refine tz (i := 2) 46 rfl rfl hHeld ?_
  simp only [pS]
  refine tz (i := 3) 47 rfl rfl hHeld ?_
  simp only [pS]
  refine tz (i := 4) 48 rfl rfl hHeld ?_
  simp only [pS]
  refine tz (i := 5) 49 rfl rfl hHeld ?_
  simp only [pS]
  refine tz (i := 6) 50 rfl rfl hHeld ?_
  simp only [pS]
  refine tz (i := 7) 51 rfl rfl hHeld ?_
  simp only [pS]
  refine tz (i := 8) 52 rfl rfl hHeld ?_
  simp only [pS]
  refine tz (i := 9) 53 rfl rfl hHeld ?_
  simp only [pS]
  refine tz (i := 10) 54 rfl rfl hHeld ?_
  simp only [pS]
  refine run_at (i := 11) rfl (by kernel_rfl) (by rfl) (fun K hK => ?_)
  simp only [List.getElem_toArray, List.getElem_cons_zero, List.getElem_cons_succ]
  (refine wpo_upd undI _ _ _ rfl (RowM.kept (w' := w5.drew) HR5.out rfl) hs _ (T + 1) (by rfl) (by rfl) (by first | rfl | (show (Value.agg _) = _; simp)) (by omega) (fun x hx => by have := (HR5L.out x hx); omega) (Nat.le_refl _) HL5.out ?_; intro w6 hr6 hg6; have HS6 : Hid (w6.cell? ⟨p, o + 2, none⟩ = some (.map (some m)) ∧ w6.cell? ⟨p, o + 1, none⟩ = some (.int .u64 ((T + 1 : Nat) : Int)) ∧ w6.cell? ⟨w.heap.size, 0, none⟩ = some (.int .u64 (s.1 : Int)) ∧ w6.cell? ⟨w.heap.size, 1, none⟩ = some (.int .u64 (s.2 : Int))) := HS5.out w6 (hg6.block p (Array.getElem?_eq_some_iff.1 HP5.out).1 (fun e => HPM.out (Option.some.inj e))) (hg6.block w.heap.size (Array.getElem?_eq_some_iff.1 HK5.out).1 (fun e => by have := Option.some.inj e; have := RowM.lt HR.out; omega)) rfl; have HF6 : Hid (RowM w6 m (T + 1) (mp fI (rm E s ++ [(s, (c, T + 1))])) ∧ w6.heap[p]? = some (.cells (C.setIfInBounds (o + 1) (.int .u64 ((T + 1 : Nat) : Int))) ty (0, 0)) ∧ Chg (fun b => b = p ∨ b = m) w w6) := And.intro ((by rw [show mp fI (rm E s ++ [(s, (c, T + 1))]) = rm (mp fI E) s ++ [(s, fI (c, T + 1))] by simp [mp, rm, List.filter_map, Function.comp_def]]; exact hr6)) (And.intro ((hg6.block p (Array.getElem?_eq_some_iff.1 HP5.out).1 (fun e => HPM.out (Option.some.inj e))).trans HP5.out) ((Chg.drew HCH5.out).trans (Chg.of_grown hg6 (F := fun b => b = p ∨ b = m) (fun b e => .inr (Option.some.inj e).symm)) (fun b hb => .inl hb))); clear hr6 hg6)
  refine hK.out _ _ (by first | exact HS5.out w5 rfl rfl rfl | exact HS6.out | assumption) ?_
  clear hK K
  intro hHeld2
  clear hHeld
  have hHeld := hHeld2
  clear hHeld2
  try simp only [pS]
  refine wpAnyH_done (by kernel_rfl) ?_ _
  refine NoPanic.normal ?_
  go_end0
  exact ⟨rfl, HF6.out⟩
theorem putI_full (ty : TypeId) (C : Array Value) (hp : w.heap[p]? = some (.cells C ty (0, 0))) (most : Nat) (c0 : C[o]? = some (.int .i64 (most : Int))) (c1 : C[o + 1]? = some (.int .u64 (T : Int))) (c2 : C[o + 2]? = some (.map (some m)))
    (h : RowM w m T (mp fI E)) {s : Ss} (hs : inS s) (c : Int) (hl : lk E s = none) (hm : most ≤ E.length) (x : Ss × (Int × Nat)) (r : List (Ss × (Int × Nat))) (hE : E = x :: r) (hTb : T < 9223372036854775807) (hL : E.length ≤ 8192) :
    Calls Tryz.prog 37 #[.pointer (some ⟨p, o, none⟩), sv s, (.int .i64 c)] w fun e w' => e = .returned (.tuple #[]) ∧ RowM w' m (T + 1) (mp fI (r ++ [(s, (c, T + 1))])) ∧ w'.heap[p]? = some (.cells (C.setIfInBounds (o + 1) (.int .u64 ((T + 1 : Nat) : Int))) ty (0, 0)) ∧ Chg (fun b => b = p ∨ b = m) w w' := by
  have hlk : ∀ u, Below w.heap.size w u → (Instr.lookup tMI (.map (some m)) (.agg #[.int .u64 (s.1 : Int), .int .u64 (s.2 : Int)]) true).run Tryz.prog u = .ok (.tuple #[.agg #[(.int .i64 0), .int .u64 0], .bool false]) u := fun u hu => (h.below hu).look_no undI zerI hs (lkIn hl)
  have hpl : p < w.heap.size := (Array.getElem?_eq_some_iff.1 hp).1
  have HCU : Hid (∀ u : World, u.heap[p]? = some (.cells C ty (0, 0)) → u.cell? ⟨p, o, none⟩ = some (.int .i64 (most : Int)) ∧ u.cell? ⟨p, o + 1, none⟩ = some (.int .u64 (T : Int)) ∧ u.cell? ⟨p, o + 2, none⟩ = some (.map (some m)) ∧ u.frozen? ⟨p, o + 1, none⟩ = false) := fun u h9 =>
    ⟨by rw [cell_of_row _ _ _ _ _ _ h9]; exact c0, by rw [cell_of_row _ _ _ _ _ _ h9]; exact c1, by rw [cell_of_row _ _ _ _ _ _ h9]; exact c2, by simp [World.frozen?, h9]⟩
  have hcu : ∀ u, Below w.heap.size w u → u.cell? ⟨p, o, none⟩ = some (.int .i64 (most : Int)) ∧ u.cell? ⟨p, o + 1, none⟩ = some (.int .u64 (T : Int)) ∧ u.cell? ⟨p, o + 2, none⟩ = some (.map (some m)) ∧ u.frozen? ⟨p, o + 1, none⟩ = false := fun u hu => HCU.out u ((hu.block p hpl).trans hp)
  have hlen : ∀ u, Below w.heap.size w u → ∀ ty, (Builtin.len_ #[tMI] ty #[.map (some m)]).run Tryz.prog u = .ok (.int .i64 (E.length : Int)) u := fun u hu ty => by
    have h9 := (h.below hu).len undI ty
    rw [len_mp] at h9
    exact h9
  have hkb := keyBox w s
  have hpm : p ≠ m := fun e => by
    obtain ⟨es, cl, h9⟩ := h.at_
    rw [← e, hp] at h9
    cases h9
  have HPM : Hid _ := hpm
  have HR : Hid _ := h
  have HP : Hid _ := hp
  have HC1 : Hid (o + 1 < C.size ∧ C[o + 2]? = some (.map (some m))) := ⟨(Array.getElem?_eq_some_iff.1 c1).1, c2⟩
  have hTw : IntKind.u64.wrap ((T : Int) + 1) = ((T + 1 : Nat) : Int) := by rw [IntKind.wrap_u64]; omega
  have hge : (most : Int) ≤ (E.length : Int) := by omega
  have HE : Hid _ := hE
  have HXS : Hid (inS x.1) := h.rg x.1 (by rw [ks_mp, hE]; exact mem_ks List.mem_cons_self)
  have HSN : Hid (s ∉ ks r) := fun h9 => (lk_none.1 hl) (by rw [hE]; exact List.mem_cons_of_mem _ h9)
  clear hE
  clear h hp c0 c1 c2 hpm
  go_enter Tryz.func37, Tryz.ntmps37
  go_wp2
  refine wp_region_noPanic ?_
  refine wp_region_held_drew (S := (fun u => Below (w.heap.size + 1) (w.alloc (.cells #[.int .u64 (s.1 : Int), .int .u64 (s.2 : Int)] tSs)) u)) (by kernel_rfl) (by first | exact Below.refl _ _ | exact (Below.refl _ _).drew | assumption | exact Below.drew (Below.alloc (Below.refl _ _) (by simp) _) | exact Below.drew (Below.setCell (by assumption) (by simp) _)) (fun hHeld => ?_)
  refine tz (i := 0) 9 rfl rfl hHeld ?_
  simp only [pS]
  refine tz (i := 1) 10 rfl rfl hHeld ?_
  simp only [pS]
  refine tz (i := 2) 11 rfl rfl hHeld ?_
  simp only [pS]
  refine tz (i := 3) 12 rfl rfl hHeld ?_
  simp only [pS]
  refine tz (i := 4) 13 rfl rfl hHeld ?_
  simp only [pS]
  refine tz (i := 5) 14 rfl rfl hHeld ?_
  simp only [pS]
  refine tz (i := 6) 8 rfl rfl hHeld ?_
  simp only [pS]
  refine tz (i := 7) 15 rfl rfl hHeld ?_
  simp only [pS]
  refine tz (i := 8) 16 rfl rfl hHeld ?_
  simp only [pS]
  refine run_at (i := 9) rfl (by kernel_rfl) (by rfl) (fun K hK => ?_)
  simp only [List.getElem_toArray, List.getElem_cons_zero, List.getElem_cons_succ]
  go_simp
  go_wp2_with fail
  refine hK.out _ _ (by first | exact Below.refl _ _ | exact (Below.refl _ _).drew | assumption | exact Below.drew (Below.alloc (Below.refl _ _) (by simp) _) | exact Below.drew (Below.setCell (by assumption) (by simp) _)) ?_
  clear hK K
  intro hHeld2
  clear hHeld
  have hHeld := hHeld2
  clear hHeld2
  try simp only [pS]
  refine run_at (i := 10) rfl (by kernel_rfl) (by rfl) (fun K hK => ?_)
  simp only [List.getElem_toArray, List.getElem_cons_zero, List.getElem_cons_succ]
  go_simp
  go_wp2_with fail
  refine hK.out _ _ (by first | exact Below.refl _ _ | exact (Below.refl _ _).drew | assumption | exact Below.drew (Below.alloc (Below.refl _ _) (by simp) _) | exact Below.drew (Below.setCell (by assumption) (by simp) _)) ?_
  clear hK K
  intro hHeld2
  clear hHeld
  have hHeld := hHeld2
  clear hHeld2
  try simp only [pS]
  refine tz (i := 11) 7 rfl rfl hHeld ?_
  simp only [pS]
  refine wpAnyH_done (by kernel_rfl) ?_ _
  refine NoPanic.normal ?_
  go_wp2
  refine wp_region_noPanic ?_
  refine wp_region_held_drew (S := (fun u => Below (w.heap.size + 1) (w.alloc (.cells #[.int .u64 (s.1 : Int), .int .u64 (s.2 : Int)] tSs)) u)) (by kernel_rfl) (by first | assumption | exact (Below.alloc (Below.refl _ _) (by simp) _).drew.drew) (fun hHeld => ?_)
  refine tz (i := 0) 17 rfl rfl hHeld ?_
  simp only [pS]
  refine tz (i := 1) 18 rfl rfl hHeld ?_
  simp only [pS]
  refine tz (i := 2) 19 rfl rfl hHeld ?_
  simp only [pS]
  refine tz (i := 3) 20 rfl rfl hHeld ?_
  simp only [pS]
  refine tz (i := 4) 21 rfl rfl hHeld ?_
  simp only [pS]
  refine tz (i := 5) 22 rfl rfl hHeld ?_
  simp only [pS]
  refine tz (i := 6) 23 rfl rfl hHeld ?_
  simp only [pS]
  refine tz (i := 8) 25 rfl rfl hHeld ?_
  simp only [pS]
  refine tz (i := 9) 26 rfl rfl hHeld ?_
  simp only [pS]
  refine tz (i := 10) 27 rfl rfl hHeld ?_
  simp only [pS]
  refine tz (i := 11) 28 rfl rfl hHeld ?_
  simp only [pS]
  refine val_at (i := 7) 24 (v := .int .i64 (E.length : Int)) rfl rfl (by kernel_rfl) (by rfl) ?_ ?_ ?_
  · (go_simp; try with_reducible rfl)
  · (first | assumption | exact (Below.alloc (Below.refl _ _) (by simp) _).drew.drew)
  intro hHeld2
  clear hHeld
  have hHeld := hHeld2
  clear hHeld2
  simp only [pS]
  refine tz (i := 12) 29 rfl rfl hHeld ?_
  simp only [pS]
  refine tz (i := 13) 30 rfl rfl hHeld ?_
  simp only [pS]
  refine wpAnyH_done (by kernel_rfl) ?_ _
  refine NoPanic.normal ?_
  go_wp2
  obtain ⟨w3, hw3⟩ : ∃ w3, w3 = ((w.alloc (.cells #[.int .u64 (s.1 : Int), .int .u64 (s.2 : Int)] tSs)).alloc (.cells #[(.int .i64 0), .int .u64 0] tEI)).drew.drew := ⟨_, rfl⟩
  rw [← hw3]
  have hb3 : Below w.heap.size w w3 := by rw [hw3]; exact (al (al (Below.refl _ _) _) _).drew.drew
  have hk3 : w3.heap[w.heap.size]? = some (.cells #[.int .u64 (s.1 : Int), .int .u64 (s.2 : Int)] tSs (0, 0)) := by
    rw [hw3]
    show ((w.alloc _).alloc _).heap[_]? = _
    rw [Below.heap_alloc _ _ _ (by simp)]
    exact heap_alloc_new w _
  have hp3 := (hb3.block p hpl).trans HP.out
  have hr3 := RowM.below HR.out hb3
  obtain ⟨d0, d1, d2, d3⟩ := HCU.out w3 hp3
  have HOLD : Hid (Calls _ _ _ w3.drew _) := oldI_t (w := w3.drew) (o := o) (p := p) d1 d2 (RowM.kept (w' := w3.drew) hr3 rfl) x r HE.out hTb
  have HB3 : Hid _ := hb3
  have HK3 : Hid _ := hk3
  have HP3 : Hid _ := hp3
  have HR3 : Hid _ := hr3
  clear hw3 hb3 hk3 hp3 hr3
  refine wp_region_noPanic ?_
  refine wp_region_held_drew (S := (fun u => u.cell? ⟨p, o + 2, none⟩ = some (.map (some m)))) (by kernel_rfl) (by first | exact d2 | exact HC4.out | exact HCD.out | assumption) (fun hHeld => ?_)
  refine tz (i := 0) 31 rfl rfl hHeld ?_
  simp only [pS]
  refine tz (i := 1) 32 rfl rfl hHeld ?_
  simp only [pS]
  refine tz (i := 2) 33 rfl rfl hHeld ?_
  simp only [pS]
  refine tz (i := 3) 34 rfl rfl hHeld ?_
  simp only [pS]
  refine tz (i := 4) 35 rfl rfl hHeld ?_
  simp only [pS]
  refine run_at (i := 5) rfl (by kernel_rfl) (by rfl) (fun K hK => ?_)
  simp only [List.getElem_toArray, List.getElem_cons_zero, List.getElem_cons_succ]
  go_simp
  (go_at_call 62; refine Calls.mono HOLD.out ?_; rintro e w4 ⟨rfl, hb4⟩; have HB4 : Hid (Below w3.heap.size w3 w4) := ((Below.refl w3.heap.size w3).drew).trans hb4; have HC4 : Hid (w4.cell? ⟨p, o + 2, none⟩ = some (.map (some m))) := (HCU.out w4 ((hb4.block p (Array.getElem?_eq_some_iff.1 HP3.out).1).trans HP3.out)).2.2.1; clear hb4)
  go_wp2_with fail
  refine hK.out _ _ (by first | exact d2 | exact HC4.out | exact HCD.out | assumption) ?_
  clear hK K
  intro hHeld2
  clear hHeld
  have hHeld := hHeld2
  clear hHeld2
  try simp only [pS]
  refine run_at (i := 6) rfl (by kernel_rfl) (by rfl) (fun K hK => ?_)
  simp only [List.getElem_toArray, List.getElem_cons_zero, List.getElem_cons_succ]
  (refine wpo_del undI _ _ rfl (RowM.below HR3.out HB4.out) (HXS.out) (by rfl) (by rfl) ?_; intro wD hrD hgD; have HRD : Hid _ := hrD; have HPD : Hid (wD.heap[p]? = some (.cells C ty (0, 0))) := (hgD.block p (by have := (Array.getElem?_eq_some_iff.1 HP3.out).1; have := HB4.out.size; show p < w4.heap.size; omega) (fun e => HPM.out (Option.some.inj e))).trans ((HB4.out.block p (Array.getElem?_eq_some_iff.1 HP3.out).1).trans HP3.out); have HKD : Hid (wD.heap[w.heap.size]? = _) := (hgD.block w.heap.size (by have := (Array.getElem?_eq_some_iff.1 HK3.out).1; have := HB4.out.size; show w.heap.size < w4.heap.size; omega) (fun e => by have := Option.some.inj e; have := RowM.lt HR.out; omega)).trans ((HB4.out.block w.heap.size (Array.getElem?_eq_some_iff.1 HK3.out).1).trans HK3.out); have HCD : Hid (wD.cell? ⟨p, o + 2, none⟩ = some (.map (some m))) := (HCU.out wD HPD.out).2.2.1; have HCHD : Hid (Chg (fun b => b = p ∨ b = m) w wD) := (Chg.of_below (F := fun b => b = p ∨ b = m) (below_next HB3.out HB4.out)).trans (Chg.of_grown hgD (F := fun b => b = p ∨ b = m) (fun b e => .inr (Option.some.inj e).symm)) (fun b hb => .inl hb); clear hrD hgD)
  refine hK.out _ _ (by first | exact d2 | exact HC4.out | exact HCD.out | assumption) ?_
  clear hK K
  intro hHeld2
  clear hHeld
  have hHeld := hHeld2
  clear hHeld2
  try simp only [pS]
  refine wpAnyH_done (by kernel_rfl) ?_ _
  refine NoPanic.normal ?_
  have hw3s := HB3.out.size
  have hpD : wD.heap[p]? = some (.cells C ty (0, 0)) := HPD.out
  obtain ⟨f0, f1, f2, f3⟩ := HCU.out wD hpD
  have hplD : p < wD.heap.size := (Array.getElem?_eq_some_iff.1 hpD).1
  clear hpD hw3s
  go_wp2
  obtain ⟨w5, hw5⟩ : ∃ w5, w5 = wD.setCell ⟨p, o + 1, none⟩ (.int .u64 ((T : Int) + 1)) := ⟨_, rfl⟩
  rw [← hw5]
  have hT0 : (T : Int) + 1 = ((T + 1 : Nat) : Int) := by omega
  have hp5 : w5.heap[p]? = some (.cells (C.setIfInBounds (o + 1) (.int .u64 ((T + 1 : Nat) : Int))) ty (0, 0)) := by
    rw [hw5, hT0]
    exact heap_setCell_same wD p (o + 1) C ty _ HPD.out
  have hk5 : w5.heap[w.heap.size]? = some (.cells #[.int .u64 (s.1 : Int), .int .u64 (s.2 : Int)] tSs (0, 0)) := by
    rw [hw5, Below.heap_setCell _ _ _ _ (by show w.heap.size ≠ p; omega)]
    exact HKD.out
  have hr5 : RowM w5 m (T + 1) (mp fI r) := by
    have h9 : RowM w5 m T (rm (mp fI E) x.1) := RowM.kept HRD.out (by rw [hw5]; exact Below.heap_setCell _ _ _ _ (fun e => HPM.out e.symm))
    have h8 : rm (mp fI E) x.1 = mp fI r := by
      have h7 := RowM.nd HR.out
      rw [ks_mp, HE.out] at h7
      rw [← rm_mp, HE.out, rm_head h7]
    rw [h8] at h9
    exact h9.more (Nat.le_succ T)
  have hch5 : Chg (fun b => b = p ∨ b = m) w w5 := HCHD.out.trans (Chg.of_grown (hw5 ▸ gset1 wD p (o + 1) _) (F := fun b => b = p ∨ b = m) (fun b e => .inl (Option.some.inj e).symm)) (fun b hb => .inl hb)
  clear hw5 hT0 f0 f1 f2 f3 d0 d1 d2 d3
  have HS5 : Hid (∀ u : World, u.heap[p]? = w5.heap[p]? → u.heap[w.heap.size]? = w5.heap[w.heap.size]? → u.heap[m]? = u.heap[m]? → u.cell? ⟨p, o + 2, none⟩ = some (.map (some m)) ∧ u.cell? ⟨p, o + 1, none⟩ = some (.int .u64 ((T + 1 : Nat) : Int)) ∧ u.cell? ⟨w.heap.size, 0, none⟩ = some (.int .u64 (s.1 : Int)) ∧ u.cell? ⟨w.heap.size, 1, none⟩ = some (.int .u64 (s.2 : Int))) := fun u e1 e2 _ => by
    have h1 := e1.trans hp5
    have h2 := e2.trans hk5
    refine ⟨?_, ?_, ?_, ?_⟩
    · rw [cell_of_row _ _ _ _ _ _ h1, Array.getElem?_setIfInBounds_ne (by omega)]; exact HC1.out.2
    · rw [cell_of_row _ _ _ _ _ _ h1, Array.getElem?_setIfInBounds_self_of_lt HC1.out.1]
    · rw [cell_of_row _ _ _ _ _ _ h2]; rfl
    · rw [cell_of_row _ _ _ _ _ _ h2]; rfl
  have HR5 : Hid _ := hr5
  have HP5 : Hid _ := hp5
  have HK5 : Hid _ := hk5
  have HCH5 : Hid _ := hch5
  have hT1 : (T : Int) + 1 = ((T + 1 : Nat) : Int) := by omega
  rw [hT1]
  have HT1 : Hid _ := hT1
  clear hr5 hp5 hk5 hch5 hcu hlk hlen hkb hT1 hTw
  have HL5 : Hid ((mp fI (r)).length ≤ 8192) := by unfold Hid; rw [len_mp]; have h9 := hL; rw [HE.out] at h9; simp at h9; omega
  have HR5L : Hid (∀ x, x ∈ mp fI (r) → x.2.2 ≤ T) := fun x hx => (RowM.le HR.out x (by rw [HE.out]; exact List.mem_cons_of_mem _ hx)).2
  refine wp_region_noPanic ?_
  refine wp_region_held_drew (S := (fun u => u.cell? ⟨p, o + 2, none⟩ = some (.map (some m)) ∧ u.cell? ⟨p, o + 1, none⟩ = some (.int .u64 ((T + 1 : Nat) : Int)) ∧ u.cell? ⟨w.heap.size, 0, none⟩ = some (.int .u64 (s.1 : Int)) ∧ u.cell? ⟨w.heap.size, 1, none⟩ = some (.int .u64 (s.2 : Int)))) (by kernel_rfl) (by first | exact HS5.out w5 rfl rfl rfl | exact HS6.out | assumption) (fun hHeld => ?_)
  refine tz (i := 0) 44 rfl rfl hHeld ?_
  simp only [pS]
  refine tz (i := 1) 45 rfl rfl hHeld ?_
  simp only [pS]
  refine tz (i := 2) 46 rfl rfl hHeld ?_
  simp only [pS]
  refine tz (i := 3) 47 rfl rfl hHeld ?_
  simp only [pS]
  refine tz (i := 4) 48 rfl rfl hHeld ?_
  simp only [pS]
  refine tz (i := 5) 49 rfl rfl hHeld ?_
  simp only [pS]
  refine tz (i := 6) 50 rfl rfl hHeld ?_
  simp only [pS]
  refine tz (i := 7) 51 rfl rfl hHeld ?_
  simp only [pS]
  refine tz (i := 8) 52 rfl rfl hHeld ?_
  simp only [pS]
  refine tz (i := 9) 53 rfl rfl hHeld ?_
  simp only [pS]
  refine tz (i := 10) 54 rfl rfl hHeld ?_
  simp only [pS]
  refine run_at (i := 11) rfl (by kernel_rfl) (by rfl) (fun K hK => ?_)
  simp only [List.getElem_toArray, List.getElem_cons_zero, List.getElem_cons_succ]
  (refine wpo_upd undI _ _ _ rfl (RowM.kept (w' := w5.drew) HR5.out rfl) hs _ (T + 1) (by rfl) (by rfl) (by first | rfl | (show (Value.agg _) = _; simp)) (by omega) (fun x hx => by have := (HR5L.out x hx); omega) (Nat.le_refl _) HL5.out ?_; intro w6 hr6 hg6; have HS6 : Hid (w6.cell? ⟨p, o + 2, none⟩ = some (.map (some m)) ∧ w6.cell? ⟨p, o + 1, none⟩ = some (.int .u64 ((T + 1 : Nat) : Int)) ∧ w6.cell? ⟨w.heap.size, 0, none⟩ = some (.int .u64 (s.1 : Int)) ∧ w6.cell? ⟨w.heap.size, 1, none⟩ = some (.int .u64 (s.2 : Int))) := HS5.out w6 (hg6.block p (Array.getElem?_eq_some_iff.1 HP5.out).1 (fun e => HPM.out (Option.some.inj e))) (hg6.block w.heap.size (Array.getElem?_eq_some_iff.1 HK5.out).1 (fun e => by have := Option.some.inj e; have := RowM.lt HR.out; omega)) rfl; have HF6 : Hid (RowM w6 m (T + 1) (mp fI (r ++ [(s, (c, T + 1))])) ∧ w6.heap[p]? = some (.cells (C.setIfInBounds (o + 1) (.int .u64 ((T + 1 : Nat) : Int))) ty (0, 0)) ∧ Chg (fun b => b = p ∨ b = m) w w6) := And.intro ((by rw [show mp fI (r ++ [(s, (c, T + 1))]) = rm (mp fI r) s ++ [(s, fI (c, T + 1))] by rw [rm_not (by rw [ks_mp]; exact HSN.out)]; simp [mp]]; exact hr6)) (And.intro ((hg6.block p (Array.getElem?_eq_some_iff.1 HP5.out).1 (fun e => HPM.out (Option.some.inj e))).trans HP5.out) ((Chg.drew HCH5.out).trans (Chg.of_grown hg6 (F := fun b => b = p ∨ b = m) (fun b e => .inr (Option.some.inj e).symm)) (fun b hb => .inl hb))); clear hr6 hg6)
  refine hK.out _ _ (by first | exact HS5.out w5 rfl rfl rfl | exact HS6.out | assumption) ?_
  clear hK K
  intro hHeld2
  clear hHeld
  have hHeld := hHeld2
  clear hHeld2
  try simp only [pS]
  refine wpAnyH_done (by kernel_rfl) ?_ _
  refine NoPanic.normal ?_
  go_end0
  exact ⟨rfl, HF6.out⟩
end
end Go.Proofs.YtdoikcolkbjnfaaGreat
