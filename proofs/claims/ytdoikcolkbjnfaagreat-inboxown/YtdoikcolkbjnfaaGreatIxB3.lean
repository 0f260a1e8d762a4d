import Derived.Test.YtdoikcolkbjnfaaGreatIxI2
namespace Go.Proofs.YtdoikcolkbjnfaaGreat
set_option linter.unusedVariables false
set_option linter.unusedSimpArgs false
open Go.RowKit Go.Maps
abbrev tMB : TypeId := 76
abbrev tEB : TypeId := 138
theorem undB : Tryz.prog.underlying tMB = some (.map tSs tEB) := Tryz.underlying76
theorem zerB (u : World) : (zeroValue tEB).run Tryz.prog u = .ok (.agg #[(.pointer none), .int .u64 0]) u := by kernel_rfl
/-- what is held, with its touch -/
abbrev fB (x : Nat × Nat) : Value × Nat := ((fun c : Nat => ((.pointer (some ⟨c, 0, none⟩)) : Value)) x.1, x.2)
section
variable {w w' : World} {p o m T : Nat} {E : List (Ss × (Nat × Nat))}
set_option maxRecDepth 20000
set_option maxHeartbeats 1600000
theorem lkB {s : Ss} {c : Nat} {t : Nat} (hl : lk E s = some (c, t)) : lk (mp fB E) s = some ((.pointer (some ⟨c, 0, none⟩)), t) := by rw [lk_mp, hl]; rfl
theorem lkBn {s : Ss} (hl : lk E s = none) : lk (mp fB E) s = none := by rw [lk_mp, hl]; rfl
theorem getB_in (hc : w.cell? ⟨p, o + 2, none⟩ = some (.map (some m))) (h : RowM w m T (mp fB E)) {s : Ss} (hs : inS s) {c : Nat} {t : Nat} (hl : lk E s = some (c, t)) :
    Calls Tryz.prog 63 #[.pointer (some ⟨p, o, none⟩), sv s] w fun e w' => e = .returned (.tuple #[(.pointer (some ⟨c, 0, none⟩)), .bool true]) ∧ Below w.heap.size w w' := by
  have hlk : ∀ u, Below w.heap.size w u → (Instr.lookup tMB (.map (some m)) (.agg #[.int .u64 (s.1 : Int), .int .u64 (s.2 : Int)]) true).run Tryz.prog u = .ok (.tuple #[.agg #[(.pointer (some ⟨c, 0, none⟩)), .int .u64 (t : Int)], .bool true]) u := fun u hu => (h.below hu).look_in undB zerB hs (lkB hl)
  have hcu : ∀ u, Below w.heap.size w u → u.cell? ⟨p, o + 2, none⟩ = some (.map (some m)) := fun u hu => (hu.cell (World.block_lt_of_cell? w _ hc)).trans hc
  have hkb := keyBox w s
  clear h hl hc
  go_enter Tryz.func63, Tryz.ntmps63
  go_wp2
  refine wp_region_noPanic ?_
  refine wp_region_held_drew (S := (fun u => Below (w.heap.size + 1) (w.alloc (.cells #[.int .u64 (s.1 : Int), .int .u64 (s.2 : Int)] tSs)) u)) (by kernel_rfl) (by first | exact Below.refl _ _ | exact (Below.refl _ _).drew | assumption | exact Below.drew (Below.alloc (Below.refl _ _) (by simp) _) | exact Below.drew (Below.setCell (by assumption) (by simp) _)) (fun hHeld => ?_)
  refine tz (i := 0) 9 rfl rfl hHeld ?_
  simp only [pS]
  refine tz (i := 1) 10 rfl rfl hHeld ?_
  simp only [pS]
  refine tz (i := 2) 11 rfl rfl hHeld ?_
  simp only [pS]
  refine tz (i := 3) 12 rfl rfl hHeld ?_
  simp only [pS]
  refine tz (i := 4) 13 rfl rfl hHeld ?_
  simp only [pS]
  refine tz (i := 5) 14 rfl rfl hHeld ?_
  simp only [pS]
  refine tz (i := 6) 8 rfl rfl hHeld ?_
  simp only [pS]
  refine tz (i := 7) 15 rfl rfl hHeld ?_
  simp only [pS]
  refine tz (i := 8) 16 rfl rfl hHeld ?_
  simp only [pS]
  refine run_at (i := 9) rfl (by kernel_rfl) (by rfl) (fun K hK => ?_)
  simp only [List.getElem_toArray, List.getElem_cons_zero, List.getElem_cons_succ]
  go_simp
  go_wp2_with fail
  refine hK.out _ _ (by first | exact Below.refl _ _ | exact (Below.refl _ _).drew | assumption | exact Below.drew (Below.alloc (Below.refl _ _) (by simp) _) | exact Below.drew (Below.setCell (by assumption) (by simp) _)) ?_
  clear hK K
  intro hHeld2
  clear hHeld
  have hHeld := hHeld2
  clear hHeld2
  try simp only [pS]
  refine run_at (i := 10) rfl (by kernel_rfl) (by rfl) (fun K hK => ?_)
  simp only [List.getElem_toArray, List.getElem_cons_zero, List.getElem_cons_succ]
  go_simp
  go_wp2_with fail
  refine hK.out _ _ (by first | exact Below.refl _ _ | exact (Below.refl _ _).drew | assumption | exact Below.drew (Below.alloc (Below.refl _ _) (by simp) _) | exact Below.drew (Below.setCell (by assumption) (by simp) _)) ?_
  clear hK K
  intro hHeld2
  clear hHeld
  have hHeld := hHeld2
  clear hHeld2
  try simp only [pS]
  refine tz (i := 11) 7 rfl rfl hHeld ?_
  simp only [pS]
  refine wpAnyH_done (by kernel_rfl) ?_ _
  refine NoPanic.normal ?_
  go_wp2
  go_ret2
  exact ⟨rfl, (al (al (Below.refl _ _) _) _).drew⟩
theorem getB_no (hc : w.cell? ⟨p, o + 2, none⟩ = some (.map (some m))) (h : RowM w m T (mp fB E)) {s : Ss} (hs : inS s) (hl : lk E s = none) :
    Calls Tryz.prog 63 #[.pointer (some ⟨p, o, none⟩), sv s] w fun e w' => e = .returned (.tuple #[(.pointer none), .bool false]) ∧ Below w.heap.size w w' := by
  have hlk : ∀ u, Below w.heap.size w u → (Instr.lookup tMB (.map (some m)) (.agg #[.int .u64 (s.1 : Int), .int .u64 (s.2 : Int)]) true).run Tryz.prog u = .ok (.tuple #[.agg #[(.pointer none), .int .u64 0], .bool false]) u := fun u hu => (h.below hu).look_no undB zerB hs (lkBn hl)
  have hcu : ∀ u, Below w.heap.size w u → u.cell? ⟨p, o + 2, none⟩ = some (.map (some m)) := fun u hu => (hu.cell (World.block_lt_of_cell? w _ hc)).trans hc
  have hkb := keyBox w s
  clear h hl hc
  go_enter Tryz.func63, Tryz.ntmps63
  go_wp2
  refine wp_region_noPanic ?_
  refine wp_region_held_drew (S := (fun u => Below (w.heap.size + 1) (w.alloc (.cells #[.int .u64 (s.1 : Int), .int .u64 (s.2 : Int)] tSs)) u)) (by kernel_rfl) (by first | exact Below.refl _ _ | exact (Below.refl _ _).drew | assumption | exact Below.drew (Below.alloc (Below.refl _ _) (by simp) _) | exact Below.drew (Below.setCell (by assumption) (by simp) _)) (fun hHeld => ?_)
  refine tz (i := 0) 9 rfl rfl hHeld ?_
  simp only [pS]
  refine tz (i := 1) 10 rfl rfl hHeld ?_
  simp only [pS]
  refine tz (i := 2) 11 rfl rfl hHeld ?_
  simp only [pS]
  refine tz (i := 3) 12 rfl rfl hHeld ?_
  simp only [pS]
  refine tz (i := 4) 13 rfl rfl hHeld ?_
  simp only [pS]
  refine tz (i := 5) 14 rfl rfl hHeld ?_
  simp only [pS]
  refine tz (i := 6) 8 rfl rfl hHeld ?_
  simp only [pS]
  refine tz (i := 7) 15 rfl rfl hHeld ?_
  simp only [pS]
  refine tz (i := 8) 16 rfl rfl hHeld ?_
  simp only [pS]
  refine run_at (i := 9) rfl (by kernel_rfl) (by rfl) (fun K hK => ?_)
  simp only [List.getElem_toArray, List.getElem_cons_zero, List.getElem_cons_succ]
  go_simp
  go_wp2_with fail
  refine hK.out _ _ (by first | exact Below.refl _ _ | exact (Below.refl _ _).drew | assumption | exact Below.drew (Below.alloc (Below.refl _ _) (by simp) _) | exact Below.drew (Below.setCell (by assumption) (by simp) _)) ?_
  clear hK K
  intro hHeld2
  clear hHeld
  have hHeld := hHeld2
  clear hHeld2
  try simp only [pS]
  refine run_at (i := 10) rfl (by kernel_rfl) (by rfl) (fun K hK => ?_)
  simp only [List.getElem_toArray, List.getElem_cons_zero, List.getElem_cons_succ]
  go_simp
  go_wp2_with fail
  refine hK.out _ _ (by first | exact Below.refl _ _ | exact (Below.refl _ _).drew | assumption | exact Below.drew (Below.alloc (Below.refl _ _) (by simp) _) | exact Below.drew (Below.setCell (by assumption) (by simp) _)) ?_
  clear hK K
  intro hHeld2
  clear hHeld
  have hHeld := hHeld2
  clear hHeld2
  try simp only [pS]
  refine tz (i := 11) 7 rfl rfl hHeld ?_
  simp only [pS]
  refine wpAnyH_done (by kernel_rfl) ?_ _
  refine NoPanic.normal ?_
  go_wp2
  go_ret2
  exact ⟨rfl, (al (al (Below.refl _ _) _) _).drew⟩
end
end Go.Proofs.YtdoikcolkbjnfaaGreat
namespace Go.Proofs.YtdoikcolkbjnfaaGreat
set_option linter.unusedVariables false
set_option linter.unusedSimpArgs false
open Go.RowKit Go.Maps
/-- what the search for the one that was touched least lately knows -/
structure OldB (E : List (Ss × (Nat × Nat))) (T : Nat) (ds : List Ss) (cu : Ss) (ls : Nat) : Prop where
  lo : ∀ x, x ∈ E → x.1 ∈ ds → ls ≤ x.2.2
  at_ : ls = T + 1 ∨ ∃ x, x ∈ E ∧ x.1 = cu ∧ x.2.2 = ls
theorem OldB.end_ {E : List (Ss × (Nat × Nat))} {T : Nat} {ds : List Ss} {cu : Ss} {ls : Nat} (h : OldB E T ds cu ls) {x : Ss × (Nat × Nat)} {r : List (Ss × (Nat × Nat))} (hE : E = x :: r) (hd : ∀ s, s ∈ ds ↔ s ∈ ks E) (hT : ∀ y, y ∈ E → y.2.2 ≤ T) (hs : E.Pairwise (fun a b => a.2.2 < b.2.2)) : cu = x.1 := by
  subst hE
  have h0 : x ∈ x :: r := List.mem_cons_self
  have h1 := h.lo x h0 ((hd _).2 (mem_ks h0))
  have h2 := hT x h0
  rcases h.at_ with h3 | ⟨y, hy, e1, e2⟩
  · omega
  · rcases List.mem_cons.1 hy with rfl | hy
    · exact e1.symm
    · have := (List.pairwise_cons.1 hs).1 y hy
      omega
theorem OldB.step {E : List (Ss × (Nat × Nat))} {T : Nat} {ds : List Ss} {cu : Ss} {ls : Nat} (h : OldB E T ds cu ls) {y : Ss} {c : Nat} {t : Nat} (hy : (y, (c, t)) ∈ E) (hn : (ks (mp fB E)).Nodup) : OldB E T (ds ++ [y]) (if t < ls then y else cu) (if t < ls then t else ls) := by
  rw [ks_mp] at hn
  refine ⟨fun x hx hd => ?_, ?_⟩
  · have h1 : x.1 ∈ ds ∨ x.1 = y := by simpa using hd
    have h2 : t < ls ∨ ¬ t < ls := by omega
    rcases h1 with h1 | h1
    · have := h.lo x hx h1
      split <;> omega
    · have e1 := lk_of hn hx
      have e2 := lk_of hn hy
      rw [h1] at e1
      have e3 : x.2 = (c, t) := Option.some.inj (e1.symm.trans e2)
      rw [e3]
      split
      · exact Nat.le_refl _
      · show ls ≤ t
        omega
  · by_cases h1 : t < ls
    · rw [if_pos h1, if_pos h1]
      exact .inr ⟨_, hy, rfl, rfl⟩
    · rw [if_neg h1, if_neg h1]
      exact h.at_
theorem soB {E : List (Ss × (Nat × Nat))} (h : (mp fB E).Pairwise (fun a b => a.2.2 < b.2.2)) : E.Pairwise (fun a b => a.2.2 < b.2.2) := by
  unfold mp at h
  rw [List.pairwise_map] at h
  exact h
theorem leB {w : World} {m T : Nat} {E : List (Ss × (Nat × Nat))} (h : RowM w m T (mp fB E)) {x : Ss × (Nat × Nat)} (hx : x ∈ E) : 1 ≤ x.2.2 ∧ x.2.2 ≤ T := h.le _ (List.mem_map.2 ⟨x, hx, rfl⟩)
section
variable {w w' : World} {p o m T : Nat} {E : List (Ss × (Nat × Nat))}
set_option maxRecDepth 20000
set_option maxHeartbeats 1600000
theorem oldB_t (hT : w.cell? ⟨p, o + 1, none⟩ = some (.int .u64 (T : Int))) (hc : w.cell? ⟨p, o + 2, none⟩ = some (.map (some m))) (h : RowM w m T (mp fB E)) (x : Ss × (Nat × Nat)) (r : List (Ss × (Nat × Nat))) (hE : E = x :: r) (hTb : T < 9223372036854775807) :
    Calls Tryz.prog 67 #[.pointer (some ⟨p, o, none⟩)] w fun e w' => e = .returned (sv x.1) ∧ Below w.heap.size w w' := by
  have hTw : IntKind.u64.wrap ((T : Int) + 1) = ((T + 1 : Nat) : Int) := by rw [IntKind.wrap_u64]; omega
  have HE : Hid _ := hE
  have HR : Hid _ := h
  obtain ⟨P, hP⟩ : ∃ P, P = w.heap.size := ⟨_, rfl⟩
  obtain ⟨w2, hw2⟩ : ∃ w2, w2 = (w.alloc (.cells #[.int .u64 0, .int .u64 0] tSs)).alloc (.cells #[.int .u64 0, .int .u64 0] tSs) := ⟨_, rfl⟩
  have hb2 : Below w.heap.size w w2 := by rw [hw2]; exact al (al (Below.refl _ _) _) _
  have hA : w2.heap[P]? = some (.cells #[.int .u64 0, .int .u64 0] tSs (0, 0)) := by
    rw [hw2, hP]
    exact (heap_alloc_old (w.alloc _) _ (by simp)).trans (heap_alloc_new w _)
  have hB : w2.heap[P + 1]? = some (.cells #[.int .u64 0, .int .u64 0] tSs (0, 0)) := by
    rw [hw2, hP]
    have h9 := heap_alloc_new (w.alloc (Obj.cells #[.int .u64 0, .int .u64 0] tSs)) (Obj.cells #[.int .u64 0, .int .u64 0] tSs)
    rw [World.size_alloc] at h9
    exact h9
  have hS2 : w2.heap.size = P + 2 := by rw [hw2, hP]; simp
  have hpl : p < w.heap.size := World.block_lt_of_cell? w _ hT
  have HW2 : Hid (w2 = _) := hw2
  have HRM : Hid (RowM w2 m T (mp fB E)) := h.below hb2
  have HP : Hid (P = w.heap.size) := hP
  clear h hE hP hw2
  go_enter Tryz.func67, Tryz.ntmps67
  go_wp2_with (at_range; refine wpn_range undB rfl _ rfl (T := T) (L := mp fB E) (by have h9 := HRM.out; rw [HW2.out] at h9; exact h9) rfl ?_; intro w3 hr3 hg3 hs3)
  go_frame
  rw [← HW2.out] at hr3 hg3 hs3 ⊢
  obtain ⟨R, hR⟩ : ∃ R, R = w2.heap.size := ⟨_, rfl⟩
  rw [← hR] at hr3 ⊢
  rw [← HP.out]
  have hb3 : Below w.heap.size w w3 := hb2.grown hg3 hb2.size (fun j hj => by cases hj)
  have hA3 : w3.heap[P]? = some (.cells #[.int .u64 0, .int .u64 0] tSs (0, 0)) := (hg3.block P (by omega) (by simp)).trans hA
  have hB3 : w3.heap[P + 1]? = some (.cells #[.int .u64 0, .int .u64 0] tSs (0, 0)) := (hg3.block (P + 1) (by omega) (by simp)).trans hB
  have HRP : Hid (R = P + 2) := by unfold Hid; omega
  have hT1 : ((T + 1 : Nat) : Int) = (T : Int) + 1 := by omega
  rw [← hT1]
  have HT1 : Hid (((T + 1 : Nat) : Int) = (T : Int) + 1) := hT1
  clear hA hB hg3 hs3 hS2 hR hb2 hT hc hTw hT1
  obtain ⟨L1, hL1⟩ : ∃ L1, L1 = T + 1 := ⟨_, rfl⟩
  rw [← hL1]
  have HL1 : Hid (L1 = T + 1) := hL1
  clear hL1
  go_loopw [4] (fun lv wr => ∃ (ds : List Ss) (cnt ls : Nat) (cu : Ss), lv = .int .u64 (ls : Int) ∧ RngM wr m R T (mp fB E) ds cnt ∧ wr.heap[P]? = some (.cells #[.int .u64 0, .int .u64 0] tSs (0, 0)) ∧ wr.heap[P + 1]? = some (.cells #[.int .u64 (cu.1 : Int), .int .u64 (cu.2 : Int)] tSs (0, 0)) ∧ Below w.heap.size w wr ∧ Hid (OldB E T ds cu ls)) (fun _ wr => wr.rangeLeft m R)
  case atStart => exact ⟨[], _, L1, (0, 0), rfl, hr3, hA3, hB3, hb3, (show OldB E T [] (0, 0) L1 from ⟨fun x _ h9 => (List.not_mem_nil h9).elim, .inl HL1.out⟩)⟩
  case round =>
    obtain ⟨ds, cnt, ls, cu, rfl, hrg, hA, hB, hbw, HO⟩ := hrel
    clear hr3 hA3 hB3 hb3
    go_wp2_with (at_next; refine wpn_next rfl _ rfl hrg rfl ?_ ?_)
    · intro hd
      have hcu : cu = x.1 := OldB.end_ HO.out HE.out (fun s => by have := hd s.1 s.2; rw [ks_mp] at this; exact this) (fun y hy => (leB HR.out hy).2) (soB (RowM.so HR.out))
      have HCU : Hid (cu = x.1) := hcu
      have hcA : wr.cell? ⟨P, 0, none⟩ = some (.int .u64 0) ∧ wr.cell? ⟨P, 1, none⟩ = some (.int .u64 0) ∧ wr.cell? ⟨P + 1, 0, none⟩ = some (.int .u64 (cu.1 : Int)) ∧ wr.cell? ⟨P + 1, 1, none⟩ = some (.int .u64 (cu.2 : Int)) := ⟨by rw [cell_of_row _ _ _ _ _ _ hA]; rfl, by rw [cell_of_row _ _ _ _ _ _ hA]; rfl, by rw [cell_of_row _ _ _ _ _ _ hB]; rfl, by rw [cell_of_row _ _ _ _ _ _ hB]; rfl⟩
      have hfz : wr.frozen? ⟨P, 0, none⟩ = false ∧ wr.frozen? ⟨P, 1, none⟩ = false := ⟨by simp [World.frozen?, hA], by simp [World.frozen?, hA]⟩
      clear hcu hd hrg HO
      go_wp2
      refine bodyPost_ret (v := sv cu) (by simp [results, Tryz.results67, go_sem, hcA, hfz]) rfl ⟨by rw [HCU.out], ?_⟩
      have hPw := HP.out
      exact ((hbw.setCell (p := ⟨P, 0, none⟩) (by show w.heap.size ≤ P; omega) _).setCell (p := ⟨P, 1, none⟩) (by show w.heap.size ≤ P; omega) _)
    · intro e9 n9 v9 t9 w5 cnt5 hx9 hnd hrg5 hlt5 hg5 hs5 hen
      obtain ⟨⟨⟨ye, yn⟩, ⟨yc, yt⟩⟩, hyE, hy⟩ := List.mem_map.1 hx9
      cases hy
      have hA5 := (hg5.block P (Array.getElem?_eq_some_iff.1 hA).1 (fun e => by have := HRP.out; have := Option.some.inj e; omega)).trans hA
      have hB5 := (hg5.block (P + 1) (Array.getElem?_eq_some_iff.1 hB).1 (fun e => by have := HRP.out; have := Option.some.inj e; omega)).trans hB
      have hl5 : P + 1 < w5.heap.size := (Array.getElem?_eq_some_iff.1 hB5).1
      have hb5 : Below w.heap.size w w5 := hbw.grown hg5 hbw.size (fun j hj => by have := HRP.out; have := HP.out; have := Option.some.inj hj; omega)
      have HO5 : Hid (OldB E T (ds ++ [(e9, n9)]) (if yt < ls then (e9, n9) else cu) (if yt < ls then yt else ls)) := OldB.step HO.out hyE (RngM.nl hrg)
      obtain ⟨w6, hw6⟩ : ∃ w6, w6 = (w5.alloc (.cells #[.int .u64 (e9 : Int), .int .u64 (n9 : Int)] tSs)).alloc (.cells #[(fun c : Nat => ((.pointer (some ⟨c, 0, none⟩)) : Value)) yc, .int .u64 (yt : Int)] tEB) := ⟨_, rfl⟩
      have hA6 : w6.heap[P]? = some (.cells #[.int .u64 0, .int .u64 0] tSs (0, 0)) := by rw [hw6, Below.heap_alloc _ _ _ (by simp; omega), Below.heap_alloc _ _ _ (by omega)]; exact hA5
      have hB6 : w6.heap[P + 1]? = some (.cells #[.int .u64 (cu.1 : Int), .int .u64 (cu.2 : Int)] tSs (0, 0)) := by rw [hw6, Below.heap_alloc _ _ _ (by simp; omega), Below.heap_alloc _ _ _ (by omega)]; exact hB5
      have hb6 : Below w.heap.size w w6 := by rw [hw6]; exact al (al hb5 _) _
      have hrg6 : RngM w6 m R T (mp fB E) (ds ++ [(e9, n9)]) cnt5 := by rw [hw6]; exact (hrg5.alloc _).alloc _
      have HLT : Hid (cnt5 < wr.rangeLeft m R) := by unfold Hid; rw [hrg.left_eq]; exact hlt5
      obtain ⟨Z, hZ⟩ : ∃ Z, Z = w5.heap.size := ⟨_, rfl⟩
      have hZ0 : w6.heap[Z]? = some (.cells #[.int .u64 (e9 : Int), .int .u64 (n9 : Int)] tSs (0, 0)) := by
        rw [hw6, hZ, Below.heap_alloc _ _ _ (by simp)]
        exact heap_alloc_new w5 _
      have hZ1 : w6.heap[Z + 1]? = some (.cells #[(fun c : Nat => ((.pointer (some ⟨c, 0, none⟩)) : Value)) yc, .int .u64 (yt : Int)] tEB (0, 0)) := by
        rw [hw6, hZ]
        have h9 := heap_alloc_new (w5.alloc (Obj.cells #[.int .u64 (e9 : Int), .int .u64 (n9 : Int)] tSs)) (.cells #[(fun c : Nat => ((.pointer (some ⟨c, 0, none⟩)) : Value)) yc, .int .u64 (yt : Int)] tEB)
        rw [World.size_alloc] at h9
        exact h9
      have HZP : Hid (P + 1 < Z) := by unfold Hid; omega
      have HRL : Hid (m < R ∨ R < m) := by
        obtain ⟨D, left, h9, -⟩ := hrg.ex
        have := h9.ne
        unfold Hid
        omega
      have hZc : w6.cell? ⟨Z, 0, none⟩ = some (.int .u64 (e9 : Int)) ∧ w6.cell? ⟨Z, 1, none⟩ = some (.int .u64 (n9 : Int)) ∧ w6.cell? ⟨Z + 1, 1, none⟩ = some (.int .u64 (yt : Int)) := ⟨by rw [cell_of_row _ _ _ _ _ _ hZ0]; rfl, by rw [cell_of_row _ _ _ _ _ _ hZ0]; rfl, by rw [cell_of_row _ _ _ _ _ _ hZ1]; rfl⟩
      have hBc : w6.cell? ⟨P + 1, 0, none⟩ = some (.int .u64 (cu.1 : Int)) ∧ w6.cell? ⟨P + 1, 1, none⟩ = some (.int .u64 (cu.2 : Int)) := ⟨by rw [cell_of_row _ _ _ _ _ _ hB6]; rfl, by rw [cell_of_row _ _ _ _ _ _ hB6]; rfl⟩
      have hBf : w6.frozen? ⟨P + 1, 0, none⟩ = false ∧ w6.frozen? ⟨P + 1, 1, none⟩ = false := ⟨by simp [World.frozen?, hB6], by simp [World.frozen?, hB6]⟩
      have HML : Hid (m < w.heap.size) := RowM.lt HR.out
      have HB6 : Hid _ := hb6
      have HRG6 : Hid _ := hrg6
      have HA6 : Hid _ := hA6
      have HBB6 : Hid _ := hB6
      have HW6 : Hid (w6 = _) := hw6
      have HZ : Hid (Z = w5.heap.size) := hZ
      clear hx9 hnd hrg5 hlt5 hg5 hs5 hrg hA hB hbw HO hA5 hb5 hB5 hw6 hA6 hB6 hb6 hrg6 hZ0 hZ1 hZ hl5
      by_cases hyl : yt < ls
      · rw [if_pos hyl, if_pos hyl] at HO5
        have hyi : (yt : Int) < (ls : Int) := by omega
        go_wp2
        rw [← HW6.out, ← HZ.out]
        refine wp_region_noPanic ?_
        refine wp_region_held_drew (S := (fun u => u.cell? ⟨Z, 0, none⟩ = some (.int .u64 (e9 : Int)) ∧ u.cell? ⟨Z, 1, none⟩ = some (.int .u64 (n9 : Int)) ∧ u.cell? ⟨Z + 1, 1, none⟩ = some (.int .u64 (yt : Int)))) (by kernel_rfl) (by first | exact hZc | (have h9 := HZP.out; refine ⟨?_, ?_, ?_⟩ <;> (simp [World.cell?_setCell_ne, hZc]; done)) | (have h9 := HZP.out; have n1 : ¬ Z = P + 1 := (by omega); have n2 : ¬ Z = P := (by omega); refine ⟨?_, ?_, ?_⟩ <;> (first | (go_simp; done) | (go_simp; first | exact hZc.1 | exact hZc.2.1 | exact hZc.2.2)))) (fun hHeld => ?_)
        refine tz (i := 0) 26 rfl rfl hHeld ?_
        simp only [pS]
        refine tz (i := 1) 27 rfl rfl hHeld ?_
        simp only [pS]
        refine tz (i := 2) 28 rfl rfl hHeld ?_
        simp only [pS]
        refine run_at (i := 3) rfl (by kernel_rfl) (by rfl) (fun K hK => ?_)
        simp only [List.getElem_toArray, List.getElem_cons_zero, List.getElem_cons_succ]
        go_simp
        go_wp2_with fail
        refine hK.out _ _ (by first | exact hZc | (have h9 := HZP.out; refine ⟨?_, ?_, ?_⟩ <;> (simp [World.cell?_setCell_ne, hZc]; done)) | (have h9 := HZP.out; have n1 : ¬ Z = P + 1 := (by omega); have n2 : ¬ Z = P := (by omega); refine ⟨?_, ?_, ?_⟩ <;> (first | (go_simp; done) | (go_simp; first | exact hZc.1 | exact hZc.2.1 | exact hZc.2.2)))) ?_
        clear hK K
        intro hHeld2
        clear hHeld
        have hHeld := hHeld2
        clear hHeld2
        try simp only [pS]
        refine tz (i := 4) 4 rfl rfl hHeld ?_
        simp only [pS]
        refine wpAnyH_done (by kernel_rfl) ?_ _
        refine NoPanic.normal ?_
        have hzp := HZP.out
        have hwp := HP.out
        have hrp := HRP.out
        have hml := HML.out
        have hB7 : ((w6.setCell ⟨P + 1, 0, none⟩ (.int .u64 (e9 : Int))).setCell ⟨P + 1, 1, none⟩ (.int .u64 (n9 : Int))).heap[P + 1]? = some (.cells #[.int .u64 (e9 : Int), .int .u64 (n9 : Int)] tSs (0, 0)) := heap_setCell_same _ (P + 1) 1 _ _ _ (heap_setCell_same w6 (P + 1) 0 _ _ _ HBB6.out)
        have hA7 : ((w6.setCell ⟨P + 1, 0, none⟩ (.int .u64 (e9 : Int))).setCell ⟨P + 1, 1, none⟩ (.int .u64 (n9 : Int))).heap[P]? = some (.cells #[.int .u64 0, .int .u64 0] tSs (0, 0)) := (Below.heap_setCell _ _ _ _ (by show P ≠ P + 1; omega)).trans ((Below.heap_setCell _ _ _ _ (by show P ≠ P + 1; omega)).trans HA6.out)
        have hR7 := ((RngM.set HRG6.out (P + 1) 0 (.int .u64 (e9 : Int)) (by omega) (by omega)).set (P + 1) 1 (.int .u64 (n9 : Int)) (by omega) (by omega)).drew
        have HR7 : Hid _ := hR7
        clear hzp hwp hrp hml hR7
        go_roundw
        case rel =>
          iterate 15 (apply Exists.intro)
          refine And.intro ?_ rfl
          exact ⟨_, _, yt, (e9, n9), rfl, HR7.out, hA7, hB7, ((Below.setCell HB6.out (p := ⟨P + 1, 0, none⟩) (by have := HP.out; show w.heap.size ≤ P + 1; omega) _).setCell (p := ⟨P + 1, 1, none⟩) (by have := HP.out; show w.heap.size ≤ P + 1; omega) _).drew, HO5⟩
        case measure => rw [RngM.left_eq HR7.out]; exact HLT.out
      · rw [if_neg hyl, if_neg hyl] at HO5
        have hyi : ¬ (yt : Int) < (ls : Int) := by omega
        go_wp2
        rw [← HW6.out]
        go_roundw
        case rel => exact ⟨_, _, ls, cu, rfl, HRG6.out, HA6.out, HBB6.out, HB6.out, HO5⟩
        case measure => rw [RngM.left_eq HRG6.out]; exact HLT.out
end
end Go.Proofs.YtdoikcolkbjnfaaGreat
namespace Go.Proofs.YtdoikcolkbjnfaaGreat
set_option linter.unusedVariables false
set_option linter.unusedSimpArgs false
open Go.RowKit Go.Maps
section
variable {w w' : World} {p o m T : Nat} {E : List (Ss × (Nat × Nat))}
set_option maxRecDepth 20000
set_option maxHeartbeats 1600000
theorem putB_in (ty : TypeId) (C : Array Value) (hp : w.heap[p]? = some (.cells C ty (0, 0))) (most : Nat) (c0 : C[o]? = some (.int .i64 (most : Int))) (c1 : C[o + 1]? = some (.int .u64 (T : Int))) (c2 : C[o + 2]? = some (.map (some m)))
    (h : RowM w m T (mp fB E)) {s : Ss} (hs : inS s) (c : Nat) {c' : Nat} {t : Nat} (hl : lk E s = some (c', t)) (hTb : T < 9223372036854775807) (hL : E.length ≤ 8192) :
    Calls Tryz.prog 39 #[.pointer (some ⟨p, o, none⟩), sv s, (.pointer (some ⟨c, 0, none⟩))] w fun e w' => e = .returned (.tuple #[]) ∧ RowM w' m (T + 1) (mp fB (rm E s ++ [(s, (c, T + 1))])) ∧ w'.heap[p]? = some (.cells (C.setIfInBounds (o + 1) (.int .u64 ((T + 1 : Nat) : Int))) ty (0, 0)) ∧ Chg (fun b => b = p ∨ b = m) w w' := by
  have hlk : ∀ u, Below w.heap.size w u → (Instr.lookup tMB (.map (some m)) (.agg #[.int .u64 (s.1 : Int), .int .u64 (s.2 : Int)]) true).run Tryz.prog u = .ok (.tuple #[.agg #[(fun c : Nat => ((.pointer (some ⟨c, 0, none⟩)) : Value)) c', .int .u64 (t : Int)], .bool true]) u := fun u hu => (h.below hu).look_in undB zerB hs (lkB hl)
  have hpl : p < w.heap.size := (Array.getElem?_eq_some_iff.1 hp).1
  have HCU : Hid (∀ u : World, u.heap[p]? = some (.cells C ty (0, 0)) → u.cell? ⟨p, o, none⟩ = some (.int .i64 (most : Int)) ∧ u.cell? ⟨p, o + 1, none⟩ = some (.int .u64 (T : Int)) ∧ u.cell? ⟨p, o + 2, none⟩ = some (.map (some m)) ∧ u.frozen? ⟨p, o + 1, none⟩ = false) := fun u h9 =>
    ⟨by rw [cell_of_row _ _ _ _ _ _ h9]; exact c0, by rw [cell_of_row _ _ _ _ _ _ h9]; exact c1, by rw [cell_of_row _ _ _ _ _ _ h9]; exact c2, by simp [World.frozen?, h9]⟩
  have hcu : ∀ u, Below w.heap.size w u → u.cell? ⟨p, o, none⟩ = some (.int .i64 (most : Int)) ∧ u.cell? ⟨p, o + 1, none⟩ = some (.int .u64 (T : Int)) ∧ u.cell? ⟨p, o + 2, none⟩ = some (.map (some m)) ∧ u.frozen? ⟨p, o + 1, none⟩ = false := fun u hu => HCU.out u ((hu.block p hpl).trans hp)
  have hlen : ∀ u, Below w.heap.size w u → ∀ ty, (Builtin.len_ #[tMB] ty #[.map (some m)]).run Tryz.prog u = .ok (.int .i64 (E.length : Int)) u := fun u hu ty => by
    have h9 := (h.below hu).len undB ty
    rw [len_mp] at h9
    exact h9
  have hkb := keyBox w s
  have hpm : p ≠ m := fun e => by
    obtain ⟨es, cl, h9⟩ := h.at_
    rw [← e, hp] at h9
    cases h9
  have HPM : Hid _ := hpm
  have HR : Hid _ := h
  have HP : Hid _ := hp
  have HC1 : Hid (o + 1 < C.size ∧ C[o + 2]? = some (.map (some m))) := ⟨(Array.getElem?_eq_some_iff.1 c1).1, c2⟩
  have hTw : IntKind.u64.wrap ((T : Int) + 1) = ((T + 1 : Nat) : Int) := by rw [IntKind.wrap_u64]; omega
  clear h hp c0 c1 c2 hpm
  go_enter Tryz.func39, Tryz.ntmps39
  go_wp2
  refine wp_region_noPanic ?_
  refine wp_region_held_drew (S := (fun u => Below (w.heap.size + 1) (w.alloc (.cells #[.int .u64 (s.1 : Int), .int .u64 (s.2 : Int)] tSs)) u)) (by kernel_rfl) (by first | exact Below.refl _ _ | exact (Below.refl _ _).drew | assumption | exact Below.drew (Below.alloc (Below.refl _ _) (by simp) _) | exact Below.drew (Below.setCell (by assumption) (by simp) _)) (fun hHeld => ?_)
  refine tz (i := 0) 9 rfl rfl hHeld ?_
  simp only [pS]
  refine tz (i := 1) 10 rfl rfl hHeld ?_
  simp only [pS]
  refine tz (i := 2) 11 rfl rfl hHeld ?_
  simp only [pS]
  refine tz (i := 3) 12 rfl rfl hHeld ?_
  simp only [pS]
  refine tz (i := 4) 13 rfl rfl hHeld ?_
  simp only [pS]
  refine tz (i := 5) 14 rfl rfl hHeld ?_
  simp only [pS]
  refine tz (i := 6) 8 rfl rfl hHeld ?_
  simp only [pS]
  refine tz (i := 7) 15 rfl rfl hHeld ?_
  simp only [pS]
  refine tz (i := 8) 16 rfl rfl hHeld ?_
  simp only [pS]
  refine run_at (i := 9) rfl (by kernel_rfl) (by rfl) (fun K hK => ?_)
  simp only [List.getElem_toArray, List.getElem_cons_zero, List.getElem_cons_succ]
  go_simp
  go_wp2_with fail
  refine hK.out _ _ (by first | exact Below.refl _ _ | exact (Below.refl _ _).drew | assumption | exact Below.drew (Below.alloc (Below.refl _ _) (by simp) _) | exact Below.drew (Below.setCell (by assumption) (by simp) _)) ?_
  clear hK K
  intro hHeld2
  clear hHeld
  have hHeld := hHeld2
  clear hHeld2
  try simp only [pS]
  refine run_at (i := 10) rfl (by kernel_rfl) (by rfl) (fun K hK => ?_)
  simp only [List.getElem_toArray, List.getElem_cons_zero, List.getElem_cons_succ]
  go_simp
  go_wp2_with fail
  refine hK.out _ _ (by first | exact Below.refl _ _ | exact (Below.refl _ _).drew | assumption | exact Below.drew (Below.alloc (Below.refl _ _) (by simp) _) | exact Below.drew (Below.setCell (by assumption) (by simp) _)) ?_
  clear hK K
  intro hHeld2
  clear hHeld
  have hHeld := hHeld2
  clear hHeld2
  try simp only [pS]
  refine tz (i := 11) 7 rfl rfl hHeld ?_
  simp only [pS]
  refine wpAnyH_done (by kernel_rfl) ?_ _
  refine NoPanic.normal ?_
  go_wp2
  refine wp_region_noPanic ?_
  refine wp_region_held_drew (S := (fun u => Below (w.heap.size + 1) (w.alloc (.cells #[.int .u64 (s.1 : Int), .int .u64 (s.2 : Int)] tSs)) u)) (by kernel_rfl) (by first | assumption | exact (Below.alloc (Below.refl _ _) (by simp) _).drew.drew) (fun hHeld => ?_)
  refine tz (i := 0) 17 rfl rfl hHeld ?_
  simp only [pS]
  refine tz (i := 1) 18 rfl rfl hHeld ?_
  simp only [pS]
  refine tz (i := 2) 19 rfl rfl hHeld ?_
  simp only [pS]
  refine skip_at (i := 3) 20 rfl rfl (by kernel_rfl) (by kernel_rfl) (by kernel_rfl) (fun _ _ _ h => h) (by rfl) hHeld ?_
  simp only [pS]
  refine skip_at (i := 4) 21 rfl rfl (by kernel_rfl) (by kernel_rfl) (by kernel_rfl) (fun _ _ _ h => h) (by rfl) hHeld ?_
  simp only [pS]
  refine skip_at (i := 5) 22 rfl rfl (by kernel_rfl) (by kernel_rfl) (by kernel_rfl) (fun _ _ _ h => h) (by rfl) hHeld ?_
  simp only [pS]
  refine skip_at (i := 6) 23 rfl rfl (by kernel_rfl) (by kernel_rfl) (by kernel_rfl) (fun _ _ _ h => h) (by rfl) hHeld ?_
  simp only [pS]
  refine skip_at (i := 7) 24 rfl rfl (by kernel_rfl) (by kernel_rfl) (by kernel_rfl) (fun _ _ _ h => h) (by rfl) hHeld ?_
  simp only [pS]
  refine skip_at (i := 8) 25 rfl rfl (by kernel_rfl) (by kernel_rfl) (by kernel_rfl) (fun _ _ _ h => h) (by rfl) hHeld ?_
  simp only [pS]
  refine skip_at (i := 9) 26 rfl rfl (by kernel_rfl) (by kernel_rfl) (by kernel_rfl) (fun _ _ _ h => h) (by rfl) hHeld ?_
  simp only [pS]
  refine skip_at (i := 10) 27 rfl rfl (by kernel_rfl) (by kernel_rfl) (by kernel_rfl) (fun _ _ _ h => h) (by rfl) hHeld ?_
  simp only [pS]
  refine skip_at (i := 11) 28 rfl rfl (by kernel_rfl) (by kernel_rfl) (by kernel_rfl) (fun _ _ _ h => h) (by rfl) hHeld ?_
  simp only [pS]
  refine skip_at (i := 12) 29 rfl rfl (by kernel_rfl) (by kernel_rfl) (by kernel_rfl) (fun _ _ _ h => h) (by rfl) hHeld ?_
  simp only [pS]
  refine tz (i := 13) 30 rfl rfl hHeld ?_
  simp only [pS]
  refine wpAnyH_done (by kernel_rfl) ?_ _
  refine NoPanic.normal ?_
  go_wp2
  obtain ⟨w5, hw5⟩ : ∃ w5, w5 = (((w.setCell ⟨p, o + 1, none⟩ (.int .u64 ((T : Int) + 1))).alloc (.cells #[.int .u64 (s.1 : Int), .int .u64 (s.2 : Int)] tSs)).alloc (.cells #[(fun c : Nat => ((.pointer (some ⟨c, 0, none⟩)) : Value)) c', .int .u64 (t : Int)] tEB)).drew.drew := ⟨_, rfl⟩
  rw [← hw5]
  have hpm := HPM.out
  have hT0 : (T : Int) + 1 = ((T + 1 : Nat) : Int) := by omega
  have e5 : ∀ b, b < w.heap.size → b ≠ p → w5.heap[b]? = w.heap[b]? := fun b hb hn => by
    rw [hw5]
    show (((w.setCell _ _).alloc _).alloc _).heap[b]? = _
    rw [Below.heap_alloc _ _ _ (by simp; omega), Below.heap_alloc _ _ _ (by simp; omega), Below.heap_setCell _ _ _ _ hn]
  have hp5 : w5.heap[p]? = some (.cells (C.setIfInBounds (o + 1) (.int .u64 ((T + 1 : Nat) : Int))) ty (0, 0)) := by
    rw [hw5, hT0]
    show (((w.setCell _ _).alloc _).alloc _).heap[p]? = _
    rw [Below.heap_alloc _ _ _ (by simp; omega), Below.heap_alloc _ _ _ (by simp; omega)]
    exact heap_setCell_same w p (o + 1) C ty _ HP.out
  have hk5 : w5.heap[w.heap.size]? = some (.cells #[.int .u64 (s.1 : Int), .int .u64 (s.2 : Int)] tSs (0, 0)) := by
    rw [hw5]
    show (((w.setCell _ _).alloc _).alloc _).heap[_]? = _
    rw [Below.heap_alloc _ _ _ (by simp)]
    have h9 := heap_alloc_new (w.setCell ⟨p, o + 1, none⟩ (.int .u64 ((T : Int) + 1))) (.cells #[.int .u64 (s.1 : Int), .int .u64 (s.2 : Int)] tSs)
    rw [World.size_setCell] at h9
    exact h9
  have hr5 : RowM w5 m (T + 1) (mp fB E) := (RowM.kept HR.out (e5 m (RowM.lt HR.out) (fun e => hpm e.symm))).more (Nat.le_succ T)
  have hch5 : Chg (fun b => b = p ∨ b = m) w w5 := ⟨by rw [hw5]; rfl, by rw [hw5]; rfl, by rw [hw5]; rfl, by rw [hw5]; show _ ≤ (((w.setCell _ _).alloc _).alloc _).heap.size; simp; omega, fun b hb hn => e5 b hb (fun e => hn (.inl e))⟩
  clear hw5 e5 hT0
  have HS5 : Hid (∀ u : World, u.heap[p]? = w5.heap[p]? → u.heap[w.heap.size]? = w5.heap[w.heap.size]? → u.heap[m]? = u.heap[m]? → u.cell? ⟨p, o + 2, none⟩ = some (.map (some m)) ∧ u.cell? ⟨p, o + 1, none⟩ = some (.int .u64 ((T + 1 : Nat) : Int)) ∧ u.cell? ⟨w.heap.size, 0, none⟩ = some (.int .u64 (s.1 : Int)) ∧ u.cell? ⟨w.heap.size, 1, none⟩ = some (.int .u64 (s.2 : Int))) := fun u e1 e2 _ => by
    have h1 := e1.trans hp5
    have h2 := e2.trans hk5
    refine ⟨?_, ?_, ?_, ?_⟩
    · rw [cell_of_row _ _ _ _ _ _ h1, Array.getElem?_setIfInBounds_ne (by omega)]; exact HC1.out.2
    · rw [cell_of_row _ _ _ _ _ _ h1, Array.getElem?_setIfInBounds_self_of_lt HC1.out.1]
    · rw [cell_of_row _ _ _ _ _ _ h2]; rfl
    · rw [cell_of_row _ _ _ _ _ _ h2]; rfl
  have HR5 : Hid _ := hr5
  have HP5 : Hid _ := hp5
  have HK5 : Hid _ := hk5
  have HCH5 : Hid _ := hch5
  have hT1 : (T : Int) + 1 = ((T + 1 : Nat) : Int) := by omega
  rw [hT1]
  have HT1 : Hid _ := hT1
  clear hr5 hp5 hk5 hch5 hcu hlk hlen hkb hT1 hTw
  have HL5 : Hid ((mp fB (E)).length ≤ 8192) := by unfold Hid; rw [len_mp]; exact hL
  have HR5L : Hid (∀ x, x ∈ mp fB (E) → x.2.2 ≤ T) := fun x hx => (RowM.le HR.out x hx).2
  refine wp_region_noPanic ?_
  refine wp_region_held_drew (S := (fun u => u.cell? ⟨p, o + 2, none⟩ = some (.map (some m)) ∧ u.cell? ⟨p, o + 1, none⟩ = some (.int .u64 ((T + 1 : Nat) : Int)) ∧ u.cell? ⟨w.heap.size, 0, none⟩ = some (.int .u64 (s.1 : Int)) ∧ u.cell? ⟨w.heap.size, 1, none⟩ = some (.int .u64 (s.2 : Int)))) (by kernel_rfl) (by first | exact HS5.out w5 rfl rfl rfl | exact HS6.out | assumption) (fun hHeld => ?_)
  refine tz (i := 0) 44 rfl rfl hHeld ?_
  simp only [pS]
  refine tz (i := 1) 45 rfl rfl hHeld ?_
  simp only [pS]
  refine tz (i := 2) 46 rfl rfl hHeld ?_
  simp only [pS]
  refine tz (i := 3) 47 rfl rfl hHeld ?_
  simp only [pS]
  refine tz (i := 4) 48 rfl rfl hHeld ?_
  simp only [pS]
  refine tz (i := 5) 49 rfl rfl hHeld ?_
  simp only [pS]
  refine tz (i := 6) 50 rfl rfl hHeld ?_
  simp only [pS]
  refine tz (i := 7) 51 rfl rfl hHeld ?_
  simp only [pS]
  refine tz (i := 8) 52 rfl rfl hHeld ?_
  simp only [pS]
  refine tz (i := 9) 53 rfl rfl hHeld ?_
  simp only [pS]
  refine tz (i := 10) 54 rfl rfl hHeld ?_
  simp only [pS]
  refine run_at (i := 11) rfl (by kernel_rfl) (by rfl) (fun K hK => ?_)
  simp only [List.getElem_toArray, List.getElem_cons_zero, List.getElem_cons_succ]
  (refine wpo_upd undB _ _ _ rfl (RowM.kept (w' := w5.drew) HR5.out rfl) hs _ (T + 1) (by rfl) (by rfl) (by first | rfl | (show (Value.agg _) = _; simp)) (by omega) (fun x hx => by have := (HR5L.out x hx); omega) (Nat.le_refl _) HL5.out ?_; intro w6 hr6 hg6; have HS6 : Hid (w6.cell? ⟨p, o + 2, none⟩ = some (.map (some m)) ∧ w6.cell? ⟨p, o + 1, none⟩ = some (.int .u64 ((T + 1 : Nat) : Int)) ∧ w6.cell? ⟨w.heap.size, 0, none⟩ = some (.int .u64 (s.1 : Int)) ∧ w6.cell? ⟨w.heap.size, 1, none⟩ = some (.int .u64 (s.2 : Int))) := HS5.out w6 (hg6.block p (Array.getElem?_eq_some_iff.1 HP5.out).1 (fun e => HPM.out (Option.some.inj e))) (hg6.block w.heap.size (Array.getElem?_eq_some_iff.1 HK5.out).1 (fun e => by have := Option.some.inj e; have := RowM.lt HR.out; omega)) rfl; have HF6 : Hid (RowM w6 m (T + 1) (mp fB (rm E s ++ [(s, (c, T + 1))])) ∧ w6.heap[p]? = some (.cells (C.setIfInBounds (o + 1) (.int .u64 ((T + 1 : Nat) : Int))) ty (0, 0)) ∧ Chg (fun b => b = p ∨ b = m) w w6) := And.intro ((by rw [show mp fB (rm E s ++ [(s, (c, T + 1))]) = rm (mp fB E) s ++ [(s, fB (c, T + 1))] by simp [mp, rm, List.filter_map, Function.comp_def]]; exact hr6)) (And.intro ((hg6.block p (Array.getElem?_eq_some_iff.1 HP5.out).1 (fun e => HPM.out (Option.some.inj e))).trans HP5.out) ((Chg.drew HCH5.out).trans (Chg.of_grown hg6 (F := fun b => b = p ∨ b = m) (fun b e => .inr (Option.some.inj e).symm)) (fun b hb => .inl hb))); clear hr6 hg6)
  refine hK.out _ _ (by first | exact HS5.out w5 rfl rfl rfl | exact HS6.out | assumption) ?_
  clear hK K
  intro hHeld2
  clear hHeld
  have hHeld := hHeld2
  clear hHeld2
  try simp only [pS]
  refine wpAnyH_done (by kernel_rfl) ?_ _
  refine NoPanic.normal ?_
  go_end0
  exact ⟨rfl, HF6.out⟩
theorem putB_new (ty : TypeId) (C : Array Value) (hp : w.heap[p]? = some (.cells C ty (0, 0))) (most : Nat) (c0 : C[o]? = some (.int .i64 (most : Int))) (c1 : C[o + 1]? = some (.int .u64 (T : Int))) (c2 : C[o + 2]? = some (.map (some m)))
    (h : RowM w m T (mp fB E)) {s : Ss} (hs : inS s) (c : Nat) (hl : lk E s = none) (hm : E.length < most) (hTb : T < 9223372036854775807) (hL : E.length ≤ 8192) :
    Calls Tryz.prog 39 #[.pointer (some ⟨p, o, none⟩), sv s, (.pointer (some ⟨c, 0, none⟩))] w fun e w' => e = .returned (.tuple #[]) ∧ RowM w' m (T + 1) (mp fB (rm E s ++ [(s, (c, T + 1))])) ∧ w'.heap[p]? = some (.cells (C.setIfInBounds (o + 1) (.int .u64 ((T + 1 : Nat) : Int))) ty (0, 0)) ∧ Chg (fun b => b = p ∨ b = m) w w' := by
  have hlk : ∀ u, Below w.heap.size w u → (Instr.lookup tMB (.map (some m)) (.agg #[.int .u64 (s.1 : Int), .int .u64 (s.2 : Int)]) true).run Tryz.prog u = .ok (.tuple #[.agg #[(.pointer none), .int .u64 0], .bool false]) u := fun u hu => (h.below hu).look_no undB zerB hs (lkBn hl)
  have hpl : p < w.heap.size := (Array.getElem?_eq_some_iff.1 hp).1
  have HCU : Hid (∀ u : World, u.heap[p]? = some (.cells C ty (0, 0)) → u.cell? ⟨p, o, none⟩ = some (.int .i64 (most : Int)) ∧ u.cell? ⟨p, o + 1, none⟩ = some (.int .u64 (T : Int)) ∧ u.cell? ⟨p, o + 2, none⟩ = some (.map (some m)) ∧ u.frozen? ⟨p, o + 1, none⟩ = false) := fun u h9 =>
    ⟨by rw [cell_of_row _ _ _ _ _ _ h9]; exact c0, by rw [cell_of_row _ _ _ _ _ _ h9]; exact c1, by rw [cell_of_row _ _ _ _ _ _ h9]; exact c2, by simp [World.frozen?, h9]⟩
  have hcu : ∀ u, Below w.heap.size w u → u.cell? ⟨p, o, none⟩ = some (.int .i64 (most : Int)) ∧ u.cell? ⟨p, o + 1, none⟩ = some (.int .u64 (T : Int)) ∧ u.cell? ⟨p, o + 2, none⟩ = some (.map (some m)) ∧ u.frozen? ⟨p, o + 1, none⟩ = false := fun u hu => HCU.out u ((hu.block p hpl).trans hp)
  have hlen : ∀ u, Below w.heap.size w u → ∀ ty, (Builtin.len_ #[tMB] ty #[.map (some m)]).run Tryz.prog u = .ok (.int .i64 (E.length : Int)) u := fun u hu ty => by
    have h9 := (h.below hu).len undB ty
    rw [len_mp] at h9
    exact h9
  have hkb := keyBox w s
  have hpm : p ≠ m := fun e => by
    obtain ⟨es, cl, h9⟩ := h.at_
    rw [← e, hp] at h9
    cases h9
  have HPM : Hid _ := hpm
  have HR : Hid _ := h
  have HP : Hid _ := hp
  have HC1 : Hid (o + 1 < C.size ∧ C[o + 2]? = some (.map (some m))) := ⟨(Array.getElem?_eq_some_iff.1 c1).1, c2⟩
  have hTw : IntKind.u64.wrap ((T : Int) + 1) = ((T + 1 : Nat) : Int) := by rw [IntKind.wrap_u64]; omega
  have hge : ¬ (most : Int) ≤ (E.length : Int) := by omega
  clear h hp c0 c1 c2 hpm
  go_enter Tryz.func39, Tryz.ntmps39
  go_wp2
  refine wp_region_noPanic ?_
  refine wp_region_held_drew (S := (fun u => Below (w.heap.size + 1) (w.alloc (.cells #[.int .u64 (s.1 : Int), .int .u64 (s.2 : Int)] tSs)) u)) (by kernel_rfl) (by first | exact Below.refl _ _ | exact (Below.refl _ _).drew | assumption | exact Below.drew (Below.alloc (Below.refl _ _) (by simp) _) | exact Below.drew (Below.setCell (by assumption) (by simp) _)) (fun hHeld => ?_)
  refine tz (i := 0) 9 rfl rfl hHeld ?_
  simp only [pS]
  refine tz (i := 1) 10 rfl rfl hHeld ?_
  simp only [pS]
  refine tz (i := 2) 11 rfl rfl hHeld ?_
  simp only [pS]
  refine tz (i := 3) 12 rfl rfl hHeld ?_
  simp only [pS]
  refine tz (i := 4) 13 rfl rfl hHeld ?_
  simp only [pS]
  refine tz (i := 5) 14 rfl rfl hHeld ?_
  simp only [pS]
  refine tz (i := 6) 8 rfl rfl hHeld ?_
  simp only [pS]
  refine tz (i := 7) 15 rfl rfl hHeld ?_
  simp only [pS]
  refine tz (i := 8) 16 rfl rfl hHeld ?_
  simp only [pS]
  refine run_at (i := 9) rfl (by kernel_rfl) (by rfl) (fun K hK => ?_)
  simp only [List.getElem_toArray, List.getElem_cons_zero, List.getElem_cons_succ]
  go_simp
  go_wp2_with fail
  refine hK.out _ _ (by first | exact Below.refl _ _ | exact (Below.refl _ _).drew | assumption | exact Below.drew (Below.alloc (Below.refl _ _) (by simp) _) | exact Below.drew (Below.setCell (by assumption) (by simp) _)) ?_
  clear hK K
  intro hHeld2
  clear hHeld
  have hHeld := hHeld2
  clear hHeld2
  try simp only [pS]
  refine run_at (i := 10) rfl (by kernel_rfl) (by rfl) (fun K hK => ?_)
  simp only [List.getElem_toArray, List.getElem_cons_zero, List.getElem_cons_succ]
  go_simp
  go_wp2_with fail
  refine hK.out _ _ (by first | exact Below.refl _ _ | exact (Below.refl _ _).drew | assumption | exact Below.drew (Below.alloc (Below.refl _ _) (by simp) _) | exact Below.drew (Below.setCell (by assumption) (by simp) _)) ?_
  clear hK K
  intro hHeld2
  clear hHeld
  have hHeld := hHeld2
  clear hHeld2
  try simp only [pS]
  refine tz (i := 11) 7 rfl rfl hHeld ?_
  simp only [pS]
  refine wpAnyH_done (by kernel_rfl) ?_ _
  refine NoPanic.normal ?_
  go_wp2
  refine wp_region_noPanic ?_
  refine wp_region_held_drew (S := (fun u => Below (w.heap.size + 1) (w.alloc (.cells #[.int .u64 (s.1 : Int), .int .u64 (s.2 : Int)] tSs)) u)) (by kernel_rfl) (by first | assumption | exact (Below.alloc (Below.refl _ _) (by simp) _).drew.drew) (fun hHeld => ?_)
  refine tz (i := 0) 17 rfl rfl hHeld ?_
  simp only [pS]
  refine tz (i := 1) 18 rfl rfl hHeld ?_
  simp only [pS]
  refine tz (i := 2) 19 rfl rfl hHeld ?_
  simp only [pS]
  refine tz (i := 3) 20 rfl rfl hHeld ?_
  simp only [pS]
  refine tz (i := 4) 21 rfl rfl hHeld ?_
  simp only [pS]
  refine tz (i := 5) 22 rfl rfl hHeld ?_
  simp only [pS]
  refine tz (i := 6) 23 rfl rfl hHeld ?_
  simp only [pS]
  refine tz (i := 8) 25 rfl rfl hHeld ?_
  simp only [pS]
  refine tz (i := 9) 26 rfl rfl hHeld ?_
  simp only [pS]
  refine tz (i := 10) 27 rfl rfl hHeld ?_
  simp only [pS]
  refine tz (i := 11) 28 rfl rfl hHeld ?_
  simp only [pS]
  refine val_at (i := 7) 24 (v := .int .i64 (E.length : Int)) rfl rfl (by kernel_rfl) (by rfl) ?_ ?_ ?_
  · (go_simp; try with_reducible rfl)
  · (first | assumption | exact (Below.alloc (Below.refl _ _) (by simp) _).drew.drew)
  intro hHeld2
  clear hHeld
  have hHeld := hHeld2
  clear hHeld2
  simp only [pS]
  refine tz (i := 12) 29 rfl rfl hHeld ?_
  simp only [pS]
  refine tz (i := 13) 30 rfl rfl hHeld ?_
  simp only [pS]
  refine wpAnyH_done (by kernel_rfl) ?_ _
  refine NoPanic.normal ?_
  go_wp2
  obtain ⟨w5, hw5⟩ : ∃ w5, w5 = (((w.setCell ⟨p, o + 1, none⟩ (.int .u64 ((T : Int) + 1))).alloc (.cells #[.int .u64 (s.1 : Int), .int .u64 (s.2 : Int)] tSs)).alloc (.cells #[(.pointer none), .int .u64 0] tEB)).drew.drew := ⟨_, rfl⟩
  rw [← hw5]
  have hpm := HPM.out
  have hT0 : (T : Int) + 1 = ((T + 1 : Nat) : Int) := by omega
  have e5 : ∀ b, b < w.heap.size → b ≠ p → w5.heap[b]? = w.heap[b]? := fun b hb hn => by
    rw [hw5]
    show (((w.setCell _ _).alloc _).alloc _).heap[b]? = _
    rw [Below.heap_alloc _ _ _ (by simp; omega), Below.heap_alloc _ _ _ (by simp; omega), Below.heap_setCell _ _ _ _ hn]
  have hp5 : w5.heap[p]? = some (.cells (C.setIfInBounds (o + 1) (.int .u64 ((T + 1 : Nat) : Int))) ty (0, 0)) := by
    rw [hw5, hT0]
    show (((w.setCell _ _).alloc _).alloc _).heap[p]? = _
    rw [Below.heap_alloc _ _ _ (by simp; omega), Below.heap_alloc _ _ _ (by simp; omega)]
    exact heap_setCell_same w p (o + 1) C ty _ HP.out
  have hk5 : w5.heap[w.heap.size]? = some (.cells #[.int .u64 (s.1 : Int), .int .u64 (s.2 : Int)] tSs (0, 0)) := by
    rw [hw5]
    show (((w.setCell _ _).alloc _).alloc _).heap[_]? = _
    rw [Below.heap_alloc _ _ _ (by simp)]
    have h9 := heap_alloc_new (w.setCell ⟨p, o + 1, none⟩ (.int .u64 ((T : Int) + 1))) (.cells #[.int .u64 (s.1 : Int), .int .u64 (s.2 : Int)] tSs)
    rw [World.size_setCell] at h9
    exact h9
  have hr5 : RowM w5 m (T + 1) (mp fB E) := (RowM.kept HR.out (e5 m (RowM.lt HR.out) (fun e => hpm e.symm))).more (Nat.le_succ T)
  have hch5 : Chg (fun b => b = p ∨ b = m) w w5 := ⟨by rw [hw5]; rfl, by rw [hw5]; rfl, by rw [hw5]; rfl, by rw [hw5]; show _ ≤ (((w.setCell _ _).alloc _).alloc _).heap.size; simp; omega, fun b hb hn => e5 b hb (fun e => hn (.inl e))⟩
  clear hw5 e5 hT0
  have HS5 : Hid (∀ u : World, u.heap[p]? = w5.heap[p]? → u.heap[w.heap.size]? = w5.heap[w.heap.size]? → u.heap[m]? = u.heap[m]? → u.cell? ⟨p, o + 2, none⟩ = some (.map (some m)) ∧ u.cell? ⟨p, o + 1, none⟩ = some (.int .u64 ((T + 1 : Nat) : Int)) ∧ u.cell? ⟨w.heap.size, 0, none⟩ = some (.int .u64 (s.1 : Int)) ∧ u.cell? ⟨w.heap.size, 1, none⟩ = some (.int .u64 (s.2 : Int))) := fun u e1 e2 _ => by
    have h1 := e1.trans hp5
    have h2 := e2.trans hk5
    refine ⟨?_, ?_, ?_, ?_⟩
    · rw [cell_of_row _ _ _ _ _ _ h1, Array.getElem?_setIfInBounds_ne (by omega)]; exact HC1.out.2
    · rw [cell_of_row _ _ _ _ _ _ h1, Array.getElem?_setIfInBounds_self_of_lt HC1.out.1]
    · rw [cell_of_row _ _ _ _ _ _ h2]; rfl
    · rw [cell_of_row _ _ _ _ _ _ h2]; rfl
  have HR5 : Hid _ := hr5
  have HP5 : Hid _ := hp5
  have HK5 : Hid _ := hk5
  have HCH5 : Hid _ := hch5
  have hT1 : (T : Int) + 1 = ((T + 1 : Nat) : Int) := by omega
  rw [hT1]
  have HT1 : Hid _ := hT1
  clear hr5 hp5 hk5 hch5 hcu hlk hlen hkb hT1 hTw
  have HL5 : Hid ((mp fB (E)).length ≤ 8192) := by unfold Hid; rw [len_mp]; exact hL
  have HR5L : Hid (∀ x, x ∈ mp fB (E) → x.2.2 ≤ T) := fun x hx => (RowM.le HR.out x hx).2
  refine wp_region_noPanic ?_
  refine wp_region_held_drew (S := (fun u => u.cell? ⟨p, o + 2, none⟩ = some (.map (some m)) ∧ u.cell? ⟨p, o + 1, none⟩ = some (.int .u64 ((T + 1 : Nat) : Int)) ∧ u.cell? ⟨w.heap.size, 0, none⟩ = some (.int .u64 (s.1 : Int)) ∧ u.cell? ⟨w.heap.size, 1, none⟩ = some (.int .u64 (s.2 : Int)))) (by kernel_rfl) (by first | exact HS5.out w5 rfl rfl rfl | exact HS6.out | assumption) (fun hHeld => ?_)
  refine tz (i := 0) 44 rfl rfl hHeld ?_
  simp only [pS]
  refine tz (i := 1) 45 rfl rfl hHeld ?_
  simp only [pS]
  refine tz (i := 2) 46 rfl rfl hHeld ?_
  simp only [pS]
  refine tz (i := 3) 47 rfl rfl hHeld ?_
  simp only [pS]
  refine tz (i := 4) 48 rfl rfl hHeld ?_
  simp only [pS]
  refine tz (i := 5) 49 rfl rfl hHeld ?_
  simp only [pS]
  refine tz (i := 6) 50 rfl rfl hHeld ?_
  simp only [pS]
  refine tz (i := 7) 51 rfl rfl hHeld ?_
  simp only [pS]
  refine tz (i := 8) 52 rfl rfl hHeld ?_
  simp only [pS]
  refine tz (i := 9) 53 rfl rfl hHeld ?_
  simp only [pS]
  refine tz (i := 10) 54 rfl rfl hHeld ?_
  simp only [pS]
  refine run_at (i := 11) rfl (by kernel_rfl) (by rfl) (fun K hK => ?_)
  simp only [List.getElem_toArray, List.getElem_cons_zero, List.getElem_cons_succ]
  (refine wpo_upd undB _ _ _ rfl (RowM.kept (w' := w5.drew) HR5.out rfl) hs _ (T + 1) (by rfl) (by rfl) (by first | rfl | (show (Value.agg _) = _; simp)) (by omega) (fun x hx => by have := (HR5L.out x hx); omega) (Nat.le_refl _) HL5.out ?_; intro w6 hr6 hg6; have HS6 : Hid (w6.cell? ⟨p, o + 2, none⟩ = some (.map (some m)) ∧ w6.cell? ⟨p, o + 1, none⟩ = some (.int .u64 ((T + 1 : Nat) : Int)) ∧ w6.cell? ⟨w.heap.size, 0, none⟩ = some (.int .u64 (s.1 : Int)) ∧ w6.cell? ⟨w.heap.size, 1, none⟩ = some (.int .u64 (s.2 : Int))) := HS5.out w6 (hg6.block p (Array.getElem?_eq_some_iff.1 HP5.out).1 (fun e => HPM.out (Option.some.inj e))) (hg6.block w.heap.size (Array.getElem?_eq_some_iff.1 HK5.out).1 (fun e => by have := Option.some.inj e; have := RowM.lt HR.out; omega)) rfl; have HF6 : Hid (RowM w6 m (T + 1) (mp fB (rm E s ++ [(s, (c, T + 1))])) ∧ w6.heap[p]? = some (.cells (C.setIfInBounds (o + 1) (.int .u64 ((T + 1 : Nat) : Int))) ty (0, 0)) ∧ Chg (fun b => b = p ∨ b = m) w w6) := And.intro ((by rw [show mp fB (rm E s ++ [(s, (c, T + 1))]) = rm (mp fB E) s ++ [(s, fB (c, T + 1))] by simp [mp, rm, List.filter_map, Function.comp_def]]; exact hr6)) (And.intro ((hg6.block p (Array.getElem?_eq_some_iff.1 HP5.out).1 (fun e => HPM.out (Option.some.inj e))).trans HP5.out) ((Chg.drew HCH5.out).trans (Chg.of_grown hg6 (F := fun b => b = p ∨ b = m) (fun b e => .inr (Option.some.inj e).symm)) (fun b hb => .inl hb))); clear hr6 hg6)
  refine hK.out _ _ (by first | exact HS5.out w5 rfl rfl rfl | exact HS6.out | assumption) ?_
  clear hK K
  intro hHeld2
  clear hHeld
  have hHeld := hHeld2
  clear hHeld2
  try simp only [pS]
  refine wpAnyH_done (by kernel_rfl) ?_ _
  refine NoPanic.normal ?_
  go_end0
  exact ⟨rfl, HF6.out⟩
theorem putB_full (ty : TypeId) (C : Array Value) (hp : w.heap[p]? = some (.cells C ty (0, 0))) (most : Nat) (c0 : C[o]? = some (.int .i64 (most : Int))) (c1 : C[o + 1]? = some (.int .u64 (T : Int))) (c2 : C[o + 2]? = some (.map (some m)))
    (h : RowM w m T (mp fB E)) {s : Ss} (hs : inS s) (c : Nat) (hl : lk E s = none) (hm : most ≤ E.length) (x : Ss × (Nat × Nat)) (r : List (Ss × (Nat × Nat))) (hE : E = x :: r) (hTb : T < 9223372036854775807) (hL : E.length ≤ 8192) :
    Calls Tryz.prog 39 #[.pointer (some ⟨p, o, none⟩), sv s, (.pointer (some ⟨c, 0, none⟩))] w fun e w' => e = .returned (.tuple #[]) ∧ RowM w' m (T + 1) (mp fB (r ++ [(s, (c, T + 1))])) ∧ w'.heap[p]? = some (.cells (C.setIfInBounds (o + 1) (.int .u64 ((T + 1 : Nat) : Int))) ty (0, 0)) ∧ Chg (fun b => b = p ∨ b = m) w w' := by
  have hlk : ∀ u, Below w.heap.size w u → (Instr.lookup tMB (.map (some m)) (.agg #[.int .u64 (s.1 : Int), .int .u64 (s.2 : Int)]) true).run Tryz.prog u = .ok (.tuple #[.agg #[(.pointer none), .int .u64 0], .bool false]) u := fun u hu => (h.below hu).look_no undB zerB hs (lkBn hl)
  have hpl : p < w.heap.size := (Array.getElem?_eq_some_iff.1 hp).1
  have HCU : Hid (∀ u : World, u.heap[p]? = some (.cells C ty (0, 0)) → u.cell? ⟨p, o, none⟩ = some (.int .i64 (most : Int)) ∧ u.cell? ⟨p, o + 1, none⟩ = some (.int .u64 (T : Int)) ∧ u.cell? ⟨p, o + 2, none⟩ = some (.map (some m)) ∧ u.frozen? ⟨p, o + 1, none⟩ = false) := fun u h9 =>
    ⟨by rw [cell_of_row _ _ _ _ _ _ h9]; exact c0, by rw [cell_of_row _ _ _ _ _ _ h9]; exact c1, by rw [cell_of_row _ _ _ _ _ _ h9]; exact c2, by simp [World.frozen?, h9]⟩
  have hcu : ∀ u, Below w.heap.size w u → u.cell? ⟨p, o, none⟩ = some (.int .i64 (most : Int)) ∧ u.cell? ⟨p, o + 1, none⟩ = some (.int .u64 (T : Int)) ∧ u.cell? ⟨p, o + 2, none⟩ = some (.map (some m)) ∧ u.frozen? ⟨p, o + 1, none⟩ = false := fun u hu => HCU.out u ((hu.block p hpl).trans hp)
  have hlen : ∀ u, Below w.heap.size w u → ∀ ty, (Builtin.len_ #[tMB] ty #[.map (some m)]).run Tryz.prog u = .ok (.int .i64 (E.length : Int)) u := fun u hu ty => by
    have h9 := (h.below hu).len undB ty
    rw [len_mp] at h9
    exact h9
  have hkb := keyBox w s
  have hpm : p ≠ m := fun e => by
    obtain ⟨es, cl, h9⟩ := h.at_
    rw [← e, hp] at h9
    cases h9
  have HPM : Hid _ := hpm
  have HR : Hid _ := h
  have HP : Hid _ := hp
  have HC1 : Hid (o + 1 < C.size ∧ C[o + 2]? = some (.map (some m))) := ⟨(Array.getElem?_eq_some_iff.1 c1).1, c2⟩
  have hTw : IntKind.u64.wrap ((T : Int) + 1) = ((T + 1 : Nat) : Int) := by rw [IntKind.wrap_u64]; omega
  have hge : (most : Int) ≤ (E.length : Int) := by omega
  have HE : Hid _ := hE
  have HXS : Hid (inS x.1) := h.rg x.1 (by rw [ks_mp, hE]; exact mem_ks List.mem_cons_self)
  have HSN : Hid (s ∉ ks r) := fun h9 => (lk_none.1 hl) (by rw [hE]; exact List.mem_cons_of_mem _ h9)
  clear hE
  clear h hp c0 c1 c2 hpm
  go_enter Tryz.func39, Tryz.ntmps39
  go_wp2
  refine wp_region_noPanic ?_
  refine wp_region_held_drew (S := (fun u => Below (w.heap.size + 1) (w.alloc (.cells #[.int .u64 (s.1 : Int), .int .u64 (s.2 : Int)] tSs)) u)) (by kernel_rfl) (by first | exact Below.refl _ _ | exact (Below.refl _ _).drew | assumption | exact Below.drew (Below.alloc (Below.refl _ _) (by simp) _) | exact Below.drew (Below.setCell (by assumption) (by simp) _)) (fun hHeld => ?_)
  refine tz (i := 0) 9 rfl rfl hHeld ?_
  simp only [pS]
  refine tz (i := 1) 10 rfl rfl hHeld ?_
  simp only [pS]
  refine tz (i := 2) 11 rfl rfl hHeld ?_
  simp only [pS]
  refine tz (i := 3) 12 rfl rfl hHeld ?_
  simp only [pS]
  refine tz (i := 4) 13 rfl rfl hHeld ?_
  simp only [pS]
  refine tz (i := 5) 14 rfl rfl hHeld ?_
  simp only [pS]
  refine tz (i := 6) 8 rfl rfl hHeld ?_
  simp only [pS]
  refine tz (i := 7) 15 rfl rfl hHeld ?_
  simp only [pS]
  refine tz (i := 8) 16 rfl rfl hHeld ?_
  simp only [pS]
  refine run_at (i := 9) rfl (by kernel_rfl) (by rfl) (fun K hK => ?_)
  simp only [List.getElem_toArray, List.getElem_cons_zero, List.getElem_cons_succ]
  go_simp
  go_wp2_with fail
  refine hK.out _ _ (by first | exact Below.refl _ _ | exact (Below.refl _ _).drew | assumption | exact Below.drew (Below.alloc (Below.refl _ _) (by simp) _) | exact Below.drew (Below.setCell (by assumption) (by simp) _)) ?_
  clear hK K
  intro hHeld2
  clear hHeld
  have hHeld := hHeld2
  clear hHeld2
  try simp only [pS]
  refine run_at (i := 10) rfl (by kernel_rfl) (by rfl) (fun K hK => ?_)
  simp only [List.getElem_toArray, List.getElem_cons_zero, List.getElem_cons_succ]
  go_simp
  go_wp2_with fail
  refine hK.out _ _ (by first | exact Below.refl _ _ | exact (Below.refl _ _).drew | assumption | exact Below.drew (Below.alloc (Below.refl _ _) (by simp) _) | exact Below.drew (Below.setCell (by assumption) (by simp) _)) ?_
  clear hK K
  intro hHeld2
  clear hHeld
  have hHeld := hHeld2
  clear hHeld2
  try simp only [pS]
  refine tz (i := 11) 7 rfl rfl hHeld ?_
  simp only [pS]
  refine wpAnyH_done (by kernel_rfl) ?_ _
  refine NoPanic.normal ?_
  go_wp2
  refine wp_region_noPanic ?_
  refine wp_region_held_drew (S := (fun u => Below (w.heap.size + 1) (w.alloc (.cells #[.int .u64 (s.1 : Int), .int .u64 (s.2 : Int)] tSs)) u)) (by kernel_rfl) (by first | assumption | exact (Below.alloc (Below.refl _ _) (by simp) _).drew.drew) (fun hHeld => ?_)
  refine tz (i := 0) 17 rfl rfl hHeld ?_
  simp only [pS]
  refine tz (i := 1) 18 rfl rfl hHeld ?_
  simp only [pS]
  refine tz (i := 2) 19 rfl rfl hHeld ?_
  simp only [pS]
  refine tz (i := 3) 20 rfl rfl hHeld ?_
  simp only [pS]
  refine tz (i := 4) 21 rfl rfl hHeld ?_
  simp only [pS]
  refine tz (i := 5) 22 rfl rfl hHeld ?_
  simp only [pS]
  refine tz (i := 6) 23 rfl rfl hHeld ?_
  simp only [pS]
  refine tz (i := 8) 25 rfl rfl hHeld ?_
  simp only [pS]
  refine tz (i := 9) 26 rfl rfl hHeld ?_
  simp only [pS]
  refine tz (i := 10) 27 rfl rfl hHeld ?_
  simp only [pS]
  refine tz (i := 11) 28 rfl rfl hHeld ?_
  simp only [pS]
  refine val_at (i := 7) 24 (v := .int .i64 (E.length : Int)) rfl rfl (by kernel_rfl) (by rfl) ?_ ?_ ?_
  · (go_simp; try with_reducible rfl)
  · (first | assumption | exact (Below.alloc (Below.refl _ _) (by simp) _).drew.drew)
  intro hHeld2
  clear hHeld
  have hHeld := hHeld2
  clear hHeld2
  simp only [pS]
  refine tz (i := 12) 29 rfl rfl hHeld ?_
  simp only [pS]
  refine tz (i := 13) 30 rfl rfl hHeld ?_
  simp only [pS]
  refine wpAnyH_done (by kernel_rfl) ?_ _
  refine NoPanic.normal ?_
  go_wp2
  obtain ⟨w3, hw3⟩ : ∃ w3, w3 = ((w.alloc (.cells #[.int .u64 (s.1 : Int), .int .u64 (s.2 : Int)] tSs)).alloc (.cells #[(.pointer none), .int .u64 0] tEB)).drew.drew := ⟨_, rfl⟩
  rw [← hw3]
  have hb3 : Below w.heap.size w w3 := by rw [hw3]; exact (al (al (Below.refl _ _) _) _).drew.drew
  have hk3 : w3.heap[w.heap.size]? = some (.cells #[.int .u64 (s.1 : Int), .int .u64 (s.2 : Int)] tSs (0, 0)) := by
    rw [hw3]
    show ((w.alloc _).alloc _).heap[_]? = _
    rw [Below.heap_alloc _ _ _ (by simp)]
    exact heap_alloc_new w _
  have hp3 := (hb3.block p hpl).trans HP.out
  have hr3 := RowM.below HR.out hb3
  obtain ⟨d0, d1, d2, d3⟩ := HCU.out w3 hp3
  have HOLD : Hid (Calls _ _ _ w3.drew _) := oldB_t (w := w3.drew) (o := o) (p := p) d1 d2 (RowM.kept (w' := w3.drew) hr3 rfl) x r HE.out hTb
  have HB3 : Hid _ := hb3
  have HK3 : Hid _ := hk3
  have HP3 : Hid _ := hp3
  have HR3 : Hid _ := hr3
  clear hw3 hb3 hk3 hp3 hr3
  refine wp_region_noPanic ?_
  refine wp_region_held_drew (S := (fun u => u.cell? ⟨p, o + 2, none⟩ = some (.map (some m)))) (by kernel_rfl) (by first | exact d2 | exact HC4.out | exact HCD.out | assumption) (fun hHeld => ?_)
  refine tz (i := 0) 31 rfl rfl hHeld ?_
  simp only [pS]
  refine tz (i := 1) 32 rfl rfl hHeld ?_
  simp only [pS]
  refine tz (i := 2) 33 rfl rfl hHeld ?_
  simp only [pS]
  refine tz (i := 3) 34 rfl rfl hHeld ?_
  simp only [pS]
  refine tz (i := 4) 35 rfl rfl hHeld ?_
  simp only [pS]
  refine run_at (i := 5) rfl (by kernel_rfl) (by rfl) (fun K hK => ?_)
  simp only [List.getElem_toArray, List.getElem_cons_zero, List.getElem_cons_succ]
  go_simp
  (go_at_call 67; refine Calls.mono HOLD.out ?_; rintro e w4 ⟨rfl, hb4⟩; have HB4 : Hid (Below w3.heap.size w3 w4) := ((Below.refl w3.heap.size w3).drew).trans hb4; have HC4 : Hid (w4.cell? ⟨p, o + 2, none⟩ = some (.map (some m))) := (HCU.out w4 ((hb4.block p (Array.getElem?_eq_some_iff.1 HP3.out).1).trans HP3.out)).2.2.1; clear hb4)
  go_wp2_with fail
  refine hK.out _ _ (by first | exact d2 | exact HC4.out | exact HCD.out | assumption) ?_
  clear hK K
  intro hHeld2
  clear hHeld
  have hHeld := hHeld2
  clear hHeld2
  try simp only [pS]
  refine run_at (i := 6) rfl (by kernel_rfl) (by rfl) (fun K hK => ?_)
  simp only [List.getElem_toArray, List.getElem_cons_zero, List.getElem_cons_succ]
  (refine wpo_del undB _ _ rfl (RowM.below HR3.out HB4.out) (HXS.out) (by rfl) (by rfl) ?_; intro wD hrD hgD; have HRD : Hid _ := hrD; have HPD : Hid (wD.heap[p]? = some (.cells C ty (0, 0))) := (hgD.block p (by have := (Array.getElem?_eq_some_iff.1 HP3.out).1; have := HB4.out.size; show p < w4.heap.size; omega) (fun e => HPM.out (Option.some.inj e))).trans ((HB4.out.block p (Array.getElem?_eq_some_iff.1 HP3.out).1).trans HP3.out); have HKD : Hid (wD.heap[w.heap.size]? = _) := (hgD.block w.heap.size (by have := (Array.getElem?_eq_some_iff.1 HK3.out).1; have := HB4.out.size; show w.heap.size < w4.heap.size; omega) (fun e => by have := Option.some.inj e; have := RowM.lt HR.out; omega)).trans ((HB4.out.block w.heap.size (Array.getElem?_eq_some_iff.1 HK3.out).1).trans HK3.out); have HCD : Hid (wD.cell? ⟨p, o + 2, none⟩ = some (.map (some m))) := (HCU.out wD HPD.out).2.2.1; have HCHD : Hid (Chg (fun b => b = p ∨ b = m) w wD) := (Chg.of_below (F := fun b => b = p ∨ b = m) (below_next HB3.out HB4.out)).trans (Chg.of_grown hgD (F := fun b => b = p ∨ b = m) (fun b e => .inr (Option.some.inj e).symm)) (fun b hb => .inl hb); clear hrD hgD)
  refine hK.out _ _ (by first | exact d2 | exact HC4.out | exact HCD.out | assumption) ?_
  clear hK K
  intro hHeld2
  clear hHeld
  have hHeld := hHeld2
  clear hHeld2
  try simp only [pS]
  refine wpAnyH_done (by kernel_rfl) ?_ _
  refine NoPanic.normal ?_
  have hw3s := HB3.out.size
  have hpD : wD.heap[p]? = some (.cells C ty (0, 0)) := HPD.out
  obtain ⟨f0, f1, f2, f3⟩ := HCU.out wD hpD
  have hplD : p < wD.heap.size := (Array.getElem?_eq_some_iff.1 hpD).1
  clear hpD hw3s
  go_wp2
  obtain ⟨w5, hw5⟩ : ∃ w5, w5 = wD.setCell ⟨p, o + 1, none⟩ (.int .u64 ((T : Int) + 1)) := ⟨_, rfl⟩
  rw [← hw5]
  have hT0 : (T : Int) + 1 = ((T + 1 : Nat) : Int) := by omega
  have hp5 : w5.heap[p]? = some (.cells (C.setIfInBounds (o + 1) (.int .u64 ((T + 1 : Nat) : Int))) ty (0, 0)) := by
    rw [hw5, hT0]
    exact heap_setCell_same wD p (o + 1) C ty _ HPD.out
  have hk5 : w5.heap[w.heap.size]? = some (.cells #[.int .u64 (s.1 : Int), .int .u64 (s.2 : Int)] tSs (0, 0)) := by
    rw [hw5, Below.heap_setCell _ _ _ _ (by show w.heap.size ≠ p; omega)]
    exact HKD.out
  have hr5 : RowM w5 m (T + 1) (mp fB r) := by
    have h9 : RowM w5 m T (rm (mp fB E) x.1) := RowM.kept HRD.out (by rw [hw5]; exact Below.heap_setCell _ _ _ _ (fun e => HPM.out e.symm))
    have h8 : rm (mp fB E) x.1 = mp fB r := by
      have h7 := RowM.nd HR.out
      rw [ks_mp, HE.out] at h7
      rw [← rm_mp, HE.out, rm_head h7]
    rw [h8] at h9
    exact h9.more (Nat.le_succ T)
  have hch5 : Chg (fun b => b = p ∨ b = m) w w5 := HCHD.out.trans (Chg.of_grown (hw5 ▸ gset1 wD p (o + 1) _) (F := fun b => b = p ∨ b = m) (fun b e => .inl (Option.some.inj e).symm)) (fun b hb => .inl hb)
  clear hw5 hT0 f0 f1 f2 f3 d0 d1 d2 d3
  have HS5 : Hid (∀ u : World, u.heap[p]? = w5.heap[p]? → u.heap[w.heap.size]? = w5.heap[w.heap.size]? → u.heap[m]? = u.heap[m]? → u.cell? ⟨p, o + 2, none⟩ = some (.map (some m)) ∧ u.cell? ⟨p, o + 1, none⟩ = some (.int .u64 ((T + 1 : Nat) : Int)) ∧ u.cell? ⟨w.heap.size, 0, none⟩ = some (.int .u64 (s.1 : Int)) ∧ u.cell? ⟨w.heap.size, 1, none⟩ = some (.int .u64 (s.2 : Int))) := fun u e1 e2 _ => by
    have h1 := e1.trans hp5
    have h2 := e2.trans hk5
    refine ⟨?_, ?_, ?_, ?_⟩
    · rw [cell_of_row _ _ _ _ _ _ h1, Array.getElem?_setIfInBounds_ne (by omega)]; exact HC1.out.2
    · rw [cell_of_row _ _ _ _ _ _ h1, Array.getElem?_setIfInBounds_self_of_lt HC1.out.1]
    · rw [cell_of_row _ _ _ _ _ _ h2]; rfl
    · rw [cell_of_row _ _ _ _ _ _ h2]; rfl
  have HR5 : Hid _ := hr5
  have HP5 : Hid _ := hp5
  have HK5 : Hid _ := hk5
  have HCH5 : Hid _ := hch5
  have hT1 : (T : Int) + 1 = ((T + 1 : Nat) : Int) := by omega
  rw [hT1]
  have HT1 : Hid _ := hT1
  clear hr5 hp5 hk5 hch5 hcu hlk hlen hkb hT1 hTw
  have HL5 : Hid ((mp fB (r)).length ≤ 8192) := by unfold Hid; rw [len_mp]; have h9 := hL; rw [HE.out] at h9; simp at h9; omega
  have HR5L : Hid (∀ x, x ∈ mp fB (r) → x.2.2 ≤ T) := fun x hx => (RowM.le HR.out x (by rw [HE.out]; exact List.mem_cons_of_mem _ hx)).2
  refine wp_region_noPanic ?_
  refine wp_region_held_drew (S := (fun u => u.cell? ⟨p, o + 2, none⟩ = some (.map (some m)) ∧ u.cell? ⟨p, o + 1, none⟩ = some (.int .u64 ((T + 1 : Nat) : Int)) ∧ u.cell? ⟨w.heap.size, 0, none⟩ = some (.int .u64 (s.1 : Int)) ∧ u.cell? ⟨w.heap.size, 1, none⟩ = some (.int .u64 (s.2 : Int)))) (by kernel_rfl) (by first | exact HS5.out w5 rfl rfl rfl | exact HS6.out | assumption) (fun hHeld => ?_)
  refine tz (i := 0) 44 rfl rfl hHeld ?_
  simp only [pS]
  refine tz (i := 1) 45 rfl rfl hHeld ?_
  simp only [pS]
  refine tz (i := 2) 46 rfl rfl hHeld ?_
  simp only [pS]
  refine tz (i := 3) 47 rfl rfl hHeld ?_
  simp only [pS]
  refine tz (i := 4) 48 rfl rfl hHeld ?_
  simp only [pS]
  refine tz (i := 5) 49 rfl rfl hHeld ?_
  simp only [pS]
  refine tz (i := 6) 50 rfl rfl hHeld ?_
  simp only [pS]
  refine tz (i := 7) 51 rfl rfl hHeld ?_
  simp only [pS]
  refine tz (i := 8) 52 rfl rfl hHeld ?_
  simp only [pS]
  refine tz (i := 9) 53 rfl rfl hHeld ?_
  simp only [pS]
  refine tz (i := 10) 54 rfl rfl hHeld ?_
  simp only [pS]
  refine run_at (i := 11) rfl (by kernel_rfl) (by rfl) (fun K hK => ?_)
  simp only [List.getElem_toArray, List.getElem_cons_zero, List.getElem_cons_succ]
  (refine wpo_upd undB _ _ _ rfl (RowM.kept (w' := w5.drew) HR5.out rfl) hs _ (T + 1) (by rfl) (by rfl) (by first | rfl | (show (Value.agg _) = _; simp)) (by omega) (fun x hx => by have := (HR5L.out x hx); omega) (Nat.le_refl _) HL5.out ?_; intro w6 hr6 hg6; have HS6 : Hid (w6.cell? ⟨p, o + 2, none⟩ = some (.map (some m)) ∧ w6.cell? ⟨p, o + 1, none⟩ = some (.int .u64 ((T + 1 : Nat) : Int)) ∧ w6.cell? ⟨w.heap.size, 0, none⟩ = some (.int .u64 (s.1 : Int)) ∧ w6.cell? ⟨w.heap.size, 1, none⟩ = some (.int .u64 (s.2 : Int))) := HS5.out w6 (hg6.block p (Array.getElem?_eq_some_iff.1 HP5.out).1 (fun e => HPM.out (Option.some.inj e))) (hg6.block w.heap.size (Array.getElem?_eq_some_iff.1 HK5.out).1 (fun e => by have := Option.some.inj e; have := RowM.lt HR.out; omega)) rfl; have HF6 : Hid (RowM w6 m (T + 1) (mp fB (r ++ [(s, (c, T + 1))])) ∧ w6.heap[p]? = some (.cells (C.setIfInBounds (o + 1) (.int .u64 ((T + 1 : Nat) : Int))) ty (0, 0)) ∧ Chg (fun b => b = p ∨ b = m) w w6) := And.intro ((by rw [show mp fB (r ++ [(s, (c, T + 1))]) = rm (mp fB r) s ++ [(s, fB (c, T + 1))] by rw [rm_not (by rw [ks_mp]; exact HSN.out)]; simp [mp]]; exact hr6)) (And.intro ((hg6.block p (Array.getElem?_eq_some_iff.1 HP5.out).1 (fun e => HPM.out (Option.some.inj e))).trans HP5.out) ((Chg.drew HCH5.out).trans (Chg.of_grown hg6 (F := fun b => b = p ∨ b = m) (fun b e => .inr (Option.some.inj e).symm)) (fun b hb => .inl hb))); clear hr6 hg6)
  refine hK.out _ _ (by first | exact HS5.out w5 rfl rfl rfl | exact HS6.out | assumption) ?_
  clear hK K
  intro hHeld2
  clear hHeld
  have hHeld := hHeld2
  clear hHeld2
  try simp only [pS]
  refine wpAnyH_done (by kernel_rfl) ?_ _
  refine NoPanic.normal ?_
  go_end0
  exact ⟨rfl, HF6.out⟩
end
end Go.Proofs.YtdoikcolkbjnfaaGreat
