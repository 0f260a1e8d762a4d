import Derived.Test.YtdoikcolkbjnfaaGreatIxR
import Derived.Test.YtdoikcolkbjnfaaGreatCA
namespace Go.Proofs.YtdoikcolkbjnfaaGreat
set_option linter.unusedVariables false
set_option linter.unusedSimpArgs false
open Go.RowKit Go.Maps
/-- the box of a key -/
theorem keyBox (w : World) (s : Ss) : ∀ u, Below (w.heap.size + 1) (w.alloc (.cells #[.int .u64 (s.1 : Int), .int .u64 (s.2 : Int)] tSs)) u → u.cell? ⟨w.heap.size, 0, none⟩ = some (.int .u64 (s.1 : Int)) ∧ u.cell? ⟨w.heap.size, 1, none⟩ = some (.int .u64 (s.2 : Int)) ∧ Below w.heap.size w u := fun u hu => by
  have h9 : u.heap[w.heap.size]? = some (.cells #[.int .u64 (s.1 : Int), .int .u64 (s.2 : Int)] tSs (0, 0)) := (hu.block w.heap.size (by omega)).trans (heap_alloc_new w _)
  exact ⟨by rw [cell_of_row _ _ _ _ _ _ h9]; rfl, by rw [cell_of_row _ _ _ _ _ _ h9]; rfl, (al (Below.refl w.heap.size w) _).trans (hu.mono (by omega))⟩
end Go.Proofs.YtdoikcolkbjnfaaGreat
namespace Go.Proofs.YtdoikcolkbjnfaaGreat
set_option linter.unusedVariables false
set_option linter.unusedSimpArgs false
open Go.RowKit Go.Maps
abbrev tMI : TypeId := 81
abbrev tEI : TypeId := 128
theorem undI : Tryz.prog.underlying tMI = some (.map tSs tEI) := Tryz.underlying81
theorem zerI (u : World) : (zeroValue tEI).run Tryz.prog u = .ok (.agg #[(.int .i64 0), .int .u64 0]) u := by kernel_rfl
/-- what is held, with its touch -/
abbrev fI (x : Int × Nat) : Value × Nat := ((fun c : Int => ((.int .i64 c) : Value)) x.1, x.2)
section
variable {w w' : World} {p o m T : Nat} {E : List (Ss × (Int × Nat))}
set_option maxRecDepth 20000
set_option maxHeartbeats 1600000
theorem lkI {s : Ss} {c : Int} {t : Nat} (hl : lk E s = some (c, t)) : lk (mp fI E) s = some ((.int .i64 c), t) := by rw [lk_mp, hl]; rfl
theorem lkIn {s : Ss} (hl : lk E s = none) : lk (mp fI E) s = none := by rw [lk_mp, hl]; rfl
theorem getI_in (hc : w.cell? ⟨p, o + 2, none⟩ = some (.map (some m))) (h : RowM w m T (mp fI E)) {s : Ss} (hs : inS s) {c : Int} {t : Nat} (hl : lk E s = some (c, t)) :
    Calls Tryz.prog 36 #[.pointer (some ⟨p, o, none⟩), sv s] w fun e w' => e = .returned (.tuple #[(.int .i64 c), .bool true]) ∧ Below w.heap.size w w' := by
  have hlk : ∀ u, Below w.heap.size w u → (Instr.lookup tMI (.map (some m)) (.agg #[.int .u64 (s.1 : Int), .int .u64 (s.2 : Int)]) true).run Tryz.prog u = .ok (.tuple #[.agg #[(.int .i64 c), .int .u64 (t : Int)], .bool true]) u := fun u hu => (h.below hu).look_in undI zerI hs (lkI hl)
  have hcu : ∀ u, Below w.heap.size w u → u.cell? ⟨p, o + 2, none⟩ = some (.map (some m)) := fun u hu => (hu.cell (World.block_lt_of_cell? w _ hc)).trans hc
  have hkb := keyBox w s
  clear h hl hc
  go_enter Tryz.func36, Tryz.ntmps36
  go_wp2
  refine wp_region_noPanic ?_
  refine wp_region_held_drew (S := (fun u => Below (w.heap.size + 1) (w.alloc (.cells #[.int .u64 (s.1 : Int), .int .u64 (s.2 : Int)] tSs)) u)) (by kernel_rfl) (by first | exact Below.refl _ _ | exact (Below.refl _ _).drew | assumption | exact Below.drew (Below.alloc (Below.refl _ _) (by simp) _) | exact Below.drew (Below.setCell (by assumption) (by simp) _)) (fun hHeld => ?_)
  refine tz (i := 0) 9 rfl rfl hHeld ?_
  simp only [pS]
  refine tz (i := 1) 10 rfl rfl hHeld ?_
  simp only [pS]
  refine tz (i := 2) 11 rfl rfl hHeld ?_
  simp only [pS]
  refine tz (i := 3) 12 rfl rfl hHeld ?_
  simp only [pS]
  refine tz (i := 4) 13 rfl rfl hHeld ?_
  simp only [pS]
  refine tz (i := 5) 14 rfl rfl hHeld ?_
  simp only [pS]
  refine tz (i := 6) 8 rfl rfl hHeld ?_
  simp only [pS]
  refine tz (i := 7) 15 rfl rfl hHeld ?_
  simp only [pS]
  refine tz (i := 8) 16 rfl rfl hHeld ?_
  simp only [pS]
  refine run_at (i := 9) rfl (by kernel_rfl) (by rfl) (fun K hK => ?_)
  simp only [List.getElem_toArray, List.getElem_cons_zero, List.getElem_cons_succ]
  go_simp
  go_wp2_with fail
  refine hK.out _ _ (by first | exact Below.refl _ _ | exact (Below.refl _ _).drew | assumption | exact Below.drew (Below.alloc (Below.refl _ _) (by simp) _) | exact Below.drew (Below.setCell (by assumption) (by simp) _)) ?_
  clear hK K
  intro hHeld2
  clear hHeld
  have hHeld := hHeld2
  clear hHeld2
  try simp only [pS]
  refine run_at (i := 10) rfl (by kernel_rfl) (by rfl) (fun K hK => ?_)
  simp only [List.getElem_toArray, List.getElem_cons_zero, List.getElem_cons_succ]
  go_simp
  go_wp2_with fail
  refine hK.out _ _ (by first | exact Below.refl _ _ | exact (Below.refl _ _).drew | assumption | exact Below.drew (Below.alloc (Below.refl _ _) (by simp) _) | exact Below.drew (Below.setCell (by assumption) (by simp) _)) ?_
  clear hK K
  intro hHeld2
  clear hHeld
  have hHeld := hHeld2
  clear hHeld2
  try simp only [pS]
  refine tz (i := 11) 7 rfl rfl hHeld ?_
  simp only [pS]
  refine wpAnyH_done (by kernel_rfl) ?_ _
  refine NoPanic.normal ?_
  go_wp2
  go_ret2
  exact ⟨rfl, (al (al (Below.refl _ _) _) _).drew⟩
theorem getI_no (hc : w.cell? ⟨p, o + 2, none⟩ = some (.map (some m))) (h : RowM w m T (mp fI E)) {s : Ss} (hs : inS s) (hl : lk E s = none) :
    Calls Tryz.prog 36 #[.pointer (some ⟨p, o, none⟩), sv s] w fun e w' => e = .returned (.tuple #[(.int .i64 0), .bool false]) ∧ Below w.heap.size w w' := by
  have hlk : ∀ u, Below w.heap.size w u → (Instr.lookup tMI (.map (some m)) (.agg #[.int .u64 (s.1 : Int), .int .u64 (s.2 : Int)]) true).run Tryz.prog u = .ok (.tuple #[.agg #[(.int .i64 0), .int .u64 0], .bool false]) u := fun u hu => (h.below hu).look_no undI zerI hs (lkIn hl)
  have hcu : ∀ u, Below w.heap.size w u → u.cell? ⟨p, o + 2, none⟩ = some (.map (some m)) := fun u hu => (hu.cell (World.block_lt_of_cell? w _ hc)).trans hc
  have hkb := keyBox w s
  clear h hl hc
  go_enter Tryz.func36, Tryz.ntmps36
  go_wp2
  refine wp_region_noPanic ?_
  refine wp_region_held_drew (S := (fun u => Below (w.heap.size + 1) (w.alloc (.cells #[.int .u64 (s.1 : Int), .int .u64 (s.2 : Int)] tSs)) u)) (by kernel_rfl) (by first | exact Below.refl _ _ | exact (Below.refl _ _).drew | assumption | exact Below.drew (Below.alloc (Below.refl _ _) (by simp) _) | exact Below.drew (Below.setCell (by assumption) (by simp) _)) (fun hHeld => ?_)
  refine tz (i := 0) 9 rfl rfl hHeld ?_
  simp only [pS]
  refine tz (i := 1) 10 rfl rfl hHeld ?_
  simp only [pS]
  refine tz (i := 2) 11 rfl rfl hHeld ?_
  simp only [pS]
  refine tz (i := 3) 12 rfl rfl hHeld ?_
  simp only [pS]
  refine tz (i := 4) 13 rfl rfl hHeld ?_
  simp only [pS]
  refine tz (i := 5) 14 rfl rfl hHeld ?_
  simp only [pS]
  refine tz (i := 6) 8 rfl rfl hHeld ?_
  simp only [pS]
  refine tz (i := 7) 15 rfl rfl hHeld ?_
  simp only [pS]
  refine tz (i := 8) 16 rfl rfl hHeld ?_
  simp only [pS]
  refine run_at (i := 9) rfl (by kernel_rfl) (by rfl) (fun K hK => ?_)
  simp only [List.getElem_toArray, List.getElem_cons_zero, List.getElem_cons_succ]
  go_simp
  go_wp2_with fail
  refine hK.out _ _ (by first | exact Below.refl _ _ | exact (Below.refl _ _).drew | assumption | exact Below.drew (Below.alloc (Below.refl _ _) (by simp) _) | exact Below.drew (Below.setCell (by assumption) (by simp) _)) ?_
  clear hK K
  intro hHeld2
  clear hHeld
  have hHeld := hHeld2
  clear hHeld2
  try simp only [pS]
  refine run_at (i := 10) rfl (by kernel_rfl) (by rfl) (fun K hK => ?_)
  simp only [List.getElem_toArray, List.getElem_cons_zero, List.getElem_cons_succ]
  go_simp
  go_wp2_with fail
  refine hK.out _ _ (by first | exact Below.refl _ _ | exact (Below.refl _ _).drew | assumption | exact Below.drew (Below.alloc (Below.refl _ _) (by simp) _) | exact Below.drew (Below.setCell (by assumption) (by simp) _)) ?_
  clear hK K
  intro hHeld2
  clear hHeld
  have hHeld := hHeld2
  clear hHeld2
  try simp only [pS]
  refine tz (i := 11) 7 rfl rfl hHeld ?_
  simp only [pS]
  refine wpAnyH_done (by kernel_rfl) ?_ _
  refine NoPanic.normal ?_
  go_wp2
  go_ret2
  exact ⟨rfl, (al (al (Below.refl _ _) _) _).drew⟩
end
end Go.Proofs.YtdoikcolkbjnfaaGreat
namespace Go.Proofs.YtdoikcolkbjnfaaGreat
set_option linter.unusedVariables false
set_option linter.unusedSimpArgs false
open Go.RowKit Go.Maps
/-- what the search for the one that was touched least lately knows -/
structure OldI (E : List (Ss × (Int × Nat))) (T : Nat) (ds : List Ss) (cu : Ss) (ls : Nat) : Prop where
  lo : ∀ x, x ∈ E → x.1 ∈ ds → ls ≤ x.2.2
  at_ : ls = T + 1 ∨ ∃ x, x ∈ E ∧ x.1 = cu ∧ x.2.2 = ls
theorem OldI.end_ {E : List (Ss × (Int × Nat))} {T : Nat} {ds : List Ss} {cu : Ss} {ls : Nat} (h : OldI E T ds cu ls) {x : Ss × (Int × Nat)} {r : List (Ss × (Int × Nat))} (hE : E = x :: r) (hd : ∀ s, s ∈ ds ↔ s ∈ ks E) (hT : ∀ y, y ∈ E → y.2.2 ≤ T) (hs : E.Pairwise (fun a b => a.2.2 < b.2.2)) : cu = x.1 := by
  subst hE
  have h0 : x ∈ x :: r := List.mem_cons_self
  have h1 := h.lo x h0 ((hd _).2 (mem_ks h0))
  have h2 := hT x h0
  rcases h.at_ with h3 | ⟨y, hy, e1, e2⟩
  · omega
  · rcases List.mem_cons.1 hy with rfl | hy
    · exact e1.symm
    · have := (List.pairwise_cons.1 hs).1 y hy
      omega
theorem OldI.step {E : List (Ss × (Int × Nat))} {T : Nat} {ds : List Ss} {cu : Ss} {ls : Nat} (h : OldI E T ds cu ls) {y : Ss} {c : Int} {t : Nat} (hy : (y, (c, t)) ∈ E) (hn : (ks (mp fI E)).Nodup) : OldI E T (ds ++ [y]) (if t < ls then y else cu) (if t < ls then t else ls) := by
  rw [ks_mp] at hn
  refine ⟨fun x hx hd => ?_, ?_⟩
  · have h1 : x.1 ∈ ds ∨ x.1 = y := by simpa using hd
    have h2 : t < ls ∨ ¬ t < ls := by omega
    rcases h1 with h1 | h1
    · have := h.lo x hx h1
      split <;> omega
    · have e1 := lk_of hn hx
      have e2 := lk_of hn hy
      rw [h1] at e1
      have e3 : x.2 = (c, t) := Option.some.inj (e1.symm.trans e2)
      rw [e3]
      split
      · exact Nat.le_refl _
      · show ls ≤ t
        omega
  · by_cases h1 : t < ls
    · rw [if_pos h1, if_pos h1]
      exact .inr ⟨_, hy, rfl, rfl⟩
    · rw [if_neg h1, if_neg h1]
      exact h.at_
theorem soI {E : List (Ss × (Int × Nat))} (h : (mp fI E).Pairwise (fun a b => a.2.2 < b.2.2)) : E.Pairwise (fun a b => a.2.2 < b.2.2) := by
  unfold mp at h
  rw [List.pairwise_map] at h
  exact h
theorem leI {w : World} {m T : Nat} {E : List (Ss × (Int × Nat))} (h : RowM w m T (mp fI E)) {x : Ss × (Int × Nat)} (hx : x ∈ E) : 1 ≤ x.2.2 ∧ x.2.2 ≤ T := h.le _ (List.mem_map.2 ⟨x, hx, rfl⟩)
section
variable {w w' : World} {p o m T : Nat} {E : List (Ss × (Int × Nat))}
set_option maxRecDepth 20000
set_option maxHeartbeats 1600000
theorem oldI_t (hT : w.cell? ⟨p, o + 1, none⟩ = some (.int .u64 (T : Int))) (hc : w.cell? ⟨p, o + 2, none⟩ = some (.map (some m))) (h : RowM w m T (mp fI E)) (x : Ss × (Int × Nat)) (r : List (Ss × (Int × Nat))) (hE : E = x :: r) (hTb : T < 9223372036854775807) :
    Calls Tryz.prog 62 #[.pointer (some ⟨p, o, none⟩)] w fun e w' => e = .returned (sv x.1) ∧ Below w.heap.size w w' := by
  have hTw : IntKind.u64.wrap ((T : Int) + 1) = ((T + 1 : Nat) : Int) := by rw [IntKind.wrap_u64]; omega
  have HE : Hid _ := hE
  have HR : Hid _ := h
  obtain ⟨P, hP⟩ : ∃ P, P = w.heap.size := ⟨_, rfl⟩
  obtain ⟨w2, hw2⟩ : ∃ w2, w2 = (w.alloc (.cells #[.int .u64 0, .int .u64 0] tSs)).alloc (.cells #[.int .u64 0, .int .u64 0] tSs) := ⟨_, rfl⟩
  have hb2 : Below w.heap.size w w2 := by rw [hw2]; exact al (al (Below.refl _ _) _) _
  have hA : w2.heap[P]? = some (.cells #[.int .u64 0, .int .u64 0] tSs (0, 0)) := by
    rw [hw2, hP]
    exact (heap_alloc_old (w.alloc _) _ (by simp)).trans (heap_alloc_new w _)
  have hB : w2.heap[P + 1]? = some (.cells #[.int .u64 0, .int .u64 0] tSs (0, 0)) := by
    rw [hw2, hP]
    have h9 := heap_alloc_new (w.alloc (Obj.cells #[.int .u64 0, .int .u64 0] tSs)) (Obj.cells #[.int .u64 0, .int .u64 0] tSs)
    rw [World.size_alloc] at h9
    exact h9
  have hS2 : w2.heap.size = P + 2 := by rw [hw2, hP]; simp
  have hpl : p < w.heap.size := World.block_lt_of_cell? w _ hT
  have HW2 : Hid (w2 = _) := hw2
  have HRM : Hid (RowM w2 m T (mp fI E)) := h.below hb2
  have HP : Hid (P = w.heap.size) := hP
  clear h hE hP hw2
  go_enter Tryz.func62, Tryz.ntmps62
  go_wp2_with (at_range; refine wpn_range undI rfl _ rfl (T := T) (L := mp fI E) (by have h9 := HRM.out; rw [HW2.out] at h9; exact h9) rfl ?_; intro w3 hr3 hg3 hs3)
  go_frame
  rw [← HW2.out] at hr3 hg3 hs3 ⊢
  obtain ⟨R, hR⟩ : ∃ R, R = w2.heap.size := ⟨_, rfl⟩
  rw [← hR] at hr3 ⊢
  rw [← HP.out]
  have hb3 : Below w.heap.size w w3 := hb2.grown hg3 hb2.size (fun j hj => by cases hj)
  have hA3 : w3.heap[P]? = some (.cells #[.int .u64 0, .int .u64 0] tSs (0, 0)) := (hg3.block P (by omega) (by simp)).trans hA
  have hB3 : w3.heap[P + 1]? = some (.cells #[.int .u64 0, .int .u64 0] tSs (0, 0)) := (hg3.block (P + 1) (by omega) (by simp)).trans hB
  have HRP : Hid (R = P + 2) := by unfold Hid; omega
  have hT1 : ((T + 1 : Nat) : Int) = (T : Int) + 1 := by omega
  rw [← hT1]
  have HT1 : Hid (((T + 1 : Nat) : Int) = (T : Int) + 1) := hT1
  clear hA hB hg3 hs3 hS2 hR hb2 hT hc hTw hT1
  obtain ⟨L1, hL1⟩ : ∃ L1, L1 = T + 1 := ⟨_, rfl⟩
  rw [← hL1]
  have HL1 : Hid (L1 = T + 1) := hL1
  clear hL1
  go_loopw [4] (fun lv wr => ∃ (ds : List Ss) (cnt ls : Nat) (cu : Ss), lv = .int .u64 (ls : Int) ∧ RngM wr m R T (mp fI E) ds cnt ∧ wr.heap[P]? = some (.cells #[.int .u64 0, .int .u64 0] tSs (0, 0)) ∧ wr.heap[P + 1]? = some (.cells #[.int .u64 (cu.1 : Int), .int .u64 (cu.2 : Int)] tSs (0, 0)) ∧ Below w.heap.size w wr ∧ Hid (OldI E T ds cu ls)) (fun _ wr => wr.rangeLeft m R)
  case atStart => exact ⟨[], _, L1, (0, 0), rfl, hr3, hA3, hB3, hb3, (show OldI E T [] (0, 0) L1 from ⟨fun x _ h9 => (List.not_mem_nil h9).elim, .inl HL1.out⟩)⟩
  case round =>
    obtain ⟨ds, cnt, ls, cu, rfl, hrg, hA, hB, hbw, HO⟩ := hrel
    clear hr3 hA3 hB3 hb3
    go_wp2_with (at_next; refine wpn_next rfl _ rfl hrg rfl ?_ ?_)
    · intro hd
      have hcu : cu = x.1 := OldI.end_ HO.out HE.out (fun s => by have := hd s.1 s.2; rw [ks_mp] at this; exact this) (fun y hy => (leI HR.out hy).2) (soI (RowM.so HR.out))
      have HCU : Hid (cu = x.1) := hcu
      have hcA : wr.cell? ⟨P, 0, none⟩ = some (.int .u64 0) ∧ wr.cell? ⟨P, 1, none⟩ = some (.int .u64 0) ∧ wr.cell? ⟨P + 1, 0, none⟩ = some (.int .u64 (cu.1 : Int)) ∧ wr.cell? ⟨P + 1, 1, none⟩ = some (.int .u64 (cu.2 : Int)) := ⟨by rw [cell_of_row _ _ _ _ _ _ hA]; rfl, by rw [cell_of_row _ _ _ _ _ _ hA]; rfl, by rw [cell_of_row _ _ _ _ _ _ hB]; rfl, by rw [cell_of_row _ _ _ _ _ _ hB]; rfl⟩
      have hfz : wr.frozen? ⟨P, 0, none⟩ = false ∧ wr.frozen? ⟨P, 1, none⟩ = false := ⟨by simp [World.frozen?, hA], by simp [World.frozen?, hA]⟩
      clear hcu hd hrg HO
      go_wp2
      refine bodyPost_ret (v := sv cu) (by simp [results, Tryz.results62, go_sem, hcA, hfz]) rfl ⟨by rw [HCU.out], ?_⟩
      have hPw := HP.out
      exact ((hbw.setCell (p := ⟨P, 0, none⟩) (by show w.heap.size ≤ P; omega) _).setCell (p := ⟨P, 1, none⟩) (by show w.heap.size ≤ P; omega) _)
    · intro e9 n9 v9 t9 w5 cnt5 hx9 hnd hrg5 hlt5 hg5 hs5 hen
      obtain ⟨⟨⟨ye, yn⟩, ⟨yc, yt⟩⟩, hyE, hy⟩ := List.mem_map.1 hx9
      cases hy
      have hA5 := (hg5.block P (Array.getElem?_eq_some_iff.1 hA).1 (fun e => by have := HRP.out; have := Option.some.inj e; omega)).trans hA
      have hB5 := (hg5.block (P + 1) (Array.getElem?_eq_some_iff.1 hB).1 (fun e => by have := HRP.out; have := Option.some.inj e; omega)).trans hB
      have hl5 : P + 1 < w5.heap.size := (Array.getElem?_eq_some_iff.1 hB5).1
      have hb5 : Below w.heap.size w w5 := hbw.grown hg5 hbw.size (fun j hj => by have := HRP.out; have := HP.out; have := Option.some.inj hj; omega)
      have HO5 : Hid (OldI E T (ds ++ [(e9, n9)]) (if yt < ls then (e9, n9) else cu) (if yt < ls then yt else ls)) := OldI.step HO.out hyE (RngM.nl hrg)
      obtain ⟨w6, hw6⟩ : ∃ w6, w6 = (w5.alloc (.cells #[.int .u64 (e9 : Int), .int .u64 (n9 : Int)] tSs)).alloc (.cells #[(fun c : Int => ((.int .i64 c) : Value)) yc, .int .u64 (yt : Int)] tEI) := ⟨_, rfl⟩
      have hA6 : w6.heap[P]? = some (.cells #[.int .u64 0, .int .u64 0] tSs (0, 0)) := by rw [hw6, Below.heap_alloc _ _ _ (by simp; omega), Below.heap_alloc _ _ _ (by omega)]; exact hA5
      have hB6 : w6.heap[P + 1]? = some (.cells #[.int .u64 (cu.1 : Int), .int .u64 (cu.2 : Int)] tSs (0, 0)) := by rw [hw6, Below.heap_alloc _ _ _ (by simp; omega), Below.heap_alloc _ _ _ (by omega)]; exact hB5
      have hb6 : Below w.heap.size w w6 := by rw [hw6]; exact al (al hb5 _) _
      have hrg6 : RngM w6 m R T (mp fI E) (ds ++ [(e9, n9)]) cnt5 := by rw [hw6]; exact (hrg5.alloc _).alloc _
      have HLT : Hid (cnt5 < wr.rangeLeft m R) := by unfold Hid; rw [hrg.left_eq]; exact hlt5
      obtain ⟨Z, hZ⟩ : ∃ Z, Z = w5.heap.size := ⟨_, rfl⟩
      have hZ0 : w6.heap[Z]? = some (.cells #[.int .u64 (e9 : Int), .int .u64 (n9 : Int)] tSs (0, 0)) := by
        rw [hw6, hZ, Below.heap_alloc _ _ _ (by simp)]
        exact heap_alloc_new w5 _
      have hZ1 : w6.heap[Z + 1]? = some (.cells #[(fun c : Int => ((.int .i64 c) : Value)) yc, .int .u64 (yt : Int)] tEI (0, 0)) := by
        rw [hw6, hZ]
        have h9 := heap_alloc_new (w5.alloc (Obj.cells #[.int .u64 (e9 : Int), .int .u64 (n9 : Int)] tSs)) (.cells #[(fun c : Int => ((.int .i64 c) : Value)) yc, .int .u64 (yt : Int)] tEI)
        rw [World.size_alloc] at h9
        exact h9
      have HZP : Hid (P + 1 < Z) := by unfold Hid; omega
      have HRL : Hid (m < R ∨ R < m) := by
        obtain ⟨D, left, h9, -⟩ := hrg.ex
        have := h9.ne
        unfold Hid
        omega
      have hZc : w6.cell? ⟨Z, 0, none⟩ = some (.int .u64 (e9 : Int)) ∧ w6.cell? ⟨Z, 1, none⟩ = some (.int .u64 (n9 : Int)) ∧ w6.cell? ⟨Z + 1, 1, none⟩ = some (.int .u64 (yt : Int)) := ⟨by rw [cell_of_row _ _ _ _ _ _ hZ0]; rfl, by rw [cell_of_row _ _ _ _ _ _ hZ0]; rfl, by rw [cell_of_row _ _ _ _ _ _ hZ1]; rfl⟩
      have hBc : w6.cell? ⟨P + 1, 0, none⟩ = some (.int .u64 (cu.1 : Int)) ∧ w6.cell? ⟨P + 1, 1, none⟩ = some (.int .u64 (cu.2 : Int)) := ⟨by rw [cell_of_row _ _ _ _ _ _ hB6]; rfl, by rw [cell_of_row _ _ _ _ _ _ hB6]; rfl⟩
      have hBf : w6.frozen? ⟨P + 1, 0, none⟩ = false ∧ w6.frozen? ⟨P + 1, 1, none⟩ = false := ⟨by simp [World.frozen?, hB6], by simp [World.frozen?, hB6]⟩
      have HML : Hid (m < w.heap.size) := RowM.lt HR.out
      have HB6 : Hid _ := hb6
      have HRG6 : Hid _ := hrg6
      have HA6 : Hid _ := hA6
      have HBB6 : Hid _ := hB6
      have HW6 : Hid (w6 = _) := hw6
      have HZ : Hid (Z = w5.heap.size) := hZ
      clear hx9 hnd hrg5 hlt5 hg5 hs5 hrg hA hB hbw HO hA5 hb5 hB5 hw6 hA6 hB6 hb6 hrg6 hZ0 hZ1 hZ hl5
      by_cases hyl : yt < ls
      · rw [if_pos hyl, if_pos hyl] at HO5
        have hyi : (yt : Int) < (ls : Int) := by omega
        go_wp2
        rw [← HW6.out, ← HZ.out]
        refine wp_region_noPanic ?_
        refine wp_region_held_drew (S := (fun u => u.cell? ⟨Z, 0, none⟩ = some (.int .u64 (e9 : Int)) ∧ u.cell? ⟨Z, 1, none⟩ = some (.int .u64 (n9 : Int)) ∧ u.cell? ⟨Z + 1, 1, none⟩ = some (.int .u64 (yt : Int)))) (by kernel_rfl) (by first | exact hZc | (have h9 := HZP.out; refine ⟨?_, ?_, ?_⟩ <;> (simp [World.cell?_setCell_ne, hZc]; done)) | (have h9 := HZP.out; have n1 : ¬ Z = P + 1 := (by omega); have n2 : ¬ Z = P := (by omega); refine ⟨?_, ?_, ?_⟩ <;> (first | (go_simp; done) | (go_simp; first | exact hZc.1 | exact hZc.2.1 | exact hZc.2.2)))) (fun hHeld => ?_)
        refine tz (i := 0) 26 rfl rfl hHeld ?_
        simp only [pS]
        refine tz (i := 1) 27 rfl rfl hHeld ?_
        simp only [pS]
        refine tz (i := 2) 28 rfl rfl hHeld ?_
        simp only [pS]
        refine run_at (i := 3) rfl (by kernel_rfl) (by rfl) (fun K hK => ?_)
        simp only [List.getElem_toArray, List.getElem_cons_zero, List.getElem_cons_succ]
        go_simp
        go_wp2_with fail
        refine hK.out _ _ (by first | exact hZc | (have h9 := HZP.out; refine ⟨?_, ?_, ?_⟩ <;> (simp [World.cell?_setCell_ne, hZc]; done)) | (have h9 := HZP.out; have n1 : ¬ Z = P + 1 := (by omega); have n2 : ¬ Z = P := (by omega); refine ⟨?_, ?_, ?_⟩ <;> (first | (go_simp; done) | (go_simp; first | exact hZc.1 | exact hZc.2.1 | exact hZc.2.2)))) ?_
        clear hK K
        intro hHeld2
        clear hHeld
        have hHeld := hHeld2
        clear hHeld2
        try simp only [pS]
        refine tz (i := 4) 4 rfl rfl hHeld ?_
        simp only [pS]
        refine wpAnyH_done (by kernel_rfl) ?_ _
        refine NoPanic.normal ?_
        have hzp := HZP.out
        have hwp := HP.out
        have hrp := HRP.out
        have hml := HML.out
        have hB7 : ((w6.setCell ⟨P + 1, 0, none⟩ (.int .u64 (e9 : Int))).setCell ⟨P + 1, 1, none⟩ (.int .u64 (n9 : Int))).heap[P + 1]? = some (.cells #[.int .u64 (e9 : Int), .int .u64 (n9 : Int)] tSs (0, 0)) := heap_setCell_same _ (P + 1) 1 _ _ _ (heap_setCell_same w6 (P + 1) 0 _ _ _ HBB6.out)
        have hA7 : ((w6.setCell ⟨P + 1, 0, none⟩ (.int .u64 (e9 : Int))).setCell ⟨P + 1, 1, none⟩ (.int .u64 (n9 : Int))).heap[P]? = some (.cells #[.int .u64 0, .int .u64 0] tSs (0, 0)) := (Below.heap_setCell _ _ _ _ (by show P ≠ P + 1; omega)).trans ((Below.heap_setCell _ _ _ _ (by show P ≠ P + 1; omega)).trans HA6.out)
        have hR7 := ((RngM.set HRG6.out (P + 1) 0 (.int .u64 (e9 : Int)) (by omega) (by omega)).set (P + 1) 1 (.int .u64 (n9 : Int)) (by omega) (by omega)).drew
        have HR7 : Hid _ := hR7
        clear hzp hwp hrp hml hR7
        go_roundw
        case rel =>
          iterate 15 (apply Exists.intro)
          refine And.intro ?_ rfl
          exact ⟨_, _, yt, (e9, n9), rfl, HR7.out, hA7, hB7, ((Below.setCell HB6.out (p := ⟨P + 1, 0, none⟩) (by have := HP.out; show w.heap.size ≤ P + 1; omega) _).setCell (p := ⟨P + 1, 1, none⟩) (by have := HP.out; show w.heap.size ≤ P + 1; omega) _).drew, HO5⟩
        case measure => rw [RngM.left_eq HR7.out]; exact HLT.out
      · rw [if_neg hyl, if_neg hyl] at HO5
        have hyi : ¬ (yt : Int) < (ls : Int) := by omega
        go_wp2
        rw [← HW6.out]
        go_roundw
        case rel => exact ⟨_, _, ls, cu, rfl, HRG6.out, HA6.out, HBB6.out, HB6.out, HO5⟩
        case measure => rw [RngM.left_eq HRG6.out]; exact HLT.out
end
end Go.Proofs.YtdoikcolkbjnfaaGreat
