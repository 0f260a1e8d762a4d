import Derived.Test.YtdoikcolkbjnfaaGreatIxB3
import Derived.Test.YtdoikcolkbjnfaaGreatIxI5
namespace Go.Proofs.YtdoikcolkbjnfaaGreat
set_option linter.unusedVariables false
set_option linter.unusedSimpArgs false
open Go.RowKit Go.Maps
section
variable {w w' : World} {p o m T : Nat} {E : List (Ss × (Nat × Nat))}
theorem putB_t (ty : TypeId) (C : Array Value) (hp : w.heap[p]? = some (.cells C ty (0, 0))) (most : Nat) (c0 : C[o]? = some (.int .i64 (most : Int))) (c1 : C[o + 1]? = some (.int .u64 (T : Int))) (c2 : C[o + 2]? = some (.map (some m)))
    (h : RowM w m T (mp fB E)) {s : Ss} (hs : inS s) (c : Nat) (hTb : T < 9223372036854775807) (h1 : 1 ≤ most) (hm : most ≤ 8192) (hL : E.length ≤ most) :
    Calls Tryz.prog 39 #[.pointer (some ⟨p, o, none⟩), sv s, (.pointer (some ⟨c, 0, none⟩))] w fun e w' => e = .returned (.tuple #[]) ∧ RowM w' m (T + 1) (mp fB (pt most E s (c, T + 1))) ∧ w'.heap[p]? = some (.cells (C.setIfInBounds (o + 1) (.int .u64 ((T + 1 : Nat) : Int))) ty (0, 0)) ∧ Chg (fun b => b = p ∨ b = m) w w' := by
  cases hl : lk E s with
  | some a =>
    have e : pt most E s (c, T + 1) = rm E s ++ [(s, (c, T + 1))] := by unfold pt; rw [if_pos (mem_ks (lk_mem hl))]
    rw [e]
    exact putB_in ty C hp most c0 c1 c2 h hs c (c' := a.1) (t := a.2) hl hTb (by omega)
  | none =>
    have hn := lk_none.1 hl
    by_cases hf : most ≤ E.length
    · cases E with
      | nil => simp at hf; omega
      | cons x r =>
        have e : pt most (x :: r) s (c, T + 1) = r ++ [(s, (c, T + 1))] := by unfold pt; rw [if_neg hn, if_pos hf]; rfl
        rw [e]
        exact putB_full ty C hp most c0 c1 c2 h hs c hl hf x r rfl hTb (by omega)
    · have e : pt most E s (c, T + 1) = rm E s ++ [(s, (c, T + 1))] := by unfold pt; rw [if_neg hn, if_neg hf, rm_not hn]
      rw [e]
      exact putB_new ty C hp most c0 c1 c2 h hs c hl (by omega) hTb (by omega)
theorem clearB {es : Array MapEntry} {cl : Nat} (h : w.heap[m]? = some (.map es cl)) (ty : TypeId) : (Builtin.clear_ #[tMB] ty #[.map (some m)]).run Tryz.prog w = .ok (.tuple #[]) (ChangeMaps.setBlock w m (.map #[] cl)) := by
  simp [Builtin.clear_, run_underlying Tryz.underlying76, MapKept.run_getObj_map h, MapKept.run_setObj_map _ h, Result.andThen, ChangeMaps.setBlock]
theorem blkB {es : Array MapEntry} {cl : Nat} (h : w.heap[m]? = some (.map es cl)) : (ChangeMaps.setBlock w m (.map #[] cl)).heap[m]? = some (.map #[] cl) ∧ w.grownBy (ChangeMaps.setBlock w m (.map #[] cl)) (some m) := by
  have hm := (Array.getElem?_eq_some_iff.1 h).1
  refine ⟨by simp [ChangeMaps.setBlock, hm], ⟨rfl, rfl, rfl, by simp [ChangeMaps.setBlock], fun k hk hn => ?_⟩⟩
  have : m ≠ k := fun e => hn (by rw [e])
  simp [ChangeMaps.setBlock, this]
set_option maxRecDepth 20000
set_option maxHeartbeats 1600000
theorem emptyB_t (hc : w.cell? ⟨p, o + 2, none⟩ = some (.map (some m))) (h : RowM w m T (mp fB E)) :
    Calls Tryz.prog 60 #[.pointer (some ⟨p, o, none⟩)] w fun e w' => e = .returned (.tuple #[]) ∧ (∀ T', RowM w' m T' []) ∧ w.grownBy w' (some m) := by
  obtain ⟨es, cl, hes⟩ := h.at_
  obtain ⟨hm4, hg4⟩ := blkB hes
  have hclr := clearB hes
  obtain ⟨w4, hw4⟩ : ∃ w4 : World, w4 = ChangeMaps.setBlock w m (.map #[] cl) := ⟨_, rfl⟩
  rw [← hw4] at hm4 hg4 hclr
  clear hw4 hes h
  have HM : Hid _ := hm4
  have HG : Hid _ := hg4
  clear hm4 hg4
  go_enter Tryz.func60, Tryz.ntmps60
  go_wp2
  go_end0
  exact ⟨rfl, fun T' => RowM.nil HM.out T', HG.out⟩
theorem newRowB_t (w : World) (n : Nat) : Calls Tryz.prog 31 #[.int .i64 (n : Int)] w fun e w' => ∃ m, e = .returned (.agg #[.int .i64 (n : Int), .int .u64 0, .map (some m)]) ∧ RowM w' m 0 [] ∧ w.heap.size ≤ m ∧ Below w.heap.size w w' := by
  have hmm := @run_makeMap Tryz.prog
  go_enter Tryz.func31, Tryz.ntmps31
  go_wp2
  refine bodyPost_ret (v := .agg #[.int .i64 (n : Int), .int .u64 0, .map (some (w.heap.size + 1))]) (by simp [results, Tryz.results31, go_sem]) rfl ⟨w.heap.size + 1, rfl, RowM.nil (cl := 0) ?_ 0, by omega, al (al (Below.refl _ _) _) _⟩
  have h9 := heap_alloc_new (w.alloc (Obj.cells #[.int .i64 (n : Int), .int .u64 0, .map (some (w.heap.size + 1))] 78)) (Obj.map #[] 0)
  rw [World.size_alloc] at h9
  exact h9
theorem getVB (h : RowM w m T (mp fB E)) (s : Ss) : ∃ v : Value, ∀ u : World, RowM u m T (mp fB E) → inS s → (Instr.lookup tMB (.map (some m)) (.agg #[.int .u64 (s.1 : Int), .int .u64 (s.2 : Int)]) false).run Tryz.prog u = .ok (.agg #[v, .int .u64 (((match lk E s with | some a => a.2 | none => 0) : Nat) : Int)]) u := by
  cases hl : lk E s with
  | some a =>
    refine ⟨(fB a).1, fun u hu hs => ?_⟩
    have h9 := hu.get undB zerB hs
    rw [lk_mp, hl] at h9
    exact h9
  | none =>
    refine ⟨(.pointer none), fun u hu hs => ?_⟩
    have h9 := hu.get undB zerB hs
    rw [lk_mp, hl] at h9
    exact h9
theorem fldB (v : Value) (t : Int) (u : World) : (Instr.field tEB (.agg #[v, .int .u64 t]) 1).run Tryz.prog u = .ok (.int .u64 t) u := by first | kernel_rfl | (go_simp; done)
/-- when a session was touched -/
def tcB (E : List (Ss × (Nat × Nat))) (s : Ss) : Nat := match lk E s with | some a => a.2 | none => 0
theorem tcB_so (hn : (ks E).Nodup) (hs : E.Pairwise (fun a b => a.2.2 < b.2.2)) : (ks E).Pairwise (fun x y => tcB E x < tcB E y) := by
  have h1 : ∀ x, x ∈ E → tcB E x.1 = x.2.2 := fun x hx => by unfold tcB; rw [lk_of hn hx]
  unfold ks
  rw [List.pairwise_map]
  exact hs.imp_of_mem (fun {a b} ha hb h => by rw [h1 a ha, h1 b hb]; exact h)
theorem cloB_t (B : Nat) (hB : w.cell? ⟨B, 0, none⟩ = some (.pointer (some ⟨p, o, none⟩))) (hc : w.cell? ⟨p, o + 2, none⟩ = some (.map (some m))) (h : RowM w m T (mp fB E)) (x y : Sx) :
    Calls Tryz.prog 71 #[.agg (encS x).toArray, .agg (encS y).toArray, .pointer (some ⟨B, 0, none⟩)] w fun e w' => e = .returned (.int .i64 (cmpS (tcB E) x y)) ∧ ∃ q os', w' = Sort.grow (w.drewN q) os' := by
  obtain ⟨v1, hv1⟩ := getVB h x.1
  obtain ⟨v2, hv2⟩ := getVB h y.1
  obtain ⟨⟨x1, x2⟩, hx⟩ := x
  obtain ⟨⟨y1, y2⟩, hy⟩ := y
  have HCM : Hid (∀ u : World, Calls _ _ _ u _) := fun u => cmpS_t (tcB E (x1, x2) : Int) (tcB E (y1, y2) : Int) u
  have hR : cmpS (tcB E) ⟨(x1, x2), hx⟩ ⟨(y1, y2), hy⟩ = Lib.compareInt (tcB E (x1, x2) : Int) (tcB E (y1, y2) : Int) := rfl
  rw [hR]
  generalize Lib.compareInt (tcB E (x1, x2) : Int) (tcB E (y1, y2) : Int) = r1 at HCM ⊢
  obtain ⟨w2, hw2⟩ : ∃ w2, w2 = (w.alloc (Obj.cells #[.int .u64 (x1 : Int), .int .u64 (x2 : Int)] tSs)).alloc (Obj.cells #[.int .u64 (y1 : Int), .int .u64 (y2 : Int)] tSs) := ⟨_, rfl⟩
  obtain ⟨P, hP⟩ : ∃ P, P = w.heap.size := ⟨_, rfl⟩
  have hA : w2.heap[P]? = some (.cells #[.int .u64 (x1 : Int), .int .u64 (x2 : Int)] tSs (0, 0)) := by
    rw [hw2, hP]
    exact (Below.heap_alloc (w.alloc _) _ _ (by simp)).trans (heap_alloc_new w _)
  have hBB : w2.heap[P + 1]? = some (.cells #[.int .u64 (y1 : Int), .int .u64 (y2 : Int)] tSs (0, 0)) := by
    rw [hw2, hP]
    have h9 := heap_alloc_new (w.alloc (Obj.cells #[.int .u64 (x1 : Int), .int .u64 (x2 : Int)] tSs)) (Obj.cells #[.int .u64 (y1 : Int), .int .u64 (y2 : Int)] tSs)
    rw [World.size_alloc] at h9
    exact h9
  have hb2 : Below w.heap.size w w2 := by rw [hw2]; exact al (al (Below.refl _ _) _) _
  have hS : ∀ u, Below w2.heap.size w2 u → u.cell? ⟨P, 0, none⟩ = some (.int .u64 (x1 : Int)) ∧ u.cell? ⟨P, 1, none⟩ = some (.int .u64 (x2 : Int)) ∧ u.cell? ⟨P + 1, 0, none⟩ = some (.int .u64 (y1 : Int)) ∧ u.cell? ⟨P + 1, 1, none⟩ = some (.int .u64 (y2 : Int)) ∧ u.cell? ⟨B, 0, none⟩ = some (.pointer (some ⟨p, o, none⟩)) ∧ u.cell? ⟨p, o + 2, none⟩ = some (.map (some m)) ∧ (Instr.lookup tMB (.map (some m)) (.agg #[.int .u64 (x1 : Int), .int .u64 (x2 : Int)]) false).run Tryz.prog u = .ok (.agg #[v1, .int .u64 (tcB E (x1, x2) : Int)]) u ∧ (Instr.lookup tMB (.map (some m)) (.agg #[.int .u64 (y1 : Int), .int .u64 (y2 : Int)]) false).run Tryz.prog u = .ok (.agg #[v2, .int .u64 (tcB E (y1, y2) : Int)]) u := fun u hu => by
    have a1 := (hu.block P (Array.getElem?_eq_some_iff.1 hA).1).trans hA
    have a2 := (hu.block (P + 1) (Array.getElem?_eq_some_iff.1 hBB).1).trans hBB
    have hb := below_next hb2 hu
    refine ⟨by rw [cell_of_row _ _ _ _ _ _ a1]; rfl, by rw [cell_of_row _ _ _ _ _ _ a1]; rfl, by rw [cell_of_row _ _ _ _ _ _ a2]; rfl, by rw [cell_of_row _ _ _ _ _ _ a2]; rfl, (hb.cell (World.block_lt_of_cell? w _ hB)).trans hB, (hb.cell (World.block_lt_of_cell? w _ hc)).trans hc, hv1 u (h.below hb) hx, hv2 u (h.below hb) hy⟩
  have HW2 : Hid (w2 = _) := hw2
  have HP : Hid (P = w.heap.size) := hP
  obtain ⟨t1, ht1⟩ : ∃ t1 : Nat, t1 = tcB E (x1, x2) := ⟨_, rfl⟩
  obtain ⟨t2, ht2⟩ : ∃ t2 : Nat, t2 = tcB E (y1, y2) := ⟨_, rfl⟩
  rw [← ht1, ← ht2] at hS HCM
  clear h hv1 hv2 hR hB hc hA hBB hb2 hw2 hP ht1 ht2
  go_enter Tryz.func71, Tryz.ntmps71
  go_wp2
  rw [← HW2.out, ← HP.out]
  have hfl := fldB
  refine wp_region_noPanic ?_
  refine wp_region_held_drew (S := (fun u => Below w2.heap.size w2 u)) (by kernel_rfl) (by first | exact Below.refl _ _ | exact (Below.refl _ _).drew | assumption) (fun hHeld => ?_)
  refine tz (i := 0) 6 rfl rfl hHeld ?_
  simp only [pS]
  refine tz (i := 1) 7 rfl rfl hHeld ?_
  simp only [pS]
  refine tz (i := 2) 8 rfl rfl hHeld ?_
  simp only [pS]
  refine tz (i := 3) 9 rfl rfl hHeld ?_
  simp only [pS]
  refine tz (i := 4) 10 rfl rfl hHeld ?_
  simp only [pS]
  refine tz (i := 5) 11 rfl rfl hHeld ?_
  simp only [pS]
  refine tz (i := 6) 12 rfl rfl hHeld ?_
  simp only [pS]
  refine tz (i := 7) 13 rfl rfl hHeld ?_
  simp only [pS]
  refine tz (i := 8) 14 rfl rfl hHeld ?_
  simp only [pS]
  refine tz (i := 9) 15 rfl rfl hHeld ?_
  simp only [pS]
  refine tz (i := 10) 16 rfl rfl hHeld ?_
  simp only [pS]
  refine tz (i := 11) 17 rfl rfl hHeld ?_
  simp only [pS]
  refine tz (i := 12) 18 rfl rfl hHeld ?_
  simp only [pS]
  refine tz (i := 13) 19 rfl rfl hHeld ?_
  simp only [pS]
  refine run_at (i := 14) rfl (by kernel_rfl) (by rfl) (fun K hK => ?_)
  simp only [List.getElem_toArray, List.getElem_cons_zero, List.getElem_cons_succ]
  go_simp
  (go_at_call 72; refine Calls.mono (HCM.out _) ?_; rintro e u4 ⟨rfl, hq4⟩; have hq4 := hq4.symm; subst hq4)
  go_wp2_with fail
  refine hK.out _ _ (by first | exact Below.refl _ _ | exact (Below.refl _ _).drew | assumption) ?_
  clear hK K
  intro hHeld2
  clear hHeld
  have hHeld := hHeld2
  clear hHeld2
  try simp only [pS]
  refine tz (i := 15) 5 rfl rfl hHeld ?_
  simp only [pS]
  refine wpAnyH_done (by kernel_rfl) ?_ _
  refine NoPanic.normal ?_
  go_wp2
  go_ret
  exact ⟨rfl, 1, _, by
    rw [HW2.out]
    show ((w.drewN 1).alloc _).alloc _ = _
    rw [Sort.alloc_eq_grow, Sort.alloc_eq_grow, Sort.grow_grow]⟩
end
end Go.Proofs.YtdoikcolkbjnfaaGreat
namespace Go.Proofs.YtdoikcolkbjnfaaGreat
set_option linter.unusedVariables false
set_option linter.unusedSimpArgs false
open Go.RowKit Go.Maps Go.Shelf
section
variable {w w' : World} {p o m T : Nat} {E : List (Ss × (Nat × Nat))}
set_option maxRecDepth 20000
set_option maxHeartbeats 1600000
theorem srtB_t (B Bx : Nat) (v : Value) (ds : List Ss) (hds : ∀ s, s ∈ ds → inS s) (h : OwnG KSs w B v ds) (hl : ds.length ≤ 8192) (hB : w.cell? ⟨Bx, 0, none⟩ = some (.pointer (some ⟨p, o, none⟩))) (hc : w.cell? ⟨p, o + 2, none⟩ = some (.map (some m))) (hr : RowM w m T (mp fB E)) (n1 : Bx < B) (n2 : p < B) (n3 : m < B) :
    Calls Tryz.prog 70 #[v, .func (.func 71) #[] #[.pointer (some ⟨Bx, 0, none⟩)]] w fun e w' => e = .returned (.tuple #[]) ∧ ∃ ys : List Ss, ys.Perm ds ∧ ys.Pairwise (fun x y => ¬ tcB E y < tcB E x) ∧ OwnG KSs w' B v ys ∧ w.grownBy w' v.ownBlock := by
  rcases h.2 with ⟨rfl, h0⟩ | ⟨g, cap, cur, rfl, hBg, r⟩
  · obtain rfl : ds = [] := List.eq_nil_of_length_eq_zero h0
    refine (AnyF.slices_SortFunc_none Tryz.sortS none 0 (.func (.func 71) #[] #[.pointer (some ⟨Bx, 0, none⟩)]) w).mono ?_
    rintro e w' ⟨rfl, rfl⟩
    exact ⟨rfl, [], .refl _, List.Pairwise.nil, h, World.grownBy.refl _ _⟩
  · have e1 : valS (ds.attachWith inS hds) = ds := List.attachWith_map_subtype_val hds
    have e2 : (ds.attachWith inS hds).length = ds.length := by simp
    have hcon := sortS_s 71 #[.pointer (some ⟨Bx, 0, none⟩)] (tcB E) B g cap (ds.attachWith inS hds) w (by rw [e1, e2]; exact h) (by rw [e2]; exact hl) (enters_of Tryz.func71 (by kernel_rfl) rfl)
      (fun u hu x y => cloB_t Bx (hu.cell hB (fun e => by have h9 : Bx = g := Option.some.inj e; omega)) (hu.cell hc (fun e => by have h9 : p = g := Option.some.inj e; omega)) (hr.kept (hu.block m hr.lt (fun e => by have := Option.some.inj e; omega))) x y)
    rw [e2] at hcon
    refine hcon.mono ?_
    rintro e w' ⟨rfl, ys, hp, hso, ho, hg⟩
    refine ⟨rfl, valS ys, ?_, List.pairwise_map.2 hso, ho, hg⟩
    have h9 : (valS ys).Perm (valS (ds.attachWith inS hds)) := hp.map (fun x : Sx => x.1)
    rw [e1] at h9
    exact h9
theorem sesB_t (hc : w.cell? ⟨p, o + 2, none⟩ = some (.map (some m))) (h : RowM w m T (mp fB E)) (hL : E.length ≤ 8192) :
    Calls Tryz.prog 41 #[.pointer (some ⟨p, o, none⟩)] w fun e w' => ∃ v, e = .returned v ∧ OwnG KSs w' w.heap.size v (ks E) ∧ Below w.heap.size w w' := by
  have hpl : p < w.heap.size := World.block_lt_of_cell? w _ hc
  have hml : m < w.heap.size := h.lt
  have HR : Hid _ := h
  obtain ⟨P, hP⟩ : ∃ P, P = w.heap.size := ⟨_, rfl⟩
  obtain ⟨w2, hw2⟩ : ∃ w2, w2 = w.alloc (.cells #[.pointer (some ⟨p, o, none⟩)] 136) := ⟨_, rfl⟩
  have hb2 : Below w.heap.size w w2 := by rw [hw2]; exact al (Below.refl _ _) _
  have hA : w2.heap[P]? = some (.cells #[.pointer (some ⟨p, o, none⟩)] 136 (0, 0)) := by
    rw [hw2, hP]
    exact heap_alloc_new w _
  have hS2 : w2.heap.size = P + 1 := by rw [hw2, hP]; simp
  have HW2 : Hid (w2 = _) := hw2
  have HRM : Hid (RowM w2 m T (mp fB E)) := h.below hb2
  have HP : Hid (P = w.heap.size) := hP
  clear h hP hw2
  go_enter Tryz.func41, Tryz.ntmps41
  go_wp2_with (at_range; refine wpn_range undB rfl _ rfl (T := T) (L := mp fB E) (by have h9 := HRM.out; rw [HW2.out] at h9; exact h9) rfl ?_; intro w3 hr3 hg3 hs3)
  go_frame
  rw [← HW2.out] at hr3 hg3 hs3 ⊢
  obtain ⟨R, hR⟩ : ∃ R, R = w2.heap.size := ⟨_, rfl⟩
  rw [← hR] at hr3 ⊢
  rw [← HP.out]
  have hb3 : Below w.heap.size w w3 := hb2.grown hg3 hb2.size (fun j hj => by cases hj)
  have hA3 : w3.heap[P]? = some (.cells #[.pointer (some ⟨p, o, none⟩)] 136 (0, 0)) := (hg3.block P (by omega) (by simp)).trans hA
  have HRP : Hid (R = P + 1) := by unfold Hid; omega
  have hs4 : P + 2 ≤ w3.heap.size := by omega
  have HC : Hid _ := hc
  clear hA hg3 hs3 hS2 hR hb2 hc
  go_loopw [3] (fun v wr => ∃ (ds : List Ss) (cnt : Nat), RngM wr m R T (mp fB E) ds cnt ∧ OwnG KSs wr (P + 2) v ds ∧ wr.heap[P]? = some (.cells #[.pointer (some ⟨p, o, none⟩)] 136 (0, 0)) ∧ Below w.heap.size w wr ∧ P + 2 ≤ wr.heap.size) (fun _ wr => wr.rangeLeft m R)
  case atStart => exact ⟨[], _, hr3, World.ownsRow_nil _ _ _ _, hA3, hb3, hs4⟩
  case round =>
    obtain ⟨ds, cnt, hrg, hown, hA, hbw, hsz⟩ := hrel
    clear hr3 hA3 hb3 hs4
    go_wp2_with (at_next; refine wpn_next rfl _ rfl hrg rfl ?_ ?_)
    · intro hd
      have hdE : ∀ s, s ∈ ds ↔ s ∈ ks E := fun s => by have := hd s.1 s.2; rw [ks_mp] at this; exact this
      have hcB : wr.cell? ⟨P, 0, none⟩ = some (.pointer (some ⟨p, o, none⟩)) := by rw [cell_of_row _ _ _ _ _ _ hA]; rfl
      have hcM : wr.cell? ⟨p, o + 2, none⟩ = some (.map (some m)) := (hbw.cell hpl).trans HC.out
      have hrw : RowM wr m T (mp fB E) := RowM.below HR.out hbw
      have hdl : ds.length ≤ 8192 := by have := hrg.sub; rw [len_mp] at this; omega
      have HSRT : Hid (Calls _ _ _ wr _) := srtB_t (P + 2) P u3 ds (fun s hs => hrg.rg s ((by rw [ks_mp]; exact (hdE s).1 hs))) hown hdl hcB hcM hrw (by omega) (by have := HP.out; omega) (by have := HP.out; omega)
      have HND : Hid _ := hrg.nd
      have HDE : Hid _ := hdE
      obtain ⟨av, cv, hvv, -⟩ : ∃ a c, u3 = .slice a ds.length c ∧ True := by
        rcases hown.2 with ⟨rfl, h0⟩ | ⟨g, cap, cur, rfl, -⟩
        · exact ⟨none, 0, by rw [h0], trivial⟩
        · exact ⟨_, _, rfl, trivial⟩
      have HBW : Hid _ := hbw
      have HSZ : Hid _ := hsz
      obtain ⟨N, hN⟩ : ∃ N, N = ds.length := ⟨_, rfl⟩
      rw [← hN] at hvv
      subst hvv
      have hlt3 : ∀ b, (Value.slice av N cv).ownBlock = some b → P + 2 ≤ b := fun b hb => (World.ownsRow.lt hown b hb).1
      have HLT3 : Hid _ := hlt3
      clear hd hdE hrg hown hA hcB hcM hrw hdl hbw hsz hN hlt3
      go_wp2_with fail
      refine Calls.mono HSRT.out ?_
      rintro e w6 ⟨rfl, ys, hpm, hso, hown6, hg6⟩
      have hyE : ys = ks E := sort_is (tcB_so (by have h9 := RowM.nd HR.out; rw [ks_mp] at h9; exact h9) (soB (RowM.so HR.out))) (hpm.nodup_iff.2 HND.out) (fun t => (hpm.mem_iff).trans (HDE.out t)) hso
      have HO6 : Hid (OwnG KSs w6 (P + 2) (.slice av N cv) (ks E)) := by rw [← hyE]; exact hown6
      have HG6 : Hid _ := hg6
      clear hpm hso hown6 hg6 hyE
      go_wp2
      go_ret
      exact ⟨_, rfl, OwnG.base HO6.out (by have := HP.out; omega), HBW.out.grown HG6.out HBW.out.size (fun j hj => by have := HLT3.out j hj; have := HP.out; omega)⟩
    · intro e9 n9 v9 t9 w5 cnt5 hx9 hnd hrg5 hlt5 hg5 hs5 hen
      obtain ⟨⟨⟨ye, yn⟩, ⟨yc, yt⟩⟩, hyE, hy⟩ := List.mem_map.1 hx9
      cases hy
      have hrp := HRP.out
      have hA5 := (hg5.block P (Array.getElem?_eq_some_iff.1 hA).1 (fun e => by have := Option.some.inj e; omega)).trans hA
      have hb5 : Below w.heap.size w w5 := hbw.grown hg5 hbw.size (fun j hj => by have := HP.out; have := Option.some.inj hj; omega)
      have hown5 : OwnG KSs w5 (P + 2) u3 ds := hown.kept (fun b hb => hg5.block b (hown.lt' hb).2 (fun e => by have := (hown.lt' hb).1; have := Option.some.inj e; omega))
      have hlt3 : ∀ b, u3.ownBlock = some b → P + 2 ≤ b := fun b hb => (hown.lt' hb).1
      have hdl : ds.length ≤ 8192 := by have := hrg.sub; rw [len_mp] at this; omega
      have HLT : Hid (cnt5 < wr.rangeLeft m R) := by unfold Hid; rw [hrg.left_eq]; exact hlt5
      have HA5 : Hid _ := hA5
      have HB5 : Hid _ := hb5
      have HRG5 : Hid _ := hrg5
      have HLT3 : Hid _ := hlt3
      have HO5 : Hid (OwnG KSs ((w5.alloc (.cells #[.int .u64 (e9 : Int), .int .u64 (n9 : Int)] tSs)).alloc (.cells #[.int .u64 (e9 : Int), .int .u64 (n9 : Int)] tSs)) (P + 2) u3 ds) := (OwnG.below hown5 (al (Below.refl _ _) _)).below (al (Below.refl _ _) _)
      have HMR : Hid (m ≠ R ∧ R < w5.heap.size) := by
        obtain ⟨D, left, h9, -⟩ := hrg5.ex
        exact ⟨fun e => h9.ne e.symm, h9.lt⟩
      have hs5' : P + 2 ≤ w5.heap.size := by omega
      clear hx9 hnd hrg5 hlt5 hg5 hs5 hrg hA hbw hA5 hb5 hown hown5 hlt3 hrp hsz
      go_wp2_with (at_builtin; refine wp_appG1 (K := KSs) rfl _ _ rfl (P + 2) u3 ds (e9, n9) ds.length rfl ⟨w5.heap.size + 1, 0, none⟩ 1 rfl HO5.out rfl (rdS_new _ (e9, n9) _ (by simp)) (by show (ds.length + 1) * 16 ≤ _; omega) (by simp only [maxLen]; omega) (by simp; omega) ?_; intro g7 c7 w7 hown7 hg7 hlie7)
      go_roundw
      case rel =>
        have hrg7 := ((HRG5.out.alloc (.cells #[.int .u64 (e9 : Int), .int .u64 (n9 : Int)] tSs)).alloc (.cells #[.int .u64 (e9 : Int), .int .u64 (n9 : Int)] tSs))
        refine ⟨_, _, RngM.kept hrg7 (hg7.block m hrg7.lt.1 (fun e => ?_)) (hg7.block R hrg7.lt.2 (fun e => ?_)), hown7, (hg7.block P ?_ (fun e => ?_)).trans ((Below.heap_alloc _ _ _ ?_).trans ((Below.heap_alloc _ _ _ ?_).trans HA5.out)), (al (al HB5.out _) _).grown hg7 ?_ (fun j hj => ?_), ?_⟩
        · have := HLT3.out m e.symm; have := HP.out; omega
        · have := HLT3.out R e.symm; have := HRP.out; omega
        · simp; omega
        · have := HLT3.out P e.symm; omega
        · simp; omega
        · omega
        · have := HB5.out.size; simp; omega
        · have := HLT3.out j hj; have := HP.out; omega
        · have := hg7.size; simp at this; omega
      case measure =>
        have hrg7 := ((HRG5.out.alloc (.cells #[.int .u64 (e9 : Int), .int .u64 (n9 : Int)] tSs)).alloc (.cells #[.int .u64 (e9 : Int), .int .u64 (n9 : Int)] tSs))
        have h9 := RngM.kept hrg7 (hg7.block m hrg7.lt.1 (fun e => by have := HLT3.out m e.symm; have := HP.out; omega)) (hg7.block R hrg7.lt.2 (fun e => by have := HLT3.out R e.symm; have := HRP.out; omega))
        rw [h9.left_eq]
        exact HLT.out
end
end Go.Proofs.YtdoikcolkbjnfaaGreat
namespace Go.Proofs.YtdoikcolkbjnfaaGreat
set_option linter.unusedVariables false
set_option linter.unusedSimpArgs false
open Go.RowKit Go.Maps
section
variable {w w' : World} {p o m T : Nat} {E : List (Ss × (Nat × Nat))} {C : Array Value} {ty : TypeId}
set_option maxRecDepth 20000
set_option maxHeartbeats 1600000
theorem drop_in (hp : w.heap[p]? = some (.cells C ty (0, 0))) (c2 : C[o + 2]? = some (.map (some m))) (h : RowM w m T (mp fB E)) {s : Ss} (hs : inS s) {c t : Nat} (hl : lk E s = some (c, t)) :
    Calls Tryz.prog 57 #[.pointer (some ⟨p, o, none⟩), sv s] w fun e w' => e = .returned (.bool true) ∧ RowM w' m T (mp fB (rm E s)) ∧ Chg (fun b => b = m) w w' := by
  have hlk : ∀ u, Below w.heap.size w u → (Instr.lookup tMB (.map (some m)) (.agg #[.int .u64 (s.1 : Int), .int .u64 (s.2 : Int)]) true).run Tryz.prog u = .ok (.tuple #[.agg #[.pointer (some ⟨c, 0, none⟩), .int .u64 (t : Int)], .bool true]) u := fun u hu => (h.below hu).look_in undB zerB hs (lkB hl)
  have hpl : p < w.heap.size := (Array.getElem?_eq_some_iff.1 hp).1
  have hpm : p ≠ m := fun e => by
    obtain ⟨es, cl, h9⟩ := h.at_
    rw [← e, hp] at h9
    cases h9
  have hc : w.cell? ⟨p, o + 2, none⟩ = some (.map (some m)) := by rw [cell_of_row _ _ _ _ _ _ hp]; exact c2
  have hcu : ∀ u, Below w.heap.size w u → u.cell? ⟨p, o + 2, none⟩ = some (.map (some m)) := fun u hu => (hu.cell hpl).trans hc
  have hkb := keyBox w s
  have HC : Hid _ := hc
  have HR : Hid _ := h
  have HPM : Hid _ := hpm
  clear h hp hc c2 hpm
  go_enter Tryz.func57, Tryz.ntmps57
  go_wp2
  refine wp_region_noPanic ?_
  refine wp_region_held_drew (S := (fun u => Below (w.heap.size + 1) (w.alloc (.cells #[.int .u64 (s.1 : Int), .int .u64 (s.2 : Int)] tSs)) u)) (by kernel_rfl) (by first | exact Below.refl _ _ | exact (Below.refl _ _).drew | assumption | exact Below.drew (Below.alloc (Below.refl _ _) (by simp) _) | exact Below.drew (Below.setCell (by assumption) (by simp) _)) (fun hHeld => ?_)
  refine tz (i := 0) 8 rfl rfl hHeld ?_
  simp only [pS]
  refine tz (i := 1) 9 rfl rfl hHeld ?_
  simp only [pS]
  refine tz (i := 2) 10 rfl rfl hHeld ?_
  simp only [pS]
  refine tz (i := 3) 11 rfl rfl hHeld ?_
  simp only [pS]
  refine tz (i := 4) 12 rfl rfl hHeld ?_
  simp only [pS]
  refine tz (i := 5) 13 rfl rfl hHeld ?_
  simp only [pS]
  refine tz (i := 6) 7 rfl rfl hHeld ?_
  simp only [pS]
  refine tz (i := 7) 14 rfl rfl hHeld ?_
  simp only [pS]
  refine tz (i := 8) 15 rfl rfl hHeld ?_
  simp only [pS]
  refine run_at (i := 9) rfl (by kernel_rfl) (by rfl) (fun K hK => ?_)
  simp only [List.getElem_toArray, List.getElem_cons_zero, List.getElem_cons_succ]
  go_simp
  go_wp2_with fail
  refine hK.out _ _ (by first | exact Below.refl _ _ | exact (Below.refl _ _).drew | assumption | exact Below.drew (Below.alloc (Below.refl _ _) (by simp) _) | exact Below.drew (Below.setCell (by assumption) (by simp) _)) ?_
  clear hK K
  intro hHeld2
  clear hHeld
  have hHeld := hHeld2
  clear hHeld2
  try simp only [pS]
  refine run_at (i := 10) rfl (by kernel_rfl) (by rfl) (fun K hK => ?_)
  simp only [List.getElem_toArray, List.getElem_cons_zero, List.getElem_cons_succ]
  go_simp
  go_wp2_with fail
  refine hK.out _ _ (by first | exact Below.refl _ _ | exact (Below.refl _ _).drew | assumption | exact Below.drew (Below.alloc (Below.refl _ _) (by simp) _) | exact Below.drew (Below.setCell (by assumption) (by simp) _)) ?_
  clear hK K
  intro hHeld2
  clear hHeld
  have hHeld := hHeld2
  clear hHeld2
  try simp only [pS]
  refine tz (i := 11) 6 rfl rfl hHeld ?_
  simp only [pS]
  refine wpAnyH_done (by kernel_rfl) ?_ _
  refine NoPanic.normal ?_
  go_wp2
  obtain ⟨w3, hw3⟩ : ∃ w3, w3 = ((w.alloc (.cells #[.int .u64 (s.1 : Int), .int .u64 (s.2 : Int)] tSs)).alloc (.cells #[.pointer (some ⟨c, 0, none⟩), .int .u64 (t : Int)] tEB)).drew := ⟨_, rfl⟩
  rw [← hw3]
  have hb3 : Below w.heap.size w w3 := by rw [hw3]; exact (al (al (Below.refl _ _) _) _).drew
  have hk3 : w3.heap[w.heap.size]? = some (.cells #[.int .u64 (s.1 : Int), .int .u64 (s.2 : Int)] tSs (0, 0)) := by
    rw [hw3]
    show ((w.alloc _).alloc _).heap[_]? = _
    rw [Below.heap_alloc _ _ _ (by simp)]
    exact heap_alloc_new w _
  have HS3 : Hid (∀ u : World, u.heap[p]? = w3.heap[p]? → u.heap[w.heap.size]? = w3.heap[w.heap.size]? → u.cell? ⟨p, o + 2, none⟩ = some (.map (some m)) ∧ u.cell? ⟨w.heap.size, 0, none⟩ = some (.int .u64 (s.1 : Int)) ∧ u.cell? ⟨w.heap.size, 1, none⟩ = some (.int .u64 (s.2 : Int))) := fun u e1 e2 => by
    have h2 := e2.trans hk3
    exact ⟨(World.cell?_of_block (e1.trans (hb3.block p hpl))).trans HC.out, by rw [cell_of_row _ _ _ _ _ _ h2]; rfl, by rw [cell_of_row _ _ _ _ _ _ h2]; rfl⟩
  have HB3 : Hid _ := hb3
  have HK3 : Hid _ := hk3
  clear hw3 hb3 hk3 hcu hkb hlk
  refine wp_region_noPanic ?_
  refine wp_region_held_drew (S := (fun u => u.cell? ⟨p, o + 2, none⟩ = some (.map (some m)) ∧ u.cell? ⟨w.heap.size, 0, none⟩ = some (.int .u64 (s.1 : Int)) ∧ u.cell? ⟨w.heap.size, 1, none⟩ = some (.int .u64 (s.2 : Int)))) (by kernel_rfl) (by first | exact HS3.out w3 rfl rfl | exact HSD.out | assumption) (fun hHeld => ?_)
  refine tz (i := 0) 16 rfl rfl hHeld ?_
  simp only [pS]
  refine tz (i := 1) 17 rfl rfl hHeld ?_
  simp only [pS]
  refine tz (i := 2) 18 rfl rfl hHeld ?_
  simp only [pS]
  refine tz (i := 3) 19 rfl rfl hHeld ?_
  simp only [pS]
  refine tz (i := 4) 20 rfl rfl hHeld ?_
  simp only [pS]
  refine run_at (i := 5) rfl (by kernel_rfl) (by rfl) (fun K hK => ?_)
  simp only [List.getElem_toArray, List.getElem_cons_zero, List.getElem_cons_succ]
  (refine wpo_del undB _ _ rfl (RowM.below (w' := w3.drew) HR.out HB3.out.drew) hs (by rfl) (by rfl) ?_; intro wD hrD hgD; have HRD : Hid (RowM wD m T (mp fB (rm E s))) := (by rw [rm_mp]; exact hrD); have HSD : Hid _ := HS3.out wD (hgD.block p (by have := HB3.out.size; show p < w3.heap.size; omega) (fun e => HPM.out (Option.some.inj e))) (hgD.block w.heap.size ((Array.getElem?_eq_some_iff.1 HK3.out).1) (fun e => by have := Option.some.inj e; have := RowM.lt HR.out; omega)); have HCHD : Hid (Chg (fun b => b = m) w wD) := (Chg.of_below (F := fun b => b = m) HB3.out.drew).trans (Chg.of_grown hgD (F := fun b => b = m) (fun b e => (Option.some.inj e).symm)) (fun b hb => .inl hb); clear hrD hgD)
  refine hK.out _ _ (by first | exact HS3.out w3 rfl rfl | exact HSD.out | assumption) ?_
  clear hK K
  intro hHeld2
  clear hHeld
  have hHeld := hHeld2
  clear hHeld2
  try simp only [pS]
  refine wpAnyH_done (by kernel_rfl) ?_ _
  refine NoPanic.normal ?_
  go_wp2
  go_ret
  exact ⟨rfl, HRD.out, HCHD.out⟩
theorem drop_no (hp : w.heap[p]? = some (.cells C ty (0, 0))) (c2 : C[o + 2]? = some (.map (some m))) (h : RowM w m T (mp fB E)) {s : Ss} (hs : inS s) (hl : lk E s = none) :
    Calls Tryz.prog 57 #[.pointer (some ⟨p, o, none⟩), sv s] w fun e w' => e = .returned (.bool false) ∧ RowM w' m T (mp fB (rm E s)) ∧ Chg (fun b => b = m) w w' := by
  have hlk : ∀ u, Below w.heap.size w u → (Instr.lookup tMB (.map (some m)) (.agg #[.int .u64 (s.1 : Int), .int .u64 (s.2 : Int)]) true).run Tryz.prog u = .ok (.tuple #[.agg #[.pointer none, .int .u64 0], .bool false]) u := fun u hu => (h.below hu).look_no undB zerB hs (lkBn hl)
  have hpl : p < w.heap.size := (Array.getElem?_eq_some_iff.1 hp).1
  have hpm : p ≠ m := fun e => by
    obtain ⟨es, cl, h9⟩ := h.at_
    rw [← e, hp] at h9
    cases h9
  have hc : w.cell? ⟨p, o + 2, none⟩ = some (.map (some m)) := by rw [cell_of_row _ _ _ _ _ _ hp]; exact c2
  have hcu : ∀ u, Below w.heap.size w u → u.cell? ⟨p, o + 2, none⟩ = some (.map (some m)) := fun u hu => (hu.cell hpl).trans hc
  have hkb := keyBox w s
  have HC : Hid _ := hc
  have HR : Hid _ := h
  have HPM : Hid _ := hpm
  clear h hp hc c2 hpm
  go_enter Tryz.func57, Tryz.ntmps57
  go_wp2
  refine wp_region_noPanic ?_
  refine wp_region_held_drew (S := (fun u => Below (w.heap.size + 1) (w.alloc (.cells #[.int .u64 (s.1 : Int), .int .u64 (s.2 : Int)] tSs)) u)) (by kernel_rfl) (by first | exact Below.refl _ _ | exact (Below.refl _ _).drew | assumption | exact Below.drew (Below.alloc (Below.refl _ _) (by simp) _) | exact Below.drew (Below.setCell (by assumption) (by simp) _)) (fun hHeld => ?_)
  refine tz (i := 0) 8 rfl rfl hHeld ?_
  simp only [pS]
  refine tz (i := 1) 9 rfl rfl hHeld ?_
  simp only [pS]
  refine tz (i := 2) 10 rfl rfl hHeld ?_
  simp only [pS]
  refine tz (i := 3) 11 rfl rfl hHeld ?_
  simp only [pS]
  refine tz (i := 4) 12 rfl rfl hHeld ?_
  simp only [pS]
  refine tz (i := 5) 13 rfl rfl hHeld ?_
  simp only [pS]
  refine tz (i := 6) 7 rfl rfl hHeld ?_
  simp only [pS]
  refine tz (i := 7) 14 rfl rfl hHeld ?_
  simp only [pS]
  refine tz (i := 8) 15 rfl rfl hHeld ?_
  simp only [pS]
  refine run_at (i := 9) rfl (by kernel_rfl) (by rfl) (fun K hK => ?_)
  simp only [List.getElem_toArray, List.getElem_cons_zero, List.getElem_cons_succ]
  go_simp
  go_wp2_with fail
  refine hK.out _ _ (by first | exact Below.refl _ _ | exact (Below.refl _ _).drew | assumption | exact Below.drew (Below.alloc (Below.refl _ _) (by simp) _) | exact Below.drew (Below.setCell (by assumption) (by simp) _)) ?_
  clear hK K
  intro hHeld2
  clear hHeld
  have hHeld := hHeld2
  clear hHeld2
  try simp only [pS]
  refine run_at (i := 10) rfl (by kernel_rfl) (by rfl) (fun K hK => ?_)
  simp only [List.getElem_toArray, List.getElem_cons_zero, List.getElem_cons_succ]
  go_simp
  go_wp2_with fail
  refine hK.out _ _ (by first | exact Below.refl _ _ | exact (Below.refl _ _).drew | assumption | exact Below.drew (Below.alloc (Below.refl _ _) (by simp) _) | exact Below.drew (Below.setCell (by assumption) (by simp) _)) ?_
  clear hK K
  intro hHeld2
  clear hHeld
  have hHeld := hHeld2
  clear hHeld2
  try simp only [pS]
  refine tz (i := 11) 6 rfl rfl hHeld ?_
  simp only [pS]
  refine wpAnyH_done (by kernel_rfl) ?_ _
  refine NoPanic.normal ?_
  go_wp2
  obtain ⟨w3, hw3⟩ : ∃ w3, w3 = ((w.alloc (.cells #[.int .u64 (s.1 : Int), .int .u64 (s.2 : Int)] tSs)).alloc (.cells #[.pointer none, .int .u64 0] tEB)).drew := ⟨_, rfl⟩
  rw [← hw3]
  have hb3 : Below w.heap.size w w3 := by rw [hw3]; exact (al (al (Below.refl _ _) _) _).drew
  have hk3 : w3.heap[w.heap.size]? = some (.cells #[.int .u64 (s.1 : Int), .int .u64 (s.2 : Int)] tSs (0, 0)) := by
    rw [hw3]
    show ((w.alloc _).alloc _).heap[_]? = _
    rw [Below.heap_alloc _ _ _ (by simp)]
    exact heap_alloc_new w _
  have HS3 : Hid (∀ u : World, u.heap[p]? = w3.heap[p]? → u.heap[w.heap.size]? = w3.heap[w.heap.size]? → u.cell? ⟨p, o + 2, none⟩ = some (.map (some m)) ∧ u.cell? ⟨w.heap.size, 0, none⟩ = some (.int .u64 (s.1 : Int)) ∧ u.cell? ⟨w.heap.size, 1, none⟩ = some (.int .u64 (s.2 : Int))) := fun u e1 e2 => by
    have h2 := e2.trans hk3
    exact ⟨(World.cell?_of_block (e1.trans (hb3.block p hpl))).trans HC.out, by rw [cell_of_row _ _ _ _ _ _ h2]; rfl, by rw [cell_of_row _ _ _ _ _ _ h2]; rfl⟩
  have HB3 : Hid _ := hb3
  have HK3 : Hid _ := hk3
  clear hw3 hb3 hk3 hcu hkb hlk
  refine wp_region_noPanic ?_
  refine wp_region_held_drew (S := (fun u => u.cell? ⟨p, o + 2, none⟩ = some (.map (some m)) ∧ u.cell? ⟨w.heap.size, 0, none⟩ = some (.int .u64 (s.1 : Int)) ∧ u.cell? ⟨w.heap.size, 1, none⟩ = some (.int .u64 (s.2 : Int)))) (by kernel_rfl) (by first | exact HS3.out w3 rfl rfl | exact HSD.out | assumption) (fun hHeld => ?_)
  refine tz (i := 0) 16 rfl rfl hHeld ?_
  simp only [pS]
  refine tz (i := 1) 17 rfl rfl hHeld ?_
  simp only [pS]
  refine tz (i := 2) 18 rfl rfl hHeld ?_
  simp only [pS]
  refine tz (i := 3) 19 rfl rfl hHeld ?_
  simp only [pS]
  refine tz (i := 4) 20 rfl rfl hHeld ?_
  simp only [pS]
  refine run_at (i := 5) rfl (by kernel_rfl) (by rfl) (fun K hK => ?_)
  simp only [List.getElem_toArray, List.getElem_cons_zero, List.getElem_cons_succ]
  (refine wpo_del undB _ _ rfl (RowM.below (w' := w3.drew) HR.out HB3.out.drew) hs (by rfl) (by rfl) ?_; intro wD hrD hgD; have HRD : Hid (RowM wD m T (mp fB (rm E s))) := (by rw [rm_mp]; exact hrD); have HSD : Hid _ := HS3.out wD (hgD.block p (by have := HB3.out.size; show p < w3.heap.size; omega) (fun e => HPM.out (Option.some.inj e))) (hgD.block w.heap.size ((Array.getElem?_eq_some_iff.1 HK3.out).1) (fun e => by have := Option.some.inj e; have := RowM.lt HR.out; omega)); have HCHD : Hid (Chg (fun b => b = m) w wD) := (Chg.of_below (F := fun b => b = m) HB3.out.drew).trans (Chg.of_grown hgD (F := fun b => b = m) (fun b e => (Option.some.inj e).symm)) (fun b hb => .inl hb); clear hrD hgD)
  refine hK.out _ _ (by first | exact HS3.out w3 rfl rfl | exact HSD.out | assumption) ?_
  clear hK K
  intro hHeld2
  clear hHeld
  have hHeld := hHeld2
  clear hHeld2
  try simp only [pS]
  refine wpAnyH_done (by kernel_rfl) ?_ _
  refine NoPanic.normal ?_
  go_wp2
  go_ret
  exact ⟨rfl, HRD.out, HCHD.out⟩
end
end Go.Proofs.YtdoikcolkbjnfaaGreat
