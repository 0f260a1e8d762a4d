import Derived.Test.YtibolgpaolnheacQF
namespace Go.Proofs.Ytibolgpaolnheac
set_option linter.unusedVariables false
set_option linter.unusedSimpArgs false
open Go.RowKit Go.Shelf
attribute [local go_sem] Oper.semAt_some
/-- what rising gives -/
theorem rising_stops (F : Fence) (n : Nat) (hf : F.fn 63) (hro : F.round = none) (hn : 1 ≤ n) (g2 g3 : Nat) (P : List (List Ent)) (ahead : Nat) (pa : Option Addr) (np cap : Nat) (hnp : np = P.length) (hnl : np ≤ 4398046511104) (hlp : ∀ p ∈ P, p.length ≤ 100) (ha : ahead ≤ (P.getD 0 []).length) (A : Nat → Option Addr) (C : Nat → Nat) (hne : ∀ p ∈ P, 0 < p.length)
    (w : World) (hR : RdPA w pa P A C) (h2 : w.cell? ⟨g2, 0, none⟩ = some (.slice pa np cap)) (h3 : w.cell? ⟨g3, 0, none⟩ = some (.int .i64 (ahead : Int))) :
    SeqStopsK F n Try.prog 63 #[.pointer (some ⟨g2, 0, none⟩), .pointer (some ⟨g3, 0, none⟩)] (fun x : Ent => #[ea x]) (Below w.heap.size) (fun ys => ys = P.flatten.drop ahead) (fun pre => pre <+: P.flatten.drop ahead) (P.flatten.drop ahead).length w := fun l J Jx W hW hJ hJx hY h0 =>
  rising_in F n hf hro hn l g2 g3 (Below w.heap.size) (fun V => Below.refl _ V) (fun h k => h.trans k) (fun h => h.size) P ahead pa np cap hnp hnl hlp ha J Jx hY W (fun V o hV => (Below.refl _ V).alloc (Nat.le_trans hW.size hV) o) hJ A C hne (fun u hu => by
    have hb : Below w.heap.size w u := hW.trans hu
    exact ⟨hR.below hb, (hb.cell (World.block_lt_of_cell? w _ h2)).trans h2, (hb.cell (World.block_lt_of_cell? w _ h3)).trans h3⟩) h0
theorem heap_kept {W W' : World} {row : Option Nat} {k : Nat} {cs : Array Value} {t : TypeId} {fr : Nat × Nat} (h : W.heap[k]? = some (.cells cs t fr)) (hg : W.grownBy W' row) (hrow : ∀ r, row = some r → ∃ o : Obj, W.heap[r]? = some o ∧ o.isCells = false) : W'.heap[k]? = some (.cells cs t fr) :=
  (grownBy_keeps_cells hg hrow h rfl).trans h
theorem heap_drew (w : World) (g : Nat) : w.drew.heap[g]? = w.heap[g]? := rfl
/-- the three results' boxes -/
structure Bx3 (W : World) (B : Nat) (s : St) (v : Value) (ok : Bool) : Prop where
  a : W.heap[B]? = some (.cells #[.int .u64 (s.1 : Int), .int .u64 (s.2 : Int)] tSt (0, 0))
  b : W.heap[B + 1]? = some (.cells #[v] 34 (0, 0))
  c : W.heap[B + 2]? = some (.cells #[.bool ok] 4 (0, 0))
theorem Bx3.kept {W W' : World} {B : Nat} {s : St} {v : Value} {ok : Bool} {row : Option Nat} (h : Bx3 W B s v ok) (hg : W.grownBy W' row) (hrow : ∀ r, row = some r → ∃ o : Obj, W.heap[r]? = some o ∧ o.isCells = false) : Bx3 W' B s v ok :=
  ⟨heap_kept h.a hg hrow, heap_kept h.b hg hrow, heap_kept h.c hg hrow⟩
theorem results_c3 {fn : Func} {p1 p2 p3 : Tmp} (h : fn.results = #[.cell p1 tSt, .cell p2 34, .cell p3 4]) (tmps : Array Value) {W : World} {B : Nat} {s : St} {v : Value} {ok : Bool} (hB : Bx3 W B s v ok)
    (h1 : tmps.getD p1 undef = .pointer (some ⟨B, 0, none⟩)) (h2 : tmps.getD p2 undef = .pointer (some ⟨B + 1, 0, none⟩)) (h3 : tmps.getD p3 undef = .pointer (some ⟨B + 1 + 1, 0, none⟩)) :
    (results fn tmps).run Try.prog W = .ok (.tuple #[sv s, v, .bool ok]) W := by
  have h1' : tmps[p1]?.getD undef = .pointer (some ⟨B, 0, none⟩) := by simpa using h1
  have h2' : tmps[p2]?.getD undef = .pointer (some ⟨B + 1, 0, none⟩) := by simpa using h2
  have h3' : tmps[p3]?.getD undef = .pointer (some ⟨B + 1 + 1, 0, none⟩) := by simpa using h3
  have e1 := run_loadVar_row (P := Try.prog) W B tSt tSt _ (0, 0) _ hB.a Try.underlying36 rfl info_st
  have c2 : W.cell? ⟨B + 1, 0, none⟩ = some v := by rw [cell_of_row _ _ _ _ _ _ hB.b]; rfl
  have c3 : W.cell? ⟨B + 1 + 1, 0, none⟩ = some (.bool ok) := by rw [cell_of_row _ _ _ _ _ _ hB.c]; rfl
  have e2 : (loadVar 34 ⟨B + 1, 0, none⟩).run Try.prog W = .ok v W := by go_simp
  have e3 : (loadVar 4 ⟨B + 1 + 1, 0, none⟩).run Try.prog W = .ok (.bool ok) W := by go_simp
  simp only [results, h]
  simp [Sem.run_bind, Result.andThen, h1', h2', h3', asAddr, e1, e2, e3]
section
set_option maxRecDepth 100000
set_option maxHeartbeats 4000000
theorem firstOf_in (F : Fence) (n : Nat) (hf0 : F.fn 49) (hf : F.fn 63) (hro : F.round = none) (hn : 3 ≤ n) (g2 g3 : Nat) (zs : List Ent) (w : World)
    (hseq : ∀ u, Below w.heap.size w u → SeqStopsK F (n - 1) Try.prog 63 #[.pointer (some ⟨g2, 0, none⟩), .pointer (some ⟨g3, 0, none⟩)] (fun x : Ent => #[ea x]) (Below w.heap.size) (fun ys => ys = zs) (fun pre => pre <+: zs) zs.length u) :
    CallsIn F n Try.prog 49 #[.func (.func 63) #[] #[.pointer (some ⟨g2, 0, none⟩), .pointer (some ⟨g3, 0, none⟩)]] w fun e W' => (∃ s v ok, e = .returned (.tuple #[sv s, v, .bool ok]) ∧ ((zs = [] ∧ s = (0, 0) ∧ v = .int .u64 0 ∧ ok = false) ∨ (∃ x, zs.head? = some x ∧ s = x.st ∧ v = x.v ∧ ok = true))) ∧ Below w.heap.size w W' := by
  have h1 : 1 ≤ n := by omega
  have HSQ : Hid _ := hseq
  clear hseq
  refine callsIn_of_wp_marks Try.func49 rfl hf0 ?_ hro
  simp only [Try.ntmps49, List.size_toArray, List.length_cons, List.length_nil, Nat.reduceAdd, Nat.reduceSub, Array.replicate_succ, Array.replicate_zero, List.push_toArray, List.append_toArray, List.nil_append, List.cons_append]
  gi_wp2
  obtain ⟨W0, hW0⟩ : ∃ W0 : World, W0 = ((w.alloc (.cells #[.int .u64 0, .int .u64 0] tSt)).alloc (.cells #[.int .u64 0] 34)).alloc (.cells #[.bool false] 4) := ⟨_, rfl⟩
  have hb0 : Below w.heap.size w W0 := by rw [hW0]; exact al (al (al (Below.refl _ _) _) _) _
  have hsz : W0.heap.size = w.heap.size + 3 := by rw [hW0]; simp
  have hB0 : Bx3 W0 w.heap.size (0, 0) (.int .u64 0) false := by
    rw [hW0]
    refine ⟨?_, ?_, ?_⟩
    · exact ((al (al (Below.refl (w.alloc _).heap.size (w.alloc _)) _) _).block w.heap.size (by simp)).trans (heap_alloc_new w _)
    · have h9 := heap_alloc_new (w.alloc (.cells #[.int .u64 0, .int .u64 0] tSt)) (.cells #[.int .u64 0] 34)
      rw [World.size_alloc] at h9
      exact ((al (Below.refl ((w.alloc _).alloc _).heap.size ((w.alloc _).alloc _)) _).block (w.heap.size + 1) (by simp)).trans h9
    · have h9 := heap_alloc_new ((w.alloc (.cells #[.int .u64 0, .int .u64 0] tSt)).alloc (.cells #[.int .u64 0] 34)) (.cells #[.bool false] 4)
      rw [World.size_alloc, World.size_alloc] at h9
      exact h9
  rw [← hW0]
  clear hW0
  refine wpIn_rangeFunc_ownH hro h1 (gf := 63) (lb := #[.pointer (some ⟨g2, 0, none⟩), .pointer (some ⟨g3, 0, none⟩)]) rfl hf (enters_of Try.func63 (by kernel_rfl) rfl)
    (HSQ.out W0 hb0) belowK_t (belowK_b (by omega)) (Below.refl _ _) (fun _ => rfl)
    (fun pre W => pre = [] ∧ Bx3 W w.heap.size (0, 0) (.int .u64 0) false ∧ Below w.heap.size w W)
    (fun c pre W => c = .ret ∧ ∃ x : Ent, pre = [x] ∧ Bx3 W w.heap.size x.st x.v true ∧ Below w.heap.size w W)
    (fun s A B row hs hg hr => ⟨hs.1, hs.2.1.kept hg (fun r e => (hr r e).2), (ownFrom_below (β := Unit) (Nat.le_refl w.heap.size) (by omega)) () A B row hs.2.2 hg hr⟩)
    (fun c s A B row hs hg hr => by obtain ⟨h1, x, h2, h3, h4⟩ := hs; exact ⟨h1, x, h2, h3.kept hg (fun r e => (hr r e).2), (ownFrom_below (β := Unit) (Nat.le_refl w.heap.size) (by omega)) () A B row h4 hg hr⟩)
    ⟨rfl, hB0, hb0⟩
    (fun x a' W => ∃ Bx, w.heap.size + 3 ≤ Bx ∧ W.heap[Bx]? = some (.cells #[.int .u64 (x.st.1 : Int), .int .u64 (x.st.2 : Int), x.v] tEn (0, 0)) ∧ a' = { tmps := #[.func (.func 63) #[] #[.pointer (some ⟨g2, 0, none⟩), .pointer (some ⟨g3, 0, none⟩)], undef, .pointer (some ⟨w.heap.size, 0, none⟩), .pointer (some ⟨w.heap.size + 1, 0, none⟩), .pointer (some ⟨w.heap.size + 1 + 1, 0, none⟩), .pointer (some ⟨Bx, 0, none⟩), .func (.func 63) #[] #[.pointer (some ⟨g2, 0, none⟩), .pointer (some ⟨g3, 0, none⟩)], ea x, undef, undef, undef, undef, undef, undef], defers := [] })
    (fun x a' s A B row hs hg hr => by obtain ⟨Bx, h1, h2, h3⟩ := hs; exact ⟨Bx, h1, heap_kept h2 hg (fun r e => (hr r e).2), h3⟩)
    ?assign ?body ?done ?stop
  case assign =>
    rintro l pre ⟨⟨x1, x2⟩, xn⟩ W K ⟨rfl, hB, hb⟩ hK
    have hsW : w.heap.size + 3 ≤ W.heap.size := (Array.getElem?_eq_some_iff.1 hB.c).1
    gi_wp2
    exact hK _ _ ((KeepsOthers.alloc _ _).from _) ((Below.refl _ W).alloc (by omega) _) ⟨by first | rfl | trivial, hB.kept (World.grownBy_alloc W _ none) (fun r e => by cases e), hb.alloc (by omega) _⟩ ⟨W.heap.size, hsW, heap_alloc_new W _, rfl⟩
  case body =>
    rintro l pre ⟨⟨x1, x2⟩, xn⟩ a' W hl hlr ⟨rfl, hB, hb⟩ ⟨Bx, hBx, hX, rfl⟩ hlt
    have hx0 : W.cell? ⟨Bx, 0, none⟩ = some (.int .u64 (x1 : Int)) := by rw [cell_of_row _ _ _ _ _ _ hX]; rfl
    have hx1 : W.cell? ⟨Bx, 1, none⟩ = some (.int .u64 (x2 : Int)) := by rw [cell_of_row _ _ _ _ _ _ hX]; rfl
    have hx2 : W.cell? ⟨Bx, 2, none⟩ = some (.int .u64 (xn : Int)) := by rw [cell_of_row _ _ _ _ _ _ hX]; rfl
    have ha0 : W.cell? ⟨w.heap.size, 0, none⟩ = some (.int .u64 0) := by rw [cell_of_row _ _ _ _ _ _ hB.a]; rfl
    have ha1 : W.cell? ⟨w.heap.size, 1, none⟩ = some (.int .u64 0) := by rw [cell_of_row _ _ _ _ _ _ hB.a]; rfl
    have hb0' : W.cell? ⟨w.heap.size + 1, 0, none⟩ = some (.int .u64 0) := by rw [cell_of_row _ _ _ _ _ _ hB.b]; rfl
    have hc0 : W.cell? ⟨w.heap.size + 1 + 1, 0, none⟩ = some (.bool false) := by rw [cell_of_row _ _ _ _ _ _ hB.c]; rfl
    have fa0 : W.frozen? ⟨w.heap.size, 0, none⟩ = false := by simp [World.frozen?, hB.a]
    have fa1 : W.frozen? ⟨w.heap.size, 1, none⟩ = false := by simp [World.frozen?, hB.a]
    have fb0 : W.frozen? ⟨w.heap.size + 1, 0, none⟩ = false := by simp [World.frozen?, hB.b]
    have fc0 : W.frozen? ⟨w.heap.size + 1 + 1, 0, none⟩ = false := by simp [World.frozen?, hB.c]
    have n1 : ¬ Bx = w.heap.size := by omega
    have n2 : ¬ Bx = w.heap.size + 1 := by omega
    have n3 : ¬ Bx = w.heap.size + 1 + 1 := by omega
    have hfl : Try.prog.follows Departure.mixedOrders = true := by kernel_rfl
    have HBD : Hid (∀ z : World, z = ((((W.setCell ⟨w.heap.size, 0, none⟩ (.int .u64 (x1 : Int))).setCell ⟨w.heap.size, 1, none⟩ (.int .u64 (x2 : Int))).setCell ⟨w.heap.size + 1, 0, none⟩ (.int .u64 (xn : Int))).setCell ⟨w.heap.size + 1 + 1, 0, none⟩ (.bool true)).drew → KeepsFrom W0.heap.size W z ∧ Bx3 z w.heap.size (x1, x2) (.int .u64 (xn : Int)) true ∧ Below w.heap.size w z) := fun z hz => by
      have k1 : KeepsOthers W z := by rw [hz]; exact ((((KeepsOthers.setCell _ _ _).trans (KeepsOthers.setCell _ _ _)).trans (KeepsOthers.setCell _ _ _)).trans (KeepsOthers.setCell _ _ _)).trans (KeepsOthers.drew _)
      have e1 : (W.setCell ⟨w.heap.size, 0, none⟩ (.int .u64 (x1 : Int))).heap[w.heap.size]? = some (.cells #[.int .u64 (x1 : Int), .int .u64 0] tSt (0, 0)) := by rw [heap_setCell_same W w.heap.size 0 _ tSt _ hB.a]; rfl
      have e2 : ((W.setCell ⟨w.heap.size, 0, none⟩ (.int .u64 (x1 : Int))).setCell ⟨w.heap.size, 1, none⟩ (.int .u64 (x2 : Int))).heap[w.heap.size]? = some (.cells #[.int .u64 (x1 : Int), .int .u64 (x2 : Int)] tSt (0, 0)) := by rw [heap_setCell_same _ w.heap.size 1 _ tSt _ e1]; rfl
      refine ⟨k1.from _, ⟨?_, ?_, ?_⟩, ?_⟩
      · rw [hz, heap_drew, heap_setCell_other _ _ _ _ (by first | (simp; done) | (simp; omega)), heap_setCell_other _ _ _ _ (by first | (simp; done) | (simp; omega))]; exact e2
      · rw [hz, heap_drew, heap_setCell_other _ _ _ _ (by first | (simp; done) | (simp; omega))]
        have e3 : ((W.setCell ⟨w.heap.size, 0, none⟩ (.int .u64 (x1 : Int))).setCell ⟨w.heap.size, 1, none⟩ (.int .u64 (x2 : Int))).heap[w.heap.size + 1]? = some (.cells #[.int .u64 0] 34 (0, 0)) := by rw [heap_setCell_other _ _ _ _ (by first | (simp; done) | (simp; omega)), heap_setCell_other _ _ _ _ (by first | (simp; done) | (simp; omega))]; exact hB.b
        rw [heap_setCell_same _ (w.heap.size + 1) 0 _ _ _ e3]; rfl
      · rw [hz, heap_drew]
        have e3 : (((W.setCell ⟨w.heap.size, 0, none⟩ (.int .u64 (x1 : Int))).setCell ⟨w.heap.size, 1, none⟩ (.int .u64 (x2 : Int))).setCell ⟨w.heap.size + 1, 0, none⟩ (.int .u64 (xn : Int))).heap[w.heap.size + 1 + 1]? = some (.cells #[.bool false] 4 (0, 0)) := by rw [heap_setCell_other _ _ _ _ (by first | (simp; done) | (simp; omega)), heap_setCell_other _ _ _ _ (by first | (simp; done) | (simp; omega)), heap_setCell_other _ _ _ _ (by first | (simp; done) | (simp; omega))]; exact hB.c
        rw [heap_setCell_same _ (w.heap.size + 1 + 1) 0 _ _ _ e3]; rfl
      · rw [hz]
        exact ((((hb.setCell (p := ⟨w.heap.size, 0, none⟩) (Nat.le_refl _) _).setCell (p := ⟨w.heap.size, 1, none⟩) (Nat.le_refl _) _).setCell (p := ⟨w.heap.size + 1, 0, none⟩) (Nat.le_succ _) _).setCell (p := ⟨w.heap.size + 1 + 1, 0, none⟩) (by simp; omega) _).drew
    gi_wp2
    gi_region_o
    all_goals gi_wp2
    all_goals exact ⟨(HBD.out _ rfl).1, rfl, ⟨(x1, x2), xn⟩, rfl, (HBD.out _ rfl).2.1, (HBD.out _ rfl).2.2⟩
  case done =>
    rintro D ys W hD rfl ⟨hnil, hB, hb⟩ hK
    have ha0 : W.cell? ⟨w.heap.size, 0, none⟩ = some (.int .u64 0) := by rw [cell_of_row _ _ _ _ _ _ hB.a]; rfl
    have ha1 : W.cell? ⟨w.heap.size, 1, none⟩ = some (.int .u64 0) := by rw [cell_of_row _ _ _ _ _ _ hB.a]; rfl
    have hb0' : W.cell? ⟨w.heap.size + 1, 0, none⟩ = some (.int .u64 0) := by rw [cell_of_row _ _ _ _ _ _ hB.b]; rfl
    have hc0 : W.cell? ⟨w.heap.size + 1 + 1, 0, none⟩ = some (.bool false) := by rw [cell_of_row _ _ _ _ _ _ hB.c]; rfl
    have fa0 : W.frozen? ⟨w.heap.size, 0, none⟩ = false := by simp [World.frozen?, hB.a]
    have fa1 : W.frozen? ⟨w.heap.size, 1, none⟩ = false := by simp [World.frozen?, hB.a]
    have fb0 : W.frozen? ⟨w.heap.size + 1, 0, none⟩ = false := by simp [World.frozen?, hB.b]
    have fc0 : W.frozen? ⟨w.heap.size + 1 + 1, 0, none⟩ = false := by simp [World.frozen?, hB.c]
    have hfl : Try.prog.follows Departure.mixedOrders = true := by kernel_rfl
    have HDK : Hid (∀ z : World, z = ((((W.setCell ⟨w.heap.size, 0, none⟩ (.int .u64 0)).setCell ⟨w.heap.size, 1, none⟩ (.int .u64 0)).setCell ⟨w.heap.size + 1, 0, none⟩ (.int .u64 0)).setCell ⟨w.heap.size + 1 + 1, 0, none⟩ (.bool false)).drew → Bx3 z w.heap.size (0, 0) (.int .u64 0) false ∧ Below w.heap.size w z ∧ z.heap[D]? = some (.deferred (some []))) := fun z hz => by
      have k1 : KeepsOthers W z := by rw [hz]; exact ((((KeepsOthers.setCell _ _ _).trans (KeepsOthers.setCell _ _ _)).trans (KeepsOthers.setCell _ _ _)).trans (KeepsOthers.setCell _ _ _)).trans (KeepsOthers.drew _)
      refine ⟨⟨?_, ?_, ?_⟩, ?_, k1.same D _ hK rfl⟩
      · have e1 : (W.setCell ⟨w.heap.size, 0, none⟩ (.int .u64 0)).heap[w.heap.size]? = some (.cells #[.int .u64 0, .int .u64 0] tSt (0, 0)) := by rw [heap_setCell_same W w.heap.size 0 _ tSt _ hB.a]; rfl
        have e2 : ((W.setCell ⟨w.heap.size, 0, none⟩ (.int .u64 0)).setCell ⟨w.heap.size, 1, none⟩ (.int .u64 0)).heap[w.heap.size]? = some (.cells #[.int .u64 0, .int .u64 0] tSt (0, 0)) := by rw [heap_setCell_same _ w.heap.size 1 _ tSt _ e1]; rfl
        rw [hz, heap_drew, heap_setCell_other _ _ _ _ (by first | (simp; done) | (simp; omega)), heap_setCell_other _ _ _ _ (by first | (simp; done) | (simp; omega))]; exact e2
      · rw [hz, heap_drew, heap_setCell_other _ _ _ _ (by first | (simp; done) | (simp; omega))]
        have e3 : ((W.setCell ⟨w.heap.size, 0, none⟩ (.int .u64 0)).setCell ⟨w.heap.size, 1, none⟩ (.int .u64 0)).heap[w.heap.size + 1]? = some (.cells #[.int .u64 0] 34 (0, 0)) := by rw [heap_setCell_other _ _ _ _ (by first | (simp; done) | (simp; omega)), heap_setCell_other _ _ _ _ (by first | (simp; done) | (simp; omega))]; exact hB.b
        rw [heap_setCell_same _ (w.heap.size + 1) 0 _ _ _ e3]; rfl
      · rw [hz, heap_drew]
        have e3 : (((W.setCell ⟨w.heap.size, 0, none⟩ (.int .u64 0)).setCell ⟨w.heap.size, 1, none⟩ (.int .u64 0)).setCell ⟨w.heap.size + 1, 0, none⟩ (.int .u64 0)).heap[w.heap.size + 1 + 1]? = some (.cells #[.bool false] 4 (0, 0)) := by rw [heap_setCell_other _ _ _ _ (by first | (simp; done) | (simp; omega)), heap_setCell_other _ _ _ _ (by first | (simp; done) | (simp; omega)), heap_setCell_other _ _ _ _ (by first | (simp; done) | (simp; omega))]; exact hB.c
        rw [heap_setCell_same _ (w.heap.size + 1 + 1) 0 _ _ _ e3]; rfl
      · rw [hz]
        exact ((((hb.setCell (p := ⟨w.heap.size, 0, none⟩) (Nat.le_refl _) _).setCell (p := ⟨w.heap.size, 1, none⟩) (Nat.le_refl _) _).setCell (p := ⟨w.heap.size + 1, 0, none⟩) (Nat.le_succ _) _).setCell (p := ⟨w.heap.size + 1 + 1, 0, none⟩) (by simp; omega) _).drew
    gi_wp2
    gi_region_o
    all_goals gi_wp2
    all_goals
      refine ⟨by simp, .inl ⟨_, _, rfl, run_takeDeferred (HDK.out _ rfl).2.2, ?_⟩⟩
      exact ⟨_, results_c3 rfl _ ((HDK.out _ rfl).1.kept (grownBy_putObj' _ D (.deferred none)) (fun r e => by cases e; exact ⟨_, (HDK.out _ rfl).2.2, rfl⟩)) rfl rfl rfl, ⟨(0, 0), .int .u64 0, false, rfl, .inl ⟨hnil, rfl, rfl, rfl⟩⟩, (HDK.out _ rfl).2.1.trans (belowK_b (w := w) (Nat.le_refl _) _ D _ _ (by omega) (HDK.out _ rfl).2.2 rfl rfl)⟩
  case stop =>
    rintro D c pre W hD hpre ⟨rfl, x, rfl, hB, hb⟩ hK
    gi_wp2
    refine ⟨by simp, .inl ⟨_, _, rfl, run_takeDeferred hK, ?_⟩⟩
    exact ⟨_, results_c3 rfl _ (hB.kept (grownBy_putObj' _ D (.deferred none)) (fun r e => by cases e; exact ⟨_, hK, rfl⟩)) rfl rfl rfl, ⟨x.st, x.v, true, rfl, .inr ⟨x, by obtain ⟨t, ht⟩ := hpre; rw [← ht]; rfl, rfl, rfl, rfl⟩⟩, hb.trans (belowK_b (w := w) (Nat.le_refl _) _ D _ _ (by omega) hK rfl rfl)⟩
end
end Go.Proofs.Ytibolgpaolnheac
namespace Go.Proofs.Ytibolgpaolnheac
set_option linter.unusedVariables false
set_option linter.unusedSimpArgs false
open Go.RowKit Go.Shelf
theorem RdP.drop {w : World} {b o : Nat} {P : List (List Ent)} (h : RdP w (some ⟨b, o, none⟩) P) (k : Nat) : RdP w (some ⟨b, o + k, none⟩) (P.drop k) := fun j hj => by
  have h1 : k + j < P.length := by have := hj; rw [List.length_drop] at this; omega
  obtain ⟨b', o', h2, a, c, h3, h4, h5, h6⟩ := h (k + j) h1
  cases h2
  refine ⟨b, o + k, rfl, a, c, ?_, ?_, h5, ?_⟩
  · rw [List.getElem_drop, show o + k + j = o + (k + j) by omega]; exact h3
  · rw [List.getElem_drop]; exact h4
  · rw [List.getElem_drop]; exact h6
theorem results_ctt {P : Program} {fn : Func} {p u v : Tmp} {ty : TypeId} (h : fn.results = #[.cell p ty, .tmp u, .tmp v]) (tmps : Array Value) (w : World) (g : Nat) (t : TypeId) (cs : Array Value) (fr : Nat × Nat) (d : TypeDesc)
    (hp : tmps.getD p undef = .pointer (some ⟨g, 0, none⟩)) (hg : w.heap[g]? = some (.cells cs t fr))
    (hu : P.underlying ty = some d) (hd : (match d with | .struct _ | .array _ _ => true | _ => false) = true) (hi : (P.info? ty).map (·.size) = some cs.size) :
    (results fn tmps).run P w = .ok (.tuple #[.agg cs, tmps.getD u undef, tmps.getD v undef]) w := by
  have hp' : tmps[p]?.getD undef = .pointer (some ⟨g, 0, none⟩) := by simpa using hp
  simp only [results, h]
  simp [Sem.run_bind, Result.andThen, hp', asAddr, run_loadVar_row w g t ty cs fr d hg hu hd hi]
section
set_option maxRecDepth 20000
set_option maxHeartbeats 3200000
theorem rising_t (pa : Option Addr) (np cap ahead : Nat) (w : World) : Calls Try.prog 50 #[.slice pa np cap, .int .i64 (ahead : Int)] w fun e w' => e = .returned (.func (.func 63) #[] #[.pointer (some ⟨w.heap.size, 0, none⟩), .pointer (some ⟨w.heap.size + 1, 0, none⟩)]) ∧ w' = (w.alloc (.cells #[.slice pa np cap] tPs)).alloc (.cells #[.int .i64 (ahead : Int)] 3) := by
  go_enter Try.func50, Try.ntmps50
  go_wp2
  go_ret
  exact ⟨rfl, rfl⟩
theorem from_t (x : Value) (b o : Nat) (n cap : Nat) (P : List (List Ent)) (s1 s2 : Nat) (w : World) (hx : PgV w x (some ⟨b, o, none⟩) n cap) (hn : n = P.length) (hcap : n ≤ cap) (h0 : 0 < n) (hp : RdP w (some ⟨b, o, none⟩) P) (hsp : SP P) (hl : n ≤ 4398046511104) (hlp : ∀ p ∈ P, p.length ≤ 100) :
    Calls Try.prog 51 #[x, sv (s1, s2)] w fun e w' => ∃ (p i : Nat) (ok : Bool), e = .returned (.tuple #[.slice (some ⟨b, o + p, none⟩) (n - p) (cap - p), .int .i64 (i : Int)]) ∧ PlaceIs P (s1, s2) p i ok ∧ p < n ∧ Below w.heap.size w w' := by
  obtain ⟨w1, hw1⟩ : ∃ X : World, X = w.alloc (.cells #[.int .u64 (s1 : Int), .int .u64 (s2 : Int)] tSt) := ⟨_, rfl⟩
  have hb1 : Below w.heap.size w w1 := by rw [hw1]; exact al (Below.refl _ _) _
  have HPL : Hid _ := place_t x (some ⟨b, o, none⟩) n cap P (s1, s2) w1 (hx.below hb1) hn (hp.below hb1) hsp hl hlp
  have HX : Hid (PgV w x (some ⟨b, o, none⟩) n cap) := hx
  have HB1 : Hid _ := hb1
  have HN : Hid _ := hn
  clear hx hp hsp hlp hn hb1
  go_enter Try.func51, Try.ntmps51
  go_wp2_with fail
  rw [← hw1]
  refine Calls.mono HPL.out ?_
  rintro e w2 ⟨p, i, ok, rfl, hpl, hb2⟩
  have hpn : p < n := by
    rcases hpl with ⟨h1, -⟩ | ⟨r, -, -, h3, -⟩
    · have := HN.out; rw [h1] at this; simp at this; omega
    · have := HN.out; omega
  have HB2 : Hid (Below w.heap.size w w2) := below_next HB1.out hb2
  have HA : Hid _ := all_t x (some ⟨b, o, none⟩) n cap w2 (PgV.below HX.out HB2.out)
  have HP : Hid _ := hpl
  have hpi : (p : Int) ≤ (n : Int) := by omega
  have hp0 : (0 : Int) ≤ (p : Int) := by omega
  have hpc : p ≤ cap := by omega
  have hpc2 : ¬ cap = p := by omega
  have hpn2 : p ≤ n := by omega
  clear hpl hb2 hw1
  go_wp2_with fail
  refine Calls.mono HA.out ?_
  rintro e z ⟨rfl, hz⟩
  have hz := hz.symm
  subst hz
  go_wp2
  refine bodyPost_ret (results_tmp2 rfl _ _ _) rfl ?_
  exact ⟨p, i, ok, by simp, HP.out, hpn, HB2.out⟩
/-- the entry that Least answers -/
theorem least_t (x : Value) (b o : Nat) (n cap : Nat) (P : List (List Ent)) (s1 s2 : Nat) (w : World) (hx : PgV w x (some ⟨b, o, none⟩) n cap) (hn : n = P.length) (hcap : n ≤ cap) (h0 : 0 < n) (hp : RdP w (some ⟨b, o, none⟩) P) (hsp : SP P) (hl : n ≤ 4398046511104) (hlp : ∀ p ∈ P, p.length ≤ 100) :
    Calls Try.prog 23 #[x, sv (s1, s2)] w fun e w' => ∃ (p i : Nat) (ok0 : Bool) (s : St) (v : Value) (ok : Bool), e = .returned (.tuple #[sv s, v, .bool ok]) ∧ PlaceIs P (s1, s2) p i ok0 ∧ ((((P.drop p).flatten.drop i) = [] ∧ s = (0, 0) ∧ v = .int .u64 0 ∧ ok = false) ∨ (∃ y, ((P.drop p).flatten.drop i).head? = some y ∧ s = y.st ∧ v = y.v ∧ ok = true)) ∧ Below w.heap.size w w' := by
  obtain ⟨w1, hw1⟩ : ∃ X : World, X = (w.alloc (.cells #[.int .u64 (s1 : Int), .int .u64 (s2 : Int)] tSt)).alloc (.cells #[.int .u64 0, .int .u64 0] tSt) := ⟨_, rfl⟩
  have hb1 : Below w.heap.size w w1 := by rw [hw1]; exact al (al (Below.refl _ _) _) _
  have HFR : Hid _ := from_t x b o n cap P s1 s2 w1 (hx.below hb1) hn hcap h0 (hp.below hb1) hsp hl hlp
  have hr1 : w1.heap[w.heap.size + 1]? = some (.cells #[.int .u64 0, .int .u64 0] tSt (0, 0)) := by rw [hw1]; exact (two_new w _ _).2
  have HB1 : Hid (Below w.heap.size w w1) := hb1
  have HR1 : Hid _ := hr1
  have HP : Hid (RdP w (some ⟨b, o, none⟩) P) := hp
  have HSP : Hid (SP P) := hsp
  have HLP : Hid (∀ p ∈ P, p.length ≤ 100) := hlp
  have HN : Hid (n = P.length) := hn
  clear hx hp hsp hlp hn hb1 hr1
  go_enter Try.func23, Try.ntmps23
  go_wp2_with fail
  rw [← hw1]
  refine Calls.mono HFR.out ?_
  rintro e w2 ⟨p, i, ok0, rfl, hpl, hpn, hb2⟩
  obtain ⟨np, hnp⟩ : ∃ np, np = n - p := ⟨_, rfl⟩
  obtain ⟨cp, hcp⟩ : ∃ cp, cp = cap - p := ⟨_, rfl⟩
  rw [← hnp, ← hcp]
  have HB2 : Hid (Below w.heap.size w w2) := below_next HB1.out hb2
  have HR2 : Hid (w2.heap[w.heap.size + 1]? = some (.cells #[.int .u64 0, .int .u64 0] tSt (0, 0))) := (hb2.block (w.heap.size + 1) (Array.getElem?_eq_some_iff.1 HR1.out).1).trans HR1.out
  have HPL : Hid (PlaceIs P (s1, s2) p i ok0) := hpl
  have HRI : Hid _ := rising_t (some ⟨b, o + p, none⟩) np cp i w2
  obtain ⟨w3, hw3⟩ : ∃ X : World, X = (w2.alloc (.cells #[.slice (some ⟨b, o + p, none⟩) np cp] tPs)).alloc (.cells #[.int .i64 (i : Int)] 3) := ⟨_, rfl⟩
  have hb3 : Below w2.heap.size w2 w3 := by rw [hw3]; exact al (al (Below.refl _ _) _) _
  have hrd3 : RdP w3 (some ⟨b, o + p, none⟩) (P.drop p) := ((HP.out.below HB2.out).below hb3).drop p
  obtain ⟨A, C, hA⟩ := hrd3.fix
  have hz2 := two_new w2 (.cells #[.slice (some ⟨b, o + p, none⟩) np cp] tPs) (.cells #[.int .i64 (i : Int)] 3)
  rw [← hw3] at hz2
  have hc2 : w3.cell? ⟨w2.heap.size, 0, none⟩ = some (.slice (some ⟨b, o + p, none⟩) np cp) := by rw [cell_of_row _ _ _ _ _ _ hz2.1]; rfl
  have hc3 : w3.cell? ⟨w2.heap.size + 1, 0, none⟩ = some (.int .i64 (i : Int)) := by rw [cell_of_row _ _ _ _ _ _ hz2.2]; rfl
  have hiP : i ≤ ((P.drop p).getD 0 []).length := by
    rcases HPL.out with ⟨h1, -⟩ | ⟨r, -, -, h3, h4, -⟩
    · have := HN.out; rw [h1] at this; simp at this; omega
    · have e9 : (P.drop p).getD 0 [] = P.getD p [] := by simp [List.getD, List.getElem?_drop]
      rw [e9]; exact h4.1
  have HFO : Hid _ := callsIn_wide.1 (firstOf_in Fence.wide 4 trivial trivial rfl (by decide) w2.heap.size (w2.heap.size + 1) ((P.drop p).flatten.drop i) w3 (fun u hu => by
    have hseq := rising_stops Fence.wide 3 trivial rfl (by decide) w2.heap.size (w2.heap.size + 1) (P.drop p) i (some ⟨b, o + p, none⟩) np cp (by rw [List.length_drop, ← HN.out]; exact hnp) (by omega) (fun q hq => HLP.out q (List.mem_of_mem_drop hq)) hiP A C (fun q hq => HSP.out.1 q (List.mem_of_mem_drop hq)) w3 hA hc2 hc3
    exact fun l J Jx W hW hJ hJx hY h0 => hseq l J Jx W (hu.trans (hW.mono hu.size)) hJ hJx hY h0))
  have HB3 : Hid (Below w.heap.size w w3) := below_next HB2.out hb3
  have HR3 : Hid (w3.heap[w.heap.size + 1]? = some (.cells #[.int .u64 0, .int .u64 0] tSt (0, 0))) := (hb3.block (w.heap.size + 1) (Array.getElem?_eq_some_iff.1 HR2.out).1).trans HR2.out
  clear hpl hb2 hnp hcp hw1 hb3 hrd3 hA hz2 hc2 hc3 hiP HFR
  go_wp2_with fail
  refine Calls.mono HRI.out ?_
  rintro e z ⟨rfl, hz⟩
  rw [← hw3] at hz
  subst hz
  clear hw3
  go_wp2_with fail
  refine Calls.mono HFO.out ?_
  rintro e w4 ⟨⟨s, v, ok, rfl, hcase⟩, hb4⟩
  have hr4 : w4.heap[w.heap.size + 1]? = some (.cells #[.int .u64 0, .int .u64 0] tSt (0, 0)) := (hb4.block (w.heap.size + 1) (Array.getElem?_eq_some_iff.1 HR3.out).1).trans HR3.out
  have HCS : Hid _ := hcase
  have HB4 : Hid (Below w.heap.size w w4) := below_next HB3.out hb4
  obtain ⟨y1, y2⟩ := s
  clear hcase hb4
  go_wp2_with (first | (refine wpList_store_row rfl tSt _ _ rfl (w.heap.size + 1) #[.int .u64 (y1 : Int), .int .u64 (y2 : Int)] rfl rfl tSt _ hr4 info_st rfl (by simp [Value.oneCell']) ?_))
  refine bodyPost_ret (results_ctt rfl _ _ (w.heap.size + 1) tSt #[.int .u64 (y1 : Int), .int .u64 (y2 : Int)] (0, 0) _ rfl (setRow_heap w4 (w.heap.size + 1) _ _ tSt _ hr4) Try.underlying36 rfl info_st) rfl ?_
  exact ⟨p, i, ok0, (y1, y2), v, ok, rfl, HPL.out, HCS.out, below_setRow HB4.out (Nat.le_succ _) _⟩
end
end Go.Proofs.Ytibolgpaolnheac
namespace Go.Proofs.Ytibolgpaolnheac
set_option linter.unusedVariables false
set_option linter.unusedSimpArgs false
open Go.RowKit Go.Shelf
theorem place_one {xs : List Ent} {s : St} {i : Nat} {ok : Bool} (h : Found xs.length (pr2 xs s) i) (hok : ok = true ↔ ∃ h : i < xs.length, xs[i].st = s) : PlaceIs [xs] s 0 i ok := by
  refine .inr ?_
  cases hp : pr1 [xs] s 0
  · refine ⟨1, ⟨Nat.le_refl _, fun k hk => ?_, fun k h1 h2 => ?_⟩, rfl, Nat.zero_lt_one, h, hok⟩
    · obtain rfl : k = 0 := by omega
      exact hp
    · simp at h2; omega
  · refine ⟨0, ⟨Nat.zero_le _, fun k hk => absurd hk (Nat.not_lt_zero _), fun k h1 h2 => ?_⟩, rfl, Nat.zero_lt_one, h, hok⟩
    have : k = 0 := by simp at h2; omega
    subst this
    exact hp
abbrev e20 : Ent := ⟨(2, 0), 20⟩
abbrev e10 : Ent := ⟨(1, 0), 10⟩
abbrev e11 : Ent := ⟨(1, 1), 11⟩
theorem pl1 : PlaceIs [[e20]] (1, 0) 0 0 false := place_one ⟨by decide, fun k hk => absurd hk (Nat.not_lt_zero _), fun k h1 h2 => by
  have : k = 0 := by simp at h2; omega
  subst this; rfl⟩ ⟨fun h => (by cases h), fun ⟨_, h⟩ => (by simp at h)⟩
theorem pl2 : PlaceIs [[e10, e20]] (1, 1) 0 1 false := place_one ⟨by decide, fun k hk => by
  have : k = 0 := by omega
  subst this; rfl, fun k h1 h2 => by
  have : k = 1 := by simp at h2; omega
  subst this; rfl⟩ ⟨fun h => (by cases h), fun ⟨_, h⟩ => (by simp at h)⟩
theorem pl3 : PlaceIs [[e10, e11, e20]] (1, 1) 0 1 true := place_one ⟨by decide, fun k hk => by
  have : k = 0 := by omega
  subst this; rfl, fun k h1 h2 => by
  have : k = 1 ∨ k = 2 := by simp at h2; omega
  rcases this with rfl | rfl <;> rfl⟩ ⟨fun _ => ⟨by decide, rfl⟩, fun _ => rfl⟩
theorem sp1 : SP [[e20]] := ⟨by simp, by decide⟩
theorem sp2 : SP [[e10, e20]] := ⟨by simp, by decide⟩
theorem sp3 : SP [[e10, e11, e20]] := ⟨by simp, by decide⟩
theorem eqi_func_nil (w : World) (fuel : Nat) (fn : Fn) (a b : Array Value) : (Op.equalIn (fuel + 1) 74 (.func fn a b) .nilFunc).run Try.prog w = .ok false w := by
  simp [Op.equalIn, run_underlying Try.underlying74]
theorem eql_func_nil (w : World) (fn : Fn) (a b : Array Value) : (binOp .eql 74 (.func fn a b) .nilFunc).run Try.prog w = .ok (.bool false) w := by
  simp only [binOp]
  simp [Op.equal, Op.maxDepth, eqi_func_nil w 9999 fn a b]
section
set_option maxRecDepth 20000
set_option maxHeartbeats 3200000
theorem small_t (w : World) : Calls Try.prog 13 #[] w fun e w' => e = .returned (.bool true) ∧ Below w.heap.size w w' := by
  have H1 : Hid (Calls Try.prog 14 #[.int .i64 4] w fun er w' => er = .returned (.tuple #[.pointer (some ⟨w.heap.size, 0, none⟩), .int .i64 0]) ∧ IdxAt w' w.heap.size 4 [] (.slice none 0 0) [] ∧ Below w.heap.size w w') := newU_t 4 (by decide) w
  have hefn := eql_func_nil
  go_enter Try.func13, Try.ntmps13
  go_wp2_with fail
  refine Calls.mono H1.out ?_
  rintro e w1 ⟨rfl, hi1, hb1⟩
  obtain ⟨g, hg⟩ : ∃ g, g = w.heap.size := ⟨_, rfl⟩
  rw [← hg] at hi1 ⊢
  have HG : Hid (g = w.heap.size) := hg
  have HI1 : Hid (IdxAt w1 g 4 [] (.slice none 0 0) []) := hi1
  have HB1 : Hid (Below w.heap.size w w1) := hb1
  have H2 : Hid _ := num_t 0 w1
  have H3 : Hid (Calls Try.prog 38 #[.pointer (some ⟨g, 0, none⟩), .agg #[.int .u64 0, .int .u64 0]] w1 fun er w' => ∃ lb, er = .returned (.func (.func 57) #[] lb) ∧ Below w1.heap.size w1 w') := (up_t (.pointer (some ⟨g, 0, none⟩)) rfl _ rfl 0 0 w1).mono fun e w' ⟨h1, h2⟩ => ⟨_, h1, by rw [h2]; exact al (al (Below.refl _ _) _) _⟩
  clear hi1 hb1 hg H1
  go_wp2_with fail
  refine Calls.mono H2.out ?_
  rintro e z ⟨rfl, hz⟩
  have hz := hz.symm
  subst hz
  go_wp2_with fail
  refine Calls.mono H3.out ?_
  rintro e w2 ⟨lb, rfl, hb2⟩
  have HI2 : Hid (IdxAt w2 g 4 [] (.slice none 0 0) []) := HI1.out.below hb2
  have HB2 : Hid (Below w.heap.size w w2) := below_next HB1.out hb2
  have H4 : Hid (Calls Try.prog 39 #[.pointer (some ⟨g, 0, none⟩), .agg #[.int .u64 0, .int .u64 0]] w2 fun er w' => ∃ lb, er = .returned (.func (.func 59) #[] lb) ∧ Below w2.heap.size w2 w') := (down_t (.pointer (some ⟨g, 0, none⟩)) rfl _ rfl 0 0 w2).mono fun e w' ⟨h1, h2⟩ => ⟨_, h1, by rw [h2]; exact al (al (Below.refl _ _) _) _⟩
  clear hb2 H2 H3 HI1 HB1
  go_wp2_with fail
  refine Calls.mono H4.out ?_
  rintro e w3 ⟨lb2, rfl, hb3⟩
  have HI3 : Hid (IdxAt w3 g 4 [] (.slice none 0 0) []) := HI2.out.below hb3
  have HB3 : Hid (Below w.heap.size w w3) := below_next HB2.out hb3
  have H5 : Hid (Calls Try.prog 17 #[.pointer (some ⟨g, 0, none⟩), .agg #[.int .u64 2, .int .u64 0], .int .u64 20] w3 fun e w' => e = .returned (.bool true) ∧ (∃ v' vs', IdxAt w' g 4 [[e20]] v' vs' ∧ (v'.ownBlock = (Value.slice none 0 0).ownBlock ∨ ∃ b, v'.ownBlock = some b ∧ w3.heap.size ≤ b)) ∧ Chg (foot g (.slice none 0 0)) w3 w') := put_first HI3.out (by decide) 2 0 20
  clear hb3 H4 HI2 HB2
  go_wp2_with fail
  refine Calls.mono H5.out ?_
  rintro e w4 ⟨rfl, ⟨v4, vs4, hi4, hl4⟩, hch4⟩
  have HI4 : Hid (IdxAt w4 g 4 [[e20]] v4 vs4) := hi4
  have HB4 : Hid (Below w.heap.size w w4) := HB3.out.trans (hch4.below (fun i hi => by rcases hi with e | e; rw [e, HG.out]; exact Nat.le_refl _; cases e) HB3.out.size)
  have HV4 : Hid (∀ b, v4.ownBlock = some b → w.heap.size ≤ b) := fun b hb => by
    rcases hl4 with e | ⟨b', e, h9⟩
    · rw [e] at hb; cases hb
    · rw [e] at hb; cases hb; exact Nat.le_trans HB3.out.size h9
  have H6 : Hid (Calls Try.prog 17 #[.pointer (some ⟨g, 0, none⟩), .agg #[.int .u64 1, .int .u64 0], .int .u64 10] w4 fun e w' => e = .returned (.bool true) ∧ (∃ vs', IdxAt w' g 4 [[e10, e20]] v4 vs') ∧ Chg (foot g v4) w4 w') := put_in HI4.out sp1 (by decide) (by decide) (by simp) 1 0 10 0 0 false pl1 (by decide) (by decide)
  clear hi4 hl4 hch4 H5 HI3 HB3
  go_wp2_with fail
  refine Calls.mono H6.out ?_
  rintro e w5 ⟨rfl, ⟨vs5, hi5⟩, hch5⟩
  have HI5 : Hid (IdxAt w5 g 4 [[e10, e20]] v4 vs5) := hi5
  have HB5 : Hid (Below w.heap.size w w5) := HB4.out.trans (hch5.below (fun i hi => by rcases hi with e | e; rw [e, HG.out]; exact Nat.le_refl _; exact HV4.out i e) HB4.out.size)
  have H7 : Hid (Calls Try.prog 17 #[.pointer (some ⟨g, 0, none⟩), .agg #[.int .u64 1, .int .u64 1], .int .u64 11] w5 fun e w' => e = .returned (.bool true) ∧ (∃ vs', IdxAt w' g 4 [[e10, e11, e20]] v4 vs') ∧ Chg (foot g v4) w5 w') := put_in HI5.out sp2 (by decide) (by decide) (by simp) 1 1 11 0 1 false pl2 (by decide) (by decide)
  clear hi5 hch5 H6 HI4 HB4
  go_wp2_with fail
  refine Calls.mono H7.out ?_
  rintro e w6 ⟨rfl, ⟨vs6, hi6⟩, hch6⟩
  have HI6 : Hid (IdxAt w6 g 4 [[e10, e11, e20]] v4 vs6) := hi6
  have HB6 : Hid (Below w.heap.size w w6) := HB5.out.trans (hch6.below (fun i hi => by rcases hi with e | e; rw [e, HG.out]; exact Nat.le_refl _; exact HV4.out i e) HB5.out.size)
  obtain ⟨pa, cap, hv, hcap, hnil, hrd, hpg⟩ := hi6.rd
  obtain ⟨b, o, hpa, -⟩ := hrd 0 (by decide)
  subst hpa
  have H8 : Hid (Calls Try.prog 23 #[.pointer (some ⟨g, 0, none⟩), .agg #[.int .u64 1, .int .u64 1]] w6 fun e w' => e = .returned (.tuple #[.agg #[.int .u64 1, .int .u64 1], .int .u64 11, .bool true]) ∧ Below w6.heap.size w6 w') := (least_t (.pointer (some ⟨g, 0, none⟩)) b o 1 cap [[e10, e11, e20]] 1 1 w6 hpg rfl hcap (by decide) hrd sp3 (by decide) (by simp)).mono fun e w' ⟨p, i, ok0, s, v, ok, h1, h2, h3, h4⟩ => by
    obtain ⟨rfl, rfl, rfl⟩ := h2.uniq pl3
    refine ⟨?_, h4⟩
    rcases h3 with ⟨h5, -⟩ | ⟨y, h5, rfl, rfl, rfl⟩
    · simp at h5
    · simp at h5; subst h5; rw [h1]; rfl
  clear hi6 hch6 H7 HI5 HB5 hv hcap hnil hrd hpg
  go_wp2_with fail
  refine Calls.mono H8.out ?_
  rintro e w7 ⟨rfl, hb7⟩
  obtain ⟨w8, hw8⟩ : ∃ X : World, X = w7.alloc (.cells #[.int .u64 1, .int .u64 1] tSt) := ⟨_, rfl⟩
  have hb8 : Below w7.heap.size w7 w8 := by rw [hw8]; exact al (Below.refl _ _) _
  have HI8 : Hid (IdxAt w8 g 4 [[e10, e11, e20]] v4 vs6) := HI6.out.below (below_next hb7 hb8)
  have HB8 : Hid (Below w.heap.size w w8) := below_next HB6.out (below_next hb7 hb8)
  obtain ⟨pa, cap, hv, hcap, hnil, hrd, hpg⟩ := HI8.out.rd
  have H9 : Hid (Calls Try.prog 21 #[.pointer (some ⟨g, 0, none⟩)] w8 fun e w' => e = .returned (.int .i64 3) ∧ w' = w8) := len_t (.pointer (some ⟨g, 0, none⟩)) pa 1 cap [[e10, e11, e20]] w8 hpg rfl hrd (by decide) (by simp)
  clear hb7 hb8 H8 HI6 HB6 hv hcap hnil hrd hpg HI8
  go_wp2_with fail
  (try rw [← hw8])
  refine Calls.mono H9.out ?_
  rintro e z ⟨rfl, hz⟩
  have hz := hz.symm
  subst hz
  go_wp2
  go_ret
  exact ⟨rfl, by rw [← hw8]; exact HB8.out⟩
end
end Go.Proofs.Ytibolgpaolnheac
