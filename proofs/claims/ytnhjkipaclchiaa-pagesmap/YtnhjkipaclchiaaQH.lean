import Derived.Test.YtnhjkipaclchiaaQG
import Derived.Test.YtnhjkipaclchiaaQF
namespace Go.Proofs.Ytnhjkipaclchiaa
set_option linter.unusedVariables false
set_option linter.unusedSimpArgs false
open Go.RowKit Go.Shelf
attribute [local go_sem] Oper.semAt_some
/-- what rising gives -/
theorem rising_stops (F : Fence) (n : Nat) (hf : F.fn 66) (hro : F.round = none) (hn : 1 ≤ n) (g2 g3 : Nat) (P : List (List Ent)) (ahead : Nat) (pa : Option Addr) (np cap : Nat) (hnp : np = P.length) (hnl : np ≤ 4398046511104) (hlp : ∀ p ∈ P, p.length ≤ 100) (ha : ahead ≤ (P.getD 0 []).length) (A : Nat → Option Addr) (C : Nat → Nat) (hne : ∀ p ∈ P, 0 < p.length)
    (w : World) (hR : RdPA w pa P A C) (h2 : w.cell? ⟨g2, 0, none⟩ = some (.slice pa np cap)) (h3 : w.cell? ⟨g3, 0, none⟩ = some (.int .i64 (ahead : Int))) :
    SeqStopsK F n Try.prog 66 #[.pointer (some ⟨g2, 0, none⟩), .pointer (some ⟨g3, 0, none⟩)] (fun x : Ent => #[ea x]) (Below w.heap.size) (fun ys => ys = P.flatten.drop ahead) (fun pre => pre <+: P.flatten.drop ahead) (P.flatten.drop ahead).length w := fun l J Jx W hW hJ hJx hY h0 =>
  rising_in F n hf hro hn l g2 g3 (Below w.heap.size) (fun V => Below.refl _ V) (fun h k => h.trans k) (fun h => h.size) P ahead pa np cap hnp hnl hlp ha J Jx hY W (fun V o hV => (Below.refl _ V).alloc (Nat.le_trans hW.size hV) o) hJ A C hne (fun u hu => by
    have hb : Below w.heap.size w u := hW.trans hu
    exact ⟨hR.below hb, (hb.cell (World.block_lt_of_cell? w _ h2)).trans h2, (hb.cell (World.block_lt_of_cell? w _ h3)).trans h3⟩) h0
theorem heap_kept {W W' : World} {row : Option Nat} {k : Nat} {cs : Array Value} {t : TypeId} {fr : Nat × Nat} (h : W.heap[k]? = some (.cells cs t fr)) (hg : W.grownBy W' row) (hrow : ∀ r, row = some r → ∃ o : Obj, W.heap[r]? = some o ∧ o.isCells = false) : W'.heap[k]? = some (.cells cs t fr) :=
  (grownBy_keeps_cells hg hrow h rfl).trans h
theorem heap_drew (w : World) (g : Nat) : w.drew.heap[g]? = w.heap[g]? := rfl
/-- the three results' boxes -/
structure Bx3 (W : World) (B : Nat) (s : St) (v : Value) (ok : Bool) : Prop where
  a : W.heap[B]? = some (.cells #[.int .u64 (s.1 : Int), .int .u64 (s.2 : Int)] tSt (0, 0))
  b : W.heap[B + 1]? = some (.cells #[v] 32 (0, 0))
  c : W.heap[B + 2]? = some (.cells #[.bool ok] 4 (0, 0))
theorem Bx3.kept {W W' : World} {B : Nat} {s : St} {v : Value} {ok : Bool} {row : Option Nat} (h : Bx3 W B s v ok) (hg : W.grownBy W' row) (hrow : ∀ r, row = some r → ∃ o : Obj, W.heap[r]? = some o ∧ o.isCells = false) : Bx3 W' B s v ok :=
  ⟨heap_kept h.a hg hrow, heap_kept h.b hg hrow, heap_kept h.c hg hrow⟩
theorem results_c3 {fn : Func} {p1 p2 p3 : Tmp} (h : fn.results = #[.cell p1 tSt, .cell p2 32, .cell p3 4]) (tmps : Array Value) {W : World} {B : Nat} {s : St} {v : Value} {ok : Bool} (hB : Bx3 W B s v ok)
    (h1 : tmps.getD p1 undef = .pointer (some ⟨B, 0, none⟩)) (h2 : tmps.getD p2 undef = .pointer (some ⟨B + 1, 0, none⟩)) (h3 : tmps.getD p3 undef = .pointer (some ⟨B + 1 + 1, 0, none⟩)) :
    (results fn tmps).run Try.prog W = .ok (.tuple #[sv s, v, .bool ok]) W := by
  have h1' : tmps[p1]?.getD undef = .pointer (some ⟨B, 0, none⟩) := by simpa using h1
  have h2' : tmps[p2]?.getD undef = .pointer (some ⟨B + 1, 0, none⟩) := by simpa using h2
  have h3' : tmps[p3]?.getD undef = .pointer (some ⟨B + 1 + 1, 0, none⟩) := by simpa using h3
  have e1 := run_loadVar_row (P := Try.prog) W B tSt tSt _ (0, 0) _ hB.a Try.underlying34 rfl info_st
  have c2 : W.cell? ⟨B + 1, 0, none⟩ = some v := by rw [cell_of_row _ _ _ _ _ _ hB.b]; rfl
  have c3 : W.cell? ⟨B + 1 + 1, 0, none⟩ = some (.bool ok) := by rw [cell_of_row _ _ _ _ _ _ hB.c]; rfl
  have e2 : (loadVar 32 ⟨B + 1, 0, none⟩).run Try.prog W = .ok v W := by go_simp
  have e3 : (loadVar 4 ⟨B + 1 + 1, 0, none⟩).run Try.prog W = .ok (.bool ok) W := by go_simp
  simp only [results, h]
  simp [Sem.run_bind, Result.andThen, h1', h2', h3', asAddr, e1, e2, e3]
section
set_option maxRecDepth 100000
set_option maxHeartbeats 4000000
theorem firstOf_in (F : Fence) (n : Nat) (hf0 : F.fn 59) (hf : F.fn 66) (hro : F.round = none) (hn : 3 ≤ n) (g2 g3 : Nat) (zs : List Ent) (w : World)
    (hseq : ∀ u, Below w.heap.size w u → SeqStopsK F (n - 1) Try.prog 66 #[.pointer (some ⟨g2, 0, none⟩), .pointer (some ⟨g3, 0, none⟩)] (fun x : Ent => #[ea x]) (Below w.heap.size) (fun ys => ys = zs) (fun pre => pre <+: zs) zs.length u) :
    CallsIn F n Try.prog 59 #[.func (.func 66) #[] #[.pointer (some ⟨g2, 0, none⟩), .pointer (some ⟨g3, 0, none⟩)]] w fun e W' => (∃ s v ok, e = .returned (.tuple #[sv s, v, .bool ok]) ∧ ((zs = [] ∧ s = (0, 0) ∧ v = .int .u64 0 ∧ ok = false) ∨ (∃ x, zs.head? = some x ∧ s = x.st ∧ v = x.v ∧ ok = true))) ∧ Below w.heap.size w W' := by
  have h1 : 1 ≤ n := by omega
  have HSQ : Hid _ := hseq
  clear hseq
  refine callsIn_of_wp_marks Try.func59 rfl hf0 ?_ hro
  simp only [Try.ntmps59, List.size_toArray, List.length_cons, List.length_nil, Nat.reduceAdd, Nat.reduceSub, Array.replicate_succ, Array.replicate_zero, List.push_toArray, List.append_toArray, List.nil_append, List.cons_append]
  gi_wp2
  obtain ⟨W0, hW0⟩ : ∃ W0 : World, W0 = ((w.alloc (.cells #[.int .u64 0, .int .u64 0] tSt)).alloc (.cells #[.int .u64 0] 32)).alloc (.cells #[.bool false] 4) := ⟨_, rfl⟩
  have hb0 : Below w.heap.size w W0 := by rw [hW0]; exact al (al (al (Below.refl _ _) _) _) _
  have hsz : W0.heap.size = w.heap.size + 3 := by rw [hW0]; simp
  have hB0 : Bx3 W0 w.heap.size (0, 0) (.int .u64 0) false := by
    rw [hW0]
    refine ⟨?_, ?_, ?_⟩
    · exact ((al (al (Below.refl (w.alloc _).heap.size (w.alloc _)) _) _).block w.heap.size (by simp)).trans (heap_alloc_new w _)
    · have h9 := heap_alloc_new (w.alloc (.cells #[.int .u64 0, .int .u64 0] tSt)) (.cells #[.int .u64 0] 32)
      rw [World.size_alloc] at h9
      exact ((al (Below.refl ((w.alloc _).alloc _).heap.size ((w.alloc _).alloc _)) _).block (w.heap.size + 1) (by simp)).trans h9
    · have h9 := heap_alloc_new ((w.alloc (.cells #[.int .u64 0, .int .u64 0] tSt)).alloc (.cells #[.int .u64 0] 32)) (.cells #[.bool false] 4)
      rw [World.size_alloc, World.size_alloc] at h9
      exact h9
  rw [← hW0]
  clear hW0
  refine wpIn_rangeFunc_ownH hro h1 (gf := 66) (lb := #[.pointer (some ⟨g2, 0, none⟩), .pointer (some ⟨g3, 0, none⟩)]) rfl hf (enters_of Try.func66 (by kernel_rfl) rfl)
    (HSQ.out W0 hb0) belowK_t (belowK_b (by omega)) (Below.refl _ _) (fun _ => rfl)
    (fun pre W => pre = [] ∧ Bx3 W w.heap.size (0, 0) (.int .u64 0) false ∧ Below w.heap.size w W)
    (fun c pre W => c = .ret ∧ ∃ x : Ent, pre = [x] ∧ Bx3 W w.heap.size x.st x.v true ∧ Below w.heap.size w W)
    (fun s A B row hs hg hr => ⟨hs.1, hs.2.1.kept hg (fun r e => (hr r e).2), (ownFrom_below (β := Unit) (Nat.le_refl w.heap.size) (by omega)) () A B row hs.2.2 hg hr⟩)
    (fun c s A B row hs hg hr => by obtain ⟨h1, x, h2, h3, h4⟩ := hs; exact ⟨h1, x, h2, h3.kept hg (fun r e => (hr r e).2), (ownFrom_below (β := Unit) (Nat.le_refl w.heap.size) (by omega)) () A B row h4 hg hr⟩)
    ⟨rfl, hB0, hb0⟩
    (fun x a' W => ∃ Bx, w.heap.size + 3 ≤ Bx ∧ W.heap[Bx]? = some (.cells #[.int .u64 (x.st.1 : Int), .int .u64 (x.st.2 : Int), x.v] tEn (0, 0)) ∧ a' = { tmps := #[.func (.func 66) #[] #[.pointer (some ⟨g2, 0, none⟩), .pointer (some ⟨g3, 0, none⟩)], undef, .pointer (some ⟨w.heap.size, 0, none⟩), .pointer (some ⟨w.heap.size + 1, 0, none⟩), .pointer (some ⟨w.heap.size + 1 + 1, 0, none⟩), .pointer (some ⟨Bx, 0, none⟩), .func (.func 66) #[] #[.pointer (some ⟨g2, 0, none⟩), .pointer (some ⟨g3, 0, none⟩)], ea x, undef, undef, undef, undef, undef, undef], defers := [] })
    (fun x a' s A B row hs hg hr => by obtain ⟨Bx, h1, h2, h3⟩ := hs; exact ⟨Bx, h1, heap_kept h2 hg (fun r e => (hr r e).2), h3⟩)
    ?assign ?body ?done ?stop
  case assign =>
    rintro l pre ⟨⟨x1, x2⟩, xn⟩ W K ⟨rfl, hB, hb⟩ hK
    have hsW : w.heap.size + 3 ≤ W.heap.size := (Array.getElem?_eq_some_iff.1 hB.c).1
    gi_wp2
    exact hK _ _ ((KeepsOthers.alloc _ _).from _) ((Below.refl _ W).alloc (by omega) _) ⟨by first | rfl | trivial, hB.kept (World.grownBy_alloc W _ none) (fun r e => by cases e), hb.alloc (by omega) _⟩ ⟨W.heap.size, hsW, heap_alloc_new W _, rfl⟩
  case body =>
    rintro l pre ⟨⟨x1, x2⟩, xn⟩ a' W hl hlr ⟨rfl, hB, hb⟩ ⟨Bx, hBx, hX, rfl⟩ hlt
    have hx0 : W.cell? ⟨Bx, 0, none⟩ = some (.int .u64 (x1 : Int)) := by rw [cell_of_row _ _ _ _ _ _ hX]; rfl
    have hx1 : W.cell? ⟨Bx, 1, none⟩ = some (.int .u64 (x2 : Int)) := by rw [cell_of_row _ _ _ _ _ _ hX]; rfl
    have hx2 : W.cell? ⟨Bx, 2, none⟩ = some (.int .u64 (xn : Int)) := by rw [cell_of_row _ _ _ _ _ _ hX]; rfl
    have ha0 : W.cell? ⟨w.heap.size, 0, none⟩ = some (.int .u64 0) := by rw [cell_of_row _ _ _ _ _ _ hB.a]; rfl
    have ha1 : W.cell? ⟨w.heap.size, 1, none⟩ = some (.int .u64 0) := by rw [cell_of_row _ _ _ _ _ _ hB.a]; rfl
    have hb0' : W.cell? ⟨w.heap.size + 1, 0, none⟩ = some (.int .u64 0) := by rw [cell_of_row _ _ _ _ _ _ hB.b]; rfl
    have hc0 : W.cell? ⟨w.heap.size + 1 + 1, 0, none⟩ = some (.bool false) := by rw [cell_of_row _ _ _ _ _ _ hB.c]; rfl
    have fa0 : W.frozen? ⟨w.heap.size, 0, none⟩ = false := by simp [World.frozen?, hB.a]
    have fa1 : W.frozen? ⟨w.heap.size, 1, none⟩ = false := by simp [World.frozen?, hB.a]
    have fb0 : W.frozen? ⟨w.heap.size + 1, 0, none⟩ = false := by simp [World.frozen?, hB.b]
    have fc0 : W.frozen? ⟨w.heap.size + 1 + 1, 0, none⟩ = false := by simp [World.frozen?, hB.c]
    have n1 : ¬ Bx = w.heap.size := by omega
    have n2 : ¬ Bx = w.heap.size + 1 := by omega
    have n3 : ¬ Bx = w.heap.size + 1 + 1 := by omega
    have hfl : Try.prog.follows Departure.mixedOrders = true := by kernel_rfl
    have HBD : Hid (∀ z : World, z = ((((W.setCell ⟨w.heap.size, 0, none⟩ (.int .u64 (x1 : Int))).setCell ⟨w.heap.size, 1, none⟩ (.int .u64 (x2 : Int))).setCell ⟨w.heap.size + 1, 0, none⟩ (.int .u64 (xn : Int))).setCell ⟨w.heap.size + 1 + 1, 0, none⟩ (.bool true)).drew → KeepsFrom W0.heap.size W z ∧ Bx3 z w.heap.size (x1, x2) (.int .u64 (xn : Int)) true ∧ Below w.heap.size w z) := fun z hz => by
      have k1 : KeepsOthers W z := by rw [hz]; exact ((((KeepsOthers.setCell _ _ _).trans (KeepsOthers.setCell _ _ _)).trans (KeepsOthers.setCell _ _ _)).trans (KeepsOthers.setCell _ _ _)).trans (KeepsOthers.drew _)
      have e1 : (W.setCell ⟨w.heap.size, 0, none⟩ (.int .u64 (x1 : Int))).heap[w.heap.size]? = some (.cells #[.int .u64 (x1 : Int), .int .u64 0] tSt (0, 0)) := by rw [heap_setCell_same W w.heap.size 0 _ tSt _ hB.a]; rfl
      have e2 : ((W.setCell ⟨w.heap.size, 0, none⟩ (.int .u64 (x1 : Int))).setCell ⟨w.heap.size, 1, none⟩ (.int .u64 (x2 : Int))).heap[w.heap.size]? = some (.cells #[.int .u64 (x1 : Int), .int .u64 (x2 : Int)] tSt (0, 0)) := by rw [heap_setCell_same _ w.heap.size 1 _ tSt _ e1]; rfl
      refine ⟨k1.from _, ⟨?_, ?_, ?_⟩, ?_⟩
      · rw [hz, heap_drew, heap_setCell_other _ _ _ _ (by first | (simp; done) | (simp; omega)), heap_setCell_other _ _ _ _ (by first | (simp; done) | (simp; omega))]; exact e2
      · rw [hz, heap_drew, heap_setCell_other _ _ _ _ (by first | (simp; done) | (simp; omega))]
        have e3 : ((W.setCell ⟨w.heap.size, 0, none⟩ (.int .u64 (x1 : Int))).setCell ⟨w.heap.size, 1, none⟩ (.int .u64 (x2 : Int))).heap[w.heap.size + 1]? = some (.cells #[.int .u64 0] 32 (0, 0)) := by rw [heap_setCell_other _ _ _ _ (by first | (simp; done) | (simp; omega)), heap_setCell_other _ _ _ _ (by first | (simp; done) | (simp; omega))]; exact hB.b
        rw [heap_setCell_same _ (w.heap.size + 1) 0 _ _ _ e3]; rfl
      · rw [hz, heap_drew]
        have e3 : (((W.setCell ⟨w.heap.size, 0, none⟩ (.int .u64 (x1 : Int))).setCell ⟨w.heap.size, 1, none⟩ (.int .u64 (x2 : Int))).setCell ⟨w.heap.size + 1, 0, none⟩ (.int .u64 (xn : Int))).heap[w.heap.size + 1 + 1]? = some (.cells #[.bool false] 4 (0, 0)) := by rw [heap_setCell_other _ _ _ _ (by first | (simp; done) | (simp; omega)), heap_setCell_other _ _ _ _ (by first | (simp; done) | (simp; omega)), heap_setCell_other _ _ _ _ (by first | (simp; done) | (simp; omega))]; exact hB.c
        rw [heap_setCell_same _ (w.heap.size + 1 + 1) 0 _ _ _ e3]; rfl
      · rw [hz]
        exact ((((hb.setCell (p := ⟨w.heap.size, 0, none⟩) (Nat.le_refl _) _).setCell (p := ⟨w.heap.size, 1, none⟩) (Nat.le_refl _) _).setCell (p := ⟨w.heap.size + 1, 0, none⟩) (Nat.le_succ _) _).setCell (p := ⟨w.heap.size + 1 + 1, 0, none⟩) (by simp; omega) _).drew
    gi_wp2
    gi_region_o
    all_goals gi_wp2
    all_goals exact ⟨(HBD.out _ rfl).1, rfl, ⟨(x1, x2), xn⟩, rfl, (HBD.out _ rfl).2.1, (HBD.out _ rfl).2.2⟩
  case done =>
    rintro D ys W hD rfl ⟨hnil, hB, hb⟩ hK
    have ha0 : W.cell? ⟨w.heap.size, 0, none⟩ = some (.int .u64 0) := by rw [cell_of_row _ _ _ _ _ _ hB.a]; rfl
    have ha1 : W.cell? ⟨w.heap.size, 1, none⟩ = some (.int .u64 0) := by rw [cell_of_row _ _ _ _ _ _ hB.a]; rfl
    have hb0' : W.cell? ⟨w.heap.size + 1, 0, none⟩ = some (.int .u64 0) := by rw [cell_of_row _ _ _ _ _ _ hB.b]; rfl
    have hc0 : W.cell? ⟨w.heap.size + 1 + 1, 0, none⟩ = some (.bool false) := by rw [cell_of_row _ _ _ _ _ _ hB.c]; rfl
    have fa0 : W.frozen? ⟨w.heap.size, 0, none⟩ = false := by simp [World.frozen?, hB.a]
    have fa1 : W.frozen? ⟨w.heap.size, 1, none⟩ = false := by simp [World.frozen?, hB.a]
    have fb0 : W.frozen? ⟨w.heap.size + 1, 0, none⟩ = false := by simp [World.frozen?, hB.b]
    have fc0 : W.frozen? ⟨w.heap.size + 1 + 1, 0, none⟩ = false := by simp [World.frozen?, hB.c]
    have hfl : Try.prog.follows Departure.mixedOrders = true := by kernel_rfl
    have HDK : Hid (∀ z : World, z = ((((W.setCell ⟨w.heap.size, 0, none⟩ (.int .u64 0)).setCell ⟨w.heap.size, 1, none⟩ (.int .u64 0)).setCell ⟨w.heap.size + 1, 0, none⟩ (.int .u64 0)).setCell ⟨w.heap.size + 1 + 1, 0, none⟩ (.bool false)).drew → Bx3 z w.heap.size (0, 0) (.int .u64 0) false ∧ Below w.heap.size w z ∧ z.heap[D]? = some (.deferred (some []))) := fun z hz => by
      have k1 : KeepsOthers W z := by rw [hz]; exact ((((KeepsOthers.setCell _ _ _).trans (KeepsOthers.setCell _ _ _)).trans (KeepsOthers.setCell _ _ _)).trans (KeepsOthers.setCell _ _ _)).trans (KeepsOthers.drew _)
      refine ⟨⟨?_, ?_, ?_⟩, ?_, k1.same D _ hK rfl⟩
      · have e1 : (W.setCell ⟨w.heap.size, 0, none⟩ (.int .u64 0)).heap[w.heap.size]? = some (.cells #[.int .u64 0, .int .u64 0] tSt (0, 0)) := by rw [heap_setCell_same W w.heap.size 0 _ tSt _ hB.a]; rfl
        have e2 : ((W.setCell ⟨w.heap.size, 0, none⟩ (.int .u64 0)).setCell ⟨w.heap.size, 1, none⟩ (.int .u64 0)).heap[w.heap.size]? = some (.cells #[.int .u64 0, .int .u64 0] tSt (0, 0)) := by rw [heap_setCell_same _ w.heap.size 1 _ tSt _ e1]; rfl
        rw [hz, heap_drew, heap_setCell_other _ _ _ _ (by first | (simp; done) | (simp; omega)), heap_setCell_other _ _ _ _ (by first | (simp; done) | (simp; omega))]; exact e2
      · rw [hz, heap_drew, heap_setCell_other _ _ _ _ (by first | (simp; done) | (simp; omega))]
        have e3 : ((W.setCell ⟨w.heap.size, 0, none⟩ (.int .u64 0)).setCell ⟨w.heap.size, 1, none⟩ (.int .u64 0)).heap[w.heap.size + 1]? = some (.cells #[.int .u64 0] 32 (0, 0)) := by rw [heap_setCell_other _ _ _ _ (by first | (simp; done) | (simp; omega)), heap_setCell_other _ _ _ _ (by first | (simp; done) | (simp; omega))]; exact hB.b
        rw [heap_setCell_same _ (w.heap.size + 1) 0 _ _ _ e3]; rfl
      · rw [hz, heap_drew]
        have e3 : (((W.setCell ⟨w.heap.size, 0, none⟩ (.int .u64 0)).setCell ⟨w.heap.size, 1, none⟩ (.int .u64 0)).setCell ⟨w.heap.size + 1, 0, none⟩ (.int .u64 0)).heap[w.heap.size + 1 + 1]? = some (.cells #[.bool false] 4 (0, 0)) := by rw [heap_setCell_other _ _ _ _ (by first | (simp; done) | (simp; omega)), heap_setCell_other _ _ _ _ (by first | (simp; done) | (simp; omega)), heap_setCell_other _ _ _ _ (by first | (simp; done) | (simp; omega))]; exact hB.c
        rw [heap_setCell_same _ (w.heap.size + 1 + 1) 0 _ _ _ e3]; rfl
      · rw [hz]
        exact ((((hb.setCell (p := ⟨w.heap.size, 0, none⟩) (Nat.le_refl _) _).setCell (p := ⟨w.heap.size, 1, none⟩) (Nat.le_refl _) _).setCell (p := ⟨w.heap.size + 1, 0, none⟩) (Nat.le_succ _) _).setCell (p := ⟨w.heap.size + 1 + 1, 0, none⟩) (by simp; omega) _).drew
    gi_wp2
    gi_region_o
    all_goals gi_wp2
    all_goals
      refine ⟨by simp, .inl ⟨_, _, rfl, run_takeDeferred (HDK.out _ rfl).2.2, ?_⟩⟩
      exact ⟨_, results_c3 rfl _ ((HDK.out _ rfl).1.kept (grownBy_putObj' _ D (.deferred none)) (fun r e => by cases e; exact ⟨_, (HDK.out _ rfl).2.2, rfl⟩)) rfl rfl rfl, ⟨(0, 0), .int .u64 0, false, rfl, .inl ⟨hnil, rfl, rfl, rfl⟩⟩, (HDK.out _ rfl).2.1.trans (belowK_b (w := w) (Nat.le_refl _) _ D _ _ (by omega) (HDK.out _ rfl).2.2 rfl rfl)⟩
  case stop =>
    rintro D c pre W hD hpre ⟨rfl, x, rfl, hB, hb⟩ hK
    gi_wp2
    refine ⟨by simp, .inl ⟨_, _, rfl, run_takeDeferred hK, ?_⟩⟩
    exact ⟨_, results_c3 rfl _ (hB.kept (grownBy_putObj' _ D (.deferred none)) (fun r e => by cases e; exact ⟨_, hK, rfl⟩)) rfl rfl rfl, ⟨x.st, x.v, true, rfl, .inr ⟨x, by obtain ⟨t, ht⟩ := hpre; rw [← ht]; rfl, rfl, rfl, rfl⟩⟩, hb.trans (belowK_b (w := w) (Nat.le_refl _) _ D _ _ (by omega) hK rfl rfl)⟩
end
end Go.Proofs.Ytnhjkipaclchiaa
