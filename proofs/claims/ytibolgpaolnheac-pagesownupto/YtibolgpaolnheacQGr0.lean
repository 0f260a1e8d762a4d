import Derived.Test.YtibolgpaolnheacQDn0
namespace Go.Proofs.Ytibolgpaolnheac
set_option linter.unusedVariables false
set_option linter.unusedSimpArgs false
open Go.RowKit Go.Shelf
attribute [local go_sem] Oper.semAt_some
theorem SeqG.imp {α : Type} {F : Fence} {n : Nat} {P : Program} {g : Nat} {lb : Array Value} {encs : α → Array Value} {Z0 : BlkS} {S Sp S' Sp' : List α → Prop} {N : Nat} {w : World} (h : SeqG F n P g lb encs Z0 S Sp N w) (hS : ∀ xs, S xs → S' xs) (hP : ∀ xs, Sp xs → Sp' xs) : SeqG F n P g lb encs Z0 S' Sp' N w := fun l J Jx W h1 h2 h3 h4 h5 h6 => (h l J Jx W h1 h2 h3 h4 h5 h6).mono fun e V' ⟨hv, hc⟩ => ⟨hv, hc.imp (fun ⟨xs, Z, a, b⟩ => ⟨xs, Z, hS xs a, b⟩) (fun ⟨xs, Z, a, b⟩ => ⟨xs, Z, hP xs a, b⟩)⟩
theorem RdPA.old {w u : World} {pa : Option Addr} {P : List (List Ent)} {A : Nat → Option Addr} {C : Nat → Nat} (h : RdPA w pa P A C) (hu : ∀ k, k < w.heap.size → u.heap[k]? = w.heap[k]?) : RdPA u pa P A C := fun j hj => by
  obtain ⟨b, o, h1, h2, h3, h4⟩ := h j hj
  refine ⟨b, o, h1, cell_heap h2 (hu _ (World.block_lt_of_cell? w _ h2)), h3, fun i hi => ?_⟩
  obtain ⟨b9, o9, e1, e2, cur, fr, e3⟩ := h4 i hi
  have h9 := hu b9 (Array.getElem?_eq_some_iff.1 e3).1
  exact ⟨b9, o9, e1, fun q v hv => cell_heap (e2 q v hv) h9, cur, fr, h9.trans e3⟩
section
set_option maxHeartbeats 6400000
set_option maxRecDepth 100000
theorem firstOf_G (n : Nat) (hn : 3 ≤ n) (g2 g3 N : Nat) (zs : List Ent) (w : World)
    (hseq : ∀ u, Below w.heap.size w u → SeqG Fence.wide (n - 1) Try.prog 64 #[.pointer (some ⟨g2, 0, none⟩), .pointer (some ⟨g3, 0, none⟩)] (fun x : Ent => #[ea x]) (fun k => k < w.heap.size) (fun ys => ys = zs) (fun pre => pre <+: zs) N u) :
    CallsIn Fence.wide n Try.prog 49 #[.func (.func 64) #[] #[.pointer (some ⟨g2, 0, none⟩), .pointer (some ⟨g3, 0, none⟩)]] w fun e W' => (∃ s v ok, e = .returned (.tuple #[sv s, v, .bool ok]) ∧ ((zs = [] ∧ s = (0, 0) ∧ v = .int .u64 0 ∧ ok = false) ∨ (∃ x, zs.head? = some x ∧ s = x.st ∧ v = x.v ∧ ok = true))) ∧ Below w.heap.size w W' := by
  have h1 : 1 ≤ n := by omega
  have HSQ : Hid _ := hseq
  clear hseq
  refine callsIn_of_wp_marks Try.func49 rfl trivial ?_ rfl
  simp only [Try.ntmps49, List.size_toArray, List.length_cons, List.length_nil, Nat.reduceAdd, Nat.reduceSub, Array.replicate_succ, Array.replicate_zero, List.push_toArray, List.append_toArray, List.nil_append, List.cons_append]
  gi_wp2
  obtain ⟨W0, hW0⟩ : ∃ W0 : World, W0 = ((w.alloc (.cells #[.int .u64 0, .int .u64 0] tSt)).alloc (.cells #[.int .u64 0] 34)).alloc (.cells #[.bool false] 4) := ⟨_, rfl⟩
  have hb0 : Below w.heap.size w W0 := by rw [hW0]; exact al (al (al (Below.refl _ _) _) _) _
  have hsz : W0.heap.size = w.heap.size + 3 := by rw [hW0]; simp
  have hB0 : Bx3 W0 w.heap.size (0, 0) (.int .u64 0) false := by
    rw [hW0]
    refine ⟨?_, ?_, ?_⟩
    · exact ((al (al (Below.refl (w.alloc _).heap.size (w.alloc _)) _) _).block w.heap.size (by simp)).trans (heap_alloc_new w _)
    · have h9 := heap_alloc_new (w.alloc (.cells #[.int .u64 0, .int .u64 0] tSt)) (.cells #[.int .u64 0] 34)
      rw [World.size_alloc] at h9
      exact ((al (Below.refl ((w.alloc _).alloc _).heap.size ((w.alloc _).alloc _)) _).block (w.heap.size + 1) (by simp)).trans h9
    · have h9 := heap_alloc_new ((w.alloc (.cells #[.int .u64 0, .int .u64 0] tSt)).alloc (.cells #[.int .u64 0] 34)) (.cells #[.bool false] 4)
      rw [World.size_alloc, World.size_alloc] at h9
      exact h9
  rw [← hW0]
  clear hW0
  have hZb : ∀ (Z : BlkS), (∀ k, Z k → k < w.heap.size ∨ w.heap.size + 3 ≤ k) → ¬ Z w.heap.size ∧ ¬ Z (w.heap.size + 1) ∧ ¬ Z (w.heap.size + 1 + 1) := fun Z h9 => ⟨fun h8 => by rcases h9 _ h8 with h7 | h7 <;> omega, fun h8 => by rcases h9 _ h8 with h7 | h7 <;> omega, fun h8 => by rcases h9 _ h8 with h7 | h7 <;> omega⟩
  refine wpIn_rangeFunc_G rfl h1 (gf := 64) (lb := #[.pointer (some ⟨g2, 0, none⟩), .pointer (some ⟨g3, 0, none⟩)]) rfl trivial (enters_of Try.func64 (by kernel_rfl) rfl)
    (HSQ.out W0 hb0) (fun k hk => by omega) (fun _ => rfl)
    (fun pre Z W => pre = [] ∧ Bx3 W w.heap.size (0, 0) (.int .u64 0) false ∧ Below w.heap.size w W ∧ (∀ k, Z k → k < W.heap.size ∧ (k < w.heap.size ∨ w.heap.size + 3 ≤ k)))
    (fun c pre Z W => c = .ret ∧ ∃ x : Ent, pre = [x] ∧ Bx3 W w.heap.size x.st x.v true ∧ Below w.heap.size w W)
    ⟨fun s Z A B row hs hg hr => ⟨hs.1, hs.2.1.kept hg (fun r e => (hr r e).2), (ownFrom_below (β := Unit) (Nat.le_refl w.heap.size) (by omega)) () A B row hs.2.2.1 hg hr, (fun k hk => by
        rcases hk with hk | ⟨hk, hk2⟩
        · exact ⟨Nat.lt_of_lt_of_le (hs.2.2.2 k hk).1 hg.size, (hs.2.2.2 k hk).2⟩
        · have := (Array.getElem?_eq_some_iff.1 hs.2.1.c).1; exact ⟨hk2, .inr (by omega)⟩)⟩,
      fun s Z Z' A hs hz => ⟨hs.1, hs.2.1, hs.2.2.1, fun k hk => hs.2.2.2 k (hz k hk)⟩⟩
    (fun c => ⟨fun s Z A B row hs hg hr => by obtain ⟨h1, x, h2, h3, h4⟩ := hs; exact ⟨h1, x, h2, h3.kept hg (fun r e => (hr r e).2), (ownFrom_below (β := Unit) (Nat.le_refl w.heap.size) (by omega)) () A B row h4 hg hr⟩, fun s Z Z' A hs _ => hs⟩)
    ⟨rfl, hB0, hb0, fun k hk => ⟨by omega, .inl hk⟩⟩
    (fun x a' W => ∃ Bx, w.heap.size + 3 ≤ Bx ∧ W.heap[Bx]? = some (.cells #[.int .u64 (x.st.1 : Int), .int .u64 (x.st.2 : Int), x.v] tEn (0, 0)) ∧ a' = { tmps := #[.func (.func 64) #[] #[.pointer (some ⟨g2, 0, none⟩), .pointer (some ⟨g3, 0, none⟩)], undef, .pointer (some ⟨w.heap.size, 0, none⟩), .pointer (some ⟨w.heap.size + 1, 0, none⟩), .pointer (some ⟨w.heap.size + 1 + 1, 0, none⟩), .pointer (some ⟨Bx, 0, none⟩), .func (.func 64) #[] #[.pointer (some ⟨g2, 0, none⟩), .pointer (some ⟨g3, 0, none⟩)], ea x, undef, undef, undef, undef, undef, undef], defers := [] })
    (fun x a' s A B row hs hg hr => by obtain ⟨Bx, h1, h2, h3⟩ := hs; exact ⟨Bx, h1, heap_kept h2 hg (fun r e => (hr r e).2), h3⟩)
    ?assign ?body ?done ?stop
  case assign =>
    rintro l pre Z ⟨⟨x1, x2⟩, xn⟩ W K ⟨rfl, hB, hb, hzl⟩ hK
    have hsW : w.heap.size + 3 ≤ W.heap.size := (Array.getElem?_eq_some_iff.1 hB.c).1
    gi_wp2
    exact hK _ _ ((KeepsOthers.alloc _ _).from _) (fun k hk => Below.heap_alloc W _ k (hzl k hk).1) ⟨by first | rfl | trivial, hB.kept (World.grownBy_alloc W _ none) (fun r e => by cases e), hb.alloc (by omega) _, fun k hk => ⟨by have := (hzl k hk).1; simp; omega, (hzl k hk).2⟩⟩ ⟨W.heap.size, hsW, heap_alloc_new W _, rfl⟩
  case body =>
    rintro l pre Z ⟨⟨x1, x2⟩, xn⟩ a' W hl hlr ⟨rfl, hB, hb, hzl⟩ ⟨Bx, hBx, hX, rfl⟩ hlt
    obtain ⟨hz0, hz1, hz2⟩ := hZb Z (fun k hk => (hzl k hk).2)
    have hx0 : W.cell? ⟨Bx, 0, none⟩ = some (.int .u64 (x1 : Int)) := by rw [cell_of_row _ _ _ _ _ _ hX]; rfl
    have hx1 : W.cell? ⟨Bx, 1, none⟩ = some (.int .u64 (x2 : Int)) := by rw [cell_of_row _ _ _ _ _ _ hX]; rfl
    have hx2 : W.cell? ⟨Bx, 2, none⟩ = some (.int .u64 (xn : Int)) := by rw [cell_of_row _ _ _ _ _ _ hX]; rfl
    have ha0 : W.cell? ⟨w.heap.size, 0, none⟩ = some (.int .u64 0) := by rw [cell_of_row _ _ _ _ _ _ hB.a]; rfl
    have ha1 : W.cell? ⟨w.heap.size, 1, none⟩ = some (.int .u64 0) := by rw [cell_of_row _ _ _ _ _ _ hB.a]; rfl
    have hb0' : W.cell? ⟨w.heap.size + 1, 0, none⟩ = some (.int .u64 0) := by rw [cell_of_row _ _ _ _ _ _ hB.b]; rfl
    have hc0 : W.cell? ⟨w.heap.size + 1 + 1, 0, none⟩ = some (.bool false) := by rw [cell_of_row _ _ _ _ _ _ hB.c]; rfl
    have fa0 : W.frozen? ⟨w.heap.size, 0, none⟩ = false := by simp [World.frozen?, hB.a]
    have fa1 : W.frozen? ⟨w.heap.size, 1, none⟩ = false := by simp [World.frozen?, hB.a]
    have fb0 : W.frozen? ⟨w.heap.size + 1, 0, none⟩ = false := by simp [World.frozen?, hB.b]
    have fc0 : W.frozen? ⟨w.heap.size + 1 + 1, 0, none⟩ = false := by simp [World.frozen?, hB.c]
    have n1 : ¬ Bx = w.heap.size := by omega
    have n2 : ¬ Bx = w.heap.size + 1 := by omega
    have n3 : ¬ Bx = w.heap.size + 1 + 1 := by omega
    have hfl : Try.prog.follows Departure.mixedOrders = true := by kernel_rfl
    have HBD : Hid (∀ z : World, z = ((((W.setCell ⟨w.heap.size, 0, none⟩ (.int .u64 (x1 : Int))).setCell ⟨w.heap.size, 1, none⟩ (.int .u64 (x2 : Int))).setCell ⟨w.heap.size + 1, 0, none⟩ (.int .u64 (xn : Int))).setCell ⟨w.heap.size + 1 + 1, 0, none⟩ (.bool true)).drew → (KeepsFrom W0.heap.size W z ∧ KeepZ Z W z) ∧ Bx3 z w.heap.size (x1, x2) (.int .u64 (xn : Int)) true ∧ Below w.heap.size w z) := fun z hz => by
      have k1 : KeepsOthers W z := by rw [hz]; exact ((((KeepsOthers.setCell _ _ _).trans (KeepsOthers.setCell _ _ _)).trans (KeepsOthers.setCell _ _ _)).trans (KeepsOthers.setCell _ _ _)).trans (KeepsOthers.drew _)
      have e1 : (W.setCell ⟨w.heap.size, 0, none⟩ (.int .u64 (x1 : Int))).heap[w.heap.size]? = some (.cells #[.int .u64 (x1 : Int), .int .u64 0] tSt (0, 0)) := by rw [heap_setCell_same W w.heap.size 0 _ tSt _ hB.a]; rfl
      have e2 : ((W.setCell ⟨w.heap.size, 0, none⟩ (.int .u64 (x1 : Int))).setCell ⟨w.heap.size, 1, none⟩ (.int .u64 (x2 : Int))).heap[w.heap.size]? = some (.cells #[.int .u64 (x1 : Int), .int .u64 (x2 : Int)] tSt (0, 0)) := by rw [heap_setCell_same _ w.heap.size 1 _ tSt _ e1]; rfl
      have kz : KeepZ Z W z := fun k hk => by
        have n0 : k ≠ w.heap.size := fun e => hz0 (e ▸ hk)
        have n1 : k ≠ w.heap.size + 1 := fun e => hz1 (e ▸ hk)
        have n2 : k ≠ w.heap.size + 1 + 1 := fun e => hz2 (e ▸ hk)
        rw [hz, heap_drew, heap_setCell_other _ _ _ _ (by simpa using n2), heap_setCell_other _ _ _ _ (by simpa using n1), heap_setCell_other _ _ _ _ (by simpa using n0), heap_setCell_other _ _ _ _ (by simpa using n0)]
      refine ⟨⟨k1.from _, kz⟩, ⟨?_, ?_, ?_⟩, ?_⟩
      · rw [hz, heap_drew, heap_setCell_other _ _ _ _ (by first | (simp; done) | (simp; omega)), heap_setCell_other _ _ _ _ (by first | (simp; done) | (simp; omega))]; exact e2
      · rw [hz, heap_drew, heap_setCell_other _ _ _ _ (by first | (simp; done) | (simp; omega))]
        have e3 : ((W.setCell ⟨w.heap.size, 0, none⟩ (.int .u64 (x1 : Int))).setCell ⟨w.heap.size, 1, none⟩ (.int .u64 (x2 : Int))).heap[w.heap.size + 1]? = some (.cells #[.int .u64 0] 34 (0, 0)) := by rw [heap_setCell_other _ _ _ _ (by first | (simp; done) | (simp; omega)), heap_setCell_other _ _ _ _ (by first | (simp; done) | (simp; omega))]; exact hB.b
        rw [heap_setCell_same _ (w.heap.size + 1) 0 _ _ _ e3]; rfl
      · rw [hz, heap_drew]
        have e3 : (((W.setCell ⟨w.heap.size, 0, none⟩ (.int .u64 (x1 : Int))).setCell ⟨w.heap.size, 1, none⟩ (.int .u64 (x2 : Int))).setCell ⟨w.heap.size + 1, 0, none⟩ (.int .u64 (xn : Int))).heap[w.heap.size + 1 + 1]? = some (.cells #[.bool false] 4 (0, 0)) := by rw [heap_setCell_other _ _ _ _ (by first | (simp; done) | (simp; omega)), heap_setCell_other _ _ _ _ (by first | (simp; done) | (simp; omega)), heap_setCell_other _ _ _ _ (by first | (simp; done) | (simp; omega))]; exact hB.c
        rw [heap_setCell_same _ (w.heap.size + 1 + 1) 0 _ _ _ e3]; rfl
      · rw [hz]
        exact ((((hb.setCell (p := ⟨w.heap.size, 0, none⟩) (Nat.le_refl _) _).setCell (p := ⟨w.heap.size, 1, none⟩) (Nat.le_refl _) _).setCell (p := ⟨w.heap.size + 1, 0, none⟩) (Nat.le_succ _) _).setCell (p := ⟨w.heap.size + 1 + 1, 0, none⟩) (by simp; omega) _).drew
    gi_wp2
    gi_region_o
    all_goals gi_wp2
    all_goals exact ⟨(HBD.out _ rfl).1.1, (HBD.out _ rfl).1.2, rfl, ⟨(x1, x2), xn⟩, rfl, (HBD.out _ rfl).2.1, (HBD.out _ rfl).2.2⟩
  case done =>
    rintro D ys Z W hD rfl ⟨hnil, hB, hb, -⟩ hK
    have ha0 : W.cell? ⟨w.heap.size, 0, none⟩ = some (.int .u64 0) := by rw [cell_of_row _ _ _ _ _ _ hB.a]; rfl
    have ha1 : W.cell? ⟨w.heap.size, 1, none⟩ = some (.int .u64 0) := by rw [cell_of_row _ _ _ _ _ _ hB.a]; rfl
    have hb0' : W.cell? ⟨w.heap.size + 1, 0, none⟩ = some (.int .u64 0) := by rw [cell_of_row _ _ _ _ _ _ hB.b]; rfl
    have hc0 : W.cell? ⟨w.heap.size + 1 + 1, 0, none⟩ = some (.bool false) := by rw [cell_of_row _ _ _ _ _ _ hB.c]; rfl
    have fa0 : W.frozen? ⟨w.heap.size, 0, none⟩ = false := by simp [World.frozen?, hB.a]
    have fa1 : W.frozen? ⟨w.heap.size, 1, none⟩ = false := by simp [World.frozen?, hB.a]
    have fb0 : W.frozen? ⟨w.heap.size + 1, 0, none⟩ = false := by simp [World.frozen?, hB.b]
    have fc0 : W.frozen? ⟨w.heap.size + 1 + 1, 0, none⟩ = false := by simp [World.frozen?, hB.c]
    have hfl : Try.prog.follows Departure.mixedOrders = true := by kernel_rfl
    have HDK : Hid (∀ z : World, z = ((((W.setCell ⟨w.heap.size, 0, none⟩ (.int .u64 0)).setCell ⟨w.heap.size, 1, none⟩ (.int .u64 0)).setCell ⟨w.heap.size + 1, 0, none⟩ (.int .u64 0)).setCell ⟨w.heap.size + 1 + 1, 0, none⟩ (.bool false)).drew → Bx3 z w.heap.size (0, 0) (.int .u64 0) false ∧ Below w.heap.size w z ∧ z.heap[D]? = some (.deferred (some []))) := fun z hz => by
      have k1 : KeepsOthers W z := by rw [hz]; exact ((((KeepsOthers.setCell _ _ _).trans (KeepsOthers.setCell _ _ _)).trans (KeepsOthers.setCell _ _ _)).trans (KeepsOthers.setCell _ _ _)).trans (KeepsOthers.drew _)
      refine ⟨⟨?_, ?_, ?_⟩, ?_, k1.same D _ hK rfl⟩
      · have e1 : (W.setCell ⟨w.heap.size, 0, none⟩ (.int .u64 0)).heap[w.heap.size]? = some (.cells #[.int .u64 0, .int .u64 0] tSt (0, 0)) := by rw [heap_setCell_same W w.heap.size 0 _ tSt _ hB.a]; rfl
        have e2 : ((W.setCell ⟨w.heap.size, 0, none⟩ (.int .u64 0)).setCell ⟨w.heap.size, 1, none⟩ (.int .u64 0)).heap[w.heap.size]? = some (.cells #[.int .u64 0, .int .u64 0] tSt (0, 0)) := by rw [heap_setCell_same _ w.heap.size 1 _ tSt _ e1]; rfl
        rw [hz, heap_drew, heap_setCell_other _ _ _ _ (by first | (simp; done) | (simp; omega)), heap_setCell_other _ _ _ _ (by first | (simp; done) | (simp; omega))]; exact e2
      · rw [hz, heap_drew, heap_setCell_other _ _ _ _ (by first | (simp; done) | (simp; omega))]
        have e3 : ((W.setCell ⟨w.heap.size, 0, none⟩ (.int .u64 0)).setCell ⟨w.heap.size, 1, none⟩ (.int .u64 0)).heap[w.heap.size + 1]? = some (.cells #[.int .u64 0] 34 (0, 0)) := by rw [heap_setCell_other _ _ _ _ (by first | (simp; done) | (simp; omega)), heap_setCell_other _ _ _ _ (by first | (simp; done) | (simp; omega))]; exact hB.b
        rw [heap_setCell_same _ (w.heap.size + 1) 0 _ _ _ e3]; rfl
      · rw [hz, heap_drew]
        have e3 : (((W.setCell ⟨w.heap.size, 0, none⟩ (.int .u64 0)).setCell ⟨w.heap.size, 1, none⟩ (.int .u64 0)).setCell ⟨w.heap.size + 1, 0, none⟩ (.int .u64 0)).heap[w.heap.size + 1 + 1]? = some (.cells #[.bool false] 4 (0, 0)) := by rw [heap_setCell_other _ _ _ _ (by first | (simp; done) | (simp; omega)), heap_setCell_other _ _ _ _ (by first | (simp; done) | (simp; omega)), heap_setCell_other _ _ _ _ (by first | (simp; done) | (simp; omega))]; exact hB.c
        rw [heap_setCell_same _ (w.heap.size + 1 + 1) 0 _ _ _ e3]; rfl
      · rw [hz]
        exact ((((hb.setCell (p := ⟨w.heap.size, 0, none⟩) (Nat.le_refl _) _).setCell (p := ⟨w.heap.size, 1, none⟩) (Nat.le_refl _) _).setCell (p := ⟨w.heap.size + 1, 0, none⟩) (Nat.le_succ _) _).setCell (p := ⟨w.heap.size + 1 + 1, 0, none⟩) (by simp; omega) _).drew
    gi_wp2
    gi_region_o
    all_goals gi_wp2
    all_goals
      refine ⟨by simp, .inl ⟨_, _, rfl, run_takeDeferred (HDK.out _ rfl).2.2, ?_⟩⟩
      exact ⟨_, results_c3 rfl _ ((HDK.out _ rfl).1.kept (grownBy_putObj' _ D (.deferred none)) (fun r e => by cases e; exact ⟨_, (HDK.out _ rfl).2.2, rfl⟩)) rfl rfl rfl, ⟨(0, 0), .int .u64 0, false, rfl, .inl ⟨hnil, rfl, rfl, rfl⟩⟩, (HDK.out _ rfl).2.1.trans (belowK_b (w := w) (Nat.le_refl _) _ D _ _ (by omega) (HDK.out _ rfl).2.2 rfl rfl)⟩
  case stop =>
    rintro D c pre Z W hD hpre ⟨rfl, x, rfl, hB, hb⟩ hK
    gi_wp2
    refine ⟨by simp, .inl ⟨_, _, rfl, run_takeDeferred hK, ?_⟩⟩
    exact ⟨_, results_c3 rfl _ (hB.kept (grownBy_putObj' _ D (.deferred none)) (fun r e => by cases e; exact ⟨_, hK, rfl⟩)) rfl rfl rfl, ⟨x.st, x.v, true, rfl, .inr ⟨x, by obtain ⟨t, ht⟩ := hpre; rw [← ht]; rfl, rfl, rfl, rfl⟩⟩, hb.trans (belowK_b (w := w) (Nat.le_refl _) _ D _ _ (by omega) hK rfl rfl)⟩
end
end Go.Proofs.Ytibolgpaolnheac
namespace Go.Proofs.Ytibolgpaolnheac
set_option linter.unusedVariables false
set_option linter.unusedSimpArgs false
open Go.RowKit Go.Shelf
section
set_option maxRecDepth 20000
set_option maxHeartbeats 3200000
/-- the entry that Greatest answers -/
theorem greatest_t (x : Value) (b o : Nat) (n cap : Nat) (P : List (List Ent)) (s1 s2 : Nat) (w : World) (hx : PgV w x (some ⟨b, o, none⟩) n cap) (hn : n = P.length) (hcap : n ≤ cap) (h0 : 0 < n) (hp : RdP w (some ⟨b, o, none⟩) P) (hsp : SP P) (hl : n ≤ 4398046511104) (hlp : ∀ p ∈ P, p.length ≤ 100) :
    Calls Try.prog 25 #[x, sv (s1, s2)] w fun e w' => ∃ (p i : Nat) (ok0 : Bool) (s : St) (v : Value) (ok : Bool), e = .returned (.tuple #[sv s, v, .bool ok]) ∧ PlaceIs P (s1, s2) p i ok0 ∧ ((downL P (s1, s2) = [] ∧ s = (0, 0) ∧ v = .int .u64 0 ∧ ok = false) ∨ (∃ y, (downL P (s1, s2)).head? = some y ∧ s = y.st ∧ v = y.v ∧ ok = true)) ∧ Below w.heap.size w w' := by
  obtain ⟨w1, hw1⟩ : ∃ X : World, X = (w.alloc (.cells #[.int .u64 (s1 : Int), .int .u64 (s2 : Int)] tSt)).alloc (.cells #[.int .u64 0, .int .u64 0] tSt) := ⟨_, rfl⟩
  have hb1 : Below w.heap.size w w1 := by rw [hw1]; exact al (al (Below.refl _ _) _) _
  have HFR : Hid _ := upTo_t x b o n cap P s1 s2 w1 (hx.below hb1) hn hcap h0 (hp.below hb1) hsp hl hlp
  have hr1 : w1.heap[w.heap.size + 1]? = some (.cells #[.int .u64 0, .int .u64 0] tSt (0, 0)) := by rw [hw1]; exact (two_new w _ _).2
  have HB1 : Hid (Below w.heap.size w w1) := hb1
  have HR1 : Hid _ := hr1
  have HP : Hid (RdP w (some ⟨b, o, none⟩) P) := hp
  have HSP : Hid (SP P) := hsp
  have HLP : Hid (∀ p ∈ P, p.length ≤ 100) := hlp
  have HN : Hid (n = P.length) := hn
  clear hx hp hsp hlp hn hb1 hr1
  go_enter Try.func25, Try.ntmps25
  go_wp2_with fail
  rw [← hw1]
  refine Calls.mono HFR.out ?_
  rintro e w2 ⟨p, i, ok0, rfl, hpl, hpn, hb2⟩
  obtain ⟨np, hnp⟩ : ∃ np, np = p + 1 := ⟨_, rfl⟩
  obtain ⟨cnt9, hc9⟩ : ∃ c : Nat, c = (if ok0 then i + 1 else i) := ⟨_, rfl⟩
  rw [← hnp, ← hc9]
  have HB2 : Hid (Below w.heap.size w w2) := below_next HB1.out hb2
  have HR2 : Hid (w2.heap[w.heap.size + 1]? = some (.cells #[.int .u64 0, .int .u64 0] tSt (0, 0))) := (hb2.block (w.heap.size + 1) (Array.getElem?_eq_some_iff.1 HR1.out).1).trans HR1.out
  have HPL : Hid (PlaceIs P (s1, s2) p i ok0) := hpl
  have HRI : Hid _ := falling_t (some ⟨b, o, none⟩) np cap cnt9 w2
  obtain ⟨w3, hw3⟩ : ∃ X : World, X = (w2.alloc (.cells #[.slice (some ⟨b, o, none⟩) np cap] tPs)).alloc (.cells #[.int .i64 (cnt9 : Int)] 3) := ⟨_, rfl⟩
  have hb3 : Below w2.heap.size w2 w3 := by rw [hw3]; exact al (al (Below.refl _ _) _) _
  have hrd3 : RdP w3 (some ⟨b, o, none⟩) (P.take np) := ((HP.out.below HB2.out).below hb3).take np
  obtain ⟨A, C, hA⟩ := hrd3.fix
  have hz2 := two_new w2 (.cells #[.slice (some ⟨b, o, none⟩) np cap] tPs) (.cells #[.int .i64 (cnt9 : Int)] 3)
  rw [← hw3] at hz2
  have hc2 : w3.cell? ⟨w2.heap.size, 0, none⟩ = some (.slice (some ⟨b, o, none⟩) np cap) := by rw [cell_of_row _ _ _ _ _ _ hz2.1]; rfl
  have hc3 : w3.cell? ⟨w2.heap.size + 1, 0, none⟩ = some (.int .i64 (cnt9 : Int)) := by rw [cell_of_row _ _ _ _ _ _ hz2.2]; rfl
  have hpP : p < P.length := by have := HN.out; omega
  have hml : np = (P.take np).length := by rw [List.length_take]; omega
  have hlastp : (P.take np).getD (np - 1) [] = P[p] := by
    rw [show np - 1 = p by omega]
    simp [List.getD, List.getElem?_take, hnp, hpP]
  have hcnt : cnt9 ≤ ((P.take np).getD (np - 1) []).length := by
    rw [hlastp, hc9]
    obtain ⟨h8, h7, -⟩ := HPL.out.cut HSP.out hpP
    by_cases hb9 : ok0 = true
    · rw [if_pos hb9]; have := h7 hb9; omega
    · rw [if_neg hb9]; exact h8
  have HFA : Hid (∀ ps : List (Fin (P.take np).length), ps.map Fin.val = bkP (P.take np).length → fallF (P.take np) cnt9 ps = downL P (s1, s2)) := fun ps h9 => by
    rw [down_cut HPL.out HSP.out hpP cnt9 hc9, fall_all (P.take np) cnt9 p (by rw [List.length_take]; omega) ps h9, List.take_take, Nat.min_eq_left (by omega)]
    congr 2
    have h8 := hlastp
    rw [show np - 1 = p by omega] at h8
    rw [h8]
  have HFO : Hid _ := callsIn_wide.1 (firstOf_G 12 (by decide) w2.heap.size (w2.heap.size + 1) 1125899906842624 (downL P (s1, s2)) w3 (fun u hu => by
    have hku : ∀ v, KeepZ (fun k => k < w3.heap.size) u v → ∀ k, k < w3.heap.size → v.heap[k]? = w3.heap[k]? := fun v hv k hk => (hv k hk).trans (hu.block k hk)
    refine (falling_G 11 (by decide) w2.heap.size (w2.heap.size + 1) (P.take np) cnt9 np cap (some ⟨b, o, none⟩) A C (fun k => k < w3.heap.size) u hml (by omega) (fun q hq => HLP.out q (List.mem_of_mem_take hq)) (fun q hq => HSP.out.1 q (List.mem_of_mem_take hq)) hcnt 1125899906842624 (fun k hk => by omega) (fun k hk => Nat.lt_of_lt_of_le hk hu.size) (fun v hv => ⟨hA.old (hku v hv), cell_heap hc2 (hku v hv _ (World.block_lt_of_cell? w3 _ hc2)), cell_heap hc3 (hku v hv _ (World.block_lt_of_cell? w3 _ hc3))⟩)).imp ?_ ?_
    · rintro xs ⟨ps, h9, rfl⟩
      exact HFA.out ps h9
    · rintro xs ⟨ps, x, k, h9, rfl⟩
      obtain ⟨qs, hqs⟩ := bkF_ex (P.take np).length
      show _ <+: downL P (s1, s2)
      rw [← HFA.out qs hqs]
      exact fall_pre ps x k qs hqs h9))
  have HB3 : Hid (Below w.heap.size w w3) := below_next HB2.out hb3
  have HR3 : Hid (w3.heap[w.heap.size + 1]? = some (.cells #[.int .u64 0, .int .u64 0] tSt (0, 0))) := (hb3.block (w.heap.size + 1) (Array.getElem?_eq_some_iff.1 HR2.out).1).trans HR2.out
  clear hpl hb2 hnp hc9 hw1 hb3 hrd3 hA hz2 hc2 hc3 hml hlastp hcnt HFR
  go_wp2_with fail
  refine Calls.mono HRI.out ?_
  rintro e z ⟨rfl, hz⟩
  rw [← hw3] at hz
  subst hz
  clear hw3
  go_wp2_with fail
  refine Calls.mono HFO.out ?_
  rintro e w4 ⟨⟨s, v, ok, rfl, hcase⟩, hb4⟩
  have hr4 : w4.heap[w.heap.size + 1]? = some (.cells #[.int .u64 0, .int .u64 0] tSt (0, 0)) := (hb4.block (w.heap.size + 1) (Array.getElem?_eq_some_iff.1 HR3.out).1).trans HR3.out
  have HCS : Hid _ := hcase
  have HB4 : Hid (Below w.heap.size w w4) := below_next HB3.out hb4
  obtain ⟨y1, y2⟩ := s
  clear hcase hb4
  go_wp2_with (first | (refine wpList_store_row rfl tSt _ _ rfl (w.heap.size + 1) #[.int .u64 (y1 : Int), .int .u64 (y2 : Int)] rfl rfl tSt _ hr4 info_st rfl (by simp [Value.oneCell']) ?_))
  refine bodyPost_ret (results_ctt rfl _ _ (w.heap.size + 1) tSt #[.int .u64 (y1 : Int), .int .u64 (y2 : Int)] (0, 0) _ rfl (setRow_heap w4 (w.heap.size + 1) _ _ tSt _ hr4) Try.underlying36 rfl info_st) rfl ?_
  exact ⟨p, i, ok0, (y1, y2), v, ok, rfl, HPL.out, HCS.out, below_setRow HB4.out (Nat.le_succ _) _⟩
end
end Go.Proofs.Ytibolgpaolnheac
namespace Go.Proofs.Ytibolgpaolnheac
set_option linter.unusedVariables false
set_option linter.unusedSimpArgs false
open Go.RowKit Go.Shelf
section
set_option maxRecDepth 20000
set_option maxHeartbeats 3200000
/-- Least of an index of no pages -/
theorem least0_t (x : Value) (pa : Option Addr) (cap : Nat) (hpa : (pa = none ∧ cap = 0) ∨ (∃ b o, pa = some ⟨b, o, none⟩)) (s1 s2 : Nat) (w : World) (hx : PgV w x pa 0 cap) :
    Calls Try.prog 23 #[x, sv (s1, s2)] w fun e w' => e = .returned (.tuple #[sv (0, 0), .int .u64 0, .bool false]) ∧ Below w.heap.size w w' := by
  obtain ⟨w1, hw1⟩ : ∃ X : World, X = (w.alloc (.cells #[.int .u64 (s1 : Int), .int .u64 (s2 : Int)] tSt)).alloc (.cells #[.int .u64 0, .int .u64 0] tSt) := ⟨_, rfl⟩
  have hb1 : Below w.heap.size w w1 := by rw [hw1]; exact al (al (Below.refl _ _) _) _
  have HFR : Hid _ := from0_t x pa cap hpa s1 s2 w1 (hx.below hb1)
  have hr1 : w1.heap[w.heap.size + 1]? = some (.cells #[.int .u64 0, .int .u64 0] tSt (0, 0)) := by rw [hw1]; exact (two_new w _ _).2
  have HB1 : Hid (Below w.heap.size w w1) := hb1
  have HR1 : Hid _ := hr1
  clear hx hb1 hr1
  go_enter Try.func23, Try.ntmps23
  go_wp2_with fail
  rw [← hw1]
  refine Calls.mono HFR.out ?_
  rintro e w2 ⟨rfl, hb2⟩
  have HB2 : Hid (Below w.heap.size w w2) := below_next HB1.out hb2
  have HR2 : Hid (w2.heap[w.heap.size + 1]? = some (.cells #[.int .u64 0, .int .u64 0] tSt (0, 0))) := (hb2.block (w.heap.size + 1) (Array.getElem?_eq_some_iff.1 HR1.out).1).trans HR1.out
  have HRI : Hid (Calls Try.prog 50 #[.slice pa 0 cap, .int .i64 0] w2 fun e w' => e = .returned (.func (.func 63) #[] #[.pointer (some ⟨w2.heap.size, 0, none⟩), .pointer (some ⟨w2.heap.size + 1, 0, none⟩)]) ∧ w' = (w2.alloc (.cells #[.slice pa 0 cap] tPs)).alloc (.cells #[.int .i64 0] 3)) := rising_t pa 0 cap 0 w2
  obtain ⟨w3, hw3⟩ : ∃ X : World, X = (w2.alloc (.cells #[.slice pa 0 cap] tPs)).alloc (.cells #[.int .i64 0] 3) := ⟨_, rfl⟩
  have hb3 : Below w2.heap.size w2 w3 := by rw [hw3]; exact al (al (Below.refl _ _) _) _
  have hz2 := two_new w2 (.cells #[.slice pa 0 cap] tPs) (.cells #[.int .i64 0] 3)
  rw [← hw3] at hz2
  have hc2 : w3.cell? ⟨w2.heap.size, 0, none⟩ = some (.slice pa 0 cap) := by rw [cell_of_row _ _ _ _ _ _ hz2.1]; rfl
  have hc3 : w3.cell? ⟨w2.heap.size + 1, 0, none⟩ = some (.int .i64 0) := by rw [cell_of_row _ _ _ _ _ _ hz2.2]; rfl
  have HFO : Hid _ := callsIn_wide.1 (firstOf_in Fence.wide 4 trivial trivial rfl (by decide) w2.heap.size (w2.heap.size + 1) [] w3 (fun u hu => by
    have hseq := rising_stops Fence.wide 3 trivial rfl (by decide) w2.heap.size (w2.heap.size + 1) [] 0 pa 0 cap rfl (by decide) (fun q hq => by cases hq) (Nat.zero_le _) (fun _ => none) (fun _ => 0) (fun q hq => by cases hq) w3 (fun j hj => absurd hj (Nat.not_lt_zero _)) hc2 hc3
    exact fun l J Jx W hW hJ hJx hY h0 => hseq l J Jx W (hu.trans (hW.mono hu.size)) hJ hJx hY h0))
  have HB3 : Hid (Below w.heap.size w w3) := below_next HB2.out hb3
  have HR3 : Hid (w3.heap[w.heap.size + 1]? = some (.cells #[.int .u64 0, .int .u64 0] tSt (0, 0))) := (hb3.block (w.heap.size + 1) (Array.getElem?_eq_some_iff.1 HR2.out).1).trans HR2.out
  clear hb2 hw1 hb3 hz2 hc2 hc3 HFR
  go_wp2_with fail
  refine Calls.mono HRI.out ?_
  rintro e z ⟨rfl, hz⟩
  rw [← hw3] at hz
  subst hz
  clear hw3
  go_wp2_with fail
  refine Calls.mono HFO.out ?_
  rintro e w4 ⟨⟨s, v, ok, rfl, hcase⟩, hb4⟩
  have hr4 : w4.heap[w.heap.size + 1]? = some (.cells #[.int .u64 0, .int .u64 0] tSt (0, 0)) := (hb4.block (w.heap.size + 1) (Array.getElem?_eq_some_iff.1 HR3.out).1).trans HR3.out
  have HB4 : Hid (Below w.heap.size w w4) := below_next HB3.out hb4
  obtain ⟨rfl, rfl, rfl⟩ : s = (0, 0) ∧ v = .int .u64 0 ∧ ok = false := by
    rcases hcase with ⟨-, h8, h7, h6⟩ | ⟨y, h8, -⟩
    · exact ⟨h8, h7, h6⟩
    · cases h8
  clear hcase hb4
  go_wp2_with (first | (refine wpList_store_row rfl tSt _ _ rfl (w.heap.size + 1) #[.int .u64 0, .int .u64 0] rfl rfl tSt _ hr4 info_st rfl (by simp [Value.oneCell']) ?_))
  refine bodyPost_ret (results_ctt rfl _ _ (w.heap.size + 1) tSt #[.int .u64 0, .int .u64 0] (0, 0) _ rfl (setRow_heap w4 (w.heap.size + 1) _ _ tSt _ hr4) Try.underlying36 rfl info_st) rfl ?_
  exact ⟨rfl, below_setRow HB4.out (Nat.le_succ _) _⟩
/-- Greatest of an index of no pages -/
theorem greatest0_t (x : Value) (pa : Option Addr) (cap : Nat) (hpa : (pa = none ∧ cap = 0) ∨ (∃ b o, pa = some ⟨b, o, none⟩)) (s1 s2 : Nat) (w : World) (hx : PgV w x pa 0 cap) :
    Calls Try.prog 25 #[x, sv (s1, s2)] w fun e w' => e = .returned (.tuple #[sv (0, 0), .int .u64 0, .bool false]) ∧ Below w.heap.size w w' := by
  obtain ⟨w1, hw1⟩ : ∃ X : World, X = (w.alloc (.cells #[.int .u64 (s1 : Int), .int .u64 (s2 : Int)] tSt)).alloc (.cells #[.int .u64 0, .int .u64 0] tSt) := ⟨_, rfl⟩
  have hb1 : Below w.heap.size w w1 := by rw [hw1]; exact al (al (Below.refl _ _) _) _
  have HFR : Hid _ := upTo0_t x pa cap hpa s1 s2 w1 (hx.below hb1)
  have hr1 : w1.heap[w.heap.size + 1]? = some (.cells #[.int .u64 0, .int .u64 0] tSt (0, 0)) := by rw [hw1]; exact (two_new w _ _).2
  have HB1 : Hid (Below w.heap.size w w1) := hb1
  have HR1 : Hid _ := hr1
  clear hx hb1 hr1
  go_enter Try.func25, Try.ntmps25
  go_wp2_with fail
  rw [← hw1]
  refine Calls.mono HFR.out ?_
  rintro e w2 ⟨rfl, hb2⟩
  have HB2 : Hid (Below w.heap.size w w2) := below_next HB1.out hb2
  have HR2 : Hid (w2.heap[w.heap.size + 1]? = some (.cells #[.int .u64 0, .int .u64 0] tSt (0, 0))) := (hb2.block (w.heap.size + 1) (Array.getElem?_eq_some_iff.1 HR1.out).1).trans HR1.out
  have HRI : Hid (Calls Try.prog 52 #[.slice pa 0 cap, .int .i64 0] w2 fun e w' => e = .returned (.func (.func 64) #[] #[.pointer (some ⟨w2.heap.size, 0, none⟩), .pointer (some ⟨w2.heap.size + 1, 0, none⟩)]) ∧ w' = (w2.alloc (.cells #[.slice pa 0 cap] tPs)).alloc (.cells #[.int .i64 0] 3)) := falling_t pa 0 cap 0 w2
  obtain ⟨w3, hw3⟩ : ∃ X : World, X = (w2.alloc (.cells #[.slice pa 0 cap] tPs)).alloc (.cells #[.int .i64 0] 3) := ⟨_, rfl⟩
  have hb3 : Below w2.heap.size w2 w3 := by rw [hw3]; exact al (al (Below.refl _ _) _) _
  have hz2 := two_new w2 (.cells #[.slice pa 0 cap] tPs) (.cells #[.int .i64 0] 3)
  rw [← hw3] at hz2
  have hc2 : w3.cell? ⟨w2.heap.size, 0, none⟩ = some (.slice pa 0 cap) := by rw [cell_of_row _ _ _ _ _ _ hz2.1]; rfl
  have hc3 : w3.cell? ⟨w2.heap.size + 1, 0, none⟩ = some (.int .i64 0) := by rw [cell_of_row _ _ _ _ _ _ hz2.2]; rfl
  have HFO : Hid _ := callsIn_wide.1 (firstOf_G 12 (by decide) w2.heap.size (w2.heap.size + 1) 0 [] w3 (fun u hu => by
    have hku : ∀ v, KeepZ (fun k => k < w3.heap.size) u v → ∀ k, k < w3.heap.size → v.heap[k]? = w3.heap[k]? := fun v hv k hk => (hv k hk).trans (hu.block k hk)
    refine (falling_G 11 (by decide) w2.heap.size (w2.heap.size + 1) [] 0 0 cap pa (fun _ => none) (fun _ => 0) (fun k => k < w3.heap.size) u rfl (by decide) (fun q hq => by cases hq) (fun q hq => by cases hq) (Nat.zero_le _) 0 (fun k hk => absurd hk (Nat.not_lt_zero _)) (fun k hk => Nat.lt_of_lt_of_le hk hu.size) (fun v hv => ⟨fun j hj => absurd hj (Nat.not_lt_zero _), cell_heap hc2 (hku v hv _ (World.block_lt_of_cell? w3 _ hc2)), cell_heap hc3 (hku v hv _ (World.block_lt_of_cell? w3 _ hc3))⟩)).imp ?_ ?_
    · rintro xs ⟨ps, -, rfl⟩
      cases ps with
      | nil => rfl
      | cons x ps => exact x.elim0
    · rintro xs ⟨ps, x, k, -, -⟩
      exact x.elim0))
  have HB3 : Hid (Below w.heap.size w w3) := below_next HB2.out hb3
  have HR3 : Hid (w3.heap[w.heap.size + 1]? = some (.cells #[.int .u64 0, .int .u64 0] tSt (0, 0))) := (hb3.block (w.heap.size + 1) (Array.getElem?_eq_some_iff.1 HR2.out).1).trans HR2.out
  clear hb2 hw1 hb3 hz2 hc2 hc3 HFR
  go_wp2_with fail
  refine Calls.mono HRI.out ?_
  rintro e z ⟨rfl, hz⟩
  rw [← hw3] at hz
  subst hz
  clear hw3
  go_wp2_with fail
  refine Calls.mono HFO.out ?_
  rintro e w4 ⟨⟨s, v, ok, rfl, hcase⟩, hb4⟩
  have hr4 : w4.heap[w.heap.size + 1]? = some (.cells #[.int .u64 0, .int .u64 0] tSt (0, 0)) := (hb4.block (w.heap.size + 1) (Array.getElem?_eq_some_iff.1 HR3.out).1).trans HR3.out
  have HB4 : Hid (Below w.heap.size w w4) := below_next HB3.out hb4
  obtain ⟨rfl, rfl, rfl⟩ : s = (0, 0) ∧ v = .int .u64 0 ∧ ok = false := by
    rcases hcase with ⟨-, h8, h7, h6⟩ | ⟨y, h8, -⟩
    · exact ⟨h8, h7, h6⟩
    · cases h8
  clear hcase hb4
  go_wp2_with (first | (refine wpList_store_row rfl tSt _ _ rfl (w.heap.size + 1) #[.int .u64 0, .int .u64 0] rfl rfl tSt _ hr4 info_st rfl (by simp [Value.oneCell']) ?_))
  refine bodyPost_ret (results_ctt rfl _ _ (w.heap.size + 1) tSt #[.int .u64 0, .int .u64 0] (0, 0) _ rfl (setRow_heap w4 (w.heap.size + 1) _ _ tSt _ hr4) Try.underlying36 rfl info_st) rfl ?_
  exact ⟨rfl, below_setRow HB4.out (Nat.le_succ _) _⟩
end
end Go.Proofs.Ytibolgpaolnheac
