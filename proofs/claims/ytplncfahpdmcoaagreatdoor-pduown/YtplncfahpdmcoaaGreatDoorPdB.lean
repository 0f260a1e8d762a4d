import Derived.Test.YtplncfahpdmcoaaGreatDoorPdX
import Derived.Test.YtplncfahpdmcoaaGreatDoorUBn
import Derived.Test.YtplncfahpdmcoaaGreatDoorGMiss
namespace Go.Proofs.YtplncfahpdmcoaaGreatDoor
set_option linter.unusedVariables false
set_option linter.unusedSimpArgs false
open Go.RowKit
theorem gotF_ri : ∀ (l : List Rg) (a : Int), 0 ≤ a → gotF a l → ∀ x ∈ l, I64 x.1 ∧ I64 x.2
  | [], _, _, _, x, hx => by cases hx
  | y :: l, a, ha, h, x, hx => by
    obtain ⟨⟨h1, h2, h3⟩, h4⟩ := h
    rcases List.mem_cons.1 hx with rfl | hx
    · unfold I64; omega
    · exact gotF_ri l (y.2 + 1) (by omega) h4 x hx
theorem valid_ri {u : Un} (h : validV u) : RI u.got := by
  rcases h.2 with ⟨-, h9⟩ | ⟨-, h9⟩ | ⟨-, h9⟩
  · have : u.got = [] := List.eq_nil_of_length_eq_zero h9.2.2.2.2.2
    intro x hx; rw [this] at hx; cases hx
  · exact gotF_ri _ 0 (Int.le_refl _) h9.2.2.1
  · have : u.got = [] := List.eq_nil_of_length_eq_zero h9.2.2
    intro x hx; rw [this] at hx; cases hx
theorem wrap64_small {q : Nat} (h : q < 100) : wrap64 (q : Int) = (q : Int) := by unfold wrap64; omega
theorem addL_len (l : List Rg) (i : Int) : (addL l i).length ≤ l.length + 1 := by unfold addL; split <;> simp
theorem LPk_uniq {l l2 : List Rg} {i0 : Int} {r : Nat} {a b : List Rg} (h1 : LPk l l2 i0 r a) (h2 : LPk l l2 i0 r b) : a = b := by
  match r with
  | 0 => exact h1.trans h2.symm
  | 1 => exact Lst.uniq h1.1 h2.1 (fun i => by rw [h1.2 i, h2.2 i])
  | 2 => exact Lst.uniq h1.1 h2.1 (fun i => by rw [h1.2 i, h2.2 i])
  | 3 => exact Lst.uniq h1.1 h2.1 (fun i => by rw [h1.2 i, h2.2 i])
  | _ + 4 => exact MissS.uniq h1 h2 (fun i => Iff.rfl)
/-- three boxes' lists -/
structure S3 (b1 b2 b3 : Nat) (v1 v2 v3 : Value) (u : World) : Prop where
  a : u.cell? ⟨b1, 8, none⟩ = some v1
  b : u.cell? ⟨b2, 8, none⟩ = some v2
  c : u.cell? ⟨b3, 8, none⟩ = some v3
variable {b1 b2 b3 : Nat} {v1 v2 v3 : Value} {u u' : World}
theorem S3.below (h : S3 b1 b2 b3 v1 v2 v3 u) (hb : Below u.heap.size u u') : S3 b1 b2 b3 v1 v2 v3 u' :=
  ⟨(hb.cell (World.block_lt_of_cell? u _ h.a)).trans h.a, (hb.cell (World.block_lt_of_cell? u _ h.b)).trans h.b, (hb.cell (World.block_lt_of_cell? u _ h.c)).trans h.c⟩
theorem S3.grown {r : Option Nat} (h : S3 b1 b2 b3 v1 v2 v3 u) (hg : u.grownBy u' r) (h1 : some b1 ≠ r) (h2 : some b2 ≠ r) (h3 : some b3 ≠ r) : S3 b1 b2 b3 v1 v2 v3 u' :=
  ⟨hg.cell h.a h1, hg.cell h.b h2, hg.cell h.c h3⟩
variable {W w w' : World} {F : KeyS → RowS} {n m : Nat} {tv lv : Value} {TX : Nat → List UInt8} {LP : Nat → List Rg → Prop}
theorem info23 : (Tryz.prog.info? tB1).map (fun i => (i.zero, i.size, i.bytes)) = some (some (.slice none 0 0), 1, 24) := by kernel_rfl
theorem info24 : (Tryz.prog.info? tR1).map (fun i => (i.zero, i.size, i.bytes)) = some (some (.slice none 0 0), 1, 24) := by kernel_rfl
theorem rd_left {w : World} {a : Option Addr} {xs ys : List UInt8} (h : Rd w a (xs ++ ys)) : Rd w a xs := by
  have h7 := Rd.take h xs.length
  rwa [List.take_left' rfl] at h7
theorem lpf {l1 l2 : List Rg} {i0 : Int} {k j : Nat} {out : List Rg} (hj : j < 5) (hn : out.length ≤ 1000000) (h : LPk (if k = 1 then l2 else l1) l2 i0 j out) : LPF l1 l2 i0 (5 * k + j) out :=
  ⟨hn, by rw [show (5 * k + j) / 5 = k by omega, show (5 * k + j) % 5 = j by omega]; exact h⟩
theorem five_up {F' : KeyS → RowS} {m : Nat} {r0 : RowS} (r1 r2 r3 r4 : RowS) (h : F' (1, m) = r0) :
    (updR (updR (updR (updR F' (1, m + 1) r1) (1, m + 2) r2) (1, m + 3) r3) (1, m + 4) r4) (1, m) = r0 ∧ (updR (updR (updR (updR F' (1, m + 1) r1) (1, m + 2) r2) (1, m + 3) r3) (1, m + 4) r4) (1, m + 1) = r1 ∧ (updR (updR (updR (updR F' (1, m + 1) r1) (1, m + 2) r2) (1, m + 3) r3) (1, m + 4) r4) (1, m + 2) = r2 ∧ (updR (updR (updR (updR F' (1, m + 1) r1) (1, m + 2) r2) (1, m + 3) r3) (1, m + 4) r4) (1, m + 3) = r3 ∧ (updR (updR (updR (updR F' (1, m + 1) r1) (1, m + 2) r2) (1, m + 3) r3) (1, m + 4) r4) (1, m + 4) = r4 := by
  refine ⟨?_, ?_, ?_, ?_, ?_⟩ <;> simp [updR, h]
/-- what five rows want of the lists' property -/
theorem five_lp {F : KeyS → RowS} {m : Nat} {LP : Nat → List Rg → Prop} {x0 x1 x2 x3 x4 : Value} {o0 o1 o2 o3 o4 : List Rg} (e : F (1, m) = rRowS x0 o0 ∧ F (1, m + 1) = rRowS x1 o1 ∧ F (1, m + 2) = rRowS x2 o2 ∧ F (1, m + 3) = rRowS x3 o3 ∧ F (1, m + 4) = rRowS x4 o4) (h0 : LP (m + 0) o0) (h1 : LP (m + 1) o1) (h2 : LP (m + 2) o2) (h3 : LP (m + 3) o3) (h4 : LP (m + 4) o4) :
    (∀ j, j < 5 → ∃ out, F (1, m + j) = rRowS (F (1, m + j)).v out ∧ LP (m + j) out) ∧ (∀ j, j < 5 → [x0, x1, x2, x3, x4][j]? = some (F (1, m + j)).v) := by
  obtain ⟨e0, e1, e2, e3, e4⟩ := e
  refine ⟨fun j hj => ?_, fun j hj => ?_⟩
  · match j, hj with
    | 0, _ => exact ⟨o0, by rw [Nat.add_zero, e0]; rfl, h0⟩
    | 1, _ => exact ⟨o1, by rw [e1]; rfl, h1⟩
    | 2, _ => exact ⟨o2, by rw [e2]; rfl, h2⟩
    | 3, _ => exact ⟨o3, by rw [e3]; rfl, h3⟩
    | 4, _ => exact ⟨o4, by rw [e4]; rfl, h4⟩
  · match j, hj with
    | 0, _ => rw [Nat.add_zero, e0]; rfl
    | 1, _ => rw [e1]; rfl
    | 2, _ => rw [e2]; rfl
    | 3, _ => rw [e3]; rfl
    | 4, _ => rw [e4]; rfl
/-- two texts more -/
theorem wp_appT {ops : Array Oper} {rest : List Oper} {o : Oper} {a : Act} {Q : Exit → Act → World → Prop} (hgd : o.guard = none) (s y : Operand)
    (ho : o.op = .call { callee := .builtin .append, args := #[s, y], argTypes := #[29, 29] }) (h : Pw W w F n m tv lv TX LP) (hs : a.eval s = tv)
    (g0 c0 : Nat) (x0 x1 : Value) (hy : a.eval y = .slice (some ⟨g0, 0, none⟩) 2 c0) (hu : w.heap[g0]? = some (.cells #[x0, x1] tB1 (0, 0))) (h0 : F (0, n) = bRowS x0 (TX n)) (h1 : F (0, n + 1) = bRowS x1 (TX (n + 1))) (hn : n ≤ 900)
    (hk : ∀ G cap w' F', Pw W w' F' (n + 2) m (.slice (some ⟨G, 0, none⟩) (n + 2) cap) lv TX LP → (∀ i, F' (1, i) = F (1, i)) → w.grownBy w' tv.ownBlock → wpList Tryz.prog ops Q rest (a.put o.dst (.slice (some ⟨G, 0, none⟩) (n + 2) cap)) w') : wpList Tryz.prog ops Q (o :: rest) a w := by
  have hown := h.d.fam.own (4, 0)
  rw [h.rt] at hown
  have o0 := one_of_row (h.d.fam.own (0, n))
  have o1 := one_of_row (h.d.fam.own (0, n + 1))
  rw [h0] at o0
  rw [h1] at o1
  obtain ⟨G, cap, w', hr, h2, h3, h4⟩ := run_appL W.heap.size 29 o.type tB1 (.slice none 0 0) Tryz.underlying29 info23 rfl tv n _ hown g0 c0 2 [x0, x1] rfl (fun j hj => by
    rw [cell_of_row _ _ _ _ _ _ hu]
    simp) (by intro u hu; simp at hu; rcases hu with rfl | rfl <;> assumption) (by omega) (by decide) h.d.bel.size
  refine Lib.wpList_append_run w hgd s y _ _ ho tv (.slice (some ⟨g0, 0, none⟩) 2 c0) hs hy _ w' hr ?_
  refine hk G cap w' _ (h.listT h3 h2 h4 rfl (fun j hj => ?_) (fun i hi hl => ?_)) (fun i => updR_other _ (by simp) _) h3
  · match j, hj with
    | 0, _ => rw [Nat.add_zero, h0]; rfl
    | 1, _ => rw [h1]; rfl
  · by_cases e : i = n
    · subst e; rw [h0]; rfl
    · obtain rfl : i = n + 1 := by omega
      rw [h1]; rfl
/-- five lists more -/
theorem wpo_appL {o : Oper} {a : Act} {K' : Act → World → Prop} {Q : Exit → Act → World → Prop} (s y : Operand)
    (ho : o.op = .call { callee := .builtin .append, args := #[s, y], argTypes := #[30, 30] }) (h : Pw W w F n m tv lv TX LP) (hs : a.eval s = lv)
    (g0 c0 : Nat) (us : List Value) (hul : us.length = 5) (hy : a.eval y = .slice (some ⟨g0, 0, none⟩) 5 c0) (hu : w.heap[g0]? = some (.cells us.toArray tR1 (0, 0))) (h0 : ∀ j, j < 5 → ∃ out, F (1, m + j) = rRowS (F (1, m + j)).v out ∧ LP (m + j) out) (h1 : ∀ j, j < 5 → us[j]? = some (F (1, m + j)).v) (hm : m ≤ 900)
    (hk : ∀ G cap w' F', Pw W w' F' n (m + 5) tv (.slice (some ⟨G, 0, none⟩) (m + 5) cap) TX LP → w.grownBy w' lv.ownBlock → K' (a.put o.dst (.slice (some ⟨G, 0, none⟩) (m + 5) cap)) w') : Oper.wp Tryz.prog o a w K' Q := by
  have hown := h.d.fam.own (4, 1)
  rw [h.rl] at hown
  obtain ⟨G, cap, w', hr, h2, h3, h4⟩ := run_appL W.heap.size 30 o.type tR1 (.slice none 0 0) Tryz.underlying30 info24 rfl lv m _ hown g0 c0 5 us hul.symm (fun j hj => by
    rw [cell_of_row _ _ _ _ _ _ hu]
    simp) (by
      intro u hu
      obtain ⟨j, hj, e⟩ := List.getElem_of_mem hu
      have h9 := h1 j (by omega)
      rw [List.getElem?_eq_getElem hj, e] at h9
      cases h9
      exact one_of_row (h.d.fam.own (1, m + j))) (by omega) (by decide) h.d.bel.size
  unfold Oper.wp execOp
  simp only [ho, resolve, invoke, builtin, Sem.run_bind, Sem.run_pure, Result.andThen_ok, List.map_toArray, List.map_cons, List.map_nil, hs, hy, hr]
  refine hk G cap w' _ (h.listL h3 h2 h4 (by rw [hul]) (fun j hj => h1 j (by omega)) (fun i hi hl => ?_)) h3
  have := h0 (i - m) (by omega)
  rwa [show m + (i - m) = i by omega] at this
abbrev t5 : TypeId := 40
theorem info40 : (Tryz.prog.info? t5).map (·.size) = some 5 := by kernel_rfl
theorem alloc_at {W X : World} {ob : Obj} (_ : Below W.heap.size W (X.alloc ob)) : (X.alloc ob).heap[X.heap.size]? = some ob := heap_alloc_new X ob
theorem alloc_atd {W X : World} {ob : Obj} (_ : Below W.heap.size W (X.alloc ob).drew) : (X.alloc ob).drew.heap[X.heap.size]? = some ob := heap_alloc_new X ob
theorem grown_setRow (w : World) (g : Nat) (cs : Array Value) : w.grownBy (w.setRow g cs) (some g) := ⟨rfl, rfl, rfl, by simp, fun k _ h => setRow_other w g k cs (fun e => h (by rw [e]))⟩
/-- a store of five lists into an array's box -/
theorem wpo_store5 {W w : World} {o : Oper} {a : Act} {K' : Act → World → Prop} {Q : Exit → Act → World → Prop} (x y : Operand) (ho : o.op = .store t5 x y) (g : Nat) (x0 x1 x2 x3 x4 : Value)
    (hx : a.eval x = .pointer (some ⟨g, 0, none⟩)) (hy : a.eval y = .agg #[x0, x1, x2, x3, x4]) (h1 : (#[x0, x1, x2, x3, x4]).all (·.oneCell') = true) (y0 y1 y2 y3 y4 : Value) (t : TypeId) (hg : w.heap[g]? = some (.cells #[y0, y1, y2, y3, y4] t (0, 0))) (hW : Below W.heap.size W w) (hgW : W.heap.size ≤ g)
    (h : ∀ z, Below W.heap.size W z → z.heap[g]? = some (.cells #[x0, x1, x2, x3, x4] t (0, 0)) → w.grownBy z (some g) → K' (a.put o.dst undef) z) : Oper.wp Tryz.prog o a w K' Q :=
  wp_store_row t5 x y ho g #[x0, x1, x2, x3, x4] hx hy t _ hg info40 rfl h1 (h _ (below_setRow hW hgW _) (setRow_heap w g _ _ t _ hg) (grown_setRow w g _))
theorem RdR.st5 {w z : World} {g : Nat} {ao : Option Addr} {xs : List Rg} {t : TypeId} (h : RdR w ao xs) (hg : w.heap[g]? = some (.cells #[.slice none 0 0, .slice none 0 0, .slice none 0 0, .slice none 0 0, .slice none 0 0] t (0, 0))) (hz : w.grownBy z (some g)) : RdR z ao xs := fun j hj => by
  obtain ⟨b, o, h1, h2, h3⟩ := h j hj
  have hne : some b ≠ some g := by
    intro e
    cases e
    rw [cell_of_row _ _ _ _ _ _ hg] at h2
    have h9 := (Array.getElem?_eq_some_iff.1 h2).1
    have h8 := (Array.getElem?_eq_some_iff.1 h2).2
    have h7 : ∀ (i : Nat) (hi : i < 5), (#[Value.slice none 0 0, .slice none 0 0, .slice none 0 0, .slice none 0 0, .slice none 0 0])[i]'hi = .slice none 0 0 := by
      intro i hi
      match i, hi with
      | 0, _ => rfl
      | 1, _ => rfl
      | 2, _ => rfl
      | 3, _ => rfl
      | 4, _ => rfl
    rw [h7 _ h9] at h8
    cases h8
  exact ⟨b, o, h1, hz.cell h2 hne, hz.cell h3 hne⟩
/-- one of five -/
theorem pick5 {z : World} {g r : Nat} {t : TypeId} {l l2 : List Rg} {i0 : Int} {a0 a1 a2 a3 a4 : Option Addr} {n0 c0 c1 c2 c3 c4 : Nat} {o1 o2 o3 o4 : List Rg} (hr : r < 5) (hc : z.heap[g]? = some (.cells #[.slice a0 n0 c0, .slice a1 o1.length c1, .slice a2 o2.length c2, .slice a3 o3.length c3, .slice a4 o4.length c4] t (0, 0)))
    (hn : n0 = l.length) (h0 : RdR z a0 l) (h1 : RdR z a1 o1) (h2 : RdR z a2 o2) (h3 : RdR z a3 o3) (h4 : RdR z a4 o4) (p1 : LPk l l2 i0 1 o1) (p2 : LPk l l2 i0 2 o2) (p3 : LPk l l2 i0 3 o3) (p4 : LPk l l2 i0 4 o4) :
    ∃ aV nV cV oV, z.cell? ⟨g, r, none⟩ = some (.slice aV nV cV) ∧ RdR z aV oV ∧ LPk l l2 i0 r oV ∧ nV = oV.length := by
  rw [cell_of_row _ _ _ _ _ _ hc]
  match r, hr with
  | 0, _ => exact ⟨a0, n0, c0, l, rfl, h0, rfl, hn⟩
  | 1, _ => exact ⟨a1, _, c1, o1, rfl, h1, p1, rfl⟩
  | 2, _ => exact ⟨a2, _, c2, o2, rfl, h2, p2, rfl⟩
  | 3, _ => exact ⟨a3, _, c3, o3, rfl, h3, p3, rfl⟩
  | 4, _ => exact ⟨a4, _, c4, o4, rfl, h4, p4, rfl⟩
end Go.Proofs.YtplncfahpdmcoaaGreatDoor
