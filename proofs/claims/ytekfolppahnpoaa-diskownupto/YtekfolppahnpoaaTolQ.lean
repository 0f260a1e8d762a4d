import Derived.Test.YtekfolppahnpoaaTolP
namespace Go.Proofs.Ytekfolppahnpoaa
set_option linter.unusedVariables false
set_option linter.unusedSimpArgs false
open Go.RowKit Go.Maps
variable {W w w' : World} {P : Nat → Nat} {ds : Nat → Dst} {c K : Nat} {F : Key → Row}
abbrev rty (k : Nat) : TypeId := if k < 2 then 40 else 37
abbrev ety (k : Nat) : TypeId := if k < 2 then 5 else 3
theorem ety_ok (k : Nat) : okT (ety k) := by unfold ety okT; split <;> simp
theorem rty_ok (k : Nat) : okT (rty k) := by unfold rty okT; split <;> simp
def iv (l : List Int) : List Value := l.map (Value.int .i64)
/-- the lists name the rows -/
def Rel (N : Nat → Nat) (F : Key → Row) : Prop := ∀ k, k < 4 → (F (4, k)).e = rty k ∧ (F (4, k)).xs = (List.range (N k)).map (fun i => (F (k, i)).v) ∧ ∀ i, (F (k, i)).e = ety k
/-- what the rows hold -/
structure Cnt (N : Nat → Nat) (F : Key → Row) : Prop where
  le0 : N 1 ≤ N 0
  le2 : N 3 ≤ N 2
  by0 : ∀ i, i < N 0 → ∃ l, (F (0, i)).xs = bv l
  by2 : ∀ i, i < N 2 → ∃ l, (F (2, i)).xs = iv l
  sm0 : ∀ i, i < N 1 → (F (1, i)).xs = (F (0, i)).xs
  sm2 : ∀ i, i < N 3 → (F (3, i)).xs = (F (2, i)).xs
def Len (F : Key → Row) : Prop := ∀ k i, k < 4 → (F (k, i)).xs.length ≤ 9000000
structure Tl (W w : World) (P : Nat → Nat) (ds : Nat → Dst) (c K : Nat) (N : Nat → Nat) (F : Key → Row) : Prop where
  d : Ds W w P ds c K F
  r : Rel N F
  n : Cnt N F
  ln : Len F
theorem Tl.below {N : Nat → Nat} (h : Tl W w P ds c K N F) (hb : Below w.heap.size w w') : Tl W w' P ds c K N F := ⟨h.d.below hb, h.r, h.n, h.ln⟩
theorem ne4 {k i j : Nat} (h : k < 4) : ((4, j) : Key) ≠ (k, i) := by intro e; cases e; omega
theorem ne4' {k i j : Nat} (h : k < 4) : ((k, i) : Key) ≠ (4, j) := by intro e; cases e; omega
theorem Rel.put {N : Nat → Nat} (h : Rel N F) {k i : Nat} (hk : k < 4) (hi : N k ≤ i) {r : Row} (he : r.e = ety k) : Rel N (updF F (k, i) r) := by
  intro j hj
  obtain ⟨h1, h2, h3⟩ := h j hj
  rw [updF_other _ (ne4 hk)]
  refine ⟨h1, ?_, fun t => ?_⟩
  · rw [h2]
    refine List.map_congr_left fun t ht => ?_
    have ht := List.mem_range.1 ht
    rw [updF_other _ (by intro e; cases e; omega)]
  · by_cases e : ((j, t) : Key) = (k, i)
    · rw [e, updF_same, he]
      cases e; rfl
    · rw [updF_other _ e]; exact h3 t
theorem Len.put (h : Len F) {k i : Nat} {r : Row} (hr : r.xs.length ≤ 9000000) : Len (updF F (k, i) r) := by
  intro j t hj
  by_cases e : ((j, t) : Key) = (k, i)
  · rw [e, updF_same]; exact hr
  · rw [updF_other _ e]; exact h j t hj
theorem Cnt.put {N : Nat → Nat} (h : Cnt N F) {k i : Nat} (hi : N k ≤ i) {r : Row} : Cnt N (updF F (k, i) r) := by
  have e : ∀ j t, t < N j → updF F (k, i) r (j, t) = F (j, t) := fun j t ht => updF_other _ (by intro e; cases e; omega) _
  have l0 := h.le0
  have l2 := h.le2
  refine ⟨h.le0, h.le2, fun t ht => ?_, fun t ht => ?_, fun t ht => ?_, fun t ht => ?_⟩
  · rw [e 0 t ht]; exact h.by0 t ht
  · rw [e 2 t ht]; exact h.by2 t ht
  · rw [e 1 t ht, e 0 t (by omega)]; exact h.sm0 t ht
  · rw [e 3 t ht, e 2 t (by omega)]; exact h.sm2 t ht
/-- a row of new memory, not told yet -/
theorem Tl.put {N : Nat → Nat} (h : Tl W w P ds c K N F) (hb : Below w.heap.size w w') (k i : Nat) (hk : k < 4) (hi : N k ≤ i) (v : Value) (xs : List Value) (hr : w'.ownsRow w.heap.size (ety k) 1 v xs.length xs) (hl : xs.length ≤ 9000000) : Tl W w' P ds c K N (updF F (k, i) ⟨ety k, v, xs⟩) :=
  ⟨h.d.putNew hb (k, i) (by simp; omega) _ hr (ety_ok k), h.r.put hk hi rfl, h.n.put hi, h.ln.put hl⟩
/-- such a row changes -/
theorem Tl.step {N : Nat → Nat} (h : Tl W w P ds c K N F) (k i : Nat) (hk : k < 4) (hi : N k ≤ i) (hg : w.grownBy w' (F (k, i)).v.ownBlock) (v : Value) (xs : List Value) (hr : w'.ownsRow W.heap.size (ety k) 1 v xs.length xs) (hb : v.ownBlock = (F (k, i)).v.ownBlock ∨ ∀ g, v.ownBlock = some g → w.heap.size ≤ g) (hl : xs.length ≤ 9000000) : Tl W w' P ds c K N (updF F (k, i) ⟨ety k, v, xs⟩) :=
  ⟨h.d.step (k, i) (by simp; omega) hg _ hr (ety_ok k) hb, h.r.put hk hi rfl, h.n.put hi, h.ln.put hl⟩
/-- a list grows, and is written -/
theorem Tl.list {N N' : Nat → Nat} (h : Tl W w P ds c K N F) (k : Nat) (hk : k < 4) (G l cap : Nat) (us : List Value) (hg : w.grownBy w' (F (4, k)).v.ownBlock) (ho : w'.ownsRow W.heap.size (rty k) 1 (.slice (some ⟨G, 0, none⟩) l cap) l ((F (4, k)).xs ++ us)) (hlies : (F (4, k)).v.ownBlock = some G ∨ G = w.heap.size)
    (hl : N' k = l) (hs : (F (4, k)).xs ++ us = (List.range l).map (fun i => (F (k, i)).v)) (hN : ∀ j, j < 4 → j ≠ k → N' j = N j) (hC : Cnt N' F) :
    (w'.cell? ⟨K, k, none⟩ = some (F (4, k)).v ∧ w'.frozen? ⟨K, k, none⟩ = false) ∧ Tl W (w'.setCell ⟨K, k, none⟩ (.slice (some ⟨G, 0, none⟩) l cap)) P ds c K N' (updF F (4, k) ⟨rty k, .slice (some ⟨G, 0, none⟩) l cap, (F (4, k)).xs ++ us⟩) := by
  have hlen : ((F (4, k)).xs ++ us).length = l := by have := ho.1; simpa using this
  have h1 := h.d.list k hk hg ⟨rty k, .slice (some ⟨G, 0, none⟩) l cap, (F (4, k)).xs ++ us⟩ (by unfold Row.at; rw [hlen]; exact ho) (rty_ok k) (by
    rcases hlies with e | e
    · left; rw [e]; rfl
    · right; intro g e2; cases e2; rw [e]; exact Nat.le_refl _)
  refine ⟨h1.1, h1.2, fun j hj => ?_, ?_, fun j t hj => ?_⟩
  · obtain ⟨r1, r2, r3⟩ := h.r j hj
    have e3 : ∀ t, updF F (4, k) ⟨rty k, .slice (some ⟨G, 0, none⟩) l cap, (F (4, k)).xs ++ us⟩ (j, t) = F (j, t) := fun t => updF_other _ (ne4' hj) _
    by_cases e : j = k
    · subst e
      rw [updF_same]
      refine ⟨rfl, ?_, fun t => by rw [e3]; exact r3 t⟩
      show (F (4, j)).xs ++ us = _
      rw [hl]
      exact hs.trans (List.map_congr_left fun t _ => by rw [e3])
    · rw [updF_other _ (by intro e2; cases e2; exact e rfl), hN j hj e]
      refine ⟨r1, ?_, fun t => by rw [e3]; exact r3 t⟩
      rw [r2]
      exact List.map_congr_left fun t _ => by rw [e3]
  · have e3 : ∀ j t, j < 4 → updF F (4, k) ⟨rty k, .slice (some ⟨G, 0, none⟩) l cap, (F (4, k)).xs ++ us⟩ (j, t) = F (j, t) := fun j t hj => updF_other _ (ne4' hj) _
    refine ⟨hC.le0, hC.le2, fun t ht => ?_, fun t ht => ?_, fun t ht => ?_, fun t ht => ?_⟩
    · rw [e3 0 t (by decide)]; exact hC.by0 t ht
    · rw [e3 2 t (by decide)]; exact hC.by2 t ht
    · rw [e3 1 t (by decide), e3 0 t (by decide)]; exact hC.sm0 t ht
    · rw [e3 3 t (by decide), e3 2 t (by decide)]; exact hC.sm2 t ht
  · rw [updF_other _ (ne4' hj)]; exact h.ln j t hj
/-- a longer list in the place of one -/
structure Mo (W w : World) (P : Nat → Nat) (ds : Nat → Dst) (c K : Nat) (F : Key → Row) (x : Key) (vm : Value) (ms : List Value) : Prop where
  d : Ds W w P ds c K F
  row : w.ownsRow W.heap.size (F x).e 1 vm ms.length ms
  pre : ms.take (F x).xs.length = (F x).xs
  le : (F x).xs.length ≤ ms.length
  rel : (∃ g cap, (F x).v = .slice (some ⟨g, 0, none⟩) (F x).xs.length cap ∧ vm = .slice (some ⟨g, 0, none⟩) ms.length cap) ∨ (∀ y, vm.ownBlock = none ∨ vm.ownBlock ≠ (F y).v.ownBlock)
variable {x : Key} {vm : Value} {ms : List Value}
theorem Mo.below (h : Mo W w P ds c K F x vm ms) (hb : Below w.heap.size w w') : Mo W w' P ds c K F x vm ms :=
  ⟨h.d.below hb, Row.at_below (r := ⟨(F x).e, vm, ms⟩) h.row hb, h.pre, h.le, h.rel⟩
theorem Mo.start (h : Ds W w P ds c K F) (x : Key) : Mo W w P ds c K F x (F x).v (F x).xs := by
  refine ⟨h, h.fam.own x, by simp, Nat.le_refl _, ?_⟩
  rcases (h.fam.own x).2 with ⟨e, -⟩ | ⟨g, cap, cur, e, -⟩
  · right; intro y; left; rw [e]; rfl
  · exact .inl ⟨g, cap, e, e⟩
theorem own_take {w : World} {B e g l cap n : Nat} {ys : List Value} (h : w.ownsRow B e 1 (.slice (some ⟨g, 0, none⟩) l cap) l ys) (hn : n ≤ l) : w.ownsRow B e 1 (.slice (some ⟨g, 0, none⟩) n cap) n (ys.take n) := by
  have hl := h.1
  rcases h.2 with ⟨e, -⟩ | ⟨g', cap', cur, e, hB, hg, hnc, hcm, hcs, ht⟩
  · cases e
  · cases e
    refine ⟨by simp; omega, .inr ⟨g, cap, cur, rfl, hB, hg, by omega, hcm, hcs, ?_⟩⟩
    rw [← ht, List.take_take]
    congr 1
    omega
theorem updF_self (F : Key → Row) (x : Key) : updF F x (F x) = F := by
  funext y
  unfold updF
  split
  · rename_i h; rw [h]
  · rfl
theorem Mo.grow (h : Mo W w P ds c K F x vm ms) (hx : x.1 ≠ 4) (g cap : Nat) (hvm : vm = .slice (some ⟨g, 0, none⟩) ms.length cap) (hg : w.grownBy w' (some g)) (ms' : List Value) (hrow : w'.ownsRow W.heap.size (F x).e 1 (.slice (some ⟨g, 0, none⟩) ms'.length cap) ms'.length ms') (hpre : ms'.take (F x).xs.length = (F x).xs) (hle : (F x).xs.length ≤ ms'.length) : Mo W w' P ds c K F x (.slice (some ⟨g, 0, none⟩) ms'.length cap) ms' := by
  rcases h.rel with ⟨g', cap', e1, e2⟩ | hr
  · rw [hvm] at e2
    cases e2
    refine ⟨?_, hrow, hpre, hle, .inl ⟨g, cap, e1, rfl⟩⟩
    have h1 := h.d.step x hx (w' := w') (by rw [e1]; exact hg) (F x) (by
      unfold Row.at
      rw [e1]
      have h2 := own_take hrow hle
      rw [hpre] at h2
      exact h2) (h.d.ty x) (.inl rfl)
    rwa [updF_self] at h1
  · refine ⟨?_, hrow, hpre, hle, .inr ?_⟩
    · exact h.d.far (r := ⟨(F x).e, vm, ms⟩) h.row (h.d.ty x) hr (by show w.grownBy w' vm.ownBlock; rw [hvm]; exact hg)
    · rw [hvm] at hr
      exact hr
theorem Mo.app (h : Mo W w P ds c K F x vm ms) (hx : x.1 ≠ 4) {u v' : Value} (hrow : w'.ownsRow W.heap.size (F x).e 1 v' (ms ++ [u]).length (ms ++ [u]))
    (hc : (∃ g cap, vm = .slice (some ⟨g, 0, none⟩) ms.length cap ∧ v' = .slice (some ⟨g, 0, none⟩) (ms ++ [u]).length cap ∧ w.grownBy w' (some g)) ∨ (w.grownBy w' none ∧ ∃ cap, v' = .slice (some ⟨w.heap.size, 0, none⟩) (ms ++ [u]).length cap)) : Mo W w' P ds c K F x v' (ms ++ [u]) := by
  have hp : (ms ++ [u]).take (F x).xs.length = (F x).xs := by rw [List.take_append_of_le_length h.le]; exact h.pre
  have hle : (F x).xs.length ≤ (ms ++ [u]).length := by have := h.le; simp; omega
  rcases hc with ⟨g, cap, e1, rfl, hg⟩ | ⟨hg, cap, rfl⟩
  · exact h.grow hx g cap e1 hg _ hrow hp hle
  · refine ⟨h.d.below (gr_none hg), hrow, hp, hle, .inr fun y => .inr fun e => ?_⟩
    have := (h.d.fam.lt y w.heap.size e.symm).2
    omega
theorem Mo.set (h : Mo W w P ds c K F x vm ms) (hx : x.1 ≠ 4) (g cap : Nat) (hvm : vm = .slice (some ⟨g, 0, none⟩) ms.length cap) (j : Nat) (hj : (F x).xs.length ≤ j) (u : Value) : Mo W (w.setCell ⟨g, j, none⟩ u) P ds c K F x vm (ms.set j u) := by
  have h0 := h.row
  rw [hvm] at h0
  have h1 := World.ownsRow.stored h0 j u
  have h2 := h.grow hx g cap hvm h1.2 (ms.set j u) (by rw [List.length_set]; exact h1.1) (by
    rw [List.take_set_of_le hj]; exact h.pre) (by rw [List.length_set]; exact h.le)
  rw [List.length_set, ← hvm] at h2
  exact h2
theorem Mo.form (h : Mo W w P ds c K F x vm ms) (hp : 0 < ms.length) : ∃ g cap, vm = .slice (some ⟨g, 0, none⟩) ms.length cap ∧ ms.length ≤ cap ∧ (∀ j, j < ms.length → (w.cell? ⟨g, j, none⟩).isSome = true ∧ w.frozen? ⟨g, j, none⟩ = false) := by
  have h0 := h.row
  rcases h0.2 with ⟨-, e⟩ | ⟨g, cap, cur, rfl, -, -, hn, -⟩
  · omega
  · refine ⟨g, cap, rfl, hn, fun j hj => ⟨?_, World.ownsRow.frozenAt h0 j⟩⟩
    rw [World.ownsRow.cellAt h0 j (by omega)]
    simp [hj]
/-- append of one to it -/
theorem wp_appM {ops : Array Oper} {rest : List Oper} {o : Oper} {a : Act} {Q : Exit → Act → World → Prop} (hgd : o.guard = none) (s y : Operand) (t e : TypeId) (z : Value) (by_ : Nat)
    (ht : Try.prog.underlying t = some (.slice e)) (hinf : (Try.prog.info? e).map (fun i => (i.zero, i.size, i.bytes)) = some (some z, 1, by_)) (hz : z.cells.size = 1) (hby : by_ ≤ 8)
    (ho : o.op = .call { callee := .builtin .append, args := #[s, y], argTypes := #[t, t] }) (h : Mo W w P ds c K F x vm ms) (hx : x.1 ≠ 4) (he : (F x).e = e) (hs : a.eval s = vm)
    (g0 c0 : Nat) (u : Value) (hy : a.eval y = .slice (some ⟨g0, 0, none⟩) 1 c0) (hu : w.heap[g0]? = some (.cells #[u] e (0, 0))) (h1 : u.oneCell' = true) (hb : ms.length ≤ 10000000)
    (hk : ∀ v' w', Mo W w' P ds c K F x v' (ms ++ [u]) → wpList Try.prog ops Q rest (a.put o.dst v') w') : wpList Try.prog ops Q (o :: rest) a w := by
  have hrow := h.row
  rw [he] at hrow
  obtain ⟨v', w', hr, h2, h3⟩ := run_app1 W.heap.size t o.type e z by_ ht hinf hz vm ms hrow g0 c0 u hu h1 (by omega) (by have := Nat.mul_le_mul (show ms.length + 1 ≤ 10000001 by omega) hby; omega) h.d.ap.bel.size
  refine Lib.wpList_append_run w hgd s y t t ho vm (.slice (some ⟨g0, 0, none⟩) 1 c0) hs hy v' w' hr ?_
  exact hk v' w' (h.app hx (by rw [he]; exact h2) h3)
/-- marks -/
def mkB (i : Nat) : Value := .int .u8 ((i % 250 + 1 : Nat) : Int)
def mkI (i t : Nat) : Value := .int .i64 ((1000 * i + t : Nat) : Int)
structure Mrk (N : Nat → Nat) (F : Key → Row) : Prop where
  b : ∀ i, i < N 0 → ∀ t, t < (F (0, i)).xs.length → (F (0, i)).xs[t]? = some (mkB i)
  i : ∀ i, i < N 2 → ∀ t, t < (F (2, i)).xs.length → (F (2, i)).xs[t]? = some (mkI i t)
/-- the same rows, of the same lengths -/
structure SameV (F F' : Key → Row) : Prop where
  e : ∀ x, (F' x).e = (F x).e
  v : ∀ x, (F' x).v = (F x).v
  l : ∀ x, (F' x).xs.length = (F x).xs.length
  r : ∀ k, (F' (4, k)).xs = (F (4, k)).xs
theorem SameV.refl (F : Key → Row) : SameV F F := ⟨fun _ => rfl, fun _ => rfl, fun _ => rfl, fun _ => rfl⟩
theorem SameV.rel {N : Nat → Nat} {F' : Key → Row} (h : SameV F F') (hr : Rel N F) : Rel N F' := by
  intro k hk
  obtain ⟨h1, h2, h3⟩ := hr k hk
  refine ⟨(h.e _).trans h1, ?_, fun i => (h.e _).trans (h3 i)⟩
  rw [h.r, h2]
  exact List.map_congr_left fun t _ => (h.v _).symm
theorem SameV.len {F' : Key → Row} (h : SameV F F') (hr : Len F) : Len F' := fun k i hk => by rw [h.l]; exact hr k i hk
theorem SameV.set {F' : Key → Row} (h : SameV F F') (x : Key) (hx : x.1 ≠ 4) (j : Nat) (u : Value) : SameV F (updF F' x ⟨(F' x).e, (F' x).v, (F' x).xs.set j u⟩) := by
  have e : ∀ y, y = x ∨ y ≠ x := fun y => Classical.em _
  refine ⟨fun y => ?_, fun y => ?_, fun y => ?_, fun k => ?_⟩
  · rcases e y with rfl | hy
    · rw [updF_same]; exact h.e _
    · rw [updF_other _ hy]; exact h.e _
  · rcases e y with rfl | hy
    · rw [updF_same]; exact h.v _
    · rw [updF_other _ hy]; exact h.v _
  · rcases e y with rfl | hy
    · rw [updF_same]; simp only [List.length_set]; exact h.l _
    · rw [updF_other _ hy]; exact h.l _
  · rw [updF_other _ (by intro e; rw [← e] at hx; exact hx rfl)]; exact h.r k
/-- what is known of a row by the list that names it -/
theorem Ds.named {N : Nat → Nat} (h : Ds W w P ds c K F) (hr : Rel N F) (k : Nat) (hk : k < 4) : ∃ a cap, (F (4, k)).v = .slice a (N k) cap ∧ (0 < N k → ∃ G, a = some ⟨G, 0, none⟩ ∧ ∀ i, i < N k → w.cell? ⟨G, i, none⟩ = some (F (k, i)).v) := by
  obtain ⟨h1, h2, h3⟩ := hr k hk
  have hlen : (F (4, k)).xs.length = N k := by rw [h2]; simp
  have h0 := h.fam.own (4, k)
  obtain ⟨a, cap, e, -, hg⟩ := Row.val h0
  rw [hlen] at e hg
  refine ⟨a, cap, e, fun hp => ?_⟩
  obtain ⟨G, rfl⟩ := hg hp
  refine ⟨G, rfl, fun i hi => ?_⟩
  unfold Row.at at h0
  rw [hlen, e] at h0
  rw [World.ownsRow.cellAt h0 i (by omega), h2]
  simp [hi]
end Go.Proofs.Ytekfolppahnpoaa
