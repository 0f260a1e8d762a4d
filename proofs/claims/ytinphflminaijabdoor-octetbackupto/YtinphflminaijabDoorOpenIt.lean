import Derived.Test.YtinphflminaijabDoorOpen
import Derived.Test.YtinphflminaijabDoorBackP
import Derived.Test.YtinphflminaijabDoorBulk
import Derived.Deep.Slices
import Derived.Deep.Strs
namespace Go.Proofs.YtinphflminaijabDoor
set_option linter.unusedVariables false
set_option linter.unusedSimpArgs false
open Go.ChangeShapes Go.WideShapes Go.ChangeAt Go.RowKit
/-- one item lies there -/
def ItAt (w : World) (b o : Nat) (i : It) : Prop :=
  ∃ a c, w.cell? ⟨b, o, none⟩ = some (.bool i.l) ∧ w.cell? ⟨b, o + 1, none⟩ = some (.int .u64 i.n) ∧ w.cell? ⟨b, o + 2, none⟩ = some (.slice a i.b.length c) ∧ Rd w a i.b ∧ i.b.length ≤ c ∧ (a = none → c = 0)
/-- the items can be read from the address on -/
def RdIts (w : World) (so : Option Addr) (is : List It) : Prop :=
  0 < is.length → ∃ b o, so = some ⟨b, o, none⟩ ∧ ∀ j (h : j < is.length), ItAt w b (o + j * 3) is[j]
theorem list_of {α : Type} {P : Nat → α → Prop} : ∀ (n : Nat), (∀ j, j < n → ∃ x, P j x) → ∃ l : List α, l.length = n ∧ ∀ j (hj : j < l.length), P j l[j]
  | 0, _ => ⟨[], rfl, fun j hj => by simp at hj⟩
  | n + 1, h => by
    obtain ⟨l, hl, hp⟩ := list_of n (fun j hj => h j (by omega))
    obtain ⟨x, hx⟩ := h n (by omega)
    refine ⟨l ++ [x], by simp [hl], fun j hj => ?_⟩
    by_cases e : j < l.length
    · rw [List.getElem_append_left e]; exact hp j e
    · have : j = l.length := by simp at hj; omega
      subst this
      simp
      rw [hl]
      exact hx
theorem its_sum {H : Type} : ∀ (is : List It) (ds : List (DataW H)), is.length = ds.length → (∀ j (h : j < is.length) (h' : j < ds.length), is[j].b.length + 1 ≤ Rows.uptoBulk ds[j]) → (is.map fun i => i.b.length + 1).sum ≤ Rows.uptoBulkAll ds
  | [], ds, _, _ => by simp
  | i :: r, [], h, _ => by simp at h
  | i :: r, d :: ds, h, hp => by
    have h0 := hp 0 (by simp) (by simp)
    have h1 := its_sum r ds (by simpa using h) (fun j h1 h2 => by have := hp (j + 1) (by simpa using h1) (by simpa using h2); simpa using this)
    simp only [List.getElem_cons_zero] at h0
    simp only [List.map_cons, List.sum_cons, Rows.uptoBulkAll]
    omega
theorem lay_sum : ∀ (is : List It), (∀ i ∈ is, i.ok) → (layAll is).length ≤ 10 * (is.map fun i => i.b.length + 1).sum ∧ is.length ≤ (is.map fun i => i.b.length + 1).sum ∧ ∀ i ∈ is, i.b.length ≤ (is.map fun i => i.b.length + 1).sum
  | [], _ => by simp [layAll]
  | i :: r, h => by
    have h0 := lay_len i (h i (by simp))
    obtain ⟨h1, h2, h3⟩ := lay_sum r (fun j hj => h j (by simp [hj]))
    have e : (layAll (i :: r)).length = i.lay.length + (layAll r).length := by unfold layAll; rw [List.flatMap_cons, List.length_append]
    simp only [List.map_cons, List.sum_cons, List.length_cons]
    refine ⟨by omega, by omega, fun j hj => ?_⟩
    rcases List.mem_cons.1 hj with rfl | hj
    · omega
    · have := h3 j hj; omega
theorem item_le : ∀ (is : List It) (i : It), i ∈ is → i.b.length ≤ (is.map fun i => i.b.length + 1).sum
  | [], i, h => by simp at h
  | x :: r, i, h => by
    simp only [List.map_cons, List.sum_cons]
    rcases List.mem_cons.1 h with rfl | h
    · omega
    · have := item_le r i h; omega
theorem cellsIt : Tryd.prog.cellsOf 50 = 3 := by kernel_rfl
theorem cellsIB : Tryd.prog.cellsOf 4 = 1 := by kernel_rfl
theorem cellsIU : Tryd.prog.cellsOf 38 = 1 := by kernel_rfl
theorem cellsIS : Tryd.prog.cellsOf 22 = 1 := by kernel_rfl
theorem opened_its {H : Type} {enc : TypeId × Value → H} {W : World} {a : Option Addr} {len cap : Nat} {d : DataW H} {p : List MemPlace}
    (h : DataW.Trod enc Tryd.prog W 0 (fun _ => true) true 47 (.slice a len cap) d p) :
    ∃ is : List It, is.length = len ∧ RdIts W a is ∧ len ≤ cap ∧ (a = none → cap = 0) ∧ (∀ i ∈ is, i.n < 18446744073709551616) ∧ (is.map fun i => i.b.length + 1).sum ≤ Rows.uptoBulk d := by
  obtain ⟨fuel, hf⟩ := h
  rcases Deep.open_slice Tryd.underlying47 hf with ⟨hcs, _⟩ | ⟨x, l, c, m, n, D, Pl, hcs, _, hl, hm, hmm, hd, hcell⟩
  · simp [Value.cells] at hcs
    obtain ⟨rfl, rfl, rfl⟩ := hcs
    exact ⟨[], rfl, fun h => absurd h (Nat.lt_irrefl 0), Nat.le_refl _, fun _ => rfl, by simp, by simp⟩
  · simp [Value.cells] at hcs
    obtain ⟨rfl, rfl, rfl⟩ := hcs
    simp only [if_true] at hmm
    subst hmm
    simp only [Prod.mk.injEq] at hd
    obtain ⟨b, o, s⟩ := x
    have hs0 : 0 < len → s = none := by
      intro h0
      obtain ⟨cs', h1, -⟩ := hcell 0 (by omega)
      rw [cellsIt] at h1
      obtain ⟨_, hlen, hcl⟩ := World.cells?_some h1
      have g0 := hcl 0 (by omega)
      match cs', hlen with
      | [v0, v1, v2], _ =>
        simp [Addr.add] at g0
        simpa using World.cell?_spot g0
    have each : ∀ j, j < len → ∃ i : It, (s = none ∧ ItAt W b (o + j * 3) i) ∧ i.n < 18446744073709551616 ∧ i.b.length + 1 ≤ Rows.uptoBulk (D j) := by
      intro j hj
      obtain ⟨cs', h1, h2⟩ := hcell j (by omega)
      rw [cellsIt] at h1
      obtain ⟨_, hlen, hcl⟩ := World.cells?_some h1
      obtain ⟨y0, y1, y2, n', hxy, _, t0, t1, t2⟩ := Deep.trod_struct3 Tryd.underlying50 h2
      match cs', hlen with
      | [v0, v1, v2], _ =>
        simp only [cellsIB, cellsIU, cellsIS] at t0 t1 t2
        obtain ⟨z0, e0, _⟩ := DataW.trod_bool Tryd.underlying4 t0
        obtain ⟨z1, e1, _, wm⟩ := DataW.trod_int Tryd.underlying38 t1
        have g0 := hcl 0 (by omega)
        have g1 := hcl 1 (by omega)
        have g2 := hcl 2 (by omega)
        rw [Deep.add_add] at g0 g1 g2
        simp at e0 e1 t2
        subst e0 e1
        have hm2 : 0 ≤ z1 ∧ z1 ≤ 18446744073709551615 := by simpa [Lit.wf, IntKind.min, IntKind.max, IntKind.signed, IntKind.bits] using wm
        obtain ⟨a2, l2, c2, rfl⟩ : ∃ a2 l2 c2, v2 = .slice a2 l2 c2 := by
          rcases Deep.open_slice Tryd.underlying22 t2 with ⟨hcs, _⟩ | ⟨x, l, c, m, n, D, Pl, hcs, _⟩
          · simp at hcs; exact ⟨_, _, _, hcs⟩
          · simp at hcs; exact ⟨_, _, _, hcs⟩
        obtain ⟨xs, rfl, hr, hlc, hn, hbk⟩ := opened_u8 (d := y2.1) (p := y2.2) ⟨n', t2⟩
        have hs : s = none := hs0 (by omega)
        subst hs
        rw [Go.WideShapes.add_plain] at g0 g1 g2
        refine ⟨⟨z0, z1.toNat, xs⟩, ⟨rfl, a2, c2, ?_, ?_, ?_, hr, hlc, hn⟩, by simp only; omega, ?_⟩
        · rw [← Nat.add_zero (o + j * 3), Nat.add_assoc, g0]; rfl
        · rw [Nat.add_assoc, g1]; simp; omega
        · rw [Nat.add_assoc, g2]; rfl
        · simp only [Prod.mk.injEq] at hxy
          rw [hxy.1]
          have hb2 : xs.length + 1 ≤ Rows.uptoBulk y2.1 := by
            rcases hbk with h0 | ⟨el, sp, he, hc⟩
            · have := bulk_pos y2.1; omega
            · rw [he]; have := bulk_slice el sp; omega
          simp only [Rows.uptoBulk, Rows.uptoBulkAll]
          omega
    obtain ⟨is, hil, hip⟩ := list_of len each
    refine ⟨is, hil, fun hp => ?_, hl, (fun h => by cases h), ?_, ?_⟩
    · have hs := (hip 0 hp).1.1
      subst hs
      exact ⟨b, o, rfl, fun j hj => (hip j hj).1.2⟩
    · intro i hi
      obtain ⟨j, hj, rfl⟩ := List.getElem_of_mem hi
      exact (hip j hj).2.1
    · rw [hd.1]
      have h1 := its_sum is ((List.range len).map D) (by simp [hil]) (fun j h1 h2 => by
        have := (hip j h1).2.2
        simpa using this)
      simp only [Rows.uptoBulk]
      omega
theorem RdIts.at {w : World} {so : Option Addr} {is : List It} (h : RdIts w so is) (k : Nat) (hk : k < is.length) : ∃ b o, so = some ⟨b, o, none⟩ ∧ ItAt w b (o + k * 3) is[k] := by
  obtain ⟨b, o, e, hp⟩ := h (by omega)
  exact ⟨b, o, e, hp k hk⟩
theorem ItAt.below {w w' : World} {b o : Nat} {i : It} (h : ItAt w b o i) (hb : Below w.heap.size w w') : ItAt w' b o i := by
  obtain ⟨a, c, h0, h1, h2, h3, h4⟩ := h
  exact ⟨a, c, (hb.cell (World.block_lt_of_cell? w _ h0)).trans h0, (hb.cell (World.block_lt_of_cell? w _ h1)).trans h1, (hb.cell (World.block_lt_of_cell? w _ h2)).trans h2, h3.below hb, h4⟩
theorem ok_at {is : List It} (h : ∀ i ∈ is, i.ok) (k : Nat) (hk : k < is.length) : is[k].ok := h _ (List.getElem_mem _)
end Go.Proofs.YtinphflminaijabDoor
