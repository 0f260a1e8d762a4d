import Derived.Test.YtkdgjfjcpgiokaaGreatLxO
namespace Go.Proofs.YtkdgjfjcpgiokaaGreat
set_option linter.unusedVariables false
set_option linter.unusedSimpArgs false
open Go.RowKit Go.Maps
abbrev tRi : TypeId := 89
/-- the document's rows -/
abbrev KO : Kd (Ss × Nat) := { t := 93, ts := 86, k := 3, by_ := 24, f := fun x => [.int .u64 (x.1.1 : Int), .int .u64 (x.1.2 : Int), .pointer (some ⟨x.2, 0, none⟩)], z := .agg #[.int .u64 0, .int .u64 0, .pointer none], hk := fun _ => rfl, h1 := (fun d u hu => by simp at hu; rcases hu with rfl | rfl | rfl <;> rfl), hpos := by decide, ht := Tryz.underlying86, hi := by kernel_rfl, hz := rfl }
abbrev KH : Kd (Ss × Int) := { t := 95, ts := 87, k := 3, by_ := 24, f := fun x => [.int .u64 (x.1.1 : Int), .int .u64 (x.1.2 : Int), .int .i64 x.2], z := .agg #[.int .u64 0, .int .u64 0, .int .i64 0], hk := fun _ => rfl, h1 := (fun d u hu => by simp at hu; rcases hu with rfl | rfl | rfl <;> rfl), hpos := by decide, ht := Tryz.underlying87, hi := by kernel_rfl, hz := rfl }
abbrev riC (J : Ib) (oa : Option Addr) (on oc : Nat) (sa : Option Addr) (sn sc : Nat) : Array Value := #[.int .i64 (J.mo : Int), .int .i64 (J.ms : Int), .int .u64 (J.ep : Int), .slice oa on oc, .slice sa sn sc]
/-- the document's inbox in memory -/
structure Rib (out : Option Ss) (w : World) (q : Nat) (oa : Option Addr) (on oc : Nat) (sa : Option Addr) (sn sc : Nat) (J : Ib) (E : List (Ss × Bg)) : Prop where
  hp : w.heap[q]? = some (.cells (riC J oa on oc sa sn sc) tRi (0, 0))
  ro : OwnG KO w 0 (.slice oa on oc) (mp Bg.q E)
  rs : OwnG KH w 0 (.slice sa sn sc) J.H
  bx : ∀ x, x ∈ E → out ≠ some x.1 → RBx w (some ⟨x.2.q, 0, none⟩) (some x.2.S) x.2.F
  ap : E.Pairwise (fun x y => out ≠ some x.1 → out ≠ some y.1 → ∀ b, x.2.F b → y.2.F b → False)
  nf : ∀ x, x ∈ E → out ≠ some x.1 → ∀ b, x.2.F b → b ≠ q ∧ (Value.slice oa on oc).ownBlock ≠ some b ∧ (Value.slice sa sn sc).ownBlock ≠ some b
  eO : J.O = mp Bg.S E
  ok : IbOk J
def footD (out : Option Ss) (q : Nat) (oa : Option Addr) (on oc : Nat) (sa : Option Addr) (sn sc : Nat) (E : List (Ss × Bg)) (b : Nat) : Prop := b = q ∨ (Value.slice oa on oc).ownBlock = some b ∨ (Value.slice sa sn sc).ownBlock = some b ∨ ∃ x, x ∈ E ∧ out ≠ some x.1 ∧ x.2.F b
theorem own_len {α : Type} {K : Kd α} {w : World} {B n c : Nat} {a : Option Addr} {xs : List α} (h : OwnG K w B (.slice a n c) xs) : n = xs.length := by
  rcases h.2 with ⟨e, h0⟩ | ⟨g, cap, cur, e, -⟩
  · simp only [Value.slice.injEq] at e
    omega
  · simp only [Value.slice.injEq] at e
    exact e.2.1
section
variable {out : Option Ss} {w w' : World} {q : Nat} {oa : Option Addr} {on oc : Nat} {sa : Option Addr} {sn sc : Nat} {J : Ib} {E : List (Ss × Bg)}
theorem Rib.lt (h : Rib out w q oa on oc sa sn sc J E) {b : Nat} (hb : footD out q oa on oc sa sn sc E b) : b < w.heap.size := by
  rcases hb with rfl | hb | hb | ⟨x, hx, ho, hf⟩
  · exact (Array.getElem?_eq_some_iff.1 h.hp).1
  · exact (h.ro.lt' hb).2
  · exact (h.rs.lt' hb).2
  · exact (h.bx x hx ho).lt b hf
theorem Rib.kept (h : Rib out w q oa on oc sa sn sc J E) (hs : w.heap.size ≤ w'.heap.size) (hk : ∀ b, footD out q oa on oc sa sn sc E b → w'.heap[b]? = w.heap[b]?) : Rib out w' q oa on oc sa sn sc J E :=
  ⟨(hk q (.inl rfl)).trans h.hp, h.ro.kept (fun b hb => hk b (.inr (.inl hb))), h.rs.kept (fun b hb => hk b (.inr (.inr (.inl hb)))), fun x hx ho => (h.bx x hx ho).kept hs (fun b hb => hk b (.inr (.inr (.inr ⟨x, hx, ho, hb⟩)))), h.ap, h.nf, h.eO, h.ok⟩
theorem Rib.below (h : Rib out w q oa on oc sa sn sc J E) (hb : Below w.heap.size w w') : Rib out w' q oa on oc sa sn sc J E := h.kept hb.size (fun b hf => hb.block b (h.lt hf))
theorem Rib.chg {D : Nat → Prop} (h : Rib out w q oa on oc sa sn sc J E) (hc : Chg D w w') (hD : ∀ b, footD out q oa on oc sa sn sc E b → ¬ D b) : Rib out w' q oa on oc sa sn sc J E := h.kept hc.size (fun b hf => hc.block b (h.lt hf) (hD b hf))
theorem Rib.cell (h : Rib out w q oa on oc sa sn sc J E) : w.cell? ⟨q, 0, none⟩ = some (.int .i64 (J.mo : Int)) ∧ w.cell? ⟨q, 1, none⟩ = some (.int .i64 (J.ms : Int)) ∧ w.cell? ⟨q, 2, none⟩ = some (.int .u64 (J.ep : Int)) ∧ w.cell? ⟨q, 3, none⟩ = some (.slice oa on oc) ∧ w.cell? ⟨q, 4, none⟩ = some (.slice sa sn sc) := by
  have h9 := h.hp
  exact ⟨by rw [cell_of_row _ _ _ _ _ _ h9]; rfl, by rw [cell_of_row _ _ _ _ _ _ h9]; rfl, by rw [cell_of_row _ _ _ _ _ _ h9]; rfl, by rw [cell_of_row _ _ _ _ _ _ h9]; rfl, by rw [cell_of_row _ _ _ _ _ _ h9]; rfl⟩
theorem Rib.onL (h : Rib out w q oa on oc sa sn sc J E) : on = J.O.length := by rw [own_len h.ro, len_mp, h.eO, len_mp]
theorem Rib.snL (h : Rib out w q oa on oc sa sn sc J E) : sn = J.H.length := own_len h.rs
end
/-- a row's element -/
theorem rdG_at {α : Type} {K : Kd α} {w : World} {B n c : Nat} {a : Option Addr} {xs : List α} (h : OwnG K w B (.slice a n c) xs) (k : Nat) (hk : k < xs.length) : ∃ b, a = some ⟨b, 0, none⟩ ∧ w.rangeAt b (k * K.k) (K.f xs[k]) := by
  rcases h.2 with ⟨e, h0⟩ | ⟨g, cap, cur, e, -⟩
  · omega
  · simp only [Value.slice.injEq] at e
    obtain ⟨rfl, rfl, rfl⟩ := e
    obtain ⟨b, o, e1, e2, -⟩ := OwnG.rd h k hk
    cases e1
    rw [Nat.zero_add] at e2
    exact ⟨g, rfl, e2⟩
section
set_option maxRecDepth 20000
set_option maxHeartbeats 1600000
theorem rnew_no (a b : Int) (h : ¬ ((1 ≤ a ∧ a ≤ 64) ∧ (1 ≤ b ∧ b ≤ 4096))) (w : World) : Calls Tryz.prog 30 #[.int .i64 a, .int .i64 b] w fun e w' => e = .returned (.tuple #[.pointer none, .int .i64 1]) ∧ w' = w := by
  by_cases h1 : a < 1
  · go_enter Tryz.func30, Tryz.ntmps30
    go_wp2
    go_ret2
    exact ⟨rfl, rfl⟩
  · by_cases h2 : 64 < a
    · go_enter Tryz.func30, Tryz.ntmps30
      go_wp2
      go_ret2
      exact ⟨rfl, rfl⟩
    · by_cases h3 : b < 1
      · go_enter Tryz.func30, Tryz.ntmps30
        go_wp2
        go_ret2
        exact ⟨rfl, rfl⟩
      · have h4 : 4096 < b := by omega
        go_enter Tryz.func30, Tryz.ntmps30
        go_wp2
        go_ret2
        exact ⟨rfl, rfl⟩
theorem newI_ok {a b : Nat} (ha : 1 ≤ a) (ha2 : a ≤ 64) (hb : 1 ≤ b) (hb2 : b ≤ 4096) : IbOk (newI a b) := ⟨ha, ha2, hb, hb2, Nat.zero_le _, Nat.zero_le _, by simp [ks, newI], by simp [ks, newI], fun s hs => by simp [ks, newI] at hs, fun s hs => by simp [ks, newI] at hs, fun s hs => by simp [ks, newI] at hs, by show 0 < 18446744073709551616; decide⟩
theorem rnew_t13 (a b : Nat) (ha : 1 ≤ a) (ha2 : a ≤ 64) (hb : 1 ≤ b) (hb2 : b ≤ 4096) (w : World) : Calls Tryz.prog 30 #[.int .i64 (a : Int), .int .i64 (b : Int)] w fun e w' => ∃ q, e = .returned (.tuple #[.pointer (some ⟨q, 0, none⟩), .int .i64 0]) ∧ Rib none w' q none 0 0 none 0 0 (newI a b) [] ∧ w.heap.size ≤ q ∧ Below w.heap.size w w' := by
  have h1 : ¬ (a : Int) < 1 := by omega
  have h2 : ¬ 64 < (a : Int) := by omega
  have h3 : ¬ (b : Int) < 1 := by omega
  have h4 : ¬ 4096 < (b : Int) := by omega
  go_enter Tryz.func30, Tryz.ntmps30
  go_wp2
  go_ret2
  exact ⟨w.heap.size, rfl, ⟨heap_alloc_new w _, World.ownsRow_nil _ _ _ _, World.ownsRow_nil _ _ _ _, fun x hx => (List.not_mem_nil hx).elim, List.Pairwise.nil, fun x hx => (List.not_mem_nil hx).elim, rfl, newI_ok ha ha2 hb hb2⟩, Nat.le_refl _, al (Below.refl _ _) _⟩
end
end Go.Proofs.YtkdgjfjcpgiokaaGreat
