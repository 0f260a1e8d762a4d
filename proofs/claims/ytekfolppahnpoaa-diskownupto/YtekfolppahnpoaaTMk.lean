import Derived.Test.YtekfolppahnpoaaTHold
import Derived.Test.YtekfolppahnpoaaDInt
namespace Go.Proofs.Ytekfolppahnpoaa
set_option linter.unusedVariables false
set_option linter.unusedSimpArgs false
open Go.RowKit Go.Maps
variable {W w w' : World} {P : Nat → Nat} {ds : Nat → Dst} {c K : Nat} {F : Key → Row}
/-- so far the rows of a kind are marked -/
def MkTo (kk : Nat) (mf : Nat → Nat → Value) (F : Key → Row) (k t : Nat) : Prop := ∀ i s, (i < k ∨ (i = k ∧ s < t)) → s < (F (kk, i)).xs.length → (F (kk, i)).xs[s]? = some (mf i s)
theorem MkTo.start (kk : Nat) (mf : Nat → Nat → Value) (F : Key → Row) : MkTo kk mf F 0 0 := fun i s h => by omega
theorem MkTo.next {kk : Nat} {mf : Nat → Nat → Value} {k t : Nat} (h : MkTo kk mf F k t) (ht : (F (kk, k)).xs.length ≤ t) : MkTo kk mf F (k + 1) 0 := by
  intro i s hi hs
  refine h i s ?_ hs
  rcases hi with hi | hi
  · by_cases e : i = k
    · subst e; right; exact ⟨rfl, by omega⟩
    · left; omega
  · omega
theorem MkTo.set {kk : Nat} {mf : Nat → Nat → Value} {k t : Nat} (h : MkTo kk mf F k t) (u : Value) (hu : u = mf k t) (ht : t < (F (kk, k)).xs.length) : MkTo kk mf (updF F (kk, k) ⟨(F (kk, k)).e, (F (kk, k)).v, (F (kk, k)).xs.set t u⟩) k (t + 1) := by
  intro i s hi hs
  by_cases e : i = k
  · subst e
    rw [updF_same] at hs ⊢
    simp only [List.length_set] at hs ⊢
    by_cases e2 : s = t
    · subst e2
      rw [List.getElem?_set_self hs, hu]
    · rw [List.getElem?_set_ne (by omega)]
      exact h i s (.inr ⟨rfl, by omega⟩) hs
  · rw [updF_other _ (by intro e2; cases e2; exact e rfl)] at hs ⊢
    exact h i s (.inl (by omega)) hs
theorem MkTo.other {kk k2 : Nat} {mf : Nat → Nat → Value} {n k : Nat} {r : Row} (h : MkTo kk mf F n 0) (hne : kk ≠ k2) : MkTo kk mf (updF F (k2, k) r) n 0 := by
  intro i s hi hs
  rw [updF_other _ (by intro e; cases e; exact hne rfl)] at hs ⊢
  exact h i s hi hs
theorem mkB_val (k q : Nat) (hq : q = k % 250 + 1) : mkB k = .int .u8 (q : Int) := by subst hq; rfl
theorem byte_rem (k q p : Nat) (h : k ≤ 1000) (hq : q = k % 250) (hp : p = q + 1) : IntKind.i64.wrap (Int.tmod (k : Int) 250) = (q : Int) ∧ IntKind.i64.wrap ((q : Int) + 1) = (p : Int) ∧ IntKind.u8.wrap (p : Int) = (p : Int) := by
  subst hp hq
  refine ⟨mk_rem k h, ?_, ?_⟩
  · rw [IntKind.wrap_i64]; omega
  · rw [IntKind.wrap_u8]; omega
theorem iv_get {l : List Int} {t : Nat} (h : t < l.length) : (iv l)[t]? = some (.int .i64 l[t]) := by simp [iv, h]
/-- a row of bytes that can be read -/
theorem Ds.rdB (h : Ds W w P ds c K F) (x : Key) (l : List UInt8) (hx : (F x).xs = bv l) : ∃ a cap, (F x).v = .slice a l.length cap ∧ Rd w a l := by
  obtain ⟨a, cap, e, hg⟩ := row_slv (N := fun _ => 0) h x
  rw [hx, bv_length] at e hg
  refine ⟨a, cap, e, fun hp => ?_⟩
  obtain ⟨g, rfl, hc⟩ := hg hp
  refine ⟨g, 0, rfl, fun i hi => ?_⟩
  rw [Nat.zero_add, (hc i hi).1, bv_get l i hi]
theorem Ds.rdI (h : Ds W w P ds c K F) (x : Key) (l : List Int) (hx : (F x).xs = iv l) : ∃ a cap, (F x).v = .slice a l.length cap ∧ Ints w a l := by
  obtain ⟨a, cap, e, hg⟩ := row_slv (N := fun _ => 0) h x
  have hl : (iv l).length = l.length := by simp [iv]
  rw [hx, hl] at e hg
  refine ⟨a, cap, e, fun j hj => ?_⟩
  obtain ⟨g, rfl, hc⟩ := hg (by omega)
  exact ⟨g, 0, rfl, by rw [Nat.zero_add, (hc j hj).1, iv_get hj]⟩
/-- a cell of a list -/
theorem Ds.cellG {N : Nat → Nat} (h : Ds W w P ds c K F) (hr : Rel N F) (k : Nat) (hk : k < 4) {G l cap : Nat} (hv : (F (4, k)).v = .slice (some ⟨G, 0, none⟩) l cap) (i : Nat) (hi : i < N k) : w.cell? ⟨G, i, none⟩ = some (F (k, i)).v := by
  obtain ⟨a, cap', e, hg⟩ := h.named hr k hk
  obtain ⟨G', rfl, hc⟩ := hg (by omega)
  rw [hv] at e
  cases e
  exact hc i hi
/-- amid the marking of a row -/
structure Mi (W w : World) (P : Nat → Nat) (ds : Nat → Dst) (c K : Nat) (F0 F : Key → Row) (n kk k t : Nat) (mf : Nat → Nat → Value) (V4 Vk : Value) (L : Nat) : Prop where
  d : Ds W w P ds c K F
  sv : SameV F0 F
  mt : MkTo kk mf F k t
  ex : kk = 2 → MkTo 0 (fun i _ => mkB i) F n 0
  v4 : (F (4, kk)).v = V4
  vk : (F (kk, k)).v = Vk
  lk : (F (kk, k)).xs.length = L
theorem Mi.set {F0 : Key → Row} {n kk k t L : Nat} {mf : Nat → Nat → Value} {V4 Vk : Value} (h : Mi W w P ds c K F0 F n kk k t mf V4 Vk L) (hkk : kk < 4) (g cap : Nat) (hV : Vk = .slice (some ⟨g, 0, none⟩) L cap) (ht : t < L) (u : Value) (hu : u = mf k t) :
    Mi W (w.setCell ⟨g, t, none⟩ u) P ds c K F0 (updF F (kk, k) ⟨(F (kk, k)).e, (F (kk, k)).v, (F (kk, k)).xs.set t u⟩) n kk k (t + 1) mf V4 Vk L := by
  have h4 : (kk, k).1 ≠ 4 := by simp; omega
  refine ⟨h.d.mark (kk, k) h4 g L cap (h.vk.trans hV) h.lk.symm t u, h.sv.set (kk, k) h4 t u, h.mt.set u hu (by rw [h.lk]; exact ht), fun e => (h.ex e).other (by omega), ?_, ?_, ?_⟩
  · rw [updF_other _ (ne4 hkk)]; exact h.v4
  · rw [updF_same]; exact h.vk
  · rw [updF_same]; simp only [List.length_set]; exact h.lk
end Go.Proofs.Ytekfolppahnpoaa
