import Derived.Test.YtnhjkipaclchiaaQSo
namespace Go.Proofs.Ytnhjkipaclchiaa
set_option linter.unusedVariables false
set_option linter.unusedSimpArgs false
open Go.RowKit Go.Shelf
/-- what Place tells, against what Up tells -/
theorem place_sum {P : List (List Ent)} {s : St} {p i : Nat} {ok : Bool} (h : PlaceIs P s p i ok) (hsp : SP P) : p ≤ P.length ∧ i + (P.take p).flatten.length + (upL P s).length = P.flatten.length ∧ (upL P s = [] → ok = false) ∧ (∀ y, (upL P s).head? = some y → (ok = true ↔ y.st = s)) := by
  by_cases hne : P = []
  · obtain ⟨rfl, rfl, rfl⟩ := h.nil hne
    subst hne
    exact ⟨Nat.le_refl _, rfl, fun _ => rfl, fun y hy => by cases hy⟩
  · have hp := h.lt hne
    obtain ⟨hil, hok, hc⟩ := h.cut hsp hp
    obtain ⟨X, hX⟩ : ∃ X, X = (P.take p).flatten ++ P[p].take i := ⟨_, rfl⟩
    obtain ⟨M, hM⟩ : ∃ M, M = (if ok = true then (P[p].drop i).take 1 else []) := ⟨_, rfl⟩
    obtain ⟨Y, hY⟩ : ∃ Y, Y = P[p].drop (if ok = true then i + 1 else i) ++ (P.drop (p + 1)).flatten := ⟨_, rfl⟩
    rw [← hX, ← hM, ← hY] at hc
    have hup : upL P s = M ++ Y := by
      unfold upL
      rw [hc.eq, List.filter_append, List.filter_append, filt_no (fun x hx => by rw [hc.lo x hx]; rfl), filt_all (fun x hx => by rw [hc.mid x hx, ltS_irrefl]; rfl), filt_all (fun x hx => by rw [ltS_asymm (hc.hi x hx)]; rfl), List.nil_append]
    have hMt : ok = true → ∃ m, M = [m] := fun e => ⟨P[p][i]'(hok e), by rw [hM, if_pos e, List.drop_eq_getElem_cons (hok e)]; rfl⟩
    have hMf : ok = false → M = [] := fun e => by rw [hM, e]; rfl
    refine ⟨Nat.le_of_lt hp, ?_, fun h0 => ?_, fun y hy => ?_⟩
    · rw [hup, hc.eq, hX]
      simp only [List.length_append, List.length_take]
      omega
    · cases hk : ok
      · rfl
      · obtain ⟨m, hm⟩ := hMt hk
        rw [hup, hm] at h0
        cases h0
    · rw [hup] at hy
      cases hk : ok
      · rw [hMf hk, List.nil_append] at hy
        refine ⟨fun h9 => by (cases h9), fun e => ?_⟩
        have h9 := hc.hi y (List.mem_of_mem_head? hy)
        rw [e, ltS_irrefl] at h9
        cases h9
      · obtain ⟨m, hm⟩ := hMt hk
        rw [hm] at hy
        have hy' : m = y := by simpa using hy
        subst hy'
        exact ⟨fun _ => hc.mid m (by rw [hm]; exact List.mem_singleton_self _), fun _ => rfl⟩
/-- all blocks but one are as they were -/
def Agr (B1 : Nat) (w u : World) : Prop := ∀ k, k ≠ B1 → u.heap[k]? = w.heap[k]?
variable {w u : World} {B1 : Nat}
theorem Agr.drew (B1 : Nat) (w : World) : Agr B1 w w.drew := fun _ _ => rfl
theorem Agr.cell (h : Agr B1 w u) {b off : Nat} {v : Value} (hb : b ≠ B1) (hc : w.cell? ⟨b, off, none⟩ = some v) : u.cell? ⟨b, off, none⟩ = some v := cell_heap hc (h b hb)
theorem Agr.range (h : Agr B1 w u) {b off : Nat} {cs : List Value} (hb : b ≠ B1) (hc : w.rangeAt b off cs) : u.rangeAt b off cs := fun j v hv => h.cell hb (hc j v hv)
theorem Agr.set (h : Agr B1 w u) (v : Value) : Agr B1 w (u.setCell ⟨B1, 0, none⟩ v) := fun k hk => (heap_setCell_other u ⟨B1, 0, none⟩ k v hk).trans (h k hk)
theorem Agr.setd (h : Agr B1 w u) (v : Value) : Agr B1 w (u.setCell ⟨B1, 0, none⟩ v).drew := fun k hk => (heap_setCell_other u ⟨B1, 0, none⟩ k v hk).trans (h k hk)
end Go.Proofs.Ytnhjkipaclchiaa
