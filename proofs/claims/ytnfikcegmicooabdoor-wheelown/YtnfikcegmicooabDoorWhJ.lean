import Derived.Test.YtnfikcegmicooabDoorWhI
namespace Go.Proofs.YtnfikcegmicooabDoor
set_option linter.unusedVariables false
set_option linter.unusedSimpArgs false
open Go.RowKit Go.Maps
def insK (K : List Int) (z : Int) : List Int := if z ∈ K then K else K ++ [z]
def updI (X : Int → Pl) (z : Int) (x : Pl) : Int → Pl := fun y => if y = z then x else X y
theorem updI_same (X : Int → Pl) (z : Int) (x : Pl) : updI X z x z = x := by simp [updI]
theorem updI_other (X : Int → Pl) {z y : Int} (h : y ≠ z) (x : Pl) : updI X z x y = X y := by simp [updI, h]
theorem insK_mem {K : List Int} {z y : Int} : y ∈ insK K z ↔ y ∈ K ∨ y = z := by
  unfold insK
  by_cases h : z ∈ K
  · rw [if_pos h]
    exact ⟨.inl, fun h1 => h1.elim id (fun e => e ▸ h)⟩
  · rw [if_neg h]
    simp
theorem filt_len {K : List Int} (h : K.Nodup) (z : Int) : (K.filter (fun y => decide (y ≠ z))).length + (if z ∈ K then 1 else 0) = K.length := by
  induction K with
  | nil => rfl
  | cons a K ih =>
    obtain ⟨h1, h2⟩ := List.nodup_cons.1 h
    have h3 := ih h2
    by_cases e : a = z
    · subst e
      rw [if_neg h1] at h3
      rw [List.filter_cons_of_neg (by simp), if_pos (by simp)]
      simp only [List.length_cons]
      omega
    · rw [List.filter_cons_of_pos (by simpa using e)]
      have h4 : (z ∈ a :: K) ↔ z ∈ K := by
        rw [List.mem_cons]
        exact ⟨fun h => h.resolve_left (fun e9 => e e9.symm), .inr⟩
      simp only [List.length_cons, h4]
      omega
theorem ownsMap_tight {w : World} {m n : Nat} {D : DataW Value} (h : w.ownsMap Tryd.prog 3 selfR m n D) {n' : Nat} (hn : Maps.size D ≤ n') : w.ownsMap Tryd.prog 3 selfR m n' D := by
  obtain ⟨es, cl, h1, h2, h3, h4⟩ := h
  refine ⟨es, cl, h1, h2, ?_, h4⟩
  rw [h4] at hn
  simpa [Maps.size, length_sorted] using hn
theorem MapW.put {w : World} {m : Nat} {K : List Int} {X : Int → Pl} (h : MapW w m K X) {z : Int} (hz : inI z) (x : Pl) (hK : K.length ≤ 4398046511104) :
    ∃ w', (Instr.mapUpdate tMp (.map (some m)) (.int .i64 z) (plv x)).run Tryd.prog w = .ok () w' ∧ MapW w' m (insK K z) (updI X z x) ∧ w.grownBy w' (some m) := by
  obtain ⟨D, h1, h2, h3, h4⟩ := h.own
  obtain ⟨w', hr, h5, h6⟩ := h1.store keyI Tryd.underlying58 (by simp only [maxLen]; omega) (kI_of hz) (show selfR (plv x) = some (.held (plv x), []) from rfl)
  have hsz := Maps.size_put (k := kI z) (h1.tidy keyI) (.held (plv x))
  have hhas : Maps.has D (kI z) = decide (z ∈ K) := by
    have := h3 z hz
    by_cases h9 : z ∈ K
    · simp [h9, this.2 h9]
    · cases h8 : Maps.has D (kI z)
      · simp [h9]
      · exact absurd (this.1 h8) h9
  have hlen : Maps.size (D.put (kI z) (.held (plv x))) = (insK K z).length := by
    rw [hsz, hhas, h2]
    unfold insK
    by_cases h9 : z ∈ K
    · simp [h9]
    · simp [h9]
  refine ⟨w', hr, ⟨⟨_, ownsMap_tight h5 (Nat.le_of_eq hlen), hlen, fun y hy => ?_, fun y hy v => ?_⟩, ?_, fun y hy => ?_⟩, h6.grown⟩
  · rw [insK_mem]
    by_cases e : y = z
    · subst e
      rw [has_put_same h1.isMap (kI_key hz)]
      simp
    · rw [has_put_other (kI_ne e), h3 y hy]
      simp [e]
  · by_cases e : y = z
    · subst e
      rw [atKey_put_same h1.isMap (kI_key hz), updI_same]
    · rw [atKey_put_other (kI_ne e), updI_other _ e]
      exact h4 y ((insK_mem.1 hy).resolve_right e) v
  · unfold insK
    by_cases h9 : z ∈ K
    · rw [if_pos h9]; exact h.nd
    · rw [if_neg h9]
      refine List.nodup_append.2 ⟨h.nd, by simp, ?_⟩
      intro a ha b hb e
      simp at hb
      subst hb e
      exact h9 ha
  · rcases insK_mem.1 hy with h9 | h9
    · exact h.rg y h9
    · rw [h9]; exact hz
theorem MapW.del {w : World} {m : Nat} {K : List Int} {X : Int → Pl} (h : MapW w m K X) {z : Int} (hz : inI z) (ty : TypeId) :
    ∃ w', (Builtin.delete_ #[tMp, 3] ty #[.map (some m), .int .i64 z]).run Tryd.prog w = .ok (.tuple #[]) w' ∧ MapW w' m (K.filter (fun y => decide (y ≠ z))) X ∧ w.grownBy w' (some m) := by
  obtain ⟨D, h1, h2, h3, h4⟩ := h.own
  obtain ⟨w', hr, h5, h6⟩ := h1.drop keyI Tryd.underlying58 (kI_of hz) ty
  have hsz := Maps.size_del (k := kI z) (h1.tidy keyI)
  have hhas : Maps.has D (kI z) = decide (z ∈ K) := by
    have := h3 z hz
    by_cases h9 : z ∈ K
    · simp [h9, this.2 h9]
    · cases h8 : Maps.has D (kI z)
      · simp [h9]
      · exact absurd (this.1 h8) h9
  have hlen : Maps.size (D.del (kI z)) = (K.filter (fun y => decide (y ≠ z))).length := by
    rw [hhas, h2] at hsz
    have h7 := filt_len h.nd z
    by_cases h9 : z ∈ K
    · simp only [h9, decide_true, if_true] at hsz h7
      omega
    · simp only [h9, decide_false, if_false] at hsz h7
      simp at hsz
      omega
  refine ⟨w', hr, ⟨⟨_, ownsMap_tight h5 (Nat.le_of_eq hlen), hlen, fun y hy => ?_, fun y hy v => ?_⟩, h.nd.filter _, fun y hy => h.rg y (List.mem_filter.1 hy).1⟩, h6.grown⟩
  · by_cases e : y = z
    · subst e
      rw [has_del_same]
      simp
    · rw [has_del_other (kI_ne e), h3 y hy]
      simp [e]
  · obtain ⟨h8, h9⟩ := List.mem_filter.1 hy
    have e : y ≠ z := by simpa using h9
    rw [atKey_del_other (kI_ne e)]
    exact h4 y h8 v
end Go.Proofs.YtnfikcegmicooabDoor
