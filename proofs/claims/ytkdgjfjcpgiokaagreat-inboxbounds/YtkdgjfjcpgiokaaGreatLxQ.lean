import Derived.Test.YtkdgjfjcpgiokaaGreatLxH
namespace Go.Proofs.YtkdgjfjcpgiokaaGreat
set_option linter.unusedVariables false
set_option linter.unusedSimpArgs false
open Go.RowKit Go.Maps
theorem riseI_le (I : Ib) (e : Nat) : I.ep ≤ (riseI I e).ep := by
  unfold riseI
  split
  · simp only; omega
  · exact Nat.le_refl _
theorem segI_m (J : Ib) (u : Un) : (segI J u).ep = J.ep ∧ (segI J u).mo = J.mo ∧ (segI J u).ms = J.ms := by
  unfold segI
  split
  · exact ⟨rfl, rfl, rfl⟩
  · split <;> exact ⟨rfl, rfl, rfl⟩
theorem takeI_m (I : Ib) (u : Un) : I.ep ≤ (takeI I u).ep ∧ (takeI I u).mo = I.mo ∧ (takeI I u).ms = I.ms := by
  unfold takeI
  split
  · split
    · exact ⟨Nat.le_refl _, rfl, rfl⟩
    · obtain ⟨h1, h2, h3⟩ := segI_m (riseI I u.ep.toNat) u
      obtain ⟨h4, h5⟩ := riseI_m I u.ep.toNat
      exact ⟨by rw [h1]; exact riseI_le _ _, h2.trans h4, h3.trans h5⟩
  · exact ⟨Nat.le_refl _, rfl, rfl⟩
theorem decI_m (I : Ib) (s : Ss) (c : Int) : I.ep ≤ (decI I s c).ep ∧ (decI I s c).mo = I.mo ∧ (decI I s c).ms = I.ms := by
  unfold decI
  split
  · obtain ⟨h4, h5⟩ := riseI_m I s.1
    exact ⟨riseI_le _ _, h4, h5⟩
  · exact ⟨Nat.le_refl _, rfl, rfl⟩
theorem doI_m (I : Ib) (y : OpX) : I.ep ≤ (doI I y).ep ∧ (doI I y).mo = I.mo ∧ (doI I y).ms = I.ms := by
  unfold doI
  split
  · exact takeI_m _ _
  · split
    · exact decI_m _ _ _
    · split
      · exact ⟨Nat.le_refl _, rfl, rfl⟩
      · exact ⟨Nat.le_refl _, rfl, rfl⟩
/-- the rest behind a cell's row: a prefix can be read -/
theorem RdG.pre {α : Type} {K : Kd α} {w : World} {a : Option Addr} {xs : List α} (h : RdG K w a xs) (k : Nat) : RdG K w a (xs.take k) := fun j hj => by
  have hj' : j < xs.length := by rw [List.length_take] at hj; omega
  obtain ⟨b, o, h1, h2, h3⟩ := h j hj'
  exact ⟨b, o, h1, by rw [List.getElem_take]; exact h2, h3⟩
theorem IbOk.all {I : Ib} (h : IbOk I) : (ks I.O ++ ks I.H).Nodup ∧ (∀ s, s ∈ ks I.O ++ ks I.H → s.1 = I.ep) ∧ (ks I.O ++ ks I.H).length ≤ 4160 := by
  refine ⟨List.nodup_append.2 ⟨h.no, h.nh, fun a ha b hb e => h.ap a ha (e ▸ hb)⟩, fun s hs => (List.mem_append.1 hs).elim (h.eo s) (h.eh s), ?_⟩
  have := h.lo
  have := h.ls
  have := h.o1
  have := h.s1
  rw [List.length_append, len_ks, len_ks]
  omega
theorem opRange {u : World} {b o : Nat} {y : OpX} (h : u.rangeAt b o y.c.toList) : u.cell? ⟨b, o, none⟩ = some (.int .i64 y.kd) ∧ u.cell? ⟨b, o + 1, none⟩ = some (.int .i64 y.x.u.kind) ∧ u.cell? ⟨b, o + 2, none⟩ = some (.int .u64 y.x.u.ep) ∧ u.cell? ⟨b, o + 3, none⟩ = some (.int .u64 y.x.u.se) ∧ u.cell? ⟨b, o + 4, none⟩ = some (.int .i64 y.x.u.path) ∧ u.cell? ⟨b, o + 5, none⟩ = some (.int .i64 y.x.u.idx) ∧ u.cell? ⟨b, o + 6, none⟩ = some (.int .i64 y.x.u.cnt) ∧ u.cell? ⟨b, o + 7, none⟩ = some (.slice y.x.da y.x.dn y.x.dc) ∧ u.cell? ⟨b, o + 8, none⟩ = some (.int .i64 y.x.u.code) ∧ u.cell? ⟨b, o + 9, none⟩ = some (.slice y.x.ga y.x.gn y.x.gc) ∧ u.cell? ⟨b, o + 10, none⟩ = some (.int .u64 (y.e : Int)) ∧ u.cell? ⟨b, o + 11, none⟩ = some (.int .u64 (y.n : Int)) ∧ u.cell? ⟨b, o + 12, none⟩ = some (.int .i64 y.cd) :=
  ⟨h 0 _ rfl, h 1 _ rfl, h 2 _ rfl, h 3 _ rfl, h 4 _ rfl, h 5 _ rfl, h 6 _ rfl, h 7 _ rfl, h 8 _ rfl, h 9 _ rfl, h 10 _ rfl, h 11 _ rfl, h 12 _ rfl⟩
end Go.Proofs.YtkdgjfjcpgiokaaGreat
