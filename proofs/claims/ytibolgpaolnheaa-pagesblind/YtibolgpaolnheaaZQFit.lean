import Derived.Test.YtibolgpaolnheaaQJn
import Derived.Test.YtibolgpaolnheaaZQRx
import Derived.BigQuiet
namespace Go.Proofs.Ytibolgpaolnheaa.Str
set_option linter.unusedVariables false
set_option linter.unusedSimpArgs false
open Go.RowKit
variable {w w' : World} {g S : Nat} {P : List (List Ent)} {v : Value} {vs : List Value}
section
set_option maxRecDepth 20000
set_option maxHeartbeats 3200000
theorem fits_neg (h : IdxAt w g S P v vs) : Calls Try.prog 43 #[.pointer (some ⟨g, 0, none⟩), .int .i64 (-1)] w fun e w' => e = .returned (.bool false) ∧ Below w.heap.size w w' := by
  clear h
  go_enter Try.func43, Try.ntmps43
  go_wp2_with fail
  go_quiet (fail)
  go_wp2
  go_ret
  exact ⟨rfl, below_drewN w _⟩
theorem fits_end (h : IdxAt w g S P v vs) (p p1 : Nat) (hp1 : p1 = p + 1) (hp : p1 = P.length) (hPl : P.length ≤ 4398046511104) : Calls Try.prog 43 #[.pointer (some ⟨g, 0, none⟩), .int .i64 (p : Int)] w fun e w' => e = .returned (.bool false) ∧ Below w.heap.size w w' := by
  rcases h.row.2 with ⟨e, h0⟩ | ⟨rb, cap, cur, e, hB, hg, hn1, hm, r⟩
  · omega
  subst e
  have hcg1 : w.cell? ⟨g, 1, none⟩ = some (.slice (some ⟨rb, 0, none⟩) p1 cap) := by rw [hp, cell_of_row _ _ _ _ _ _ h.hd]; rfl
  have hw1 : IntKind.i64.wrap ((p : Int) + 1) = (p1 : Int) := by rw [IntKind.wrap_i64]; omega
  have hp0 : (0 : Int) ≤ (p : Int) := by omega
  have HP1 : Hid (p1 = p + 1) := hp1
  clear h hB hg hn1 hm r hp hp1
  go_enter Try.func43, Try.ntmps43
  go_wp2_with fail
  go_quiet (fail)
  go_wp2
  go_ret
  exact ⟨rfl, below_drewN w _⟩
theorem fits_t (h : IdxAt w g S P v vs) (hS : S ≤ 64) (p p1 : Nat) (hp1 : p1 = p + 1) (hp : p1 < P.length) (hPl : P.length ≤ 4398046511104) (hlp : ∀ q ∈ P, q.length ≤ 100) : Calls Try.prog 43 #[.pointer (some ⟨g, 0, none⟩), .int .i64 (p : Int)] w fun e w' => e = .returned (.bool (decide ((P.getD p []).length + (P.getD p1 []).length ≤ S / 2))) ∧ Below w.heap.size w w' := by
  have hcg0 : w.cell? ⟨g, 0, none⟩ = some (.int .i64 (S : Int)) := by rw [cell_of_row _ _ _ _ _ _ h.hd]; rfl
  have hrow := h.row
  rcases h.row.2 with ⟨e, h0⟩ | ⟨rb, cap, cur, e, hB, hg, hn1, hm, r⟩
  · omega
  subst e
  obtain ⟨N, hN⟩ : ∃ N, N = P.length := ⟨_, rfl⟩
  have hcg1 : w.cell? ⟨g, 1, none⟩ = some (.slice (some ⟨rb, 0, none⟩) N cap) := by rw [hN, cell_of_row _ _ _ _ _ _ h.hd]; rfl
  have hpP : p < P.length := by omega
  obtain ⟨a1, c1, e1, -⟩ := h.pg p hpP
  obtain ⟨a2, c2, e2, -⟩ := h.pg p1 hp
  have hc1 : w.cell? ⟨rb, p, none⟩ = some (.slice a1 P[p].length c1) := by rw [World.ownsRow.cellAt hrow p (by omega), e1]
  have hc2 : w.cell? ⟨rb, p1, none⟩ = some (.slice a2 P[p1].length c2) := by rw [World.ownsRow.cellAt hrow p1 (by omega), e2]
  have hl1 := hlp _ (List.getElem_mem hpP)
  have hl2 := hlp _ (List.getElem_mem hp)
  rw [show P.getD p [] = P[p] by simp [List.getD, hpP], show P.getD p1 [] = P[p1] by simp [List.getD, hp]]
  obtain ⟨x1, hx1⟩ : ∃ x, x = P[p].length := ⟨_, rfl⟩
  obtain ⟨x2, hx2⟩ : ∃ x, x = P[p1].length := ⟨_, rfl⟩
  rw [← hx1] at hc1 hl1 ⊢
  rw [← hx2] at hc2 hl2 ⊢
  have hw1 : IntKind.i64.wrap ((p : Int) + 1) = (p1 : Int) := by rw [IntKind.wrap_i64]; omega
  have hp0 : (0 : Int) ≤ (p : Int) := by omega
  have hp10 : (0 : Int) ≤ (p1 : Int) := by omega
  have hpN : (p : Int) < (N : Int) := by omega
  have hp1N : (p1 : Int) < (N : Int) := by omega
  have hpNn : p < N := by omega
  have hp1Nn : p1 < N := by omega
  have hd : decide ((x1 : Int) + (x2 : Int) ≤ (S : Int) / 2) = decide (x1 + x2 ≤ S / 2) := decide_eq_decide.2 (by omega)
  have HP1 : Hid (p1 = p + 1) := hp1
  have HD : Hid (decide ((x1 : Int) + (x2 : Int) ≤ (S : Int) / 2) = decide (x1 + x2 ≤ S / 2)) := hd
  clear h hB hg hn1 hm r hp hp1 hrow hN hx1 hx2 e1 e2 hlp hd
  go_enter Try.func43, Try.ntmps43
  go_wp2_with fail
  go_quiet (fail)
  go_wp2
  go_ret
  exact ⟨by rw [← HD.out]; rfl, below_drewN w _⟩
end
end Go.Proofs.Ytibolgpaolnheaa.Str
