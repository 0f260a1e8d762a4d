import Derived.Test.YtibolgpaolnheaaQR
import Derived.Test.YtibolgpaolnheaaZQI
namespace Go.Proofs.Ytibolgpaolnheaa.Str
set_option linter.unusedVariables false
set_option linter.unusedSimpArgs false
open Go.RowKit
variable {w w' : World} {g S : Nat} {P : List (List Ent)} {v : Value} {vs : List Value}
/-- a page in the place of one -/
theorem IdxAt.setPage (h : IdxAt w g S P v vs) (rb cap : Nat) (hv : v = .slice (some ⟨rb, 0, none⟩) P.length cap) (p : Nat) (hp : p < P.length) (a : Option Addr) (c : Nat) (xs : List Ent) (hx : RdE w a xs) (hc : xs.length ≤ c) (ha : a = none → c = 0) :
    IdxAt (w.setCell ⟨rb, p, none⟩ (.slice a xs.length c)) g S (P.set p xs) v (vs.set p (.slice a xs.length c)) ∧ Chg (foot g v) w (w.setCell ⟨rb, p, none⟩ (.slice a xs.length c)) := by
  have hrow := h.row
  rw [hv] at hrow
  have h1 := World.ownsRow.stored hrow p (.slice a xs.length c)
  have hC : Chg (fun b => b = rb) w (w.setCell ⟨rb, p, none⟩ (.slice a xs.length c)) := Chg.of_grown h1.2 (fun b e => by cases e; rfl)
  have hN : ∀ b, b = rb → NoNum w b := fun b e => h.noF b (.inr (by rw [hv, e]; rfl))
  refine ⟨⟨?_, ?_, fun j hj => ?_⟩, hC.mono fun b e => .inr (by rw [hv, e]; rfl)⟩
  · exact (hC.block g (Array.getElem?_eq_some_iff.1 h.hd).1 (fun e => h.ne (by rw [hv, e]; rfl))).trans h.hd
  · rw [List.length_set, hv]; exact h1.1
  · have hj' : j < P.length := by simpa using hj
    by_cases e : j = p
    · subst e
      rw [List.getElem_set_self]
      exact ⟨a, c, by rw [List.getElem?_set_self (by rw [h.len]; exact hj')], hc, ha, hx.kept hC hN⟩
    · rw [List.getElem_set_ne (fun e2 => e e2.symm)]
      obtain ⟨a9, c9, h2, h3, h4, h5⟩ := h.pg j hj'
      exact ⟨a9, c9, by rw [List.getElem?_set_ne (fun e2 => e e2.symm)]; exact h2, h3, h4, h5.kept hC hN⟩
section
set_option maxRecDepth 20000
theorem replace_s (h : IdxAt w g S P v vs) (p : Nat) (hp : p < P.length) (a : Option Addr) (n c : Nat) (xs : List Ent) (hn : n = xs.length) (hx : RdE w a xs) (hc : n ≤ c) (ha : a = none → c = 0) (hl : n ≤ S) (hS : S ≤ 64) :
    Calls Try.prog 37 #[.pointer (some ⟨g, 0, none⟩), .int .i64 (p : Int), .slice a n c] w fun e w' => e = .returned (.tuple #[]) ∧ (∃ vs', IdxAt w' g S (P.set p xs) v vs') ∧ Chg (foot g v) w w' := by
  obtain ⟨pa, cap, hv, hcap, hnil, -, -⟩ := h.rd
  have hrow := h.row
  have hcg0 : w.cell? ⟨g, 0, none⟩ = some (.int .i64 (S : Int)) := by rw [cell_of_row _ _ _ _ _ _ h.hd]; rfl
  have hcg1 : w.cell? ⟨g, 1, none⟩ = some v := by rw [cell_of_row _ _ _ _ _ _ h.hd]; rfl
  rcases h.row.2 with ⟨e, h0⟩ | ⟨rb, cap', cur, e, hB, hg, hn1, hm, r⟩
  · omega
  have hv2 : v = .slice (some ⟨rb, 0, none⟩) P.length cap' := e
  obtain ⟨N, hN⟩ : ∃ N, N = P.length := ⟨_, rfl⟩
  have hsp := h.setPage rb cap' hv2 p hp a c xs hx (by omega) ha
  rw [hv2, ← hN] at hcg1
  have hpi : (p : Int) < (N : Int) := by omega
  have hp0 : (0 : Int) ≤ (p : Int) := by omega
  have hpN : p < N := by omega
  have hli : (n : Int) ≤ (S : Int) := by omega
  have hcr : w.cell? ⟨rb, p, none⟩ = some (vs[p]'(by rw [h.len]; exact hp)) := by
    rw [hv2] at hrow
    rw [World.ownsRow.cellAt hrow p (by omega)]
    exact List.getElem?_eq_getElem _
  have hfz : w.frozen? ⟨rb, p, none⟩ = false := by simp [World.frozen?, hg]
  have HS : Hid _ := hsp
  have HN : Hid (n = xs.length) := hn
  clear hsp hn hN hrow hg r e hv hx ha hnil
  go_enter Try.func37, Try.ntmps37
  go_wp2
  refine bodyPost_ret (results_none rfl _ _ _) rfl ?_
  rw [HN.out]
  exact ⟨rfl, ⟨_, HS.out.1⟩, HS.out.2⟩
end
end Go.Proofs.Ytibolgpaolnheaa.Str
