import Derived.Test.YtjigbopkmffjaaaDoorUX1
import Derived.Test.YtjigbopkmffjaaaDoorUX2
import Derived.Test.YtjigbopkmffjaaaDoorUX2c
namespace Go.Proofs.YtjigbopkmffjaaaDoor
set_option linter.unusedVariables false
set_option linter.unusedSimpArgs false
open Go.RowKit
theorem rdecode_t (ao : Option Addr) (n cap : Nat) (xs : List UInt8) (hn : n = xs.length) (w : World) (hx : Rd w ao xs) (hlc : n ≤ cap) (hcm : cap ≤ 9223372036854775807) (hl : n ≤ 140737488355328) :
    Calls Tryd.prog 20 #[.slice ao n cap] w fun er w' => DecOut (decU xs).1 (decU xs).2 w er w' := by
  rw [← decD_eq]
  obtain ⟨X, E, hun⟩ : ∃ X E, unS xs = (X, E) := ⟨_, _, rfl⟩
  by_cases hE : E = 0
  · subst hE
    obtain ⟨u, y, f, hru⟩ : ∃ u y f, readD (X, 0) = (u, y, f) := ⟨_, _, _, rfl⟩
    have hd : decD xs = if rEnd y f = 0 then (u, 0) else (zeroU, rEnd y f) := by
      unfold decD
      rw [hun]
      simp only [hru, if_true]
    rw [hd]
    show Calls Tryd.prog 20 #[.slice ao n cap] w fun er w' => DecR u y f w er w'
    obtain ⟨n1, y1, f1, e1⟩ : ∃ n y g, smD 1 3 (X, 0) = (n, y, g) := ⟨_, _, _, rfl⟩
    obtain ⟨n2, y2, f2, e2⟩ : ∃ n y g, nmS mxU (y1, f1) = (n, y, g) := ⟨_, _, _, rfl⟩
    obtain ⟨n3, y3, f3, e3⟩ : ∃ n y g, nmS mxU (y2, mustF (decide (0 < n2)) f2) = (n, y, g) := ⟨_, _, _, rfl⟩
    unfold readD at hru
    simp only [e1, e2, e3] at hru
    by_cases h1 : n1 = 1
    · subst h1
      rw [if_pos rfl] at hru
      obtain ⟨p1, v1, g1, s1⟩ : ∃ n y g, smD 1 2 (y3, mustF (decide (0 < n3)) f3) = (n, y, g) := ⟨_, _, _, rfl⟩
      obtain ⟨i1, v2, g2, s2⟩ : ∃ n y g, smD 0 63 (v1, g1) = (n, y, g) := ⟨_, _, _, rfl⟩
      obtain ⟨t1, v3, g3, s3⟩ : ∃ n y g, smD (i1 + 1) 64 (v2, g2) = (n, y, g) := ⟨_, _, _, rfl⟩
      obtain ⟨d, v4, g4, s4⟩ : ∃ n y g, byS 1024 (v3, g3) = (n, y, g) := ⟨_, _, _, rfl⟩
      simp only [s1, s2, s3, s4, Prod.mk.injEq] at hru
      obtain ⟨rfl, rfl, rfl⟩ := hru
      exact rdec_1 (n1 := 0) ao n cap xs hn w hx hlc hcm hl hun _ _ e1 e2 rfl e3 rfl _ s1 s2 s3 s4 rfl
    · rw [if_neg h1] at hru
      by_cases h2 : n1 = 2
      · subst h2
        rw [if_pos rfl] at hru
        obtain ⟨c1, v1, g1, s1⟩ : ∃ n y g, smD 0 7 (y3, mustF (decide (0 < n3)) f3) = (n, y, g) := ⟨_, _, _, rfl⟩
        simp only [s1] at hru
        by_cases hc : c1 = 0
        · subst hc
          by_cases hg : g1 = 0
          · subst hg
            rw [if_pos ⟨rfl, rfl⟩] at hru
            obtain ⟨m, v2, g2, s2⟩ : ∃ n y g, smD 0 32 (v1, 0) = (n, y, g) := ⟨_, _, _, rfl⟩
            obtain ⟨L, v3, g3, s3⟩ : ∃ n y g, rgsS m [] (v2, g2) = (n, y, g) := ⟨_, _, _, rfl⟩
            simp only [s2, s3, Prod.mk.injEq] at hru
            obtain ⟨rfl, rfl, rfl⟩ := hru
            exact rdec_2c (n1 := 0) ao n cap xs hn w hx hlc hcm hl hun _ _ e1 e2 rfl e3 rfl s1 s2 s3
          · rw [if_neg (fun h => hg h.2)] at hru
            simp only [Prod.mk.injEq] at hru
            obtain ⟨rfl, rfl, rfl⟩ := hru
            exact rdec_2a (n1 := 0) ao n cap xs hn w hx hlc hcm hl hun _ _ e1 e2 rfl e3 rfl s1 ⟨rfl, hg⟩
        · rw [if_neg (fun h => hc h.1)] at hru
          simp only [Prod.mk.injEq] at hru
          obtain ⟨rfl, rfl, rfl⟩ := hru
          exact rdec_2b (n1 := 0) ao n cap xs hn w hx hlc hcm hl hun _ _ e1 e2 rfl e3 rfl s1 hc
      · rw [if_neg h2] at hru
        simp only [Prod.mk.injEq] at hru
        obtain ⟨rfl, rfl, rfl⟩ := hru
        exact rdec_3 ao n cap xs hn w hx hlc hcm hl hun _ _ e1 e2 rfl e3 rfl ⟨h1, h2⟩
  · have hd : decD xs = (zeroU, ((E : Nat) : Int)) := by
      unfold decD
      rw [hun]
      simp only [if_neg hE]
    rw [hd]
    exact rdec_a ao n cap xs hn w hx hlc hcm hl hun hE
end Go.Proofs.YtjigbopkmffjaaaDoor
