import Derived.Test.YtibolgpaolnheaaQD9
import Derived.Test.YtibolgpaolnheaaZQD8
namespace Go.Proofs.Ytibolgpaolnheaa.Str
set_option linter.unusedVariables false
set_option linter.unusedSimpArgs false
open Go.RowKit
variable {w : World} {g n cap : Nat} {vs : List Value}
/-- a page becomes two -/
theorem split_t (h : w.ownsRow 0 tPg 1 (.slice (some ⟨g, 0, none⟩) n cap) n vs) (hu : ∀ u ∈ vs, u.oneCell' = true) (i j : Nat) (hj : j = i + 1) (hi : i < n) (gv : Nat) (x y : Value) (hgv : w.heap[gv]? = some (.cells #[x, y] tPg (0, 0))) (hgg : g ≠ gv) (hx1 : x.oneCell' = true) (hy1 : y.oneCell' = true) (hl : n ≤ 4398046511104) :
    Calls Try.prog 63 #[.slice (some ⟨g, 0, none⟩) n cap, .int .i64 (i : Int), .int .i64 (j : Int), .slice (some ⟨gv, 0, none⟩) 2 2] w fun e w' => ∃ g' cap', e = .returned (.slice (some ⟨g', 0, none⟩) (n + 1) cap') ∧ w'.ownsRow 0 tPg 1 (.slice (some ⟨g', 0, none⟩) (n + 1) cap') (n + 1) (repL vs i j [x, y]) ∧ w.grownBy w' (some g) ∧ (g' = g ∨ w.heap.size ≤ g') := by
  have hcn : n ≤ cap := by obtain ⟨_, _, _, _, h9, _⟩ := row_open h; exact h9
  by_cases hjn : j = n
  · subst hjn
    exact splitA h i hj gv x y hgv hx1 hy1 hl
  · by_cases hr : n + 1 ≤ cap
    · refine (splitC h hu i j (n + 1) hj (by omega) rfl hr gv x y hgv hgg hx1 hy1 hl).mono ?_
      rintro e w' ⟨rfl, h1, h2⟩
      exact ⟨g, cap, rfl, h1, h2, .inl rfl⟩
    · obtain rfl : cap = n := by omega
      refine (splitB h hu i j (cap + 1) hj (by omega) rfl gv x y hgv hx1 hy1 hl).mono ?_
      rintro e w' ⟨g', c', rfl, h1, h2, h3⟩
      exact ⟨g', c', rfl, h1, h2, .inr h3⟩
/-- two pages become one -/
theorem join_t (h : w.ownsRow 0 tPg 1 (.slice (some ⟨g, 0, none⟩) n cap) n vs) (hu : ∀ u ∈ vs, u.oneCell' = true) (i j k : Nat) (hj : j = i + 2) (hjn : j ≤ n) (hk : n = k + 1) (gv : Nat) (x : Value) (hgv : w.heap[gv]? = some (.cells #[x] tPg (0, 0))) (hgg : g ≠ gv) (hx1 : x.oneCell' = true) (hl : n ≤ 4398046511104) :
    Calls Try.prog 63 #[.slice (some ⟨g, 0, none⟩) n cap, .int .i64 (i : Int), .int .i64 (j : Int), .slice (some ⟨gv, 0, none⟩) 1 1] w fun e w' => e = .returned (.slice (some ⟨g, 0, none⟩) k cap) ∧ w'.ownsRow 0 tPg 1 (.slice (some ⟨g, 0, none⟩) k cap) k (repL vs i j [x]) ∧ w.grownBy w' (some g) := by
  by_cases hjn2 : j = n
  · have h9 := joinA h hu i j k hj hjn2 hk gv x hgv hgg hx1 hl
    subst hjn2
    exact h9
  · exact joinD h hu i j k hj (by omega) hk gv x hgv hgg hx1 hl
end Go.Proofs.Ytibolgpaolnheaa.Str
