import Derived.Test.YtdpkommmkcmifaaWr
namespace Go.Proofs.Ytdpkommmkcmifaa
set_option linter.unusedVariables false
set_option linter.unusedSimpArgs false
open Go.RowKit
def zeroB : Bun := ⟨0, 0, 0, 0, 0, 0, 0, 0, 0, 0, [], []⟩
theorem zeroB_R (w : World) : BunR w zeroB none 0 none 0 :=
  ⟨fun h => absurd h (Nat.lt_irrefl 0), Nat.le_refl _, fun _ => rfl, Rd.nil _ _, Nat.le_refl _, fun _ => rfl, ⟨by decide, by decide, by decide, by decide, by decide, by decide, by decide, by decide, by decide, by decide, fun x hx => (by cases hx), by decide, by decide⟩⟩
theorem ValidIs.same {b : Bun} {m n : Int} (h : ValidIs b m) (k : ValidIs b n) : m = n := by
  rcases h with ⟨h1, h2⟩ | ⟨h1, h2⟩ <;> rcases k with ⟨k1, k2⟩ | ⟨k1, k2⟩
  · rw [h2, k2]
  · exact absurd k1 h1
  · exact absurd h1 k1
  · rw [h2, k2]
end Go.Proofs.Ytdpkommmkcmifaa
