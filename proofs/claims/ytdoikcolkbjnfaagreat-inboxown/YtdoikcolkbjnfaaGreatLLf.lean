import Derived.Test.YtdoikcolkbjnfaaGreatLLe
import Derived.Test.YtdoikcolkbjnfaaGreatLxCa
namespace Go.Proofs.YtdoikcolkbjnfaaGreat
set_option linter.unusedVariables false
set_option linter.unusedSimpArgs false
open Go.RowKit Go.Maps
theorem both_p (a b : Int) (h : valN a b) (w : World) : Calls Tryz.prog 18 #[.int .i64 a, .int .i64 b] w fun e w' => ∃ p q I F G, e = .returned (.tuple #[.pointer (some ⟨p, 0, none⟩), .pointer (some ⟨q, 0, none⟩), .bool true]) ∧ Pl w w' p q 0 I F G := by
  refine Calls.mono (both_t a b h w) ?_
  rintro e w' ⟨p, q, F, rfl, hI, hR, hF, hq, hb⟩
  refine ⟨p, q, _, F, fun b => b = q, rfl, hI, ⟨.slice none 0 0, .slice none 0 0, [], ⟨⟨hR.hp, hR.ro, hR.rs⟩, fun x hx => (List.not_mem_nil hx).elim, List.Pairwise.nil, fun x hx => (List.not_mem_nil hx).elim, rfl, hR.ok⟩, fun b hb => ?_⟩, fun b h1 h2 => by have := (hF b h1).2; omega, fun b h1 => (hF b h1).1, fun b h1 => by subst h1; exact ⟨hq, (Array.getElem?_eq_some_iff.1 hR.hp).1⟩, hb⟩
  rcases hb with hb | hb | hb | ⟨x, hx, -⟩
  · exact hb
  · cases hb
  · cases hb
  · cases hx
section
set_option maxRecDepth 20000
set_option maxHeartbeats 6400000
end
end Go.Proofs.YtdoikcolkbjnfaaGreat
