import Derived.Test.YtibolgpaolnheaaQRm
import Derived.Test.YtibolgpaolnheaaZQUx
namespace Go.Proofs.Ytibolgpaolnheaa.Str
set_option linter.unusedVariables false
set_option linter.unusedSimpArgs false
open Go.RowKit
variable {w w' : World} {g S : Nat} {P : List (List Ent)} {v : Value} {vs : List Value}
/-- Put, whatever the index has -/
theorem put_t (h : IdxAt w g S P v vs) (ht : Tid S P) (hS : 1 ≤ S ∧ S ≤ 64) (hPl : P.length ≤ 4398046511104) (s1 s2 n : Nat) :
    Calls Try.prog 14 #[.pointer (some ⟨g, 0, none⟩), sv (s1, s2), .string ⟨#[UInt8.ofNat n]⟩] w fun e w' => ∃ p i ok v' vs', PlaceIs P (s1, s2) p i ok ∧ e = .returned (.bool (!ok)) ∧ IdxAt w' g S (putP S P p i ok (mkE (s1, s2) n)) v' vs' ∧ Lies w v v' ∧ Chg (foot g v) w w' := by
  obtain ⟨hsp, hsz⟩ := ht
  obtain ⟨p, i, ok, hpl⟩ := place_ex hsp (s1, s2)
  have hlp : ∀ q ∈ P, q.length ≤ 100 := fun q hq => by have := hsz q hq; omega
  by_cases hne : P = []
  · obtain ⟨rfl, rfl, rfl⟩ := hpl.nil hne
    subst hne
    refine (put_first h hS s1 s2 n).mono ?_
    rintro e w' ⟨rfl, ⟨v', vs', h1, h2⟩, h3⟩
    exact ⟨0, 0, false, v', vs', hpl, rfl, by rw [putP_nil S hS.1]; exact h1, h2, h3⟩
  · have hp := hpl.lt hne
    have eP : P.getD p [] = P[p] := by simp [List.getD, hp]
    by_cases hfit : (putL P[p] i ok (mkE (s1, s2) n)).length ≤ S
    · refine (put_in h hsp hS hPl hlp s1 s2 n p i ok hpl hp hfit).mono ?_
      rintro e w' ⟨rfl, ⟨vs', h1⟩, h3⟩
      refine ⟨p, i, ok, v, vs', hpl, rfl, ?_, .inl rfl, h3⟩
      unfold putP
      rw [eP, if_pos hfit, ← repL_set hp]
      exact h1
    · refine (put_x h hsp hS hPl hlp s1 s2 n p i ok hpl hp (by omega)).mono ?_
      rintro e w' ⟨rfl, ⟨v', vs', h1, h2⟩, h3⟩
      refine ⟨p, i, ok, v', vs', hpl, rfl, ?_, h2, h3⟩
      unfold putP
      rw [eP, if_neg hfit]
      exact h1
end Go.Proofs.Ytibolgpaolnheaa.Str
