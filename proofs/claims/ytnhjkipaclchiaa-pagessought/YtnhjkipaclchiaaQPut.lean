import Derived.Test.YtnhjkipaclchiaaQUx
namespace Go.Proofs.Ytnhjkipaclchiaa
set_option linter.unusedVariables false
set_option linter.unusedSimpArgs false
open Go.RowKit
variable {w w' : World} {g S : Nat} {P : List (List Ent)} {v : Value} {vs : List Value}
theorem found_ex (p : Nat → Bool) : ∀ n, (∀ a b, a ≤ b → b < n → p a = true → p b = true) → ∃ r, Found n p r
  | 0, _ => ⟨0, Nat.le_refl _, fun k hk => absurd hk (Nat.not_lt_zero _), fun k _ hk => absurd hk (Nat.not_lt_zero _)⟩
  | n + 1, hm => by
    obtain ⟨r, h1, h2, h3⟩ := found_ex p n (fun a b hab hb ha => hm a b hab (by omega) ha)
    by_cases hr : r < n
    · exact ⟨r, by omega, h2, fun k hk hk2 => by
        by_cases hk3 : k < n
        · exact h3 k hk hk3
        · exact hm r k hk hk2 (h3 r (Nat.le_refl _) hr)⟩
    · obtain rfl : r = n := by omega
      cases hp : p r
      · exact ⟨r + 1, Nat.le_refl _, fun k hk => by
          by_cases hk2 : k < r
          · exact h2 k hk2
          · obtain rfl : k = r := by omega
            exact hp, fun k hk hk2 => absurd hk (by omega)⟩
      · exact ⟨r, by omega, h2, fun k hk hk2 => by
          obtain rfl : k = r := by omega
          exact hp⟩
theorem place_ex (hsp : SP P) (s : St) : ∃ p i ok, PlaceIs P s p i ok := by
  by_cases hne : P = []
  · exact ⟨0, 0, false, .inl ⟨hne, rfl, rfl, rfl⟩⟩
  · obtain ⟨r, hr⟩ := found_ex (pr1 P s) P.length (hsp.mono1 s)
    have hpos : 0 < P.length := List.length_pos_iff.2 hne
    have hp : r - 1 < P.length := by have := hr.1; omega
    have eP : P.getD (r - 1) [] = P[r - 1] := by simp [List.getD, hp]
    obtain ⟨i, hi⟩ := found_ex (pr2 P[r - 1] s) P[r - 1].length (mono2 (hsp.page (List.getElem_mem hp)) s)
    by_cases hok : ∃ h : i < P[r - 1].length, P[r - 1][i].st = s
    · exact ⟨r - 1, i, true, .inr ⟨r, hr, rfl, hp, by rw [eP]; exact hi, by rw [eP]; exact ⟨fun _ => hok, fun _ => rfl⟩⟩⟩
    · exact ⟨r - 1, i, false, .inr ⟨r, hr, rfl, hp, by rw [eP]; exact hi, by rw [eP]; exact ⟨fun h => (by cases h), fun h => absurd h hok⟩⟩⟩
/-- where the row lies from now on -/
def Lies (w : World) (v v' : Value) : Prop := v'.ownBlock = v.ownBlock ∨ ∃ b, v'.ownBlock = some b ∧ w.heap.size ≤ b
/-- Put, whatever the index has -/
theorem put_t (h : IdxAt w g S P v vs) (ht : Tid S P) (hS : 1 ≤ S ∧ S ≤ 64) (hPl : P.length ≤ 4398046511104) (s1 s2 n : Nat) :
    Calls Try.prog 13 #[.pointer (some ⟨g, 0, none⟩), sv (s1, s2), .int .u64 (n : Int)] w fun e w' => ∃ p i ok v' vs', PlaceIs P (s1, s2) p i ok ∧ e = .returned (.bool (!ok)) ∧ IdxAt w' g S (putP S P p i ok (mkE (s1, s2) n)) v' vs' ∧ Lies w v v' ∧ Chg (foot g v) w w' := by
  obtain ⟨hsp, hsz⟩ := ht
  obtain ⟨p, i, ok, hpl⟩ := place_ex hsp (s1, s2)
  have hlp : ∀ q ∈ P, q.length ≤ 100 := fun q hq => by have := hsz q hq; omega
  by_cases hne : P = []
  · obtain ⟨rfl, rfl, rfl⟩ := hpl.nil hne
    subst hne
    refine (put_first h hS s1 s2 n).mono ?_
    rintro e w' ⟨rfl, ⟨v', vs', h1, h2⟩, h3⟩
    exact ⟨0, 0, false, v', vs', hpl, rfl, by rw [putP_nil S hS.1]; exact h1, h2, h3⟩
  · have hp := hpl.lt hne
    have eP : P.getD p [] = P[p] := by simp [List.getD, hp]
    by_cases hfit : (putL P[p] i ok (mkE (s1, s2) n)).length ≤ S
    · refine (put_in h hsp hS hPl hlp s1 s2 n p i ok hpl hp hfit).mono ?_
      rintro e w' ⟨rfl, ⟨vs', h1⟩, h3⟩
      refine ⟨p, i, ok, v, vs', hpl, rfl, ?_, .inl rfl, h3⟩
      unfold putP
      rw [eP, if_pos hfit, ← repL_set hp]
      exact h1
    · refine (put_x h hsp hS hPl hlp s1 s2 n p i ok hpl hp (by omega)).mono ?_
      rintro e w' ⟨rfl, ⟨v', vs', h1, h2⟩, h3⟩
      refine ⟨p, i, ok, v', vs', hpl, rfl, ?_, h2, h3⟩
      unfold putP
      rw [eP, if_neg hfit]
      exact h1
end Go.Proofs.Ytnhjkipaclchiaa
