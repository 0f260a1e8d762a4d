import Derived.Test.YtnhjkipaclchiabQW
namespace Go.Proofs.Ytnhjkipaclchiab
set_option linter.unusedVariables false
set_option linter.unusedSimpArgs false
open Go.RowKit Go.Shelf
section
set_option maxHeartbeats 3200000
set_option maxRecDepth 100000
/-- the pages up to s's and how many entries of the last of them are not above s -/
theorem upTo_t (x : Value) (b o : Nat) (n cap : Nat) (P : List (List Ent)) (s1 s2 : Nat) (w : World) (hx : PgV w x (some ⟨b, o, none⟩) n cap) (hn : n = P.length) (hcap : n ≤ cap) (h0 : 0 < n) (hp : RdP w (some ⟨b, o, none⟩) P) (hsp : SP P) (hl : n ≤ 4398046511104) (hlp : ∀ p ∈ P, p.length ≤ 100) :
    Calls Try.prog 46 #[x, sv (s1, s2)] w fun e w' => ∃ (p i : Nat) (ok : Bool), e = .returned (.tuple #[.slice (some ⟨b, o, none⟩) (p + 1) cap, .int .i64 ((if ok then i + 1 else i : Nat) : Int)]) ∧ PlaceIs P (s1, s2) p i ok ∧ p < n ∧ Below w.heap.size w w' := by
  obtain ⟨w1, hw1⟩ : ∃ X : World, X = w.alloc (.cells #[.int .u64 (s1 : Int), .int .u64 (s2 : Int)] tSt) := ⟨_, rfl⟩
  have hb1 : Below w.heap.size w w1 := by rw [hw1]; exact al (Below.refl _ _) _
  have HPL : Hid _ := place_t x (some ⟨b, o, none⟩) n cap P (s1, s2) w1 (hx.below hb1) hn (hp.below hb1) hsp hl hlp
  have HX : Hid (PgV w x (some ⟨b, o, none⟩) n cap) := hx
  have HB1 : Hid _ := hb1
  have HN : Hid _ := hn
  have HLP : Hid (∀ p ∈ P, p.length ≤ 100) := hlp
  clear hx hp hsp hlp hn hb1
  go_enter Try.func46, Try.ntmps46
  go_wp2_with fail
  rw [← hw1]
  refine Calls.mono HPL.out ?_
  rintro e w2 ⟨p, i, ok, rfl, hpl, hb2⟩
  have hpn : p < n := by
    rcases hpl with ⟨h1, -⟩ | ⟨r, -, -, h3, -⟩
    · have := HN.out; rw [h1] at this; simp at this; omega
    · have := HN.out; omega
  have hi : i ≤ 100 := by
    rcases hpl with ⟨h1, -⟩ | ⟨r, -, -, h3, h4, -⟩
    · have := HN.out; rw [h1] at this; simp at this; omega
    · refine Nat.le_trans h4.1 ?_
      have e9 : P.getD p [] = P[p] := by simp [List.getD, h3]
      rw [e9]; exact HLP.out _ (List.getElem_mem _)
  have HB2 : Hid (Below w.heap.size w w2) := below_next HB1.out hb2
  have HA : Hid _ := all_t x (some ⟨b, o, none⟩) n cap w2 (PgV.below HX.out HB2.out)
  have HP : Hid (∀ k, k = ok → PlaceIs P (s1, s2) p i k) := fun k e => e ▸ hpl
  clear hpl hb2 hw1
  cases ok
  · go_wp2_with fail
    refine Calls.mono HA.out ?_
    rintro e z ⟨rfl, hz⟩
    have hz := hz.symm
    subst hz
    go_wp2
    refine bodyPost_ret (results_tmp2 rfl _ _ _) rfl ?_
    exact ⟨p, i, false, by simp, HP.out _ rfl, hpn, HB2.out⟩
  · go_wp2_with fail
    refine Calls.mono HA.out ?_
    rintro e z ⟨rfl, hz⟩
    have hz := hz.symm
    subst hz
    go_wp2
    refine bodyPost_ret (results_tmp2 rfl _ _ _) rfl ?_
    exact ⟨p, i, true, by simp, HP.out _ rfl, hpn, HB2.out⟩
end
end Go.Proofs.Ytnhjkipaclchiab
