import Derived.Test.YtpakkpahcpgnnaaGreatDoorRgP
set_option linter.unusedVariables false
set_option linter.unusedSimpArgs false
namespace Go.Proofs.YtpakkpahcpgnnaaGreatDoor
structure Un where
 kind : Int
 ep : Int
 se : Int
 path : Int
 idx : Int
 cnt : Int
 data : List UInt8
 code : Int
 got : List Rg
def nameOk (n : Int) : Prop := 1 ≤ n ∧ n ≤ 281474976710655
def gotF : Int → List Rg → Prop
 | _, [] => True
 | f, x :: l => (f ≤ x.1 ∧ x.1 < x.2 ∧ x.2 ≤ 64) ∧ gotF (x.2 + 1) l
def gotOk (l : List Rg) : Prop := gotF 0 l
def freeR (l : List Rg) : Int := match l.getLast? with
 | none => 0
 | some y => y.2 + 1
theorem gotF_snoc : ∀ (l : List Rg) (f : Int) (x : Rg), gotF f (l ++ [x]) ↔ gotF f l ∧ (match l.getLast? with | none => f | some y => y.2 + 1) ≤ x.1 ∧ x.1 < x.2 ∧ x.2 ≤ 64
 | [], f, x => by simp [gotF]
 | y :: l, f, x => by
  have h := gotF_snoc l (y.2 + 1) x; show (_ ∧ gotF (y.2 + 1) (l ++ [x])) ↔ (_ ∧ gotF (y.2 + 1) l) ∧ _; rw [h]; rcases List.eq_nil_or_concat l with h0 | ⟨q, z, h0⟩
  · subst h0; simp [gotF, and_assoc]
  · rw [List.concat_eq_append] at h0; subst h0; have e1 : (q ++ [z]).getLast? = some z := by simp
    have e2 : (y :: (q ++ [z])).getLast? = some z := by rw [List.getLast?_cons, e1]; rfl
    rw [e1, e2]; simp only [and_assoc]
theorem gotOk_snoc (l : List Rg) (x : Rg) : gotOk (l ++ [x]) ↔ gotOk l ∧ freeR l ≤ x.1 ∧ x.1 < x.2 ∧ x.2 ≤ 64 := gotF_snoc l 0 x
theorem gotF_pre : ∀ (l m : List Rg) (f : Int), gotF f (l ++ m) → gotF f l
 | [], _, _, _ => trivial
 | x :: l, m, f, h => ⟨h.1, gotF_pre l m _ h.2⟩
theorem gotOk_pre {l m : List Rg} (h : gotOk (l ++ m)) : gotOk l := gotF_pre l m 0 h
end Go.Proofs.YtpakkpahcpgnnaaGreatDoor
