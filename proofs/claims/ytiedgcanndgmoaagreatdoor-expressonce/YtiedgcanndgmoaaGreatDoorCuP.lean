import Derived.Test.YtiedgcanndgmoaaGreatDoorRgP
namespace Go.Proofs.YtiedgcanndgmoaaGreatDoor
set_option linter.unusedVariables false
set_option linter.unusedSimpArgs false
abbrev Seg := List UInt8
/-- the ranges of those that are there, one each -/
def ones (S : List Seg) : Nat → List Rg
  | 0 => []
  | k + 1 => ones S k ++ (if (S[k]?.getD []).length = 0 then [] else [((k : Int), (k : Int) + 1)])
def onesO : Option (List Seg) → List Rg
  | none => []
  | some S => ones S S.length
structure GotIs (rs : List Rg) (St : Option (List Seg)) : Prop where
  lst : Lst rs
  has : ∀ i, hasR rs i ↔ hasR (onesO St) i
theorem GotIs.uniq {rs ss : List Rg} {St : Option (List Seg)} (h : GotIs rs St) (k : GotIs ss St) : rs = ss := Lst.uniq h.lst k.lst (fun i => (h.has i).trans (k.has i).symm)
/-- the segments -/
def segN (xs : Seg) (m k : Nat) : List Seg := (List.range k).map fun i => (xs.drop (i * m)).take m
def cutN (n m : Nat) : Nat := (n + m - 1) / m
theorem segN_len (xs : Seg) (m k : Nat) : (segN xs m k).length = k := by simp [segN]
theorem segN_succ (xs : Seg) (m k : Nat) : segN xs m (k + 1) = segN xs m k ++ [(xs.drop (k * m)).take m] := by simp [segN, List.range_succ]
end Go.Proofs.YtiedgcanndgmoaaGreatDoor
