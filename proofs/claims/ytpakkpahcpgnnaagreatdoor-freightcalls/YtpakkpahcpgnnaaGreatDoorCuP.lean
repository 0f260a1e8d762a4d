import Derived.Test.YtpakkpahcpgnnaaGreatDoorRgP
set_option linter.unusedVariables false
set_option linter.unusedSimpArgs false
namespace Go.Proofs.YtpakkpahcpgnnaaGreatDoor
abbrev Seg := List UInt8
def segN (xs : Seg) (m k : Nat) : List Seg := (List.range k).map fun i => (xs.drop (i * m)).take m
def cutN (n m : Nat) : Nat := (n + m - 1) / m
def cutE (n : Nat) (m : Int) : Int := if m < 1 ∨ 1024 < m ∨ n = 0 then 1 else if 1024 < n then 81 else if m * 64 < (n : Int) then 2 else 0
theorem segN_len (xs : Seg) (m k : Nat) : (segN xs m k).length = k := by simp [segN]
theorem segN_succ (xs : Seg) (m k : Nat) : segN xs m (k + 1) = segN xs m k ++ [(xs.drop (k * m)).take m] := by simp [segN, List.range_succ]
end Go.Proofs.YtpakkpahcpgnnaaGreatDoor
