import Derived.Test.YtnpcgegcoakbmaaDoorGet
namespace Go.Proofs.YtnpcgegcoakbmaaDoor
set_option linter.unusedVariables false
set_option linter.unusedSimpArgs false
open Go.RowKit

/-- the number that the digits say, from n on; none: 2^64 or more -/
def vl : Nat → List UInt8 → Option Nat
  | n, [] => some n
  | n, c :: r => if 144115188075855872 ≤ n then none else vl (n * 128 + c.toNat % 128) r
/-- what Number answers: the number, its bytes, the fault -/
def numS (xs : List UInt8) : Nat × Nat × Nat :=
  if nsz xs = 0 then (if xs.length < 10 then (0, 0, 10) else (0, 0, 12))
  else if xs.head? = some 128 then (0, 0, 12)
  else match vl 0 (xs.take (nsz xs)) with
    | none => (0, 0, 12)
    | some n => (n, nsz xs, 0)
def numV (xs : List UInt8) : Value := .tuple #[.int .u64 ((numS xs).1 : Nat), .int .i64 ((numS xs).2.1 : Nat), .int .i64 ((numS xs).2.2 : Nat)]
theorem vl_lt : ∀ (xs : List UInt8) (n m : Nat), n < 18446744073709551616 → vl n xs = some m → m < 18446744073709551616
  | [], n, m, h, e => by simp [vl] at e; omega
  | c :: r, n, m, h, e => by
    simp only [vl] at e
    split at e
    · cases e
    · exact vl_lt r _ m (by have := c.toNat_lt; omega) e
theorem numS_lt (xs : List UInt8) : (numS xs).1 < 18446744073709551616 ∧ (numS xs).2.1 ≤ min xs.length 10 := by
  have h1 := nsz_le xs
  unfold numS
  split
  · split <;> simp
  · split
    · simp
    · split
      · simp
      · rename_i h
        refine ⟨vl_lt _ _ _ (by omega) h, ?_⟩
        rcases h1 with h1 | h1
        · omega
        · exact h1.2.1

theorem jump_ret (l : Nat) (J : Act → World → Prop) (Q : Exit → Act → World → Prop) (a : Act) (w : World) : Exit.jump l J Q .ret a w = Q .ret a w := rfl
theorem jump_goto {l : Nat} {J : Act → World → Prop} {Q : Exit → Act → World → Prop} {a : Act} {w : World} (h : J a w) : Exit.jump l J Q (.goto l) a w := ⟨rfl, h⟩
/-- what holds at the jump to the one fault -/
def JW (w : World) (p : Prop) (a' : Act) (w' : World) : Prop := w' = w ∧ p ∧ ∃ (u0 u1 u2 u3 u4 u5 u6 u7 u8 u9 u10 u11 u12 u13 u14 u15 u16 u17 u18 u19 u20 u21 u22 u23 u24 u25 u26 u27 u28 u29 u30 u31 u32 u33 u34 u35 u36 u37 u38 u39 u40 u41 u42 : Value), a' = { tmps := #[u0, u1, u2, u3, u4, u5, u6, u7, u8, u9, u10, u11, u12, u13, u14, u15, u16, u17, u18, u19, u20, u21, u22, u23, u24, u25, u26, u27, u28, u29, u30, u31, u32, u33, u34, u35, u36, u37, u38, u39, u40, u41, u42], defers := [] }
end Go.Proofs.YtnpcgegcoakbmaaDoor
