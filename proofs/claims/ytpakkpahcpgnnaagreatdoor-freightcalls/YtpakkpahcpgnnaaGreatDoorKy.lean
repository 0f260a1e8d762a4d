import Derived.Test.YtpakkpahcpgnnaaGreatDoorXS
set_option linter.unusedVariables false
set_option linter.unusedSimpArgs false
namespace Go.Proofs.YtpakkpahcpgnnaaGreatDoor
open Go.RowKit Go.Maps
theorem alw {w w1 : World} (h : Below w.heap.size w w1) (o : Obj) : Below w.heap.size w (w1.alloc o) := h.alloc h.size o
abbrev KKy : Kd Fk := { t := tFk, ts := 36, k := 2, by_ := 16, f := fun s => [.int .i64 s.1, .int .u64 (s.2 : Int)], z := .agg #[.int .i64 0, .int .u64 0], hk := fun _ => rfl, h1 := (fun d u hu => by simp at hu; rcases hu with rfl | rfl <;> rfl), hpos := by decide, ht := Tryz.underlying36, hi := by kernel_rfl, hz := rfl }
theorem rdF_new (u : World) (s : Fk) (n : Nat) (hn : n = u.heap.size) : RdG KKy (u.alloc (.cells #[.int .i64 s.1, .int .u64 (s.2 : Int)] tFk)) (some ⟨n, 0, none⟩) [s] := by
 subst hn; have h9 := heap_alloc_new u (.cells #[.int .i64 s.1, .int .u64 (s.2 : Int)] tFk); intro j hj; have hj0 : j = 0 := by simp at hj; omega
 subst hj0; refine ⟨_, _, rfl, fun q v hq => ?_, _, _, h9⟩; rw [cR h9]
 match q, hq with
 | 0, hq => exact hq
 | 1, hq => exact hq
 | q + 2, hq => simp at hq
theorem eql_fk (u : World) (a b c d : Int) : (binOp .eql tFk (.agg #[.int .i64 a, .int .u64 b]) (.agg #[.int .i64 c, .int .u64 d])).run Tryz.prog u = .ok (.bool (decide (a = c ∧ b = d))) u := by
 go_simp
 by_cases h1 : a = c <;> by_cases h2 : b = d <;> simp [h1, h2]
end Go.Proofs.YtpakkpahcpgnnaaGreatDoor
