import Derived.Test.YtdpkommmkcmifaaWithP
import Derived.Test.YtdpkommmkcmifaaRPl
namespace Go.Proofs.Ytdpkommmkcmifaa
set_option linter.unusedVariables false
set_option linter.unusedSimpArgs false
open Go.RowKit
theorem three_new (w : World) (o1 o2 o3 : Obj) : (((w.alloc o1).alloc o2).alloc o3).heap[w.heap.size]? = some o1 ∧ (((w.alloc o1).alloc o2).alloc o3).heap[w.heap.size + 1]? = some o2 ∧ (((w.alloc o1).alloc o2).alloc o3).heap[w.heap.size + 1 + 1]? = some o3 :=
  ⟨box_on (two_new w o1 o2).1 (al (Below.refl _ _) _), box_on (two_new w o1 o2).2 (al (Below.refl _ _) _), by have := heap_alloc_new ((w.alloc o1).alloc o2) o3; simpa using this⟩
set_option maxRecDepth 20000 in
set_option maxHeartbeats 800000 in
theorem hop_any (b : Bun) (ba : Option Addr) (bc : Nat) (pa : Option Addr) (pc : Nat) (w : World) (h : BunR w b ba bc pa pc) :
    Calls Try.prog 25 #[bunV b ba bc pa pc] w fun e w' => TurnOut w w' b 10 hopTurn e ∧ Below w.heap.size w w' := by
  unfold bunV
  obtain ⟨W0, hW0⟩ : ∃ W0 : World, W0 = (w.alloc (.cells #[.int .u64 b.fl, .int .u64 b.e0, .int .u64 b.e1, .int .u64 b.e2, .int .u64 b.e3, .int .u64 b.e4, .int .u64 b.e5, .int .u64 b.tm, .int .u64 b.sq, .int .u64 b.lf, .slice ba b.bl.length bc, .slice pa b.py.length pc] 34)).alloc (.cells #[.int .u64 0, .int .u64 0, .int .u64 0, .int .u64 0, .int .u64 0, .int .u64 0, .int .u64 0, .int .u64 0, .int .u64 0, .int .u64 0, .slice none 0 0, .slice none 0 0] 34) := ⟨_, rfl⟩
  have hR : W0.heap[w.heap.size + 1]? = some (.cells #[.int .u64 0, .int .u64 0, .int .u64 0, .int .u64 0, .int .u64 0, .int .u64 0, .int .u64 0, .int .u64 0, .int .u64 0, .int .u64 0, .slice none 0 0, .slice none 0 0] 34 (0, 0)) := by rw [hW0]; exact (two_new w _ _).2
  have hb0 : Below w.heap.size w W0 := by rw [hW0]; exact al (al (Below.refl _ _) _) _
  have hIs : w.heap.size + 2 ≤ W0.heap.size := by rw [hW0]; simp
  go_enter Try.func25, Try.ntmps25
  go_wp2_with fail
  rw [← hW0]
  clear hW0
  refine (turnedH_any b ba bc pa pc W0 (h.below hb0)).mono ?_
  rintro e w1 ⟨⟨o, a, c, p, d, n, rfl, ht, hO, hfr⟩, hb1⟩
  have HO : Hid (BunR w1 o a c p d) := hO
  have HT : Hid (TurnIs b 10 hopTurn o n) := ht
  have HF : Hid (∀ q, a = some q → W0.heap.size ≤ q.block) := hfr
  clear hO ht hfr
  have hR1 := box_on hR hb1
  obtain ⟨r0, r1, r2, r3, r4, r5, r6, r7, r8, r9, r10, r11, g0, g1, g2, g3, g4, g5, g6, g7, g8, g9, g10, g11⟩ := cells12 hR1
  unfold bunV
  go_wp2
  have hfin := heap_set12 (v0 := .int .u64 o.fl) (v1 := .int .u64 o.e0) (v2 := .int .u64 o.e1) (v3 := .int .u64 o.e2) (v4 := .int .u64 o.e3) (v5 := .int .u64 o.e4) (v6 := .int .u64 o.e5) (v7 := .int .u64 o.tm) (v8 := .int .u64 o.sq) (v9 := .int .u64 o.lf) (v10 := .slice a o.bl.length c) (v11 := .slice p o.py.length d) hR1
  refine bodyPost_ret (results_ct rfl _ _ (w.heap.size + 1) 34 _ (0, 0) _ rfl hfin Try.underlying34 rfl (by kernel_rfl)) rfl ?_
  exact ⟨⟨o, a, c, p, d, n, rfl, HT.out, HO.out.far gr_set12 (fun q hq => by have := HF.out q hq; omega) (no8 hR1), fun q hq => by have := HF.out q hq; omega⟩, below_set12 (below_next hb0 hb1) (by simp)⟩
set_option maxRecDepth 20000 in
set_option maxHeartbeats 800000 in
theorem aged_any (b : Bun) (ba : Option Addr) (bc : Nat) (pa : Option Addr) (pc : Nat) (t : Nat) (w : World) (h : BunR w b ba bc pa pc) (ht : t < 18446744073709551616) :
    Calls Try.prog 26 #[bunV b ba bc pa pc, .int .u64 t] w fun e w' => TurnOut w w' b 7 (ageTurn t) e ∧ Below w.heap.size w w' := by
  unfold bunV
  obtain ⟨W0, hW0⟩ : ∃ W0 : World, W0 = ((w.alloc (.cells #[.int .u64 b.fl, .int .u64 b.e0, .int .u64 b.e1, .int .u64 b.e2, .int .u64 b.e3, .int .u64 b.e4, .int .u64 b.e5, .int .u64 b.tm, .int .u64 b.sq, .int .u64 b.lf, .slice ba b.bl.length bc, .slice pa b.py.length pc] 34)).alloc (.cells #[.int .u64 t] 22)).alloc (.cells #[.int .u64 0, .int .u64 0, .int .u64 0, .int .u64 0, .int .u64 0, .int .u64 0, .int .u64 0, .int .u64 0, .int .u64 0, .int .u64 0, .slice none 0 0, .slice none 0 0] 34) := ⟨_, rfl⟩
  have hR : W0.heap[w.heap.size + 1 + 1]? = some (.cells #[.int .u64 0, .int .u64 0, .int .u64 0, .int .u64 0, .int .u64 0, .int .u64 0, .int .u64 0, .int .u64 0, .int .u64 0, .int .u64 0, .slice none 0 0, .slice none 0 0] 34 (0, 0)) := by rw [hW0]; exact (three_new w _ _ _).2.2
  have hT : W0.cell? ⟨w.heap.size + 1, 0, none⟩ = some (.int .u64 t) := by rw [cell_of_row W0 _ 0 _ _ _ (show W0.heap[w.heap.size + 1]? = some (.cells #[.int .u64 t] 22 (0, 0)) by rw [hW0]; exact (three_new w _ _ _).2.1)]; rfl
  have hb0 : Below w.heap.size w W0 := by rw [hW0]; exact al (al (al (Below.refl _ _) _) _) _
  have hIs : w.heap.size + 3 ≤ W0.heap.size := by rw [hW0]; simp
  have HT0 : Hid (W0.cell? ⟨w.heap.size + 1, 0, none⟩ = some (.int .u64 t)) := hT
  clear hT
  go_enter Try.func26, Try.ntmps26
  go_wp2_with fail
  rw [← hW0]
  clear hW0
  refine (turnedA_any b ba bc pa pc t (w.heap.size + 1) W0 (h.below hb0) ht HT0.out).mono ?_
  rintro e w1 ⟨⟨o, a, c, p, d, n, rfl, ht, hO, hfr⟩, hb1⟩
  have HO : Hid (BunR w1 o a c p d) := hO
  have HT : Hid (TurnIs b 7 (ageTurn t) o n) := ht
  have HF : Hid (∀ q, a = some q → W0.heap.size ≤ q.block) := hfr
  clear hO ht hfr
  have hR1 := box_on hR hb1
  obtain ⟨r0, r1, r2, r3, r4, r5, r6, r7, r8, r9, r10, r11, g0, g1, g2, g3, g4, g5, g6, g7, g8, g9, g10, g11⟩ := cells12 hR1
  unfold bunV
  go_wp2
  have hfin := heap_set12 (v0 := .int .u64 o.fl) (v1 := .int .u64 o.e0) (v2 := .int .u64 o.e1) (v3 := .int .u64 o.e2) (v4 := .int .u64 o.e3) (v5 := .int .u64 o.e4) (v6 := .int .u64 o.e5) (v7 := .int .u64 o.tm) (v8 := .int .u64 o.sq) (v9 := .int .u64 o.lf) (v10 := .slice a o.bl.length c) (v11 := .slice p o.py.length d) hR1
  refine bodyPost_ret (results_ct rfl _ _ (w.heap.size + 1 + 1) 34 _ (0, 0) _ rfl hfin Try.underlying34 rfl (by kernel_rfl)) rfl ?_
  exact ⟨⟨o, a, c, p, d, n, rfl, HT.out, HO.out.far gr_set12 (fun q hq => by have := HF.out q hq; omega) (no8 hR1), fun q hq => by have := HF.out q hq; omega⟩, below_set12 (below_next hb0 hb1) (by omega)⟩
/-- what the document's with answers, with its memory -/
def WithOut (w w' : World) (b : Bun) (e : Ending) : Prop :=
  ∃ o a c p d n, e = .returned (.tuple #[bunV o a c p d, .int .i64 n]) ∧ ((ValidIs b n ∧ n ≠ 0 ∧ o = zeroB) ∨ (ValidIs b 0 ∧ n = 0 ∧ o = b)) ∧ BunR w' o a c p d ∧ ∀ q, a = some q → w.heap.size ≤ q.block
end Go.Proofs.Ytdpkommmkcmifaa
