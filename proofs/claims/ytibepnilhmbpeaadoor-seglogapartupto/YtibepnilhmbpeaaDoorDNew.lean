import Derived.Test.YtibepnilhmbpeaaDoorHelp
import Derived.Laws.MakeOwn
namespace Go.Proofs.YtibepnilhmbpeaaDoor
set_option linter.unusedVariables false
set_option linter.unusedSimpArgs false
open Go.RowKit
/-- the 129 cells of a sector that is zeros -/
def z129 : Array Value := (Array.replicate 128 (.int .u8 0)).push (.bool false)
theorem info_sec : (Tryd.prog.info? 89).map (fun i => (i.zero, i.size, i.bytes)) = some (some (.agg z129), 129, 129) := by kernel_rfl
theorem make_secs (n : Nat) (hn : n ≤ 65536) (w : World) : (Instr.makeSlice 67 (.int .i64 (n : Int)) (.int .i64 (n : Int))).run Tryd.prog w = .ok (.slice (some ⟨w.heap.size, 0, none⟩) n n) (w.alloc (.cells (madeCells z129 (n * 129)) 89)) := by
  obtain ⟨i, hi, hzz⟩ := Option.map_eq_some_iff.1 info_sec
  simp only [Prod.mk.injEq] at hzz
  obtain ⟨hz, hs, hb⟩ := hzz
  have hr := run_make (P := Tryd.prog) (w := w) 67 89 i _ Tryd.underlying67 hi hz .i64 .i64 n n (by omega) (Int.le_refl _) (by rw [hb]; omega) (by omega)
  simp only [Int.toNat_natCast, hs] at hr
  exact hr
/-- the world behind New -/
def newW (w : World) (n : Nat) : World :=
  ((w.alloc (.cells (madeCells z129 (n * 129)) 89)).alloc (.map #[] 0)).alloc (.cells #[.slice (some ⟨w.heap.size, 0, none⟩) n n, .map (some (w.heap.size + 1)), .bool false, .int .i64 (-1)] 70)
set_option maxRecDepth 20000 in
theorem new_t (n : Nat) (h1 : 1 ≤ n) (h2 : n ≤ 65536) (w : World) :
    Calls Tryd.prog 16 #[.int .i64 (n : Int)] w fun e w' => e = .returned (.tuple #[.pointer (some ⟨w.heap.size + 2, 0, none⟩), .int .i64 0]) ∧ w' = newW w n := by
  have hm := make_secs n h2
  have hmm := @run_makeMap Tryd.prog
  have a1 : ¬ (n : Int) < 1 := by omega
  have a2 : ¬ (65536 : Int) < (n : Int) := by omega
  unfold newW
  go_enter Tryd.func16, Tryd.ntmps16
  go_wp2
  go_ret2
  exact ⟨rfl, rfl⟩
end Go.Proofs.YtibepnilhmbpeaaDoor
