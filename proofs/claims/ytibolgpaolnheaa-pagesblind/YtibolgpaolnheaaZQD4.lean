import Derived.Test.YtibolgpaolnheaaQD6
import Derived.Test.YtibolgpaolnheaaZQD3
import Derived.Laws.Externs
namespace Go.Proofs.Ytibolgpaolnheaa.Str
set_option linter.unusedVariables false
set_option linter.unusedSimpArgs false
open Go.RowKit
section
set_option maxRecDepth 20000
set_option maxHeartbeats 3200000
variable {w : World} {g n cap : Nat} {vs : List Value}
theorem size_pg (u : World) : (Go.sizeOf tPg).run Try.prog u = .ok 1 u := by
  obtain ⟨i0, hi, hz0, hz1, hz2⟩ := info_parts info_pg
  simp [sizeOf, typeInfo, hi, hz1]
theorem over_run (u : World) (gv g i m c cv : Nat) (cur : List Value) (hrow : RowL u g cur) (hc : 0 < cur.length) (x y : Value) (hgv : u.heap[gv]? = some (.cells #[x, y] tPg (0, 0))) (hne : g ≠ gv) (args : Array Value) (ha : args = #[.slice (some ⟨g, i, none⟩) m c, .slice (some ⟨gv, 0, none⟩) 2 cv]) :
    (callFunc 75 args).run Try.prog u = .ok (.value (.bool false)) u := by
  subst ha
  rw [run_callFunc_extern Try.func75 (by kernel_rfl) (by kernel_rfl) (by kernel_rfl) (e := Extern.SlicesOverlaps.overlaps #[tPsl, tPsl] #[4]) (by kernel_rfl),
    Lib.run_overlaps_apart u tPsl 4 tPg Try.underlying68 1 size_pg ⟨g, i, none⟩ ⟨gv, 0, none⟩ m c 2 cv hne tPg tPg cur.length 2 (by unfold RowL at hrow; simp [World.shape?, hrow]) (by simp [World.shape?, hgv]) (by decide) (hrow.thawed _) (hrow.thawed _)]
  rfl
end
end Go.Proofs.Ytibolgpaolnheaa.Str
