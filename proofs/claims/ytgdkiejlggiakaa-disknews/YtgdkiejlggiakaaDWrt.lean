import Derived.Test.YtgdkiejlggiakaaDK
namespace Go.Proofs.Ytgdkiejlggiakaa
set_option linter.unusedVariables false
set_option linter.unusedSimpArgs false
open Go.RowKit Go.Maps
set_option maxRecDepth 20000 in
theorem run_bs (X : List Value) (h : X.length = 128) (w : World) : (Instr.buildSlice 70 1 #[(0, .agg X.toArray)]).run Try.prog w = .ok (.slice (some ⟨w.heap.size, 0, none⟩) 1 1) (w.alloc (.cells X.toArray 59)) := by
  obtain ⟨hz, hs⟩ := zero_of_info info_text
  have hu := run_underlying (P := Try.prog) Try.underlying70
  have hsz : ∀ u, (sizeOf 59).run Try.prog u = .ok 128 u := by
    intro u
    cases hq : Try.prog.info? 59 with
    | none => simp [hq] at hs
    | some i => simp [hq] at hs; simp [sizeOf, typeInfo, hq, hs]
  obtain ⟨Z, hZ⟩ : ∃ Z : Array Value, Z = Array.map (fun x => z128[x % z128.size]!) (Array.range (1 * 128)) := ⟨_, rfl⟩
  have hZl : Z.size = 128 := by rw [hZ]; simp
  have hfill : Instr.fill (fun i => some (i * 128, 128)) Z [(0, .agg X.toArray)] = some X.toArray := by
    simp [Instr.fill, Value.cells, h, hZl]
    rw [fold_set X 0 Z (by rw [hZl, h]; decide), splice_all _ _ (by rw [h, Array.length_toList, hZl])]
  unfold Instr.buildSlice
  simp only [Sem.run_bind, hu, Result.andThen_ok, hsz]
  rw [if_neg (by decide), if_neg (by decide)]
  simp only [Sem.run_bind, hz, Result.andThen_ok, Value.cells, Sem.run_pure, ← hZ, hfill]
  simp [newRow]
theorem exec_lookup {P : Program} {a : Act} {oi : Oper} {t : TypeId} {x k : Operand} (ho : oi.op = .lookup t x k false) {v : Value} {w : World} (h : (Instr.lookup t (a.eval x) (a.eval k) false).run P w = .ok v w) : (execOp a.eval oi).run P w = .ok (.value v) w := by
  unfold execOp
  simp only [ho, Sem.run_bind, h, Result.andThen_ok]
  rfl
theorem wp_bs {o : Oper} {a : Act} {w : World} {K : Act → World → Prop} {Q : Exit → Act → World → Prop} (x : Operand) (ho : o.op = .buildSlice 70 1 #[(0, x)]) (X : List Value) (hx : a.eval x = .agg X.toArray) (hl : X.length = 128)
    (h : K (a.put o.dst (.slice (some ⟨w.heap.size, 0, none⟩) 1 1)) (w.alloc (.cells X.toArray 59))) : Oper.wp Try.prog o a w K Q := by
  unfold Oper.wp execOp
  simp only [ho, List.map_toArray, List.map_cons, List.map_nil, hx, Sem.run_bind, run_bs X hl w, Result.andThen_ok]
  exact h
theorem wp_mapUp {P : Program} {o : Oper} {a : Act} {w : World} {K : Act → World → Prop} {Q : Exit → Act → World → Prop} (t : TypeId) (x k v : Operand) (ho : o.op = .mapUpdate t x k v) (w' : World) (hr : (Instr.mapUpdate t (a.eval x) (a.eval k) (a.eval v)).run P w = .ok () w')
    (h : K (a.put o.dst undef) w') : Oper.wp P o a w K Q := by
  unfold Oper.wp execOp
  simp only [ho, Sem.run_bind, hr, Result.andThen_ok]
  exact h
end Go.Proofs.Ytgdkiejlggiakaa
