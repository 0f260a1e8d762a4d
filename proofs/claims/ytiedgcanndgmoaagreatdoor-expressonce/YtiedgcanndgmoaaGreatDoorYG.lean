import Derived.Test.YtiedgcanndgmoaaGreatDoorYA
import Derived.Test.YtiedgcanndgmoaaGreatDoorXG
import Derived.Test.YtiedgcanndgmoaaGreatDoorXJ
import Derived.Test.YtiedgcanndgmoaaGreatDoorXT
import Derived.Test.YtiedgcanndgmoaaGreatDoorXL
import Derived.Test.YtiedgcanndgmoaaGreatDoorRCa
import Derived.Test.YtiedgcanndgmoaaGreatDoorRL
namespace Go.Proofs.YtiedgcanndgmoaaGreatDoor
set_option linter.unusedVariables false
set_option linter.unusedSimpArgs false
open Go.RowKit Go.Maps
section
variable {w w' : World} {q : Nat} {v : Value} {X : Value × Value × Value × Value} {s : Xs}
set_option maxRecDepth 20000
set_option maxHeartbeats 3200000
theorem rgood_t (k : Fk) (w : World) : Calls Tryz.prog 11 #[fv k] w fun e w' => e = .returned (.bool (decide (0 ≤ k.1 ∧ k.1 < 8 ∧ k.2 ≤ mxX))) ∧ Below w.heap.size w w' := by
  obtain ⟨a, b⟩ := k
  have HB : Hid (Below w.heap.size w (w.alloc (.cells #[.int .i64 a, .int .u64 (b : Int)] tFk))) := alx (Below.refl _ _) (Nat.le_refl _) _
  obtain ⟨d, hd⟩ : ∃ d, d = decide (0 ≤ a ∧ a < 8 ∧ b ≤ mxX) := ⟨_, rfl⟩
  show Calls _ _ _ _ fun e w' => e = .returned (.bool (decide (0 ≤ a ∧ a < 8 ∧ b ≤ mxX))) ∧ _
  rw [← hd]
  have HE : Hid _ := hd
  clear hd
  by_cases h1 : 0 ≤ a
  · by_cases h2 : a < 8
    · have HD : Hid (decide ((b : Int) ≤ 281474976710655) = d) := by
        unfold Hid
        rw [HE.out]
        unfold mxX
        apply decide_eq_decide.2
        omega
      go_enter Tryz.func11, Tryz.ntmps11
      go_wp2
      go_ret
      rw [← HD.out]; exact ⟨rfl, HB.out⟩
    · have HD : Hid (d = false) := HE.out.trans <| decide_eq_false (fun h => h2 h.2.1)
      go_enter Tryz.func11, Tryz.ntmps11
      go_wp2
      go_ret
      rw [HD.out]; exact ⟨rfl, HB.out⟩
  · have HD : Hid (d = false) := HE.out.trans <| decide_eq_false (fun h => h1 h.1)
    go_enter Tryz.func11, Tryz.ntmps11
    go_wp2
    go_ret
    rw [HD.out]; exact ⟨rfl, HB.out⟩

end
end Go.Proofs.YtiedgcanndgmoaaGreatDoor
namespace Go.Proofs.YtiedgcanndgmoaaGreatDoor
set_option linter.unusedVariables false
set_option linter.unusedSimpArgs false
open Go.RowKit Go.Maps
section
variable {w w' : World} {q : Nat} {v : Value} {X : Value × Value × Value × Value} {s : Xs}
set_option maxRecDepth 20000
set_option maxHeartbeats 3200000
theorem Rx.setRowT (h : Rx w q v X s) (hc : Chg (fun b => v.ownBlock = some b) w w') {t : Xs} (e1 : t.mtu = s.mtu) (e2 : t.ack = s.ack) (e3 : t.ep = s.ep) (e4 : t.clk = s.clk) {v' : Value} (hr : OwnG KRe w' 0 v' t.L) (hv : ∀ b, v'.ownBlock = some b → v.ownBlock = some b ∨ w.heap.size ≤ b) (hi : XInv t) : Rx (w'.setCell ⟨q, 8, none⟩ v') q v' X t ∧ RxStp w (w'.setCell ⟨q, 8, none⟩ v') q v v' := by
  have hb := (hc.block q h.ql (fun e => h.qv q e rfl)).trans h.blk
  have hq : ∀ b, v'.ownBlock = some b → b ≠ q := fun b hb e => by
    rcases hv b hb with h1 | h1
    · exact h.qv b h1 e
    · have := h.ql; omega
  refine ⟨⟨?_, hr.kept (fun b hb => heap_setCell_other w' ⟨q, 8, none⟩ b _ (hq b hb)), hi⟩, ?_, ?_⟩
  · have h9 := heap_setCell_same w' q 8 (cellsR s X v) tRx v' hb
    unfold cellsR
    rw [e1, e2, e3, e4]
    exact h9
  · exact (hc.mono (fun b e => .inr e)).trans (Chg.of_grown (F := fun b => b = q) (gset1 w' q 8 v') (fun b e => (Option.some.inj e).symm)) (fun i e => .inl (.inl e))
  · rintro b (rfl | hb)
    · exact .inl (.inl rfl)
    · rcases hv b hb with h1 | h1
      · exact .inl (.inr h1)
      · exact .inr h1
end
end Go.Proofs.YtiedgcanndgmoaaGreatDoor
