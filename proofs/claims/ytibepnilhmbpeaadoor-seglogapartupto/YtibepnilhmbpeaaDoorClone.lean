import Derived.Test.YtibepnilhmbpeaaDoorNumb
import Derived.Test.YtibepnilhmbpeaaDoorLfsr
import Derived.Laws.BytesArg
import Derived.Lib.SlBytesConst
import Derived.Test.YtibepnilhmbpeaaDoorHelp
import Derived.Lib.SliceRun
import Derived.Test.YtibepnilhmbpeaaDoorRegn
namespace Go.Proofs.YtibepnilhmbpeaaDoor
set_option linter.unusedVariables false
set_option linter.unusedSimpArgs false
open Go.RowKit
theorem own_made0 (w : World) : Own (w.alloc (.cells #[] 5)) w.heap.size (.slice (some ⟨w.heap.size, 0, none⟩) 0 0) [] :=
  World.ownsRow_made w #[] 0 (Nat.le_refl _) (Nat.zero_le _) rfl
set_option maxRecDepth 20000 in
set_option maxHeartbeats 400000 in
theorem clone_any (ao : Option Addr) (cap : Nat) (xs : List UInt8) (w : World) (hx : Rd w ao xs) (hnil : ao = none → cap = 0) (hl : xs.length ≤ 140737488355328) :
    Calls Tryd.prog 66 #[.slice ao xs.length cap] w fun e w' => ∃ v, e = .returned v ∧ Own w' w.heap.size v xs ∧ Below w.heap.size w w' := by
  have q22 : ∀ (w : World) (a : Option Addr) (n c n' c' : Nat), (binOp .eql 27 (.slice a n c) (.slice none n' c')).run Tryd.prog w = .ok (.bool a.isNone) w := fun w a n c n' c' => Lib.run_eql_slice_nil w _ _ a n c n' c' Tryd.underlying27
  rcases ao with _ | a
  · obtain rfl := hnil rfl
    have h0 : xs = [] := by
      rcases xs with _ | ⟨y, ys⟩
      · rfl
      · obtain ⟨b, o, h1, _⟩ := hx (by simp); cases h1
    subst h0
    clear hnil
    go_enter Tryd.func66, Tryd.ntmps66
    go_wp2
    go_ret
    exact ⟨_, rfl, World.ownsRow_nil _ _ _ _, Below.refl _ _⟩
  · clear hnil
    go_enter Tryd.func66, Tryd.ntmps66
    go_wp2_with (at_builtin; refine wp_app rfl _ _ rfl w.heap.size _ [] xs _ _ rfl (own_made0 w) rfl (hx.alloc _) (fun h => by cases h) (by simpa using hl) (by simp) ?_; intro v2 w2 hown2 hg2)
    go_ret
    refine ⟨_, rfl, hown2, ?_⟩
    exact ((Below.refl _ w).alloc (Nat.le_refl _) _).grown hg2 (by simp) (fun k hk => (World.ownsRow.lt (own_made0 w) k hk).1)
theorem clone_n (ao : Option Addr) (n cap : Nat) (xs : List UInt8) (hn : n = xs.length) (w : World) (hx : Rd w ao xs) (hnil : ao = none → cap = 0) (hl : n ≤ 140737488355328) :
    Calls Tryd.prog 66 #[.slice ao n cap] w fun e w' => ∃ v, e = .returned v ∧ Own w' w.heap.size v xs ∧ Below w.heap.size w w' := by subst hn; exact clone_any ao cap xs w hx hnil hl
end Go.Proofs.YtibepnilhmbpeaaDoor
