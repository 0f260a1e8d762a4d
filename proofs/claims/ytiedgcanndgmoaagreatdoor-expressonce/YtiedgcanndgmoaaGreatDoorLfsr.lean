import Derived.Test.YtiedgcanndgmoaaGreatDoorXK
namespace Go.Proofs.YtiedgcanndgmoaaGreatDoor
set_option linter.unusedVariables false
set_option linter.unusedSimpArgs false
open Go.RowKit
def tab : List Int := [0, 498536548, 997073096, 651767980, 1994146192, 1802195444, 1303535960, 1342533948, 3988292384, 4027552580, 3604390888, 3412177804, 2607071920, 2262029012, 2685067896, 3183342108]
def tabAt (m : Int) : Int := tab.getD (m % 16).toNat 0
def TabOk (w : World) : Prop := ∀ m : Int, w.cell? ⟨0, (m % 16).toNat, none⟩ = some (.int .u32 (tabAt m))
theorem TabOk.below {w w' : World} (h : TabOk w) (hb : Below w.heap.size w w') : TabOk w' := by
  intro m
  have h1 := h m
  exact (hb.cell (World.block_lt_of_cell? w _ h1)).trans h1
theorem TabOk.alloc {w : World} (h : TabOk w) (o : Obj) : TabOk (w.alloc o) := h.below ((Below.refl _ _).alloc (Nat.le_refl _) o)
end Go.Proofs.YtiedgcanndgmoaaGreatDoor
namespace Go.Proofs.YtiedgcanndgmoaaGreatDoor
set_option linter.unusedVariables false
set_option linter.unusedSimpArgs false
open Go.RowKit
def poly : Nat := 3988292384
/-- one bit moved out of the register -/
def stp (c : Nat) : Nat := if c % 2 = 1 then c / 2 ^^^ poly else c / 2
def stpN : Nat → Nat → Nat
  | 0, c => c
  | k + 1, c => stp (stpN k c)
/-- the register behind a byte -/
def crcB (c : Nat) (x : UInt8) : Nat := stpN 8 (c ^^^ x.toNat)
def crcN (xs : List UInt8) : Nat := xs.foldl crcB 4294967295
/-- the sum -/
def crcS (xs : List UInt8) : Nat := 4294967295 ^^^ crcN xs
end Go.Proofs.YtiedgcanndgmoaaGreatDoor
