import Derived.Test.YtcpbecchkgcpdaaGreatDoorRows
import Derived.WalkKit
import Derived.WalkSpells
import Derived.WalkLawsBesides
import Derived.Laws.IdiomStrings
namespace Go.Proofs.YtcpbecchkgcpdaaGreatDoor
set_option linter.unusedVariables false
set_option linter.unusedSimpArgs false
open Go.RowKit

/-- The bytes xs can be read from the address on (of no byte: whatever the address). -/
def Rd (w : World) (ao : Option Addr) (xs : List UInt8) : Prop :=
  0 < xs.length → ∃ b o, ao = some ⟨b, o, none⟩ ∧ ∀ i (h : i < xs.length), w.cell? ⟨b, o + i, none⟩ = some (.int .u8 (xs[i].toNat : Int))
def bv (xs : List UInt8) : List Value := xs.map fun b => .int .u8 (b.toNat : Int)
/-- v is a slice of the call's own, at the head of a block from B on, that holds the bytes xs. -/
def Own (w : World) (B : Nat) (v : Value) (xs : List UInt8) : Prop := w.ownsRow B 5 1 v xs.length (bv xs)

theorem bv_length (xs : List UInt8) : (bv xs).length = xs.length := by simp [bv]
theorem bv_append (xs ys : List UInt8) : bv (xs ++ ys) = bv xs ++ bv ys := by simp [bv]
theorem bv_get (xs : List UInt8) (i : Nat) (h : i < xs.length) : (bv xs)[i]? = some (.int .u8 (xs[i].toNat : Int)) := by simp [bv, h]
theorem bv_one (xs : List UInt8) : ∀ u ∈ bv xs, u.oneCell' = true := by
  intro u hu
  simp only [bv, List.mem_map] at hu
  obtain ⟨b, _, rfl⟩ := hu
  rfl

theorem Rd.below {w w' : World} {ao : Option Addr} {xs : List UInt8} (h : Rd w ao xs) (hb : Below w.heap.size w w') : Rd w' ao xs := by
  intro hp
  obtain ⟨b, o, rfl, hc⟩ := h hp
  refine ⟨b, o, rfl, fun i hi => ?_⟩
  have h1 := hc i hi
  exact (hb.cell (World.block_lt_of_cell? w _ h1)).trans h1
theorem Rd.grown {w w' : World} {ao : Option Addr} {xs : List UInt8} {row : Option Nat} (h : Rd w ao xs) (hg : w.grownBy w' row) (hne : ∀ a, ao = some a → some a.block ≠ row) : Rd w' ao xs := by
  intro hp
  obtain ⟨b, o, rfl, hc⟩ := h hp
  exact ⟨b, o, rfl, fun i hi => hg.cell (hc i hi) (hne ⟨b, o, none⟩ rfl)⟩
theorem Rd.alloc {w : World} {ao : Option Addr} {xs : List UInt8} (h : Rd w ao xs) (o : Obj) : Rd (w.alloc o) ao xs := h.below ((Below.refl _ _).alloc (Nat.le_refl _) o)
theorem Rd.take {w : World} {ao : Option Addr} {xs : List UInt8} (h : Rd w ao xs) (k : Nat) : Rd w ao (xs.take k) := by
  intro hp
  obtain ⟨b, o, e, hc⟩ := h (by simp at hp; omega)
  refine ⟨b, o, e, fun i hi => ?_⟩
  rw [hc i (by simp at hi; omega), List.getElem_take]
theorem Rd.nil (w : World) (ao : Option Addr) : Rd w ao [] := fun h => absurd h (Nat.lt_irrefl 0)

/-- a row that has just been laid -/
theorem rd_lit (w : World) (n : Nat) (hn : n = w.heap.size) (C : Array Value) (t : TypeId) (fr : Nat × Nat) (xs : List UInt8) (h : C.toList = bv xs) : Rd (w.alloc (.cells C t fr)) (some ⟨n, 0, none⟩) xs := by
  subst hn
  intro _
  refine ⟨_, _, rfl, fun i hi => ?_⟩
  rw [World.cell?_alloc_mark, Nat.zero_add, ← Array.getElem?_toList, h, bv_get xs i hi]
theorem Own.val {w : World} {B : Nat} {v : Value} {xs : List UInt8} (h : Own w B v xs) :
    ∃ ao cap, v = .slice ao xs.length cap ∧ xs.length ≤ cap ∧ cap ≤ maxLen ∧ (ao = none → cap = 0) ∧ Rd w ao xs ∧ (∀ a, ao = some a → B ≤ a.block ∧ a.block < w.heap.size) := by
  have hlt := World.ownsRow.lt h
  rcases h.2 with ⟨rfl, h0⟩ | ⟨g, cap, cur, rfl, hB, hg, hn, hm, hs, ht⟩
  · obtain rfl : xs = [] := List.eq_nil_of_length_eq_zero h0
    exact ⟨none, 0, rfl, Nat.le_refl _, Nat.zero_le _, fun _ => rfl, Rd.nil _ _, fun a ha => by cases ha⟩
  · refine ⟨some ⟨g, 0, none⟩, cap, rfl, hn, hm, (fun h => by cases h), fun hp => ⟨g, 0, rfl, fun i hi => ?_⟩, fun a ha => by cases ha; exact hlt g rfl⟩
    have h1 := World.ownsRow.cellAt h i (by omega)
    rw [Nat.zero_add, h1, bv_get xs i hi]
theorem Own.below {w w' : World} {B : Nat} {v : Value} {xs : List UInt8} (h : Own w B v xs) (hb : Below w.heap.size w w') : Own w' B v xs :=
  World.ownsRow.kept h ⟨hb.os, hb.tape, hb.output, hb.size, fun k hk _ => hb.block k hk⟩ (by cases hv : v.ownBlock <;> simp) (row := none)
theorem Own.base {w : World} {B B' : Nat} {v : Value} {xs : List UInt8} (h : Own w B v xs) (hB : B' ≤ B) : Own w B' v xs := by
  refine ⟨h.1, ?_⟩
  rcases h.2 with h0 | ⟨g, cap, cur, hv, hg, r⟩
  · exact .inl h0
  · exact .inr ⟨g, cap, cur, hv, Nat.le_trans hB hg, r⟩
theorem Own.grown {w w' : World} {B : Nat} {v : Value} {xs : List UInt8} {row : Option Nat} (h : Own w B v xs) (hg : w.grownBy w' row) (hne : v.ownBlock = none ∨ v.ownBlock ≠ row) : Own w' B v xs :=
  World.ownsRow.kept h hg hne
theorem _root_.Go.World.grownBy.trans' {a b c : World} {row : Option Nat} (h : a.grownBy b row) (k : b.grownBy c row) : a.grownBy c row :=
  ⟨k.os.trans h.os, k.tape.trans h.tape, k.output.trans h.output, Nat.le_trans h.size k.size, fun i hi hr => (k.block i (Nat.lt_of_lt_of_le hi h.size) hr).trans (h.block i hi hr)⟩
theorem _root_.Go.World.grownBy.any {a b : World} (h : a.grownBy b none) (row : Option Nat) : a.grownBy b row :=
  ⟨h.os, h.tape, h.output, h.size, fun i hi _ => h.block i hi (by simp)⟩
theorem below_next {B u v : World} (hu : Below B.heap.size B u) (h : Below u.heap.size u v) : Below B.heap.size B v := hu.trans (h.mono hu.size)
theorem own_set {w : World} {B g cap : Nat} {ys : List UInt8} (h : Own w B (.slice (some ⟨g, 0, none⟩) ys.length cap) ys) (i : Nat) (c : UInt8) (z : Int) (hz : z = (c.toNat : Int)) :
    Own (w.setCell ⟨g, i, none⟩ (.int .u8 z)) B (.slice (some ⟨g, 0, none⟩) ys.length cap) (ys.set i c) ∧ w.grownBy (w.setCell ⟨g, i, none⟩ (.int .u8 z)) (some g) := by
  subst hz
  have h1 := World.ownsRow.stored h i (.int .u8 (c.toNat : Int))
  refine ⟨?_, h1.2⟩
  unfold Own
  rw [List.length_set]
  have e : bv (ys.set i c) = (bv ys).set i (.int .u8 (c.toNat : Int)) := by simp [bv, List.map_set]
  rw [e]
  exact h1.1
theorem u8_xor_ints (a b : UInt8) : bits .xor .u8 (a.toNat : Int) (b.toNat : Int) = ((a ^^^ b).toNat : Int) := by
  rw [u8_xor_nat _ _ a.toNat_lt b.toNat_lt, UInt8.toNat_xor]
end Go.Proofs.YtcpbecchkgcpdaaGreatDoor
