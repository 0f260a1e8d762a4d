import Derived.Test.YtdpkommmkcmifaaNumb
import Derived.Test.YtdpkommmkcmifaaClone
import Derived.Test.YtdpkommmkcmifaaRegn
import Derived.Lib.BufferWrite
import Derived.Deep.AppendLies
namespace Go.Proofs.Ytdpkommmkcmifaa
set_option linter.unusedVariables false
set_option linter.unusedSimpArgs false
open Go.RowKit
/-- a Reader that New made: what it reads, its place, its fault -/
structure RdrAt (w : World) (p : Nat) (ao : Option Addr) (cap : Nat) (xs : List UInt8) (pl : Nat) (f : Int) : Prop where
  c0 : w.cell? ⟨p, 0, none⟩ = some (.bool true)
  c1 : w.cell? ⟨p, 1, none⟩ = some (.slice ao xs.length cap)
  c2 : w.cell? ⟨p, 2, none⟩ = some (.int .i64 pl)
  c3 : w.cell? ⟨p, 3, none⟩ = some (.int .i64 f)
  f2 : w.frozen? ⟨p, 2, none⟩ = false
  f3 : w.frozen? ⟨p, 3, none⟩ = false
  rd : Rd w ao xs
  ap : ∀ a, ao = some a → a.block ≠ p
  hp : pl ≤ xs.length
  hl : xs.length ≤ 140737488355328
  hc : xs.length ≤ cap
  hn : ao = none → cap = 0
  sp : ao = none ∨ ∃ b o, ao = some ⟨b, o, none⟩
theorem RdrAt.drewN {w : World} {p : Nat} {ao : Option Addr} {cap : Nat} {xs : List UInt8} {pl : Nat} {f : Int} (h : RdrAt w p ao cap xs pl f) (q : Nat) : RdrAt (w.drewN q) p ao cap xs pl f :=
  ⟨by simpa using h.c0, by simpa using h.c1, by simpa using h.c2, by simpa using h.c3, by simpa using h.f2, by simpa using h.f3, h.rd.below (below_drewN (Below.refl _ _) q), h.ap, h.hp, h.hl, h.hc, h.hn, h.sp⟩
/-- other memory changes -/
theorem RdrAt.grown {w w' : World} {p : Nat} {ao : Option Addr} {cap : Nat} {xs : List UInt8} {pl : Nat} {f : Int} {row : Option Nat} (h : RdrAt w p ao cap xs pl f) (hg : w.grownBy w' row) (h1 : some p ≠ row) (h2 : ∀ a, ao = some a → some a.block ≠ row) : RdrAt w' p ao cap xs pl f :=
  ⟨hg.cell h.c0 h1, hg.cell h.c1 h1, hg.cell h.c2 h1, hg.cell h.c3 h1, (hg.frozen_far ⟨p, 2, none⟩ (World.block_lt_of_cell? w _ h.c2) h1).trans h.f2, (hg.frozen_far ⟨p, 3, none⟩ (World.block_lt_of_cell? w _ h.c3) h1).trans h.f3, h.rd.grown hg h2, h.ap, h.hp, h.hl, h.hc, h.hn, h.sp⟩
theorem Rd.setCell {w : World} {ao : Option Addr} {xs : List UInt8} (h : Rd w ao xs) (q : Addr) (v : Value) (hne : ∀ a, ao = some a → a.block ≠ q.block) : Rd (w.setCell q v) ao xs := by
  intro hp
  obtain ⟨b, o, rfl, hc⟩ := h hp
  refine ⟨b, o, rfl, fun i hi => ?_⟩
  rw [World.cell?_setCell_other _ _ _ _ (by intro e; exact hne ⟨b, o, none⟩ rfl (by rw [e]))]
  exact hc i hi
theorem RdrAt.setF {w : World} {p : Nat} {ao : Option Addr} {cap : Nat} {xs : List UInt8} {pl : Nat} {f : Int} (h : RdrAt w p ao cap xs pl f) (g : Int) : RdrAt (w.setCell ⟨p, 3, none⟩ (.int .i64 g)) p ao cap xs pl g :=
  ⟨by rw [World.cell?_setCell_other _ _ _ _ (by simp)]; exact h.c0, by rw [World.cell?_setCell_other _ _ _ _ (by simp)]; exact h.c1, by rw [World.cell?_setCell_other _ _ _ _ (by simp)]; exact h.c2, World.cell?_setCell_same _ _ _ (by rw [h.c3]), by simpa using h.f2, by simpa using h.f3, h.rd.setCell _ _ h.ap, h.ap, h.hp, h.hl, h.hc, h.hn, h.sp⟩
theorem RdrAt.setP {w : World} {p : Nat} {ao : Option Addr} {cap : Nat} {xs : List UInt8} {pl : Nat} {f : Int} (h : RdrAt w p ao cap xs pl f) (z : Int) (m : Nat) (hz : z = m) (hm : m ≤ xs.length) : RdrAt (w.setCell ⟨p, 2, none⟩ (.int .i64 z)) p ao cap xs m f := by
  subst hz
  exact ⟨by rw [World.cell?_setCell_other _ _ _ _ (by simp)]; exact h.c0, by rw [World.cell?_setCell_other _ _ _ _ (by simp)]; exact h.c1, World.cell?_setCell_same _ _ _ (by rw [h.c2]), by rw [World.cell?_setCell_other _ _ _ _ (by simp)]; exact h.c3, by simpa using h.f2, by simpa using h.f3, h.rd.setCell _ _ h.ap, h.ap, hm, h.hl, h.hc, h.hn, h.sp⟩
theorem Rd.drop {w : World} {b o : Nat} {xs : List UInt8} (h : Rd w (some ⟨b, o, none⟩) xs) (k : Nat) : Rd w (some ⟨b, o + k, none⟩) (xs.drop k) := by
  intro hp
  have hk : k < xs.length := by simp at hp; omega
  obtain ⟨b', o', e, hc⟩ := h (by omega)
  cases e
  refine ⟨b, o + k, rfl, fun i hi => ?_⟩
  have h1 := hc (k + i) (by simp at hi; omega)
  rw [List.getElem_drop, ← h1, Nat.add_assoc]
theorem err_r {p : Nat} {ao : Option Addr} {cap : Nat} {xs : List UInt8} {pl : Nat} {f : Int} (w : World) (h : RdrAt w p ao cap xs pl f) : Calls Try.prog 61 #[.pointer (some ⟨p, 0, none⟩)] w fun e w' => e = .returned (.int .i64 f) ∧ w' = w := by
  obtain ⟨h0, h1, h2, h3, -, -, -, -, -, -, -, -, -⟩ := h
  go_enter Try.func61, Try.ntmps61
  go_wp2
  go_ret
  exact ⟨rfl, rfl⟩
theorem left_r {p : Nat} {ao : Option Addr} {cap : Nat} {xs : List UInt8} {pl : Nat} {f : Int} (w : World) (h : RdrAt w p ao cap xs pl f) : Calls Try.prog 64 #[.pointer (some ⟨p, 0, none⟩)] w fun e w' => e = .returned (.int .i64 ((xs.length - pl : Nat) : Int)) ∧ ∃ q, w' = w.drewN q := by
  obtain ⟨h0, h1, h2, h3, -, -, -, -, hp, hl, -, -, -⟩ := h
  go_enter Try.func64, Try.ntmps64
  go_wp2
  go_quiet (fail)
  go_wp2
  go_ret
  exact ⟨by go_num, _, rfl⟩
end Go.Proofs.Ytdpkommmkcmifaa
