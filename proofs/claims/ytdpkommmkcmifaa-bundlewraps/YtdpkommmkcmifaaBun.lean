import Derived.Test.YtdpkommmkcmifaaHelp
import Derived.Test.YtdpkommmkcmifaaClone
namespace Go.Proofs.Ytdpkommmkcmifaa
set_option linter.unusedVariables false
set_option linter.unusedSimpArgs false
open Go.RowKit
/-- a block -/
structure Blk where
  t : Nat
  n : Nat
  f : Nat
  d : List UInt8
def Blk.ok (x : Blk) : Prop := x.t < 18446744073709551616 ∧ x.n < 18446744073709551616 ∧ x.f < 18446744073709551616 ∧ x.d.length ≤ 140737488351232
/-- a bundle -/
structure Bun where
  fl : Nat
  e0 : Nat
  e1 : Nat
  e2 : Nat
  e3 : Nat
  e4 : Nat
  e5 : Nat
  tm : Nat
  sq : Nat
  lf : Nat
  bl : List Blk
  py : List UInt8
structure Bun.ok (b : Bun) : Prop where
  fl : b.fl < 18446744073709551616
  e0 : b.e0 < 18446744073709551616
  e1 : b.e1 < 18446744073709551616
  e2 : b.e2 < 18446744073709551616
  e3 : b.e3 < 18446744073709551616
  e4 : b.e4 < 18446744073709551616
  e5 : b.e5 < 18446744073709551616
  tm : b.tm < 18446744073709551616
  sq : b.sq < 18446744073709551616
  lf : b.lf < 18446744073709551616
  bl : ∀ x ∈ b.bl, x.ok
  bn : b.bl.length ≤ 2932031007317
  py : b.py.length ≤ 140737488351232
/-- a block's four cells lie there -/
def BlkAt (w : World) (b o : Nat) (x : Blk) : Prop :=
  ∃ a c, w.cell? ⟨b, o, none⟩ = some (.int .u64 x.t) ∧ w.cell? ⟨b, o + 1, none⟩ = some (.int .u64 x.n) ∧ w.cell? ⟨b, o + 2, none⟩ = some (.int .u64 x.f) ∧ w.cell? ⟨b, o + 3, none⟩ = some (.slice a x.d.length c) ∧ Rd w a x.d ∧ x.d.length ≤ c ∧ (a = none → c = 0)
/-- the blocks can be read from the address on -/
def RdBlks (w : World) (so : Option Addr) (l : List Blk) : Prop :=
  0 < l.length → ∃ b o, so = some ⟨b, o, none⟩ ∧ ∀ j (h : j < l.length), BlkAt w b (o + j * 4) l[j]
theorem RdBlks.at {w : World} {so : Option Addr} {l : List Blk} (h : RdBlks w so l) (k : Nat) (hk : k < l.length) : ∃ b o, so = some ⟨b, o, none⟩ ∧ BlkAt w b (o + k * 4) l[k] := by
  obtain ⟨b, o, e, hp⟩ := h (by omega)
  exact ⟨b, o, e, hp k hk⟩
theorem BlkAt.below {w w' : World} {b o : Nat} {x : Blk} (h : BlkAt w b o x) (hb : Below w.heap.size w w') : BlkAt w' b o x := by
  obtain ⟨a, c, h0, h1, h2, h3, h4, h5⟩ := h
  exact ⟨a, c, (hb.cell (World.block_lt_of_cell? w _ h0)).trans h0, (hb.cell (World.block_lt_of_cell? w _ h1)).trans h1, (hb.cell (World.block_lt_of_cell? w _ h2)).trans h2, (hb.cell (World.block_lt_of_cell? w _ h3)).trans h3, h4.below hb, h5⟩
theorem RdBlks.below {w w' : World} {so : Option Addr} {l : List Blk} (h : RdBlks w so l) (hb : Below w.heap.size w w') : RdBlks w' so l := by
  intro hp
  obtain ⟨b, o, e, hc⟩ := h hp
  exact ⟨b, o, e, fun j hj => (hc j hj).below hb⟩
theorem RdBlks.alloc {w : World} {so : Option Addr} {l : List Blk} (h : RdBlks w so l) (o : Obj) : RdBlks (w.alloc o) so l := h.below ((Below.refl _ _).alloc (Nat.le_refl _) o)
theorem RdBlks.take {w : World} {so : Option Addr} {l : List Blk} (h : RdBlks w so l) (k : Nat) : RdBlks w so (l.take k) := by
  intro hp
  obtain ⟨b, o, e, hc⟩ := h (by simp at hp; omega)
  refine ⟨b, o, e, fun j hj => ?_⟩
  rw [List.getElem_take]
  exact hc j (by simp at hj; omega)
/-- which block is the first of a type -/
def placeS (l : List Blk) (kind : Nat) : Int := match l.findIdx? (fun x => x.t == kind) with
  | some i => (i : Int)
  | none => -1
theorem placeS_hit (l : List Blk) (kind k : Nat) (hk : k < l.length) (he : l[k].t = kind) (hall : ∀ j (hj : j < l.length), j < k → l[j].t ≠ kind) : placeS l kind = (k : Int) := by
  have : l.findIdx? (fun x => x.t == kind) = some k := by
    rw [List.findIdx?_eq_some_iff_getElem]
    exact ⟨hk, by simp [he], fun j hj => by simpa using hall j (by omega) hj⟩
  unfold placeS
  rw [this]
theorem placeS_miss (l : List Blk) (kind : Nat) (hall : ∀ j (hj : j < l.length), l[j].t ≠ kind) : placeS l kind = -1 := by
  have : l.findIdx? (fun x => x.t == kind) = none := by
    rw [List.findIdx?_eq_none_iff]
    intro x hx
    obtain ⟨j, hj, rfl⟩ := List.getElem_of_mem hx
    simpa using hall j hj
  unfold placeS
  rw [this]
theorem placeS_cases (l : List Blk) (kind : Nat) : (placeS l kind = -1 ∧ ∀ j (hj : j < l.length), l[j].t ≠ kind) ∨ ∃ k, ∃ hk : k < l.length, placeS l kind = (k : Int) ∧ l[k].t = kind ∧ ∀ j (hj : j < l.length), j < k → l[j].t ≠ kind := by
  rcases h : l.findIdx? (fun x => x.t == kind) with _ | k
  · left
    refine ⟨by unfold placeS; rw [h], fun j hj => ?_⟩
    rw [List.findIdx?_eq_none_iff] at h
    have := h l[j] (List.getElem_mem _)
    simpa using this
  · right
    have h2 := h
    rw [List.findIdx?_eq_some_iff_getElem] at h2
    obtain ⟨hk, he, hall⟩ := h2
    exact ⟨k, hk, by unfold placeS; rw [h], by simpa using he, fun j hj hjk => by simpa using hall j hjk⟩
set_option maxRecDepth 20000 in
set_option maxHeartbeats 800000 in
theorem place_any (so : Option Addr) (cap : Nat) (l : List Blk) (kind : Nat) (w : World) (hl : RdBlks w so l) (hlc : l.length ≤ cap) (hn : l.length ≤ 140737488351232) :
    Calls Try.prog 30 #[.slice so l.length cap, .int .u64 kind] w fun e w' => e = .returned (.int .i64 (placeS l kind)) ∧ Below w.heap.size w w' := by
  go_enter Try.func30, Try.ntmps30
  go_wp2
  go_loopw [9] (fun i wr => ∃ k : Nat, k ≤ l.length ∧ i = .int .i64 k ∧ (∀ j (hj : j < l.length), j < k → l[j].t ≠ kind) ∧ Below w.heap.size w wr) (fun i _ => l.length - (intOf i).toNat)
  case atStart => exact ⟨0, Nat.zero_le _, rfl, fun j _ h => absurd h (Nat.not_lt_zero j), Below.refl _ _⟩
  case round =>
    obtain ⟨k, hk, rfl, hall, hbel⟩ := hrel
    have HA : Hid (∀ j (hj : j < l.length), j < k → l[j].t ≠ kind) := hall
    clear hall
    by_cases hlt : k < l.length
    · obtain ⟨b, o, rfl, hx⟩ := hl.at k hlt
      obtain ⟨a, c, h0, h1, h2, h3, -⟩ := hx.below hbel
      have hsz := hbel.size
      by_cases he : l[k].t = kind
      · have HP : Hid (placeS l kind = (k : Int)) := placeS_hit l kind k hlt he HA.out
        go_wp2
        go_ret
        exact ⟨by rw [HP.out]; rfl, (hbel.alloc hsz _)⟩
      · go_wp2
        go_roundw
        case rel =>
          refine ⟨k + 1, by omega, by go_num, fun j hj hjk => ?_, hbel.alloc hsz _⟩
          by_cases e : j = k
          · subst e; exact he
          · exact HA.out j hj (by omega)
        case measure => simp [intOf]; omega
    · have HP : Hid (placeS l kind = -1) := placeS_miss l kind (fun j hj => HA.out j hj (by omega))
      obtain rfl : k = l.length := by omega
      go_wp2
      go_ret
      exact ⟨by rw [HP.out]; rfl, hbel⟩
end Go.Proofs.Ytdpkommmkcmifaa
