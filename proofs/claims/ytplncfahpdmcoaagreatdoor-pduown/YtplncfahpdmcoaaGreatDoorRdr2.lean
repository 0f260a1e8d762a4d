import Derived.Test.YtplncfahpdmcoaaGreatDoorNumb
import Derived.Test.YtplncfahpdmcoaaGreatDoorClone
import Derived.Test.YtplncfahpdmcoaaGreatDoorRegn
import Derived.Lib.BufferWrite
import Derived.Deep.AppendLies
namespace Go.Proofs.YtplncfahpdmcoaaGreatDoor
set_option linter.unusedVariables false
set_option linter.unusedSimpArgs false
open Go.RowKit
/-- a Reader that New made: what it reads, its place, its fault -/
structure RdrAt (w : World) (p : Nat) (ao : Option Addr) (cap : Nat) (xs : List UInt8) (pl : Nat) (f : Int) : Prop where
  c0 : w.cell? ⟨p, 0, none⟩ = some (.bool true)
  c1 : w.cell? ⟨p, 1, none⟩ = some (.slice ao xs.length cap)
  c2 : w.cell? ⟨p, 2, none⟩ = some (.int .i64 pl)
  c3 : w.cell? ⟨p, 3, none⟩ = some (.int .i64 f)
  f2 : w.frozen? ⟨p, 2, none⟩ = false
  f3 : w.frozen? ⟨p, 3, none⟩ = false
  rd : Rd w ao xs
  ap : ∀ a, ao = some a → a.block ≠ p
  hp : pl ≤ xs.length
  hl : xs.length ≤ 140737488355328
  hc : xs.length ≤ cap
  hn : ao = none → cap = 0
  sp : ao = none ∨ ∃ b o, ao = some ⟨b, o, none⟩
theorem RdrAt.drewN {w : World} {p : Nat} {ao : Option Addr} {cap : Nat} {xs : List UInt8} {pl : Nat} {f : Int} (h : RdrAt w p ao cap xs pl f) (q : Nat) : RdrAt (w.drewN q) p ao cap xs pl f :=
  ⟨by simpa using h.c0, by simpa using h.c1, by simpa using h.c2, by simpa using h.c3, by simpa using h.f2, by simpa using h.f3, h.rd.below (below_drewN (Below.refl _ _) q), h.ap, h.hp, h.hl, h.hc, h.hn, h.sp⟩
/-- other memory changes -/
theorem RdrAt.grown {w w' : World} {p : Nat} {ao : Option Addr} {cap : Nat} {xs : List UInt8} {pl : Nat} {f : Int} {row : Option Nat} (h : RdrAt w p ao cap xs pl f) (hg : w.grownBy w' row) (h1 : some p ≠ row) (h2 : ∀ a, ao = some a → some a.block ≠ row) : RdrAt w' p ao cap xs pl f :=
  ⟨hg.cell h.c0 h1, hg.cell h.c1 h1, hg.cell h.c2 h1, hg.cell h.c3 h1, (hg.frozen_far ⟨p, 2, none⟩ (World.block_lt_of_cell? w _ h.c2) h1).trans h.f2, (hg.frozen_far ⟨p, 3, none⟩ (World.block_lt_of_cell? w _ h.c3) h1).trans h.f3, h.rd.grown hg h2, h.ap, h.hp, h.hl, h.hc, h.hn, h.sp⟩
theorem Rd.setCell {w : World} {ao : Option Addr} {xs : List UInt8} (h : Rd w ao xs) (q : Addr) (v : Value) (hne : ∀ a, ao = some a → a.block ≠ q.block) : Rd (w.setCell q v) ao xs := by
  intro hp
  obtain ⟨b, o, rfl, hc⟩ := h hp
  refine ⟨b, o, rfl, fun i hi => ?_⟩
  rw [World.cell?_setCell_other _ _ _ _ (by intro e; exact hne ⟨b, o, none⟩ rfl (by rw [e]))]
  exact hc i hi
theorem RdrAt.setF {w : World} {p : Nat} {ao : Option Addr} {cap : Nat} {xs : List UInt8} {pl : Nat} {f : Int} (h : RdrAt w p ao cap xs pl f) (g : Int) : RdrAt (w.setCell ⟨p, 3, none⟩ (.int .i64 g)) p ao cap xs pl g :=
  ⟨by rw [World.cell?_setCell_other _ _ _ _ (by simp)]; exact h.c0, by rw [World.cell?_setCell_other _ _ _ _ (by simp)]; exact h.c1, by rw [World.cell?_setCell_other _ _ _ _ (by simp)]; exact h.c2, World.cell?_setCell_same _ _ _ (by rw [h.c3]), by simpa using h.f2, by simpa using h.f3, h.rd.setCell _ _ h.ap, h.ap, h.hp, h.hl, h.hc, h.hn, h.sp⟩
theorem RdrAt.setP {w : World} {p : Nat} {ao : Option Addr} {cap : Nat} {xs : List UInt8} {pl : Nat} {f : Int} (h : RdrAt w p ao cap xs pl f) (z : Int) (m : Nat) (hz : z = m) (hm : m ≤ xs.length) : RdrAt (w.setCell ⟨p, 2, none⟩ (.int .i64 z)) p ao cap xs m f := by
  subst hz
  exact ⟨by rw [World.cell?_setCell_other _ _ _ _ (by simp)]; exact h.c0, by rw [World.cell?_setCell_other _ _ _ _ (by simp)]; exact h.c1, World.cell?_setCell_same _ _ _ (by rw [h.c2]), by rw [World.cell?_setCell_other _ _ _ _ (by simp)]; exact h.c3, by simpa using h.f2, by simpa using h.f3, h.rd.setCell _ _ h.ap, h.ap, hm, h.hl, h.hc, h.hn, h.sp⟩
theorem Rd.drop {w : World} {b o : Nat} {xs : List UInt8} (h : Rd w (some ⟨b, o, none⟩) xs) (k : Nat) : Rd w (some ⟨b, o + k, none⟩) (xs.drop k) := by
  intro hp
  have hk : k < xs.length := by simp at hp; omega
  obtain ⟨b', o', e, hc⟩ := h (by omega)
  cases e
  refine ⟨b, o + k, rfl, fun i hi => ?_⟩
  have h1 := hc (k + i) (by simp at hi; omega)
  rw [List.getElem_drop, ← h1, Nat.add_assoc]
theorem err_r {p : Nat} {ao : Option Addr} {cap : Nat} {xs : List UInt8} {pl : Nat} {f : Int} (w : World) (h : RdrAt w p ao cap xs pl f) : Calls Tryz.prog 55 #[.pointer (some ⟨p, 0, none⟩)] w fun e w' => e = .returned (.int .i64 f) ∧ w' = w := by
  obtain ⟨h0, h1, h2, h3, -, -, -, -, -, -, -, -, -⟩ := h
  go_enter Tryz.func55, Tryz.ntmps55
  go_wp2
  go_ret
  exact ⟨rfl, rfl⟩
theorem left_r {p : Nat} {ao : Option Addr} {cap : Nat} {xs : List UInt8} {pl : Nat} {f : Int} (w : World) (h : RdrAt w p ao cap xs pl f) : Calls Tryz.prog 56 #[.pointer (some ⟨p, 0, none⟩)] w fun e w' => e = .returned (.int .i64 ((xs.length - pl : Nat) : Int)) ∧ ∃ q, w' = w.drewN q := by
  obtain ⟨h0, h1, h2, h3, -, -, -, -, hp, hl, -, -, -⟩ := h
  go_enter Tryz.func56, Tryz.ntmps56
  go_wp2
  go_quiet (fail)
  go_wp2
  go_ret
  exact ⟨by go_num, _, rfl⟩
end Go.Proofs.YtplncfahpdmcoaaGreatDoor
namespace Go.Proofs.YtplncfahpdmcoaaGreatDoor
set_option linter.unusedVariables false
set_option linter.unusedSimpArgs false
open Go.RowKit
/-- what ahead answers, of what lies ahead -/
def ahS (m : Nat) (ys : List UInt8) : Nat × Nat × Nat := if (numS ys).2.2 = 0 ∧ m < (numS ys).1 then (0, 0, 12) else numS ys
def ahV (m : Nat) (ys : List UInt8) : Value := .tuple #[.int .u64 ((ahS m ys).1 : Nat), .int .i64 ((ahS m ys).2.1 : Nat), .int .i64 ((ahS m ys).2.2 : Nat)]
/-- Number's call on what lies ahead -/
def NumAt (w : World) (v : Value) (ys : List UInt8) : Prop := ∀ q : Nat, Calls Tryz.prog 100 #[v] (w.drewN q) fun e w' => e = .returned (numV ys) ∧ w' = w.drewN q
set_option maxRecDepth 20000 in
set_option maxHeartbeats 800000 in
theorem ahead_r {p : Nat} {ao : Option Addr} {cap : Nat} {xs : List UInt8} {pl : Nat} {f : Int} (m : Nat) (w : World) (h : RdrAt w p ao cap xs pl f) :
    Calls Tryz.prog 76 #[.pointer (some ⟨p, 0, none⟩), .int .u64 m] w fun e w' => e = .returned (ahV m (xs.drop pl)) ∧ ∃ q, w' = w.drewN q := by
  obtain ⟨h0, h1, h2, h3, -, -, hr, -, hp, hl, hc, hn, hs⟩ := h
  obtain ⟨N, K, E, hN⟩ : ∃ N K E : Nat, numS (xs.drop pl) = (N, K, E) := ⟨_, _, _, rfl⟩
  have hnv : numV (xs.drop pl) = .tuple #[.int .u64 N, .int .i64 K, .int .i64 E] := by unfold numV; rw [hN]
  have hcase : (E = 0 ∧ m < N ∧ Hid (ahV m (xs.drop pl) = .tuple #[.int .u64 0, .int .i64 0, .int .i64 12])) ∨ (E = 0 ∧ ¬ m < N ∧ Hid (ahV m (xs.drop pl) = .tuple #[.int .u64 N, .int .i64 K, .int .i64 0])) ∨ (¬ E = 0 ∧ Hid (ahV m (xs.drop pl) = .tuple #[.int .u64 N, .int .i64 K, .int .i64 E])) := by
    unfold ahV ahS Hid
    rw [hN]
    by_cases hE : E = 0
    · by_cases hm : m < N
      · exact .inl ⟨hE, hm, by rw [if_pos ⟨hE, hm⟩]; rfl⟩
      · exact .inr (.inl ⟨hE, hm, by rw [if_neg (fun h => hm h.2), hE]; rfl⟩)
    · exact .inr (.inr ⟨hE, by rw [if_neg (fun h => hE h.1)]⟩)
  clear hN
  rcases hs with rfl | ⟨b, o, rfl⟩
  · obtain rfl := hn rfl
    obtain rfl : xs = [] := List.eq_nil_of_length_eq_zero (by omega)
    simp only [List.length_nil, Nat.le_zero] at hp
    subst hp
    have HN : Hid (∀ q : Nat, Calls Tryz.prog 100 #[.slice none 0 0] (w.drewN q) fun e w' => e = .returned (.tuple #[.int .u64 N, .int .i64 K, .int .i64 E]) ∧ w' = w.drewN q) := fun q => by
      rw [← hnv]
      exact number_any none 0 [] (w.drewN q) (Rd.nil _ _) (Nat.le_refl _) (by decide)
    clear hn hr hnv
    rcases hcase with ⟨rfl, hlt, HAV⟩ | ⟨rfl, hlt, HAV⟩ | ⟨hlt, HAV⟩
    · go_enter Tryz.func76, Tryz.ntmps76
      go_wp2
      go_quiet ((go_at_call 100; exact Calls.quiet_of_same (HN.out _)))
      go_wp2
      go_ret3
      exact ⟨by rw [HAV.out]; rfl, _, rfl⟩
    · go_enter Tryz.func76, Tryz.ntmps76
      go_wp2
      go_quiet ((go_at_call 100; exact Calls.quiet_of_same (HN.out _)))
      go_wp2
      go_ret3
      exact ⟨by rw [HAV.out]; rfl, _, rfl⟩
    · go_enter Tryz.func76, Tryz.ntmps76
      go_wp2
      go_quiet ((go_at_call 100; exact Calls.quiet_of_same (HN.out _)))
      go_wp2
      go_ret3
      exact ⟨by rw [HAV.out]; rfl, _, rfl⟩
  · have hld : xs.length - pl = (xs.drop pl).length := by simp
    have HN : Hid (∀ q : Nat, ∀ o' : Nat, (o' = o + pl ∨ cap = pl) → Calls Tryz.prog 100 #[.slice (some ⟨b, o', none⟩) (xs.length - pl) (cap - pl)] (w.drewN q) fun e w' => e = .returned (.tuple #[.int .u64 N, .int .i64 K, .int .i64 E]) ∧ w' = w.drewN q) := fun q o' ho => by
      rw [← hnv, hld]
      refine number_any _ _ _ (w.drewN q) ?_ (by rw [← hld]; omega) (by rw [← hld]; omega)
      rcases ho with rfl | ho
      · exact (hr.drop pl).below (below_drewN (Below.refl _ _) q)
      · intro h0
        rw [← hld] at h0
        omega
    clear hn hr hnv hld
    by_cases hcp : cap = pl
    · have hxl : xs.length = pl := by omega
      have HN' : Hid (∀ q : Nat, Calls Tryz.prog 100 #[.slice (some ⟨b, o, none⟩) 0 0] (w.drewN q) fun e w' => e = .returned (.tuple #[.int .u64 N, .int .i64 K, .int .i64 E]) ∧ w' = w.drewN q) := fun q => by
        have h := HN.out q o (.inr hcp)
        rwa [hxl, hcp, Nat.sub_self] at h
      rw [hxl, hcp] at h1
      clear hxl hcp hp hc hl HN
      rcases hcase with ⟨rfl, hlt, HAV⟩ | ⟨rfl, hlt, HAV⟩ | ⟨hlt, HAV⟩
      · go_enter Tryz.func76, Tryz.ntmps76
        go_wp2
        go_quiet ((go_at_call 100; exact Calls.quiet_of_same (HN'.out _)))
        go_wp2
        go_ret3
        exact ⟨by rw [HAV.out]; rfl, _, rfl⟩
      · go_enter Tryz.func76, Tryz.ntmps76
        go_wp2
        go_quiet ((go_at_call 100; exact Calls.quiet_of_same (HN'.out _)))
        go_wp2
        go_ret3
        exact ⟨by rw [HAV.out]; rfl, _, rfl⟩
      · go_enter Tryz.func76, Tryz.ntmps76
        go_wp2
        go_quiet ((go_at_call 100; exact Calls.quiet_of_same (HN'.out _)))
        go_wp2
        go_ret3
        exact ⟨by rw [HAV.out]; rfl, _, rfl⟩
    · have hc' : pl ≤ cap := by omega
      have HN' : Hid _ := fun q => HN.out q (o + pl) (.inl rfl)
      clear HN
      rcases hcase with ⟨rfl, hlt, HAV⟩ | ⟨rfl, hlt, HAV⟩ | ⟨hlt, HAV⟩
      · go_enter Tryz.func76, Tryz.ntmps76
        go_wp2
        go_quiet ((go_at_call 100; exact Calls.quiet_of_same (HN'.out _)))
        go_wp2
        go_ret3
        exact ⟨by rw [HAV.out]; rfl, _, rfl⟩
      · go_enter Tryz.func76, Tryz.ntmps76
        go_wp2
        go_quiet ((go_at_call 100; exact Calls.quiet_of_same (HN'.out _)))
        go_wp2
        go_ret3
        exact ⟨by rw [HAV.out]; rfl, _, rfl⟩
      · go_enter Tryz.func76, Tryz.ntmps76
        go_wp2
        go_quiet ((go_at_call 100; exact Calls.quiet_of_same (HN'.out _)))
        go_wp2
        go_ret3
        exact ⟨by rw [HAV.out]; rfl, _, rfl⟩
end Go.Proofs.YtplncfahpdmcoaaGreatDoor
