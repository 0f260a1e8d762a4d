import Derived.Test.YtnfikcegmicooabDoorWhE
import Derived.Deep.RegionLaw
namespace Go.Proofs.YtnfikcegmicooabDoor
set_option linter.unusedVariables false
set_option linter.unusedSimpArgs false
open Go.RowKit Go.Maps
/-- what a call on a wheel may change -/
structure Stp (w w' : World) (p m : Nat) (V V' : Nat → Nat → Value) : Prop where
  chg : Chg (footW p m V) w w'
  new : ∀ b, footW p m V' b → footW p m V b ∨ w.heap.size ≤ b
theorem Stp.refl (w : World) (p m : Nat) (V : Nat → Nat → Value) : Stp w w p m V V := ⟨Chg.refl _ _, fun _ h => .inl h⟩
theorem Stp.below {w w' : World} (h : Below w.heap.size w w') (p m : Nat) (V : Nat → Nat → Value) : Stp w w' p m V V := ⟨Chg.of_below h, fun _ h => .inl h⟩
theorem Stp.trans {a b c : World} {p m : Nat} {V V' V'' : Nat → Nat → Value} (h : Stp a b p m V V') (k : Stp b c p m V' V'') : Stp a c p m V V'' :=
  ⟨h.chg.trans k.chg h.new, fun i hi => by
    rcases k.new i hi with h1 | h1
    · exact h.new i h1
    · exact .inr (Nat.le_trans h.chg.size h1)⟩
set_option maxRecDepth 20000 in
set_option maxHeartbeats 1600000 in
theorem add_c (p q x s : Nat) (hs : s < 64) (hx : x < 18446744073709551616) (t : Tm) (xs : List Tm) (a : Option Addr) (n c : Nat) (hn : n = xs.length) (hl : n ≤ 4398046511104) (w : World) (hown : OwnM w 0 (.slice a n c) xs) (hne : (Value.slice a n c).ownBlock ≠ some p) (hc : w.cell? ⟨p, q + s, none⟩ = some (.slice a n c)) (hf : w.frozen? ⟨p, q + s, none⟩ = false) (hc2 : w.cell? ⟨p, q + 64, none⟩ = some (.int .u64 (x : Int))) (hf2 : w.frozen? ⟨p, q + 64, none⟩ = false) (hpl : p < w.heap.size) :
    Calls Tryd.prog 44 #[.pointer (some ⟨p, q, none⟩), .int .i64 (s : Int), tma t] w fun e w' => e = .returned (.int .i64 (n : Int)) ∧ ∃ g cap u, OwnM u 0 (.slice (some ⟨g, 0, none⟩) (n + 1) cap) (xs ++ [t]) ∧ w.grownBy u (Value.slice a n c).ownBlock ∧ ((Value.slice a n c).ownBlock = some g ∨ w.heap.size ≤ g) ∧
      Drw ((u.setCell ⟨p, q + s, none⟩ (.slice (some ⟨g, 0, none⟩) (n + 1) cap)).setCell ⟨p, q + 64, none⟩ (.int .u64 (bitOn x s : Int))) w' := by
  obtain ⟨i0, hi, hz0, hz1, hz2⟩ := info_parts infoM
  have hsi : (s : Int) < 64 := by omega
  have HW : Hid (∀ o1 o2, ((w.alloc o1).alloc o2).drew.heap[w.heap.size + 1]? = some o2) := fun o1 o2 => by rw [heap_drew]; have := heap_alloc_new (w.alloc o1) o2; simpa using this
  have HB : Hid (∀ (o1 o2 : Obj) (i : Nat) (v : Value), w.cell? ⟨p, i, none⟩ = some v → ((w.alloc o1).alloc o2).drew.cell? ⟨p, i, none⟩ = some v) := fun o1 o2 i v h => ((al (al (Below.refl _ w) o1) o2).drew.cell (p := ⟨p, i, none⟩) hpl).trans h
  have HF : Hid (∀ (o1 o2 : Obj) (i : Nat), w.frozen? ⟨p, i, none⟩ = false → ((w.alloc o1).alloc o2).drew.frozen? ⟨p, i, none⟩ = false) := fun o1 o2 i h => (World.frozen?_of_block ((al (al (Below.refl _ w) o1) o2).drew.block p hpl)).trans h
  have HN : Hid _ := hn
  have HO : Hid (∀ o1 o2, ((w.alloc o1).alloc o2).drew.ownsRow 0 tTm 3 (.slice a n c) n (flatM xs)) := fun o1 o2 => by
    have h9 := OwnM.below (xs := xs) hown (al (al (Below.refl _ w) o1) o2).drew
    unfold OwnM at h9
    rw [← HN.out] at h9
    exact h9
  have HE : Hid _ := hne
  have HI : Hid _ := And.intro hi (And.intro hz0 (And.intro hz1 hz2))
  clear hn hown hne hi hz0 hz1 hz2
  go_enter Tryd.func44, Tryd.ntmps44
  go_wp2
  go_region_law (refine step_append_lies _ rfl (.tmp 14) (.tmp 16) tTms rfl 0 tTm i0 (.agg #[.int .i64 0, .int .u64 0, .int .u64 0]) 3 24 Tryd.underlying53 HI.out.1 HI.out.2.1 HI.out.2.2.1 HI.out.2.2.2 rfl (by decide) (.slice a n c) n (flatM xs) (by simp [Act.eval, Act.put]) (HO.out _ _) ⟨w.heap.size + 1, 0, none⟩ 1 1 (tmv t) (by simp [Act.eval, Act.put]) rfl (World.news_of_block (cs := #[.int .i64 t.id, .int .u64 (t.at_ : Int), .int .u64 (t.ord : Int)]) (t := tTm) (fr := (0, 0)) (HW.out _ _)) (by intro u hu; simp at hu; rcases hu with rfl | rfl | rfl <;> rfl) (by decide) (by simp only [maxLen]; omega) (by omega) (Nat.zero_le _) _ rfl ?_; intro g5 cap5 w5 hown5 hg5 hat5 hlt5; have hc5 := hg5.cell (HB.out _ _ _ _ hc) (fun e => HE.out e.symm); have hf5 := (hg5.frozen_far ⟨p, q + s, none⟩ (by simp; omega) (fun e => HE.out e.symm)).trans (HF.out _ _ _ hf); have hc6 := hg5.cell (HB.out _ _ _ _ hc2) (fun e => HE.out e.symm); have hf6 := (hg5.frozen_far ⟨p, q + 64, none⟩ (by simp; omega) (fun e => HE.out e.symm)).trans (HF.out _ _ _ hf2); have HO5 : Hid _ := hown5; have HG5 : Hid _ := hg5; have HT5 : Hid _ := hat5; clear hown5 hg5 hat5)
  all_goals
    go_wp2
    go_region
    go_wp2
    go_ret
    refine ⟨by simp, g5, cap5, w5, ?_, ?_, ?_, ?_⟩
    · have h9 := HO5.out
      unfold OwnM
      rw [List.length_append, flatM_app, flatM_one, ← HN.out]
      exact h9
    · exact (World.grownBy_alloc w _ _).trans' ((World.grownBy_alloc _ _ _).trans' ⟨HG5.out.os, HG5.out.tape, HG5.out.output, HG5.out.size, HG5.out.block⟩)
    · rcases HT5.out with h9 | h9
      · exact .inl h9
      · refine .inr ?_
        rw [h9]
        simp
        omega
    · rw [or_bit x s hs hx]
      exact ⟨_, rfl⟩
end Go.Proofs.YtnfikcegmicooabDoor
