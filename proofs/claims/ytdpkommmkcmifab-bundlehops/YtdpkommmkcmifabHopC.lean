import Derived.Test.YtdpkommmkcmifabHopP
namespace Go.Proofs.Ytdpkommmkcmifab
set_option linter.unusedVariables false
set_option linter.unusedSimpArgs false
open Go.RowKit
/-- what a turning function answers -/
def TurnV (w w' : World) (B : Nat) (t : Option (List UInt8)) (e : Ending) : Prop :=
  ∃ v n ds, e = .returned (.tuple #[v, .int .i64 n]) ∧ Own w' B v ds ∧ ((t = none ∧ n = 6 ∧ ds = []) ∨ (t = some ds ∧ n = 0))
set_option maxRecDepth 20000 in
set_option maxHeartbeats 800000 in
theorem hopClo_any (ao : Option Addr) (cap : Nat) (xs : List UInt8) (w : World) (hx : Rd w ao xs) (hnil : ao = none → cap = 0) (hl : xs.length ≤ 140737488355328) :
    Calls Try.prog 32 #[.slice ao xs.length cap] w fun e w' => TurnV w w' w.heap.size (hopTurn xs) e ∧ Below w.heap.size w w' := by
  have HN : Hid (ao = none → cap = 0) := hnil
  clear hnil
  go_enter Try.func32, Try.ntmps32
  go_wp2_with fail
  refine (readHops_any ao cap xs w hx HN.out hl).mono ?_
  rintro e w1 ⟨rfl, hb1⟩
  obtain ⟨L, hL⟩ : ∃ L, L = (hopS xs).1 := ⟨_, rfl⟩
  obtain ⟨c, hc⟩ : ∃ c, c = (hopS xs).2.1 := ⟨_, rfl⟩
  obtain ⟨f, hf⟩ : ∃ f, f = (hopS xs).2.2 := ⟨_, rfl⟩
  obtain ⟨m, hm⟩ : ∃ m, m = c + 1 := ⟨_, rfl⟩
  have HT : Hid (hopTurn xs = if c = L then none else some (dgs [L, m])) := by unfold Hid hopTurn; rw [hm, hL, hc]
  have hL1 : L ≤ 255 := by rw [hL]; exact rNum_le_m _ _ _
  have hc1 : c ≤ L := by rw [hL, hc]; exact rNum_le_m _ _ _
  have hw : IntKind.u64.wrap ((c : Int) + 1) = (m : Int) := by rw [IntKind.wrap_u64]; omega
  have HNS : Hid (∀ n ∈ [L, m], n < 18446744073709551616) := by intro n hn; simp at hn; omega
  rw [← hL, ← hc, ← hf]
  clear hL hc hf hm
  obtain ⟨W1, hW1⟩ : ∃ W1 : World, W1 = w1.alloc (.cells #[.int .u64 L, .int .u64 c, .int .i64 f] 75) := ⟨_, rfl⟩
  have hX1 : W1.heap[w1.heap.size]? = some (.cells #[.int .u64 L, .int .u64 c, .int .i64 f] 75 (0, 0)) := by rw [hW1]; exact heap_alloc_new w1 _
  have hb1' : Below w1.heap.size w1 W1 := by rw [hW1]; exact al (Below.refl _ _) _
  have hbw := below_next hb1 hb1'
  have HS1 : Hid (w1.heap.size + 1 = W1.heap.size) := by unfold Hid; rw [hW1]; simp
  have x0 := fun (u : World) (hu : Below W1.heap.size W1 u) => (boxc3 (box_on hX1 hu)).1
  have x1 := fun (u : World) (hu : Below W1.heap.size W1 u) => (boxc3 (box_on hX1 hu)).2.1
  have y0 := (boxc3 hX1).1
  have y1 := (boxc3 hX1).2.1
  rw [hW1] at y0 y1
  by_cases he : c = L
  · have HT2 : Hid (hopTurn xs = none) := by unfold Hid; rw [HT.out, if_pos he]
    subst he
    go_wp2
    rw [← hW1]
    go_ret2
    exact ⟨⟨_, 6, [], rfl, World.ownsRow_nil _ _ _ _, .inl ⟨HT2.out, rfl, rfl⟩⟩, hbw⟩
  · have HT2 : Hid (hopTurn xs = some (dgs [L, m])) := by unfold Hid; rw [HT.out, if_neg he]
    clear hX1 HT
    go_wp2_with fail
    rw [← hW1]
    clear hW1
    obtain ⟨W2, hW2⟩ : ∃ W2 : World, W2 = W1.alloc (.cells #[.int .u64 L, .int .u64 m] 22) := ⟨_, rfl⟩
    rw [← hW2]
    have hb2 : Below W1.heap.size W1 W2 := by rw [hW2]; exact al (Below.refl _ _) _
    have hU : RdU W2 (some ⟨w1.heap.size + 1, 0, none⟩) [L, m] := by rw [hW2]; exact rdu_new W1 _ HS1.out _ _ _ _ rfl
    clear hW2
    refine (lay_any none 0 [] _ 2 2 [L, m] rfl _ (Rd.nil _ _) (fun _ => rfl) hU HNS.out (by simp) (by simp) (by simp)).mono ?_
    rintro e w5 ⟨v5, rfl, hown5, hb5⟩
    have HO5 : Hid _ := hown5
    clear hown5
    go_wp2
    go_ret2
    exact ⟨⟨_, 0, _, rfl, Own.base HO5.out (Nat.le_trans hbw.size hb2.size), .inr ⟨HT2.out, rfl⟩⟩, below_next hbw (below_next hb2 hb5)⟩
set_option maxRecDepth 20000 in
set_option maxHeartbeats 800000 in
theorem ageClo_any (ao : Option Addr) (cap : Nat) (xs : List UInt8) (t g : Nat) (w : World) (hx : Rd w ao xs) (hnil : ao = none → cap = 0) (hl : xs.length ≤ 140737488355328) (ht : t < 18446744073709551616) (hg : w.cell? ⟨g, 0, none⟩ = some (.int .u64 t)) :
    Calls Try.prog 34 #[.slice ao xs.length cap, .pointer (some ⟨g, 0, none⟩)] w fun e w' => TurnV w w' w.heap.size (ageTurn t xs) e ∧ Below w.heap.size w w' := by
  have HN : Hid (ao = none → cap = 0) := hnil
  clear hnil
  go_enter Try.func34, Try.ntmps34
  go_wp2_with fail
  refine (readAge_any ao cap xs w hx HN.out hl).mono ?_
  rintro e w1 ⟨rfl, hb1⟩
  obtain ⟨c, hc⟩ : ∃ c, c = (ageS xs).1 := ⟨_, rfl⟩
  obtain ⟨f, hf⟩ : ∃ f, f = (ageS xs).2 := ⟨_, rfl⟩
  obtain ⟨m, hm⟩ : ∃ m, m = c + t := ⟨_, rfl⟩
  obtain ⟨r, hr⟩ : ∃ r, r = 281474976710655 - c := ⟨_, rfl⟩
  have HT : Hid (ageTurn t xs = if r < t then none else some (dgs [m])) := by unfold Hid ageTurn; rw [hm, hr, hc]
  have hc1 : c ≤ 281474976710655 := by rw [hc]; exact rNum_le_m _ _ _
  have hw1 : IntKind.u64.wrap ((281474976710655 : Int) - (c : Int)) = (r : Int) := by rw [IntKind.wrap_u64]; omega
  rw [← hc, ← hf]
  obtain ⟨W1, hW1⟩ : ∃ W1 : World, W1 = w1.alloc (.cells #[.int .u64 c, .int .i64 f] 79) := ⟨_, rfl⟩
  have hX1 : W1.heap[w1.heap.size]? = some (.cells #[.int .u64 c, .int .i64 f] 79 (0, 0)) := by rw [hW1]; exact heap_alloc_new w1 _
  have hb1' : Below w1.heap.size w1 W1 := by rw [hW1]; exact al (Below.refl _ _) _
  have hbw := below_next hb1 hb1'
  have HS1 : Hid (w1.heap.size + 1 = W1.heap.size) := by unfold Hid; rw [hW1]; simp
  have x0 := fun (u : World) (hu : Below W1.heap.size W1 u) => (boxc2 (box_on hX1 hu)).1
  have hg1 := fun (u : World) (hu : Below W1.heap.size W1 u) => cell_on hu (cell_on hbw hg)
  have y0 := (boxc2 hX1).1
  have y1 := cell_on hbw hg
  rw [hW1] at y0 y1
  by_cases he : r < t
  · have HT2 : Hid (ageTurn t xs = none) := by unfold Hid; rw [HT.out, if_pos he]
    clear hc hf hm hr HT
    go_wp2
    rw [← hW1]
    go_ret2
    exact ⟨⟨_, 6, [], rfl, World.ownsRow_nil _ _ _ _, .inl ⟨HT2.out, rfl, rfl⟩⟩, hbw⟩
  · have HT2 : Hid (ageTurn t xs = some (dgs [m])) := by unfold Hid; rw [HT.out, if_neg he]
    have hw : IntKind.u64.wrap ((c : Int) + (t : Int)) = (m : Int) := by rw [IntKind.wrap_u64]; omega
    have HNS : Hid (∀ n ∈ [m], n < 18446744073709551616) := by intro n hn; simp at hn; omega
    clear hX1 HT hc hf hm hr hc1
    go_wp2_with fail
    rw [← hW1]
    clear hW1
    clear y0 y1
    obtain ⟨W2, hW2⟩ : ∃ W2 : World, W2 = W1.alloc (.cells #[.int .u64 m] 22) := ⟨_, rfl⟩
    rw [← hW2]
    have hb2 : Below W1.heap.size W1 W2 := by rw [hW2]; exact al (Below.refl _ _) _
    have hU : RdU W2 (some ⟨w1.heap.size + 1, 0, none⟩) [m] := by rw [hW2]; exact rdu_new W1 _ HS1.out _ _ _ _ rfl
    clear hW2
    refine (lay_any none 0 [] _ 1 1 [m] rfl _ (Rd.nil _ _) (fun _ => rfl) hU HNS.out (by simp) (by simp) (by simp)).mono ?_
    rintro e w5 ⟨v5, rfl, hown5, hb5⟩
    have HO5 : Hid _ := hown5
    clear hown5
    go_wp2
    go_ret2
    exact ⟨⟨_, 0, _, rfl, Own.base HO5.out (Nat.le_trans hbw.size hb2.size), .inr ⟨HT2.out, rfl⟩⟩, below_next hbw (below_next hb2 hb5)⟩
end Go.Proofs.Ytdpkommmkcmifab
