import Derived.Test.YtnhjkipaclchiabQGr
namespace Go.Proofs.Ytnhjkipaclchiab
set_option linter.unusedVariables false
set_option linter.unusedSimpArgs false
open Go.RowKit Go.Shelf
section
set_option maxRecDepth 20000
set_option maxHeartbeats 3200000
/-- Least of an index of no pages -/
theorem least0_t (x : Value) (pa : Option Addr) (cap : Nat) (hpa : (pa = none ∧ cap = 0) ∨ (∃ b o, pa = some ⟨b, o, none⟩)) (s1 s2 : Nat) (w : World) (hx : PgV w x pa 0 cap) :
    Calls Try.prog 20 #[x, sv (s1, s2)] w fun e w' => e = .returned (.tuple #[sv (0, 0), .int .u64 0, .bool false]) ∧ Below w.heap.size w w' := by
  obtain ⟨w1, hw1⟩ : ∃ X : World, X = (w.alloc (.cells #[.int .u64 (s1 : Int), .int .u64 (s2 : Int)] tSt)).alloc (.cells #[.int .u64 0, .int .u64 0] tSt) := ⟨_, rfl⟩
  have hb1 : Below w.heap.size w w1 := by rw [hw1]; exact al (al (Below.refl _ _) _) _
  have HFR : Hid _ := from0_t x pa cap hpa s1 s2 w1 (hx.below hb1)
  have hr1 : w1.heap[w.heap.size + 1]? = some (.cells #[.int .u64 0, .int .u64 0] tSt (0, 0)) := by rw [hw1]; exact (two_new w _ _).2
  have HB1 : Hid (Below w.heap.size w w1) := hb1
  have HR1 : Hid _ := hr1
  clear hx hb1 hr1
  go_enter Try.func20, Try.ntmps20
  go_wp2_with fail
  rw [← hw1]
  refine Calls.mono HFR.out ?_
  rintro e w2 ⟨rfl, hb2⟩
  have HB2 : Hid (Below w.heap.size w w2) := below_next HB1.out hb2
  have HR2 : Hid (w2.heap[w.heap.size + 1]? = some (.cells #[.int .u64 0, .int .u64 0] tSt (0, 0))) := (hb2.block (w.heap.size + 1) (Array.getElem?_eq_some_iff.1 HR1.out).1).trans HR1.out
  have HRI : Hid (Calls Try.prog 43 #[.slice pa 0 cap, .int .i64 0] w2 fun e w' => e = .returned (.func (.func 62) #[] #[.pointer (some ⟨w2.heap.size, 0, none⟩), .pointer (some ⟨w2.heap.size + 1, 0, none⟩)]) ∧ w' = (w2.alloc (.cells #[.slice pa 0 cap] tPs)).alloc (.cells #[.int .i64 0] 3)) := rising_t pa 0 cap 0 w2
  obtain ⟨w3, hw3⟩ : ∃ X : World, X = (w2.alloc (.cells #[.slice pa 0 cap] tPs)).alloc (.cells #[.int .i64 0] 3) := ⟨_, rfl⟩
  have hb3 : Below w2.heap.size w2 w3 := by rw [hw3]; exact al (al (Below.refl _ _) _) _
  have hz2 := two_new w2 (.cells #[.slice pa 0 cap] tPs) (.cells #[.int .i64 0] 3)
  rw [← hw3] at hz2
  have hc2 : w3.cell? ⟨w2.heap.size, 0, none⟩ = some (.slice pa 0 cap) := by rw [cell_of_row _ _ _ _ _ _ hz2.1]; rfl
  have hc3 : w3.cell? ⟨w2.heap.size + 1, 0, none⟩ = some (.int .i64 0) := by rw [cell_of_row _ _ _ _ _ _ hz2.2]; rfl
  have HFO : Hid _ := callsIn_wide.1 (firstOf_in Fence.wide 4 trivial trivial rfl (by decide) w2.heap.size (w2.heap.size + 1) [] w3 (fun u hu => by
    have hseq := rising_stops Fence.wide 3 trivial rfl (by decide) w2.heap.size (w2.heap.size + 1) [] 0 pa 0 cap rfl (by decide) (fun q hq => by cases hq) (Nat.zero_le _) (fun _ => none) (fun _ => 0) (fun q hq => by cases hq) w3 (fun j hj => absurd hj (Nat.not_lt_zero _)) hc2 hc3
    exact fun l J Jx W hW hJ hJx hY h0 => hseq l J Jx W (hu.trans (hW.mono hu.size)) hJ hJx hY h0))
  have HB3 : Hid (Below w.heap.size w w3) := below_next HB2.out hb3
  have HR3 : Hid (w3.heap[w.heap.size + 1]? = some (.cells #[.int .u64 0, .int .u64 0] tSt (0, 0))) := (hb3.block (w.heap.size + 1) (Array.getElem?_eq_some_iff.1 HR2.out).1).trans HR2.out
  clear hb2 hw1 hb3 hz2 hc2 hc3 HFR
  go_wp2_with fail
  refine Calls.mono HRI.out ?_
  rintro e z ⟨rfl, hz⟩
  rw [← hw3] at hz
  subst hz
  clear hw3
  go_wp2_with fail
  refine Calls.mono HFO.out ?_
  rintro e w4 ⟨⟨s, v, ok, rfl, hcase⟩, hb4⟩
  have hr4 : w4.heap[w.heap.size + 1]? = some (.cells #[.int .u64 0, .int .u64 0] tSt (0, 0)) := (hb4.block (w.heap.size + 1) (Array.getElem?_eq_some_iff.1 HR3.out).1).trans HR3.out
  have HB4 : Hid (Below w.heap.size w w4) := below_next HB3.out hb4
  obtain ⟨rfl, rfl, rfl⟩ : s = (0, 0) ∧ v = .int .u64 0 ∧ ok = false := by
    rcases hcase with ⟨-, h8, h7, h6⟩ | ⟨y, h8, -⟩
    · exact ⟨h8, h7, h6⟩
    · cases h8
  clear hcase hb4
  go_wp2_with (first | (refine wpList_store_row rfl tSt _ _ rfl (w.heap.size + 1) #[.int .u64 0, .int .u64 0] rfl rfl tSt _ hr4 info_st rfl (by simp [Value.oneCell']) ?_))
  refine bodyPost_ret (results_ctt rfl _ _ (w.heap.size + 1) tSt #[.int .u64 0, .int .u64 0] (0, 0) _ rfl (setRow_heap w4 (w.heap.size + 1) _ _ tSt _ hr4) Try.underlying33 rfl info_st) rfl ?_
  exact ⟨rfl, below_setRow HB4.out (Nat.le_succ _) _⟩
/-- Greatest of an index of no pages -/
theorem greatest0_t (x : Value) (pa : Option Addr) (cap : Nat) (hpa : (pa = none ∧ cap = 0) ∨ (∃ b o, pa = some ⟨b, o, none⟩)) (s1 s2 : Nat) (w : World) (hx : PgV w x pa 0 cap) :
    Calls Try.prog 28 #[x, sv (s1, s2)] w fun e w' => e = .returned (.tuple #[sv (0, 0), .int .u64 0, .bool false]) ∧ Below w.heap.size w w' := by
  obtain ⟨w1, hw1⟩ : ∃ X : World, X = (w.alloc (.cells #[.int .u64 (s1 : Int), .int .u64 (s2 : Int)] tSt)).alloc (.cells #[.int .u64 0, .int .u64 0] tSt) := ⟨_, rfl⟩
  have hb1 : Below w.heap.size w w1 := by rw [hw1]; exact al (al (Below.refl _ _) _) _
  have HFR : Hid _ := upTo0_t x pa cap hpa s1 s2 w1 (hx.below hb1)
  have hr1 : w1.heap[w.heap.size + 1]? = some (.cells #[.int .u64 0, .int .u64 0] tSt (0, 0)) := by rw [hw1]; exact (two_new w _ _).2
  have HB1 : Hid (Below w.heap.size w w1) := hb1
  have HR1 : Hid _ := hr1
  clear hx hb1 hr1
  go_enter Try.func28, Try.ntmps28
  go_wp2_with fail
  rw [← hw1]
  refine Calls.mono HFR.out ?_
  rintro e w2 ⟨rfl, hb2⟩
  have HB2 : Hid (Below w.heap.size w w2) := below_next HB1.out hb2
  have HR2 : Hid (w2.heap[w.heap.size + 1]? = some (.cells #[.int .u64 0, .int .u64 0] tSt (0, 0))) := (hb2.block (w.heap.size + 1) (Array.getElem?_eq_some_iff.1 HR1.out).1).trans HR1.out
  have HRI : Hid (Calls Try.prog 47 #[.slice pa 0 cap, .int .i64 0] w2 fun e w' => e = .returned (.func (.func 63) #[] #[.pointer (some ⟨w2.heap.size, 0, none⟩), .pointer (some ⟨w2.heap.size + 1, 0, none⟩)]) ∧ w' = (w2.alloc (.cells #[.slice pa 0 cap] tPs)).alloc (.cells #[.int .i64 0] 3)) := falling_t pa 0 cap 0 w2
  obtain ⟨w3, hw3⟩ : ∃ X : World, X = (w2.alloc (.cells #[.slice pa 0 cap] tPs)).alloc (.cells #[.int .i64 0] 3) := ⟨_, rfl⟩
  have hb3 : Below w2.heap.size w2 w3 := by rw [hw3]; exact al (al (Below.refl _ _) _) _
  have hz2 := two_new w2 (.cells #[.slice pa 0 cap] tPs) (.cells #[.int .i64 0] 3)
  rw [← hw3] at hz2
  have hc2 : w3.cell? ⟨w2.heap.size, 0, none⟩ = some (.slice pa 0 cap) := by rw [cell_of_row _ _ _ _ _ _ hz2.1]; rfl
  have hc3 : w3.cell? ⟨w2.heap.size + 1, 0, none⟩ = some (.int .i64 0) := by rw [cell_of_row _ _ _ _ _ _ hz2.2]; rfl
  have HFO : Hid _ := callsIn_wide.1 (firstOf_G 12 (by decide) w2.heap.size (w2.heap.size + 1) 0 [] w3 (fun u hu => by
    have hku : ∀ v, KeepZ (fun k => k < w3.heap.size) u v → ∀ k, k < w3.heap.size → v.heap[k]? = w3.heap[k]? := fun v hv k hk => (hv k hk).trans (hu.block k hk)
    refine (falling_G 11 (by decide) w2.heap.size (w2.heap.size + 1) [] 0 0 cap pa (fun _ => none) (fun _ => 0) (fun k => k < w3.heap.size) u rfl (by decide) (fun q hq => by cases hq) (fun q hq => by cases hq) (Nat.zero_le _) 0 (fun k hk => absurd hk (Nat.not_lt_zero _)) (fun k hk => Nat.lt_of_lt_of_le hk hu.size) (fun v hv => ⟨fun j hj => absurd hj (Nat.not_lt_zero _), cell_heap hc2 (hku v hv _ (World.block_lt_of_cell? w3 _ hc2)), cell_heap hc3 (hku v hv _ (World.block_lt_of_cell? w3 _ hc3))⟩)).imp ?_ ?_
    · rintro xs ⟨ps, -, rfl⟩
      cases ps with
      | nil => rfl
      | cons x ps => exact x.elim0
    · rintro xs ⟨ps, x, k, -, -⟩
      exact x.elim0))
  have HB3 : Hid (Below w.heap.size w w3) := below_next HB2.out hb3
  have HR3 : Hid (w3.heap[w.heap.size + 1]? = some (.cells #[.int .u64 0, .int .u64 0] tSt (0, 0))) := (hb3.block (w.heap.size + 1) (Array.getElem?_eq_some_iff.1 HR2.out).1).trans HR2.out
  clear hb2 hw1 hb3 hz2 hc2 hc3 HFR
  go_wp2_with fail
  refine Calls.mono HRI.out ?_
  rintro e z ⟨rfl, hz⟩
  rw [← hw3] at hz
  subst hz
  clear hw3
  go_wp2_with fail
  refine Calls.mono HFO.out ?_
  rintro e w4 ⟨⟨s, v, ok, rfl, hcase⟩, hb4⟩
  have hr4 : w4.heap[w.heap.size + 1]? = some (.cells #[.int .u64 0, .int .u64 0] tSt (0, 0)) := (hb4.block (w.heap.size + 1) (Array.getElem?_eq_some_iff.1 HR3.out).1).trans HR3.out
  have HB4 : Hid (Below w.heap.size w w4) := below_next HB3.out hb4
  obtain ⟨rfl, rfl, rfl⟩ : s = (0, 0) ∧ v = .int .u64 0 ∧ ok = false := by
    rcases hcase with ⟨-, h8, h7, h6⟩ | ⟨y, h8, -⟩
    · exact ⟨h8, h7, h6⟩
    · cases h8
  clear hcase hb4
  go_wp2_with (first | (refine wpList_store_row rfl tSt _ _ rfl (w.heap.size + 1) #[.int .u64 0, .int .u64 0] rfl rfl tSt _ hr4 info_st rfl (by simp [Value.oneCell']) ?_))
  refine bodyPost_ret (results_ctt rfl _ _ (w.heap.size + 1) tSt #[.int .u64 0, .int .u64 0] (0, 0) _ rfl (setRow_heap w4 (w.heap.size + 1) _ _ tSt _ hr4) Try.underlying33 rfl info_st) rfl ?_
  exact ⟨rfl, below_setRow HB4.out (Nat.le_succ _) _⟩
end
end Go.Proofs.Ytnhjkipaclchiab
