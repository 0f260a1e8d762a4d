import Derived.Test.YtnhjkipaclchiaaQO
namespace Go.Proofs.Ytnhjkipaclchiaa
set_option linter.unusedVariables false
set_option linter.unusedSimpArgs false
open Go.RowKit Go.Shelf
theorem place_one {xs : List Ent} {s : St} {i : Nat} {ok : Bool} (h : Found xs.length (pr2 xs s) i) (hok : ok = true ↔ ∃ h : i < xs.length, xs[i].st = s) : PlaceIs [xs] s 0 i ok := by
  refine .inr ?_
  cases hp : pr1 [xs] s 0
  · refine ⟨1, ⟨Nat.le_refl _, fun k hk => ?_, fun k h1 h2 => ?_⟩, rfl, Nat.zero_lt_one, h, hok⟩
    · obtain rfl : k = 0 := by omega
      exact hp
    · simp at h2; omega
  · refine ⟨0, ⟨Nat.zero_le _, fun k hk => absurd hk (Nat.not_lt_zero _), fun k h1 h2 => ?_⟩, rfl, Nat.zero_lt_one, h, hok⟩
    have : k = 0 := by simp at h2; omega
    subst this
    exact hp
abbrev e20 : Ent := ⟨(2, 0), 20⟩
abbrev e10 : Ent := ⟨(1, 0), 10⟩
abbrev e11 : Ent := ⟨(1, 1), 11⟩
theorem pl1 : PlaceIs [[e20]] (1, 0) 0 0 false := place_one ⟨by decide, fun k hk => absurd hk (Nat.not_lt_zero _), fun k h1 h2 => by
  have : k = 0 := by simp at h2; omega
  subst this; rfl⟩ ⟨fun h => (by cases h), fun ⟨_, h⟩ => (by simp at h)⟩
theorem pl2 : PlaceIs [[e10, e20]] (1, 1) 0 1 false := place_one ⟨by decide, fun k hk => by
  have : k = 0 := by omega
  subst this; rfl, fun k h1 h2 => by
  have : k = 1 := by simp at h2; omega
  subst this; rfl⟩ ⟨fun h => (by cases h), fun ⟨_, h⟩ => (by simp at h)⟩
theorem pl3 : PlaceIs [[e10, e11, e20]] (1, 1) 0 1 true := place_one ⟨by decide, fun k hk => by
  have : k = 0 := by omega
  subst this; rfl, fun k h1 h2 => by
  have : k = 1 ∨ k = 2 := by simp at h2; omega
  rcases this with rfl | rfl <;> rfl⟩ ⟨fun _ => ⟨by decide, rfl⟩, fun _ => rfl⟩
theorem sp1 : SP [[e20]] := ⟨by simp, by decide⟩
theorem sp2 : SP [[e10, e20]] := ⟨by simp, by decide⟩
theorem sp3 : SP [[e10, e11, e20]] := ⟨by simp, by decide⟩
theorem eqi_func_nil (w : World) (fuel : Nat) (fn : Fn) (a b : Array Value) : (Op.equalIn (fuel + 1) 57 (.func fn a b) .nilFunc).run Try.prog w = .ok false w := by
  simp [Op.equalIn, run_underlying Try.underlying57]
theorem eql_func_nil (w : World) (fn : Fn) (a b : Array Value) : (binOp .eql 57 (.func fn a b) .nilFunc).run Try.prog w = .ok (.bool false) w := by
  simp only [binOp]
  simp [Op.equal, Op.maxDepth, eqi_func_nil w 9999 fn a b]
section
set_option maxRecDepth 20000
set_option maxHeartbeats 3200000
theorem small_t (w : World) : Calls Try.prog 11 #[] w fun e w' => e = .returned (.bool true) ∧ Below w.heap.size w w' := by
  have H1 : Hid (Calls Try.prog 12 #[.int .i64 4] w fun er w' => er = .returned (.tuple #[.pointer (some ⟨w.heap.size, 0, none⟩), .int .i64 0]) ∧ IdxAt w' w.heap.size 4 [] (.slice none 0 0) [] ∧ Below w.heap.size w w') := newU_t 4 (by decide) w
  have hefn := eql_func_nil
  go_enter Try.func11, Try.ntmps11
  go_wp2_with fail
  refine Calls.mono H1.out ?_
  rintro e w1 ⟨rfl, hi1, hb1⟩
  obtain ⟨g, hg⟩ : ∃ g, g = w.heap.size := ⟨_, rfl⟩
  rw [← hg] at hi1 ⊢
  have HG : Hid (g = w.heap.size) := hg
  have HI1 : Hid (IdxAt w1 g 4 [] (.slice none 0 0) []) := hi1
  have HB1 : Hid (Below w.heap.size w w1) := hb1
  have H2 : Hid _ := num_t 0 w1
  have H3 : Hid (Calls Try.prog 28 #[.pointer (some ⟨g, 0, none⟩), .agg #[.int .u64 0, .int .u64 0]] w1 fun er w' => ∃ lb, er = .returned (.func (.func 52) #[] lb) ∧ Below w1.heap.size w1 w') := (up_t (.pointer (some ⟨g, 0, none⟩)) rfl _ rfl 0 0 w1).mono fun e w' ⟨h1, h2⟩ => ⟨_, h1, by rw [h2]; exact al (al (Below.refl _ _) _) _⟩
  clear hi1 hb1 hg H1
  go_wp2_with fail
  refine Calls.mono H2.out ?_
  rintro e z ⟨rfl, hz⟩
  have hz := hz.symm
  subst hz
  go_wp2_with fail
  refine Calls.mono H3.out ?_
  rintro e w2 ⟨lb, rfl, hb2⟩
  have HI2 : Hid (IdxAt w2 g 4 [] (.slice none 0 0) []) := HI1.out.below hb2
  have HB2 : Hid (Below w.heap.size w w2) := below_next HB1.out hb2
  have H4 : Hid (Calls Try.prog 29 #[.pointer (some ⟨g, 0, none⟩), .agg #[.int .u64 0, .int .u64 0]] w2 fun er w' => ∃ lb, er = .returned (.func (.func 56) #[] lb) ∧ Below w2.heap.size w2 w') := (down_t (.pointer (some ⟨g, 0, none⟩)) rfl _ rfl 0 0 w2).mono fun e w' ⟨h1, h2⟩ => ⟨_, h1, by rw [h2]; exact al (al (Below.refl _ _) _) _⟩
  clear hb2 H2 H3 HI1 HB1
  go_wp2_with fail
  refine Calls.mono H4.out ?_
  rintro e w3 ⟨lb2, rfl, hb3⟩
  have HI3 : Hid (IdxAt w3 g 4 [] (.slice none 0 0) []) := HI2.out.below hb3
  have HB3 : Hid (Below w.heap.size w w3) := below_next HB2.out hb3
  have H5 : Hid (Calls Try.prog 13 #[.pointer (some ⟨g, 0, none⟩), .agg #[.int .u64 2, .int .u64 0], .int .u64 20] w3 fun e w' => e = .returned (.bool true) ∧ (∃ v' vs', IdxAt w' g 4 [[e20]] v' vs' ∧ (v'.ownBlock = (Value.slice none 0 0).ownBlock ∨ ∃ b, v'.ownBlock = some b ∧ w3.heap.size ≤ b)) ∧ Chg (foot g (.slice none 0 0)) w3 w') := put_first HI3.out (by decide) 2 0 20
  clear hb3 H4 HI2 HB2
  go_wp2_with fail
  refine Calls.mono H5.out ?_
  rintro e w4 ⟨rfl, ⟨v4, vs4, hi4, hl4⟩, hch4⟩
  have HI4 : Hid (IdxAt w4 g 4 [[e20]] v4 vs4) := hi4
  have HB4 : Hid (Below w.heap.size w w4) := HB3.out.trans (hch4.below (fun i hi => by rcases hi with e | e; rw [e, HG.out]; exact Nat.le_refl _; cases e) HB3.out.size)
  have HV4 : Hid (∀ b, v4.ownBlock = some b → w.heap.size ≤ b) := fun b hb => by
    rcases hl4 with e | ⟨b', e, h9⟩
    · rw [e] at hb; cases hb
    · rw [e] at hb; cases hb; exact Nat.le_trans HB3.out.size h9
  have H6 : Hid (Calls Try.prog 13 #[.pointer (some ⟨g, 0, none⟩), .agg #[.int .u64 1, .int .u64 0], .int .u64 10] w4 fun e w' => e = .returned (.bool true) ∧ (∃ vs', IdxAt w' g 4 [[e10, e20]] v4 vs') ∧ Chg (foot g v4) w4 w') := put_in HI4.out sp1 (by decide) (by decide) (by simp) 1 0 10 0 0 false pl1 (by decide) (by decide)
  clear hi4 hl4 hch4 H5 HI3 HB3
  go_wp2_with fail
  refine Calls.mono H6.out ?_
  rintro e w5 ⟨rfl, ⟨vs5, hi5⟩, hch5⟩
  have HI5 : Hid (IdxAt w5 g 4 [[e10, e20]] v4 vs5) := hi5
  have HB5 : Hid (Below w.heap.size w w5) := HB4.out.trans (hch5.below (fun i hi => by rcases hi with e | e; rw [e, HG.out]; exact Nat.le_refl _; exact HV4.out i e) HB4.out.size)
  have H7 : Hid (Calls Try.prog 13 #[.pointer (some ⟨g, 0, none⟩), .agg #[.int .u64 1, .int .u64 1], .int .u64 11] w5 fun e w' => e = .returned (.bool true) ∧ (∃ vs', IdxAt w' g 4 [[e10, e11, e20]] v4 vs') ∧ Chg (foot g v4) w5 w') := put_in HI5.out sp2 (by decide) (by decide) (by simp) 1 1 11 0 1 false pl2 (by decide) (by decide)
  clear hi5 hch5 H6 HI4 HB4
  go_wp2_with fail
  refine Calls.mono H7.out ?_
  rintro e w6 ⟨rfl, ⟨vs6, hi6⟩, hch6⟩
  have HI6 : Hid (IdxAt w6 g 4 [[e10, e11, e20]] v4 vs6) := hi6
  have HB6 : Hid (Below w.heap.size w w6) := HB5.out.trans (hch6.below (fun i hi => by rcases hi with e | e; rw [e, HG.out]; exact Nat.le_refl _; exact HV4.out i e) HB5.out.size)
  obtain ⟨pa, cap, hv, hcap, hnil, hrd, hpg⟩ := hi6.rd
  obtain ⟨b, o, hpa, -⟩ := hrd 0 (by decide)
  subst hpa
  have H8 : Hid (Calls Try.prog 33 #[.pointer (some ⟨g, 0, none⟩), .agg #[.int .u64 1, .int .u64 1]] w6 fun e w' => e = .returned (.tuple #[.agg #[.int .u64 1, .int .u64 1], .int .u64 11, .bool true]) ∧ Below w6.heap.size w6 w') := (least_t (.pointer (some ⟨g, 0, none⟩)) b o 1 cap [[e10, e11, e20]] 1 1 w6 hpg rfl hcap (by decide) hrd sp3 (by decide) (by simp)).mono fun e w' ⟨p, i, ok0, s, v, ok, h1, h2, h3, h4⟩ => by
    obtain ⟨rfl, rfl, rfl⟩ := h2.uniq pl3
    refine ⟨?_, h4⟩
    rcases h3 with ⟨h5, -⟩ | ⟨y, h5, rfl, rfl, rfl⟩
    · simp at h5
    · simp at h5; subst h5; rw [h1]; rfl
  clear hi6 hch6 H7 HI5 HB5 hv hcap hnil hrd hpg
  go_wp2_with fail
  refine Calls.mono H8.out ?_
  rintro e w7 ⟨rfl, hb7⟩
  obtain ⟨w8, hw8⟩ : ∃ X : World, X = w7.alloc (.cells #[.int .u64 1, .int .u64 1] tSt) := ⟨_, rfl⟩
  have hb8 : Below w7.heap.size w7 w8 := by rw [hw8]; exact al (Below.refl _ _) _
  have HI8 : Hid (IdxAt w8 g 4 [[e10, e11, e20]] v4 vs6) := HI6.out.below (below_next hb7 hb8)
  have HB8 : Hid (Below w.heap.size w w8) := below_next HB6.out (below_next hb7 hb8)
  obtain ⟨pa, cap, hv, hcap, hnil, hrd, hpg⟩ := HI8.out.rd
  have H9 : Hid (Calls Try.prog 23 #[.pointer (some ⟨g, 0, none⟩)] w8 fun e w' => e = .returned (.int .i64 3) ∧ w' = w8) := len_t (.pointer (some ⟨g, 0, none⟩)) pa 1 cap [[e10, e11, e20]] w8 hpg rfl hrd (by decide) (by simp)
  clear hb7 hb8 H8 HI6 HB6 hv hcap hnil hrd hpg HI8
  go_wp2_with fail
  (try rw [← hw8])
  refine Calls.mono H9.out ?_
  rintro e z ⟨rfl, hz⟩
  have hz := hz.symm
  subst hz
  go_wp2
  go_ret
  exact ⟨rfl, by rw [← hw8]; exact HB8.out⟩
end
end Go.Proofs.Ytnhjkipaclchiaa
