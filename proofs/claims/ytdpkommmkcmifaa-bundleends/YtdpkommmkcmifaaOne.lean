import Derived.Test.YtdpkommmkcmifaaWr
import Derived.Test.YtdpkommmkcmifaaRead
import Derived.Test.YtdpkommmkcmifaaNumb
namespace Go.Proofs.Ytdpkommmkcmifaa
set_option linter.unusedVariables false
set_option linter.unusedSimpArgs false
open Go.RowKit
def zeroB : Bun := ⟨0, 0, 0, 0, 0, 0, 0, 0, 0, 0, [], []⟩
theorem zeroB_R (w : World) : BunR w zeroB none 0 none 0 :=
  ⟨fun h => absurd h (Nat.lt_irrefl 0), Nat.le_refl _, fun _ => rfl, Rd.nil _ _, Nat.le_refl _, fun _ => rfl, ⟨by decide, by decide, by decide, by decide, by decide, by decide, by decide, by decide, by decide, by decide, fun x hx => (by cases hx), by decide, by decide⟩⟩
theorem ValidIs.same {b : Bun} {m n : Int} (h : ValidIs b m) (k : ValidIs b n) : m = n := by
  rcases h with ⟨h1, h2⟩ | ⟨h1, h2⟩ <;> rcases k with ⟨k1, k2⟩ | ⟨k1, k2⟩
  · rw [h2, k2]
  · exact absurd k1 h1
  · exact absurd h1 k1
  · rw [h2, k2]
end Go.Proofs.Ytdpkommmkcmifaa
namespace Go.Proofs.Ytdpkommmkcmifaa
set_option linter.unusedVariables false
set_option linter.unusedSimpArgs false
open Go.RowKit
/-- what Decode answers -/
def decS (xs : List UInt8) : Bun × Int :=
  if 1024 < xs.length then (zeroB, 81) else if rEnd (readS (xs, 0)).2.1 (readS (xs, 0)).2.2 = 0 then ((readS (xs, 0)).1, 0) else (zeroB, rEnd (readS (xs, 0)).2.1 (readS (xs, 0)).2.2)
theorem bunR_of {w : World} {B : Nat} {o : Bun} {a pa : Option Addr} {c pc : Nat} (h1 : RowB w B (.slice a o.bl.length c) o.bl) (h2 : Own w B (.slice pa o.py.length pc) o.py) (h3 : o.ok) : BunR w o a c pa pc := by
  obtain ⟨k1, k2, k3, -⟩ := h1.rd
  obtain ⟨aq, cq, hv, hl, -, hn, hr, -⟩ := h2.val
  simp only [Value.slice.injEq, true_and] at hv
  obtain ⟨rfl, rfl⟩ := hv
  exact ⟨k1, k2, k3, hr, hl, hn, h3⟩
/-- what Decode answers, with its memory -/
def DecOut (w w' : World) (xs : List UInt8) (e : Ending) : Prop :=
  ∃ o a c pa pc n, e = .returned (.tuple #[bunV o a c pa pc, .int .i64 n]) ∧ decS xs = (o, n) ∧ RowB w' w.heap.size (.slice a o.bl.length c) o.bl ∧ Own w' w.heap.size (.slice pa o.py.length pc) o.py ∧ o.ok
theorem RowB.base {w : World} {B B' : Nat} {v : Value} {l : List Blk} (h : RowB w B v l) (hB : B' ≤ B) : RowB w B' v l := by
  obtain ⟨cells, h1, h2⟩ := h
  refine ⟨cells, ⟨h1.1, ?_⟩, fun j hj => ?_⟩
  · rcases h1.2 with h0 | ⟨g, cap, cur, hv, hg, r⟩
    · exact .inl h0
    · exact .inr ⟨g, cap, cur, hv, Nat.le_trans hB hg, r⟩
  · obtain ⟨a, c, k0, k1, k2, k3, k4, k5⟩ := h2 j hj
    exact ⟨a, c, k0, k1, k2, k3, k4.base hB, k5⟩
set_option maxRecDepth 20000 in
set_option maxHeartbeats 1600000 in
theorem decode_any (ao : Option Addr) (cap : Nat) (xs : List UInt8) (w : World) (hx : Rd w ao xs) (hnil : ao = none → cap = 0) (hl : xs.length ≤ 140737488355328) :
    Calls Try.prog 19 #[.slice ao xs.length cap] w fun e w' => DecOut w w' xs e ∧ Below w.heap.size w w' := by
  have HN : Hid (ao = none → cap = 0) := hnil
  clear hnil
  obtain ⟨W0, hW0⟩ : ∃ W0 : World, W0 = w.alloc (.cells #[.int .u64 0, .int .u64 0, .int .u64 0, .int .u64 0, .int .u64 0, .int .u64 0, .int .u64 0, .int .u64 0, .int .u64 0, .int .u64 0, .slice none 0 0, .slice none 0 0] 34) := ⟨_, rfl⟩
  have hR : W0.heap[w.heap.size]? = some (.cells #[.int .u64 0, .int .u64 0, .int .u64 0, .int .u64 0, .int .u64 0, .int .u64 0, .int .u64 0, .int .u64 0, .int .u64 0, .int .u64 0, .slice none 0 0, .slice none 0 0] 34 (0, 0)) := by rw [hW0]; exact heap_alloc_new w _
  have hb0 : Below w.heap.size w W0 := by rw [hW0]; exact al (Below.refl _ _) _
  have hs0 : w.heap.size < W0.heap.size := (Array.getElem?_eq_some_iff.1 hR).1
  by_cases h1 : 1024 < xs.length
  · have HD : Hid (decS xs = (zeroB, 81)) := by unfold Hid decS; rw [if_pos h1]
    go_enter Try.func19, Try.ntmps19
    go_wp2
    refine bodyPost_ret (results_ct rfl _ _ w.heap.size 34 _ (0, 0) _ rfl (heap_alloc_new w _) Try.underlying34 rfl (by kernel_rfl)) rfl ?_
    exact ⟨⟨zeroB, none, 0, none, 0, 81, rfl, HD.out, RowB.nil _ _, World.ownsRow_nil _ _ _ _, (zeroB_R w).ok⟩, al (Below.refl _ _) _⟩
  have h1I : ¬ (1024 : Int) < (xs.length : Int) := by omega
  obtain ⟨o, y, g, eR⟩ : ∃ o y g, readS (xs, 0) = (o, y, g) := ⟨_, _, _, rfl⟩
  have HD : Hid (decS xs = if rEnd y g = 0 then (o, 0) else (zeroB, rEnd y g)) := by unfold Hid decS; rw [if_neg h1, eR]
  go_enter Try.func19, Try.ntmps19
  go_wp2_with fail
  rw [← hW0]
  clear hW0
  refine (new_s ao cap xs W0 (hx.below hb0) HN.out hl).mono ?_
  rintro e w1 ⟨p, rfl, hrs, hb1⟩
  have hR := box_on hR hb1
  have hbw := below_next hb0 hb1
  have hpge := hrs.ge
  have hplt := hrs.lt
  go_wp2_with fail
  refine (read_t w1 hrs eR).mono ?_
  rintro e w2 ⟨⟨a, c, pa, pc, rfl, hrow, hown, hok, hl8⟩, hrs, hg⟩
  unfold bunV
  have hR := gr_box hg (by omega) hR
  have hbw : Below w.heap.size w w2 := hbw.grown hg hbw.size (fun q hq => by cases hq; omega)
  have hs1 := hb1.size
  obtain ⟨W2, hW2⟩ : ∃ W2 : World, W2 = w2.alloc (.cells #[.int .u64 o.fl, .int .u64 o.e0, .int .u64 o.e1, .int .u64 o.e2, .int .u64 o.e3, .int .u64 o.e4, .int .u64 o.e5, .int .u64 o.tm, .int .u64 o.sq, .int .u64 o.lf, .slice a o.bl.length c, .slice pa o.py.length pc] 34) := ⟨_, rfl⟩
  have hX2 : W2.heap[w2.heap.size]? = some (.cells #[.int .u64 o.fl, .int .u64 o.e0, .int .u64 o.e1, .int .u64 o.e2, .int .u64 o.e3, .int .u64 o.e4, .int .u64 o.e5, .int .u64 o.tm, .int .u64 o.sq, .int .u64 o.lf, .slice a o.bl.length c, .slice pa o.py.length pc] 34 (0, 0)) := by rw [hW2]; exact heap_alloc_new w2 _
  have hb2 : Below w2.heap.size w2 W2 := by rw [hW2]; exact al (Below.refl _ _) _
  have hR := box_on hR hb2
  have hbw := below_next hbw hb2
  have HROW : Hid (RowB W2 (w1.heap.size + 1) (.slice a o.bl.length c) o.bl) := hrow.below hb2
  have HOWN : Hid (Own W2 (w1.heap.size + 1) (.slice pa o.py.length pc) o.py) := hown.below hb2
  have hrs := hrs.below hb2
  have hplt2 := hg.size
  have HOK : Hid o.ok := hok
  clear hrow hown hok hl8 hg hx
  go_wp2_with fail
  rw [← hW2]
  clear hW2
  refine (end_s W2 hrs).mono ?_
  rintro e w3 ⟨rfl, hrs3, hg3⟩
  have hR := gr_box hg3 (by omega) hR
  have hX3 := gr_box hg3 (show w2.heap.size ≠ p by omega) hX2
  have hbw : Below w.heap.size w w3 := hbw.grown hg3 hbw.size (fun q hq => by cases hq; omega)
  have HROW3 : Hid (RowB w3 (w1.heap.size + 1) (.slice a o.bl.length c) o.bl) := HROW.out.grown hg3 (by omega)
  have HOWN3 : Hid (Own w3 (w1.heap.size + 1) (.slice pa o.py.length pc) o.py) := Own.grown HOWN.out hg3 (by
    cases e : (Value.slice pa o.py.length pc).ownBlock with
    | none => left; rfl
    | some q => right; have := (World.ownsRow.lt HOWN.out q e).1; simp; omega)
  obtain ⟨n, hn⟩ : ∃ n, n = rEnd y g := ⟨_, rfl⟩
  rw [← hn] at HD
  rw [← hn]
  clear hn hrs3 hrs hg3 HROW HOWN
  obtain ⟨r0, r1, r2, r3, r4, r5, r6, r7, r8, r9, r10, r11, g0, g1, g2, g3, g4, g5, g6, g7, g8, g9, g10, g11⟩ := cells12 hR
  by_cases h0 : n = 0
  rotate_left
  · have HD2 : Hid (decS xs = (zeroB, n)) := by unfold Hid; rw [HD.out, if_neg h0]
    go_wp2
    have hfin := heap_set12 (v0 := .int .u64 0) (v1 := .int .u64 0) (v2 := .int .u64 0) (v3 := .int .u64 0) (v4 := .int .u64 0) (v5 := .int .u64 0) (v6 := .int .u64 0) (v7 := .int .u64 0) (v8 := .int .u64 0) (v9 := .int .u64 0) (v10 := .slice none 0 0) (v11 := .slice none 0 0) hR
    refine bodyPost_ret (results_ct rfl _ _ w.heap.size 34 _ (0, 0) _ rfl hfin Try.underlying34 rfl (by kernel_rfl)) rfl ?_
    exact ⟨⟨zeroB, none, 0, none, 0, n, rfl, HD2.out, RowB.nil _ _, World.ownsRow_nil _ _ _ _, (zeroB_R w).ok⟩, below_set12 hbw (Nat.le_refl _)⟩
  subst h0
  have HD2 : Hid (decS xs = (o, 0)) := by unfold Hid; rw [HD.out, if_pos rfl]
  obtain ⟨i0, i1, i2, i3, i4, i5, i6, i7, i8, i9, i10, i11, -⟩ := cells12 hX3
  go_wp2
  have hfin := heap_set12 (v0 := .int .u64 o.fl) (v1 := .int .u64 o.e0) (v2 := .int .u64 o.e1) (v3 := .int .u64 o.e2) (v4 := .int .u64 o.e3) (v5 := .int .u64 o.e4) (v6 := .int .u64 o.e5) (v7 := .int .u64 o.tm) (v8 := .int .u64 o.sq) (v9 := .int .u64 o.lf) (v10 := .slice a o.bl.length c) (v11 := .slice pa o.py.length pc) hR
  refine bodyPost_ret (results_ct rfl _ _ w.heap.size 34 _ (0, 0) _ rfl hfin Try.underlying34 rfl (by kernel_rfl)) rfl ?_
  refine ⟨⟨o, a, c, pa, pc, 0, rfl, HD2.out, RowB.base (HROW3.out.grown gr_set12 (by omega)) (by omega), Own.base (Own.grown HOWN3.out gr_set12 ?_) (by omega), HOK.out⟩, below_set12 hbw (Nat.le_refl _)⟩
  cases e : (Value.slice pa o.py.length pc).ownBlock with
  | none => left; rfl
  | some q => right; have := (World.ownsRow.lt HOWN3.out q e).1; simp; omega
end Go.Proofs.Ytdpkommmkcmifaa
namespace Go.Proofs.Ytdpkommmkcmifaa
set_option linter.unusedVariables false
set_option linter.unusedSimpArgs false
open Go.RowKit

theorem head_app {xs ys : List UInt8} (h : xs ≠ []) : (xs ++ ys).head? = xs.head? := by cases xs with | nil => exact absurd rfl h | cons x xs => rfl
theorem vl_append : ∀ (xs ys : List UInt8) (n : Nat), vl n (xs ++ ys) = (vl n xs).bind (fun m => vl m ys)
  | [], ys, n => by simp [vl]
  | c :: r, ys, n => by
    simp only [List.cons_append, vl]
    split
    · rfl
    · exact vl_append r ys _
theorem hiD_ge (f : Nat) : ∀ n, n ≤ f → ∀ c ∈ hiD n, 128 ≤ c.toNat := by
  induction f with
  | zero => intro n hn c hc; obtain rfl : n = 0 := by omega
            rw [hiD_zero] at hc; cases hc
  | succ f ih =>
    intro n hn c hc
    by_cases h0 : n = 0
    · subst h0; rw [hiD_zero] at hc; cases hc
    · rw [hiD_pos n h0, List.mem_append] at hc
      rcases hc with hc | hc
      · exact ih (n / 128) (by omega) c hc
      · simp only [List.mem_cons, List.not_mem_nil, or_false] at hc
        subst hc
        rw [UInt8.toNat_ofNat']; omega
theorem hiD_head (f : Nat) : ∀ n, n ≤ f → (hiD n).head? ≠ some 128 := by
  induction f with
  | zero => intro n hn; obtain rfl : n = 0 := by omega
            rw [hiD_zero]; simp
  | succ f ih =>
    intro n hn
    by_cases h0 : n = 0
    · subst h0; rw [hiD_zero]; simp
    · rw [hiD_pos n h0]
      by_cases h1 : n / 128 = 0
      · rw [h1, hiD_zero]
        simp only [List.nil_append, List.head?_cons, ne_eq, Option.some.injEq]
        intro e
        have := congrArg UInt8.toNat e
        rw [UInt8.toNat_ofNat'] at this
        simp at this
        omega
      · have h2 := ih (n / 128) (by omega)
        have h3 : hiD (n / 128) ≠ [] := by
          rw [hiD_pos _ h1]; simp
        rw [head_app h3]
        exact h2
theorem hiD_vl (f : Nat) : ∀ n, n ≤ f → n < 18446744073709551616 → vl 0 (hiD n) = some n := by
  induction f with
  | zero => intro n hn _; obtain rfl : n = 0 := by omega
            rw [hiD_zero]; rfl
  | succ f ih =>
    intro n hn hlt
    by_cases h0 : n = 0
    · subst h0; rw [hiD_zero]; rfl
    · rw [hiD_pos n h0, vl_append, ih (n / 128) (by omega) (by omega)]
      simp only [Option.bind_some, vl]
      rw [if_neg (by omega), UInt8.toNat_ofNat']
      congr 1
      omega
theorem dg_vl (n : Nat) (h : n < 18446744073709551616) : vl 0 (dg n) = some n := by
  unfold dg
  rw [vl_append, hiD_vl _ (n / 128) (Nat.le_refl _) (by omega)]
  simp only [Option.bind_some, vl]
  rw [if_neg (by omega), UInt8.toNat_ofNat']
  congr 1
  omega
theorem nsz_dg (n : Nat) (h : n < 18446744073709551616) (ys : List UInt8) : nsz (dg n ++ ys) = (dg n).length := by
  have hl := dg_len n h
  have hlen : (dg n).length = (hiD (n / 128)).length + 1 := by simp [dg]
  rw [hlen]
  refine nsz_hit (dg n ++ ys) (hiD (n / 128)).length (by simp [dg]) (by omega) ?_ ?_
  · intro i hi hlt
    have e : (dg n ++ ys)[i] = (hiD (n / 128))[i] := by simp [dg, List.getElem_append_left, hlt]
    rw [e]
    exact hiD_ge _ _ (Nat.le_refl _) _ (List.getElem_mem _)
  · have e : (dg n ++ ys)[(hiD (n / 128)).length]'(by simp [dg]) = UInt8.ofNat (n % 128) := by simp [dg]
    rw [e, UInt8.toNat_ofNat']
    omega
theorem dg_head (n : Nat) (ys : List UInt8) : (dg n ++ ys).head? ≠ some 128 := by
  unfold dg
  by_cases h : n / 128 = 0
  · rw [h, hiD_zero]
    simp only [List.nil_append, List.cons_append, List.head?_cons, ne_eq, Option.some.injEq]
    intro e
    have := congrArg UInt8.toNat e
    rw [UInt8.toNat_ofNat'] at this
    simp at this
    omega
  · have h3 : hiD (n / 128) ≠ [] := by rw [hiD_pos _ h]; simp
    rw [List.append_assoc, head_app h3]
    exact hiD_head _ _ (Nat.le_refl _)
/-- a number's bytes are read back -/
theorem numS_dg (n : Nat) (h : n < 18446744073709551616) (ys : List UInt8) : numS (dg n ++ ys) = (n, (dg n).length, 0) := by
  have hl := dg_len n h
  unfold numS
  rw [nsz_dg n h ys, if_neg (by omega), if_neg (dg_head n ys), List.take_left' rfl, dg_vl n h]

def vv : Nat → List UInt8 → Nat
  | n, [] => n
  | n, c :: r => vv (n * 128 + c.toNat % 128) r
theorem vv_append : ∀ (xs ys : List UInt8) (n : Nat), vv n (xs ++ ys) = vv (vv n xs) ys
  | [], ys, n => by simp [vv]
  | c :: r, ys, n => by simp only [List.cons_append, vv]; exact vv_append r ys _
theorem vl_vv : ∀ (xs : List UInt8) (n m : Nat), vl n xs = some m → m = vv n xs
  | [], n, m, h => by simp [vl] at h; simp [vv, h]
  | c :: r, n, m, h => by
    simp only [vl] at h
    split at h
    · cases h
    · exact vl_vv r _ m h
theorem hiD_vv : ∀ (k : Nat) (zs : List UInt8), zs.length = k → (∀ c ∈ zs, 128 ≤ c.toNat) → zs.head? ≠ some 128 → hiD (vv 0 zs) = zs
  | 0, zs, hk, _, _ => by obtain rfl : zs = [] := List.eq_nil_of_length_eq_zero hk
                          simp [vv, hiD_zero]
  | k + 1, zs, hk, hall, hh => by
    have hne : zs ≠ [] := by intro e; subst e; simp at hk
    obtain ⟨ys, c, rfl⟩ : ∃ ys c, zs = ys ++ [c] := ⟨zs.dropLast, zs.getLast hne, (List.dropLast_concat_getLast hne).symm⟩
    have hc := hall c (by simp)
    have hc2 := c.toNat_lt
    have hyl : ys.length = k := by simpa using hk
    rw [vv_append]
    simp only [vv]
    by_cases hy : ys = []
    · subst hy
      have hc3 : c.toNat ≠ 128 := by
        intro e; apply hh; simp; apply UInt8.toNat_inj.1; simpa using e
      simp only [vv]
      rw [hiD_pos _ (by omega), show (0 * 128 + c.toNat % 128) / 128 = 0 from by omega, hiD_zero]
      simp only [List.nil_append]
      congr 1
      apply UInt8.toNat_inj.1
      rw [UInt8.toNat_ofNat']
      omega
    · have ih := hiD_vv k ys hyl (fun x hx => hall x (by simp [hx])) (by rw [head_app hy] at hh; exact hh)
      have hv : vv 0 ys ≠ 0 := by intro e; rw [e, hiD_zero] at ih; exact hy ih.symm
      rw [hiD_pos _ (by omega), show (vv 0 ys * 128 + c.toNat % 128) / 128 = vv 0 ys from by omega, ih]
      congr 2
      apply UInt8.toNat_inj.1
      rw [UInt8.toNat_ofNat']
      omega
/-- a number that is found stands there in the one way in which it is written -/
theorem numS_one (xs : List UInt8) (n k : Nat) (h : numS xs = (n, k, 0)) : 1 ≤ k ∧ k ≤ xs.length ∧ xs.take k = dg n := by
  unfold numS at h
  split at h
  · split at h <;> simp at h
  · rename_i h0
    rcases nsz_le xs with h1 | ⟨h1, h2, h3, h4, h5⟩
    · exact absurd h1 h0
    · split at h
      · simp at h
      · rename_i hh
        split at h
        · simp at h
        · rename_i m hv
          simp only [Prod.mk.injEq, and_true] at h
          obtain ⟨rfl, rfl⟩ := h
          refine ⟨h1, by omega, ?_⟩
          have hm := vl_vv _ _ _ hv
          generalize nsz xs = s at *
          obtain ⟨s, rfl⟩ : ∃ t, s = t + 1 := ⟨s - 1, by omega⟩
          simp only [Nat.add_sub_cancel] at h3 h4 h5
          rw [List.take_succ_eq_append_getElem h3] at hm ⊢
          have hlt := xs[s].toNat_lt
          rw [vv_append] at hm
          simp only [vv] at hm
          have hz := hiD_vv s (xs.take s) (by simp; omega) (by
            intro c hc
            obtain ⟨i, hi, rfl⟩ := List.getElem_of_mem hc
            have hi' : i < s := by simp at hi; omega
            rw [List.getElem_take]
            exact h5 i (by omega) hi') (by
            intro e
            apply hh
            cases xs with
            | nil => simp at e
            | cons x xs => cases s with
              | zero => simp at e
              | succ s => simpa using e)
          unfold dg
          rw [show m / 128 = vv 0 (xs.take s) from by omega, hz]
          congr 2
          apply UInt8.toNat_inj.1
          rw [UInt8.toNat_ofNat']
          omega
/-- neither's bytes begin with the other's -/
theorem dg_prefix (n m : Nat) (hn : n < 18446744073709551616) (hm : m < 18446744073709551616) : (dg n).take (dg m).length = dg m ↔ n = m := by
  constructor
  · intro h
    have h1 := numS_dg n hn []
    rw [List.append_nil, ← List.take_append_drop (dg m).length (dg n), h, numS_dg m hm] at h1
    simp at h1
    exact h1.1.symm
  · rintro rfl
    simp
end Go.Proofs.Ytdpkommmkcmifaa
