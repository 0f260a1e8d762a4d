import Derived.Test.YtgdkiejlggiakacRPut
import Derived.Test.YtgdkiejlggiakacDCutW
namespace Go.Proofs.Ytgdkiejlggiakac
set_option linter.unusedVariables false
set_option linter.unusedSimpArgs false
open Go.RowKit Go.Maps
variable {w : World} {rp gs N : Nat} {d : Dst} {VT VV : Nat → Value} {vs : Nat → List Value} {Fp : Nat → Prop}
/-- another power, another fuse -/
theorem RDk.pow' (h : RDk w rp gs N d VT VV vs Fp) {w' : World} {off : Bool} {fuse : Int} (hp : w'.heap[rp]? = some (.cells #[.slice (some ⟨gs, 0, none⟩) N N, .bool off, .int .i64 fuse] 96 (0, 0))) (hg : w.grownBy w' (some rp)) (h1 : off = true → fuse = -1) (h2 : fuse ≤ 9223372036854775807) : RDk w' rp gs N ⟨d.S, d.C, off, fuse⟩ VT VV vs Fp := by
  have hc : Chg (fun b => b = rp) w w' := Chg.of_grown hg (fun b hb => by cases hb; rfl)
  obtain ⟨cur, k1, k2⟩ := h.hs
  have hne : ∀ (b : Nat) cs T fr, w.heap[b]? = some (.cells cs T fr) → T ≠ 96 → ¬ b = rp := fun b cs T fr hb hT e => by
    subst e
    rw [h.hp] at hb
    simp only [Option.some.injEq, Obj.cells.injEq] at hb
    exact hT hb.2.1.symm
  refine ⟨h.one, h.most, h.len, h.fit, hp, ⟨cur, (hc.block gs (Array.getElem?_eq_some_iff.1 k1).1 (hne _ _ _ _ k1 (by decide))).trans k1, k2⟩, fun i hi => ?_, fun i hi => (h.own i hi).chg hc (fun b hb => ?_), fun i hi => ?_, h.apart, h.frp, h.fgs, h.fvv, fun b hb => Nat.lt_of_lt_of_le (h.flt b hb) hc.size, h1, h2⟩
  · rcases h.txt i hi with h3 | ⟨h3, h4⟩
    · exact .inl h3
    · exact .inr ⟨h3, h4.kept hc (fun b cs fr _ hb => hne b cs 5 fr hb (by decide)) (fun _ hb => hb)⟩
  · obtain ⟨c, h3⟩ := (h.own i hi).at_ hb
    exact hne _ _ _ _ h3 (by decide)
  · obtain ⟨h3, h4⟩ := h.vers i hi
    refine ⟨h3, fun k hk => ?_⟩
    obtain ⟨u, h5, h6, h7⟩ := h4 k hk
    exact ⟨u, h5, h6, h7.kept hc (fun b cs fr _ hb => hne b cs 5 fr hb (by decide)) (fun _ hb => hb)⟩
theorem heap_set3 {w : World} {p : Nat} {a b c : Value} {t : TypeId} (h : w.heap[p]? = some (.cells #[a, b, c] t (0, 0))) (v : Value) : (w.setCell ⟨p, 1, none⟩ v).heap[p]? = some (.cells #[a, v, c] t (0, 0)) ∧ (w.setCell ⟨p, 2, none⟩ v).heap[p]? = some (.cells #[a, b, v] t (0, 0)) :=
  ⟨by rw [heap_setCell_same w p 1 _ t v h]; rfl, by rw [heap_setCell_same w p 2 _ t v h]; rfl⟩
set_option maxRecDepth 20000 in
theorem rthere_t (h : RDk w rp gs N d VT VV vs Fp) (i : Int) : Calls Try.prog 75 #[.pointer (some ⟨rp, 0, none⟩), .int .i64 i] w fun e w' => e = .returned (.bool (decide (0 ≤ i ∧ i < (N : Int)))) ∧ w' = w := by
  have HN : Hid _ := rnone_d h
  have c0 := h.c0
  clear h
  by_cases h1 : 0 ≤ i
  · by_cases h2 : i < (N : Int)
    · have e : decide (0 ≤ i ∧ i < (N : Int)) = true := decide_eq_true ⟨h1, h2⟩
      rw [e]
      clear e
      go_enter Try.func75, Try.ntmps75
      go_wp2_with fail
      refine Calls.mono HN.out ?_
      rintro e w1 ⟨rfl, hq⟩
      have hq := hq.symm
      subst hq
      go_wp2
      go_ret
      exact ⟨rfl, rfl⟩
    · have e : decide (0 ≤ i ∧ i < (N : Int)) = false := decide_eq_false (fun h => h2 h.2)
      rw [e]
      clear e
      go_enter Try.func75, Try.ntmps75
      go_wp2_with fail
      refine Calls.mono HN.out ?_
      rintro e w1 ⟨rfl, hq⟩
      have hq := hq.symm
      subst hq
      go_wp2
      go_ret
      exact ⟨by show Ending.returned (.bool (decide (i < (N : Int)))) = _; rw [decide_eq_false (by omega)], rfl⟩
  · have e : decide (0 ≤ i ∧ i < (N : Int)) = false := decide_eq_false (fun h => h1 h.1)
    rw [e]
    clear e
    go_enter Try.func75, Try.ntmps75
    go_wp2_with fail
    refine Calls.mono HN.out ?_
    rintro e w1 ⟨rfl, hq⟩
    have hq := hq.symm
    subst hq
    go_wp2
    go_ret
    exact ⟨rfl, rfl⟩
set_option maxRecDepth 20000 in
theorem rdown_t (h : RDk w rp gs N d VT VV vs Fp) : Calls Try.prog 57 #[.pointer (some ⟨rp, 0, none⟩)] w fun e w' => e = .returned (.bool d.off) ∧ w' = w := by
  have HN : Hid _ := rnone_d h
  have c1 := h.c1
  clear h
  go_enter Try.func57, Try.ntmps57
  go_wp2_with fail
  refine Calls.mono HN.out ?_
  rintro e w1 ⟨rfl, hq⟩
  have hq := hq.symm
  subst hq
  go_wp2
  go_ret
  exact ⟨rfl, rfl⟩
set_option maxRecDepth 20000 in
set_option maxHeartbeats 400000 in
theorem rdone_t (h : RDk w rp gs N d VT VV vs Fp) : Calls Try.prog 76 #[.pointer (some ⟨rp, 0, none⟩)] w fun e w' => e = .returned (.bool d.can) ∧ RDk w' rp gs N d.begun VT VV vs Fp ∧ w.grownBy w' (some rp) := by
  have c1 := h.c1
  have c2 := h.c2
  have f1 := frozen_of_row w rp 1 _ _ h.hp
  have f2 := frozen_of_row w rp 2 _ _ h.hp
  have H : Hid _ := h
  have hfu := h.fu
  have hpw := h.pow
  clear h
  obtain ⟨S, C, off, fuse⟩ := d
  simp only at c1 c2 hfu hpw
  cases off
  · by_cases h0 : fuse = 0
    · subst h0
      have e1 : Dst.can ⟨S, C, false, 0⟩ = false := rfl
      have e2 : Dst.begun ⟨S, C, false, 0⟩ = ⟨S, C, true, -1⟩ := rfl
      rw [e1, e2]
      clear e1 e2 hpw
      go_enter Try.func76, Try.ntmps76
      go_wp2
      go_ret
      have k1 := (heap_set3 H.out.hp (.bool true)).1
      have k2 := (heap_set3 k1 (.int .i64 (-1))).2
      have hg := (gset1 w rp 1 (.bool true)).trans' (gset1 (w.setCell ⟨rp, 1, none⟩ (.bool true)) rp 2 (.int .i64 (-1)))
      exact ⟨rfl, RDk.pow' H.out k2 hg (fun _ => rfl) (by decide), hg⟩
    · have hb : (fuse == 0) = false := by simpa using h0
      by_cases h1 : 0 < fuse
      · have e1 : Dst.can ⟨S, C, false, fuse⟩ = true := by unfold Dst.can begE; simp [h0]
        have e2 : Dst.begun ⟨S, C, false, fuse⟩ = ⟨S, C, false, fuse - 1⟩ := by unfold Dst.begun begO begF; simp [h0, h1]
        rw [e1, e2]
        clear e1 e2 hpw
        have hw1 : IntKind.i64.wrap (fuse - 1) = fuse - 1 := by rw [IntKind.wrap_i64]; omega
        go_enter Try.func76, Try.ntmps76
        go_wp2
        go_ret
        have hg := gset1 w rp 2 (.int .i64 (fuse - 1))
        exact ⟨rfl, RDk.pow' H.out (heap_set3 H.out.hp (.int .i64 (fuse - 1))).2 hg (fun h => by cases h) (by omega), hg⟩
      · have e1 : Dst.can ⟨S, C, false, fuse⟩ = true := by unfold Dst.can begE; simp [h0]
        have e2 : Dst.begun ⟨S, C, false, fuse⟩ = ⟨S, C, false, fuse⟩ := by unfold Dst.begun begO begF; simp [h0, h1]
        rw [e1, e2]
        clear e1 e2 hpw
        go_enter Try.func76, Try.ntmps76
        go_wp2
        go_ret
        exact ⟨rfl, H.out, World.grownBy.refl _ _⟩
  · obtain rfl : fuse = -1 := hpw rfl
    have e1 : Dst.can ⟨S, C, true, -1⟩ = false := rfl
    have e2 : Dst.begun ⟨S, C, true, -1⟩ = ⟨S, C, true, -1⟩ := rfl
    rw [e1, e2]
    clear e1 e2 hpw
    go_enter Try.func76, Try.ntmps76
    go_wp2
    go_ret
    exact ⟨rfl, H.out, World.grownBy.refl _ _⟩
set_option maxRecDepth 20000 in
set_option maxHeartbeats 400000 in
theorem rcut_t (h : RDk w rp gs N d VT VV vs Fp) (n : Int) (hn : n ≤ 9223372036854775807) : Calls Try.prog 51 #[.pointer (some ⟨rp, 0, none⟩), .int .i64 n] w fun e w' => e = .returned (.tuple #[]) ∧ RDk w' rp gs N (d.cut n) VT VV vs Fp ∧ w.grownBy w' (some rp) := by
  have HN : Hid _ := rnone_d h
  have c1 := h.c1
  have c2 := h.c2
  have f2 := frozen_of_row w rp 2 _ _ h.hp
  have H : Hid _ := h
  clear h
  obtain ⟨S, C, off, fuse⟩ := d
  simp only at c1 c2
  cases off
  · have e1 : Dst.cut ⟨S, C, false, fuse⟩ n = ⟨S, C, false, max n (-1)⟩ := by unfold Dst.cut cutF; simp
    rw [e1]
    clear e1
    go_enter Try.func51, Try.ntmps51
    go_wp2_with fail
    refine Calls.mono HN.out ?_
    rintro e w1 ⟨rfl, hq⟩
    have hq := hq.symm
    subst hq
    go_wp2
    go_end0
    have hg := gset1 w rp 2 (.int .i64 (max n (-1)))
    exact ⟨rfl, RDk.pow' H.out (heap_set3 H.out.hp (.int .i64 (max n (-1)))).2 hg (fun h => by cases h) (by omega), hg⟩
  · have e1 : Dst.cut ⟨S, C, true, fuse⟩ n = ⟨S, C, true, fuse⟩ := by unfold Dst.cut cutF; simp
    rw [e1]
    clear e1
    go_enter Try.func51, Try.ntmps51
    go_wp2_with fail
    refine Calls.mono HN.out ?_
    rintro e w1 ⟨rfl, hq⟩
    have hq := hq.symm
    subst hq
    go_wp2
    (try simp only [Exit.inBlock, Exit.then])
    refine bodyPost_ret (results_none rfl _ _ _) rfl ?_
    exact ⟨rfl, H.out, World.grownBy.refl _ _⟩
end Go.Proofs.Ytgdkiejlggiakac
