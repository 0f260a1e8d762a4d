import Derived.Test.YtmjhbckedagjjabCD
namespace Go.Proofs.Ytmjhbckedagjjab
set_option linter.unusedVariables false
set_option linter.unusedSimpArgs false
open Go.RowKit
section
variable {w w' : World} {p : Nat} {V : List Dc} {S : List Seg}
theorem putE_no {S : List Seg} {i : Int} {xs : Seg} (h : i < 0 ∨ (S.length : Int) ≤ i ∨ xs.length = 0 ∨ 1024 < xs.length) : putE (some S) i xs = 1 ∧ putS (some S) i xs = some S := by
  constructor
  · exact if_pos h
  · exact congrArg some (if_pos h)
theorem putE_at {S : List Seg} {k : Nat} {xs ys : Seg} (hk : k < S.length) (h0 : 0 < xs.length) (h1 : xs.length ≤ 1024) (hy : S[k]? = some ys) (hn : ys ≠ []) : putE (some S) (k : Int) xs = (if ys = xs then 3 else 120) ∧ putS (some S) (k : Int) xs = some S := by
  have hno : ¬ ((k : Int) < 0 ∨ (S.length : Int) ≤ (k : Int) ∨ xs.length = 0 ∨ 1024 < xs.length) := by omega
  have hl : ¬ (ys.length = 0) := fun e => hn (List.eq_nil_of_length_eq_zero e)
  constructor
  · unfold putE
    simp only [if_neg hno, Int.toNat_natCast, hy, Option.getD_some, if_neg hl]
  · unfold putS
    simp only [if_neg hno, Int.toNat_natCast, hy, Option.getD_some, if_neg hl]
theorem putE_free {S : List Seg} {k : Nat} {xs : Seg} (hk : k < S.length) (h0 : 0 < xs.length) (h1 : xs.length ≤ 1024) (hy : S[k]? = some []) : putE (some S) (k : Int) xs = (if fitS (S.set k xs) = true then 0 else 120) ∧ putS (some S) (k : Int) xs = some (if fitS (S.set k xs) = true then S.set k xs else S) := by
  have hno : ¬ ((k : Int) < 0 ∨ (S.length : Int) ≤ (k : Int) ∨ xs.length = 0 ∨ 1024 < xs.length) := by omega
  constructor
  · unfold putE
    simp only [if_neg hno, Int.toNat_natCast, hy, Option.getD_some, List.length_nil, if_pos]
  · unfold putS
    simp only [if_neg hno, Int.toNat_natCast, hy, Option.getD_some, List.length_nil, if_pos]
set_option maxRecDepth 20000 in
set_option maxHeartbeats 1600000 in
theorem put_no {q : Option Addr} (h : B0 w q) (i : Int) (b : Value) : Calls Try.prog 14 #[.pointer q, .int .i64 i, b] w fun e w' => e = .returned (.int .i64 1) ∧ w' = w := by
  have H : Hid _ := made_no h
  clear h
  go_enter Try.func14, Try.ntmps14
  go_wp2_with (go_at_call 32; refine Calls.mono H.out ?_; rintro e w' ⟨rfl, hq⟩; have hq := hq.symm; subst hq)
  go_ret
  exact ⟨rfl, rfl⟩
theorem size_sh : (Try.prog.info? tSh).map (·.size) = some 3 := by kernel_rfl
set_option maxRecDepth 20000 in
set_option maxHeartbeats 1600000 in
/-- its arguments are none -/
theorem put_arg (h : Bx w p V S) (i : Int) (ao : Option Addr) (n cap : Nat) (xs : List UInt8) (hn : n = xs.length) (hno : i < 0 ∨ (S.length : Int) ≤ i ∨ xs.length = 0 ∨ 1024 < xs.length) (hl : n ≤ 140737488355328) :
    Calls Try.prog 14 #[.pointer (some ⟨p, 0, none⟩), .int .i64 i, .slice ao n cap] w fun e w' => e = .returned (.int .i64 1) ∧ Below w.heap.size w w' := by
  subst hn
  have HM : Hid _ := made_t h
  have HN : Hid (∀ u : World, Calls _ _ _ u _) := fun u => numbers_t (w := u) S.length (lenS S) (lastS S) i
  have HRG : Hid _ := h.rg
  have c0 := h.c0
  have c1 := h.c1
  have c2 := h.c2
  by_cases hin : 0 ≤ i ∧ i < (S.length : Int)
  · have hb : numB S.length i = true := decide_eq_true hin
    rw [hb] at HN
    have hno2 : xs.length = 0 ∨ 1024 < xs.length := by omega
    clear hno hin hb h
    generalize S.length = N at *
    generalize lenS S = l at *
    generalize lastS S = z at *
    by_cases h0 : xs.length = 0
    · have hx : ((xs.length : Int) == 0) = true := by rw [h0]; rfl
      generalize xs.length = M at *
      clear h0 hno2
      go_enter Try.func14, Try.ntmps14
      go_wp2_with (first | (go_at_call 32; refine Calls.mono HM.out ?_; rintro e w' ⟨rfl, hq⟩; have hq := hq.symm; subst hq) | (go_at_call 33; refine Calls.mono (HN.out _) ?_; rintro e w1 ⟨rfl, hb1⟩))
      go_ret
      exact ⟨rfl, hb1⟩
    · have h1 : 1024 < xs.length := by omega
      have h1i : (1024 : Int) < (xs.length : Int) := by omega
      have hx : ((xs.length : Int) == 0) = false := by simp; intro e; exact h0 (by rw [e]; rfl)
      generalize xs.length = M at *
      clear hno2
      go_enter Try.func14, Try.ntmps14
      go_wp2_with (first | (go_at_call 32; refine Calls.mono HM.out ?_; rintro e w' ⟨rfl, hq⟩; have hq := hq.symm; subst hq) | (go_at_call 33; refine Calls.mono (HN.out _) ?_; rintro e w1 ⟨rfl, hb1⟩))
      go_ret
      exact ⟨rfl, hb1⟩
  · have hb : numB S.length i = false := decide_eq_false hin
    rw [hb] at HN
    clear hno hin hb h
    generalize S.length = N at *
    generalize lenS S = l at *
    generalize lastS S = z at *
    generalize xs.length = M at *
    go_enter Try.func14, Try.ntmps14
    go_wp2_with (first | (go_at_call 32; refine Calls.mono HM.out ?_; rintro e w' ⟨rfl, hq⟩; have hq := hq.symm; subst hq) | (go_at_call 33; refine Calls.mono (HN.out _) ?_; rintro e w1 ⟨rfl, hb1⟩))
    go_ret
    exact ⟨rfl, hb1⟩
set_option maxRecDepth 20000 in
set_option maxHeartbeats 1600000 in
/-- one is there -/
theorem put_there (h : Bx w p V S) (k : Nat) (hk : k < S.length) (d : Dc) (ys : Seg) (hd : V[k]? = some d) (hy : S[k]? = some ys) (hys : 0 < ys.length) (ao : Option Addr) (n cap : Nat) (xs : List UInt8) (hn : n = xs.length) (h0 : 0 < n) (h1 : n ≤ 1024) (hx : Rd w ao xs) :
    Calls Try.prog 14 #[.pointer (some ⟨p, 0, none⟩), .int .i64 (k : Int), .slice ao n cap] w fun e w' => e = .returned (.int .i64 (if ys = xs then 3 else 120)) ∧ Below w.heap.size w w' := by
  have HM : Hid _ := made_t h
  have HN : Hid (∀ u : World, Calls _ _ _ u _) := fun u => numbers_t (w := u) S.length (lenS S) (lastS S) (k : Int)
  rw [show numB S.length (k : Int) = true from decide_eq_true (by omega)] at HN
  have HRG : Hid _ := h.rg
  have c0 := h.c0
  have c1 := h.c1
  have c2 := h.c2
  have hcs := h.cs k d hd
  have hp := (Array.getElem?_eq_some_iff.1 h.hp).1
  obtain ⟨hby, -, -⟩ := h.els k d ys hd hy
  have hsm := hby.some_ hys
  have hk64 : k < 64 := by have := h.n1; omega
  have hkI : (k : Int) < 64 := by omega
  have hk0 : (0 : Int) ≤ (k : Int) := by omega
  have HCS : Hid (∀ u, Below w.heap.size w u → u.cell? ⟨p, 3 + k, none⟩ = some d.v) := fun u hu => (hu.cell hp).trans hcs
  have HAG : Hid (∀ u, Below w.heap.size w u → Calls _ _ _ u _) := fun u hu => again_t d.a d.n d.c ys hby.n ao n cap xs hn u (Rd.below hby.rd hu) (Rd.below hx hu)
  obtain ⟨da, dn, dc⟩ := d
  have hxl : ((n : Int) == 0) = false := by simp; omega
  have hx1 : ¬ (1024 : Int) < (n : Int) := by omega
  simp only at hsm
  generalize hE : (if ys = xs then (3 : Int) else 120) = E at *
  have q22 : ∀ (w : World) (a : Option Addr) (n c n' c' : Nat), (binOp .neq 30 (.slice a n c) (.slice none n' c')).run Try.prog w = .ok (.bool (!a.isNone)) w := fun w a n c n' c' => run_neq_slice_nil_any w _ _ a n c n' c' Try.underlying30
  clear hE h hcs hby hx hd hy hn hk hys
  generalize S.length = N at *
  generalize lenS S = l at *
  generalize lastS S = z at *
  go_enter Try.func14, Try.ntmps14
  go_wp2_with (first | (go_at_call 32; refine Calls.mono HM.out ?_; rintro e w' ⟨rfl, hq⟩; have hq := hq.symm; subst hq) | (go_at_call 33; refine Calls.mono (HN.out _) ?_; rintro e w1 ⟨rfl, hb1⟩; have hc1 := HCS.out _ hb1; have HB1 : Hid _ := hb1; clear hb1) | (go_at_call 34; refine Calls.mono (HAG.out _ HB1.out) ?_; rintro e w' ⟨rfl, hq⟩; have hq := hq.symm; subst hq))
  go_ret
  exact ⟨rfl, HB1.out⟩
end
end Go.Proofs.Ytmjhbckedagjjab
