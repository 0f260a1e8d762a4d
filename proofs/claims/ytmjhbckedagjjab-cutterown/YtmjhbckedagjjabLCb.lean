import Derived.Test.YtmjhbckedagjjabLCa
namespace Go.Proofs.Ytmjhbckedagjjab
set_option linter.unusedVariables false
set_option linter.unusedSimpArgs false
open Go.RowKit
/-- a row of lists that can be read -/
structure RdL (w : World) (a : Option Addr) (E : List Dc) (T : List Seg) : Prop where
  rd : RdG KL w a E
  len : E.length = T.length
  els : ∀ (i : Nat) d t, E[i]? = some d → T[i]? = some t → ByV w d t
theorem RdL.below {w w' : World} {a : Option Addr} {E : List Dc} {T : List Seg} (h : RdL w a E T) (hb : Below w.heap.size w w') : RdL w' a E T := ⟨h.rd.below hb, h.len, fun i d t hd ht => (h.els i d t hd ht).below hb⟩
theorem Lists.rdL {w : World} {B : Nat} {v : Value} {E : List Dc} {T : List Seg} (h : Lists w B v E T) : ∃ a c, v = .slice a T.length c ∧ RdL w a E T ∧ T.length ≤ c ∧ (a = none → c = 0) := by
  obtain ⟨a, c, hv, hle, -, hnil, hrd⟩ := h.row.val
  rw [h.len] at hv hle
  exact ⟨a, c, hv, ⟨hrd, h.len, fun i d t hd ht => h.byv hd ht⟩, hle, hnil⟩
theorem RdL.at_ {w : World} {a : Option Addr} {E : List Dc} {T : List Seg} (h : RdL w a E T) {k : Nat} (hk : k < T.length) : ∃ b o d t, a = some ⟨b, o, none⟩ ∧ E[k]? = some d ∧ T[k]? = some t ∧ w.cell? ⟨b, o + k, none⟩ = some d.v ∧ ByV w d t := by
  have hE : k < E.length := by rw [h.len]; exact hk
  have h1 := List.getElem?_eq_getElem hE
  have h2 := List.getElem?_eq_getElem hk
  obtain ⟨b', o', e, h3, -⟩ := h.rd k hE
  have h4 := h3 0 (Dc.v E[k]) rfl
  simp at h4
  exact ⟨b', o', _, _, e, h1, h2, h4, h.els k _ _ h1 h2⟩
section
variable {w w' : World}
set_option maxRecDepth 20000 in
set_option maxHeartbeats 1600000 in
theorem sameL_t (a1 a2 : Option Addr) (n1 n2 c1 c2 : Nat) (E1 E2 : List Dc) (T : List Seg) (hn1 : n1 = T.length) (hn2 : n2 = T.length) (h1 : RdL w a1 E1 T) (h2 : RdL w a2 E2 T) (hl : n1 ≤ 1099511627776) :
    Calls Try.prog 11 #[.slice a1 n1 c1, .slice a2 n2 c2] w fun e w' => e = .returned (.bool true) ∧ Below w.heap.size w w' := by
  obtain rfl : n1 = n2 := by omega
  have HN : Hid _ := hn1
  have H1 : Hid _ := h1
  have H2 : Hid _ := h2
  have hnn : ((n1 : Int) != (n1 : Int)) = false := by simp
  clear hn1 hn2 h1 h2
  go_enter Try.func11, Try.ntmps11
  go_wp2
  go_loopw [5] (fun j wr => ∃ k : Nat, k ≤ n1 ∧ j = .int .i64 (k : Int) ∧ Below w.heap.size w wr) (fun j _ => n1 - (intOf j).toNat)
  case atStart => exact ⟨0, Nat.zero_le _, rfl, Below.refl _ _⟩
  case round =>
    obtain ⟨k, hk, rfl, hbw⟩ := hrel
    have hkw : IntKind.i64.wrap ((k : Int) + 1) = ((k + 1 : Nat) : Int) := by rw [IntKind.wrap_i64]; omega
    by_cases hlt : k < n1
    · have hlti : (k : Int) < (n1 : Int) := by omega
      have hk0 : (0 : Int) ≤ (k : Int) := by omega
      obtain ⟨b, o, d, t, e1, hd, ht, hcl, hby⟩ := H1.out.at_ (k := k) (by rw [← HN.out]; exact hlt)
      obtain ⟨b2, o2, d2, t2, e2, hd2, ht2, hcl2, hby2⟩ := H2.out.at_ (k := k) (by rw [← HN.out]; exact hlt)
      obtain rfl : t2 = t := by rw [ht] at ht2; cases ht2; rfl
      subst e1 e2
      obtain ⟨da, dn, dc⟩ := d
      obtain ⟨da2, dn2, dc2⟩ := d2
      have hl1 : ∀ u, Below w.heap.size w u → u.cell? ⟨b, o + k, none⟩ = some (.slice da dn dc) := fun u hu => (hu.cell (World.block_lt_of_cell? w _ hcl)).trans hcl
      have hl2 : ∀ u, Below w.heap.size w u → u.cell? ⟨b2, o2 + k, none⟩ = some (.slice da2 dn2 dc2) := fun u hu => (hu.cell (World.block_lt_of_cell? w _ hcl2)).trans hcl2
      have hv1 : ∀ u, Below w.heap.size w u → (convert 30 9 (.slice da dn dc)).run Try.prog u = .ok (.string ⟨t2.toArray⟩) u := fun u hu => conv_rd' (hby.below hu).rd dn dc hby.n
      have hv2 : ∀ u, Below w.heap.size w u → (convert 30 9 (.slice da2 dn2 dc2)).run Try.prog u = .ok (.string ⟨t2.toArray⟩) u := fun u hu => conv_rd' (hby2.below hu).rd dn2 dc2 hby2.n
      have HBW : Hid _ := hbw
      clear hd hd2 ht ht2 hcl hcl2 hby hby2
      go_wp2_with fail
      refine wp_region_noPanic ?_
      refine wp_region_held_drew (S := (fun u => Below w.heap.size w u)) (by kernel_rfl) (by first | exact hbw.drew | assumption) (fun hHeld => ?_)
      refine take_at (i := 0) 17 (v := ?_) rfl rfl (by kernel_rfl) (by kernel_rfl) (by kernel_rfl) (fun _ _ _ h => h) (by rfl) ?_ hHeld ?_
      rotate_left
      · (intro w hSw; (try dsimp only at hSw); go_simp; try with_reducible rfl)
      simp only [Act.put, List.setIfInBounds_toArray, List.set_cons_zero, List.set_cons_succ]
      refine take_at (i := 1) 18 (v := ?_) rfl rfl (by kernel_rfl) (by kernel_rfl) (by kernel_rfl) (fun _ _ _ h => h) (by rfl) ?_ hHeld ?_
      rotate_left
      · (intro w hSw; (try dsimp only at hSw); go_simp; try with_reducible rfl)
      simp only [Act.put, List.setIfInBounds_toArray, List.set_cons_zero, List.set_cons_succ]
      refine take_at (i := 2) 19 (v := ?_) rfl rfl (by kernel_rfl) (by kernel_rfl) (by kernel_rfl) (fun _ _ _ h => h) (by rfl) ?_ hHeld ?_
      rotate_left
      · (intro w hSw; (try dsimp only at hSw); go_simp; try with_reducible rfl)
      simp only [Act.put, List.setIfInBounds_toArray, List.set_cons_zero, List.set_cons_succ]
      refine take_at (i := 3) 20 (v := .slice da dn dc) rfl rfl (by kernel_rfl) (by kernel_rfl) (by kernel_rfl) (fun _ _ _ h => h) (by rfl) ?_ hHeld ?_
      · (intro w hSw; have hc9 := hl1 _ hSw; go_simp; try with_reducible rfl)
      simp only [Act.put, List.setIfInBounds_toArray, List.set_cons_zero, List.set_cons_succ]
      refine take_at (i := 4) 21 (v := .string ⟨t2.toArray⟩) rfl rfl (by kernel_rfl) (by kernel_rfl) (by kernel_rfl) (fun _ _ _ h => h) (by rfl) ?_ hHeld ?_
      · (intro w hSw; have hc9 := hv1 _ hSw; go_simp; try with_reducible rfl)
      simp only [Act.put, List.setIfInBounds_toArray, List.set_cons_zero, List.set_cons_succ]
      refine take_at (i := 5) 22 (v := ?_) rfl rfl (by kernel_rfl) (by kernel_rfl) (by kernel_rfl) (fun _ _ _ h => h) (by rfl) ?_ hHeld ?_
      rotate_left
      · (intro w hSw; (try dsimp only at hSw); go_simp; try with_reducible rfl)
      simp only [Act.put, List.setIfInBounds_toArray, List.set_cons_zero, List.set_cons_succ]
      refine take_at (i := 6) 23 (v := ?_) rfl rfl (by kernel_rfl) (by kernel_rfl) (by kernel_rfl) (fun _ _ _ h => h) (by rfl) ?_ hHeld ?_
      rotate_left
      · (intro w hSw; (try dsimp only at hSw); go_simp; try with_reducible rfl)
      simp only [Act.put, List.setIfInBounds_toArray, List.set_cons_zero, List.set_cons_succ]
      refine take_at (i := 7) 24 (v := ?_) rfl rfl (by kernel_rfl) (by kernel_rfl) (by kernel_rfl) (fun _ _ _ h => h) (by rfl) ?_ hHeld ?_
      rotate_left
      · (intro w hSw; (try dsimp only at hSw); go_simp; try with_reducible rfl)
      simp only [Act.put, List.setIfInBounds_toArray, List.set_cons_zero, List.set_cons_succ]
      refine take_at (i := 8) 25 (v := .slice da2 dn2 dc2) rfl rfl (by kernel_rfl) (by kernel_rfl) (by kernel_rfl) (fun _ _ _ h => h) (by rfl) ?_ hHeld ?_
      · (intro w hSw; have hc9 := hl2 _ hSw; go_simp; try with_reducible rfl)
      simp only [Act.put, List.setIfInBounds_toArray, List.set_cons_zero, List.set_cons_succ]
      refine take_at (i := 9) 26 (v := .string ⟨t2.toArray⟩) rfl rfl (by kernel_rfl) (by kernel_rfl) (by kernel_rfl) (fun _ _ _ h => h) (by rfl) ?_ hHeld ?_
      · (intro w hSw; have hc9 := hv2 _ hSw; go_simp; try with_reducible rfl)
      simp only [Act.put, List.setIfInBounds_toArray, List.set_cons_zero, List.set_cons_succ]
      refine take_at (i := 10) 27 (v := ?_) rfl rfl (by kernel_rfl) (by kernel_rfl) (by kernel_rfl) (fun _ _ _ h => h) (by rfl) ?_ hHeld ?_
      rotate_left
      · (intro w hSw; (try dsimp only at hSw); go_simp; try with_reducible rfl)
      simp only [Act.put, List.setIfInBounds_toArray, List.set_cons_zero, List.set_cons_succ]
      refine wpAnyH_done (by kernel_rfl) ?_ _
      refine NoPanic.normal ?_
      go_wp2
      go_roundw
      case rel => exact ⟨k + 1, by omega, by go_num, HBW.out.drew⟩
      case measure => simp [intOf]; omega
    · have hlti : ¬ (k : Int) < (n1 : Int) := by omega
      go_wp2
      go_ret
      exact ⟨rfl, hbw⟩
end
/-- the document's: no box, or a box; G has its blocks -/
structure RBx (w : World) (qv : Option Addr) (St : Option (List Seg)) (G : Nat → Prop) : Prop where
  lt : ∀ b, G b → b < w.heap.size
  ex : (St = none ∧ qv = none) ∨ ∃ S q g c E, St = some S ∧ qv = some ⟨q, 0, none⟩ ∧ Rx w q (.slice (some ⟨g, 0, none⟩) S.length c) E S ∧ ∀ b, footR q (.slice (some ⟨g, 0, none⟩) S.length c) E b → G b
theorem RBx.kept {w w' : World} {qv : Option Addr} {St : Option (List Seg)} {G : Nat → Prop} (h : RBx w qv St G) (hs : w.heap.size ≤ w'.heap.size) (hk : ∀ b, G b → w'.heap[b]? = w.heap[b]?) : RBx w' qv St G := by
  refine ⟨fun b hb => Nat.lt_of_lt_of_le (h.lt b hb) hs, ?_⟩
  rcases h.ex with h1 | ⟨S, q, g, c, E, h1, h2, h3, h4⟩
  · exact .inl h1
  · exact .inr ⟨S, q, g, c, E, h1, h2, h3.kept (fun b hb => hk b (h4 b hb)), h4⟩
theorem RBx.below {w w' : World} {qv : Option Addr} {St : Option (List Seg)} {G : Nat → Prop} (h : RBx w qv St G) (hb : Below w.heap.size w w') : RBx w' qv St G := h.kept hb.size (fun b hf => hb.block b (h.lt b hf))
section
variable {w w' : World} {pv qv : Option Addr} {St : Option (List Seg)} {F G : Nat → Prop}
theorem PBx.cases (h : PBx w pv St F) : (St = none ∧ B0 w pv) ∨ ∃ S p V, St = some S ∧ pv = some ⟨p, 0, none⟩ ∧ Bx w p V S ∧ ∀ b, footB p V b → F b := by
  rcases h.ex with ⟨h1, h2⟩ | h2
  · refine .inl ⟨h1, ?_⟩
    rcases h2 with h2 | ⟨p, h2, h3, -⟩
    · exact .inl h2
    · exact .inr ⟨p, h2, h3⟩
  · exact .inr h2
theorem pcount (h : PBx w pv St F) : Calls Try.prog 23 #[.pointer pv] w fun e w' => e = .returned (iv (cntS St)) ∧ w' = w := by
  rcases h.cases with ⟨rfl, h2⟩ | ⟨S, p, V, rfl, rfl, h3, -⟩
  · exact count_no h2
  · exact count_t h3
theorem qcount (h : RBx w qv St G) : Calls Try.prog 24 #[.pointer qv] w fun e w' => e = .returned (iv (cntS St)) ∧ w' = w := by
  rcases h.ex with ⟨rfl, rfl⟩ | ⟨S, q, g, c, E, rfl, rfl, h3, -⟩
  · exact rcount_no
  · exact rcount_t h3
theorem plength (h : PBx w pv St F) : Calls Try.prog 28 #[.pointer pv] w fun e w' => e = .returned (.tuple #[iv (lengS St), .bool (decide (0 < lengS St))]) ∧ Below w.heap.size w w' := by
  rcases h.cases with ⟨rfl, h2⟩ | ⟨S, p, V, rfl, rfl, h3, -⟩
  · refine Calls.mono (length_no h2) ?_
    rintro e w' ⟨rfl, rfl⟩
    exact ⟨rfl, Below.refl _ _⟩
  · exact length_t h3
theorem qlength (h : RBx w qv St G) : Calls Try.prog 29 #[.pointer qv] w fun e w' => e = .returned (.tuple #[iv (lengS St), .bool (decide (0 < lengS St))]) ∧ w' = w := by
  rcases h.ex with ⟨rfl, rfl⟩ | ⟨S, q, g, c, E, rfl, rfl, h3, -⟩
  · exact rlength_no
  · exact rlength_t h3
/-- what Whole tells -/
def WhOut (St : Option (List Seg)) (w : World) (e : Ending) (w' : World) : Prop := ∃ u, e = .returned (.tuple #[u, .bool (wholeB St)]) ∧ Own w' w.heap.size u (wholeX St) ∧ Below w.heap.size w w'
theorem pwhole (h : PBx w pv St F) : Calls Try.prog 15 #[.pointer pv] w fun e w' => WhOut St w e w' := by
  rcases h.cases with ⟨rfl, h2⟩ | ⟨S, p, V, rfl, rfl, h3, -⟩
  · refine Calls.mono (whole_no h2) ?_
    rintro e w' ⟨rfl, rfl⟩
    exact ⟨_, rfl, World.ownsRow_nil _ _ _ _, Below.refl _ _⟩
  · exact whole_t h3
theorem qwhole (h : RBx w qv St G) : Calls Try.prog 30 #[.pointer qv] w fun e w' => WhOut St w e w' := by
  rcases h.ex with ⟨rfl, rfl⟩ | ⟨S, q, g, c, E, rfl, rfl, h3, -⟩
  · refine Calls.mono rwhole_no ?_
    rintro e w' ⟨rfl, rfl⟩
    exact ⟨_, rfl, World.ownsRow_nil _ _ _ _, Below.refl _ _⟩
  · exact rwhole_t h3
theorem pgot (h : PBx w pv St F) : Calls Try.prog 26 #[.pointer pv] w fun e w' => GotOut St w e w' := by
  rcases h.cases with ⟨rfl, h2⟩ | ⟨S, p, V, rfl, rfl, h3, -⟩
  · refine Calls.mono (got_no h2) ?_
    rintro e w' ⟨rfl, rfl⟩
    exact ⟨_, [], rfl, OwnR.nil _ _, ⟨Lst.nil, fun i => Iff.rfl⟩, by simp, Below.refl _ _⟩
  · exact got_t h3
theorem qgot (h : RBx w qv St G) : Calls Try.prog 27 #[.pointer qv] w fun e w' => GotOut St w e w' := by
  rcases h.ex with ⟨rfl, rfl⟩ | ⟨S, q, g, c, E, rfl, rfl, h3, -⟩
  · refine Calls.mono rgot_no ?_
    rintro e w' ⟨rfl, rfl⟩
    exact ⟨_, [], rfl, OwnR.nil _ _, ⟨Lst.nil, fun i => Iff.rfl⟩, by simp, Below.refl _ _⟩
  · exact rgot_t h3
/-- what a call leaves of a box: its state, its blocks, what has changed -/
structure Lft (R : World → (Nat → Prop) → Prop) (F : Nat → Prop) (w w' : World) : Prop where
  ex : ∃ F', R w' F' ∧ ∀ b, F' b → F b ∨ w.heap.size ≤ b
  chg : Chg F w w'
theorem pput (h : PBx w pv St F) (i : Int) (ao : Option Addr) (n cap : Nat) (xs : Seg) (hn : n = xs.length) (hx : Rd w ao xs) (hnil : ao = none → cap = 0) (hl : n ≤ 140737488355328) :
    Calls Try.prog 14 #[.pointer pv, .int .i64 i, .slice ao n cap] w fun e w' => e = .returned (.int .i64 (putE St i xs)) ∧ Lft (fun u F' => PBx u pv (putS St i xs) F') F w w' := by
  rcases h.cases with ⟨rfl, h2⟩ | ⟨S, p, V, rfl, rfl, h3, hF⟩
  · refine Calls.mono (put_no h2 i _) ?_
    rintro e w' ⟨rfl, hw⟩
    have hw := hw.symm
    subst hw
    exact ⟨rfl, ⟨F, h, fun b hb => .inl hb⟩, Chg.refl _ _⟩
  · by_cases hno : i < 0 ∨ (S.length : Int) ≤ i ∨ xs.length = 0 ∨ 1024 < xs.length
    · rw [(putE_no hno).1, (putE_no hno).2]
      refine Calls.mono (put_arg h3 i ao n cap xs hn hno hl) ?_
      rintro e w' ⟨rfl, hb⟩
      exact ⟨rfl, ⟨F, h.below hb, fun b hb => .inl hb⟩, Chg.of_below hb⟩
    · obtain ⟨k, rfl⟩ : ∃ k : Nat, i = (k : Int) := ⟨i.toNat, by omega⟩
      have hk : k < S.length := by omega
      obtain ⟨d, ys, hd, hy, -, -, -, -⟩ := h3.at_ hk
      by_cases hys : ys = []
      · subst hys
        obtain ⟨e1, e2⟩ := putE_free (xs := xs) hk (by omega) (by omega) hy
        rw [e1, e2]
        refine Calls.mono (put_free h3 k hk hy ao n cap xs hn (by omega) (by omega) hx hnil) ?_
        rintro e w' ⟨rfl, V', h4, h5, h6⟩
        refine ⟨rfl, ⟨fun b => footB p V' b, ⟨fun b hb => h4.lt hb, .inr ⟨_, p, V', rfl, rfl, h4, fun b hb => hb⟩⟩, fun b hb => (h6 b hb).imp (hF b) id⟩, h5.mono (fun b hb => hF b (.inl hb))⟩
      · obtain ⟨e1, e2⟩ := putE_at (xs := xs) hk (by omega) (by omega) hy hys
        rw [e1, e2]
        refine Calls.mono (put_there h3 k hk d ys hd hy (List.length_pos_iff.2 hys) ao n cap xs hn (by omega) (by omega) hx) ?_
        rintro e w' ⟨rfl, hb⟩
        exact ⟨rfl, ⟨F, h.below hb, fun b hb => .inl hb⟩, Chg.of_below hb⟩
theorem qput (h : RBx w qv St G) (i : Int) (ao : Option Addr) (n cap : Nat) (xs : Seg) (hn : n = xs.length) (hx : Rd w ao xs) (hnil : ao = none → cap = 0) (hl : n ≤ 140737488355328) :
    Calls Try.prog 21 #[.pointer qv, .int .i64 i, .slice ao n cap] w fun e w' => e = .returned (.int .i64 (putE St i xs)) ∧ Lft (fun u F' => RBx u qv (putS St i xs) F') G w w' := by
  rcases h.ex with ⟨rfl, rfl⟩ | ⟨S, q, g, c, E, rfl, rfl, h3, hF⟩
  · refine Calls.mono (rput_no i _) ?_
    rintro e w' ⟨rfl, hw⟩
    have hw := hw.symm
    subst hw
    exact ⟨rfl, ⟨G, h, fun b hb => .inl hb⟩, Chg.refl _ _⟩
  · by_cases hno : i < 0 ∨ (S.length : Int) ≤ i ∨ xs.length = 0 ∨ 1024 < xs.length
    · rw [(putE_no hno).1, (putE_no hno).2]
      refine Calls.mono (rput_arg h3 i ao n cap xs hn hno hl) ?_
      rintro e w' ⟨rfl, hw⟩
      have hw := hw.symm
      subst hw
      exact ⟨rfl, ⟨G, h, fun b hb => .inl hb⟩, Chg.refl _ _⟩
    · obtain ⟨k, rfl⟩ : ∃ k : Nat, i = (k : Int) := ⟨i.toNat, by omega⟩
      have hk : k < S.length := by omega
      obtain ⟨d, ys, hd, hy, -, -, -⟩ := h3.at_ hk
      by_cases hys : ys = []
      · subst hys
        obtain ⟨e1, e2⟩ := putE_free (xs := xs) hk (by omega) (by omega) hy
        rw [e1, e2]
        refine Calls.mono (rput_free h3 k hk hy ao n cap xs hn (by omega) (by omega) hx hnil) ?_
        rintro e w' ⟨rfl, v', E', h4, h5, h6⟩
        obtain ⟨g', c', rfl⟩ := h4.val
        refine ⟨rfl, ⟨fun b => footR q _ E' b, ⟨fun b hb => h4.lt hb, .inr ⟨_, q, g', c', E', rfl, rfl, h4, fun b hb => hb⟩⟩, fun b hb => (h6 b hb).imp (hF b) id⟩, h5.mono (fun b hb => hF b (.inl hb))⟩
      · obtain ⟨e1, e2⟩ := putE_at (xs := xs) hk (by omega) (by omega) hy hys
        rw [e1, e2]
        refine Calls.mono (rput_there h3 k hk ys hy (List.length_pos_iff.2 hys) ao n cap xs hn (by omega) (by omega) hx) ?_
        rintro e w' ⟨rfl, hb⟩
        exact ⟨rfl, ⟨G, h.below hb, fun b hb => .inl hb⟩, Chg.of_below hb⟩
end
/-- what New makes -/
def newSt (r : Int) : Option (List Seg) := if 1 ≤ r ∧ r ≤ 64 then some (List.replicate r.toNat []) else none
def newEr (r : Int) : Int := if 1 ≤ r ∧ r ≤ 64 then 0 else 1
theorem pnew (r : Int) (w : World) : Calls Try.prog 13 #[.int .i64 r] w fun e w' => ∃ pv F, e = .returned (.tuple #[.pointer pv, .int .i64 (newEr r)]) ∧ (pv = none ↔ newSt r = none) ∧ PBx w' pv (newSt r) F ∧ (∀ b, F b → w.heap.size ≤ b) ∧ Below w.heap.size w w' := by
  by_cases h : 1 ≤ r ∧ r ≤ 64
  · obtain ⟨k, rfl⟩ : ∃ k : Nat, r = (k : Int) := ⟨r.toNat, by omega⟩
    have e1 : newSt (k : Int) = some (List.replicate k []) := by unfold newSt; rw [if_pos h]; rfl
    have e2 : newEr (k : Int) = 0 := if_pos h
    rw [e1, e2]
    refine Calls.mono (new_t k (by omega) (by omega)) ?_
    rintro e w' ⟨rfl, h1, h2⟩
    refine ⟨_, fun b => b = w.heap.size, rfl, by simp, ⟨fun b hb => by subst hb; exact (Array.getElem?_eq_some_iff.1 h1.hp).1, .inr ⟨_, _, _, rfl, rfl, h1, fun b hb => ?_⟩⟩, fun b hb => by omega, h2⟩
    rcases hb with hb | ⟨d, hd, ad, ha, -⟩
    · exact hb
    · obtain ⟨i, hi⟩ := List.mem_iff_getElem?.1 hd
      rw [zV_get hi] at ha
      cases ha
  · have e1 : newSt r = none := if_neg h
    have e2 : newEr r = 1 := if_neg h
    rw [e1, e2]
    refine Calls.mono (new_no r h) ?_
    rintro e w' ⟨rfl, hw⟩
    have hw := hw.symm
    subst hw
    exact ⟨none, fun _ => False, rfl, by simp, ⟨fun b hb => hb.elim, .inl ⟨rfl, .inl rfl⟩⟩, fun b hb => hb.elim, Below.refl _ _⟩
theorem qnew (r : Int) (w : World) : Calls Try.prog 19 #[.int .i64 r] w fun e w' => ∃ qv G, e = .returned (.tuple #[.pointer qv, .int .i64 (newEr r)]) ∧ (qv = none ↔ newSt r = none) ∧ RBx w' qv (newSt r) G ∧ (∀ b, G b → w.heap.size ≤ b) ∧ Below w.heap.size w w' := by
  by_cases h : 1 ≤ r ∧ r ≤ 64
  · obtain ⟨k, rfl⟩ : ∃ k : Nat, r = (k : Int) := ⟨r.toNat, by omega⟩
    have e1 : newSt (k : Int) = some (List.replicate k []) := by unfold newSt; rw [if_pos h]; rfl
    have e2 : newEr (k : Int) = 0 := if_pos h
    rw [e1, e2]
    refine Calls.mono (rnew_t k (by omega) (by omega)) ?_
    rintro e w' ⟨rfl, h1, h2⟩
    have h3 : Rx w' (w.heap.size + 1) (.slice (some ⟨w.heap.size, 0, none⟩) (List.replicate k ([] : Seg)).length k) (List.replicate k Dc.z) (List.replicate k []) := by rw [List.length_replicate]; exact h1
    refine ⟨_, fun b => footR (w.heap.size + 1) (.slice (some ⟨w.heap.size, 0, none⟩) k k) (List.replicate k Dc.z) b, rfl, by simp, ⟨fun b hb => h1.lt hb, .inr ⟨_, _, _, _, _, rfl, rfl, h3, fun b hb => ?_⟩⟩, fun b hb => foot_new hb, h2⟩
    rw [List.length_replicate] at hb
    exact hb
  · have e1 : newSt r = none := if_neg h
    have e2 : newEr r = 1 := if_neg h
    rw [e1, e2]
    refine Calls.mono (rnew_no r h) ?_
    rintro e w' ⟨rfl, hw⟩
    have hw := hw.symm
    subst hw
    exact ⟨none, fun _ => False, rfl, by simp, ⟨fun b hb => hb.elim, .inl ⟨rfl, rfl⟩⟩, fun b hb => hb.elim, Below.refl _ _⟩
end Go.Proofs.Ytmjhbckedagjjab
