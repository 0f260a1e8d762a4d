import Derived.Test.YtibolgpaolnheacQO2
namespace Go.Proofs.Ytibolgpaolnheac
set_option linter.unusedVariables false
set_option linter.unusedSimpArgs false
open Go.RowKit Go.Shelf
theorem backE_t (pa : Option Addr) (k cap : Nat) (w : World) : Calls Try.prog 66 #[.slice pa k cap] w fun e w' => e = .returned (.func (.func 72) #[] #[.pointer (some ⟨w.heap.size, 0, none⟩)]) ∧ w' = w.alloc (.cells #[.slice pa k cap] 68) := by
  go_enter Try.func66, Try.ntmps66
  go_wp2
  go_ret
  exact ⟨rfl, rfl⟩
theorem backP_t (pa : Option Addr) (k cap : Nat) (w : World) : Calls Try.prog 65 #[.slice pa k cap] w fun e w' => e = .returned (.func (.func 71) #[] #[.pointer (some ⟨w.heap.size, 0, none⟩)]) ∧ w' = w.alloc (.cells #[.slice pa k cap] tPs) := by
  go_enter Try.func65, Try.ntmps65
  go_wp2
  go_ret
  exact ⟨rfl, rfl⟩
end Go.Proofs.Ytibolgpaolnheac
namespace Go.Proofs.Ytibolgpaolnheac
set_option linter.unusedVariables false
set_option linter.unusedSimpArgs false
open Go.RowKit Go.Shelf
/-- what slices.Backward gives of a page -/
def bkE (xs : List Ent) : List (Nat × Ent) := List.ofFn (n := xs.length) fun t => (xs.length - 1 - t.val, xs[xs.length - 1 - t.val]'(by have := t.isLt; omega))
theorem bkE_length (xs : List Ent) : (bkE xs).length = xs.length := by simp [bkE]
theorem bkE_at (xs : List Ent) (q : Nat) (hq : q < xs.length) (h : xs.length - 1 - q < (bkE xs).length) : (bkE xs)[xs.length - 1 - q] = (q, xs[q]) := by
  have e : xs.length - 1 - (xs.length - 1 - q) = q := by omega
  simp [bkE, e]
abbrev encB (x : Nat × Ent) : Array Value := #[.int .i64 (x.1 : Int), ea x.2]
section
set_option maxRecDepth 100000
set_option maxHeartbeats 4000000
theorem backE_in (F : Fence) (n : Nat) (hf : F.fn 72) (hro : F.round = none) (hn : 1 ≤ n) (l g : Nat) (Kp : World → World → Prop) (hKr : ∀ V, Kp V V) (hKt : ∀ {A B C : World}, Kp A B → Kp B C → Kp A C) (hKs : ∀ {A B : World}, Kp A B → A.heap.size ≤ B.heap.size) (xs : List Ent) (pa : Option Addr) (K cap : Nat) (hK : K = xs.length) (hl : K ≤ 100) (J Jx : List (Nat × Ent) → World → Prop)
    (hY : ∀ pre x W, J pre W → pre.length < xs.length → YieldAt F (n - 1) Try.prog l (encB x) W fun e W' => (e = .returned (.bool true) ∧ J (pre ++ [x]) W' ∧ Kp W W') ∨ (e = .returned (.bool false) ∧ Jx (pre ++ [x]) W'))
    (W : World) (hR : ∀ u, Kp W u → RdE u pa xs ∧ u.cell? ⟨g, 0, none⟩ = some (.slice pa K cap)) (h0 : J [] W) :
    CallsIn F n Try.prog 72 #[.func (.yield l) #[] #[], .pointer (some ⟨g, 0, none⟩)] W fun e W' => (∃ v, e = .returned v) ∧
      ((∃ ys, ys = bkE xs ∧ J ys W') ∨ (∃ pre, pre <+: bkE xs ∧ Jx pre W')) := by
  have HR : Hid _ := hR
  have HYY : Hid _ := hY
  have HK : Hid (K = xs.length) := hK
  have hc2 := (hR W (hKr W)).2
  refine callsIn_of_wp Try.func72 rfl hf ?_ hro
  simp only [Try.ntmps72, List.size_toArray, List.length_cons, List.length_nil, Nat.reduceAdd, Nat.reduceSub, Array.replicate_succ, Array.replicate_zero, List.push_toArray, List.append_toArray, List.nil_append, List.cons_append]
  clear hR hY hK
  gi_wp2
  clear hc2
  gi_loopw [3] (fun i wr => ∃ q : Nat, q ≤ K ∧ i = .int .i64 ((q : Int) - 1) ∧ J ((bkE xs).take (K - q)) wr ∧ Kp W wr) (fun i _ => (intOf i + 1).toNat)
  case atStart => exact ⟨K, Nat.le_refl _, rfl, by rw [Nat.sub_self]; exact h0, hKr _⟩
  case round =>
    obtain ⟨q1, hq1, rfl, hJs, hbw⟩ := hrel
    rcases q1 with _ | q
    · have HJS : Hid (J (bkE xs) wr) := by rw [Nat.sub_zero, HK.out, ← bkE_length, List.take_length] at hJs; exact hJs
      clear hJs
      gi_wp2
      go_end0
      exact ⟨⟨_, rfl⟩, .inl ⟨_, rfl, HJS.out⟩⟩
    · have eq1 : (((q + 1 : Nat) : Int) - 1) = (q : Int) := by omega
      rw [eq1]
      have hqx : q < xs.length := by have := HK.out; omega
      obtain ⟨hrd, hc2⟩ := HR.out wr hbw
      obtain ⟨b5, o5, rfl, hr5, -⟩ := hrd q hqx
      have htk : (bkE xs).take (K - q) = (bkE xs).take (K - (q + 1)) ++ [(q, xs[q])] := by
        have e1 : K - q = (xs.length - 1 - q) + 1 := by have := HK.out; omega
        have e2 : K - (q + 1) = xs.length - 1 - q := by have := HK.out; omega
        have h9 : xs.length - 1 - q < (bkE xs).length := by rw [bkE_length]; omega
        rw [e1, e2, List.take_succ_eq_append_getElem h9, bkE_at xs q hqx h9]
      obtain ⟨x, hx⟩ : ∃ x, x = xs[q] := ⟨_, rfl⟩
      rw [← hx] at hr5 htk
      obtain ⟨⟨x1, x2⟩, xn⟩ := x
      have HT : Hid _ := htk
      obtain ⟨fn, tmps, assign, body, hy, hRd⟩ := HYY.out _ (q, (⟨(x1, x2), xn⟩ : Ent)) _ hJs (by have := HK.out; simp [bkE_length]; omega)
      have HBW : Hid (Kp W wr) := hbw
      have hqi : (q : Int) < (K : Int) := by omega
      have hq0' : (0 : Int) ≤ (q : Int) := by omega
      dsimp only [encB, ea, Ent.v] at hy
      have hq0 := hr5 0 _ rfl
      have hq1' := hr5 1 _ rfl
      have hq2 := hr5 2 _ rfl
      rw [Nat.add_zero] at hq0
      simp only [ea, ev, Ent.v] at hq0 hq1' hq2
      clear hJs hx hr5 hbw hrd htk eq1
      gi_wp2
      refine hRd.mono ?_
      rintro e W3 (⟨rfl, hJ3, hk3⟩ | ⟨rfl, hJx3⟩)
      · gi_wp2
        go_roundw
        case rel =>
          have h7 : J ((bkE xs).take (K - q)) W3 := by rw [HT.out]; exact hJ3
          first | exact ⟨q, by omega, by go_num, h7, hKt HBW.out hk3⟩ | (iterate 12 (apply Exists.intro); refine And.intro ?_ rfl; exact ⟨q, by omega, by go_num, h7, hKt HBW.out hk3⟩)
        case measure => simp [intOf]
      · gi_wp2
        refine bodyPost_ret (results_none rfl _ _ _) rfl ?_
        exact ⟨⟨_, rfl⟩, .inr ⟨_, by rw [← HT.out]; exact List.take_prefix _ _, hJx3⟩⟩
end
end Go.Proofs.Ytibolgpaolnheac
namespace Go.Proofs.Ytibolgpaolnheac
set_option linter.unusedVariables false
set_option linter.unusedSimpArgs false
open Go.RowKit Go.Shelf
/-- what slices.Backward gives of the pages: their numbers, from the last one down -/
def bkP (m : Nat) : List Nat := List.ofFn (n := m) fun t => m - 1 - t.val
theorem bkP_length (m : Nat) : (bkP m).length = m := by simp [bkP]
theorem bkP_at (m q : Nat) (hq : q < m) (h : m - 1 - q < (bkP m).length) : (bkP m)[m - 1 - q] = q := by
  have e : m - 1 - (m - 1 - q) = q := by omega
  simp [bkP, e]
abbrev encP (P : List (List Ent)) (A : Nat → Option Addr) (C : Nat → Nat) (q : Nat) : Array Value := #[.int .i64 (q : Int), .slice (A q) (P.getD q []).length (C q)]
section
set_option maxRecDepth 100000
set_option maxHeartbeats 4000000
theorem backP_in (F : Fence) (n : Nat) (hf : F.fn 71) (hro : F.round = none) (hn : 1 ≤ n) (l g : Nat) (Kp : World → World → Prop) (hKr : ∀ V, Kp V V) (hKt : ∀ {A B C : World}, Kp A B → Kp B C → Kp A C) (hKs : ∀ {A B : World}, Kp A B → A.heap.size ≤ B.heap.size) (P : List (List Ent)) (A : Nat → Option Addr) (C : Nat → Nat) (pa : Option Addr) (K cap : Nat) (hK : K = P.length) (hl : K ≤ 4398046511104) (J Jx : List Nat → World → Prop)
    (hY : ∀ pre x W, x < P.length → J pre W → pre.length < P.length → YieldAt F (n - 1) Try.prog l (encP P A C x) W fun e W' => (e = .returned (.bool true) ∧ J (pre ++ [x]) W' ∧ Kp W W') ∨ (e = .returned (.bool false) ∧ Jx (pre ++ [x]) W'))
    (W : World) (hR : ∀ u, Kp W u → RdPA u pa P A C ∧ u.cell? ⟨g, 0, none⟩ = some (.slice pa K cap)) (h0 : J [] W) :
    CallsIn F n Try.prog 71 #[.func (.yield l) #[] #[], .pointer (some ⟨g, 0, none⟩)] W fun e W' => (∃ v, e = .returned v) ∧
      ((∃ ys, ys = bkP P.length ∧ J ys W') ∨ (∃ pre, pre <+: bkP P.length ∧ Jx pre W')) := by
  have HR : Hid _ := hR
  have HYY : Hid _ := hY
  have HK : Hid (K = P.length) := hK
  have hc2 := (hR W (hKr W)).2
  refine callsIn_of_wp Try.func71 rfl hf ?_ hro
  simp only [Try.ntmps71, List.size_toArray, List.length_cons, List.length_nil, Nat.reduceAdd, Nat.reduceSub, Array.replicate_succ, Array.replicate_zero, List.push_toArray, List.append_toArray, List.nil_append, List.cons_append]
  clear hR hY hK
  gi_wp2
  clear hc2
  gi_loopw [3] (fun i wr => ∃ q : Nat, q ≤ K ∧ i = .int .i64 ((q : Int) - 1) ∧ J ((bkP P.length).take (K - q)) wr ∧ Kp W wr) (fun i _ => (intOf i + 1).toNat)
  case atStart => exact ⟨K, Nat.le_refl _, rfl, by rw [Nat.sub_self]; exact h0, hKr _⟩
  case round =>
    obtain ⟨q1, hq1, rfl, hJs, hbw⟩ := hrel
    rcases q1 with _ | q
    · have HJS : Hid (J (bkP P.length) wr) := by rw [Nat.sub_zero, HK.out, List.take_of_length_le (Nat.le_of_eq (bkP_length _))] at hJs; exact hJs
      clear hJs
      gi_wp2
      go_end0
      exact ⟨⟨_, rfl⟩, .inl ⟨_, rfl, HJS.out⟩⟩
    · have eq1 : (((q + 1 : Nat) : Int) - 1) = (q : Int) := by omega
      rw [eq1]
      have hqx : q < P.length := by have := HK.out; omega
      obtain ⟨hrd, hc2⟩ := HR.out wr hbw
      obtain ⟨b5, o5, rfl, hcp, hkc, -⟩ := hrd q hqx
      have htk : (bkP P.length).take (K - q) = (bkP P.length).take (K - (q + 1)) ++ [q] := by
        have e1 : K - q = (P.length - 1 - q) + 1 := by have := HK.out; omega
        have e2 : K - (q + 1) = P.length - 1 - q := by have := HK.out; omega
        have h9 : P.length - 1 - q < (bkP P.length).length := by rw [bkP_length]; omega
        rw [e1, e2, List.take_succ_eq_append_getElem h9, bkP_at P.length q hqx h9]
      have eP : P.getD q [] = P[q] := by simp [List.getD, hqx]
      have HT : Hid _ := htk
      obtain ⟨fn, tmps, assign, body, hy, hRd⟩ := HYY.out _ q _ hqx hJs (by have := HK.out; simp [bkP_length]; omega)
      have HBW : Hid (Kp W wr) := hbw
      have hqi : (q : Int) < (K : Int) := by omega
      have hq0' : (0 : Int) ≤ (q : Int) := by omega
      dsimp only [encP] at hy
      rw [eP] at hy
      clear hJs hbw hrd htk eq1 eP
      gi_wp2
      refine hRd.mono ?_
      rintro e W3 (⟨rfl, hJ3, hk3⟩ | ⟨rfl, hJx3⟩)
      · gi_wp2
        go_roundw
        case rel =>
          have h7 : J ((bkP P.length).take (K - q)) W3 := by rw [HT.out]; exact hJ3
          first | exact ⟨q, by omega, by go_num, h7, hKt HBW.out hk3⟩ | (iterate 12 (apply Exists.intro); refine And.intro ?_ rfl; exact ⟨q, by omega, by go_num, h7, hKt HBW.out hk3⟩)
        case measure => simp [intOf]
      · gi_wp2
        refine bodyPost_ret (results_none rfl _ _ _) rfl ?_
        exact ⟨⟨_, rfl⟩, .inr ⟨_, by rw [← HT.out]; exact List.take_prefix _ _, hJx3⟩⟩
end
end Go.Proofs.Ytibolgpaolnheac
