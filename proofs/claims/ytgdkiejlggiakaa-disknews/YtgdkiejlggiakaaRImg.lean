import Derived.Test.YtgdkiejlggiakaaRBase
namespace Go.Proofs.Ytgdkiejlggiakaa
set_option linter.unusedVariables false
set_option linter.unusedSimpArgs false
open Go.RowKit Go.Maps
theorem img_take (S : List Sec) (k : Nat) (h : k < S.length) : img (S.take (k + 1)) = img (S.take k) ++ (S.getD k Sec.zero).row := by
  unfold img
  rw [List.take_succ_eq_append_getElem h, List.flatMap_append]
  simp [h]
theorem wp_appL {w : World} {ops : Array Oper} {rest : List Oper} {o : Oper} {a : Act} {Q : Exit → Act → World → Prop} (hgd : o.guard = none) (s x : Operand)
    (ho : o.op = .call { callee := .builtin .append, args := #[s, x], argTypes := #[28, 28] }) (B : Nat) (v : Value) (xs ys : List UInt8) (n : Nat) (ao : Option Addr) (cap : Nat) (hn : n = ys.length)
    (hs : a.eval s = v) (hown : Own w B v xs) (hx : a.eval x = .slice ao n cap) (hr : Rd w ao ys) (hnil : ao = none → cap = 0)
    (hb : xs.length + n ≤ 140737488355328) (hbase : B ≤ w.heap.size)
    (h : ∀ v' w', Own w' B v' (xs ++ ys) → w.grownBy w' v.ownBlock → wpList Try.prog ops Q rest (a.put o.dst v') w') : wpList Try.prog ops Q (o :: rest) a w := by
  subst hn
  exact wp_app hgd s x ho B v xs ys ao cap hs hown hx hr hnil hb hbase h
set_option maxRecDepth 20000 in
set_option maxHeartbeats 1600000 in
theorem rimage_t {w : World} {rp gs N : Nat} {d : Dst} {VT VV : Nat → Value} {vs : Nat → List Value} {Fp : Nat → Prop} (h : RDk w rp gs N d VT VV vs Fp) :
    Calls Try.prog 23 #[.pointer (some ⟨rp, 0, none⟩)] w fun e w' => ∃ v, e = .returned v ∧ Own w' w.heap.size v (img d.S) ∧ Below w.heap.size w w' := by
  have HN : Hid _ := rnone_d h
  have H : Hid _ := h
  have hN := h.most
  have q22 : ∀ (w : World) (a : Option Addr) (n c n' c' : Nat), (binOp .eql 28 (.slice a n c) (.slice none n' c')).run Try.prog w = .ok (.bool a.isNone) w := fun w a n c n' c' => Lib.run_eql_slice_nil w _ _ a n c n' c' Try.underlying28
  clear h
  go_enter Try.func23, Try.ntmps23
  go_wp2_with fail
  refine Calls.mono HN.out ?_
  rintro e w1 ⟨rfl, hq⟩
  have hq := hq.symm
  subst hq
  go_wp2_with fail
  go_loopw [3, 4, 30, 45] (fun b i _ _ wr => ∃ (v : Value) (k : Nat), v = b ∧ k ≤ N ∧ i = .int .i64 (k : Int) ∧ Own wr w.heap.size v (img (d.S.take k)) ∧ Below w.heap.size w wr) (fun _ i _ _ _ => N - (intOf i).toNat)
  case atStart => exact ⟨_, 0, rfl, Nat.zero_le _, rfl, World.ownsRow_nil _ _ _ _, Below.refl _ _⟩
  case round =>
    obtain ⟨v, k, rfl, hk, rfl, hown, hbw⟩ := hrel
    have hrd := RDk.below H.out hbw
    have c0 := hrd.c0
    have hk0 : (0 : Int) ≤ (k : Int) := by omega
    have hkw : IntKind.i64.wrap ((k : Int) + 1) = ((k + 1 : Nat) : Int) := by rw [IntKind.wrap_i64]; omega
    have HO : Hid _ := hown
    have HBW : Hid _ := hbw
    have hws : w.heap.size ≤ wr.heap.size := hbw.size
    clear hown hbw
    by_cases hlt : k < N
    · have hlti : (k : Int) < (N : Int) := by omega
      have hlen := H.out.len
      have hks : k < d.S.length := by omega
      obtain ⟨s, hs⟩ : ∃ s, s = d.S.getD k Sec.zero := ⟨_, rfl⟩
      have HTK : Hid (img (d.S.take (k + 1)) = img (d.S.take k) ++ s.row) := by rw [hs]; exact img_take d.S k hks
      have s1 := hrd.s1 k hlt
      have s0 := hrd.s0 k hlt
      have htx := H.out.txt k hlt
      rw [← hs] at s1 htx
      have HIL : Hid ((img (d.S.take k)).length ≤ 8454144) := by
        unfold Hid
        rw [img_len (fun s hs => (fit_ok H.out.fit) s (List.mem_of_mem_take hs))]
        simp
        omega
      obtain ⟨I, hI⟩ : ∃ I, I = img (d.S.take k) := ⟨_, rfl⟩
      rw [← hI] at HO HTK HIL
      have HZ : Hid (∀ u, Calls Try.prog 41 #[.int .i64 128] u fun e w' => ∃ g, e = .returned (.slice (some ⟨g, 0, none⟩) 128 128) ∧ u.heap.size ≤ g ∧ w'.heap[g]? = some (.cells (bv (List.replicate 128 0)).toArray 5 (0, 0)) ∧ Below u.heap.size u w') := fun u => zeros_rd 128 (by decide) u
      have HZ9 : Hid (∀ u, Calls Try.prog 41 #[.int .i64 129] u fun e w' => ∃ g, e = .returned (.slice (some ⟨g, 0, none⟩) 129 129) ∧ u.heap.size ≤ g ∧ w'.heap[g]? = some (.cells (bv (List.replicate 129 0)).toArray 5 (0, 0)) ∧ Below u.heap.size u w') := fun u => zeros_rd 129 (by decide) u
      have HTL : Hid (s.text.length = 128) := by
        rw [hs]
        have e9 : d.S.getD k Sec.zero = d.S[k] := by simp [hks]
        rw [e9]
        exact (H.out.fit _ (List.getElem_mem hks)).1
      clear hs hI hrd hlen hks
      cases ht : s.torn
      · rw [ht] at s1
        rcases htx with ⟨hv, hz⟩ | ⟨-, hby⟩
        · rw [hv] at s0
          have HRW : Hid (s.row = List.replicate 129 0) := by
            unfold Hid Sec.row rmk
            rw [ht, hz]
            rfl
          unfold nilS at s0
          clear hv hz
          go_wp2_with fail
          refine (HZ9.out wr).mono ?_
          rintro e w3 ⟨g3, rfl, hg3, hr3, hb3⟩
          have hs3 := hb3.size
          go_wp2_with (at_builtin; refine wp_app rfl _ _ rfl w.heap.size v I (List.replicate 129 0) (some ⟨g3, 0, none⟩) 129 rfl (Own.below HO.out hb3) rfl (rd_row hr3) (fun h => by cases h) (by have := HIL.out; simp; omega) (by omega) ?_; intro v4 w4 hown4 hg4)
          have hb4 : Below w.heap.size w w4 := (below_next HBW.out hb3).grown hg4 (by omega) (fun b hb => (World.ownsRow.lt HO.out b hb).1)
          go_roundw
          case rel => exact ⟨v4, k + 1, rfl, by omega, rfl, by rw [HTK.out, HRW.out]; exact hown4, hb4⟩
          case measure => simp [intOf]; omega
        · obtain ⟨b, o, c, hv, hfb, hrd, -⟩ := hby.ex
          obtain ⟨T, hT⟩ : ∃ T, T = s.text := ⟨_, rfl⟩
          rw [← hT] at hv hrd HTL
          rw [hv, HTL.out] at s0
          obtain ⟨X, hX⟩ : ∃ X : World, X = wr.alloc (.cells #[.int .u8 0] 5) := ⟨_, rfl⟩
          have hXb : Below wr.heap.size wr X := by rw [hX]; exact al (Below.refl _ _) _
          have hXr : X.heap[wr.heap.size]? = some (.cells (bv [0]).toArray 5 (0, 0)) := by rw [hX]; exact heap_alloc_new wr _
          have hXs := hXb.size
          have HRW : Hid (s.row = [0] ++ T) := by
            unfold Hid Sec.row rmk
            rw [ht, hT]
            rfl
          have HRD : Hid _ := hrd
          have HVT : Hid (VT k = .slice (some ⟨b, o, none⟩) 128 c) := by rw [← HTL.out]; exact hv
          have HXB : Hid _ := hXb
          clear hv hT hrd hby hXb
          go_wp2_with (first
            | (at_builtin; rw [← hX]; refine wp_app rfl _ _ rfl w.heap.size v I [0] (some ⟨wr.heap.size, 0, none⟩) 1 rfl (Own.below HO.out HXB.out) rfl (rd_row hXr) (fun h => by cases h) (by have := HIL.out; simp; omega) (by omega) ?_; intro v4 w4 hown4 hg4; have hb4 : Below w.heap.size w w4 := (below_next HBW.out HXB.out).grown hg4 (by omega) (fun b hb => (World.ownsRow.lt HO.out b hb).1); have c04 := (RDk.below H.out hb4).c0; have s04 : w4.cell? ⟨gs, k * 3, none⟩ = some (.slice (some ⟨b, o, none⟩) 128 c) := (by rw [(RDk.below H.out hb4).s0 k hlt, HVT.out]); have hs4 := hb4.size; clear hX)
            | (at_builtin; refine wp_appL rfl _ _ rfl w.heap.size v4 (I ++ [0]) T 128 (some ⟨b, o, none⟩) c HTL.out.symm rfl hown4 rfl (Rd.below HRD.out hb4) (fun h => by cases h) (by have := HIL.out; simp; omega) (by omega) ?_; intro v5 w5 hown5 hg5))
          have hb5 : Below w.heap.size w w5 := hb4.grown hg5 (by omega) (fun b hb => (World.ownsRow.lt hown4 b hb).1)
          go_roundw
          case rel => exact ⟨v5, k + 1, rfl, by omega, rfl, by rw [HTK.out, HRW.out, ← List.append_assoc]; exact hown5, hb5⟩
          case measure => simp [intOf]; omega
      · rw [ht] at s1
        have hz : s.text = List.replicate 128 0 := by
          rcases htx with ⟨-, hz⟩ | ⟨h9, -⟩
          · exact hz
          · rw [ht] at h9; cases h9
        have HRW : Hid (s.row = [1] ++ List.replicate 128 0) := by
          unfold Hid Sec.row rmk
          rw [ht, hz]
          rfl
        obtain ⟨X, hX⟩ : ∃ X : World, X = wr.alloc (.cells #[.int .u8 1] 5) := ⟨_, rfl⟩
        have hXb : Below wr.heap.size wr X := by rw [hX]; exact al (Below.refl _ _) _
        have hXr : X.heap[wr.heap.size]? = some (.cells (bv [1]).toArray 5 (0, 0)) := by rw [hX]; exact heap_alloc_new wr _
        have hXs := hXb.size
        have HXB : Hid _ := hXb
        clear hz htx hXb
        go_wp2_with (first
          | (at_builtin; rw [← hX]; refine wp_app rfl _ _ rfl w.heap.size v I [1] (some ⟨wr.heap.size, 0, none⟩) 1 rfl (Own.below HO.out HXB.out) rfl (rd_row hXr) (fun h => by cases h) (by have := HIL.out; simp; omega) (by omega) ?_; intro v4 w4 hown4 hg4; have hb4 : Below w.heap.size w w4 := (below_next HBW.out HXB.out).grown hg4 (by omega) (fun b hb => (World.ownsRow.lt HO.out b hb).1); have hs4 := hb4.size; clear hX))
        have HO4 : Hid _ := hown4
        refine (HZ.out w4).mono ?_
        rintro e w5 ⟨g5, rfl, hg5, hr5, hb5⟩
        have hs5 := hb5.size
        go_wp2_with (at_builtin; refine wp_app rfl _ _ rfl w.heap.size v4 (I ++ [1]) (List.replicate 128 0) (some ⟨g5, 0, none⟩) 128 rfl (Own.below HO4.out hb5) rfl (rd_row hr5) (fun h => by cases h) (by have := HIL.out; simp; omega) (by omega) ?_; intro v6 w6 hown6 hg6)
        have hb6 : Below w.heap.size w w6 := (below_next hb4 hb5).grown hg6 (by omega) (fun b hb => (World.ownsRow.lt HO4.out b hb).1)
        go_roundw
        case rel => exact ⟨v6, k + 1, rfl, by omega, rfl, by rw [HTK.out, HRW.out, ← List.append_assoc]; exact hown6, hb6⟩
        case measure => simp [intOf]; omega
    · have hlti : ¬ (k : Int) < (N : Int) := by omega
      obtain rfl : k = N := by omega
      have HFIN : Hid (Own wr w.heap.size v (img d.S)) := by
        have h9 := HO.out
        rw [List.take_of_length_le (by rw [H.out.len]; omega)] at h9
        exact h9
      clear hrd
      go_wp2
      go_ret
      exact ⟨_, rfl, HFIN.out, HBW.out⟩
end Go.Proofs.Ytgdkiejlggiakaa
