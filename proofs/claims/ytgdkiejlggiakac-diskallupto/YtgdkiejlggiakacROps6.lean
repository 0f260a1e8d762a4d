import Derived.Test.YtgdkiejlggiakacROps5
namespace Go.Proofs.Ytgdkiejlggiakac
set_option linter.unusedVariables false
set_option linter.unusedSimpArgs false
open Go.RowKit Go.Maps
theorem dirtyL_succ (k : Nat) (C : Nat → List (List UInt8)) : dirtyL (k + 1) C = if C k = [] then dirtyL k C else dirtyL k C ++ [(k : Int)] := by
  unfold dirtyL dirtyN
  rw [List.range_succ, List.filter_append, List.map_append]
  cases h : C k <;> simp [h]
theorem dirtyC_succ (k : Nat) (C : Nat → List (List UInt8)) : dirtyC (k + 1) C = if C k = [] then dirtyC k C else dirtyC k C ++ [((C k).length : Int)] := by
  unfold dirtyC dirtyN
  rw [List.range_succ, List.filter_append, List.map_append]
  cases h : C k <;> simp [h]
theorem dirty_len2 (k : Nat) (C : Nat → List (List UInt8)) : (dirtyL k C).length ≤ k ∧ (dirtyC k C).length = (dirtyL k C).length := by
  unfold dirtyL dirtyC dirtyN
  refine ⟨?_, by simp⟩
  rw [List.length_map]
  exact Nat.le_trans (List.length_filter_le _ _) (by simp)
theorem wp_appIm {w : World} {ops : Array Oper} {rest : List Oper} {o : Oper} {a : Act} {Q : Exit → Act → World → Prop} (hgd : o.guard = none) (s x : Operand)
    (ho : o.op = .call { callee := .builtin .append, args := #[s, x], argTypes := #[37, 37] }) (B : Nat) (v : Value) (xs : List Int) (n : Nat) (hn : n = xs.length) (y : Int) (g : Nat)
    (hs : a.eval s = v) (hown : OwnI w B v xs) (hx : a.eval x = .slice (some ⟨g, 0, none⟩) 1 1) (hg : w.heap[g]? = some (.cells #[.int .i64 y] 3 (0, 0))) (hb : n ≤ 1099511627776) (hbase : B ≤ w.heap.size)
    (h : ∀ g' cap w', OwnI w' B (.slice (some ⟨g', 0, none⟩) (n + 1) cap) (xs ++ [y]) → w.grownBy w' v.ownBlock → (v.ownBlock = some g' ∨ g' = w.heap.size) → wpList Try.prog ops Q rest (a.put o.dst (.slice (some ⟨g', 0, none⟩) (n + 1) cap)) w') : wpList Try.prog ops Q (o :: rest) a w := by
  subst hn
  exact wp_appI hgd s x ho B v xs y g hs hown hx hg hb hbase h
theorem OwnI.chgR {w w' : World} {B : Nat} {v : Value} {xs : List Int} {F : Nat → Prop} (h : OwnI w B v xs) (hc : Chg F w w') (hne : ∀ b, v.ownBlock = some b → ¬ F b) : OwnI w' B v xs := by
  refine ⟨h.1, ?_⟩
  rcases h.2 with h0 | ⟨g, cap, cur, e, hB, hg, r⟩
  · exact .inl h0
  · exact .inr ⟨g, cap, cur, e, hB, (hc.block g (Array.getElem?_eq_some_iff.1 hg).1 (hne g (by rw [e]; rfl))).trans hg, r⟩
set_option maxRecDepth 20000 in
set_option maxHeartbeats 1600000 in
theorem rdirty_t {w : World} {rp gs N : Nat} {d : Dst} {VT VV : Nat → Value} {vs : Nat → List Value} {Fp : Nat → Prop} (h : RDk w rp gs N d VT VV vs Fp) (hfew : ∀ i, i < N → (d.C i).length ≤ 1099511627776) :
    Calls Try.prog 54 #[.pointer (some ⟨rp, 0, none⟩)] w fun e w' => ∃ v u, e = .returned (.tuple #[v, u]) ∧ OwnI w' w.heap.size v (dirtyL N d.C) ∧ OwnI w' w.heap.size u (dirtyC N d.C) ∧ Below w.heap.size w w' := by
  have HN : Hid _ := rnone_d h
  have H : Hid _ := h
  have HFEW : Hid _ := hfew
  have hN := h.most
  clear h hfew
  go_enter Try.func54, Try.ntmps54
  go_wp2_with fail
  refine Calls.mono HN.out ?_
  rintro e w1 ⟨rfl, hq⟩
  have hq := hq.symm
  subst hq
  go_wp2_with fail
  go_loopw [4, 5, 6] (fun l n i wq => ∃ (y : Nat) (v1 v2 : Value), v1 = l ∧ v2 = n ∧ y ≤ N ∧ i = .int .i64 (y : Int) ∧ OwnI wq w.heap.size v1 (dirtyL y d.C) ∧ OwnI wq w.heap.size v2 (dirtyC y d.C) ∧ (v1.ownBlock = none ∨ v1.ownBlock ≠ v2.ownBlock) ∧ Below w.heap.size w wq) (fun _ _ i _ => N - (intOf i).toNat)
  case atStart => exact ⟨0, _, _, rfl, rfl, Nat.zero_le _, rfl, OwnI.nil _ _, OwnI.nil _ _, .inl rfl, Below.refl _ _⟩
  case round =>
    obtain ⟨y, v1, v2, rfl, rfl, hy, rfl, ho1, ho2, hne, hbw⟩ := hrel
    have hba := RDk.below H.out hbw
    have c1 := hba.c0
    have hy0 : (0 : Int) ≤ (y : Int) := by omega
    have hyw : IntKind.i64.wrap ((y : Int) + 1) = ((y + 1 : Nat) : Int) := by rw [IntKind.wrap_i64]; omega
    have hdl := dirty_len2 y d.C
    by_cases hlty : y < N
    · have hltyi : (y : Int) < (N : Int) := by omega
      have cv := hba.s2 y hlty
      obtain ⟨av, cvv, hv, -, -⟩ := hba.versV y hlty
      obtain ⟨ln, hln⟩ : ∃ n, n = (d.C y).length := ⟨_, rfl⟩
      rw [hv, ← hln] at cv
      have hlb : ln ≤ 1099511627776 := by rw [hln]; exact HFEW.out y hlty
      have HLN : Hid _ := hln
      have HBA : Hid _ := hba
      have HO1 : Hid _ := ho1
      have HO2 : Hid _ := ho2
      have HNE : Hid _ := hne
      have HBW : Hid _ := hbw
      have HVV : Hid (VV y = .slice av ln cvv) := by rw [hln]; exact hv
      clear hv hln hba ho1 ho2 hne hbw
      by_cases q1 : ln = 0
      · have q1i : ¬ (0 : Int) < (ln : Int) := by omega
        have hCe : d.C y = [] := List.eq_nil_of_length_eq_zero (by rw [← HLN.out]; exact q1)
        have HE : Hid (dirtyL (y + 1) d.C = dirtyL y d.C ∧ dirtyC (y + 1) d.C = dirtyC y d.C) := ⟨by rw [dirtyL_succ, if_pos hCe], by rw [dirtyC_succ, if_pos hCe]⟩
        clear hCe
        go_wp2
        go_roundw
        case rel => exact ⟨y + 1, v1, v2, rfl, rfl, by omega, rfl, by rw [HE.out.1]; exact HO1.out, by rw [HE.out.2]; exact HO2.out, HNE.out, HBW.out⟩
        case measure => simp [intOf]; omega
      · have q1i : (0 : Int) < (ln : Int) := by omega
        have hCe : d.C y ≠ [] := fun e => q1 (by rw [HLN.out, e]; rfl)
        have HE : Hid (dirtyL (y + 1) d.C = dirtyL y d.C ++ [(y : Int)] ∧ dirtyC (y + 1) d.C = dirtyC y d.C ++ [(ln : Int)]) := ⟨by rw [dirtyL_succ, if_neg hCe], by rw [dirtyC_succ, if_neg hCe, HLN.out]⟩
        obtain ⟨nl, hnl⟩ : ∃ n, n = (dirtyL y d.C).length := ⟨_, rfl⟩
        have hnlb : nl ≤ 65536 := by omega
        have HNLL : Hid _ := hnl
        clear hnl hdl hCe
        obtain ⟨X, hX⟩ : ∃ X : World, X = wr.alloc (.cells #[.int .i64 (y : Int)] 3) := ⟨_, rfl⟩
        have hXb : Below wr.heap.size wr X := by rw [hX]; exact al (Below.refl _ _) _
        have hXr : X.heap[wr.heap.size]? = some (.cells #[.int .i64 (y : Int)] 3 (0, 0)) := by rw [hX]; exact heap_alloc_new wr _
        have hoX : OwnI X w.heap.size v1 (dirtyL y d.C) := OwnI.below HO1.out hXb
        have hBX : w.heap.size ≤ X.heap.size := Nat.le_trans (Below.size HBW.out) hXb.size
        have HXB : Hid _ := hXb
        clear hXb
        go_wp2_with (first
          | (at_builtin; rw [← hX]; refine wp_appIm rfl _ _ rfl w.heap.size v1 (dirtyL y d.C) nl HNLL.out (y : Int) wr.heap.size (by rfl) hoX (by rfl) hXr (by omega) hBX ?_; intro g7 cap7 w7 how7 hg7 hwh7; have hcg7 : Chg (fun b => v1.ownBlock = some b) X w7 := Chg.of_grown hg7 (fun b hb => hb); have hbb7 : Below w.heap.size w w7 := (Below.trans HBW.out (HXB.out.mono (Below.size HBW.out))).trans (hcg7.below (fun b hb => (World.ownsRow.lt hoX b hb).1) hBX); have HBA7 := RDk.below H.out hbb7; have c17 := HBA7.c0; have cv7 : w7.cell? ⟨gs, y * 3 + 2, none⟩ = some (.slice av ln cvv) := (by rw [HBA7.s2 y hlty, HVV.out]); clear hX)
          | (at_builtin; refine wp_appIm rfl _ _ rfl w.heap.size v2 (dirtyC y d.C) nl (by rw [HNLL.out, (dirty_len2 y d.C).2]) (ln : Int) w7.heap.size (by rfl) (OwnI.below (OwnI.chgR (OwnI.below HO2.out HXB.out) hcg7 (fun b hb hb1 => by rcases HNE.out with e | e; (· rw [e] at hb1; cases hb1); (· exact e (hb1.trans hb.symm)))) (al (Below.refl _ _) _)) (by rfl) (heap_alloc_new w7 _) (by omega) (by have := hbb7.size; simp; omega) ?_; intro g8 cap8 w8 how8 hg8 hwh8))
        have hsx := HXB.out.size
        have hs7 := hcg7.size
        have hU : Below w7.heap.size w7 (w7.alloc (.cells #[.int .i64 (ln : Int)] 3)) := al (Below.refl _ _) _
        have hsU := hU.size
        have hcg8 : Chg (fun b => v2.ownBlock = some b) (w7.alloc (.cells #[.int .i64 (ln : Int)] 3)) w8 := Chg.of_grown hg8 (fun b hb => hb)
        have hl2 : ∀ b, v2.ownBlock = some b → w.heap.size ≤ b ∧ b < wr.heap.size := fun b hb => World.ownsRow.lt HO2.out b hb
        have hn7 : ¬ v2.ownBlock = some g7 := fun e9 => by
          rcases hwh7 with e | e
          · rcases HNE.out with e1 | e1
            · rw [e1] at e; cases e
            · exact e1 (e.trans e9.symm)
          · have := (hl2 g7 e9).2
            omega
        have hg7l : g7 < w7.heap.size := (World.ownsRow.lt how7 g7 rfl).2
        go_roundw
        case rel =>
          refine ⟨y + 1, _, _, rfl, rfl, by omega, rfl, ?_, ?_, .inr ?_, ?_⟩
          · rw [HE.out.1]
            exact (how7.below hU).chgR hcg8 (fun b hb => by simp [Value.ownBlock] at hb; subst hb; exact hn7)
          · rw [HE.out.2]
            exact how8
          · simp only [Value.ownBlock]
            intro e9
            have e9 := Option.some.inj e9
            rcases hwh8 with e | e
            · exact hn7 (by rw [e, e9])
            · omega
          · exact (below_next hbb7 hU).trans (hcg8.below (fun b hb => (hl2 b hb).1) (by have := hbb7.size; omega))
        case measure => simp [intOf]; omega
    · have hltyi : ¬ (y : Int) < (N : Int) := by omega
      obtain rfl : y = N := by omega
      have HO1 : Hid _ := ho1
      have HO2 : Hid _ := ho2
      have HBW : Hid _ := hbw
      clear ho1 ho2 hbw hba hne hdl
      go_wp2
      go_ret2
      exact ⟨_, _, rfl, HO1.out, HO2.out, HBW.out⟩
end Go.Proofs.Ytgdkiejlggiakac
