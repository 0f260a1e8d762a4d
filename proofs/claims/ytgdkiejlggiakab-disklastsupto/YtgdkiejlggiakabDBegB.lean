import Derived.Test.YtgdkiejlggiakabDBook
import Derived.Deep.AppendLies
namespace Go.Proofs.Ytgdkiejlggiakab
set_option linter.unusedVariables false
set_option linter.unusedSimpArgs false
open Go.RowKit Go.Maps
/-- a row of slices of the call's own -/
def OwnS (w : World) (B : Nat) (v : Value) (vs : List Value) : Prop := w.ownsRow B 38 1 v vs.length vs
theorem infoS : (Try.prog.info? 38).map (fun i => (i.zero, i.size, i.bytes)) = some (some (.slice none 0 0), 1, 24) := by kernel_rfl
theorem OwnS.below {w w' : World} {B : Nat} {v : Value} {xs : List Value} (h : OwnS w B v xs) (hb : Below w.heap.size w w') : OwnS w' B v xs :=
  World.ownsRow.kept h (gr_below (World.grownBy.refl w none) hb) (by cases hv : v.ownBlock <;> simp)
theorem wp_appS {w : World} {ops : Array Oper} {rest : List Oper} {o : Oper} {a : Act} {Q : Exit → Act → World → Prop} (hgd : o.guard = none) (s x : Operand)
    (ho : o.op = .call { callee := .builtin .append, args := #[s, x], argTypes := #[60, 60] }) (B : Nat) (v : Value) (xs : List Value) (y : Value) (g : Nat)
    (hs : a.eval s = v) (hown : OwnS w B v xs) (hx : a.eval x = .slice (some ⟨g, 0, none⟩) 1 1) (hg : w.heap[g]? = some (.cells #[y] 38 (0, 0))) (hy : y.oneCell' = true) (hb : xs.length ≤ 1099511627776) (hbase : B ≤ w.heap.size)
    (h : ∀ g' cap w', OwnS w' B (.slice (some ⟨g', 0, none⟩) (xs.length + 1) cap) (xs ++ [y]) → w.grownBy w' v.ownBlock → (v.ownBlock = some g' ∨ g' = w.heap.size) → wpList Try.prog ops Q rest (a.put o.dst (.slice (some ⟨g', 0, none⟩) (xs.length + 1) cap)) w') : wpList Try.prog ops Q (o :: rest) a w := by
  obtain ⟨i0, hi, hz0, hz1, hz2⟩ := info_parts infoS
  refine wpList_append_lies w hgd s x 60 ho B 38 i0 (.slice none 0 0) 1 24 Try.underlying60 hi hz0 hz1 hz2 rfl (by decide) v xs.length xs hs hown ⟨g, 0, none⟩ 1 1 [y] hx rfl (World.news_of_block hg) (by intro u hu; simp at hu; subst hu; exact hy) (by decide) (by simp only [maxLen]; omega) (by omega) hbase w.heap.size rfl ?_
  intro g' cap w' h1 h2 h3 _
  refine h g' cap w' ?_ h2 h3
  unfold OwnS
  rw [List.length_append]
  exact h1
/-- the slices of a new book -/
def slG (G : Nat → Nat) (i : Nat) : Value := .slice (some ⟨G i, 0, none⟩) 1 1
theorem own_one {w : World} {B g : Nat} (hB : B ≤ g) (h : w.heap[g]? = some (.cells #[.int .i64 0] 3 (0, 0))) : OwnI w B (.slice (some ⟨g, 0, none⟩) 1 1) [0] := ⟨rfl, .inr ⟨g, 1, _, rfl, hB, h, Nat.le_refl _, by decide, rfl, rfl⟩⟩
theorem set3_1 {w : World} {p : Nat} {a b c : Value} {t : TypeId} (h : w.heap[p]? = some (.cells #[a, b, c] t (0, 0))) (v : Value) : (w.setCell ⟨p, 1, none⟩ v).heap[p]? = some (.cells #[a, v, c] t (0, 0)) := by rw [heap_setCell_same w p 1 _ t v h]; rfl
theorem set3_2 {w : World} {p : Nat} {a b c : Value} {t : TypeId} (h : w.heap[p]? = some (.cells #[a, b, c] t (0, 0))) (v : Value) : (w.setCell ⟨p, 2, none⟩ v).heap[p]? = some (.cells #[a, b, v] t (0, 0)) := by rw [heap_setCell_same w p 2 _ t v h]; rfl
theorem OwnS.at_ {w : World} {B b : Nat} {v : Value} {xs : List Value} (h : OwnS w B v xs) (hb : v.ownBlock = some b) : ∃ cur, w.heap[b]? = some (.cells cur 38 (0, 0)) := by
  rcases h.2 with ⟨rfl, -⟩ | ⟨g, cap, cur, rfl, -, hg, -⟩
  · simp [Value.ownBlock] at hb
  · simp [Value.ownBlock] at hb
    subst hb
    exact ⟨cur, hg⟩
theorem OwnS.chg {w w' : World} {B : Nat} {v : Value} {xs : List Value} {F : Nat → Prop} (h : OwnS w B v xs) (hc : Chg F w w') (hne : ∀ b, v.ownBlock = some b → ¬ F b) : OwnS w' B v xs := by
  refine ⟨h.1, ?_⟩
  rcases h.2 with h0 | ⟨g, cap, cur, e, hB, hg, r⟩
  · exact .inl h0
  · exact .inr ⟨g, cap, cur, e, hB, (hc.block g (Array.getElem?_eq_some_iff.1 hg).1 (hne g (by rw [e]; rfl))).trans hg, r⟩
set_option maxRecDepth 20000 in
set_option maxHeartbeats 1600000 in
theorem begin_b (n0 : Int) (W : World) (hn0 : -9223372036854775808 ≤ n0 ∧ n0 ≤ 9223372036854775807) :
    Calls Try.prog 25 #[.int .i64 n0] W fun e w' => ∃ kb, e = .returned (.tuple #[.pointer (some ⟨kb, 0, none⟩), .bool true]) ∧ Bk W w' kb (spanS n0 1 65536) (d0 (spanS n0 1 65536)) (fun _ => [0]) 1 0 := by
  have HN0 : Hid _ := hn0
  have hin := spanS_in n0 1 65536 (by decide)
  have HSP := span_t n0 1 65536 W HN0.out.1 HN0.out.2 (by decide) (by decide)
  obtain ⟨N, hN⟩ : ∃ N : Nat, N = spanS n0 1 65536 := ⟨_, rfl⟩
  rw [← hN] at hin HSP ⊢
  have HIN : Hid _ := hin
  have HSP' : Hid _ := HSP
  have HNEW : Hid _ := new_t N HIN.out.1 HIN.out.2 W
  clear hn0 hin hN HSP
  go_enter Try.func25, Try.ntmps25
  go_wp2_with fail
  refine Calls.mono HSP'.out ?_
  rintro e w1 ⟨rfl, hq⟩
  have hq := hq.symm
  subst hq
  go_wp2_with fail
  refine Calls.mono HNEW.out ?_
  rintro e w1 ⟨rfl, hw1⟩
  have hat := newW_at W N HIN.out.1 HIN.out.2
  have hbw := newW_below W N
  rw [← hw1] at hat hbw
  obtain ⟨p, hp⟩ : ∃ p : Nat, p = W.heap.size + 2 := ⟨_, rfl⟩
  obtain ⟨m, hm⟩ : ∃ p : Nat, p = W.heap.size + 1 := ⟨_, rfl⟩
  obtain ⟨g, hg⟩ : ∃ p : Nat, p = W.heap.size := ⟨_, rfl⟩
  rw [← hp, ← hm, ← hg] at hat
  rw [← hp]
  have hdk := hat.dk (rep_fit N)
  have HFT : Hid (∀ b, foot p g m (fun _ => nilS) b → W.heap.size ≤ b) := by
    rintro b (rfl | rfl | rfl | ⟨i, e⟩)
    · omega
    · omega
    · omega
    · simp [nilS, Value.ownBlock] at e
  obtain ⟨kb, hkb⟩ : ∃ kb : Nat, kb = w1.heap.size := ⟨_, rfl⟩
  obtain ⟨w2, hw2⟩ : ∃ w2 : World, w2 = w1.alloc (.cells #[.pointer (some ⟨p, 0, none⟩), .slice none 0 0, .int .i64 1] 62) := ⟨_, rfl⟩
  have hk2 : w2.heap[kb]? = some (.cells #[.pointer (some ⟨p, 0, none⟩), .slice none 0 0, .int .i64 1] 62 (0, 0)) := by rw [hw2, hkb]; exact heap_alloc_new w1 _
  have hb12 : Below w1.heap.size w1 w2 := by rw [hw2]; exact al (Below.refl _ _) _
  have HKW : Hid (W.heap.size ≤ kb) := by rw [hkb]; exact hbw.size
  have HDK : Hid (DS w2 p g m (d0 N) (fun _ => nilS) 0) := DK.below hdk hb12
  have HK2 : Hid _ := hk2
  have HBW : Hid (Below W.heap.size W w2) := below_next hbw hb12
  clear hw1 hat hdk hbw hp hm hg hk2 hb12 HNEW HSP' HN0
  go_wp2_with fail
  rw [← hw2, ← hkb]
  clear hw2 hkb
  go_loopw [8] (fun i wr => ∃ (k : Nat) (v : Value) (G : Nat → Nat), k ≤ N ∧ i = .int .i64 (k : Int) ∧ wr.heap[kb]? = some (.cells #[.pointer (some ⟨p, 0, none⟩), v, .int .i64 1] 62 (0, 0)) ∧ OwnS wr W.heap.size v ((List.range k).map (slG G)) ∧ (∀ j, j < k → W.heap.size ≤ G j ∧ wr.heap[G j]? = some (.cells #[.int .i64 0] 3 (0, 0))) ∧ (∀ i j, i < j → j < k → G i < G j) ∧ DS wr p g m (d0 N) (fun _ => nilS) 0 ∧ Below W.heap.size W wr) (fun i _ => N - (intOf i).toNat)
  case atStart => exact ⟨0, _, fun _ => 0, Nat.zero_le _, rfl, HK2.out, World.ownsRow_nil _ _ _ _, fun j hj => absurd hj (Nat.not_lt_zero _), fun i j _ hj => absurd hj (Nat.not_lt_zero _), HDK.out, HBW.out⟩
  case round =>
    obtain ⟨k, v, G, hk, rfl, hkr, hown, hG, hGm, hdk, hbl⟩ := hrel
    clear HK2 HDK HBW
    have hkN := HIN.out.2
    have hkw : IntKind.i64.wrap ((k : Int) + 1) = ((k + 1 : Nat) : Int) := by rw [IntKind.wrap_i64]; omega
    by_cases hlt : k < N
    · have hlti : (k : Int) < (N : Int) := by omega
      obtain ⟨x1, hx1⟩ : ∃ x1 : World, x1 = wr.alloc (.cells #[.int .i64 0] 3) := ⟨_, rfl⟩
      obtain ⟨X, hX⟩ : ∃ X : World, X = x1.alloc (.cells #[.slice (some ⟨wr.heap.size, 0, none⟩) 1 1] 38) := ⟨_, rfl⟩
      have hb1 : Below wr.heap.size wr x1 := by rw [hx1]; exact al (Below.refl _ _) _
      have hb2 : Below x1.heap.size x1 X := by rw [hX]; exact al (Below.refl _ _) _
      have hsz1 : x1.heap.size = wr.heap.size + 1 := by rw [hx1]; simp
      have hr1 : x1.heap[wr.heap.size]? = some (.cells #[.int .i64 0] 3 (0, 0)) := by rw [hx1]; exact heap_alloc_new wr _
      have hrX : X.heap[wr.heap.size + 1]? = some (.cells #[.slice (some ⟨wr.heap.size, 0, none⟩) 1 1] 38 (0, 0)) := by rw [hX, ← hsz1]; exact heap_alloc_new x1 _
      have hbX : Below wr.heap.size wr X := below_next hb1 hb2
      have hownX := hown.below hbX
      have hc1 : wr.cell? ⟨kb, 1, none⟩ = some v := by rw [cell_of_row _ _ 1 _ _ _ hkr]; rfl
      have hWX : W.heap.size ≤ X.heap.size := Nat.le_trans hbl.size hbX.size
      have hXe : X = (wr.alloc (.cells #[.int .i64 0] 3)).alloc (.cells #[.slice (some ⟨wr.heap.size, 0, none⟩) 1 1] 38) := by rw [hX, hx1]
      have HKX : Hid (X.heap[kb]? = some (.cells #[.pointer (some ⟨p, 0, none⟩), v, .int .i64 1] 62 (0, 0))) := (hbX.block kb (Array.getElem?_eq_some_iff.1 hkr).1).trans hkr
      have HGX : Hid (∀ j, j < k → W.heap.size ≤ G j ∧ G j < wr.heap.size ∧ X.heap[G j]? = some (.cells #[.int .i64 0] 3 (0, 0))) := fun j hj => ⟨(hG j hj).1, (Array.getElem?_eq_some_iff.1 (hG j hj).2).1, (hbX.block _ (Array.getElem?_eq_some_iff.1 (hG j hj).2).1).trans (hG j hj).2⟩
      have HGN : Hid (X.heap[wr.heap.size]? = some (.cells #[.int .i64 0] 3 (0, 0))) := (hb2.block _ (by omega)).trans hr1
      have HDX : Hid _ := DK.below hdk hbX
      have HGM : Hid _ := hGm
      have HBX : Hid (Below W.heap.size W X) := below_next hbl hbX
      have HWR : Hid (W.heap.size ≤ wr.heap.size) := hbl.size
      have hkl : ((List.range k).map (slG G)).length = k := by simp
      have HOX : Hid _ := hownX
      clear hX hx1 hb1 hb2 hsz1 hr1 hbX hown hkr hG hdk hGm hbl
      have hcX : X.cell? ⟨kb, 1, none⟩ = some v := by rw [cell_of_row _ _ 1 _ _ _ HKX.out]; rfl
      go_wp2_with (first
        | (at_builtin; rw [← hXe]; refine wp_appS rfl _ _ rfl W.heap.size v ((List.range k).map (slG G)) (.slice (some ⟨wr.heap.size, 0, none⟩) 1 1) (wr.heap.size + 1) (by rfl) HOX.out (by rfl) hrX rfl (by rw [hkl]; omega) hWX ?_; intro g' cap' w3 how3 hg3 hd3; rw [hkl] at how3 ⊢; have hk3 : w3.heap[kb]? = some (.cells #[.pointer (some ⟨p, 0, none⟩), v, .int .i64 1] 62 (0, 0)) := (by refine ((Chg.of_grown (F := fun b => v.ownBlock = some b) hg3 (fun b hb => hb)).block kb (Array.getElem?_eq_some_iff.1 HKX.out).1 (fun hv => ?_)).trans HKX.out; obtain ⟨cur, h9⟩ := OwnS.at_ HOX.out hv; rw [HKX.out] at h9; simp only [Option.some.injEq, Obj.cells.injEq] at h9; exact absurd h9.2.1 (by decide)); have hc3 : w3.cell? ⟨kb, 1, none⟩ = some v := (by rw [cell_of_row _ _ 1 _ _ _ hk3]; rfl); have hf3 := frozen_of_row w3 kb 1 _ _ hk3))
      have hcg3 : Chg (fun b => v.ownBlock = some b) X w3 := Chg.of_grown hg3 (fun b hb => hb)
      have hcg4 : Chg (fun b => b = kb) w3 (w3.setCell ⟨kb, 1, none⟩ (.slice (some ⟨g', 0, none⟩) (k + 1) cap')) := set_chg w3 kb 1 _
      have hk4 := set3_1 hk3 (.slice (some ⟨g', 0, none⟩) (k + 1) cap')
      go_wp2
      go_roundw
      case rel =>
        have hrowI : ∀ b : Nat, X.heap[b]? = some (Obj.cells #[.int .i64 0] 3 (0, 0)) → (w3.setCell ⟨kb, 1, none⟩ (.slice (some ⟨g', 0, none⟩) (k + 1) cap')).heap[b]? = some (Obj.cells #[.int .i64 0] 3 (0, 0)) := fun b hb => by
          have h8 := (hcg3.block b (Array.getElem?_eq_some_iff.1 hb).1 (fun hv => by
            obtain ⟨cur, h9⟩ := OwnS.at_ HOX.out hv
            rw [hb] at h9
            simp only [Option.some.injEq, Obj.cells.injEq] at h9
            exact absurd h9.2.1 (by decide))).trans hb
          exact (hcg4.block b (Array.getElem?_eq_some_iff.1 h8).1 (fun e => by
            subst e
            rw [hk3] at h8
            simp only [Option.some.injEq, Obj.cells.injEq] at h8
            exact absurd h8.2.1 (by decide))).trans h8
        have hd3 : DS w3 p g m (d0 N) (fun _ => nilS) 0 := DK.kept HDX.out hcg3 (fun b hb hv => by
          obtain ⟨cur, h9⟩ := OwnS.at_ HOX.out hv
          exact DK.notT HDX.out hb farSl h9)
        refine ⟨k + 1, _, upd G k wr.heap.size, by omega, rfl, hk4, ?_, fun j hj => ?_, fun i j hij hj => ?_, DK.kept hd3 hcg4 (fun b hb e => by subst e; exact DK.notT hd3 hb farBk hk3), ?_⟩
        · have e9 : (List.range (k + 1)).map (slG (upd G k wr.heap.size)) = (List.range k).map (slG G) ++ [.slice (some ⟨wr.heap.size, 0, none⟩) 1 1] := by
            rw [List.range_succ, List.map_append]
            congr 1
            · refine List.map_congr_left fun j hj => ?_
              have := List.mem_range.1 hj
              unfold slG
              rw [upd_other _ (by omega)]
            · simp [slG, upd_same]
          rw [e9]
          refine OwnS.chg how3 hcg4 (fun b hb e => ?_)
          subst e
          obtain ⟨cur, h9⟩ := OwnS.at_ how3 hb
          rw [hk3] at h9
          simp only [Option.some.injEq, Obj.cells.injEq] at h9
          exact absurd h9.2.1 (by decide)
        · by_cases e : j = k
          · subst e
            rw [upd_same]
            exact ⟨HWR.out, hrowI _ HGN.out⟩
          · rw [upd_other _ e]
            obtain ⟨h5, h6, h7⟩ := HGX.out j (by omega)
            exact ⟨h5, hrowI _ h7⟩
        · by_cases e : j = k
          · subst e
            rw [upd_same, upd_other _ (by omega)]
            exact (HGX.out i hij).2.1
          · rw [upd_other _ e, upd_other _ (by omega)]
            exact HGM.out i j hij (by omega)
        · exact Below.trans (Below.trans HBX.out (hcg3.below (fun b hb => (World.ownsRow.lt HOX.out b hb).1) hWX)) (hcg4.below (fun b hb => by rw [hb]; exact HKW.out) (Nat.le_trans hWX hcg3.size))
      case measure => simp [intOf]; omega
    · have hlti : ¬ (k : Int) < (N : Int) := by omega
      obtain rfl : k = N := by omega
      have HSE : Hid (Calls Try.prog 18 #[.pointer (some ⟨p, 0, none⟩)] wr fun e w' => e = .returned (.int .i64 (k : Int)) ∧ w' = wr) := by
        have h9 := sectors_t p _ _ _ wr (by rw [cell_of_row _ _ 0 _ _ _ (DK.hp hdk)]; rfl)
        rw [show (d0 k).S.length = k from by simp [d0]] at h9
        exact h9
      have HFIN : Hid (Bk W wr kb k (d0 k) (fun _ => [0]) 1 0) := by
        have h1N := HIN.out.1
        rcases hown.2 with ⟨-, h0⟩ | ⟨gm, cap, cur, rfl, hB, hg9, hn9, hm9, hs9, ht9⟩
        · simp at h0; omega
        · simp at hkr ht9
          refine ⟨⟨p, g, m, _, gm, cap, slG G, hdk, HFT.out, ⟨hkr, ⟨cur, hg9, fun i hi => ?_⟩, fun i hi => own_one (hG i hi).1 (hG i hi).2, fun i j hi hj hne e => ?_, fun i hi => by simp, HKW.out, hB⟩⟩, BookRel.start k, hbl⟩
          · have h8 : (cur.toList.take k)[i]? = some (slG G i) := by rw [ht9]; simp [hi]
            rw [List.getElem?_take_of_lt hi] at h8
            simpa using h8
          · simp [slG, Value.ownBlock] at e
            rcases Nat.lt_or_gt_of_ne hne with h5 | h5
            · have := hGm i j h5 hj; omega
            · have := hGm j i h5 hi; omega
      clear hown hkr hG hGm hdk hbl
      go_wp2_with fail
      refine HSE.out.mono ?_
      rintro e w9 ⟨rfl, hq⟩
      have hq := hq.symm
      subst hq
      go_wp2
      go_ret2
      exact ⟨kb, rfl, HFIN.out⟩
end Go.Proofs.Ytgdkiejlggiakab
