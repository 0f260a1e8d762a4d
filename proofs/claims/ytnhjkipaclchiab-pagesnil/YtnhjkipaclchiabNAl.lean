import Derived.Test.YtnhjkipaclchiabND
import Derived.Test.YtnhjkipaclchiabQAny
namespace Go.Proofs.Ytnhjkipaclchiab
set_option linter.unusedVariables false
set_option linter.unusedSimpArgs false
open Go.RowKit Go.Shelf
attribute [local go_sem] Oper.semAt_some
theorem fold2 (p0 p1 : Tmp) (x : Ent) (t : Array Value) : ((#[p0, p1] : Array Tmp).zip (encU x)).foldl (fun t (p, v) => t.setIfInBounds p v) t = (t.setIfInBounds p0 (sv x.st)).setIfInBounds p1 x.v := by
  have e : (#[p0, p1] : Array Tmp).zip (encU x) = #[(p0, sv x.st), (p1, x.v)] := by simp [encU, Array.zip, ← Array.toList_inj]
  rw [e]
  simp
section
set_option maxRecDepth 100000
set_option maxHeartbeats 6400000
theorem along0_t {w : World} {x : Value} (h : Zero w x) (kd : Int) (s1 s2 n : Nat) : Calls Try.prog 29 #[x, opw kd s1 s2 n] w fun e w' => e = .returned (.slice none 0 0) ∧ Below w.heap.size w w' := by
  refine (callsIn_wide (n := 12)).1 ?_
  have HZ : Hid (Zero w x) := h
  obtain ⟨px, rfl⟩ : ∃ g, x = .pointer g := by rcases h with rfl | ⟨g, rfl, -⟩ <;> exact ⟨_, rfl⟩
  clear h
  have hefn := eql_func_nil
  obtain ⟨W1, hW1⟩ : ∃ X : World, X = ((w.alloc (.cells #[.int .i64 kd, .int .u64 (s1 : Int), .int .u64 (s2 : Int), .int .u64 (n : Int)] tOp)).alloc (.cells #[.slice none 0 0] tUs)).alloc (.cells #[.int .i64 ((n : Int) % 64)] 3) := ⟨_, rfl⟩
  have HBW : Hid (Below w.heap.size w W1) := (show Below w.heap.size w W1 by rw [hW1]; exact al (al (al (Below.refl _ _) _) _) _)
  obtain ⟨H, hH⟩ : ∃ H, H = w.heap.size := ⟨_, rfl⟩
  have HH : Hid (H = w.heap.size) := hH
  have HA : Hid (W1.heap[H]? = some (.cells #[.int .i64 kd, .int .u64 (s1 : Int), .int .u64 (s2 : Int), .int .u64 (n : Int)] tOp (0, 0)) ∧ W1.heap[H + 1]? = some (.cells #[.slice none 0 0] tUs (0, 0)) ∧ W1.heap[H + 1 + 1]? = some (.cells #[.int .i64 ((n : Int) % 64)] 3 (0, 0))) := (show _ ∧ _ ∧ _ by
    rw [hW1, hH]
    have h2 := two_new w (.cells #[.int .i64 kd, .int .u64 (s1 : Int), .int .u64 (s2 : Int), .int .u64 (n : Int)] tOp) (.cells #[.slice none 0 0] tUs)
    have h3 := heap_alloc_new ((w.alloc (.cells #[.int .i64 kd, .int .u64 (s1 : Int), .int .u64 (s2 : Int), .int .u64 (n : Int)] tOp)).alloc (.cells #[.slice none 0 0] tUs)) (.cells #[.int .i64 ((n : Int) % 64)] 3)
    rw [World.size_alloc, World.size_alloc] at h3
    exact ⟨(Below.heap_alloc _ _ _ (by simp; omega)).trans h2.1, (Below.heap_alloc _ _ _ (by simp)).trans h2.2, h3⟩)
  obtain ⟨m, hm⟩ : ∃ m : Int, m = (n : Int) % 64 := ⟨_, rfl⟩
  refine callsIn_of_wp_marks Try.func29 rfl trivial ?_ rfl
  simp only [Try.ntmps29, List.size_toArray, List.length_cons, List.length_nil, Nat.reduceAdd, Nat.reduceSub, Array.replicate_succ, Array.replicate_zero, List.push_toArray, List.append_toArray, List.nil_append, List.cons_append]
  refine wpIn_wide.2 ?_
  go_wp2_with fail
  rw [← hW1]
  simp only [← hm, ← hH]
  rw [← hm] at HA
  clear hW1 hm hH
  refine Calls.mono (up_t (.pointer px) rfl px rfl s1 s2 W1) ?_
  rintro e z ⟨rfl, hz⟩
  have HBZ : Hid (Below W1.heap.size W1 z) := (show Below _ _ _ by rw [hz]; exact al (al (Below.refl _ _) _) _)
  have ht := two_new W1 (.cells #[.pointer px] 23) (.cells #[.int .u64 (s1 : Int), .int .u64 (s2 : Int)] tSt)
  rw [← hz] at ht
  obtain ⟨gx, hgx⟩ : ∃ gx, gx = W1.heap.size := ⟨_, rfl⟩
  rw [← hgx] at ht ⊢
  have HT : Hid (z.heap[gx]? = some (.cells #[.pointer px] 23 (0, 0)) ∧ z.heap[gx + 1]? = some (.cells #[.int .u64 (s1 : Int), .int .u64 (s2 : Int)] tSt (0, 0))) := ht
  clear hz ht hgx
  have HK : Hid (∀ k o, W1.heap[k]? = some o → z.heap[k]? = some o) := fun k o h9 => (HBZ.out.block k (Array.getElem?_eq_some_iff.1 h9).1).trans h9
  have hck : z.cell? ⟨H, 0, none⟩ = some (.int .i64 kd) := by rw [cell_of_row _ _ _ _ _ _ (HK.out _ _ HA.out.1)]; rfl
  by_cases hkd : kd = 10
  · subst hkd
    go_wp2_with (first | (refine wpList_load_mid rfl tSt _ rfl H 1 rfl (sc (s1, s2)) _ (box_off (HK.out _ _ HA.out.1)) Try.underlying33 rfl info_st ?_))
    refine Calls.mono (down_t (.pointer px) rfl px rfl s1 s2 z) ?_
    rintro e y ⟨rfl, hy⟩
    have HBY : Hid (Below z.heap.size z y) := (show Below _ _ _ by rw [hy]; exact al (al (Below.refl _ _) _) _)
    have ht := two_new z (.cells #[.pointer px] 23) (.cells #[.int .u64 (s1 : Int), .int .u64 (s2 : Int)] tSt)
    rw [← hy] at ht
    obtain ⟨gy, hgy⟩ : ∃ gy, gy = z.heap.size := ⟨_, rfl⟩
    rw [← hgy] at ht ⊢
    have HT2 : Hid (y.heap[gy]? = some (.cells #[.pointer px] 23 (0, 0)) ∧ y.heap[gy + 1]? = some (.cells #[.int .u64 (s1 : Int), .int .u64 (s2 : Int)] tSt (0, 0))) := ht
    clear hy ht hgy
    have HKY : Hid (∀ k o, W1.heap[k]? = some o → y.heap[k]? = some o) := fun k o h9 => (HBY.out.block k (Array.getElem?_eq_some_iff.1 (HK.out k o h9)).1).trans (HK.out k o h9)
    have HBWY : Hid (Below w.heap.size w y) := below_next (below_next HBW.out HBZ.out) HBY.out
    have hcm : y.cell? ⟨H + 1 + 1, 0, none⟩ = some (.int .i64 m) := by rw [cell_of_row _ _ _ _ _ _ (HKY.out _ _ HA.out.2.2)]; rfl
    have hcl : y.cell? ⟨H + 1, 0, none⟩ = some (.slice none 0 0) := by rw [cell_of_row _ _ _ _ _ _ (HKY.out _ _ HA.out.2.1)]; rfl
    have HBN : Hid (Below w.heap.size w y) := HBWY.out
    by_cases hm0 : m = 0
    · subst hm0
      go_wp2_with fail
      exact ⟨_, results_tmp rfl _ _ _, rfl, HBN.out⟩
    · have hm0b : (m == 0) = false := by simpa using hm0
      obtain ⟨z2, hz2⟩ : ∃ Y : World, Y = y.alloc (.cells #[.int .i64 0] 3) := ⟨_, rfl⟩
      have HB2 : Hid (Below y.heap.size y z2) := (show Below _ _ _ by rw [hz2]; exact al (Below.refl _ _) _)
      have HN2 : Hid (Below w.heap.size w z2) := below_next HBN.out HB2.out
      have HL2 : Hid (z2.heap[H + 1]? = some (.cells #[.slice none 0 0] tUs (0, 0))) := (HB2.out.block _ (Array.getElem?_eq_some_iff.1 (HKY.out _ _ HA.out.2.1)).1).trans (HKY.out _ _ HA.out.2.1)
      have HSQ : Hid (SeqG Fence.wide 11 Try.prog 45 #[.pointer (some ⟨gy, 0, none⟩), .pointer (some ⟨gy + 1, 0, none⟩)] encU (EntB z2) (fun xs => xs = []) (fun pre => pre <+: ([] : List Ent)) 0 z2) := (down_G0 11 (by decide) gy (gy + 1) (.pointer px) none 0 (.inl ⟨rfl, rfl⟩) rfl px rfl s1 s2 z2 (by rw [cell_of_row _ _ _ _ _ _ ((HB2.out.block _ (Array.getElem?_eq_some_iff.1 HT2.out.1).1).trans HT2.out.1)]; rfl) (box_range ((HB2.out.block _ (Array.getElem?_eq_some_iff.1 HT2.out.2).1).trans HT2.out.2)) (HZ.out.below HN2.out).pg)
      go_wp2_with fail
      rw [← hz2]
      clear hz2
      refine (wpIn_wide (n := 12)).1 ?_
      refine wpIn_rangeFunc_G rfl (by decide) (gf := 45) (lb := #[.pointer (some ⟨gy, 0, none⟩), .pointer (some ⟨gy + 1, 0, none⟩)]) rfl trivial (enters_of Try.func45 (by kernel_rfl) rfl) HSQ.out (fun k hk => hk.1) (fun _ => rfl)
        (fun pre Z V => Below z2.heap.size z2 V ∧ (∀ k, Z k → k < V.heap.size))
        (fun c pre Z V => False)
        ⟨fun s Z V V' row hs hg hr => ⟨hs.1.grown hg hs.1.size (fun r e => (hr r e).1), (fun k hk => by
            rcases hk with hk | ⟨-, hk⟩
            · exact Nat.lt_of_lt_of_le (hs.2 k hk) hg.size
            · exact hk)⟩, fun s Z Z' V hs hz => ⟨hs.1, fun k hk => hs.2 k (hz k hk)⟩⟩
        (fun c => ⟨fun s Z V V' row hs _ _ => hs, fun s Z Z' V hs _ => hs⟩)
        ⟨Below.refl _ _, fun k hk => hk.1⟩
        (fun x a' V => True)
        (fun x a' s A B row hs hg hr => trivial)
        ?assign ?body ?done ?stop
      case assign =>
        rintro l pre Z ⟨⟨x1, x2⟩, xn⟩ V K ⟨hb, hzl⟩ hK
        simp only [fold2, List.setIfInBounds_toArray, List.set_cons_zero, List.set_cons_succ]
        gi_wp2
        exact hK _ _ ((KeepsOthers.alloc _ _).from _) (fun k hk => Below.heap_alloc V _ k (hzl k hk)) ⟨hb.alloc hb.size _, (fun k hk => by have := hzl k hk; simp; omega)⟩ trivial
      case body =>
        rintro l pre Z ⟨⟨x1, x2⟩, xn⟩ a' V hl hlr hI hA hlt
        exact absurd hlt (Nat.not_lt_zero _)
      case stop =>
        rintro D9 c pre Z V hD hpre hno hK
        exact hno.elim
      case done =>
        rintro D ys Z V hD rfl ⟨hb, -⟩ hK
        have HV : Hid (Below w.heap.size w V) := below_next HN2.out hb
        have hl9 : V.heap[H + 1]? = some (.cells #[.slice none 0 0] tUs (0, 0)) := (hb.block _ (Array.getElem?_eq_some_iff.1 HL2.out).1).trans HL2.out
        have hcl9 : V.cell? ⟨H + 1, 0, none⟩ = some (.slice none 0 0) := by rw [cell_of_row _ _ _ _ _ _ hl9]; rfl
        have HDV : Hid (V.heap[D]? = some (.deferred (some []))) := hK
        have HDD : Hid (w.heap.size ≤ D) := (show _ ≤ _ by have := HN2.out.size; omega)
        clear hl9 hb hK hD hcl hcm hck
        dsimp only
        go_wp2_with fail
        refine ⟨by simp, .inl ⟨_, _, rfl, run_takeDeferred HDV.out, ?_⟩⟩
        exact ⟨_, results_tmp rfl _ _ _, rfl, HV.out.trans (belowK_b (w := w) (Nat.le_refl _) _ D _ _ HDD.out HDV.out rfl rfl)⟩
  · have hkdb : (kd == 10) = false := by simpa using hkd
    have HBWZ : Hid (Below w.heap.size w z) := below_next HBW.out HBZ.out
    have hcm : z.cell? ⟨H + 1 + 1, 0, none⟩ = some (.int .i64 m) := by rw [cell_of_row _ _ _ _ _ _ (HK.out _ _ HA.out.2.2)]; rfl
    have hcl : z.cell? ⟨H + 1, 0, none⟩ = some (.slice none 0 0) := by rw [cell_of_row _ _ _ _ _ _ (HK.out _ _ HA.out.2.1)]; rfl
    have HBN : Hid (Below w.heap.size w z) := HBWZ.out
    by_cases hm0 : m = 0
    · subst hm0
      go_wp2_with fail
      exact ⟨_, results_tmp rfl _ _ _, rfl, HBN.out⟩
    · have hm0b : (m == 0) = false := by simpa using hm0
      obtain ⟨z2, hz2⟩ : ∃ Y : World, Y = z.alloc (.cells #[.int .i64 0] 3) := ⟨_, rfl⟩
      have HB2 : Hid (Below z.heap.size z z2) := (show Below _ _ _ by rw [hz2]; exact al (Below.refl _ _) _)
      have HN2 : Hid (Below w.heap.size w z2) := below_next HBN.out HB2.out
      have HL2 : Hid (z2.heap[H + 1]? = some (.cells #[.slice none 0 0] tUs (0, 0))) := (HB2.out.block _ (Array.getElem?_eq_some_iff.1 (HK.out _ _ HA.out.2.1)).1).trans (HK.out _ _ HA.out.2.1)
      have HSQ : Hid (SeqG Fence.wide 11 Try.prog 41 #[.pointer (some ⟨gx, 0, none⟩), .pointer (some ⟨gx + 1, 0, none⟩)] encU (EntB z2) (fun xs => xs = []) (fun pre => pre <+: ([] : List Ent)) 0 z2) := (up_stops0 11 (by decide) gx (gx + 1) (.pointer px) none 0 (.inl ⟨rfl, rfl⟩) rfl px rfl s1 s2 z2 (by rw [cell_of_row _ _ _ _ _ _ ((HB2.out.block _ (Array.getElem?_eq_some_iff.1 HT.out.1).1).trans HT.out.1)]; rfl) (box_range ((HB2.out.block _ (Array.getElem?_eq_some_iff.1 HT.out.2).1).trans HT.out.2)) (HZ.out.below HN2.out).pg)
      go_wp2_with fail
      rw [← hz2]
      clear hz2
      refine (wpIn_wide (n := 12)).1 ?_
      refine wpIn_rangeFunc_G rfl (by decide) (gf := 41) (lb := #[.pointer (some ⟨gx, 0, none⟩), .pointer (some ⟨gx + 1, 0, none⟩)]) rfl trivial (enters_of Try.func41 (by kernel_rfl) rfl) HSQ.out (fun k hk => hk.1) (fun _ => rfl)
        (fun pre Z V => Below z2.heap.size z2 V ∧ (∀ k, Z k → k < V.heap.size))
        (fun c pre Z V => False)
        ⟨fun s Z V V' row hs hg hr => ⟨hs.1.grown hg hs.1.size (fun r e => (hr r e).1), (fun k hk => by
            rcases hk with hk | ⟨-, hk⟩
            · exact Nat.lt_of_lt_of_le (hs.2 k hk) hg.size
            · exact hk)⟩, fun s Z Z' V hs hz => ⟨hs.1, fun k hk => hs.2 k (hz k hk)⟩⟩
        (fun c => ⟨fun s Z V V' row hs _ _ => hs, fun s Z Z' V hs _ => hs⟩)
        ⟨Below.refl _ _, fun k hk => hk.1⟩
        (fun x a' V => True)
        (fun x a' s A B row hs hg hr => trivial)
        ?assign ?body ?done ?stop
      case assign =>
        rintro l pre Z ⟨⟨x1, x2⟩, xn⟩ V K ⟨hb, hzl⟩ hK
        simp only [fold2, List.setIfInBounds_toArray, List.set_cons_zero, List.set_cons_succ]
        gi_wp2
        exact hK _ _ ((KeepsOthers.alloc _ _).from _) (fun k hk => Below.heap_alloc V _ k (hzl k hk)) ⟨hb.alloc hb.size _, (fun k hk => by have := hzl k hk; simp; omega)⟩ trivial
      case body =>
        rintro l pre Z ⟨⟨x1, x2⟩, xn⟩ a' V hl hlr hI hA hlt
        exact absurd hlt (Nat.not_lt_zero _)
      case stop =>
        rintro D9 c pre Z V hD hpre hno hK
        exact hno.elim
      case done =>
        rintro D ys Z V hD rfl ⟨hb, -⟩ hK
        have HV : Hid (Below w.heap.size w V) := below_next HN2.out hb
        have hl9 : V.heap[H + 1]? = some (.cells #[.slice none 0 0] tUs (0, 0)) := (hb.block _ (Array.getElem?_eq_some_iff.1 HL2.out).1).trans HL2.out
        have hcl9 : V.cell? ⟨H + 1, 0, none⟩ = some (.slice none 0 0) := by rw [cell_of_row _ _ _ _ _ _ hl9]; rfl
        have HDV : Hid (V.heap[D]? = some (.deferred (some []))) := hK
        have HDD : Hid (w.heap.size ≤ D) := (show _ ≤ _ by have := HN2.out.size; omega)
        clear hl9 hb hK hD hcl hcm hck
        dsimp only
        go_wp2_with fail
        refine ⟨by simp, .inl ⟨_, _, rfl, run_takeDeferred HDV.out, ?_⟩⟩
        exact ⟨_, results_tmp rfl _ _ _, rfl, HV.out.trans (belowK_b (w := w) (Nat.le_refl _) _ D _ _ HDD.out HDV.out rfl rfl)⟩
end
end Go.Proofs.Ytnhjkipaclchiab
