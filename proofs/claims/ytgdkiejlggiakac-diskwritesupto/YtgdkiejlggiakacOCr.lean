import Derived.Test.YtgdkiejlggiakacOAct
namespace Go.Proofs.Ytgdkiejlggiakac
set_option linter.unusedVariables false
set_option linter.unusedSimpArgs false
open Go.RowKit Go.Maps
theorem vI_one (ys : List Int) : ∀ u ∈ ys.map (Value.int .i64), u.oneCell' = true := by
  intro u hu
  obtain ⟨y, -, rfl⟩ := List.mem_map.1 hu
  rfl
theorem wp_appIL {w : World} {ops : Array Oper} {rest : List Oper} {o : Oper} {a : Act} {Q : Exit → Act → World → Prop} (hgd : o.guard = none) (s x : Operand)
    (ho : o.op = .call { callee := .builtin .append, args := #[s, x], argTypes := #[37, 37] }) (B : Nat) (v : Value) (xs ys : List Int) (n : Nat) (ao : Option Addr) (cap : Nat) (hn : n = ys.length)
    (hs : a.eval s = v) (hown : OwnI w B v xs) (hx : a.eval x = .slice ao n cap) (hr : Ints w ao ys) (hnil : ao = none → cap = 0)
    (hb : xs.length + n ≤ 1099511627776 * 4) (hbase : B ≤ w.heap.size)
    (h : ∀ v' w', OwnI w' B v' (xs ++ ys) → w.grownBy w' v.ownBlock → wpList Try.prog ops Q rest (a.put o.dst v') w') : wpList Try.prog ops Q (o :: rest) a w := by
  subst hn
  obtain ⟨i0, hi, hz0, hz1, hz2⟩ := info_parts infoI
  rcases ao with _ | ad
  · have h0 : ys = [] := by
      rcases ys with _ | ⟨y, ys⟩
      · rfl
      · obtain ⟨b, o, h1, _⟩ := hr 0 (by simp); cases h1
    subst h0
    obtain rfl := hnil rfl
    refine wpList_append_own_none hgd s x 37 ho B 3 i0 1 Try.underlying37 hi v xs.length (xs.map (Value.int .i64)) hs hown hx ?_
    exact h v w (by simpa using hown) ⟨rfl, rfl, rfl, Nat.le_refl _, fun _ _ _ => rfl⟩
  · refine wpList_append_own w hgd s x 37 ho B 3 i0 (.int .i64 0) 1 8 Try.underlying37 hi hz0 hz1 hz2 rfl (by decide) v xs.length (xs.map (Value.int .i64)) hs hown ad ys.length cap (ys.map (Value.int .i64)) hx (by simp) ?_ (vI_one ys) (by simp only [maxLen]; omega) (by omega) hbase ?_
    · intro j u hj
      have hlt : j < ys.length := by
        have := (List.getElem?_eq_some_iff.1 hj).1
        simpa using this
      obtain ⟨b, o, h1, hc⟩ := hr j hlt
      cases h1
      rw [List.getElem?_map, List.getElem?_eq_getElem hlt] at hj
      rw [Go.WideShapes.add_plain, hc]
      exact hj
    · intro v' w' h1 h2 _
      refine h v' w' ?_ h2
      unfold OwnI
      rw [List.length_append, List.map_append]
      exact h1
theorem own_madeI (w : World) : OwnI (w.alloc (.cells #[] 3)) w.heap.size (.slice (some ⟨w.heap.size, 0, none⟩) 0 0) [] := World.ownsRow_made w #[] 0 (Nat.le_refl _) (Nat.zero_le _) rfl
theorem size_in (u : World) : (sizeOf (Try.prog.elem 37)).run Try.prog u = .ok 1 u := by kernel_rfl
theorem sub_uptoI (g n cap k : Nat) (h : k ≤ cap) (h0 : 0 < cap) (u : World) : (Instr.slice 37 (.slice (some ⟨g, 0, none⟩) n cap) none (some (.int .i64 (k : Int))) none).run Try.prog u = .ok (.slice (some ⟨g, 0, none⟩) k cap) u := by
  rw [run_slice_h u 37 (some ⟨g, 0, none⟩) n cap (by kernel_rfl) .i64 (k : Int) (by omega) (by omega), size_in]
  simp only [Result.andThen, sliced, Int.toNat_natCast]
  rw [if_neg (by omega)]
  simp [Go.WideShapes.add_plain]
theorem ownI_head {w : World} {B : Nat} {v : Value} {xs : List Int} (h : OwnI w B v xs) (hp : 0 < xs.length) : ∃ g cap, v = .slice (some ⟨g, 0, none⟩) xs.length cap ∧ xs.length ≤ cap ∧ cap ≤ maxLen ∧ B ≤ g ∧ g < w.heap.size := by
  rcases h.2 with ⟨-, h0⟩ | ⟨g, cap, cur, rfl, hB, hg, hn, hm, -⟩
  · omega
  · exact ⟨g, cap, rfl, hn, hm, hB, (Array.getElem?_eq_some_iff.1 hg).1⟩
theorem Ints.sub {w : World} {ao : Option Addr} {xs ys : List Int} (h : Ints w ao (xs ++ ys)) : Ints w ao xs := fun j hj => by
  obtain ⟨b, o, h1, h2⟩ := h j (by simp; omega)
  exact ⟨b, o, h1, by rw [h2, List.getElem_append_left hj]⟩
set_option maxRecDepth 20000 in
set_option maxHeartbeats 1600000 in
theorem acts_crash {p rp c : Nat} {d : Dst} {Q : Nat → Prop} (i : Int) (b : UInt8) (s : Int) (rv : Value) (ca : Option Addr) (cl cc : Nat) (cs : List Int) (w : World) (h : Bo w p rp d d c Q) (hcl : cl = cs.length) (hch : Ints w ca cs) (hnil : ca = none → cc = 0) (hm : cs.length ≤ 1099511627776) (hq : 0 < cs.length → ∀ a, ca = some a → ¬ Q a.block) :
    Calls Try.prog 35 #[.agg #[.int .i64 4, .int .i64 i, .int .u8 (b.toNat : Int), .int .i64 s, rv, .slice ca cl cc], .pointer (some ⟨p, 0, none⟩), .pointer (some ⟨rp, 0, none⟩)] w fun e w' => e = .returned (.bool true) ∧ Bo w' p rp (d.crash cs) (d.crash cs) c (Qn Q w.heap.size) ∧ Chg Q w w' := by
  obtain ⟨B0, hB0⟩ : ∃ L : Nat, L = w.heap.size := ⟨_, rfl⟩
  obtain ⟨X, hX⟩ : ∃ X : World, X = w.alloc (.cells #[.int .i64 4, .int .i64 i, .int .u8 (b.toNat : Int), .int .i64 s, rv, .slice ca cl cc] 77) := ⟨_, rfl⟩
  have hXr : X.heap[B0]? = some (.cells #[.int .i64 4, .int .i64 i, .int .u8 (b.toNat : Int), .int .i64 s, rv, .slice ca cl cc] 77 (0, 0)) := by rw [hX, hB0]; exact heap_alloc_new w _
  have hXb : Below w.heap.size w X := by rw [hX]; exact al (Below.refl _ _) _
  have x5 : X.cell? ⟨B0, 5, none⟩ = some (.slice ca cl cc) := by rw [cell_of_row _ _ 5 _ _ _ hXr]; rfl
  have HXB : Hid _ := hXb
  have HCX : Hid (Chg Q w X) := Chg.of_below hXb
  have HB : Hid (Bo X p rp d d c (Q0 Q w)) := h.here.below hXb
  have HFEW : Hid _ := h.few.2.1
  have HCH : Hid _ := hch
  have HNIL : Hid _ := hnil
  have HQ : Hid _ := hq
  have HL : Hid (cl = cs.length ∧ cl ≤ 1099511627776) := ⟨hcl, by omega⟩
  have hBX : B0 < X.heap.size := (Array.getElem?_eq_some_iff.1 hXr).1
  obtain ⟨X1, hX1⟩ : ∃ X1 : World, X1 = X.alloc (.cells #[] 3) := ⟨_, rfl⟩
  have hX1b : Below X.heap.size X X1 := by rw [hX1]; exact al (Below.refl _ _) _
  have hX1o : OwnI X1 X.heap.size (.slice (some ⟨X.heap.size, 0, none⟩) 0 0) [] := by rw [hX1]; exact own_madeI X
  have x51 : X1.cell? ⟨B0, 5, none⟩ = some (.slice ca cl cc) := (hX1b.cell (p := ⟨B0, 5, none⟩) hBX).trans x5
  have HX1B : Hid _ := hX1b
  have x51w := x51
  rw [hX1, hX, hB0] at x51w
  have hXX : X1 = (w.alloc (.cells #[.int .i64 4, .int .i64 i, .int .u8 (b.toNat : Int), .int .i64 s, rv, .slice ca cl cc] 77)).alloc (.cells #[] 3) := by rw [hX1, hX]
  have hXs : X.heap.size = w.heap.size + 1 := by rw [hX]; simp
  clear hch hnil hm hXr hX1b hcl hXb h hq
  go_enter Try.func35, Try.ntmps35
  go_wp2_with (first
    | (at_builtin; rw [← hXX]; refine wp_appIL rfl _ _ rfl X.heap.size (.slice (some ⟨X.heap.size, 0, none⟩) 0 0) [] cs cl ca cc HL.out.1 (by rw [hXs]; rfl) hX1o rfl (Ints.below HCH.out (below_next HXB.out HX1B.out)) HNIL.out (by have := HL.out; simp; omega) (Below.size HX1B.out) ?_; intro v2 w2 hown2 hg2; rw [List.nil_append] at hown2; have hb2 : Below X.heap.size X w2 := Below.grown HX1B.out hg2 (Below.size HX1B.out) (fun b hb => (World.ownsRow.lt hX1o b hb).1); have hs2 := hb2.size; clear hXX)
    | (at_builtin; refine wp_appIL rfl _ _ rfl X.heap.size v2 cs [77, 78] 2 (some ⟨w2.heap.size, 0, none⟩) 2 rfl rfl (OwnI.below hown2 (al (Below.refl _ _) _)) rfl (ints_row (xs := [77, 78]) (heap_alloc_new w2 _)) (fun h => by cases h) (by have := HL.out; omega) (by simp; omega) ?_; intro v3 w3 hown3 hg3; have hb3 : Below X.heap.size X w3 := Below.grown (al hb2 _) hg3 (Below.size (al hb2 _)) (fun b hb => (World.ownsRow.lt hown2 b hb).1); have hoh := ownI_head hown3 (show 0 < (cs ++ [77, 78]).length by simp); obtain ⟨gf, cf, hvf, hcf, -, hgfX, hgfl⟩ := hoh; subst hvf; obtain ⟨K2, hK2⟩ : ∃ K : Nat, K = (cs ++ [77, 78]).length := ⟨_, rfl⟩; rw [← hK2] at hcf ⊢; have HK2L : Hid (K2 = cl + 2) := (by unfold Hid; rw [hK2, HL.out.1]; simp); have x53 : w3.cell? ⟨B0, 5, none⟩ = some (.slice ca cl cc) := (hb3.cell (p := ⟨B0, 5, none⟩) hBX).trans x5; have hslf : ∀ u, (Instr.slice 37 (.slice (some ⟨gf, 0, none⟩) K2 cf) none (some (.int .i64 (cl : Int))) none).run Try.prog u = .ok (.slice (some ⟨gf, 0, none⟩) cl cf) u := (fun u => sub_uptoI gf K2 cf cl (by have := HK2L.out; omega) (by have := HK2L.out; omega) u); rw [hB0] at x53; have HK2E : Hid _ := hK2; clear hK2))
  have hI3 : Ints w3 (some ⟨gf, 0, none⟩) (cs ++ [77, 78]) := by
    obtain ⟨a9, c9, e9, h9⟩ := OwnI.ints hown3
    cases e9
    exact h9
  have HF1 : Hid _ := Bo.crash (Bo.below HB.out hb3) (some ⟨gf, 0, none⟩) cl cf cs HL.out.1 (Ints.sub hI3) (fun _ a ha hf => by cases ha; have := hf.2; have := Below.size HXB.out; simp only at *; omega)
  have HB3 : Hid _ := hb3
  have HI3 : Hid _ := hI3
  have HGF : Hid (X.heap.size ≤ gf ∧ gf < w3.heap.size) := ⟨hgfX, hgfl⟩
  clear hI3 hown3 hb2 hb3 hown2 hg2 hg3 hs2 hX1o x51 x51w HB
  refine Calls.mono HF1.out ?_
  rintro e w4 ⟨rfl, hb4, hc4⟩
  have hBQ : ∀ n, X.heap.size ≤ n → ¬ Qn (Q0 Q w) n w.heap.size := by
    rintro n hn (hf | hf)
    · exact Nat.lt_irrefl _ hf.2
    · omega
  have hGQ : ∀ n, gf < n → ¬ Qn (Q0 Q w) n gf := by
    rintro n hn (hf | hf)
    · have := hf.2; have := HGF.out; have := Below.size HXB.out; omega
    · omega
  have x54 : w4.cell? ⟨w.heap.size, 5, none⟩ = some (.slice ca cl cc) := (World.cell?_of_block (hc4.block w.heap.size (World.block_lt_of_cell? w3 _ x53) (fun hf => Nat.lt_irrefl _ hf.2))).trans x53
  have HC4 : Hid (Chg Q w w4) := Chg.trans HCX.out (Chg.trans (Chg.of_below (F := Q) HB3.out) hc4 (fun b hb => .inl hb.1)) (fun b hb => .inl hb)
  have HI4 : Hid (Ints w4 (some ⟨gf, 0, none⟩) (cs ++ [77, 78])) := Ints.chg HI3.out hc4 (fun a ha hf => by cases ha; have := hf.2; have := HGF.out; have := Below.size HXB.out; simp only at *; omega)
  have HCH4 : Hid (Ints w4 ca cs) := Ints.chg0 HCH.out HC4.out HQ.out
  have hX3 := Below.size HB3.out
  have h34 := hc4.size
  have HF2 : Hid _ := hb4.rcrash HFEW.out ca cl cc cs HL.out.1 HCH4.out (fun h0 a ha hf => by
    rcases hf with hf | hf
    · exact HQ.out h0 a ha hf.1
    · have := Ints.lt HCH.out h0 a ha; have := Below.size HXB.out; omega)
  clear hb4 HF1 HCX x53
  go_wp2_with fail
  refine Calls.mono HF2.out ?_
  rintro e w5 ⟨rfl, hb5, hc5⟩
  have HB5 : Hid (Bo w5 p rp (d.crash cs) (d.crash cs) c (Qn Q w.heap.size)) := hb5.mono (qn_le (qn_le (q0_le Q w) (by have := Below.size HXB.out; omega)) (by have := Below.size HXB.out; omega))
  have HC5 : Hid (Chg Q w w5) := Chg.trans HC4.out hc5 (qn_le (q0_le Q w) (by have := Below.size HXB.out; omega))
  have x55 : w5.cell? ⟨w.heap.size, 5, none⟩ = some (.slice ca cl cc) := (World.cell?_of_block (hc5.block w.heap.size (World.block_lt_of_cell? w4 _ x54) (hBQ _ hX3))).trans x54
  have HI5 : Hid (Ints w5 (some ⟨gf, 0, none⟩) (cs ++ [77, 78])) := Ints.chg HI4.out hc5 (fun a ha => by cases ha; exact hGQ _ HGF.out.2)
  have HCH5 : Hid (Ints w5 ca cs) := Ints.chg0 HCH.out HC5.out HQ.out
  have HIN : Hid (∀ u, Below w5.heap.size w5 u → Calls Try.prog 17 #[.slice (some ⟨gf, 0, none⟩) cl cf, .slice ca cl cc] u fun e w' => e = .returned (.bool true) ∧ Below u.heap.size u w') := fun u hu => by
    have h9 := ints_n (some ⟨gf, 0, none⟩) ca cl cl cf cc cs cs u HL.out.1 HL.out.1 (Ints.below (Ints.sub HI5.out) hu) (Ints.below HCH5.out hu) (by have := HL.out; omega) (by have := HL.out; omega)
    rw [beq_self_eq_true] at h9
    exact h9
  have hfa : w5.cell? ⟨gf, cl, none⟩ = some (.int .i64 77) := by
    obtain ⟨b9, o9, e9, h9⟩ := HI5.out cl (by have := HL.out.1; simp; omega)
    cases e9
    rw [Nat.zero_add] at h9
    rw [h9]
    have := HL.out.1
    simp [List.getElem_append_right, this]
  obtain ⟨K1, hK1⟩ : ∃ K : Nat, K = cl + 1 := ⟨_, rfl⟩
  have hfb : w5.cell? ⟨gf, K1, none⟩ = some (.int .i64 78) := by
    obtain ⟨b9, o9, e9, h9⟩ := HI5.out K1 (by have := HL.out.1; simp; omega)
    cases e9
    rw [Nat.zero_add] at h9
    rw [h9]
    have := HL.out.1
    simp [List.getElem_append_right, this, hK1]
  have hgl5 : gf < w5.heap.size := World.block_lt_of_cell? w5 _ hfa
  have hbl5 : w.heap.size < w5.heap.size := World.block_lt_of_cell? w5 _ x55
  have ub : ∀ u, Below w5.heap.size w5 u → u.cell? ⟨w.heap.size, 5, none⟩ = some (.slice ca cl cc) := fun u hu => (hu.cell (p := ⟨w.heap.size, 5, none⟩) hbl5).trans x55
  have ua : ∀ u, Below w5.heap.size w5 u → u.cell? ⟨gf, cl, none⟩ = some (.int .i64 77) := fun u hu => (hu.cell (p := ⟨gf, cl, none⟩) hgl5).trans hfa
  have uc : ∀ u, Below w5.heap.size w5 u → u.cell? ⟨gf, K1, none⟩ = some (.int .i64 78) := fun u hu => (hu.cell (p := ⟨gf, K1, none⟩) hgl5).trans hfb
  have hLi0 : (0 : Int) ≤ (cl : Int) := by omega
  have hLi2 : (cl : Int) < (K2 : Int) := by have := HK2L.out; omega
  have hKw : IntKind.i64.wrap ((cl : Int) + 1) = (K1 : Int) := by rw [IntKind.wrap_i64]; have := HL.out; omega
  have hKi0 : (0 : Int) ≤ (K1 : Int) := by omega
  have hKi2 : (K1 : Int) < (K2 : Int) := by have := HK2L.out; omega
  have HK1 : Hid _ := hK1
  clear hK1 hb5 hc5 hc4 x54 HF2 hX3 h34
  go_wp2_with fail
  refine wp_region_noPanic ?_
  refine wp_region_held_drew (S := (fun u => Below w5.heap.size w5 u)) (by kernel_rfl) (by first | exact (Below.refl _ _).drew | assumption) (fun hHeld => ?_)
  refine take_at (i := 0) 121 (v := ?_) rfl rfl (by kernel_rfl) (by kernel_rfl) (by kernel_rfl) (fun _ _ _ h => h) (by rfl) ?_ hHeld ?_
  rotate_left
  · (intro w hSw; (try dsimp only at hSw); go_simp; try with_reducible rfl)
  simp only [Act.put, List.setIfInBounds_toArray, List.set_cons_zero, List.set_cons_succ]
  refine take_at (i := 1) 122 (v := ?_) rfl rfl (by kernel_rfl) (by kernel_rfl) (by kernel_rfl) (fun _ _ _ h => h) (by rfl) ?_ hHeld ?_
  rotate_left
  · (intro w hSw; (try dsimp only at hSw); go_simp; try with_reducible rfl)
  simp only [Act.put, List.setIfInBounds_toArray, List.set_cons_zero, List.set_cons_succ]
  refine take_at (i := 2) 123 (v := ?_) rfl rfl (by kernel_rfl) (by kernel_rfl) (by kernel_rfl) (fun _ _ _ h => h) (by rfl) ?_ hHeld ?_
  rotate_left
  · (intro w hSw; (try dsimp only at hSw); go_simp; try with_reducible rfl)
  simp only [Act.put, List.setIfInBounds_toArray, List.set_cons_zero, List.set_cons_succ]
  refine take_at (i := 3) 124 (v := ?_) rfl rfl (by kernel_rfl) (by kernel_rfl) (by kernel_rfl) (fun _ _ _ h => h) (by rfl) ?_ hHeld ?_
  rotate_left
  · (intro w hSw; (try dsimp only at hSw); go_simp; try with_reducible rfl)
  simp only [Act.put, List.setIfInBounds_toArray, List.set_cons_zero, List.set_cons_succ]
  refine take_at (i := 4) 125 (v := ?_) rfl rfl (by kernel_rfl) (by kernel_rfl) (by kernel_rfl) (fun _ _ _ h => h) (by rfl) ?_ hHeld ?_
  rotate_left
  · (intro w hSw; (try dsimp only at hSw); go_simp; try with_reducible rfl)
  simp only [Act.put, List.setIfInBounds_toArray, List.set_cons_zero, List.set_cons_succ]
  refine run_at (i := 5) rfl (by kernel_rfl) (by rfl) (fun K hK => ?_)
  simp only [List.getElem_toArray, List.getElem_cons_zero, List.getElem_cons_succ]
  go_simp
  (go_at_call 17; refine (HIN.out _ (by first | exact (Below.refl _ _).drew | assumption)).mono ?_; rintro e w6 ⟨rfl, hb6⟩; have hS6 : Below w5.heap.size w5 w6 := below_next (B := w5) (by first | exact (Below.refl _ _).drew | assumption) hb6; clear hb6)
  go_wp2_with fail
  refine hK.out _ _ (by first | exact (Below.refl _ _).drew | assumption) ?_
  clear hK K
  intro hHeld2
  clear hHeld
  have hHeld := hHeld2
  clear hHeld2
  try simp only [Act.put, List.setIfInBounds_toArray, List.set_cons_zero, List.set_cons_succ]
  refine take_at (i := 6) 127 (v := ?_) rfl rfl (by kernel_rfl) (by kernel_rfl) (by kernel_rfl) (fun _ _ _ h => h) (by rfl) ?_ hHeld ?_
  rotate_left
  · (intro w hSw; (try dsimp only at hSw); go_simp; try with_reducible rfl)
  simp only [Act.put, List.setIfInBounds_toArray, List.set_cons_zero, List.set_cons_succ]
  refine take_at (i := 7) 128 (v := ?_) rfl rfl (by kernel_rfl) (by kernel_rfl) (by kernel_rfl) (fun _ _ _ h => h) (by rfl) ?_ hHeld ?_
  rotate_left
  · (intro w hSw; (try dsimp only at hSw); go_simp; try with_reducible rfl)
  simp only [Act.put, List.setIfInBounds_toArray, List.set_cons_zero, List.set_cons_succ]
  refine take_at (i := 8) 129 (v := ?_) rfl rfl (by kernel_rfl) (by kernel_rfl) (by kernel_rfl) (fun _ _ _ h => h) (by rfl) ?_ hHeld ?_
  rotate_left
  · (intro w hSw; (try dsimp only at hSw); go_simp; try with_reducible rfl)
  simp only [Act.put, List.setIfInBounds_toArray, List.set_cons_zero, List.set_cons_succ]
  refine take_at (i := 9) 130 (v := ?_) rfl rfl (by kernel_rfl) (by kernel_rfl) (by kernel_rfl) (fun _ _ _ h => h) (by rfl) ?_ hHeld ?_
  rotate_left
  · (intro w hSw; (try dsimp only at hSw); go_simp; try with_reducible rfl)
  simp only [Act.put, List.setIfInBounds_toArray, List.set_cons_zero, List.set_cons_succ]
  refine take_at (i := 10) 131 (v := ?_) rfl rfl (by kernel_rfl) (by kernel_rfl) (by kernel_rfl) (fun _ _ _ h => h) (by rfl) ?_ hHeld ?_
  rotate_left
  · (intro w hSw; (try dsimp only at hSw); go_simp; try with_reducible rfl)
  simp only [Act.put, List.setIfInBounds_toArray, List.set_cons_zero, List.set_cons_succ]
  refine take_at (i := 11) 132 (v := ?_) rfl rfl (by kernel_rfl) (by kernel_rfl) (by kernel_rfl) (fun _ _ _ h => h) (by rfl) ?_ hHeld ?_
  rotate_left
  · (intro w hSw; (try dsimp only at hSw); go_simp; try with_reducible rfl)
  simp only [Act.put, List.setIfInBounds_toArray, List.set_cons_zero, List.set_cons_succ]
  refine take_at (i := 12) 133 (v := ?_) rfl rfl (by kernel_rfl) (by kernel_rfl) (by kernel_rfl) (fun _ _ _ h => h) (by rfl) ?_ hHeld ?_
  rotate_left
  · (intro w hSw; (try dsimp only at hSw); go_simp; try with_reducible rfl)
  simp only [Act.put, List.setIfInBounds_toArray, List.set_cons_zero, List.set_cons_succ]
  refine take_at (i := 13) 134 (v := ?_) rfl rfl (by kernel_rfl) (by kernel_rfl) (by kernel_rfl) (fun _ _ _ h => h) (by rfl) ?_ hHeld ?_
  rotate_left
  · (intro w hSw; (try dsimp only at hSw); go_simp; try with_reducible rfl)
  simp only [Act.put, List.setIfInBounds_toArray, List.set_cons_zero, List.set_cons_succ]
  refine take_at (i := 14) 135 (v := ?_) rfl rfl (by kernel_rfl) (by kernel_rfl) (by kernel_rfl) (fun _ _ _ h => h) (by rfl) ?_ hHeld ?_
  rotate_left
  · (intro w hSw; (try dsimp only at hSw); go_simp; try with_reducible rfl)
  simp only [Act.put, List.setIfInBounds_toArray, List.set_cons_zero, List.set_cons_succ]
  refine take_at (i := 15) 136 (v := ?_) rfl rfl (by kernel_rfl) (by kernel_rfl) (by kernel_rfl) (fun _ _ _ h => h) (by rfl) ?_ hHeld ?_
  rotate_left
  · (intro w hSw; (try dsimp only at hSw); go_simp; try with_reducible rfl)
  simp only [Act.put, List.setIfInBounds_toArray, List.set_cons_zero, List.set_cons_succ]
  refine take_at (i := 16) 137 (v := ?_) rfl rfl (by kernel_rfl) (by kernel_rfl) (by kernel_rfl) (fun _ _ _ h => h) (by rfl) ?_ hHeld ?_
  rotate_left
  · (intro w hSw; (try dsimp only at hSw); go_simp; try with_reducible rfl)
  simp only [Act.put, List.setIfInBounds_toArray, List.set_cons_zero, List.set_cons_succ]
  refine take_at (i := 17) 138 (v := ?_) rfl rfl (by kernel_rfl) (by kernel_rfl) (by kernel_rfl) (fun _ _ _ h => h) (by rfl) ?_ hHeld ?_
  rotate_left
  · (intro w hSw; (try dsimp only at hSw); go_simp; try with_reducible rfl)
  simp only [Act.put, List.setIfInBounds_toArray, List.set_cons_zero, List.set_cons_succ]
  refine take_at (i := 18) 139 (v := ?_) rfl rfl (by kernel_rfl) (by kernel_rfl) (by kernel_rfl) (fun _ _ _ h => h) (by rfl) ?_ hHeld ?_
  rotate_left
  · (intro w hSw; (try dsimp only at hSw); go_simp; try with_reducible rfl)
  simp only [Act.put, List.setIfInBounds_toArray, List.set_cons_zero, List.set_cons_succ]
  refine take_at (i := 19) 140 (v := ?_) rfl rfl (by kernel_rfl) (by kernel_rfl) (by kernel_rfl) (fun _ _ _ h => h) (by rfl) ?_ hHeld ?_
  rotate_left
  · (intro w hSw; (try dsimp only at hSw); go_simp; try with_reducible rfl)
  simp only [Act.put, List.setIfInBounds_toArray, List.set_cons_zero, List.set_cons_succ]
  refine take_at (i := 20) 141 (v := ?_) rfl rfl (by kernel_rfl) (by kernel_rfl) (by kernel_rfl) (fun _ _ _ h => h) (by rfl) ?_ hHeld ?_
  rotate_left
  · (intro w hSw; (try dsimp only at hSw); go_simp; try with_reducible rfl)
  simp only [Act.put, List.setIfInBounds_toArray, List.set_cons_zero, List.set_cons_succ]
  refine take_at (i := 21) 6 (v := ?_) rfl rfl (by kernel_rfl) (by kernel_rfl) (by kernel_rfl) (fun _ _ _ h => h) (by rfl) ?_ hHeld ?_
  rotate_left
  · (intro w hSw; (try dsimp only at hSw); go_simp; try with_reducible rfl)
  simp only [Act.put, List.setIfInBounds_toArray, List.set_cons_zero, List.set_cons_succ]
  refine wpAnyH_done (by kernel_rfl) ?_ _
  refine NoPanic.normal ?_
  go_wp2
  go_ret
  exact ⟨rfl, Bo.below HB5.out hS6, Chg.trans HC5.out (Chg.of_below (F := fun _ => False) hS6) (fun b hb => hb.elim)⟩
end Go.Proofs.Ytgdkiejlggiakac
