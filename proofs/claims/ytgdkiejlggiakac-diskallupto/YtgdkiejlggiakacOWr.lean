import Derived.Test.YtgdkiejlggiakacOAct
namespace Go.Proofs.Ytgdkiejlggiakac
set_option linter.unusedVariables false
set_option linter.unusedSimpArgs false
open Go.RowKit Go.Maps
/-- the operation's box stays -/
def BoxB (B : Nat) (cs : Array Value) (u : World) : Prop := u.heap[B]? = some (.cells cs 77 (0, 0))
theorem info_op : (Try.prog.info? 77).map (fun i => (i.zero, i.size)) = some (some (.agg #[.int .i64 0, .int .i64 0, .int .u8 0, .int .i64 0, .slice none 0 0, .slice none 0 0]), 6) := by kernel_rfl
theorem load_op (u : World) (B : Nat) (v0 v1 v2 v3 v4 v5 : Value) (h : u.heap[B]? = some (.cells #[v0, v1, v2, v3, v4, v5] 77 (0, 0))) : (Instr.loadAt 77 (.pointer (some ⟨B, 0, none⟩))).run Try.prog u = .ok (.agg #[v0, v1, v2, v3, v4, v5]) u := by
  have h9 : u.rangeAt B 0 [v0, v1, v2, v3, v4, v5] := by
    have := World.rangeAt_of_block h 0 6
    simpa using this
  exact run_loadAt_mid u B 0 _ [v0, v1, v2, v3, v4, v5] _ h9 Try.underlying77 rfl (by rw [(zero_of_info info_op).2]; rfl)
set_option maxRecDepth 20000 in
set_option maxHeartbeats 3200000 in
theorem acts_write {p rp c : Nat} {d : Dst} {Q : Nat → Prop} (i : Int) (b : UInt8) (s : Int) (ra : Option Addr) (rl rc : Nat) (cv : Value) (xs T : List UInt8) (hT : T = if 0 < xs.length then xs else opRow (opN s) b i) (w : World) (h : Bo w p rp d d c Q) (hc : c < 1099511627776) (hx : Rd w ra xs) (hrl : rl = xs.length) (hnil : ra = none → rc = 0) (hm : xs.length ≤ 1099511627776) (hq : 0 < xs.length → ∀ a, ra = some a → ¬ Q a.block) :
    Calls Try.prog 35 #[.agg #[.int .i64 1, .int .i64 i, .int .u8 (b.toNat : Int), .int .i64 s, .slice ra rl rc, cv], .pointer (some ⟨p, 0, none⟩), .pointer (some ⟨rp, 0, none⟩)] w fun e w' => e = .returned (.bool true) ∧ Bo w' p rp (d.wr i T) (d.wr i T) (c + 1) (Qn Q w.heap.size) ∧ Chg Q w w' := by
  obtain ⟨L, hLT⟩ : ∃ L : Nat, L = T.length := ⟨_, rfl⟩
  have hLm : L ≤ 1099511627776 + 1000 := by
    rw [hLT, hT]
    split
    · omega
    · have := opN_le s; simp [opRow]; omega
  have HL : Hid (L = T.length ∧ L ≤ 1099511627776 + 1000) := ⟨hLT, hLm⟩
  obtain ⟨B0, hB0⟩ : ∃ L : Nat, L = w.heap.size := ⟨_, rfl⟩
  obtain ⟨X, hX⟩ : ∃ X : World, X = w.alloc (.cells #[.int .i64 1, .int .i64 i, .int .u8 (b.toNat : Int), .int .i64 s, .slice ra rl rc, cv] 77) := ⟨_, rfl⟩
  have hXr : X.heap[B0]? = some (.cells #[.int .i64 1, .int .i64 i, .int .u8 (b.toNat : Int), .int .i64 s, .slice ra rl rc, cv] 77 (0, 0)) := by rw [hX, hB0]; exact heap_alloc_new w _
  have hXb : Below w.heap.size w X := by rw [hX]; exact al (Below.refl _ _) _
  have HXR : Hid _ := hXr
  have HXB : Hid _ := hXb
  have HCX : Hid (Chg Q w X) := Chg.of_below hXb
  have HB : Hid (Bo X p rp d d c (Q0 Q w)) := h.here.below hXb
  have HFEW : Hid _ := h.few.2.1
  have HC : Hid _ := hc
  have HRX : Hid (Rd w ra xs) := hx
  have HQ : Hid _ := hq
  have HTX : Hid (∀ u, Rd u ra xs → Calls Try.prog 47 #[.agg #[.int .i64 1, .int .i64 i, .int .u8 (b.toNat : Int), .int .i64 s, .slice ra rl rc, cv]] u fun e w' => ∃ v, e = .returned v ∧ Own w' u.heap.size v T ∧ Below u.heap.size u w') := fun u hu => text_t 1 i b s ra rl rc cv xs T hT u hu hrl hnil (by omega)
  have hBX : B0 < X.heap.size := (Array.getElem?_eq_some_iff.1 hXr).1
  have HT1 : Hid _ := HTX.out X (Rd.below hx hXb)
  clear hx hnil hm hXr hrl hXb h hq hT hLm hLT hc
  go_enter Try.func35, Try.ntmps35
  go_wp2_with fail
  rw [← hX]
  clear hX
  refine Calls.mono HT1.out ?_
  rintro e w2 ⟨v2, rfl, hown2, hb2⟩
  have hs2 := hb2.size
  clear HT1
  go_wp2_with (first
    | (at_builtin; refine wp_appL rfl _ _ rfl X.heap.size v2 T [211, 212] 2 (some ⟨w2.heap.size, 0, none⟩) 2 rfl rfl (Own.below hown2 (al (Below.refl _ _) _)) rfl (rd_row (xs := [211, 212]) (heap_alloc_new w2 _)) (fun h => by cases h) (by have := HL.out; omega) (by simp; omega) ?_; intro v3 w3 hown3 hg3; have hb3 : Below X.heap.size X w3 := Below.grown (al hb2 _) hg3 (Below.size (al hb2 _)) (fun b hb => (World.ownsRow.lt hown2 b hb).1); have hoh := own_head hown3 (show 0 < (T ++ [211, 212]).length by simp); obtain ⟨gf, cf, hvf, hcf, -, hgfX, hgfl⟩ := hoh; subst hvf; obtain ⟨K2, hK2⟩ : ∃ K : Nat, K = (T ++ [211, 212]).length := ⟨_, rfl⟩; rw [← hK2] at hown3 hcf ⊢; have HK2L : Hid (K2 = L + 2) := (by unfold Hid; rw [hK2, HL.out.1]; simp); have hslf : ∀ u, (Instr.slice 40 (.slice (some ⟨gf, 0, none⟩) K2 cf) none (some (.int .i64 (L : Int))) none).run Try.prog u = .ok (.slice (some ⟨gf, 0, none⟩) L cf) u := (fun u => sub_upto gf K2 cf L (by have := HK2L.out; omega) (by have := HK2L.out; omega) u); have hKL : IntKind.i64.wrap ((K2 : Int) - 2) = (L : Int) := (by rw [IntKind.wrap_i64]; have := HK2L.out; have := HL.out; omega); clear hK2))
  have hRx3 : Rd w3 (some ⟨gf, 0, none⟩) T := by
    obtain ⟨a9, c9, e9, -, -, -, hr9, -⟩ := hown3.val
    cases e9
    have h9 := Rd.sub hr9 0 L
    rw [List.drop_zero, HL.out.1, List.take_left, Nat.zero_add] at h9
    exact h9
  have hXB3 : w.heap.size ≤ X.heap.size := Below.size HXB.out
  have HB3b : Hid _ := Bo.below HB.out hb3
  have HRx3 : Hid _ := hRx3
  obtain ⟨E, hE⟩ : ∃ E : Int, E = d.wrE i L := ⟨_, rfl⟩
  have HE : Hid _ := hE
  have HB3 : Hid _ := hb3
  have HO3 : Hid _ := hown3
  have HGF : Hid (X.heap.size ≤ gf ∧ gf < w3.heap.size) := ⟨hgfX, hgfl⟩
  have x3r : w3.heap[B0]? = some (.cells #[.int .i64 1, .int .i64 i, .int .u8 (b.toNat : Int), .int .i64 s, .slice ra rl rc, cv] 77 (0, 0)) := (hb3.block B0 hBX).trans HXR.out
  have HX3 : Hid _ := x3r
  rw [hB0] at x3r
  have hT0 : BoxB w.heap.size #[.int .i64 1, .int .i64 i, .int .u8 (b.toNat : Int), .int .i64 s, .slice ra rl rc, cv] w3.drew := x3r
  have h1c : ∀ u, BoxB w.heap.size #[.int .i64 1, .int .i64 i, .int .u8 (b.toNat : Int), .int .i64 s, .slice ra rl rc, cv] u → u.cell? ⟨w.heap.size, 1, none⟩ = some (.int .i64 i) := fun u hu => by rw [cell_of_row _ _ 1 _ _ _ hu]; rfl
  have hld : ∀ u, BoxB w.heap.size #[.int .i64 1, .int .i64 i, .int .u8 (b.toNat : Int), .int .i64 s, .slice ra rl rc, cv] u → (Instr.loadAt 77 (.pointer (some ⟨w.heap.size, 0, none⟩))).run Try.prog u = .ok (.agg #[.int .i64 1, .int .i64 i, .int .u8 (b.toNat : Int), .int .i64 s, .slice ra rl rc, cv]) u := fun u hu => load_op u w.heap.size _ _ _ _ _ _ hu
  have hBQ : ∀ n, X.heap.size ≤ n → ¬ Qn (Q0 Q w) n w.heap.size := by
    rintro n hn (hf | hf)
    · exact Nat.lt_irrefl _ hf.2
    · omega
  have hGQ : ∀ n, gf < n → ¬ Qn (Q0 Q w) n gf := by
    rintro n hn (hf | hf)
    · have := hf.2; have := HGF.out; omega
    · omega
  clear hRx3 hown3 hb2 hb3 hown2 hg3 hs2 HB hE x3r
  have HW1 : Hid (Calls Try.prog 21 #[.pointer (some ⟨p, 0, none⟩), .int .i64 i, .slice (some ⟨gf, 0, none⟩) L cf] w3.drew fun e w' => e = .returned (.int .i64 E) ∧ BoxB w.heap.size #[.int .i64 1, .int .i64 i, .int .u8 (b.toNat : Int), .int .i64 s, .slice ra rl rc, cv] w' ∧ Hid (Bo w' p rp (d.wr i T) d (c + 1) (Qn (Q0 Q w) w3.heap.size)) ∧ Hid (Chg (Q0 Q w) w3 w')) := by
    refine (Bo.write (Bo.below (w' := w3.drew) HB3b.out (Below.refl _ _).drew) HC.out i (some ⟨gf, 0, none⟩) L cf T (Rd.below HRx3.out (Below.refl _ _).drew) HL.out.1 (fun a ha hf => by cases ha; have := hf.2; have := HGF.out; simp only at *; omega)).mono ?_
    rintro e w' ⟨rfl, h1, h2⟩
    rw [← HE.out]
    refine ⟨rfl, (h2.block w.heap.size (show w.heap.size < w3.heap.size by have := Below.size HB3.out; omega) (fun hf => Nat.lt_irrefl _ hf.2)).trans hT0, h1, Chg.trans (Chg.of_below (F := Q0 Q w) (Below.refl _ w3).drew) h2 (fun b hb => .inl hb)⟩
  go_wp2_with fail
  refine wp_region_noPanic ?_
  refine wp_region_held_drew (S := (fun u => BoxB w.heap.size #[.int .i64 1, .int .i64 i, .int .u8 (b.toNat : Int), .int .i64 s, .slice ra rl rc, cv] u)) (by kernel_rfl) (by first | exact hT0 | assumption) (fun hHeld => ?_)
  refine take_at (i := 0) 28 (v := ?_) rfl rfl (by kernel_rfl) (by kernel_rfl) (by kernel_rfl) (fun _ _ _ h => h) (by rfl) ?_ hHeld ?_
  rotate_left
  · (intro w hSw; (try dsimp only at hSw); go_simp; try with_reducible rfl)
  simp only [Act.put, List.setIfInBounds_toArray, List.set_cons_zero, List.set_cons_succ]
  refine take_at (i := 1) 29 (v := ?_) rfl rfl (by kernel_rfl) (by kernel_rfl) (by kernel_rfl) (fun _ _ _ h => h) (by rfl) ?_ hHeld ?_
  rotate_left
  · (intro w hSw; (try dsimp only at hSw); go_simp; try with_reducible rfl)
  simp only [Act.put, List.setIfInBounds_toArray, List.set_cons_zero, List.set_cons_succ]
  refine take_at (i := 2) 30 (v := ?_) rfl rfl (by kernel_rfl) (by kernel_rfl) (by kernel_rfl) (fun _ _ _ h => h) (by rfl) ?_ hHeld ?_
  rotate_left
  · (intro w hSw; (try dsimp only at hSw); go_simp; try with_reducible rfl)
  simp only [Act.put, List.setIfInBounds_toArray, List.set_cons_zero, List.set_cons_succ]
  refine take_at (i := 3) 31 (v := ?_) rfl rfl (by kernel_rfl) (by kernel_rfl) (by kernel_rfl) (fun _ _ _ h => h) (by rfl) ?_ hHeld ?_
  rotate_left
  · (intro w hSw; (try dsimp only at hSw); go_simp; try with_reducible rfl)
  simp only [Act.put, List.setIfInBounds_toArray, List.set_cons_zero, List.set_cons_succ]
  refine take_at (i := 4) 32 (v := ?_) rfl rfl (by kernel_rfl) (by kernel_rfl) (by kernel_rfl) (fun _ _ _ h => h) (by rfl) ?_ hHeld ?_
  rotate_left
  · (intro w hSw; (try dsimp only at hSw); go_simp; try with_reducible rfl)
  simp only [Act.put, List.setIfInBounds_toArray, List.set_cons_zero, List.set_cons_succ]
  refine take_at (i := 5) 33 (v := ?_) rfl rfl (by kernel_rfl) (by kernel_rfl) (by kernel_rfl) (fun _ _ _ h => h) (by rfl) ?_ hHeld ?_
  rotate_left
  · (intro w hSw; (try dsimp only at hSw); go_simp; try with_reducible rfl)
  simp only [Act.put, List.setIfInBounds_toArray, List.set_cons_zero, List.set_cons_succ]
  refine run_at (i := 6) rfl (by kernel_rfl) (by rfl) (fun K hK => ?_)
  simp only [List.getElem_toArray, List.getElem_cons_zero, List.getElem_cons_succ]
  go_simp
  (go_at_call 21; refine HW1.out.mono ?_; rintro e w4 ⟨rfl, hT4, HB4, HC4q⟩)
  go_wp2_with fail
  refine hK.out _ _ (by first | exact hT0 | assumption) ?_
  clear hK K
  intro hHeld2
  clear hHeld
  have hHeld := hHeld2
  clear hHeld2
  try simp only [Act.put, List.setIfInBounds_toArray, List.set_cons_zero, List.set_cons_succ]
  refine take_at (i := 7) 9 (v := ?_) rfl rfl (by kernel_rfl) (by kernel_rfl) (by kernel_rfl) (fun _ _ _ h => h) (by rfl) ?_ hHeld ?_
  rotate_left
  · (intro w hSw; (try dsimp only at hSw); go_simp; try with_reducible rfl)
  simp only [Act.put, List.setIfInBounds_toArray, List.set_cons_zero, List.set_cons_succ]
  refine wpAnyH_done (by kernel_rfl) ?_ _
  refine NoPanic.normal ?_
  have HS34 : Hid (w3.heap.size ≤ w4.heap.size) := Chg.size HC4q.out
  have HX3s : Hid (X.heap.size ≤ w3.heap.size) := Below.size HB3.out
  have HC4 : Hid (Chg Q w w4) := Chg.trans HCX.out (Chg.trans (Chg.of_below (F := Q) HB3.out) HC4q.out (fun b hb => .inl hb.1)) (fun b hb => .inl hb)
  have HO4 : Hid (Own w4 X.heap.size (.slice (some ⟨gf, 0, none⟩) K2 cf) (T ++ [211, 212])) := by
    have h9 := HO3.out
    have e9 : K2 = (T ++ [211, 212]).length := by rw [HK2L.out, HL.out.1]; simp
    rw [e9] at h9 ⊢
    exact Own.chg h9 HC4q.out (fun b9 hb hf => by have e : gf = b9 := (by simpa [Value.ownBlock] using hb); have h7 : b9 < w.heap.size := hf.2; have := HGF.out; omega)
  have hT04 : BoxB w.heap.size #[.int .i64 1, .int .i64 i, .int .u8 (b.toNat : Int), .int .i64 s, .slice ra rl rc, cv] w4.drew := hT4
  obtain ⟨Q1, hQ1⟩ : ∃ Q1 : Nat → Prop, Q1 = Q0 (Qn (Q0 Q w) w3.heap.size) w4 := ⟨_, rfl⟩
  have HB4h : Hid (Bo w4 p rp (d.wr i T) d (c + 1) Q1) := by rw [hQ1]; exact Bo.here HB4.out
  have HQ1 : Hid (∀ b, Q1 b → Qn (Q0 Q w) w3.heap.size b ∧ b < w4.heap.size) := fun b hb => by rw [hQ1] at hb; exact hb
  have HR4 : Hid (Rd w4.drew ra xs) := Rd.below (Rd.chg0 HRX.out HC4.out HQ.out) (Below.refl _ _).drew
  have HT4x : Hid (Calls Try.prog 47 #[.agg #[.int .i64 1, .int .i64 i, .int .u8 (b.toNat : Int), .int .i64 s, .slice ra rl rc, cv]] w4.drew fun e w' => ∃ a5 c5, e = .returned (.slice a5 L c5) ∧ BoxB w.heap.size #[.int .i64 1, .int .i64 i, .int .u8 (b.toNat : Int), .int .i64 s, .slice ra rl rc, cv] w' ∧ Hid (Rd w' a5 T) ∧ Hid (a5 = none → c5 = 0) ∧ Hid (∀ a, a5 = some a → w4.heap.size ≤ a.block) ∧ Hid (Below w4.heap.size w4 w')) := by
    refine (HTX.out w4.drew HR4.out).mono ?_
    rintro e w' ⟨v, rfl, ho, hb⟩
    obtain ⟨a5, c5, rfl, -, -, h5, h6, h7⟩ := ho.val
    rw [← HL.out.1]
    have hbb : Below w4.heap.size w4 w' := below_next (B := w4) (Below.refl _ _).drew hb
    exact ⟨a5, c5, rfl, (hbb.block _ (Array.getElem?_eq_some_iff.1 hT4).1).trans hT4, h6, h5, fun a ha => (h7 a ha).1, hbb⟩
  have HWR : Hid (∀ u a5 c5, BoxB w.heap.size #[.int .i64 1, .int .i64 i, .int .u8 (b.toNat : Int), .int .i64 s, .slice ra rl rc, cv] u → Rd u a5 T → (a5 = none → c5 = 0) → (∀ a, a5 = some a → w4.heap.size ≤ a.block) → Below w4.heap.size w4 u → Calls Try.prog 48 #[.pointer (some ⟨rp, 0, none⟩), .int .i64 i, .slice a5 L c5] u fun e w' => e = .returned (.int .i64 E) ∧ BoxB w.heap.size #[.int .i64 1, .int .i64 i, .int .u8 (b.toNat : Int), .int .i64 s, .slice ra rl rc, cv] w' ∧ Hid (Bo w' p rp (d.wr i T) (d.wr i T) (c + 1) (Qn Q1 u.heap.size)) ∧ Hid (Chg Q1 u w')) := by
    intro u a5 c5 hb5 hr5 hn5 ha5 hu
    refine (Bo.rwrite (Bo.below HB4h.out hu) HFEW.out i a5 L c5 T hr5 HL.out.1 hn5 (fun a ha hf => by have := ha5 a ha; have := (HQ1.out _ hf).2; omega)).mono ?_
    rintro e w' ⟨rfl, h1, h2⟩
    rw [← HE.out]
    exact ⟨rfl, (h2.block w.heap.size (Array.getElem?_eq_some_iff.1 hb5).1 (fun hf => hBQ _ HX3s.out (HQ1.out _ hf).1)).trans hb5, h1, h2⟩
  clear hT0 HW1 HB3b HB4 hQ1 HRx3
  go_wp2_with fail
  refine wp_region_noPanic ?_
  refine wp_region_held_drew (S := (fun u => BoxB w.heap.size #[.int .i64 1, .int .i64 i, .int .u8 (b.toNat : Int), .int .i64 s, .slice ra rl rc, cv] u)) (by kernel_rfl) (by first | exact hT04 | assumption) (fun hHeld => ?_)
  refine take_at (i := 0) 35 (v := ?_) rfl rfl (by kernel_rfl) (by kernel_rfl) (by kernel_rfl) (fun _ _ _ h => h) (by rfl) ?_ hHeld ?_
  rotate_left
  · (intro w hSw; (try dsimp only at hSw); go_simp; try with_reducible rfl)
  simp only [Act.put, List.setIfInBounds_toArray, List.set_cons_zero, List.set_cons_succ]
  refine take_at (i := 1) 36 (v := ?_) rfl rfl (by kernel_rfl) (by kernel_rfl) (by kernel_rfl) (fun _ _ _ h => h) (by rfl) ?_ hHeld ?_
  rotate_left
  · (intro w hSw; (try dsimp only at hSw); go_simp; try with_reducible rfl)
  simp only [Act.put, List.setIfInBounds_toArray, List.set_cons_zero, List.set_cons_succ]
  refine take_at (i := 2) 37 (v := ?_) rfl rfl (by kernel_rfl) (by kernel_rfl) (by kernel_rfl) (fun _ _ _ h => h) (by rfl) ?_ hHeld ?_
  rotate_left
  · (intro w hSw; (try dsimp only at hSw); go_simp; try with_reducible rfl)
  simp only [Act.put, List.setIfInBounds_toArray, List.set_cons_zero, List.set_cons_succ]
  refine take_at (i := 3) 38 (v := .agg #[.int .i64 1, .int .i64 i, .int .u8 (b.toNat : Int), .int .i64 s, .slice ra rl rc, cv]) rfl rfl (by kernel_rfl) (by kernel_rfl) (by kernel_rfl) (fun _ _ _ h => h) (by rfl) ?_ hHeld ?_
  · (intro w hSw; refine exec_load (by rfl) ?_; exact hld w hSw)
  simp only [Act.put, List.setIfInBounds_toArray, List.set_cons_zero, List.set_cons_succ]
  refine run_at (i := 4) rfl (by kernel_rfl) (by rfl) (fun K hK => ?_)
  simp only [List.getElem_toArray, List.getElem_cons_zero, List.getElem_cons_succ]
  go_simp
  first | (go_at_call 47; refine HT4x.out.mono ?_; rintro e w5 ⟨a5, c5, rfl, hT5, HR5, HN5, HA5, HB45⟩) | (go_at_call 48; refine (HWR.out w5 a5 c5 hT5 HR5.out HN5.out HA5.out HB45.out).mono ?_; rintro e w6 ⟨rfl, hT6, HB6, HC6⟩)
  go_wp2_with fail
  refine hK.out _ _ (by first | exact hT04 | assumption) ?_
  clear hK K
  intro hHeld2
  clear hHeld
  have hHeld := hHeld2
  clear hHeld2
  try simp only [Act.put, List.setIfInBounds_toArray, List.set_cons_zero, List.set_cons_succ]
  refine run_at (i := 5) rfl (by kernel_rfl) (by rfl) (fun K hK => ?_)
  simp only [List.getElem_toArray, List.getElem_cons_zero, List.getElem_cons_succ]
  go_simp
  first | (go_at_call 47; refine HT4x.out.mono ?_; rintro e w5 ⟨a5, c5, rfl, hT5, HR5, HN5, HA5, HB45⟩) | (go_at_call 48; refine (HWR.out w5 a5 c5 hT5 HR5.out HN5.out HA5.out HB45.out).mono ?_; rintro e w6 ⟨rfl, hT6, HB6, HC6⟩)
  go_wp2_with fail
  refine hK.out _ _ (by first | exact hT04 | assumption) ?_
  clear hK K
  intro hHeld2
  clear hHeld
  have hHeld := hHeld2
  clear hHeld2
  try simp only [Act.put, List.setIfInBounds_toArray, List.set_cons_zero, List.set_cons_succ]
  refine take_at (i := 6) 10 (v := ?_) rfl rfl (by kernel_rfl) (by kernel_rfl) (by kernel_rfl) (fun _ _ _ h => h) (by rfl) ?_ hHeld ?_
  rotate_left
  · (intro w hSw; (try dsimp only at hSw); go_simp; try with_reducible rfl)
  simp only [Act.put, List.setIfInBounds_toArray, List.set_cons_zero, List.set_cons_succ]
  refine wpAnyH_done (by kernel_rfl) ?_ _
  refine NoPanic.normal ?_
  have HS45 : Hid (w4.heap.size ≤ w5.heap.size) := Below.size HB45.out
  have HS56 : Hid (w5.heap.size ≤ w6.heap.size) := Chg.size HC6.out
  have HQ1w : Hid (∀ b, Q1 b → Qn Q w.heap.size b) := fun b hb => qn_le (q0_le Q w) (Nat.le_trans hXB3 HX3s.out) b (HQ1.out b hb).1
  have HC5 : Hid (Chg Q w w6) := Chg.trans (Chg.trans HC4.out (Chg.of_below (F := Q) HB45.out) (fun b hb => .inl hb)) HC6.out HQ1w.out
  have HO6 : Hid (Own w6 X.heap.size (.slice (some ⟨gf, 0, none⟩) K2 cf) (T ++ [211, 212])) := by
    have h9 := HO4.out
    have e9 : K2 = (T ++ [211, 212]).length := by rw [HK2L.out, HL.out.1]; simp
    rw [e9] at h9 ⊢
    exact Own.chg (Own.below h9 HB45.out) HC6.out (fun b hb hf => by cases hb; exact hGQ _ HGF.out.2 (HQ1.out _ hf).1)
  have hcellF : ∀ j (hj : j < K2), w6.cell? ⟨gf, j, none⟩ = some (.int .u8 (((T ++ [211, 212])[j]'(by have := HL.out; have := HK2L.out; simp; omega)).toNat : Int)) := fun j hj => by
    have e9 : K2 = (T ++ [211, 212]).length := by rw [HK2L.out, HL.out.1]; simp
    have h8 := HO6.out
    rw [e9] at h8
    rw [World.ownsRow.cellAt h8 j (by omega), bv_get _ j (by omega)]
  have hfa : w6.cell? ⟨gf, L, none⟩ = some (.int .u8 211) := by
    rw [hcellF L (by have := HK2L.out; omega)]
    have := HL.out.1
    simp [List.getElem_append_right, this]
  obtain ⟨K1, hK1⟩ : ∃ K : Nat, K = L + 1 := ⟨_, rfl⟩
  have hfb : w6.cell? ⟨gf, K1, none⟩ = some (.int .u8 212) := by
    rw [hcellF K1 (by have := HK2L.out; omega)]
    have := HL.out.1
    simp [List.getElem_append_right, this, hK1]
  have hgl6 : gf < w6.heap.size := World.block_lt_of_cell? w6 _ hfa
  have hbl6 : w.heap.size < w6.heap.size := (Array.getElem?_eq_some_iff.1 hT6).1
  have hld2 : ∀ u, Below w6.heap.size w6 u → (Instr.loadAt 77 (.pointer (some ⟨w.heap.size, 0, none⟩))).run Try.prog u = .ok (.agg #[.int .i64 1, .int .i64 i, .int .u8 (b.toNat : Int), .int .i64 s, .slice ra rl rc, cv]) u := fun u hu => load_op u w.heap.size _ _ _ _ _ _ ((hu.block _ hbl6).trans hT6)
  have ua : ∀ u, Below w6.heap.size w6 u → u.cell? ⟨gf, L, none⟩ = some (.int .u8 211) := fun u hu => (hu.cell (p := ⟨gf, L, none⟩) hgl6).trans hfa
  have uc : ∀ u, Below w6.heap.size w6 u → u.cell? ⟨gf, K1, none⟩ = some (.int .u8 212) := fun u hu => (hu.cell (p := ⟨gf, K1, none⟩) hgl6).trans hfb
  have hLi0 : (0 : Int) ≤ (L : Int) := by omega
  have hLi2 : (L : Int) < (K2 : Int) := by have := HK2L.out; omega
  have hKw : IntKind.i64.wrap ((L : Int) + 1) = (K1 : Int) := by rw [IntKind.wrap_i64]; have := HL.out; omega
  have hKi0 : (0 : Int) ≤ (K1 : Int) := by omega
  have hKi2 : (K1 : Int) < (K2 : Int) := by have := HK2L.out; omega
  have HR6 : Hid (Rd w6 ra xs) := Rd.chg0 HRX.out HC5.out HQ.out
  have HT6x : Hid (∀ u, Below w6.heap.size w6 u → Calls Try.prog 47 #[.agg #[.int .i64 1, .int .i64 i, .int .u8 (b.toNat : Int), .int .i64 s, .slice ra rl rc, cv]] u fun e w' => ∃ a7 c7, e = .returned (.slice a7 L c7) ∧ Hid (Rd w' a7 T) ∧ Below u.heap.size u w') := by
    intro u hu
    refine (HTX.out u (Rd.below HR6.out hu)).mono ?_
    rintro e w' ⟨v, rfl, ho, hb⟩
    obtain ⟨a7, c7, rfl, -, -, -, h6, -⟩ := ho.val
    rw [← HL.out.1]
    exact ⟨a7, c7, rfl, h6, hb⟩
  have HRg : Hid (Rd w6 (some ⟨gf, 0, none⟩) T) := by
    have h9 := HO6.out
    have e9 : K2 = (T ++ [211, 212]).length := by rw [HK2L.out, HL.out.1]; simp
    rw [e9] at h9
    obtain ⟨a9, c9, e8, -, -, -, hr9, -⟩ := h9.val
    cases e8
    have h9 := Rd.sub hr9 0 L
    rw [List.drop_zero, HL.out.1, List.take_left, Nat.zero_add] at h9
    exact h9
  have HBY : Hid (∀ u a7 c7, Below w6.heap.size w6 u → Rd u a7 T → Calls Try.prog 16 #[.slice (some ⟨gf, 0, none⟩) L cf, .slice a7 L c7] u fun e w' => e = .returned (.bool true) ∧ Below u.heap.size u w') := fun u a7 c7 hu h7 => by
    have h9 := byt_n (some ⟨gf, 0, none⟩) a7 L L cf c7 T T u HL.out.1 HL.out.1 (Rd.below HRg.out hu) h7 (by have := HL.out; omega) (by have := HL.out; omega)
    rw [beq_self_eq_true] at h9
    exact h9
  have HK1 : Hid _ := hK1
  clear hK1 hcellF HWR HT4x hT4 hT5 hT04 h1c hld hB0
  go_wp2_with fail
  refine wp_region_noPanic ?_
  refine wp_region_held_drew (S := (fun u => Below w6.heap.size w6 u)) (by kernel_rfl) (by first | exact (Below.refl _ _).drew | assumption) (fun hHeld => ?_)
  refine take_at (i := 0) 41 (v := ?_) rfl rfl (by kernel_rfl) (by kernel_rfl) (by kernel_rfl) (fun _ _ _ h => h) (by rfl) ?_ hHeld ?_
  rotate_left
  · (intro w hSw; (try dsimp only at hSw); go_simp; try with_reducible rfl)
  simp only [Act.put, List.setIfInBounds_toArray, List.set_cons_zero, List.set_cons_succ]
  refine take_at (i := 1) 42 (v := ?_) rfl rfl (by kernel_rfl) (by kernel_rfl) (by kernel_rfl) (fun _ _ _ h => h) (by rfl) ?_ hHeld ?_
  rotate_left
  · (intro w hSw; (try dsimp only at hSw); go_simp; try with_reducible rfl)
  simp only [Act.put, List.setIfInBounds_toArray, List.set_cons_zero, List.set_cons_succ]
  refine take_at (i := 2) 43 (v := ?_) rfl rfl (by kernel_rfl) (by kernel_rfl) (by kernel_rfl) (fun _ _ _ h => h) (by rfl) ?_ hHeld ?_
  rotate_left
  · (intro w hSw; (try dsimp only at hSw); go_simp; try with_reducible rfl)
  simp only [Act.put, List.setIfInBounds_toArray, List.set_cons_zero, List.set_cons_succ]
  refine take_at (i := 3) 44 (v := .agg #[.int .i64 1, .int .i64 i, .int .u8 (b.toNat : Int), .int .i64 s, .slice ra rl rc, cv]) rfl rfl (by kernel_rfl) (by kernel_rfl) (by kernel_rfl) (fun _ _ _ h => h) (by rfl) ?_ hHeld ?_
  · (intro w hSw; refine exec_load (by rfl) ?_; exact hld2 w hSw)
  simp only [Act.put, List.setIfInBounds_toArray, List.set_cons_zero, List.set_cons_succ]
  refine run_at (i := 4) rfl (by kernel_rfl) (by rfl) (fun K hK => ?_)
  simp only [List.getElem_toArray, List.getElem_cons_zero, List.getElem_cons_succ]
  go_simp
  first | (go_at_call 47; refine (HT6x.out _ (by first | exact (Below.refl _ _).drew | assumption)).mono ?_; rintro e w7 ⟨a7, c7, rfl, HR7, hb7'⟩; have hS7 : Below w6.heap.size w6 w7 := below_next (B := w6) (by first | exact (Below.refl _ _).drew | assumption) hb7'; clear hb7') | (go_at_call 16; refine (HBY.out _ a7 c7 (by first | exact (Below.refl _ _).drew | assumption) HR7.out).mono ?_; rintro e w8 ⟨rfl, hb8'⟩; have hS8 : Below w6.heap.size w6 w8 := below_next (B := w6) (by first | exact (Below.refl _ _).drew | assumption) hb8'; clear hb8')
  go_wp2_with fail
  refine hK.out _ _ (by first | exact (Below.refl _ _).drew | assumption) ?_
  clear hK K
  intro hHeld2
  clear hHeld
  have hHeld := hHeld2
  clear hHeld2
  try simp only [Act.put, List.setIfInBounds_toArray, List.set_cons_zero, List.set_cons_succ]
  refine run_at (i := 5) rfl (by kernel_rfl) (by rfl) (fun K hK => ?_)
  simp only [List.getElem_toArray, List.getElem_cons_zero, List.getElem_cons_succ]
  go_simp
  first | (go_at_call 47; refine (HT6x.out _ (by first | exact (Below.refl _ _).drew | assumption)).mono ?_; rintro e w7 ⟨a7, c7, rfl, HR7, hb7'⟩; have hS7 : Below w6.heap.size w6 w7 := below_next (B := w6) (by first | exact (Below.refl _ _).drew | assumption) hb7'; clear hb7') | (go_at_call 16; refine (HBY.out _ a7 c7 (by first | exact (Below.refl _ _).drew | assumption) HR7.out).mono ?_; rintro e w8 ⟨rfl, hb8'⟩; have hS8 : Below w6.heap.size w6 w8 := below_next (B := w6) (by first | exact (Below.refl _ _).drew | assumption) hb8'; clear hb8')
  go_wp2_with fail
  refine hK.out _ _ (by first | exact (Below.refl _ _).drew | assumption) ?_
  clear hK K
  intro hHeld2
  clear hHeld
  have hHeld := hHeld2
  clear hHeld2
  try simp only [Act.put, List.setIfInBounds_toArray, List.set_cons_zero, List.set_cons_succ]
  refine take_at (i := 6) 47 (v := ?_) rfl rfl (by kernel_rfl) (by kernel_rfl) (by kernel_rfl) (fun _ _ _ h => h) (by rfl) ?_ hHeld ?_
  rotate_left
  · (intro w hSw; (try dsimp only at hSw); go_simp; try with_reducible rfl)
  simp only [Act.put, List.setIfInBounds_toArray, List.set_cons_zero, List.set_cons_succ]
  refine take_at (i := 7) 48 (v := ?_) rfl rfl (by kernel_rfl) (by kernel_rfl) (by kernel_rfl) (fun _ _ _ h => h) (by rfl) ?_ hHeld ?_
  rotate_left
  · (intro w hSw; (try dsimp only at hSw); go_simp; try with_reducible rfl)
  simp only [Act.put, List.setIfInBounds_toArray, List.set_cons_zero, List.set_cons_succ]
  refine take_at (i := 8) 49 (v := ?_) rfl rfl (by kernel_rfl) (by kernel_rfl) (by kernel_rfl) (fun _ _ _ h => h) (by rfl) ?_ hHeld ?_
  rotate_left
  · (intro w hSw; (try dsimp only at hSw); go_simp; try with_reducible rfl)
  simp only [Act.put, List.setIfInBounds_toArray, List.set_cons_zero, List.set_cons_succ]
  refine take_at (i := 9) 50 (v := ?_) rfl rfl (by kernel_rfl) (by kernel_rfl) (by kernel_rfl) (fun _ _ _ h => h) (by rfl) ?_ hHeld ?_
  rotate_left
  · (intro w hSw; (try dsimp only at hSw); go_simp; try with_reducible rfl)
  simp only [Act.put, List.setIfInBounds_toArray, List.set_cons_zero, List.set_cons_succ]
  refine take_at (i := 10) 51 (v := ?_) rfl rfl (by kernel_rfl) (by kernel_rfl) (by kernel_rfl) (fun _ _ _ h => h) (by rfl) ?_ hHeld ?_
  rotate_left
  · (intro w hSw; (try dsimp only at hSw); go_simp; try with_reducible rfl)
  simp only [Act.put, List.setIfInBounds_toArray, List.set_cons_zero, List.set_cons_succ]
  refine take_at (i := 11) 52 (v := ?_) rfl rfl (by kernel_rfl) (by kernel_rfl) (by kernel_rfl) (fun _ _ _ h => h) (by rfl) ?_ hHeld ?_
  rotate_left
  · (intro w hSw; (try dsimp only at hSw); go_simp; try with_reducible rfl)
  simp only [Act.put, List.setIfInBounds_toArray, List.set_cons_zero, List.set_cons_succ]
  refine take_at (i := 12) 53 (v := ?_) rfl rfl (by kernel_rfl) (by kernel_rfl) (by kernel_rfl) (fun _ _ _ h => h) (by rfl) ?_ hHeld ?_
  rotate_left
  · (intro w hSw; (try dsimp only at hSw); go_simp; try with_reducible rfl)
  simp only [Act.put, List.setIfInBounds_toArray, List.set_cons_zero, List.set_cons_succ]
  refine take_at (i := 13) 54 (v := ?_) rfl rfl (by kernel_rfl) (by kernel_rfl) (by kernel_rfl) (fun _ _ _ h => h) (by rfl) ?_ hHeld ?_
  rotate_left
  · (intro w hSw; (try dsimp only at hSw); go_simp; try with_reducible rfl)
  simp only [Act.put, List.setIfInBounds_toArray, List.set_cons_zero, List.set_cons_succ]
  refine take_at (i := 14) 55 (v := ?_) rfl rfl (by kernel_rfl) (by kernel_rfl) (by kernel_rfl) (fun _ _ _ h => h) (by rfl) ?_ hHeld ?_
  rotate_left
  · (intro w hSw; (try dsimp only at hSw); go_simp; try with_reducible rfl)
  simp only [Act.put, List.setIfInBounds_toArray, List.set_cons_zero, List.set_cons_succ]
  refine take_at (i := 15) 56 (v := ?_) rfl rfl (by kernel_rfl) (by kernel_rfl) (by kernel_rfl) (fun _ _ _ h => h) (by rfl) ?_ hHeld ?_
  rotate_left
  · (intro w hSw; (try dsimp only at hSw); go_simp; try with_reducible rfl)
  simp only [Act.put, List.setIfInBounds_toArray, List.set_cons_zero, List.set_cons_succ]
  refine take_at (i := 16) 57 (v := ?_) rfl rfl (by kernel_rfl) (by kernel_rfl) (by kernel_rfl) (fun _ _ _ h => h) (by rfl) ?_ hHeld ?_
  rotate_left
  · (intro w hSw; (try dsimp only at hSw); go_simp; try with_reducible rfl)
  simp only [Act.put, List.setIfInBounds_toArray, List.set_cons_zero, List.set_cons_succ]
  refine take_at (i := 17) 58 (v := ?_) rfl rfl (by kernel_rfl) (by kernel_rfl) (by kernel_rfl) (fun _ _ _ h => h) (by rfl) ?_ hHeld ?_
  rotate_left
  · (intro w hSw; (try dsimp only at hSw); go_simp; try with_reducible rfl)
  simp only [Act.put, List.setIfInBounds_toArray, List.set_cons_zero, List.set_cons_succ]
  refine take_at (i := 18) 59 (v := ?_) rfl rfl (by kernel_rfl) (by kernel_rfl) (by kernel_rfl) (fun _ _ _ h => h) (by rfl) ?_ hHeld ?_
  rotate_left
  · (intro w hSw; (try dsimp only at hSw); go_simp; try with_reducible rfl)
  simp only [Act.put, List.setIfInBounds_toArray, List.set_cons_zero, List.set_cons_succ]
  refine take_at (i := 19) 60 (v := ?_) rfl rfl (by kernel_rfl) (by kernel_rfl) (by kernel_rfl) (fun _ _ _ h => h) (by rfl) ?_ hHeld ?_
  rotate_left
  · (intro w hSw; (try dsimp only at hSw); go_simp; try with_reducible rfl)
  simp only [Act.put, List.setIfInBounds_toArray, List.set_cons_zero, List.set_cons_succ]
  refine take_at (i := 20) 61 (v := ?_) rfl rfl (by kernel_rfl) (by kernel_rfl) (by kernel_rfl) (fun _ _ _ h => h) (by rfl) ?_ hHeld ?_
  rotate_left
  · (intro w hSw; (try dsimp only at hSw); go_simp; try with_reducible rfl)
  simp only [Act.put, List.setIfInBounds_toArray, List.set_cons_zero, List.set_cons_succ]
  refine take_at (i := 21) 11 (v := ?_) rfl rfl (by kernel_rfl) (by kernel_rfl) (by kernel_rfl) (fun _ _ _ h => h) (by rfl) ?_ hHeld ?_
  rotate_left
  · (intro w hSw; (try dsimp only at hSw); go_simp; try with_reducible rfl)
  simp only [Act.put, List.setIfInBounds_toArray, List.set_cons_zero, List.set_cons_succ]
  refine wpAnyH_done (by kernel_rfl) ?_ _
  refine NoPanic.normal ?_
  have HS8 : Hid (Chg (fun b => b = gf) w6 w8) := Chg.of_below hS8
  have HO8 : Hid _ := Own.below (v := .slice (some ⟨gf, 0, none⟩) K2 cf) HO6.out hS8
  clear hS7 hS8 HBY HT6x ua uc hfa hfb hld2
  go_wp2_with fail
  go_loopw [12] (fun j wr => ∃ (k : Nat) (zs : List UInt8), k ≤ L ∧ j = .int .i64 (k : Int) ∧ Hid (zs.length = K2) ∧ Own wr X.heap.size (.slice (some ⟨gf, 0, none⟩) K2 cf) zs ∧ Chg (fun b => b = gf) w6 wr) (fun j _ => L - (intOf j).toNat)
  case atStart => exact ⟨0, T ++ [211, 212], Nat.zero_le _, rfl, by unfold Hid; rw [HK2L.out, HL.out.1]; simp, HO8.out, HS8.out⟩
  case round =>
    obtain ⟨k, zs, hk, rfl, HZL, hoz, hcg⟩ := hrel
    clear HO8 HS8
    have hkw : IntKind.i64.wrap ((k : Int) + 1) = ((k + 1 : Nat) : Int) := by rw [IntKind.wrap_i64]; have := HL.out; omega
    have HCG : Hid _ := hcg
    clear hcg
    by_cases hlt : k < L
    · have hlti : (k : Int) < (L : Int) := by omega
      have hk0 : (0 : Int) ≤ (k : Int) := by omega
      have hk2 : (k : Int) < (K2 : Int) := by have := HK2L.out; omega
      have hkz : k < zs.length := by rw [HZL.out, HK2L.out]; omega
      have hoz' := hoz
      rw [← HZL.out] at hoz'
      have hcell : wr.cell? ⟨gf, k, none⟩ = some (.int .u8 (zs[k].toNat : Int)) := by rw [World.ownsRow.cellAt hoz' k (by omega), bv_get _ k hkz]
      have hfz := World.ownsRow.frozenAt hoz' k
      have hst := own_set hoz' k (255 ^^^ zs[k]) (bits BinOp.xor IntKind.u8 (if IntKind.u8.signed = true then -1 else IntKind.u8.max) (zs[k].toNat : Int)) (by rw [show (if IntKind.u8.signed = true then (-1 : Int) else IntKind.u8.max) = (((255 : UInt8).toNat : Nat) : Int) from by decide]; exact u8_xor_ints 255 zs[k])
      rw [HZL.out] at hst
      have HST : Hid _ := hst
      clear hoz hoz' hst hKL hKw
      go_wp2
      go_roundw
      case rel => exact ⟨k + 1, _, by omega, by go_num, by unfold Hid; rw [List.length_set]; exact HZL.out, HST.out.1, Chg.trans HCG.out (Chg.of_grown (F := fun b => b = gf) HST.out.2 (fun b hb => by cases hb; rfl)) (fun b hb => .inl hb)⟩
      case measure => simp [intOf]; omega
    · have hlti : ¬ (k : Int) < (L : Int) := by omega
      clear hoz
      go_wp2
      go_ret
      refine ⟨by first | rfl | simp, (Bo.kept HB6.out HCG.out (fun b hb e => ?_)).mono (fun b hb => ?_), Chg.trans HC5.out HCG.out (fun b hb => .inr (by rw [hb]; have := HGF.out; omega))⟩
      · rcases hb with hb | hb
        · rw [e] at hb; exact hGQ _ HGF.out.2 (HQ1.out _ hb).1
        · have := HGF.out; have := HS34.out; have := HS45.out; omega
      · rcases hb with hb | hb
        · exact HQ1w.out b hb
        · exact .inr (by have := HGF.out; have := HS34.out; have := HS45.out; omega)
end Go.Proofs.Ytgdkiejlggiakac
