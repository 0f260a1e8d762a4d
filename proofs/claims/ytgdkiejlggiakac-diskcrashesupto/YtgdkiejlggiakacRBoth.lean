import Derived.Test.YtgdkiejlggiakacRLoad
import Derived.Test.YtgdkiejlggiakacHelp
namespace Go.Proofs.Ytgdkiejlggiakac
set_option linter.unusedVariables false
set_option linter.unusedSimpArgs false
open Go.RowKit Go.Maps
/-- what a start makes -/
def startS (xs : List UInt8) (n : Int) : Option Dst := if 0 < xs.length then (loadS xs).map (fun S => ⟨S, fun _ => [], false, -1⟩) else if 1 ≤ n ∧ n ≤ 65536 then some (d0 n.toNat) else none
/-- both disks -/
def BothAt (w0 w : World) (p rp : Nat) (d : Dst) (c : Nat) : Prop := ∃ g m DV gs N VT VV vs Fp, DS w p g m d DV c ∧ RDk w rp gs N d VT VV vs Fp ∧ (∀ b, foot p g m DV b → w0.heap.size ≤ b) ∧ (∀ b, Fp b → w0.heap.size ≤ b) ∧ (∀ b, foot p g m DV b → ¬ Fp b)
def BothOut (w : World) (e : Ending) (w' : World) : Option Dst → Prop
  | none => e = .returned (.tuple #[.pointer none, .pointer none, .bool true]) ∧ Below w.heap.size w w'
  | some d => ∃ p rp, e = .returned (.tuple #[.pointer (some ⟨p, 0, none⟩), .pointer (some ⟨rp, 0, none⟩), .bool true]) ∧ BothAt w w' p rp d 0 ∧ Below w.heap.size w w'
theorem foot_new {w w' : World} {p g m : Nat} {b : Nat} (hp : w.heap.size ≤ p) (hg : w.heap.size ≤ g) (hm : w.heap.size ≤ m) (h : foot p g m (fun _ => nilS) b) : w.heap.size ≤ b := by
  rcases h with rfl | rfl | rfl | ⟨i, e⟩
  · exact hp
  · exact hg
  · exact hm
  · simp [nilS, Value.ownBlock] at e
theorem sub_upto (g n cap k : Nat) (h : k ≤ cap) (h0 : 0 < cap) (u : World) : (Instr.slice 40 (.slice (some ⟨g, 0, none⟩) n cap) none (some (.int .i64 (k : Int))) none).run Try.prog u = .ok (.slice (some ⟨g, 0, none⟩) k cap) u := by
  rw [run_slice_h u 40 (some ⟨g, 0, none⟩) n cap (by kernel_rfl) .i64 (k : Int) (by omega) (by omega), size_by]
  simp only [Result.andThen, sliced, Int.toNat_natCast]
  rw [if_neg (by omega)]
  simp [Go.WideShapes.add_plain]
theorem row_atB5 {w : World} {v : Value} {b B : Nat} {xs : List UInt8} (h : Own w B v xs) (hb : v.ownBlock = some b) : ∃ cur, w.heap[b]? = some (.cells cur 5 (0, 0)) := by
  rcases h.2 with ⟨rfl, -⟩ | ⟨g, cap, cur, rfl, -, hg, -⟩
  · simp [Value.ownBlock] at hb
  · simp [Value.ownBlock] at hb
    subst hb
    exact ⟨cur, hg⟩
set_option maxRecDepth 20000 in
set_option maxHeartbeats 1600000 in
theorem both_t (ao : Option Addr) (cap : Nat) (xs : List UInt8) (n : Int) (w : World) (hx : Rd w ao xs) (hc : xs.length ≤ cap) (hnil : ao = none → cap = 0) (hm : xs.length ≤ 140737488351232) :
    Calls Try.prog 33 #[.agg #[.slice ao xs.length cap, .int .i64 n]] w fun e w' => BothOut w e w' (startS xs n) := by
  obtain ⟨L, hL⟩ : ∃ L : Nat, L = xs.length := ⟨_, rfl⟩
  rw [← hL]
  obtain ⟨B0, hB0⟩ : ∃ L : Nat, L = w.heap.size := ⟨_, rfl⟩
  obtain ⟨X, hX⟩ : ∃ X : World, X = w.alloc (.cells #[.slice ao L cap, .int .i64 n] 48) := ⟨_, rfl⟩
  have hXr : X.heap[B0]? = some (.cells #[.slice ao L cap, .int .i64 n] 48 (0, 0)) := by rw [hX, hB0]; exact heap_alloc_new w _
  have hXb : Below w.heap.size w X := by rw [hX]; exact al (Below.refl _ _) _
  have x0 : X.cell? ⟨B0, 0, none⟩ = some (.slice ao L cap) := by rw [cell_of_row _ _ 0 _ _ _ hXr]; rfl
  have x1 : X.cell? ⟨B0, 1, none⟩ = some (.int .i64 n) := by rw [cell_of_row _ _ 1 _ _ _ hXr]; rfl
  have HXB : Hid _ := hXb
  have HX : Hid _ := hx
  have HNIL : Hid _ := hnil
  have HL : Hid (L = xs.length ∧ L ≤ cap ∧ L ≤ 140737488351232) := ⟨hL, by omega, by omega⟩
  have hBX : B0 < X.heap.size := (Array.getElem?_eq_some_iff.1 hXr).1
  by_cases h0 : 0 < L
  · have h0i : (0 : Int) < (L : Int) := by omega
    have HST : Hid (startS xs n = (loadS xs).map (fun S => ⟨S, fun _ => [], false, -1⟩)) := by unfold Hid startS; rw [if_pos (by omega)]
    obtain ⟨X1, hX1⟩ : ∃ X1 : World, X1 = X.alloc (.cells #[] 5) := ⟨_, rfl⟩
    have hX1b : Below X.heap.size X X1 := by rw [hX1]; exact al (Below.refl _ _) _
    have hX1o : Own X1 X.heap.size (.slice (some ⟨X.heap.size, 0, none⟩) 0 0) [] := by rw [hX1]; exact own_made0 X
    have x01 : X1.cell? ⟨B0, 0, none⟩ = some (.slice ao L cap) := (hX1b.cell (p := ⟨B0, 0, none⟩) hBX).trans x0
    have HX1B : Hid _ := hX1b
    have x01w := x01
    rw [hX1, hX] at x01w
    have hXX : X1 = (w.alloc (.cells #[.slice ao L cap, .int .i64 n] 48)).alloc (.cells #[] 5) := by rw [hX1, hX]
    have hXs : X.heap.size = w.heap.size + 1 := by rw [hX]; simp
    clear hx hnil hc hm hXr hX1b hL
    go_enter Try.func33, Try.ntmps33
    go_wp2_with (first
      | (at_builtin; rw [← hXX]; refine wp_appL rfl _ _ rfl X.heap.size (.slice (some ⟨X.heap.size, 0, none⟩) 0 0) [] xs L ao cap HL.out.1 (by rw [hXs]; rfl) hX1o rfl (Rd.below HX.out (below_next HXB.out HX1B.out)) HNIL.out (by have := HL.out; simp; omega) (Below.size HX1B.out) ?_; intro v2 w2 hown2 hg2; rw [List.nil_append] at hown2; have hb2 : Below X.heap.size X w2 := Below.grown HX1B.out hg2 (Below.size HX1B.out) (fun b hb => (World.ownsRow.lt hX1o b hb).1); have hs2 := hb2.size; clear hXX)
      | (at_builtin; refine wp_appL rfl _ _ rfl X.heap.size v2 xs [201, 202] 2 (some ⟨w2.heap.size, 0, none⟩) 2 rfl rfl (Own.below hown2 (al (Below.refl _ _) _)) rfl (rd_row (xs := [201, 202]) (heap_alloc_new w2 _)) (fun h => by cases h) (by have := HL.out; omega) (by simp; omega) ?_; intro v3 w3 hown3 hg3; have hb3 : Below X.heap.size X w3 := Below.grown (al hb2 _) hg3 (Below.size (al hb2 _)) (fun b hb => (World.ownsRow.lt hown2 b hb).1); have hoh := own_head hown3 (show 0 < (xs ++ [201, 202]).length by simp); obtain ⟨gf, cf, hvf, hcf, -, hgfX, hgfl⟩ := hoh; subst hvf; obtain ⟨K2, hK2⟩ : ∃ K : Nat, K = (xs ++ [201, 202]).length := ⟨_, rfl⟩; rw [← hK2] at hown3 hcf ⊢; have HK2L : Hid (K2 = L + 2) := (by unfold Hid; rw [hK2, HL.out.1]; simp); have x03 : w3.cell? ⟨B0, 0, none⟩ = some (.slice ao L cap) := (hb3.cell (p := ⟨B0, 0, none⟩) hBX).trans x0; have hslf : ∀ u, (Instr.slice 40 (.slice (some ⟨gf, 0, none⟩) K2 cf) none (some (.int .i64 (L : Int))) none).run Try.prog u = .ok (.slice (some ⟨gf, 0, none⟩) L cf) u := (fun u => sub_upto gf K2 cf L (by have := HK2L.out; omega) (by have := HK2L.out; omega) u); rw [hB0] at x03; clear hK2))
    have hRx3 : Rd w3 (some ⟨gf, 0, none⟩) xs := by
      obtain ⟨a9, c9, e9, -, -, -, hr9, -⟩ := hown3.val
      cases e9
      have h9 := Rd.sub hr9 0 L
      rw [List.drop_zero, HL.out.1, List.take_left, Nat.zero_add] at h9
      exact h9
    have HLD : Hid (Calls Try.prog 44 #[.slice (some ⟨gf, 0, none⟩) L cf] w3 fun e w' => LoadOut w3 e w' (loadS xs)) := by
      have h9 := load_t (some ⟨gf, 0, none⟩) cf xs w3 hRx3 (by have := HL.out; have := HK2L.out; omega) (by have := HL.out; omega)
      rw [← HL.out.1] at h9
      exact h9
    have HB3 : Hid _ := hb3
    have HRx3 : Hid _ := hRx3
    have HO3 : Hid _ := hown3
    have hgfl3 : gf < w3.heap.size := hgfl
    clear hRx3 hown3 hb2 hb3 hown2 hg2 hg3 hs2 hX1o x01 x01w hgfl
    refine HLD.out.mono ?_
    intro e4 w4 hout4
    have hb34 : Below w3.heap.size w3 w4 := by
      cases hls : loadS xs
      · rw [hls] at hout4; exact hout4.2
      · rw [hls] at hout4; exact hout4.2.2
    have hs34 := hb34.size
    have HRL : Hid (Calls Try.prog 45 #[.slice ao L cap] w4 fun e w' => RLoadOut w4 e w' (loadS xs)) := by
      have h9 := rload_t ao cap xs w4 (Rd.below HX.out (below_next HXB.out (below_next HB3.out hb34))) (by have := HL.out; omega) (by have := HL.out; omega)
      rw [← HL.out.1] at h9
      exact h9
    have HB4 : Hid (Below w.heap.size w w4) := below_next HXB.out (below_next HB3.out hb34)
    have x04 : w4.cell? ⟨w.heap.size, 0, none⟩ = some (.slice ao L cap) := (hb34.cell (p := ⟨w.heap.size, 0, none⟩) (World.block_lt_of_cell? w3 _ x03)).trans x03
    have HO4 : Hid _ := Own.below HO3.out hb34
    have hXs9 : X.heap.size = w.heap.size + 1 := hXs
    obtain ⟨pa, E, he4, hpa⟩ : ∃ (pa : Option Addr) (E : Int), e4 = .returned (.tuple #[.pointer pa, .int .i64 E]) ∧ ((loadS xs = none ∧ pa = none ∧ E = 1) ∨ (∃ S, loadS xs = some S ∧ pa = some ⟨w3.heap.size + 2, 0, none⟩ ∧ E = 0 ∧ NewAt w4 (w3.heap.size + 2) w3.heap.size (w3.heap.size + 1) S)) := by
      cases hls : loadS xs with
      | none => rw [hls] at hout4; exact ⟨none, 1, hout4.1, .inl ⟨rfl, rfl, rfl⟩⟩
      | some S => rw [hls] at hout4; exact ⟨_, 0, hout4.1, .inr ⟨S, rfl, rfl, rfl, hout4.2.1⟩⟩
    subst he4
    have HPA : Hid _ := hpa
    clear hpa hout4 hXs hXs9 HLD
    go_wp2_with fail
    refine HRL.out.mono ?_
    intro e5 w5 hout5
    obtain ⟨ra, he5, hb45, HFIN0⟩ : ∃ ra : Option Addr, e5 = .returned (.tuple #[.pointer ra, .int .i64 E]) ∧ Below w4.heap.size w4 w5 ∧ ((pa = none ∧ ra = none) ∨ (∃ p rp, pa = some ⟨p, 0, none⟩ ∧ ra = some ⟨rp, 0, none⟩)) ∧ ∀ u, Chg (fun b => b = gf) w5 u → BothOut w (.returned (.tuple #[.pointer pa, .pointer ra, .bool true])) u (startS xs n) := by
      rcases HPA.out with ⟨hls, rfl, rfl⟩ | ⟨S, hls, rfl, rfl, hnew⟩
      · rw [hls] at hout5
        refine ⟨none, hout5.1, hout5.2, .inl ⟨rfl, rfl⟩, fun u hu => ?_⟩
        rw [HST.out, hls]
        exact ⟨rfl, Below.trans (below_next HB4.out hout5.2) (hu.below (fun b hb => by rw [hb]; have := Below.size HXB.out; omega) (Below.size (below_next HB4.out hout5.2)))⟩
      · rw [hls] at hout5
        obtain ⟨rp, gs, VT, Fp, h1, h2, h3, h4⟩ := hout5
        refine ⟨_, h1, h4, .inr ⟨_, _, rfl, rfl⟩, fun u hu => ?_⟩
        rw [HST.out, hls]
        obtain ⟨hSi, hSf, -⟩ := load_img hls
        have hd4 := hnew.dk hSf
        have hd5 := hd4.below h4
        obtain ⟨cur5, hrow5⟩ := row_atB5 (Own.below HO4.out h4) (b := gf) rfl
        have hs35 := h4.size
        have hfo : ∀ b, foot (w3.heap.size + 2) w3.heap.size (w3.heap.size + 1) (fun _ => nilS) b → w3.heap.size ≤ b ∧ b < w4.heap.size := fun b hb => ⟨foot_new (w := w3) (w' := w3) (by omega) (by omega) (by omega) hb, DK.lt hd4 hb⟩
        have hw3 : w.heap.size ≤ w3.heap.size := Below.size (below_next HXB.out HB3.out)
        refine ⟨_, rp, rfl, ⟨w3.heap.size, w3.heap.size + 1, fun _ => nilS, gs, _, VT, fun _ => nilS, fun _ => [], Fp, ?_, h2.kept hu (fun b hb e => by have := h3 b hb; omega), fun b hb => Nat.le_trans hw3 (hfo b hb).1, fun b hb => Nat.le_trans (Below.size HB4.out) (h3 b hb), fun b hb hf => by have := (hfo b hb).2; have := h3 b hf; omega⟩, Below.trans (below_next HB4.out h4) (hu.below (fun b hb => by rw [hb]; have := Below.size HXB.out; omega) (Below.size (below_next HB4.out h4)))⟩
        exact DK.kept hd5 hu (fun b hb e => by subst e; exact hd5.not5 hb hrow5)
    subst he5
    have HPR : Hid _ := HFIN0.1
    have HFIN : Hid _ := HFIN0.2
    have HO5 : Hid _ := Own.below HO4.out hb45
    have x05 : w5.cell? ⟨w.heap.size, 0, none⟩ = some (.slice ao L cap) := (hb45.cell (p := ⟨w.heap.size, 0, none⟩) (World.block_lt_of_cell? w4 _ x04)).trans x04
    have HBY : Hid (∀ u, Below w5.heap.size w5 u → Calls Try.prog 16 #[.slice (some ⟨gf, 0, none⟩) L cf, .slice ao L cap] u fun e w' => e = .returned (.bool true) ∧ Below u.heap.size u w') := fun u hu => by
      have h9 := byt_n (some ⟨gf, 0, none⟩) ao L L cf cap xs xs u HL.out.1 HL.out.1 (Rd.below (Rd.below HRx3.out (below_next hb34 hb45)) hu) (Rd.below HX.out (below_next (below_next HB4.out hb45) hu)) (by have := HL.out; omega) (by have := HL.out; omega)
      rw [beq_self_eq_true] at h9
      exact h9
    have hcellF : ∀ j (hj : j < K2), w5.cell? ⟨gf, j, none⟩ = some (.int .u8 (((xs ++ [201, 202])[j]'(by have := HL.out; have := HK2L.out; simp; omega)).toNat : Int)) := fun j hj => by
      have e9 : K2 = (xs ++ [201, 202]).length := by rw [HK2L.out, HL.out.1]; simp
      have h8 := HO5.out
      rw [e9] at h8
      rw [World.ownsRow.cellAt h8 j (by omega), bv_get _ j (by omega)]
    have hfa : w5.cell? ⟨gf, L, none⟩ = some (.int .u8 201) := by
      rw [hcellF L (by have := HK2L.out; omega)]
      have := HL.out.1
      simp [List.getElem_append_right, this]
    obtain ⟨K1, hK1⟩ : ∃ K : Nat, K = L + 1 := ⟨_, rfl⟩
    have hfb : w5.cell? ⟨gf, K1, none⟩ = some (.int .u8 202) := by
      rw [hcellF K1 (by have := HK2L.out; omega)]
      have := HL.out.1
      simp [List.getElem_append_right, this, hK1]
    have hgl5 : gf < w5.heap.size := World.block_lt_of_cell? w5 _ hfa
    have hbl5 : w.heap.size < w5.heap.size := World.block_lt_of_cell? w5 _ x05
    have ub : ∀ u, Below w5.heap.size w5 u → u.cell? ⟨w.heap.size, 0, none⟩ = some (.slice ao L cap) := fun u hu => (hu.cell (p := ⟨w.heap.size, 0, none⟩) hbl5).trans x05
    have ua : ∀ u, Below w5.heap.size w5 u → u.cell? ⟨gf, L, none⟩ = some (.int .u8 201) := fun u hu => (hu.cell (p := ⟨gf, L, none⟩) hgl5).trans hfa
    have uc : ∀ u, Below w5.heap.size w5 u → u.cell? ⟨gf, K1, none⟩ = some (.int .u8 202) := fun u hu => (hu.cell (p := ⟨gf, K1, none⟩) hgl5).trans hfb
    have hLi0 : (0 : Int) ≤ (L : Int) := by omega
    have hLi2 : (L : Int) < (K2 : Int) := by have := HK2L.out; omega
    have hKw : IntKind.i64.wrap ((L : Int) + 1) = (K1 : Int) := by rw [IntKind.wrap_i64]; have := HL.out; omega
    have hKi0 : (0 : Int) ≤ (K1 : Int) := by omega
    have hKi2 : (K1 : Int) < (K2 : Int) := by have := HK2L.out; omega
    have HK1 : Hid _ := hK1
    clear hK1 hcellF HFIN0 hout5 hb34 hb45 hs34 x03 x04 HRL
    go_wp2_with fail
    refine wp_region_noPanic ?_
    refine wp_region_held_drew (S := (fun u => Below w5.heap.size w5 u)) (by kernel_rfl) (by first | exact (Below.refl _ _).drew | assumption) (fun hHeld => ?_)
    refine take_at (i := 0) 42 (v := ?_) rfl rfl (by kernel_rfl) (by kernel_rfl) (by kernel_rfl) (fun _ _ _ h => h) (by rfl) ?_ hHeld ?_
    rotate_left
    · (intro w hSw; (try dsimp only at hSw); go_simp; try with_reducible rfl)
    simp only [Act.put, List.setIfInBounds_toArray, List.set_cons_zero, List.set_cons_succ]
    refine take_at (i := 1) 43 (v := ?_) rfl rfl (by kernel_rfl) (by kernel_rfl) (by kernel_rfl) (fun _ _ _ h => h) (by rfl) ?_ hHeld ?_
    rotate_left
    · (intro w hSw; (try dsimp only at hSw); go_simp; try with_reducible rfl)
    simp only [Act.put, List.setIfInBounds_toArray, List.set_cons_zero, List.set_cons_succ]
    refine take_at (i := 2) 44 (v := ?_) rfl rfl (by kernel_rfl) (by kernel_rfl) (by kernel_rfl) (fun _ _ _ h => h) (by rfl) ?_ hHeld ?_
    rotate_left
    · (intro w hSw; (try dsimp only at hSw); go_simp; try with_reducible rfl)
    simp only [Act.put, List.setIfInBounds_toArray, List.set_cons_zero, List.set_cons_succ]
    refine take_at (i := 3) 45 (v := ?_) rfl rfl (by kernel_rfl) (by kernel_rfl) (by kernel_rfl) (fun _ _ _ h => h) (by rfl) ?_ hHeld ?_
    rotate_left
    · (intro w hSw; (try dsimp only at hSw); go_simp; try with_reducible rfl)
    simp only [Act.put, List.setIfInBounds_toArray, List.set_cons_zero, List.set_cons_succ]
    refine take_at (i := 4) 46 (v := ?_) rfl rfl (by kernel_rfl) (by kernel_rfl) (by kernel_rfl) (fun _ _ _ h => h) (by rfl) ?_ hHeld ?_
    rotate_left
    · (intro w hSw; (try dsimp only at hSw); go_simp; try with_reducible rfl)
    simp only [Act.put, List.setIfInBounds_toArray, List.set_cons_zero, List.set_cons_succ]
    refine take_at (i := 5) 47 (v := ?_) rfl rfl (by kernel_rfl) (by kernel_rfl) (by kernel_rfl) (fun _ _ _ h => h) (by rfl) ?_ hHeld ?_
    rotate_left
    · (intro w hSw; (try dsimp only at hSw); go_simp; try with_reducible rfl)
    simp only [Act.put, List.setIfInBounds_toArray, List.set_cons_zero, List.set_cons_succ]
    refine take_at (i := 6) 48 (v := ?_) rfl rfl (by kernel_rfl) (by kernel_rfl) (by kernel_rfl) (fun _ _ _ h => h) (by rfl) ?_ hHeld ?_
    rotate_left
    · (intro w hSw; (try dsimp only at hSw); go_simp; try with_reducible rfl)
    simp only [Act.put, List.setIfInBounds_toArray, List.set_cons_zero, List.set_cons_succ]
    refine run_at (i := 7) rfl (by kernel_rfl) (by rfl) (fun K hK => ?_)
    simp only [List.getElem_toArray, List.getElem_cons_zero, List.getElem_cons_succ]
    go_simp
    (go_at_call 16; refine (HBY.out _ (by first | exact (Below.refl _ _).drew | assumption)).mono ?_; rintro e w6 ⟨rfl, hb6⟩; have hS6 : Below w5.heap.size w5 w6 := below_next (B := w5) (by first | exact (Below.refl _ _).drew | assumption) hb6; clear hb6)
    go_wp2_with fail
    refine hK.out _ _ (by first | exact (Below.refl _ _).drew | assumption) ?_
    clear hK K
    intro hHeld2
    clear hHeld
    have hHeld := hHeld2
    clear hHeld2
    try simp only [Act.put, List.setIfInBounds_toArray, List.set_cons_zero, List.set_cons_succ]
    refine take_at (i := 8) 50 (v := ?_) rfl rfl (by kernel_rfl) (by kernel_rfl) (by kernel_rfl) (fun _ _ _ h => h) (by rfl) ?_ hHeld ?_
    rotate_left
    · (intro w hSw; (try dsimp only at hSw); go_simp; try with_reducible rfl)
    simp only [Act.put, List.setIfInBounds_toArray, List.set_cons_zero, List.set_cons_succ]
    refine take_at (i := 9) 51 (v := ?_) rfl rfl (by kernel_rfl) (by kernel_rfl) (by kernel_rfl) (fun _ _ _ h => h) (by rfl) ?_ hHeld ?_
    rotate_left
    · (intro w hSw; (try dsimp only at hSw); go_simp; try with_reducible rfl)
    simp only [Act.put, List.setIfInBounds_toArray, List.set_cons_zero, List.set_cons_succ]
    refine take_at (i := 10) 52 (v := ?_) rfl rfl (by kernel_rfl) (by kernel_rfl) (by kernel_rfl) (fun _ _ _ h => h) (by rfl) ?_ hHeld ?_
    rotate_left
    · (intro w hSw; (try dsimp only at hSw); go_simp; try with_reducible rfl)
    simp only [Act.put, List.setIfInBounds_toArray, List.set_cons_zero, List.set_cons_succ]
    refine take_at (i := 11) 53 (v := ?_) rfl rfl (by kernel_rfl) (by kernel_rfl) (by kernel_rfl) (fun _ _ _ h => h) (by rfl) ?_ hHeld ?_
    rotate_left
    · (intro w hSw; (try dsimp only at hSw); go_simp; try with_reducible rfl)
    simp only [Act.put, List.setIfInBounds_toArray, List.set_cons_zero, List.set_cons_succ]
    refine take_at (i := 12) 54 (v := ?_) rfl rfl (by kernel_rfl) (by kernel_rfl) (by kernel_rfl) (fun _ _ _ h => h) (by rfl) ?_ hHeld ?_
    rotate_left
    · (intro w hSw; (try dsimp only at hSw); go_simp; try with_reducible rfl)
    simp only [Act.put, List.setIfInBounds_toArray, List.set_cons_zero, List.set_cons_succ]
    refine take_at (i := 13) 55 (v := ?_) rfl rfl (by kernel_rfl) (by kernel_rfl) (by kernel_rfl) (fun _ _ _ h => h) (by rfl) ?_ hHeld ?_
    rotate_left
    · (intro w hSw; (try dsimp only at hSw); go_simp; try with_reducible rfl)
    simp only [Act.put, List.setIfInBounds_toArray, List.set_cons_zero, List.set_cons_succ]
    refine take_at (i := 14) 56 (v := ?_) rfl rfl (by kernel_rfl) (by kernel_rfl) (by kernel_rfl) (fun _ _ _ h => h) (by rfl) ?_ hHeld ?_
    rotate_left
    · (intro w hSw; (try dsimp only at hSw); go_simp; try with_reducible rfl)
    simp only [Act.put, List.setIfInBounds_toArray, List.set_cons_zero, List.set_cons_succ]
    refine take_at (i := 15) 57 (v := ?_) rfl rfl (by kernel_rfl) (by kernel_rfl) (by kernel_rfl) (fun _ _ _ h => h) (by rfl) ?_ hHeld ?_
    rotate_left
    · (intro w hSw; (try dsimp only at hSw); go_simp; try with_reducible rfl)
    simp only [Act.put, List.setIfInBounds_toArray, List.set_cons_zero, List.set_cons_succ]
    refine take_at (i := 16) 58 (v := ?_) rfl rfl (by kernel_rfl) (by kernel_rfl) (by kernel_rfl) (fun _ _ _ h => h) (by rfl) ?_ hHeld ?_
    rotate_left
    · (intro w hSw; (try dsimp only at hSw); go_simp; try with_reducible rfl)
    simp only [Act.put, List.setIfInBounds_toArray, List.set_cons_zero, List.set_cons_succ]
    refine take_at (i := 17) 59 (v := ?_) rfl rfl (by kernel_rfl) (by kernel_rfl) (by kernel_rfl) (fun _ _ _ h => h) (by rfl) ?_ hHeld ?_
    rotate_left
    · (intro w hSw; (try dsimp only at hSw); go_simp; try with_reducible rfl)
    simp only [Act.put, List.setIfInBounds_toArray, List.set_cons_zero, List.set_cons_succ]
    refine take_at (i := 18) 60 (v := ?_) rfl rfl (by kernel_rfl) (by kernel_rfl) (by kernel_rfl) (fun _ _ _ h => h) (by rfl) ?_ hHeld ?_
    rotate_left
    · (intro w hSw; (try dsimp only at hSw); go_simp; try with_reducible rfl)
    simp only [Act.put, List.setIfInBounds_toArray, List.set_cons_zero, List.set_cons_succ]
    refine take_at (i := 19) 61 (v := ?_) rfl rfl (by kernel_rfl) (by kernel_rfl) (by kernel_rfl) (fun _ _ _ h => h) (by rfl) ?_ hHeld ?_
    rotate_left
    · (intro w hSw; (try dsimp only at hSw); go_simp; try with_reducible rfl)
    simp only [Act.put, List.setIfInBounds_toArray, List.set_cons_zero, List.set_cons_succ]
    refine take_at (i := 20) 62 (v := ?_) rfl rfl (by kernel_rfl) (by kernel_rfl) (by kernel_rfl) (fun _ _ _ h => h) (by rfl) ?_ hHeld ?_
    rotate_left
    · (intro w hSw; (try dsimp only at hSw); go_simp; try with_reducible rfl)
    simp only [Act.put, List.setIfInBounds_toArray, List.set_cons_zero, List.set_cons_succ]
    refine take_at (i := 21) 63 (v := ?_) rfl rfl (by kernel_rfl) (by kernel_rfl) (by kernel_rfl) (fun _ _ _ h => h) (by rfl) ?_ hHeld ?_
    rotate_left
    · (intro w hSw; (try dsimp only at hSw); go_simp; try with_reducible rfl)
    simp only [Act.put, List.setIfInBounds_toArray, List.set_cons_zero, List.set_cons_succ]
    refine take_at (i := 22) 64 (v := ?_) rfl rfl (by kernel_rfl) (by kernel_rfl) (by kernel_rfl) (fun _ _ _ h => h) (by rfl) ?_ hHeld ?_
    rotate_left
    · (intro w hSw; (try dsimp only at hSw); go_simp; try with_reducible rfl)
    simp only [Act.put, List.setIfInBounds_toArray, List.set_cons_zero, List.set_cons_succ]
    refine take_at (i := 23) 65 (v := ?_) rfl rfl (by kernel_rfl) (by kernel_rfl) (by kernel_rfl) (fun _ _ _ h => h) (by rfl) ?_ hHeld ?_
    rotate_left
    · (intro w hSw; (try dsimp only at hSw); go_simp; try with_reducible rfl)
    simp only [Act.put, List.setIfInBounds_toArray, List.set_cons_zero, List.set_cons_succ]
    refine take_at (i := 24) 66 (v := ?_) rfl rfl (by kernel_rfl) (by kernel_rfl) (by kernel_rfl) (fun _ _ _ h => h) (by rfl) ?_ hHeld ?_
    rotate_left
    · (intro w hSw; (try dsimp only at hSw); go_simp; try with_reducible rfl)
    simp only [Act.put, List.setIfInBounds_toArray, List.set_cons_zero, List.set_cons_succ]
    refine take_at (i := 25) 67 (v := ?_) rfl rfl (by kernel_rfl) (by kernel_rfl) (by kernel_rfl) (fun _ _ _ h => h) (by rfl) ?_ hHeld ?_
    rotate_left
    · (intro w hSw; (try dsimp only at hSw); go_simp; try with_reducible rfl)
    simp only [Act.put, List.setIfInBounds_toArray, List.set_cons_zero, List.set_cons_succ]
    refine take_at (i := 26) 68 (v := ?_) rfl rfl (by kernel_rfl) (by kernel_rfl) (by kernel_rfl) (fun _ _ _ h => h) (by rfl) ?_ hHeld ?_
    rotate_left
    · (intro w hSw; (try dsimp only at hSw); go_simp; try with_reducible rfl)
    simp only [Act.put, List.setIfInBounds_toArray, List.set_cons_zero, List.set_cons_succ]
    refine take_at (i := 27) 10 (v := ?_) rfl rfl (by kernel_rfl) (by kernel_rfl) (by kernel_rfl) (fun _ _ _ h => h) (by rfl) ?_ hHeld ?_
    rotate_left
    · (intro w hSw; (try dsimp only at hSw); go_simp; try with_reducible rfl)
    simp only [Act.put, List.setIfInBounds_toArray, List.set_cons_zero, List.set_cons_succ]
    refine wpAnyH_done (by kernel_rfl) ?_ _
    refine NoPanic.normal ?_
    have HS6 : Hid (Chg (fun b => b = gf) w5 w6) := Chg.of_below hS6
    have HO6 : Hid _ := Own.below HO5.out hS6
    have hgw : ¬ w.heap.size = gf := by have := Below.size HXB.out; have := World.block_lt_of_cell? X _ x0; omega
    clear hS6 HBY ub ua uc hfa hfb
    go_wp2_with fail
    go_loopw [11] (fun i wr => ∃ (k : Nat) (zs : List UInt8), k ≤ L ∧ i = .int .i64 (k : Int) ∧ Hid (zs.length = K2) ∧ Own wr X.heap.size (.slice (some ⟨gf, 0, none⟩) K2 cf) zs ∧ Chg (fun b => b = gf) w5 wr) (fun i _ => L - (intOf i).toNat)
    case atStart => exact ⟨0, xs ++ [201, 202], Nat.zero_le _, rfl, by unfold Hid; rw [HK2L.out, HL.out.1]; simp, HO6.out, HS6.out⟩
    case round =>
      obtain ⟨k, zs, hk, rfl, HZL, hoz, hcg⟩ := hrel
      clear HO6 HS6
      have hkw : IntKind.i64.wrap ((k : Int) + 1) = ((k + 1 : Nat) : Int) := by rw [IntKind.wrap_i64]; have := HL.out; omega
      have x0r : wr.cell? ⟨w.heap.size, 0, none⟩ = some (.slice ao L cap) := by
        rw [← x05]
        exact World.cell?_of_block (hcg.block _ hbl5 hgw)
      have HCG : Hid _ := hcg
      clear hcg
      by_cases hlt : k < L
      · have hlti : (k : Int) < (L : Int) := by omega
        have hk0 : (0 : Int) ≤ (k : Int) := by omega
        have hk2 : (k : Int) < (K2 : Int) := by have := HK2L.out; omega
        have hkz : k < zs.length := by rw [HZL.out, HK2L.out]; omega
        have hoz' := hoz
        rw [← HZL.out] at hoz'
        have hcell : wr.cell? ⟨gf, k, none⟩ = some (.int .u8 (zs[k].toNat : Int)) := by rw [World.ownsRow.cellAt hoz' k (by omega), bv_get _ k hkz]
        have hfz := World.ownsRow.frozenAt hoz' k
        have hst := own_set hoz' k (255 ^^^ zs[k]) (bits BinOp.xor IntKind.u8 (if IntKind.u8.signed = true then -1 else IntKind.u8.max) (zs[k].toNat : Int)) (by rw [show (if IntKind.u8.signed = true then (-1 : Int) else IntKind.u8.max) = (((255 : UInt8).toNat : Nat) : Int) from by decide]; exact u8_xor_ints 255 zs[k])
        rw [HZL.out] at hst
        have HST : Hid _ := hst
        clear hoz hoz' hst
        go_wp2
        go_roundw
        case rel => exact ⟨k + 1, _, by omega, by go_num, by unfold Hid; rw [List.length_set]; exact HZL.out, HST.out.1, Chg.trans HCG.out (Chg.of_grown (F := fun b => b = gf) HST.out.2 (fun b hb => by cases hb; rfl)) (fun b hb => .inl hb)⟩
        case measure => simp [intOf]; omega
      · have hlti : ¬ (k : Int) < (L : Int) := by omega
        rcases HPR.out with ⟨rfl, rfl⟩ | ⟨p, rp, rfl, rfl⟩
        · go_wp2
          go_ret3
          exact HFIN.out wr HCG.out
        · go_wp2
          go_ret3
          exact HFIN.out wr HCG.out
  · have h0i : ¬ (0 : Int) < (L : Int) := by omega
    have HST : Hid (startS xs n = if 1 ≤ n ∧ n ≤ 65536 then some (d0 n.toNat) else none) := by unfold Hid startS; rw [if_neg (by omega)]
    have x0w := x0
    rw [hX] at x0w
    have x1w := x1
    rw [hX] at x1w
    have hXs : X.heap.size = w.heap.size + 1 := by rw [hX]; simp
    clear hx hnil hc hm hXr hL
    by_cases hr : 1 ≤ n ∧ n ≤ 65536
    · obtain ⟨N, rfl⟩ : ∃ N : Nat, n = (N : Int) := ⟨n.toNat, by omega⟩
      have HN : Hid (1 ≤ N ∧ N ≤ 65536) := by unfold Hid; omega
      have HS2 : Hid (startS xs (N : Int) = some (d0 N)) := by unfold Hid; rw [HST.out, if_pos hr]; simp
      have HNEW : Hid _ := new_t N HN.out.1 HN.out.2 X
      clear hr HST
      go_enter Try.func33, Try.ntmps33
      go_wp2_with fail
      rw [← hX]
      refine Calls.mono HNEW.out ?_
      rintro e w4 ⟨rfl, hw4⟩
      have hb4 : Below X.heap.size X w4 := by rw [hw4]; exact newW_below X N
      have hat := newW_at X N HN.out.1 HN.out.2
      rw [← hw4] at hat
      have HD4 : Hid _ := hat.dk (rep_fit N)
      have x14 : w4.cell? ⟨B0, 1, none⟩ = some (.int .i64 (N : Int)) := (hb4.cell (p := ⟨B0, 1, none⟩) hBX).trans x1
      rw [hB0] at x14
      have HRN : Hid _ := rnew_t N HN.out.1 HN.out.2 w4
      have HB4 : Hid _ := hb4
      obtain ⟨p4, hp4⟩ : ∃ p4 : Nat, p4 = X.heap.size + 2 := ⟨_, rfl⟩
      obtain ⟨r4, hr4⟩ : ∃ r4 : Nat, r4 = w4.heap.size + 1 := ⟨_, rfl⟩
      rw [← hp4]
      have HP4 : Hid _ := hp4
      clear hX hw4 hat hb4 x0w x1w x0 x1 hp4 hXs
      rw [← hr4] at HRN
      have HR4 : Hid _ := hr4
      clear hr4
      go_wp2_with fail
      refine Calls.mono HRN.out ?_
      rintro e w5 ⟨rfl, hw5⟩
      have HFIN : Hid (BothOut w (.returned (.tuple #[.pointer (some ⟨p4, 0, none⟩), .pointer (some ⟨r4, 0, none⟩), .bool true])) w5 (startS xs (N : Int))) := by
        unfold Hid
        rw [HS2.out, hw5]
        have hb5 := rnewW_below w4 N
        have hr5 := rnewW_at w4 N HN.out.1 HN.out.2
        rw [← HR4.out] at hr5
        have hd4 := HD4.out
        rw [← HP4.out] at hd4
        have hfo : ∀ b, foot p4 X.heap.size (X.heap.size + 1) (fun _ => nilS) b → X.heap.size ≤ b ∧ b < w4.heap.size := fun b hb => ⟨foot_new (w := X) (w' := X) (by rw [HP4.out]; omega) (by omega) (by omega) hb, DK.lt hd4 hb⟩
        have hwX := Below.size HXB.out
        have hX4 := Below.size HB4.out
        refine ⟨p4, r4, rfl, ⟨X.heap.size, X.heap.size + 1, fun _ => nilS, w4.heap.size, N, _, _, _, _, DK.below hd4 hb5, hr5, fun b hb => Nat.le_trans hwX (hfo b hb).1, fun b hb => ?_, fun b hb hf => ?_⟩, below_next HXB.out (below_next HB4.out hb5)⟩
        · have := HR4.out; rcases hb with rfl | rfl <;> omega
        · have := (hfo b hb).2; have := HR4.out; rcases hf with rfl | rfl <;> omega
      clear hw5
      go_wp2
      go_ret3
      exact HFIN.out
    · have HS2 : Hid (startS xs n = none) := by unfold Hid; rw [HST.out, if_neg hr]
      have hbad : n < 1 ∨ 65536 < n := by omega
      have HNEW : Hid _ := new_bad n hbad X
      have HRN : Hid _ := rnew_bad n hbad X
      clear hr HST hbad
      go_enter Try.func33, Try.ntmps33
      go_wp2_with fail
      rw [← hX]
      refine Calls.mono HNEW.out ?_
      rintro e w4 ⟨rfl, hq⟩
      have hq := hq.symm
      subst hq
      rw [hB0] at x1
      clear hX x0w x1w
      go_wp2_with fail
      refine Calls.mono HRN.out ?_
      rintro e w5 ⟨rfl, hq⟩
      have hq := hq.symm
      subst hq
      go_wp2
      go_ret3
      rw [HS2.out]
      exact ⟨rfl, HXB.out⟩
end Go.Proofs.Ytgdkiejlggiakac
