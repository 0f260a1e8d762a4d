import Derived.Test.YtgdkiejlggiakacPBo
namespace Go.Proofs.Ytgdkiejlggiakac
set_option linter.unusedVariables false
set_option linter.unusedSimpArgs false
open Go.RowKit Go.Maps
/-- an operation of a script -/
structure Dop where
  kind : Int
  i : Int
  b : UInt8
  size : Int
  raw : List UInt8
  cs : List Int
def opN (s : Int) : Nat := if s = 0 then 128 else (max 0 (min s 1000)).toNat
theorem opN_le (s : Int) : opN s ≤ 1000 := by unfold opN; split <;> omega
def opX (i : Int) : UInt8 := UInt8.ofNat (i % 256).toNat
theorem opX_is (i : Int) : ((opX i).toNat : Int) = i % 256 := by
  unfold opX
  rw [UInt8.toNat_ofNat']
  omega
def opRow (n : Nat) (b : UInt8) (i : Int) : List UInt8 := ((List.replicate n b).set 0 (opX i)).set 1 (opX (i / 256))
def Dop.text (o : Dop) : List UInt8 := if 0 < o.raw.length then o.raw else opRow (opN o.size) o.b o.i
theorem Dop.text_len (o : Dop) : o.text.length ≤ o.raw.length + 1000 := by
  unfold Dop.text
  split
  · omega
  · have := opN_le o.size
    simp [opRow]
    omega
abbrev opC (o : Dop) (ra : Option Addr) (rl rc : Nat) (ca : Option Addr) (cl cc : Nat) : Array Value := #[.int .i64 o.kind, .int .i64 o.i, .int .u8 (o.b.toNat : Int), .int .i64 o.size, .slice ra rl rc, .slice ca cl cc]
set_option maxRecDepth 20000 in
set_option maxHeartbeats 1600000 in
theorem text_raw (kd i : Int) (b : UInt8) (s : Int) (ra : Option Addr) (rl rc : Nat) (cv : Value) (xs : List UInt8) (w : World) (hx : Rd w ra xs) (hl : rl = xs.length) (h0 : 0 < rl) (hnil : ra = none → rc = 0) (hm : xs.length ≤ 140737488351232) :
    Calls Try.prog 47 #[.agg #[.int .i64 kd, .int .i64 i, .int .u8 (b.toNat : Int), .int .i64 s, .slice ra rl rc, cv]] w fun e w' => ∃ v, e = .returned v ∧ Own w' w.heap.size v xs ∧ Below w.heap.size w w' := by
  obtain ⟨X, hX⟩ : ∃ X : World, X = w.alloc (.cells #[.int .i64 kd, .int .i64 i, .int .u8 (b.toNat : Int), .int .i64 s, .slice ra rl rc, cv] 77) := ⟨_, rfl⟩
  have hXr : X.heap[w.heap.size]? = some (.cells #[.int .i64 kd, .int .i64 i, .int .u8 (b.toNat : Int), .int .i64 s, .slice ra rl rc, cv] 77 (0, 0)) := by rw [hX]; exact heap_alloc_new w _
  have hXb : Below w.heap.size w X := by rw [hX]; exact al (Below.refl _ _) _
  have HXB : Hid _ := hXb
  have HX : Hid _ := hx
  have HNIL : Hid _ := hnil
  have HL : Hid (rl = xs.length ∧ rl ≤ 140737488351232) := ⟨hl, by omega⟩
  have h0i : (0 : Int) < (rl : Int) := by omega
  obtain ⟨X1, hX1⟩ : ∃ X1 : World, X1 = X.alloc (.cells #[] 5) := ⟨_, rfl⟩
  have hX1b : Below X.heap.size X X1 := by rw [hX1]; exact al (Below.refl _ _) _
  have hX1o : Own X1 X.heap.size (.slice (some ⟨X.heap.size, 0, none⟩) 0 0) [] := by rw [hX1]; exact own_made0 X
  have HX1B : Hid _ := hX1b
  have hXX : X1 = (w.alloc (.cells #[.int .i64 kd, .int .i64 i, .int .u8 (b.toNat : Int), .int .i64 s, .slice ra rl rc, cv] 77)).alloc (.cells #[] 5) := by rw [hX1, hX]
  have x41 : X1.cell? ⟨w.heap.size, 4, none⟩ = some (.slice ra rl rc) := by
    rw [hX1b.cell (p := ⟨w.heap.size, 4, none⟩) (Array.getElem?_eq_some_iff.1 hXr).1, cell_of_row _ _ 4 _ _ _ hXr]
    rfl
  rw [hX1, hX] at x41
  have hXs : X.heap.size = w.heap.size + 1 := by rw [hX]; simp
  clear hx hnil hm hXr hX1b hl hXb
  go_enter Try.func47, Try.ntmps47
  go_wp2_with (first
    | (at_builtin; rw [← hXX]; refine wp_appL rfl _ _ rfl X.heap.size (.slice (some ⟨X.heap.size, 0, none⟩) 0 0) [] xs rl ra rc HL.out.1 (by rw [hXs]; rfl) hX1o rfl (Rd.below HX.out (below_next HXB.out HX1B.out)) HNIL.out (by have := HL.out; simp; omega) (Below.size HX1B.out) ?_; intro v2 w2 hown2 hg2; rw [List.nil_append] at hown2; have hb2 : Below X.heap.size X w2 := Below.grown HX1B.out hg2 (Below.size HX1B.out) (fun b hb => (World.ownsRow.lt hX1o b hb).1); clear hXX))
  go_ret
  exact ⟨_, rfl, hown2.base (Below.size HXB.out), below_next HXB.out hb2⟩
set_option maxRecDepth 20000 in
set_option maxHeartbeats 1600000 in
theorem text_row (kd i : Int) (b : UInt8) (s : Int) (ra : Option Addr) (rc : Nat) (cv : Value) (w : World) :
    Calls Try.prog 47 #[.agg #[.int .i64 kd, .int .i64 i, .int .u8 (b.toNat : Int), .int .i64 s, .slice ra 0 rc, cv]] w fun e w' => ∃ v, e = .returned v ∧ Own w' w.heap.size v (opRow (opN s) b i) ∧ Below w.heap.size w w' := by
  obtain ⟨n, hn⟩ : ∃ n : Nat, n = opN s := ⟨_, rfl⟩
  rw [← hn]
  have hn1 : n ≤ 1000 := by rw [hn]; exact opN_le s
  have hmk : ∀ w, (Instr.makeSlice 40 (.int .i64 (n : Int)) (.int .i64 (n : Int))).run Try.prog w = .ok (.slice (some ⟨w.heap.size, 0, none⟩) n n) (w.alloc (.cells (List.replicate n (Value.int .u8 0)).toArray 5)) := fun w => make_bytes n (by omega) w
  obtain ⟨Z, hZ⟩ : ∃ Z : Array Value, Z = (List.replicate n (Value.int .u8 0)).toArray := ⟨_, rfl⟩
  rw [← hZ] at hmk
  obtain ⟨X, hX⟩ : ∃ X : World, X = w.alloc (.cells #[.int .i64 kd, .int .i64 i, .int .u8 (b.toNat : Int), .int .i64 s, .slice ra 0 rc, cv] 77) := ⟨_, rfl⟩
  have hXr : X.heap[w.heap.size]? = some (.cells #[.int .i64 kd, .int .i64 i, .int .u8 (b.toNat : Int), .int .i64 s, .slice ra 0 rc, cv] 77 (0, 0)) := by rw [hX]; exact heap_alloc_new w _
  have HXB : Hid (Below w.heap.size w X) := by rw [hX]; exact al (Below.refl _ _) _
  have hXs : X.heap.size = w.heap.size + 1 := by rw [hX]; simp
  obtain ⟨Y, hY⟩ : ∃ Y : World, Y = X.alloc (.cells Z 5) := ⟨_, rfl⟩
  have hYr : Y.heap[w.heap.size + 1]? = some (.cells (bv (List.replicate n 0)).toArray 5 (0, 0)) := by
    rw [hY, ← hXs, show bv (List.replicate n 0) = List.replicate n (Value.int .u8 0) from by simp [bv], ← hZ]
    exact heap_alloc_new X _
  have hYb : Below X.heap.size X Y := by rw [hY]; exact al (Below.refl _ _) _
  have HYB : Hid (Below w.heap.size w Y) := below_next HXB.out hYb
  have hYx : Y.heap[w.heap.size]? = some (.cells #[.int .i64 kd, .int .i64 i, .int .u8 (b.toNat : Int), .int .i64 s, .slice ra 0 rc, cv] 77 (0, 0)) := (hYb.block _ (by omega)).trans hXr
  have HYR : Hid _ := hYr
  have HYX : Hid _ := hYx
  rw [hX] at hY
  have HN : Hid _ := hn
  clear hYr hYx hYb hXr hX hXs hn hZ
  by_cases hs : s = 0
  · subst hs
    have h128 : (128 : Int) = (n : Int) := by rw [HN.out]; rfl
    have HH : Hid _ := h128
    clear h128
    rw [← HH.out] at hmk
    go_enter Try.func47, Try.ntmps47
    go_wp2
    rw [HH.out]
    clear HH HN
    rw [← hY]
    clear hmk hY
    go_loopw [5] (fun j wr => ∃ k : Nat, k ≤ n ∧ j = .int .i64 (k : Int) ∧ wr.heap[w.heap.size + 1]? = some (.cells (bv (mix b (List.replicate n 0) k)).toArray 5 (0, 0)) ∧ Chg (fun x => x = w.heap.size + 1) Y wr) (fun j _ => n - (intOf j).toNat)
    case atStart => exact ⟨0, Nat.zero_le _, rfl, by rw [mix_none]; exact HYR.out, Chg.refl _ _⟩
    case round =>
      obtain ⟨k, hk, rfl, hrow, hcg⟩ := hrel
      have hkw : IntKind.i64.wrap ((k : Int) + 1) = ((k + 1 : Nat) : Int) := by rw [IntKind.wrap_i64]; omega
      have hxr : wr.heap[w.heap.size]? = some (.cells #[.int .i64 kd, .int .i64 i, .int .u8 (b.toNat : Int), .int .i64 0, .slice ra 0 rc, cv] 77 (0, 0)) := (hcg.block _ (Array.getElem?_eq_some_iff.1 HYX.out).1 (by omega)).trans HYX.out
      have x1 : wr.cell? ⟨w.heap.size, 1, none⟩ = some (.int .i64 i) := by rw [cell_of_row _ _ 1 _ _ _ hxr]; rfl
      have x2 : wr.cell? ⟨w.heap.size, 2, none⟩ = some (.int .u8 (b.toNat : Int)) := by rw [cell_of_row _ _ 2 _ _ _ hxr]; rfl
      have hml : (mix b (List.replicate n 0) k).length = n := by rw [mix_len _ _ _ (by simpa using hk)]; simp
      have HROW : Hid _ := hrow
      have HCG : Hid _ := hcg
      by_cases hlt : k < n
      · have hlti : (k : Int) < (n : Int) := by omega
        have hk0 : (0 : Int) ≤ (k : Int) := by omega
        obtain ⟨u0, hu0⟩ := byte_at hrow k (by omega)
        have hf0 := frozen_of_row wr (w.heap.size + 1) k _ _ hrow
        have HNX : Hid ((wr.setCell ⟨w.heap.size + 1, k, none⟩ (.int .u8 (b.toNat : Int))).heap[w.heap.size + 1]? = some (.cells (bv (mix b (List.replicate n 0) (k + 1))).toArray 5 (0, 0))) := by
          unfold Hid
          rw [set_byte hrow k b, mix_step b _ k (by simpa using hlt)]
        clear hrow hcg hxr hml
        go_wp2
        go_roundw
        case rel => exact ⟨k + 1, by omega, by go_num, HNX.out, Chg.trans HCG.out (set_chg wr (w.heap.size + 1) k _) (fun b hb => .inl hb)⟩
        case measure => simp [intOf]; omega
      · have hlti : ¬ (k : Int) < (n : Int) := by omega
        obtain rfl : k = n := by omega
        rw [mix_all b _ k (by simp)] at hrow
        have HR0 : Hid _ := hrow
        have hfin : ∀ u, Chg (fun x => x = w.heap.size + 1) wr u → u.heap[w.heap.size + 1]? = some (.cells (bv (opRow k b i)).toArray 5 (0, 0)) → Own u w.heap.size (.slice (some ⟨w.heap.size + 1, 0, none⟩) k k) (opRow k b i) ∧ Below w.heap.size w u := fun u hu hr9 => ⟨own_rowD (by omega) (by simp [opRow]) (by simp only [maxLen]; omega) hr9, Below.trans HYB.out ((Chg.trans HCG.out hu (fun b hb => .inl hb)).below (fun b hb => by rw [hb]; omega) (Below.size HYB.out))⟩
        have HFIN : Hid _ := hfin
        clear hcg hxr hml hfin
        by_cases h1 : 0 < k
        · have h1i : (0 : Int) < (k : Int) := by omega
          obtain ⟨u0, hu0⟩ := byte_at hrow 0 (by simpa using h1)
          have hf0 := frozen_of_row wr (w.heap.size + 1) 0 _ _ hrow
          have hn1 := set_byte hrow 0 (opX i)
          rw [opX_is] at hn1
          have HC1 : Hid _ := set_chg wr (w.heap.size + 1) 0 (.int .u8 (i % 256))
          by_cases h2 : 1 < k
          · have h2i : (1 : Int) < (k : Int) := by omega
            obtain ⟨u1, hu1⟩ := byte_at hn1 1 (by simpa using h2)
            have hf1 := frozen_of_row _ (w.heap.size + 1) 1 _ _ hn1
            have hn2 := set_byte hn1 1 (opX (i / 256))
            rw [opX_is] at hn2
            have x1' : (wr.setCell ⟨w.heap.size + 1, 0, none⟩ (.int .u8 (i % 256))).cell? ⟨w.heap.size, 1, none⟩ = some (.int .i64 i) := (World.cell?_of_block (Chg.block HC1.out w.heap.size (World.block_lt_of_cell? wr _ x1) (show ¬ w.heap.size = w.heap.size + 1 by omega))).trans x1
            have HN2 : Hid _ := hn2
            clear hn1 hn2 hrow
            go_wp2
            go_ret
            refine ⟨_, rfl, HFIN.out _ ?_ ?_⟩
            · exact Chg.trans HC1.out (set_chg _ (w.heap.size + 1) 1 _) (fun b hb => .inl hb)
            · exact HN2.out
          · have h2i : ¬ (1 : Int) < (k : Int) := by omega
            obtain rfl : k = 1 := by omega
            have HN1 : Hid _ := hn1
            clear hn1 hrow
            rw [show ((1 : Nat) : Int) = 1 from rfl]
            go_wp2
            go_ret
            refine ⟨_, rfl, HFIN.out _ HC1.out ?_⟩
            exact HN1.out
        · obtain rfl : k = 0 := by omega
          clear hrow
          rw [show ((0 : Nat) : Int) = 0 from rfl]
          go_wp2
          go_ret
          exact ⟨_, rfl, HFIN.out _ (Chg.refl _ _) HR0.out⟩
  · have hsb : (s == 0) = false := by simpa using hs
    have HH : Hid (max 0 (min s 1000) = (n : Int)) := by unfold Hid; rw [HN.out]; unfold opN; rw [if_neg hs]; omega
    rw [← HH.out] at hmk
    go_enter Try.func47, Try.ntmps47
    go_wp2
    rw [HH.out]
    clear HH HN
    rw [← hY]
    clear hmk hY
    go_loopw [5] (fun j wr => ∃ k : Nat, k ≤ n ∧ j = .int .i64 (k : Int) ∧ wr.heap[w.heap.size + 1]? = some (.cells (bv (mix b (List.replicate n 0) k)).toArray 5 (0, 0)) ∧ Chg (fun x => x = w.heap.size + 1) Y wr) (fun j _ => n - (intOf j).toNat)
    case atStart => exact ⟨0, Nat.zero_le _, rfl, by rw [mix_none]; exact HYR.out, Chg.refl _ _⟩
    case round =>
      obtain ⟨k, hk, rfl, hrow, hcg⟩ := hrel
      have hkw : IntKind.i64.wrap ((k : Int) + 1) = ((k + 1 : Nat) : Int) := by rw [IntKind.wrap_i64]; omega
      have hxr : wr.heap[w.heap.size]? = some (.cells #[.int .i64 kd, .int .i64 i, .int .u8 (b.toNat : Int), .int .i64 s, .slice ra 0 rc, cv] 77 (0, 0)) := (hcg.block _ (Array.getElem?_eq_some_iff.1 HYX.out).1 (by omega)).trans HYX.out
      have x1 : wr.cell? ⟨w.heap.size, 1, none⟩ = some (.int .i64 i) := by rw [cell_of_row _ _ 1 _ _ _ hxr]; rfl
      have x2 : wr.cell? ⟨w.heap.size, 2, none⟩ = some (.int .u8 (b.toNat : Int)) := by rw [cell_of_row _ _ 2 _ _ _ hxr]; rfl
      have hml : (mix b (List.replicate n 0) k).length = n := by rw [mix_len _ _ _ (by simpa using hk)]; simp
      have HROW : Hid _ := hrow
      have HCG : Hid _ := hcg
      by_cases hlt : k < n
      · have hlti : (k : Int) < (n : Int) := by omega
        have hk0 : (0 : Int) ≤ (k : Int) := by omega
        obtain ⟨u0, hu0⟩ := byte_at hrow k (by omega)
        have hf0 := frozen_of_row wr (w.heap.size + 1) k _ _ hrow
        have HNX : Hid ((wr.setCell ⟨w.heap.size + 1, k, none⟩ (.int .u8 (b.toNat : Int))).heap[w.heap.size + 1]? = some (.cells (bv (mix b (List.replicate n 0) (k + 1))).toArray 5 (0, 0))) := by
          unfold Hid
          rw [set_byte hrow k b, mix_step b _ k (by simpa using hlt)]
        clear hrow hcg hxr hml
        go_wp2
        go_roundw
        case rel => exact ⟨k + 1, by omega, by go_num, HNX.out, Chg.trans HCG.out (set_chg wr (w.heap.size + 1) k _) (fun b hb => .inl hb)⟩
        case measure => simp [intOf]; omega
      · have hlti : ¬ (k : Int) < (n : Int) := by omega
        obtain rfl : k = n := by omega
        rw [mix_all b _ k (by simp)] at hrow
        have HR0 : Hid _ := hrow
        have hfin : ∀ u, Chg (fun x => x = w.heap.size + 1) wr u → u.heap[w.heap.size + 1]? = some (.cells (bv (opRow k b i)).toArray 5 (0, 0)) → Own u w.heap.size (.slice (some ⟨w.heap.size + 1, 0, none⟩) k k) (opRow k b i) ∧ Below w.heap.size w u := fun u hu hr9 => ⟨own_rowD (by omega) (by simp [opRow]) (by simp only [maxLen]; omega) hr9, Below.trans HYB.out ((Chg.trans HCG.out hu (fun b hb => .inl hb)).below (fun b hb => by rw [hb]; omega) (Below.size HYB.out))⟩
        have HFIN : Hid _ := hfin
        clear hcg hxr hml hfin
        by_cases h1 : 0 < k
        · have h1i : (0 : Int) < (k : Int) := by omega
          obtain ⟨u0, hu0⟩ := byte_at hrow 0 (by simpa using h1)
          have hf0 := frozen_of_row wr (w.heap.size + 1) 0 _ _ hrow
          have hn1 := set_byte hrow 0 (opX i)
          rw [opX_is] at hn1
          have HC1 : Hid _ := set_chg wr (w.heap.size + 1) 0 (.int .u8 (i % 256))
          by_cases h2 : 1 < k
          · have h2i : (1 : Int) < (k : Int) := by omega
            obtain ⟨u1, hu1⟩ := byte_at hn1 1 (by simpa using h2)
            have hf1 := frozen_of_row _ (w.heap.size + 1) 1 _ _ hn1
            have hn2 := set_byte hn1 1 (opX (i / 256))
            rw [opX_is] at hn2
            have x1' : (wr.setCell ⟨w.heap.size + 1, 0, none⟩ (.int .u8 (i % 256))).cell? ⟨w.heap.size, 1, none⟩ = some (.int .i64 i) := (World.cell?_of_block (Chg.block HC1.out w.heap.size (World.block_lt_of_cell? wr _ x1) (show ¬ w.heap.size = w.heap.size + 1 by omega))).trans x1
            have HN2 : Hid _ := hn2
            clear hn1 hn2 hrow
            go_wp2
            go_ret
            refine ⟨_, rfl, HFIN.out _ ?_ ?_⟩
            · exact Chg.trans HC1.out (set_chg _ (w.heap.size + 1) 1 _) (fun b hb => .inl hb)
            · exact HN2.out
          · have h2i : ¬ (1 : Int) < (k : Int) := by omega
            obtain rfl : k = 1 := by omega
            have HN1 : Hid _ := hn1
            clear hn1 hrow
            rw [show ((1 : Nat) : Int) = 1 from rfl]
            go_wp2
            go_ret
            refine ⟨_, rfl, HFIN.out _ HC1.out ?_⟩
            exact HN1.out
        · obtain rfl : k = 0 := by omega
          clear hrow
          rw [show ((0 : Nat) : Int) = 0 from rfl]
          go_wp2
          go_ret
          exact ⟨_, rfl, HFIN.out _ (Chg.refl _ _) HR0.out⟩
end Go.Proofs.Ytgdkiejlggiakac
