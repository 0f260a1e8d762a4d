import Derived.Test.YtbncejnoajocjabDUse
namespace Go.Proofs.Ytbncejnoajocjab
set_option linter.unusedVariables false
set_option linter.unusedSimpArgs false
open Go.RowKit Go.Maps
theorem flushed_len (S : List Sec) (C : Nat → List (List UInt8)) : (flushed S C).length = S.length := by simp [flushed]
set_option maxRecDepth 20000 in
set_option maxHeartbeats 800000 in
theorem diskNil_walk (W : World) : Calls Try.prog 3 #[] W fun e W' => e = .returned (.bool true) ∧ Below W.heap.size W W' := by
  obtain ⟨S, hS⟩ : ∃ S : List Sec, S = List.replicate 2 Sec.zero := ⟨_, rfl⟩
  have hSl : S.length = 2 := by rw [hS]; rfl
  have hSf : ∀ s ∈ S, s.fit := by rw [hS]; exact rep_fit 2
  have HNE : Hid (Calls Try.prog 9 #[.int .i64 2] W fun e w' => e = .returned (.tuple #[.pointer (some ⟨W.heap.size + 2, 0, none⟩), .int .i64 0]) ∧ NewAt w' (W.heap.size + 2) W.heap.size (W.heap.size + 1) S ∧ Below W.heap.size W w') := by
    refine Calls.mono (new_t 2 (by decide) (by decide) W) ?_
    rintro e w' ⟨rfl, rfl⟩
    exact ⟨rfl, by rw [hS]; exact newW_at W 2 (by decide) (by decide), newW_below W 2⟩
  have HSl : Hid _ := hSl
  clear hS hSl
  go_enter Try.func3, Try.ntmps3
  go_wp2_with fail
  refine HNE.out.mono ?_
  rintro e w1 ⟨rfl, hat1, hb1⟩
  obtain ⟨P, hP⟩ : ∃ P : Nat, P = W.heap.size + 2 := ⟨_, rfl⟩
  obtain ⟨Q, hQ⟩ : ∃ Q : Nat, Q = W.heap.size + 1 := ⟨_, rfl⟩
  obtain ⟨G, hG⟩ : ∃ G : Nat, G = W.heap.size := ⟨_, rfl⟩
  rw [← hP, ← hQ, ← hG] at hat1
  rw [← hP]
  have hdk1 := hat1.dk hSf
  have hPW : W.heap.size ≤ P ∧ W.heap.size ≤ Q ∧ W.heap.size ≤ G := by omega
  have hP1 : P < w1.heap.size := hdk1.lt (.inl rfl)
  have hs1 := hb1.size
  clear hP hQ hG hat1
  go_wp2_with fail
  refine (fill_t 5 w1 (by decide)).mono ?_
  rintro e w2 ⟨g2, rfl, hg2, hrow2, hb2⟩
  have HWR : Hid (Calls Try.prog 10 #[.pointer (some ⟨P, 0, none⟩), .int .i64 1, .slice (some ⟨g2, 0, none⟩) 128 128] w2 fun e w' => e = .returned (.int .i64 0) ∧ ∃ v, DK w' P G Q S (upd (fun _ => []) 1 ([] ++ [fillS 5])) (upd (fun _ => nilS) 1 v) (begO false (-1)) (begF false (-1)) (0 + 1) ∧ Chg (fun b => b = P ∨ b = Q ∨ nilS.ownBlock = some b) w2 w' ∧ (nilS.ownBlock = v.ownBlock ∨ ∃ b, v.ownBlock = some b ∧ w2.heap.size ≤ b)) :=
    write_t P G Q 1 S (fun _ => []) (fun _ => nilS) false (-1) 0 (some ⟨g2, 0, none⟩) 128 (fillS 5) w2 (hdk1.below hb2) (by decide) (by rw [HSl.out]; decide) rfl (rd_row hrow2) (fillS_len 5) (fun a ha => by cases ha; show g2 ≠ P; omega)
  have hs2 := hb2.size
  go_wp2_with fail
  refine HWR.out.mono ?_
  rintro e w3 ⟨rfl, v3, hdk3, hc3, -⟩
  have hF3 : ∀ b, (b = P ∨ b = Q ∨ nilS.ownBlock = some b) → W.heap.size ≤ b := by
    rintro b (rfl | rfl | hb)
    · omega
    · omega
    · simp [nilS, Value.ownBlock] at hb
  have hw3 : Below W.heap.size W w3 := (hb1.trans (hb2.mono hb1.size)).trans (hc3.below hF3 (by omega))
  have HFL : Hid _ := flush_t P G Q S _ _ _ _ _ w3 hdk3 rfl
  clear hdk1 hdk3
  go_wp2_with fail
  refine Calls.mono HFL.out ?_
  rintro e w4 ⟨rfl, hdk4, hc4⟩
  have hw4 : Below W.heap.size W w4 := hw3.trans (hc4.below (fun b hb => by rcases hb with rfl | rfl | rfl <;> omega) hw3.size)
  obtain ⟨T, hT⟩ : ∃ T : List Sec, T = flushed S (upd (fun _ => []) 1 ([] ++ [fillS 5])) := ⟨_, rfl⟩
  rw [← hT] at hdk4
  have hTl : T.length = 2 := by rw [hT, flushed_len]; exact HSl.out
  have hT1 : T[1]? = some ⟨fillS 5, false⟩ := by
    rw [hT, List.getElem?_eq_getElem (by rw [flushed_len, HSl.out]; decide)]
    simp only [flushed, List.getElem_mapIdx, upd_same]
    rfl
  have HIM : Hid (Calls Try.prog 13 #[.pointer (some ⟨P, 0, none⟩)] w4 fun e w' => e = .returned (.slice (some ⟨w4.heap.size, 0, none⟩) 258 258) ∧ w'.heap[w4.heap.size]? = some (.cells (bv (img T)).toArray 5 (0, 0)) ∧ Below w4.heap.size w4 w') := by
    have h9 := image_r P G T w4 hdk4.secAt
    rw [img_len (fit_ok hdk4.fit), hTl] at h9
    exact h9
  have HTl : Hid _ := hTl
  have HT1 : Hid _ := hT1
  clear hT hTl hT1
  go_wp2_with fail
  refine HIM.out.mono ?_
  rintro e w5 ⟨rfl, -, hb5⟩
  have hdk5 := hdk4.below hb5
  have hw5 := hw4.trans (hb5.mono hw4.size)
  clear hdk4
  have hbd0 : ∀ u, (Instr.build 34 #[]).run Try.prog u = .ok (.agg #[.slice none 0 0, .map none, .bool false, .int .i64 0]) u := fun u => run_build u _ _ _ (by kernel_rfl)
  go_wp2_with fail
  obtain ⟨X, hX⟩ : ∃ X : Nat, X = w5.heap.size := ⟨_, rfl⟩
  obtain ⟨Y, hY⟩ : ∃ Y : Nat, Y = w5.heap.size + 1 := ⟨_, rfl⟩
  obtain ⟨w6, hw6⟩ : ∃ w6 : World, w6 = (w5.alloc (.cells #[.slice none 0 0, .map none, .bool false, .int .i64 0] 34)).alloc (.cells #[.pointer none, .pointer (some ⟨w5.heap.size, 0, none⟩)] 22) := ⟨_, rfl⟩
  have hb6 : Below w5.heap.size w5 w6 := by rw [hw6]; exact al (al (Below.refl _ _) _) _
  have hx6' : w6.cell? ⟨X, 0, none⟩ = some (.slice none 0 0) := by rw [hw6, hX]; go_simp
  have hl0 : w6.cell? ⟨Y, 0, none⟩ = some (.pointer none) := by rw [hw6, hY]; go_simp
  have hl1 : w6.cell? ⟨Y, 1, none⟩ = some (.pointer (some ⟨X, 0, none⟩)) := by rw [hw6, hY, hX]; go_simp
  rw [← hw6, ← hY]
  have hdk6 := hdk5.below hb6
  have hw6W := hw5.trans (hb6.mono hw5.size)
  clear hX hY hw6 hdk5 hbd0
  go_loopw [6] (fun i wr => ∃ k : Nat, k ≤ 2 ∧ i = .int .i64 k ∧ Below w6.heap.size w6 wr) (fun i _ => 2 - (intOf i).toNat)
  case atStart => exact ⟨0, by decide, rfl, Below.refl _ _⟩
  case round =>
    obtain ⟨k, hk, rfl, hbr⟩ := hrel
    have hx6 := (hbr.cell (p := ⟨X, 0, none⟩) (World.block_lt_of_cell? _ _ hx6')).trans hx6'
    have hx6a := ((al hbr (.cells #[.int .i64 1] 3)).cell (p := ⟨X, 0, none⟩) (World.block_lt_of_cell? _ _ hx6')).trans hx6'
    have hm0 := (hbr.cell (p := ⟨Y, 0, none⟩) (World.block_lt_of_cell? _ _ hl0)).trans hl0
    have hm1 := (hbr.cell (p := ⟨Y, 1, none⟩) (World.block_lt_of_cell? _ _ hl1)).trans hl1
    by_cases h0 : k = 0
    · subst h0
      rw [show ((0 : Nat) : Int) = 0 from rfl]
      focus
          go_wp2_with (first
            | (go_at_call 14; refine (cut_nil 0 _).mono ?_; rintro e u ⟨rfl, hq⟩; have hq := hq.symm; subst hq)
            | (go_at_call 15; refine (crash_nil _ _).mono ?_; rintro e u ⟨rfl, hq⟩; have hq := hq.symm; subst hq)
            | (go_at_call 16; refine (read_nil 0 _).mono ?_; rintro e u ⟨rfl, hq⟩; have hq := hq.symm; subst hq)
            | (go_at_call 17; refine (dirty_nil _).mono ?_; rintro e u ⟨rfl, hq⟩; have hq := hq.symm; subst hq)
            | (go_at_call 11; refine (fill_t 1 _ (by decide)).mono ?_; rintro e w7 ⟨g7, rfl, hg7, hrow7, hb7⟩; skip)
            | (go_at_call 10; refine (write_nil 0 _ _ _ _).mono ?_; rintro e u ⟨rfl, hq⟩; have hq := hq.symm; subst hq)
            | (go_at_call 12; refine (flush_nil _).mono ?_; rintro e u ⟨rfl, hq⟩; have hq := hq.symm; subst hq)
            | (go_at_call 13; refine (image_nil _).mono ?_; rintro e w8 ⟨rfl, hb8⟩; skip)
            | (go_at_call 18; refine (sectors_nil _).mono ?_; rintro e u ⟨rfl, hq⟩; have hq := hq.symm; subst hq)
            | (go_at_call 19; refine (down_nil _).mono ?_; rintro e u ⟨rfl, hq⟩; have hq := hq.symm; subst hq))
          go_roundw
          case rel => exact ⟨1, by omega, rfl, ((al hbr _).trans (hb7.mono (Nat.le_trans hbr.size (by simp)))).trans (hb8.mono (Nat.le_trans (Nat.le_trans hbr.size (by simp)) hb7.size))⟩
          case measure => simp [intOf]
    · by_cases h1 : k = 1
      · subst h1
        rw [show ((1 : Nat) : Int) = 1 from rfl]
        focus
          go_wp2_with (first
            | (go_at_call 14; refine (cut_none X none 0 0 _ hx6).mono ?_; rintro e u ⟨rfl, hq⟩; have hq := hq.symm; subst hq)
            | (go_at_call 15; refine (crash_none X none 0 _ _ hx6a).mono ?_; rintro e u ⟨rfl, hq⟩; have hq := hq.symm; subst hq)
            | (go_at_call 16; refine (read_out X none 0 0 0 _ hx6a rfl).mono ?_; rintro e u ⟨rfl, hq⟩; have hq := hq.symm; subst hq)
            | (go_at_call 17; refine (dirty_none X none 0 _ hx6a).mono ?_; rintro e u ⟨rfl, hq⟩; have hq := hq.symm; subst hq)
            | (go_at_call 11; refine (fill_t 1 _ (by decide)).mono ?_; rintro e w7 ⟨g7, rfl, hg7, hrow7, hb7⟩; have hx7 := (hb7.cell (p := ⟨X, 0, none⟩) (World.block_lt_of_cell? _ _ hx6a)).trans hx6a)
            | (go_at_call 10; refine (write_out X none 0 0 0 _ _ _ _ hx7 rfl).mono ?_; rintro e u ⟨rfl, hq⟩; have hq := hq.symm; subst hq)
            | (go_at_call 12; refine (flush_none X none 0 _ hx7).mono ?_; rintro e u ⟨rfl, hq⟩; have hq := hq.symm; subst hq)
            | (go_at_call 13; refine (image_none X none 0 _ hx7).mono ?_; rintro e w8 ⟨rfl, hb8⟩; have hx8 := (hb8.cell (p := ⟨X, 0, none⟩) (World.block_lt_of_cell? _ _ hx7)).trans hx7)
            | (go_at_call 18; refine (sectors_t X none 0 0 _ hx8).mono ?_; rintro e u ⟨rfl, hq⟩; have hq := hq.symm; subst hq)
            | (go_at_call 19; refine (down_none X none 0 _ hx8).mono ?_; rintro e u ⟨rfl, hq⟩; have hq := hq.symm; subst hq))
          go_roundw
          case rel => exact ⟨2, by omega, rfl, ((al hbr _).trans (hb7.mono (Nat.le_trans hbr.size (by simp)))).trans (hb8.mono (Nat.le_trans (Nat.le_trans hbr.size (by simp)) hb7.size))⟩
          case measure => simp [intOf]
      · obtain rfl : k = 2 := by omega
        rw [show ((2 : Nat) : Int) = 2 from rfl]
        have hdkr := hdk6.below hbr
        obtain ⟨a9, c9, hv9, hL9⟩ := hdkr.looks 1 (by rw [HTl.out]; decide)
        have HRD : Hid (Calls Try.prog 16 #[.pointer (some ⟨P, 0, none⟩), .int .i64 1] wr fun e w' => ∃ v, e = .returned (.tuple #[v, .int .i64 0]) ∧ Own w' wr.heap.size v (fillS 5) ∧ Below wr.heap.size wr w') := by
          have h9 := read_t P G Q 1 T a9 c9 [] wr hdkr.secAt (by rw [HTl.out]; decide) (by rw [cell_of_row _ _ 1 _ _ _ hdkr.hp]; rfl) (by rw [cell_of_row _ _ 2 _ _ _ hdkr.hp]; rfl) hL9
          have h10 := HT1.out
          rw [List.getElem?_eq_getElem (by rw [HTl.out]; decide)] at h10
          rw [Option.some.inj h10] at h9
          exact h9
        have hfl := fillS_len 5
        clear hL9 hv9 hdkr
        go_wp2_with fail
        refine HRD.out.mono ?_
        rintro e w10 ⟨v10, rfl, hown10, hb10⟩
        obtain ⟨a10, c10, rfl, hlc10, hc10, hnil10, hrd10, -⟩ := hown10.val
        go_wp2_with fail
        refine (fill_t 5 w10 (by decide)).mono ?_
        rintro e w11 ⟨g11, rfl, hg11, hrow11, hb11⟩
        have HBY : Hid (Calls Try.prog 20 #[.slice a10 128 c10, .slice (some ⟨g11, 0, none⟩) 128 128] w11 fun e w' => e = .returned (.bool true) ∧ Below w11.heap.size w11 w') := by
          have h9 := byt_n a10 (some ⟨g11, 0, none⟩) 128 128 c10 128 (fillS 5) (fillS 5) w11 hfl.symm hfl.symm (hrd10.below hb11) (rd_row hrow11) (by rw [hfl]; decide) (by rw [hfl]; decide)
          rw [beq_self_eq_true] at h9
          exact h9
        go_wp2_with fail
        refine HBY.out.mono ?_
        rintro e w12 ⟨rfl, hb12⟩
        go_wp2
        go_ret
        exact ⟨rfl, (((hw6W.trans (hbr.mono hw6W.size)).trans (hb10.mono (Nat.le_trans hw6W.size hbr.size))).trans (hb11.mono (Nat.le_trans (Nat.le_trans hw6W.size hbr.size) hb10.size))).trans (hb12.mono (Nat.le_trans (Nat.le_trans (Nat.le_trans hw6W.size hbr.size) hb10.size) hb11.size))⟩
end Go.Proofs.Ytbncejnoajocjab
