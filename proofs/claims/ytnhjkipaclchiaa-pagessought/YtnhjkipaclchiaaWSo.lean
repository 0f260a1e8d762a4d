import Derived.Test.YtnhjkipaclchiaaQSp
namespace Go.Proofs.Ytnhjkipaclchiaa
set_option linter.unusedVariables false
set_option linter.unusedSimpArgs false
open Go.RowKit Go.Shelf
attribute [local go_sem] Oper.semAt_some
section
set_option maxHeartbeats 25600000
set_option maxRecDepth 100000
theorem pagesSought_walk (size : Int) (a : Option Addr) (cap : Nat) (xs : List Stp) (s1 s2 : Nat) (W : World) (hsz : -9223372036854775808 ≤ size ∧ size ≤ 9223372036854775807) (hr : RdO W a xs) (hl : xs.length ≤ cap) (hn : a = none → cap = 0) (hc : xs.length ≤ 4398046511103) :
    Calls Try.prog 8 #[.int .i64 size, .slice a xs.length cap, sv (s1, s2)] W fun e W' => e = .returned (.bool true) ∧ Below W.heap.size W W' := by
  refine (callsIn_wide (n := 12)).1 ?_
  obtain ⟨N, hN⟩ : ∃ N, N = xs.length := ⟨_, rfl⟩
  rw [← hN] at hl hc ⊢
  have HR : Hid (RdO W a xs) := hr
  have HN : Hid (N = xs.length) := hN
  obtain ⟨B0, hB0⟩ : ∃ B0, B0 = W.heap.size := ⟨_, rfl⟩
  obtain ⟨W0, hW0⟩ : ∃ X : World, X = (W.alloc (.cells #[.int .u64 (s1 : Int), .int .u64 (s2 : Int)] tSt)).alloc (.cells #[.bool false] 4) := ⟨_, rfl⟩
  have ht0 := two_new W (.cells #[.int .u64 (s1 : Int), .int .u64 (s2 : Int)] tSt) (.cells #[.bool false] 4)
  rw [← hW0, ← hB0] at ht0
  have HBS : Hid (W0.heap[B0]? = some (.cells #[.int .u64 (s1 : Int), .int .u64 (s2 : Int)] tSt (0, 0))) := ht0.1
  have HBR : Hid (W0.heap[B0 + 1]? = some (.cells #[.bool false] 4 (0, 0))) := ht0.2
  have HB0 : Hid (Below B0 W W0) := (show Below B0 W W0 by rw [hB0, hW0]; exact al (al (Below.refl _ _) _) _)
  obtain ⟨G, hG⟩ : ∃ G, G = W0.heap.size := ⟨_, rfl⟩
  have HG : Hid (G = W0.heap.size) := hG
  have HGB : Hid (G = B0 + 2) := (show G = B0 + 2 by rw [hG, hW0, hB0]; simp)
  have HB0W : Hid (B0 = W.heap.size) := hB0
  clear hr hN ht0 hG
  refine callsIn_of_wp_marks Try.func8 rfl trivial ?_ rfl
  simp only [Try.ntmps8, List.size_toArray, List.length_cons, List.length_nil, Nat.reduceAdd, Nat.reduceSub, Array.replicate_succ, Array.replicate_zero, List.push_toArray, List.append_toArray, List.nil_append, List.cons_append]
  refine wpIn_wide.2 ?_
  rw [← hB0]
  go_wp2_with fail
  simp only [← hB0]
  rw [← hW0]
  clear hW0 hB0
  refine Calls.mono (sized_t size hsz W0) ?_
  rintro e w1 ⟨S, hS4, hS64, rfl, hw1⟩
  subst hw1
  go_wp2_with fail
  refine Calls.mono (newU_t S ⟨hS4, hS64⟩ w1) ?_
  rintro e w2 ⟨rfl, hi2, hb2⟩
  rw [← HG.out] at hi2 hb2 ⊢
  have HI2 : Hid (IdxAt w2 G S [] (.slice none 0 0) []) := hi2
  have HB2 : Hid (Below G w1 w2) := hb2
  clear hi2 hb2
  go_wp2_with fail
  refine Calls.mono (num_t 0 w2) ?_
  rintro e w3 ⟨rfl, hw3⟩
  subst hw3
  go_wp2_with fail
  refine Calls.mono (small_t w3) ?_
  rintro e w4 ⟨rfl, hb4⟩
  have HI4 : Hid (IdxAt w4 G S [] (.slice none 0 0) []) := HI2.out.below hb4
  have HB4 : Hid (Below G w1 w4) := (show Below G w1 w4 by
    have h9 := HB2.out
    rw [HG.out] at h9 ⊢
    exact below_next h9 hb4)
  clear hb4 HI2 HB2
  go_wp2_with fail
  go_loopw [9, 10] (fun vb i wr => ∃ (k : Nat) (P : List (List Ent)) (v : Value) (vs : List Value) (L : List Ent), k ≤ N ∧ i = .int .i64 (k : Int) ∧ IdxAt wr G S P v vs ∧ Tid S P ∧ P.length ≤ k ∧ OwnB wr 0 vb L ∧ L = P.flatten ∧ L.length ≤ k ∧ (∀ b, foot G v b → G ≤ b) ∧ Below G w1 wr) (fun _ i _ => N - (intOf i).toNat)
  case atStart => exact ⟨0, [], _, _, [], Nat.zero_le _, rfl, HI4.out, ⟨⟨(fun p hp => by cases hp), List.Pairwise.nil⟩, (fun p hp => by cases hp)⟩, Nat.le_refl _, OwnB.nil _ _, rfl, Nat.le_refl _, (fun b hb => by rcases hb with rfl | hb; exact Nat.le_refl _; cases hb), HB4.out⟩
  case round =>
    obtain ⟨k, P, v, vs, L, hk, rfl, hi, ht, hPk, hob, hLP, hLk, hf, hbel⟩ := hrel
    have HI : Hid (IdxAt wr G S P v vs) := hi
    have HT : Hid (Tid S P) := ht
    have HOB : Hid _ := hob
    have HLP : Hid (L = P.flatten) := hLP
    have HORD : Hid (Ord L) := (show Ord L by rw [hLP]; exact ht.1.2)
    have HF : Hid (∀ b, foot G v b → G ≤ b) := hf
    have HBEL : Hid (Below G w1 wr) := hbel
    have hGr : G < wr.heap.size := hi.lt G (.inl rfl)
    clear hi ht hob hLP hf hbel
    by_cases hlt : k < N
    · have hkx : k < xs.length := by have := HN.out; omega
      obtain ⟨b, o, rfl, hr⟩ := HR.out k hkx
      obtain ⟨kd, t1, t2, tn, hx⟩ : ∃ kd t1 t2 tn, xs[k] = (kd, ⟨(t1, t2), tn⟩) := ⟨_, _, _, _, rfl⟩
      rw [hx] at hr
      have HBL : Hid (b < B0) := (show b < B0 by rw [HB0W.out]; exact World.block_lt_of_cell? W _ (hr 0 _ rfl))
      have HR1 : Hid (∀ u, Below G w1 u → u.rangeAt b (o + k * 4) (opv (kd, ⟨(t1, t2), tn⟩))) := fun u hu j v9 hv9 => (hu.cell (p := ⟨b, _, none⟩) (by have := HBL.out; have := HGB.out; simp; omega)).trans ((HB0.out.cell (p := ⟨b, _, none⟩) HBL.out).trans (hr j v9 hv9))
      have hki : (k : Int) < (N : Int) := by omega
      have hk0 : (0 : Int) ≤ (k : Int) := by omega
      clear hr hx
      go_wp2_with (first | (refine wpList_load_mid rfl tOp _ rfl b (o + k * 4) rfl (opv (kd, ⟨(t1, t2), tn⟩)) _ (HR1.out _ HBEL.out) Try.underlying36 rfl info_op ?_))
      refine Calls.mono (turns_t HI.out HT.out ⟨by omega, hS64⟩ (by omega) _ L HOB.out HORD.out (by omega) kd t1 t2 tn) ?_
      rintro e w7 ⟨vb7, v7, vs7, P7, rfl, hi7, htu, hob7, hli, hch⟩
      have HI7 : Hid (IdxAt w7 G S P7 v7 vs7) := hi7
      have HOB7 : Hid (OwnB w7 0 vb7 (rowTurn kd (mkE (t1, t2) tn) L)) := hob7
      have HF7 : Hid (∀ b, foot G v7 b → G ≤ b) := hli.above HF.out (by omega)
      have HB7 : Hid (Below G w1 w7) := HBEL.out.trans (hch.below HF.out (by omega))
      have HT7 : Hid (Tid S P7) := htu.tid
      have hP7 : P7.length ≤ k + 1 := by have := htu.len; omega
      have HL7 : Hid (rowTurn kd (mkE (t1, t2) tn) L = P7.flatten) := (show _ = _ by rw [HLP.out]; exact htu.flat.symm)
      have HLL : Hid ((rowTurn kd (mkE (t1, t2) tn) L).length ≤ k + 1) := (show _ ≤ _ by have := rowTurn_len kd (mkE (t1, t2) tn) L; omega)
      clear hi7 htu hob7 hli hch
      go_wp2
      go_roundw
      case rel => exact ⟨k + 1, P7, v7, vs7, _, by omega, by go_num, HI7.out, HT7.out, hP7, HOB7.out, HL7.out, HLL.out, HF7.out, HB7.out⟩
      case measure => simp [intOf]; omega
    · obtain rfl : k = N := by omega
      have hkI : ¬ ((k : Int) < (k : Int)) := by omega
      obtain ⟨ab, cb, rfl, hcb, hrb⟩ := OwnB.val HOB.out
      obtain ⟨M, hM⟩ : ∃ M, M = L.length := ⟨_, rfl⟩
      have HOBX : Hid (OwnB wr 0 (.slice ab M cb) L) := (by rw [hM]; exact HOB.out)
      rw [← hM] at hcb hLk ⊢
      have HM : Hid (M = L.length) := hM
      have HRB : Hid (∀ j (hj : j < L.length), ∃ b o, ab = some ⟨b, o, none⟩ ∧ wr.rangeAt b (o + j * 3) (ev L[j])) := hrb
      have HBS5 : Hid (wr.heap[B0]? = some (.cells #[.int .u64 (s1 : Int), .int .u64 (s2 : Int)] tSt (0, 0))) := (HBEL.out.block B0 (by have := HGB.out; omega)).trans HBS.out
      have HBR5 : Hid (wr.heap[B0 + 1]? = some (.cells #[.bool false] 4 (0, 0))) := (HBEL.out.block (B0 + 1) (by have := HGB.out; omega)).trans HBR.out
      have HBW5 : Hid (Below B0 W wr) := HB0.out.trans (HBEL.out.mono (by have := HGB.out; omega))
      obtain ⟨w5, hw5⟩ : ∃ X : World, X = wr := ⟨_, rfl⟩
      subst hw5
      obtain ⟨H, hH⟩ : ∃ H, H = w5.heap.size := ⟨_, rfl⟩
      have HH : Hid (H = w5.heap.size) := hH
      have hBH : B0 + 2 < H := by have := HGB.out; omega
      obtain ⟨W6, hW6⟩ : ∃ X : World, X = (w5.alloc (.cells #[.slice none 0 0] tBk)).alloc (.cells #[.slice none 0 0] tBk) := ⟨_, rfl⟩
      have HP6 : Hid (Prt w5 W6 H (.slice none 0 0) (.slice none 0 0) [] []) := (show Prt w5 W6 H (.slice none 0 0) (.slice none 0 0) [] [] by
        have ht6 := two_new w5 (.cells #[.slice none 0 0] tBk) (.cells #[.slice none 0 0] tBk)
        rw [← hW6, ← hH] at ht6
        exact ⟨by rw [hH, hW6]; exact al (al (Below.refl _ _) _) _, by rw [hH, hW6]; simp, ht6.1, ht6.2, OwnB.nil _ _, OwnB.nil _ _, fun b e => by cases e⟩)
      clear hM hrb HBEL HBS HBR HB0 HF HR HN HI4 HB4 hcb
      go_wp2_with fail
      simp only [← hH]
      rw [← hW6]
      clear hW6 hH
      go_loopw [13] (fun i wr => ∃ (j : Nat) (vu vd : Value), j ≤ M ∧ i = .int .i64 (j : Int) ∧ Prt w5 wr H vu vd (upB (L.take j) (s1, s2)) (dnB (L.take j) (s1, s2))) (fun i _ => M - (intOf i).toNat)
      case atStart => exact ⟨0, _, _, Nat.zero_le _, rfl, HP6.out⟩
      case round =>
        obtain ⟨j, vu, vd, hj, rfl, hp⟩ := hrel
        have HP : Hid (Prt w5 wr H vu vd (upB (L.take j) (s1, s2)) (dnB (L.take j) (s1, s2))) := hp
        clear hp
        obtain ⟨au, mu, cu, hvu, hmu⟩ : ∃ au mu cu, vu = .slice au mu cu ∧ mu = (upB (L.take j) (s1, s2)).length := (by obtain ⟨a9, c9, h9⟩ := OwnB.sl HP.out.ou; exact ⟨a9, _, c9, h9, rfl⟩)
        obtain ⟨ad, md, cd, hvd, hmd⟩ : ∃ ad md cd, vd = .slice ad md cd ∧ md = (dnB (L.take j) (s1, s2)).length := (by obtain ⟨a9, c9, h9⟩ := OwnB.sl HP.out.od; exact ⟨a9, _, c9, h9, rfl⟩)
        subst hvu hvd
        have HMU : Hid (mu = (upB (L.take j) (s1, s2)).length) := hmu
        have HMD : Hid (md = (dnB (L.take j) (s1, s2)).length) := hmd
        have HUL : Hid ((upB (L.take j) (s1, s2)).length ≤ j) := (show _ ≤ _ by have := upB_len (L.take j) (s1, s2); rw [List.length_take] at this; omega)
        have HDL : Hid ((dnB (L.take j) (s1, s2)).length ≤ j) := (show _ ≤ _ by have := dnB_len (L.take j) (s1, s2); rw [List.length_take] at this; omega)
        clear hmu hmd
        by_cases hlj : j < M
        · have hjL : j < L.length := by have := HM.out; omega
          obtain ⟨b, o, rfl, hr⟩ := HRB.out j hjL
          obtain ⟨t1, t2, tn, htx⟩ : ∃ t1 t2 tn, L[j] = ⟨(t1, t2), tn⟩ := ⟨_, _, _, rfl⟩
          rw [htx] at hr
          have HBB : Hid (b < H) := (show b < H by rw [HH.out]; exact World.block_lt_of_cell? w5 _ (hr 0 _ rfl))
          have hRX : ∀ u, Below H w5 u → u.rangeAt b (o + j * 3) (ev ⟨(t1, t2), tn⟩) := fun u hu q v9 hv9 => (hu.cell (p := ⟨b, _, none⟩) HBB.out).trans (hr q v9 hv9)
          have HRX : Hid (∀ u, Below H w5 u → u.rangeAt b (o + j * 3) (ev ⟨(t1, t2), tn⟩)) := hRX
          have hl3 : ∀ u, Below H w5 u → (Instr.loadAt tSt (.pointer (some ⟨B0, 0, none⟩))).run Try.prog u = .ok (sv (s1, s2)) u := fun u hu => load_st u _ _ (s1, s2) (box_range ((hu.block B0 (by omega)).trans HBS5.out))
          have hl4 : ∀ u, Below H w5 u → (Instr.loadAt tSt (.pointer (some ⟨b, o + j * 3, none⟩))).run Try.prog u = .ok (sv (t1, t2)) u := fun u hu => load_st u _ _ (t1, t2) (range_st (e := ⟨(t1, t2), tn⟩) (HRX.out u hu))
          have hl5 : ∀ u, Below H w5 u → (Instr.loadAt tRe (.pointer (some ⟨b, o + j * 3, none⟩))).run Try.prog u = .ok (ea ⟨(t1, t2), tn⟩) u := fun u hu => load_re u _ _ ⟨(t1, t2), tn⟩ (HRX.out u hu)
          have HTK : Hid (L.take (j + 1) = L.take j ++ [⟨(t1, t2), tn⟩]) := (show _ = _ by rw [List.take_succ_eq_append_getElem hjL, htx])
          have hji : (j : Int) < (M : Int) := by omega
          have hj0 : (0 : Int) ≤ (j : Int) := by omega
          clear hr hRX htx
          go_wp2_with fail
          refine wp_region_noPanic ?_
          refine wp_region_held_drew (S := (fun u => Below H w5 u)) (by kernel_rfl) (by first | assumption | exact HP.out.bel.drew) (fun hHeld => ?_)
          refine take_at (i := 0) 64 (v := ?_) rfl rfl (by kernel_rfl) (by kernel_rfl) (by kernel_rfl) (fun _ _ _ h => h) (by rfl) ?_ hHeld ?_
          rotate_left
          · (intro w hSw; (try dsimp only at hSw); go_simp; try with_reducible rfl)
          simp only [Act.put, List.setIfInBounds_toArray, List.set_cons_zero, List.set_cons_succ]
          refine take_at (i := 1) 65 (v := ?_) rfl rfl (by kernel_rfl) (by kernel_rfl) (by kernel_rfl) (fun _ _ _ h => h) (by rfl) ?_ hHeld ?_
          rotate_left
          · (intro w hSw; (try dsimp only at hSw); go_simp; try with_reducible rfl)
          simp only [Act.put, List.setIfInBounds_toArray, List.set_cons_zero, List.set_cons_succ]
          refine take_at (i := 2) 66 (v := ?_) rfl rfl (by kernel_rfl) (by kernel_rfl) (by kernel_rfl) (fun _ _ _ h => h) (by rfl) ?_ hHeld ?_
          rotate_left
          · (intro w hSw; (try dsimp only at hSw); go_simp; try with_reducible rfl)
          simp only [Act.put, List.setIfInBounds_toArray, List.set_cons_zero, List.set_cons_succ]
          refine take_at (i := 3) 67 (v := ?_) rfl rfl (by kernel_rfl) (by kernel_rfl) (by kernel_rfl) (fun _ _ _ h => h) (by rfl) ?_ hHeld ?_
          rotate_left
          · (intro w hSw; (try dsimp only at hSw); go_simp; try with_reducible rfl)
          simp only [Act.put, List.setIfInBounds_toArray, List.set_cons_zero, List.set_cons_succ]
          refine take_at (i := 4) 68 (v := sv (t1, t2)) rfl rfl (by kernel_rfl) (by kernel_rfl) (by kernel_rfl) (fun _ _ _ h => h) (by rfl) ?_ hHeld ?_
          · (intro w hSw; refine exec_load (by rfl) ?_; exact hl4 w hSw)
          simp only [Act.put, List.setIfInBounds_toArray, List.set_cons_zero, List.set_cons_succ]
          refine take_at (i := 5) 69 (v := sv (s1, s2)) rfl rfl (by kernel_rfl) (by kernel_rfl) (by kernel_rfl) (fun _ _ _ h => h) (by rfl) ?_ hHeld ?_
          · (intro w hSw; refine exec_load (by rfl) ?_; exact hl3 w hSw)
          simp only [Act.put, List.setIfInBounds_toArray, List.set_cons_zero, List.set_cons_succ]
          refine run_at (i := 6) rfl (by kernel_rfl) (by rfl) (fun K hK => ?_)
          simp only [List.getElem_toArray, List.getElem_cons_zero, List.getElem_cons_succ]
          go_simp
          (go_at_call 30; refine Calls.mono (less_t (t1, t2) (s1, s2) _) ?_; rintro e w2 ⟨rfl, hb2⟩; have HP2 : Hid (Prt w5 w2 H _ _ _ _) := (HP.out.below (Below.refl _ _).drew).below hb2; have hb29 : Below H w5 w2 := HP2.out.bel; clear hb2; obtain ⟨q, hq⟩ : ∃ q : Bool, q = ltS (t1, t2) (s1, s2) := ⟨_, rfl⟩; rw [← hq]; have HQ : Hid (q = ltS (t1, t2) (s1, s2)) := hq; clear hq)
          go_wp2_with fail
          refine hK.out _ _ (by first | assumption | exact HP.out.bel.drew) ?_
          clear hK K
          intro hHeld2
          clear hHeld
          have hHeld := hHeld2
          clear hHeld2
          try simp only [Act.put, List.setIfInBounds_toArray, List.set_cons_zero, List.set_cons_succ]
          refine take_at (i := 7) 71 (v := ?_) rfl rfl (by kernel_rfl) (by kernel_rfl) (by kernel_rfl) (fun _ _ _ h => h) (by rfl) ?_ hHeld ?_
          rotate_left
          · (intro w hSw; (try dsimp only at hSw); go_simp; try with_reducible rfl)
          simp only [Act.put, List.setIfInBounds_toArray, List.set_cons_zero, List.set_cons_succ]
          refine wpAnyH_done (by kernel_rfl) ?_ _
          refine NoPanic.normal ?_
          clear hb29
          cases q
          case true =>
            have HUN : Hid (upB (L.take (j + 1)) (s1, s2) = upB (L.take j) (s1, s2)) := (show _ = _ by rw [HTK.out, upB_snoc, if_pos HQ.out.symm, List.append_nil])
            go_wp2_with fail
            refine wp_region_noPanic ?_
            refine wp_region_held_drew (S := (fun u => Below H w5 u)) (by kernel_rfl) (by first | assumption | exact HP2.out.bel.drew) (fun hHeld => ?_)
            refine take_at (i := 0) 79 (v := sv (s1, s2)) rfl rfl (by kernel_rfl) (by kernel_rfl) (by kernel_rfl) (fun _ _ _ h => h) (by rfl) ?_ hHeld ?_
            · (intro w hSw; refine exec_load (by rfl) ?_; exact hl3 w hSw)
            simp only [Act.put, List.setIfInBounds_toArray, List.set_cons_zero, List.set_cons_succ]
            refine take_at (i := 1) 80 (v := ?_) rfl rfl (by kernel_rfl) (by kernel_rfl) (by kernel_rfl) (fun _ _ _ h => h) (by rfl) ?_ hHeld ?_
            rotate_left
            · (intro w hSw; (try dsimp only at hSw); go_simp; try with_reducible rfl)
            simp only [Act.put, List.setIfInBounds_toArray, List.set_cons_zero, List.set_cons_succ]
            refine take_at (i := 2) 81 (v := ?_) rfl rfl (by kernel_rfl) (by kernel_rfl) (by kernel_rfl) (fun _ _ _ h => h) (by rfl) ?_ hHeld ?_
            rotate_left
            · (intro w hSw; (try dsimp only at hSw); go_simp; try with_reducible rfl)
            simp only [Act.put, List.setIfInBounds_toArray, List.set_cons_zero, List.set_cons_succ]
            refine take_at (i := 3) 82 (v := ?_) rfl rfl (by kernel_rfl) (by kernel_rfl) (by kernel_rfl) (fun _ _ _ h => h) (by rfl) ?_ hHeld ?_
            rotate_left
            · (intro w hSw; (try dsimp only at hSw); go_simp; try with_reducible rfl)
            simp only [Act.put, List.setIfInBounds_toArray, List.set_cons_zero, List.set_cons_succ]
            refine take_at (i := 4) 83 (v := ?_) rfl rfl (by kernel_rfl) (by kernel_rfl) (by kernel_rfl) (fun _ _ _ h => h) (by rfl) ?_ hHeld ?_
            rotate_left
            · (intro w hSw; (try dsimp only at hSw); go_simp; try with_reducible rfl)
            simp only [Act.put, List.setIfInBounds_toArray, List.set_cons_zero, List.set_cons_succ]
            refine take_at (i := 5) 84 (v := sv (t1, t2)) rfl rfl (by kernel_rfl) (by kernel_rfl) (by kernel_rfl) (fun _ _ _ h => h) (by rfl) ?_ hHeld ?_
            · (intro w hSw; refine exec_load (by rfl) ?_; exact hl4 w hSw)
            simp only [Act.put, List.setIfInBounds_toArray, List.set_cons_zero, List.set_cons_succ]
            refine run_at (i := 6) rfl (by kernel_rfl) (by rfl) (fun K hK => ?_)
            simp only [List.getElem_toArray, List.getElem_cons_zero, List.getElem_cons_succ]
            go_simp
            (go_at_call 30; refine Calls.mono (less_t (s1, s2) (t1, t2) _) ?_; rintro e w4 ⟨rfl, hb4⟩; have HP4 : Hid (Prt w5 w4 H _ _ _ _) := (HP2.out.below (Below.refl _ _).drew).below hb4; have hb49 : Below H w5 w4 := HP4.out.bel; clear hb4; obtain ⟨r, hr⟩ : ∃ r : Bool, r = ltS (s1, s2) (t1, t2) := ⟨_, rfl⟩; rw [← hr]; have HR9 : Hid (r = ltS (s1, s2) (t1, t2)) := hr; clear hr)
            go_wp2_with fail
            refine hK.out _ _ (by first | assumption | exact HP2.out.bel.drew) ?_
            clear hK K
            intro hHeld2
            clear hHeld
            have hHeld := hHeld2
            clear hHeld2
            try simp only [Act.put, List.setIfInBounds_toArray, List.set_cons_zero, List.set_cons_succ]
            refine take_at (i := 7) 86 (v := ?_) rfl rfl (by kernel_rfl) (by kernel_rfl) (by kernel_rfl) (fun _ _ _ h => h) (by rfl) ?_ hHeld ?_
            rotate_left
            · (intro w hSw; (try dsimp only at hSw); go_simp; try with_reducible rfl)
            simp only [Act.put, List.setIfInBounds_toArray, List.set_cons_zero, List.set_cons_succ]
            refine wpAnyH_done (by kernel_rfl) ?_ _
            refine NoPanic.normal ?_
            clear hb49
            cases r
            case true =>
              have HDN : Hid (dnB (L.take (j + 1)) (s1, s2) = dnB (L.take j) (s1, s2)) := (show _ = _ by rw [HTK.out, dnB_snoc, if_pos HR9.out.symm]; rfl)
              go_wp2_with fail
              go_roundw
              case rel => exact ⟨j + 1, _, _, by omega, by go_num, by rw [HUN.out, HDN.out]; exact HP4.out⟩
              case measure => simp [intOf]; omega
            case false =>
              have HDN : Hid (dnB (L.take (j + 1)) (s1, s2) = ⟨(t1, t2), tn⟩ :: dnB (L.take j) (s1, s2)) := (show _ = _ by rw [HTK.out, dnB_snoc, if_neg (by rw [← HR9.out]; decide)]; rfl)
              have hcd : ∀ u : World, u.heap = w4.heap → u.cell? ⟨H + 1, 0, none⟩ = some (.slice ad md cd) := fun u hu => by have := HP4.out.cd; simpa [World.cell?, hu] using this
              have hcd2 : ∀ ob : Obj, (w4.drew.alloc ob).cell? ⟨H + 1, 0, none⟩ = some (.slice ad md cd) := fun ob => (HP4.out.below (al (Below.refl _ _).drew ob)).cd
              have hcd3 : ∀ ob : Obj, (w4.alloc ob).cell? ⟨H + 1, 0, none⟩ = some (.slice ad md cd) := fun ob => (HP4.out.below (al (Below.refl _ _) ob)).cd
              go_wp2_with fail
              refine wp_region_noPanic ?_
              refine wp_region_held_drew (S := (fun u => Below H w5 u)) (by kernel_rfl) (by first | assumption | exact HP4.out.bel.drew | exact (HP4.out.below (al (Below.refl _ _).drew _)).bel | exact hp6.out.bel) (fun hHeld => ?_)
              refine take_at (i := 0) 87 (v := ?_) rfl rfl (by kernel_rfl) (by kernel_rfl) (by kernel_rfl) (fun _ _ _ h => h) (by rfl) ?_ hHeld ?_
              rotate_left
              · (intro w hSw; (try dsimp only at hSw); go_simp; try with_reducible rfl)
              simp only [Act.put, List.setIfInBounds_toArray, List.set_cons_zero, List.set_cons_succ]
              refine take_at (i := 1) 88 (v := ?_) rfl rfl (by kernel_rfl) (by kernel_rfl) (by kernel_rfl) (fun _ _ _ h => h) (by rfl) ?_ hHeld ?_
              rotate_left
              · (intro w hSw; (try dsimp only at hSw); go_simp; try with_reducible rfl)
              simp only [Act.put, List.setIfInBounds_toArray, List.set_cons_zero, List.set_cons_succ]
              refine take_at (i := 2) 89 (v := ?_) rfl rfl (by kernel_rfl) (by kernel_rfl) (by kernel_rfl) (fun _ _ _ h => h) (by rfl) ?_ hHeld ?_
              rotate_left
              · (intro w hSw; (try dsimp only at hSw); go_simp; try with_reducible rfl)
              simp only [Act.put, List.setIfInBounds_toArray, List.set_cons_zero, List.set_cons_succ]
              refine take_at (i := 3) 90 (v := ea ⟨(t1, t2), tn⟩) rfl rfl (by kernel_rfl) (by kernel_rfl) (by kernel_rfl) (fun _ _ _ h => h) (by rfl) ?_ hHeld ?_
              · (intro w hSw; refine exec_load (by rfl) ?_; exact hl5 w hSw)
              simp only [Act.put, List.setIfInBounds_toArray, List.set_cons_zero, List.set_cons_succ]
              refine wpAnyH_ready (rs := [4, 5]) (by kernel_rfl) (by simp) ?_
              refine AllReadyH.cons (o := _) rfl (fun K hK => ?_) ?_
              focus
                rw [if_pos (by rfl)]
                simp only [List.getElem_toArray, List.getElem_cons_zero, List.getElem_cons_succ]
                go_simp
                go_wp2_with fail
                refine hK.out _ _ (by first | assumption | exact HP4.out.bel.drew | exact (HP4.out.below (al (Below.refl _ _).drew _)).bel | exact hp6.out.bel) ?_
                clear hK K
                intro hHeld2
                clear hHeld
                have hHeld := hHeld2
                clear hHeld2
                try simp only [Act.put, List.setIfInBounds_toArray, List.set_cons_zero, List.set_cons_succ]
                refine val_at (i := 5) 92 (v := .slice ad md cd) rfl rfl (by kernel_rfl) (by rfl) ?_ ?_ ?_
                · (refine exec_load (by rfl) ?_; go_simp)
                · (first | assumption | exact HP4.out.bel.drew | exact (HP4.out.below (al (Below.refl _ _).drew _)).bel | exact hp6.out.bel)
                intro hHeld2
                clear hHeld
                have hHeld := hHeld2
                clear hHeld2
                simp only [Act.put, List.setIfInBounds_toArray, List.set_cons_zero, List.set_cons_succ]
                refine run_at (i := 6) rfl (by kernel_rfl) (by rfl) (fun K hK => ?_)
                simp only [List.getElem_toArray, List.getElem_cons_zero, List.getElem_cons_succ]
                (refine wpo_appD _ _ rfl (HP4.out.below (al (Below.refl _ _).drew _)) (by rfl) _ ⟨(t1, t2), tn⟩ (by rfl) (heap_alloc_new w4.drew _) (by have := HP4.out.sz; simpa using this) (fun b9 h9 => by have := (OwnB.blk HP4.out.ou b9 h9).2.1; simp; omega) (by have := HDL.out; omega) ?_; intro a6 m6 c6 w6 hm6 hb6 hp6 hc6 hf6; have HM6 : Hid _ := hm6; clear hm6)
                refine hK.out _ _ (by first | assumption | exact HP4.out.bel.drew | exact (HP4.out.below (al (Below.refl _ _).drew _)).bel | exact hp6.out.bel) ?_
                clear hK K
                intro hHeld2
                clear hHeld
                have hHeld := hHeld2
                clear hHeld2
                try simp only [Act.put, List.setIfInBounds_toArray, List.set_cons_zero, List.set_cons_succ]
                refine run_at (i := 7) rfl (by kernel_rfl) (by rfl) (fun K hK => ?_)
                simp only [List.getElem_toArray, List.getElem_cons_zero, List.getElem_cons_succ]
                go_simp
                go_wp2_with fail
                refine hK.out _ _ (by first | assumption | exact HP4.out.bel.drew | exact (HP4.out.below (al (Below.refl _ _).drew _)).bel | exact hp6.out.bel) ?_
                clear hK K
                intro hHeld2
                clear hHeld
                have hHeld := hHeld2
                clear hHeld2
                try simp only [Act.put, List.setIfInBounds_toArray, List.set_cons_zero, List.set_cons_succ]
                refine wpAnyH_done (by kernel_rfl) ?_ _
                refine NoPanic.normal ?_
              rotate_left 1
              refine AllReadyH.cons (o := _) rfl (fun K hK => ?_) AllReadyH.nil
              focus
                rw [if_pos (by rfl)]
                refine val_wp 92 (v := .slice ad md cd) rfl ?_ ?_
                · (refine exec_load (by rfl) ?_; go_simp)
                refine hK.out _ _ (by first | assumption | exact HP4.out.bel.drew | exact (HP4.out.below (al (Below.refl _ _).drew _)).bel | exact hp6.out.bel) ?_
                clear hK K
                intro hHeld2
                clear hHeld
                have hHeld := hHeld2
                clear hHeld2
                simp only [Act.put, List.setIfInBounds_toArray, List.set_cons_zero, List.set_cons_succ]
                refine run_at (i := 4) rfl (by kernel_rfl) (by rfl) (fun K hK => ?_)
                simp only [List.getElem_toArray, List.getElem_cons_zero, List.getElem_cons_succ]
                go_simp
                go_wp2_with fail
                refine hK.out _ _ (by first | assumption | exact HP4.out.bel.drew | exact (HP4.out.below (al (Below.refl _ _).drew _)).bel | exact hp6.out.bel) ?_
                clear hK K
                intro hHeld2
                clear hHeld
                have hHeld := hHeld2
                clear hHeld2
                try simp only [Act.put, List.setIfInBounds_toArray, List.set_cons_zero, List.set_cons_succ]
                refine run_at (i := 6) rfl (by kernel_rfl) (by rfl) (fun K hK => ?_)
                simp only [List.getElem_toArray, List.getElem_cons_zero, List.getElem_cons_succ]
                (refine wpo_appD _ _ rfl (HP4.out.below (al (Below.refl _ _).drew _)) (by rfl) _ ⟨(t1, t2), tn⟩ (by rfl) (heap_alloc_new w4.drew _) (by have := HP4.out.sz; simpa using this) (fun b9 h9 => by have := (OwnB.blk HP4.out.ou b9 h9).2.1; simp; omega) (by have := HDL.out; omega) ?_; intro a6 m6 c6 w6 hm6 hb6 hp6 hc6 hf6; have HM6 : Hid _ := hm6; clear hm6)
                refine hK.out _ _ (by first | assumption | exact HP4.out.bel.drew | exact (HP4.out.below (al (Below.refl _ _).drew _)).bel | exact hp6.out.bel) ?_
                clear hK K
                intro hHeld2
                clear hHeld
                have hHeld := hHeld2
                clear hHeld2
                try simp only [Act.put, List.setIfInBounds_toArray, List.set_cons_zero, List.set_cons_succ]
                refine run_at (i := 7) rfl (by kernel_rfl) (by rfl) (fun K hK => ?_)
                simp only [List.getElem_toArray, List.getElem_cons_zero, List.getElem_cons_succ]
                go_simp
                go_wp2_with fail
                refine hK.out _ _ (by first | assumption | exact HP4.out.bel.drew | exact (HP4.out.below (al (Below.refl _ _).drew _)).bel | exact hp6.out.bel) ?_
                clear hK K
                intro hHeld2
                clear hHeld
                have hHeld := hHeld2
                clear hHeld2
                try simp only [Act.put, List.setIfInBounds_toArray, List.set_cons_zero, List.set_cons_succ]
                refine wpAnyH_done (by kernel_rfl) ?_ _
                refine NoPanic.normal ?_
              case' _ => obtain ⟨w7, hw7⟩ : ∃ X : World, X = w6.setCell ⟨H + 1, 0, none⟩ (.slice a6 m6 c6) := ⟨_, rfl⟩; rw [← hw7] at hp6 ⊢; clear hw7 hc6 hf6
              all_goals go_wp2_with fail
              all_goals go_roundw
              case rel => exact ⟨j + 1, _, _, by omega, by go_num, by rw [HUN.out, HDN.out]; exact hp6.out⟩
              case measure => simp [intOf]; omega
              case rel => exact ⟨j + 1, _, _, by omega, by go_num, by rw [HUN.out, HDN.out]; exact hp6.out⟩
              case measure => simp [intOf]; omega
          case false =>
            have HUN : Hid (upB (L.take (j + 1)) (s1, s2) = upB (L.take j) (s1, s2) ++ [⟨(t1, t2), tn⟩]) := (show _ = _ by rw [HTK.out, upB_snoc, if_neg (by rw [← HQ.out]; decide)])
            have hcu : ∀ u : World, u.heap = w2.heap → u.cell? ⟨H, 0, none⟩ = some (.slice au mu cu) := fun u hu => by have := HP2.out.cu; simpa [World.cell?, hu] using this
            have hcu2 : ∀ ob : Obj, (w2.drew.alloc ob).cell? ⟨H, 0, none⟩ = some (.slice au mu cu) := fun ob => (HP2.out.below (al (Below.refl _ _).drew ob)).cu
            have hcu3 : ∀ ob : Obj, (w2.alloc ob).cell? ⟨H, 0, none⟩ = some (.slice au mu cu) := fun ob => (HP2.out.below (al (Below.refl _ _) ob)).cu
            go_wp2_with fail
            refine wp_region_noPanic ?_
            refine wp_region_held_drew (S := (fun u => Below H w5 u)) (by kernel_rfl) (by first | assumption | exact HP2.out.bel.drew | exact (HP2.out.below (al (Below.refl _ _).drew _)).bel | exact hp3.out.bel) (fun hHeld => ?_)
            refine take_at (i := 1) 73 (v := ?_) rfl rfl (by kernel_rfl) (by kernel_rfl) (by kernel_rfl) (fun _ _ _ h => h) (by rfl) ?_ hHeld ?_
            rotate_left
            · (intro w hSw; (try dsimp only at hSw); go_simp; try with_reducible rfl)
            simp only [Act.put, List.setIfInBounds_toArray, List.set_cons_zero, List.set_cons_succ]
            refine take_at (i := 2) 74 (v := ?_) rfl rfl (by kernel_rfl) (by kernel_rfl) (by kernel_rfl) (fun _ _ _ h => h) (by rfl) ?_ hHeld ?_
            rotate_left
            · (intro w hSw; (try dsimp only at hSw); go_simp; try with_reducible rfl)
            simp only [Act.put, List.setIfInBounds_toArray, List.set_cons_zero, List.set_cons_succ]
            refine take_at (i := 3) 75 (v := ?_) rfl rfl (by kernel_rfl) (by kernel_rfl) (by kernel_rfl) (fun _ _ _ h => h) (by rfl) ?_ hHeld ?_
            rotate_left
            · (intro w hSw; (try dsimp only at hSw); go_simp; try with_reducible rfl)
            simp only [Act.put, List.setIfInBounds_toArray, List.set_cons_zero, List.set_cons_succ]
            refine take_at (i := 4) 76 (v := ea ⟨(t1, t2), tn⟩) rfl rfl (by kernel_rfl) (by kernel_rfl) (by kernel_rfl) (fun _ _ _ h => h) (by rfl) ?_ hHeld ?_
            · (intro w hSw; refine exec_load (by rfl) ?_; exact hl5 w hSw)
            simp only [Act.put, List.setIfInBounds_toArray, List.set_cons_zero, List.set_cons_succ]
            refine wpAnyH_ready (rs := [0, 5]) (by kernel_rfl) (by simp) ?_
            refine AllReadyH.cons (o := _) rfl (fun K hK => ?_) ?_
            focus
              rw [if_pos (by rfl)]
              refine val_wp 72 (v := .slice au mu cu) rfl ?_ ?_
              · (refine exec_load (by rfl) ?_; go_simp)
              refine hK.out _ _ (by first | assumption | exact HP2.out.bel.drew | exact (HP2.out.below (al (Below.refl _ _).drew _)).bel | exact hp3.out.bel) ?_
              clear hK K
              intro hHeld2
              clear hHeld
              have hHeld := hHeld2
              clear hHeld2
              simp only [Act.put, List.setIfInBounds_toArray, List.set_cons_zero, List.set_cons_succ]
              refine run_at (i := 5) rfl (by kernel_rfl) (by rfl) (fun K hK => ?_)
              simp only [List.getElem_toArray, List.getElem_cons_zero, List.getElem_cons_succ]
              go_simp
              go_wp2_with fail
              refine hK.out _ _ (by first | assumption | exact HP2.out.bel.drew | exact (HP2.out.below (al (Below.refl _ _).drew _)).bel | exact hp3.out.bel) ?_
              clear hK K
              intro hHeld2
              clear hHeld
              have hHeld := hHeld2
              clear hHeld2
              try simp only [Act.put, List.setIfInBounds_toArray, List.set_cons_zero, List.set_cons_succ]
              refine run_at (i := 6) rfl (by kernel_rfl) (by rfl) (fun K hK => ?_)
              simp only [List.getElem_toArray, List.getElem_cons_zero, List.getElem_cons_succ]
              (refine wpo_appU _ _ rfl (HP2.out.below (al (Below.refl _ _).drew _)) (by rfl) _ ⟨(t1, t2), tn⟩ (by rfl) (heap_alloc_new w2.drew _) (by have := HUL.out; omega) ?_; intro a3 m3 c3 w3 hm3 hb3 hp3 hc3 hf3; have HM3 : Hid _ := hm3; clear hm3)
              refine hK.out _ _ (by first | assumption | exact HP2.out.bel.drew | exact (HP2.out.below (al (Below.refl _ _).drew _)).bel | exact hp3.out.bel) ?_
              clear hK K
              intro hHeld2
              clear hHeld
              have hHeld := hHeld2
              clear hHeld2
              try simp only [Act.put, List.setIfInBounds_toArray, List.set_cons_zero, List.set_cons_succ]
              refine run_at (i := 7) rfl (by kernel_rfl) (by rfl) (fun K hK => ?_)
              simp only [List.getElem_toArray, List.getElem_cons_zero, List.getElem_cons_succ]
              go_simp
              go_wp2_with fail
              refine hK.out _ _ (by first | assumption | exact HP2.out.bel.drew | exact (HP2.out.below (al (Below.refl _ _).drew _)).bel | exact hp3.out.bel) ?_
              clear hK K
              intro hHeld2
              clear hHeld
              have hHeld := hHeld2
              clear hHeld2
              try simp only [Act.put, List.setIfInBounds_toArray, List.set_cons_zero, List.set_cons_succ]
              refine wpAnyH_done (by kernel_rfl) ?_ _
              refine NoPanic.normal ?_
            rotate_left 1
            refine AllReadyH.cons (o := _) rfl (fun K hK => ?_) AllReadyH.nil
            focus
              rw [if_pos (by rfl)]
              simp only [List.getElem_toArray, List.getElem_cons_zero, List.getElem_cons_succ]
              go_simp
              go_wp2_with fail
              refine hK.out _ _ (by first | assumption | exact HP2.out.bel.drew | exact (HP2.out.below (al (Below.refl _ _).drew _)).bel | exact hp3.out.bel) ?_
              clear hK K
              intro hHeld2
              clear hHeld
              have hHeld := hHeld2
              clear hHeld2
              try simp only [Act.put, List.setIfInBounds_toArray, List.set_cons_zero, List.set_cons_succ]
              refine val_at (i := 0) 72 (v := .slice au mu cu) rfl rfl (by kernel_rfl) (by rfl) ?_ ?_ ?_
              · (refine exec_load (by rfl) ?_; go_simp)
              · (first | assumption | exact HP2.out.bel.drew | exact (HP2.out.below (al (Below.refl _ _).drew _)).bel | exact hp3.out.bel)
              intro hHeld2
              clear hHeld
              have hHeld := hHeld2
              clear hHeld2
              simp only [Act.put, List.setIfInBounds_toArray, List.set_cons_zero, List.set_cons_succ]
              refine run_at (i := 6) rfl (by kernel_rfl) (by rfl) (fun K hK => ?_)
              simp only [List.getElem_toArray, List.getElem_cons_zero, List.getElem_cons_succ]
              (refine wpo_appU _ _ rfl (HP2.out.below (al (Below.refl _ _).drew _)) (by rfl) _ ⟨(t1, t2), tn⟩ (by rfl) (heap_alloc_new w2.drew _) (by have := HUL.out; omega) ?_; intro a3 m3 c3 w3 hm3 hb3 hp3 hc3 hf3; have HM3 : Hid _ := hm3; clear hm3)
              refine hK.out _ _ (by first | assumption | exact HP2.out.bel.drew | exact (HP2.out.below (al (Below.refl _ _).drew _)).bel | exact hp3.out.bel) ?_
              clear hK K
              intro hHeld2
              clear hHeld
              have hHeld := hHeld2
              clear hHeld2
              try simp only [Act.put, List.setIfInBounds_toArray, List.set_cons_zero, List.set_cons_succ]
              refine run_at (i := 7) rfl (by kernel_rfl) (by rfl) (fun K hK => ?_)
              simp only [List.getElem_toArray, List.getElem_cons_zero, List.getElem_cons_succ]
              go_simp
              go_wp2_with fail
              refine hK.out _ _ (by first | assumption | exact HP2.out.bel.drew | exact (HP2.out.below (al (Below.refl _ _).drew _)).bel | exact hp3.out.bel) ?_
              clear hK K
              intro hHeld2
              clear hHeld
              have hHeld := hHeld2
              clear hHeld2
              try simp only [Act.put, List.setIfInBounds_toArray, List.set_cons_zero, List.set_cons_succ]
              refine wpAnyH_done (by kernel_rfl) ?_ _
              refine NoPanic.normal ?_
            · obtain ⟨w8, hw8⟩ : ∃ X : World, X = w3.setCell ⟨H, 0, none⟩ (.slice a3 m3 c3) := ⟨_, rfl⟩
              rw [← hw8] at hp3 ⊢
              have HP3 : Hid (Prt w5 w8 H (.slice a3 m3 c3) (.slice ad md cd) (upB (L.take j) (s1, s2) ++ [⟨(t1, t2), tn⟩]) (dnB (L.take j) (s1, s2))) := hp3
              clear hw8 hc3 hf3 hb3 hp3 HP2 hcu hcu2 hcu3
              go_wp2_with fail
              refine wp_region_noPanic ?_
              refine wp_region_held_drew (S := (fun u => Below H w5 u)) (by kernel_rfl) (by first | assumption | exact HP3.out.bel.drew) (fun hHeld => ?_)
              refine take_at (i := 0) 79 (v := sv (s1, s2)) rfl rfl (by kernel_rfl) (by kernel_rfl) (by kernel_rfl) (fun _ _ _ h => h) (by rfl) ?_ hHeld ?_
              · (intro w hSw; refine exec_load (by rfl) ?_; exact hl3 w hSw)
              simp only [Act.put, List.setIfInBounds_toArray, List.set_cons_zero, List.set_cons_succ]
              refine take_at (i := 1) 80 (v := ?_) rfl rfl (by kernel_rfl) (by kernel_rfl) (by kernel_rfl) (fun _ _ _ h => h) (by rfl) ?_ hHeld ?_
              rotate_left
              · (intro w hSw; (try dsimp only at hSw); go_simp; try with_reducible rfl)
              simp only [Act.put, List.setIfInBounds_toArray, List.set_cons_zero, List.set_cons_succ]
              refine take_at (i := 2) 81 (v := ?_) rfl rfl (by kernel_rfl) (by kernel_rfl) (by kernel_rfl) (fun _ _ _ h => h) (by rfl) ?_ hHeld ?_
              rotate_left
              · (intro w hSw; (try dsimp only at hSw); go_simp; try with_reducible rfl)
              simp only [Act.put, List.setIfInBounds_toArray, List.set_cons_zero, List.set_cons_succ]
              refine take_at (i := 3) 82 (v := ?_) rfl rfl (by kernel_rfl) (by kernel_rfl) (by kernel_rfl) (fun _ _ _ h => h) (by rfl) ?_ hHeld ?_
              rotate_left
              · (intro w hSw; (try dsimp only at hSw); go_simp; try with_reducible rfl)
              simp only [Act.put, List.setIfInBounds_toArray, List.set_cons_zero, List.set_cons_succ]
              refine take_at (i := 4) 83 (v := ?_) rfl rfl (by kernel_rfl) (by kernel_rfl) (by kernel_rfl) (fun _ _ _ h => h) (by rfl) ?_ hHeld ?_
              rotate_left
              · (intro w hSw; (try dsimp only at hSw); go_simp; try with_reducible rfl)
              simp only [Act.put, List.setIfInBounds_toArray, List.set_cons_zero, List.set_cons_succ]
              refine take_at (i := 5) 84 (v := sv (t1, t2)) rfl rfl (by kernel_rfl) (by kernel_rfl) (by kernel_rfl) (fun _ _ _ h => h) (by rfl) ?_ hHeld ?_
              · (intro w hSw; refine exec_load (by rfl) ?_; exact hl4 w hSw)
              simp only [Act.put, List.setIfInBounds_toArray, List.set_cons_zero, List.set_cons_succ]
              refine run_at (i := 6) rfl (by kernel_rfl) (by rfl) (fun K hK => ?_)
              simp only [List.getElem_toArray, List.getElem_cons_zero, List.getElem_cons_succ]
              go_simp
              (go_at_call 30; refine Calls.mono (less_t (s1, s2) (t1, t2) _) ?_; rintro e w4 ⟨rfl, hb4⟩; have HP4 : Hid (Prt w5 w4 H _ _ _ _) := (HP3.out.below (Below.refl _ _).drew).below hb4; have hb49 : Below H w5 w4 := HP4.out.bel; clear hb4; obtain ⟨r, hr⟩ : ∃ r : Bool, r = ltS (s1, s2) (t1, t2) := ⟨_, rfl⟩; rw [← hr]; have HR9 : Hid (r = ltS (s1, s2) (t1, t2)) := hr; clear hr)
              go_wp2_with fail
              refine hK.out _ _ (by first | assumption | exact HP3.out.bel.drew) ?_
              clear hK K
              intro hHeld2
              clear hHeld
              have hHeld := hHeld2
              clear hHeld2
              try simp only [Act.put, List.setIfInBounds_toArray, List.set_cons_zero, List.set_cons_succ]
              refine take_at (i := 7) 86 (v := ?_) rfl rfl (by kernel_rfl) (by kernel_rfl) (by kernel_rfl) (fun _ _ _ h => h) (by rfl) ?_ hHeld ?_
              rotate_left
              · (intro w hSw; (try dsimp only at hSw); go_simp; try with_reducible rfl)
              simp only [Act.put, List.setIfInBounds_toArray, List.set_cons_zero, List.set_cons_succ]
              refine wpAnyH_done (by kernel_rfl) ?_ _
              refine NoPanic.normal ?_
              clear hb49
              cases r
              case true =>
                have HDN : Hid (dnB (L.take (j + 1)) (s1, s2) = dnB (L.take j) (s1, s2)) := (show _ = _ by rw [HTK.out, dnB_snoc, if_pos HR9.out.symm]; rfl)
                go_wp2_with fail
                go_roundw
                case rel => exact ⟨j + 1, _, _, by omega, by go_num, by rw [HUN.out, HDN.out]; exact HP4.out⟩
                case measure => simp [intOf]; omega
              case false =>
                have HDN : Hid (dnB (L.take (j + 1)) (s1, s2) = ⟨(t1, t2), tn⟩ :: dnB (L.take j) (s1, s2)) := (show _ = _ by rw [HTK.out, dnB_snoc, if_neg (by rw [← HR9.out]; decide)]; rfl)
                have hcd : ∀ u : World, u.heap = w4.heap → u.cell? ⟨H + 1, 0, none⟩ = some (.slice ad md cd) := fun u hu => by have := HP4.out.cd; simpa [World.cell?, hu] using this
                have hcd2 : ∀ ob : Obj, (w4.drew.alloc ob).cell? ⟨H + 1, 0, none⟩ = some (.slice ad md cd) := fun ob => (HP4.out.below (al (Below.refl _ _).drew ob)).cd
                have hcd3 : ∀ ob : Obj, (w4.alloc ob).cell? ⟨H + 1, 0, none⟩ = some (.slice ad md cd) := fun ob => (HP4.out.below (al (Below.refl _ _) ob)).cd
                go_wp2_with fail
                refine wp_region_noPanic ?_
                refine wp_region_held_drew (S := (fun u => Below H w5 u)) (by kernel_rfl) (by first | assumption | exact HP4.out.bel.drew | exact (HP4.out.below (al (Below.refl _ _).drew _)).bel | exact hp6.out.bel) (fun hHeld => ?_)
                refine take_at (i := 0) 87 (v := ?_) rfl rfl (by kernel_rfl) (by kernel_rfl) (by kernel_rfl) (fun _ _ _ h => h) (by rfl) ?_ hHeld ?_
                rotate_left
                · (intro w hSw; (try dsimp only at hSw); go_simp; try with_reducible rfl)
                simp only [Act.put, List.setIfInBounds_toArray, List.set_cons_zero, List.set_cons_succ]
                refine take_at (i := 1) 88 (v := ?_) rfl rfl (by kernel_rfl) (by kernel_rfl) (by kernel_rfl) (fun _ _ _ h => h) (by rfl) ?_ hHeld ?_
                rotate_left
                · (intro w hSw; (try dsimp only at hSw); go_simp; try with_reducible rfl)
                simp only [Act.put, List.setIfInBounds_toArray, List.set_cons_zero, List.set_cons_succ]
                refine take_at (i := 2) 89 (v := ?_) rfl rfl (by kernel_rfl) (by kernel_rfl) (by kernel_rfl) (fun _ _ _ h => h) (by rfl) ?_ hHeld ?_
                rotate_left
                · (intro w hSw; (try dsimp only at hSw); go_simp; try with_reducible rfl)
                simp only [Act.put, List.setIfInBounds_toArray, List.set_cons_zero, List.set_cons_succ]
                refine take_at (i := 3) 90 (v := ea ⟨(t1, t2), tn⟩) rfl rfl (by kernel_rfl) (by kernel_rfl) (by kernel_rfl) (fun _ _ _ h => h) (by rfl) ?_ hHeld ?_
                · (intro w hSw; refine exec_load (by rfl) ?_; exact hl5 w hSw)
                simp only [Act.put, List.setIfInBounds_toArray, List.set_cons_zero, List.set_cons_succ]
                refine wpAnyH_ready (rs := [4, 5]) (by kernel_rfl) (by simp) ?_
                refine AllReadyH.cons (o := _) rfl (fun K hK => ?_) ?_
                focus
                  rw [if_pos (by rfl)]
                  simp only [List.getElem_toArray, List.getElem_cons_zero, List.getElem_cons_succ]
                  go_simp
                  go_wp2_with fail
                  refine hK.out _ _ (by first | assumption | exact HP4.out.bel.drew | exact (HP4.out.below (al (Below.refl _ _).drew _)).bel | exact hp6.out.bel) ?_
                  clear hK K
                  intro hHeld2
                  clear hHeld
                  have hHeld := hHeld2
                  clear hHeld2
                  try simp only [Act.put, List.setIfInBounds_toArray, List.set_cons_zero, List.set_cons_succ]
                  refine val_at (i := 5) 92 (v := .slice ad md cd) rfl rfl (by kernel_rfl) (by rfl) ?_ ?_ ?_
                  · (refine exec_load (by rfl) ?_; go_simp)
                  · (first | assumption | exact HP4.out.bel.drew | exact (HP4.out.below (al (Below.refl _ _).drew _)).bel | exact hp6.out.bel)
                  intro hHeld2
                  clear hHeld
                  have hHeld := hHeld2
                  clear hHeld2
                  simp only [Act.put, List.setIfInBounds_toArray, List.set_cons_zero, List.set_cons_succ]
                  refine run_at (i := 6) rfl (by kernel_rfl) (by rfl) (fun K hK => ?_)
                  simp only [List.getElem_toArray, List.getElem_cons_zero, List.getElem_cons_succ]
                  (refine wpo_appD _ _ rfl (HP4.out.below (al (Below.refl _ _).drew _)) (by rfl) _ ⟨(t1, t2), tn⟩ (by rfl) (heap_alloc_new w4.drew _) (by have := HP4.out.sz; simpa using this) (fun b9 h9 => by have := (OwnB.blk HP4.out.ou b9 h9).2.1; simp; omega) (by have := HDL.out; omega) ?_; intro a6 m6 c6 w6 hm6 hb6 hp6 hc6 hf6; have HM6 : Hid _ := hm6; clear hm6)
                  refine hK.out _ _ (by first | assumption | exact HP4.out.bel.drew | exact (HP4.out.below (al (Below.refl _ _).drew _)).bel | exact hp6.out.bel) ?_
                  clear hK K
                  intro hHeld2
                  clear hHeld
                  have hHeld := hHeld2
                  clear hHeld2
                  try simp only [Act.put, List.setIfInBounds_toArray, List.set_cons_zero, List.set_cons_succ]
                  refine run_at (i := 7) rfl (by kernel_rfl) (by rfl) (fun K hK => ?_)
                  simp only [List.getElem_toArray, List.getElem_cons_zero, List.getElem_cons_succ]
                  go_simp
                  go_wp2_with fail
                  refine hK.out _ _ (by first | assumption | exact HP4.out.bel.drew | exact (HP4.out.below (al (Below.refl _ _).drew _)).bel | exact hp6.out.bel) ?_
                  clear hK K
                  intro hHeld2
                  clear hHeld
                  have hHeld := hHeld2
                  clear hHeld2
                  try simp only [Act.put, List.setIfInBounds_toArray, List.set_cons_zero, List.set_cons_succ]
                  refine wpAnyH_done (by kernel_rfl) ?_ _
                  refine NoPanic.normal ?_
                rotate_left 1
                refine AllReadyH.cons (o := _) rfl (fun K hK => ?_) AllReadyH.nil
                focus
                  rw [if_pos (by rfl)]
                  refine val_wp 92 (v := .slice ad md cd) rfl ?_ ?_
                  · (refine exec_load (by rfl) ?_; go_simp)
                  refine hK.out _ _ (by first | assumption | exact HP4.out.bel.drew | exact (HP4.out.below (al (Below.refl _ _).drew _)).bel | exact hp6.out.bel) ?_
                  clear hK K
                  intro hHeld2
                  clear hHeld
                  have hHeld := hHeld2
                  clear hHeld2
                  simp only [Act.put, List.setIfInBounds_toArray, List.set_cons_zero, List.set_cons_succ]
                  refine run_at (i := 4) rfl (by kernel_rfl) (by rfl) (fun K hK => ?_)
                  simp only [List.getElem_toArray, List.getElem_cons_zero, List.getElem_cons_succ]
                  go_simp
                  go_wp2_with fail
                  refine hK.out _ _ (by first | assumption | exact HP4.out.bel.drew | exact (HP4.out.below (al (Below.refl _ _).drew _)).bel | exact hp6.out.bel) ?_
                  clear hK K
                  intro hHeld2
                  clear hHeld
                  have hHeld := hHeld2
                  clear hHeld2
                  try simp only [Act.put, List.setIfInBounds_toArray, List.set_cons_zero, List.set_cons_succ]
                  refine run_at (i := 6) rfl (by kernel_rfl) (by rfl) (fun K hK => ?_)
                  simp only [List.getElem_toArray, List.getElem_cons_zero, List.getElem_cons_succ]
                  (refine wpo_appD _ _ rfl (HP4.out.below (al (Below.refl _ _).drew _)) (by rfl) _ ⟨(t1, t2), tn⟩ (by rfl) (heap_alloc_new w4.drew _) (by have := HP4.out.sz; simpa using this) (fun b9 h9 => by have := (OwnB.blk HP4.out.ou b9 h9).2.1; simp; omega) (by have := HDL.out; omega) ?_; intro a6 m6 c6 w6 hm6 hb6 hp6 hc6 hf6; have HM6 : Hid _ := hm6; clear hm6)
                  refine hK.out _ _ (by first | assumption | exact HP4.out.bel.drew | exact (HP4.out.below (al (Below.refl _ _).drew _)).bel | exact hp6.out.bel) ?_
                  clear hK K
                  intro hHeld2
                  clear hHeld
                  have hHeld := hHeld2
                  clear hHeld2
                  try simp only [Act.put, List.setIfInBounds_toArray, List.set_cons_zero, List.set_cons_succ]
                  refine run_at (i := 7) rfl (by kernel_rfl) (by rfl) (fun K hK => ?_)
                  simp only [List.getElem_toArray, List.getElem_cons_zero, List.getElem_cons_succ]
                  go_simp
                  go_wp2_with fail
                  refine hK.out _ _ (by first | assumption | exact HP4.out.bel.drew | exact (HP4.out.below (al (Below.refl _ _).drew _)).bel | exact hp6.out.bel) ?_
                  clear hK K
                  intro hHeld2
                  clear hHeld
                  have hHeld := hHeld2
                  clear hHeld2
                  try simp only [Act.put, List.setIfInBounds_toArray, List.set_cons_zero, List.set_cons_succ]
                  refine wpAnyH_done (by kernel_rfl) ?_ _
                  refine NoPanic.normal ?_
                case' _ => obtain ⟨w7, hw7⟩ : ∃ X : World, X = w6.setCell ⟨H + 1, 0, none⟩ (.slice a6 m6 c6) := ⟨_, rfl⟩; rw [← hw7] at hp6 ⊢; clear hw7 hc6 hf6
                all_goals go_wp2_with fail
                all_goals go_roundw
                case rel => exact ⟨j + 1, _, _, by omega, by go_num, by rw [HUN.out, HDN.out]; exact hp6.out⟩
                case measure => simp [intOf]; omega
                case rel => exact ⟨j + 1, _, _, by omega, by go_num, by rw [HUN.out, HDN.out]; exact hp6.out⟩
                case measure => simp [intOf]; omega
            · obtain ⟨w8, hw8⟩ : ∃ X : World, X = w3.setCell ⟨H, 0, none⟩ (.slice a3 m3 c3) := ⟨_, rfl⟩
              rw [← hw8] at hp3 ⊢
              have HP3 : Hid (Prt w5 w8 H (.slice a3 m3 c3) (.slice ad md cd) (upB (L.take j) (s1, s2) ++ [⟨(t1, t2), tn⟩]) (dnB (L.take j) (s1, s2))) := hp3
              clear hw8 hc3 hf3 hb3 hp3 HP2 hcu hcu2 hcu3
              go_wp2_with fail
              refine wp_region_noPanic ?_
              refine wp_region_held_drew (S := (fun u => Below H w5 u)) (by kernel_rfl) (by first | assumption | exact HP3.out.bel.drew) (fun hHeld => ?_)
              refine take_at (i := 0) 79 (v := sv (s1, s2)) rfl rfl (by kernel_rfl) (by kernel_rfl) (by kernel_rfl) (fun _ _ _ h => h) (by rfl) ?_ hHeld ?_
              · (intro w hSw; refine exec_load (by rfl) ?_; exact hl3 w hSw)
              simp only [Act.put, List.setIfInBounds_toArray, List.set_cons_zero, List.set_cons_succ]
              refine take_at (i := 1) 80 (v := ?_) rfl rfl (by kernel_rfl) (by kernel_rfl) (by kernel_rfl) (fun _ _ _ h => h) (by rfl) ?_ hHeld ?_
              rotate_left
              · (intro w hSw; (try dsimp only at hSw); go_simp; try with_reducible rfl)
              simp only [Act.put, List.setIfInBounds_toArray, List.set_cons_zero, List.set_cons_succ]
              refine take_at (i := 2) 81 (v := ?_) rfl rfl (by kernel_rfl) (by kernel_rfl) (by kernel_rfl) (fun _ _ _ h => h) (by rfl) ?_ hHeld ?_
              rotate_left
              · (intro w hSw; (try dsimp only at hSw); go_simp; try with_reducible rfl)
              simp only [Act.put, List.setIfInBounds_toArray, List.set_cons_zero, List.set_cons_succ]
              refine take_at (i := 3) 82 (v := ?_) rfl rfl (by kernel_rfl) (by kernel_rfl) (by kernel_rfl) (fun _ _ _ h => h) (by rfl) ?_ hHeld ?_
              rotate_left
              · (intro w hSw; (try dsimp only at hSw); go_simp; try with_reducible rfl)
              simp only [Act.put, List.setIfInBounds_toArray, List.set_cons_zero, List.set_cons_succ]
              refine take_at (i := 4) 83 (v := ?_) rfl rfl (by kernel_rfl) (by kernel_rfl) (by kernel_rfl) (fun _ _ _ h => h) (by rfl) ?_ hHeld ?_
              rotate_left
              · (intro w hSw; (try dsimp only at hSw); go_simp; try with_reducible rfl)
              simp only [Act.put, List.setIfInBounds_toArray, List.set_cons_zero, List.set_cons_succ]
              refine take_at (i := 5) 84 (v := sv (t1, t2)) rfl rfl (by kernel_rfl) (by kernel_rfl) (by kernel_rfl) (fun _ _ _ h => h) (by rfl) ?_ hHeld ?_
              · (intro w hSw; refine exec_load (by rfl) ?_; exact hl4 w hSw)
              simp only [Act.put, List.setIfInBounds_toArray, List.set_cons_zero, List.set_cons_succ]
              refine run_at (i := 6) rfl (by kernel_rfl) (by rfl) (fun K hK => ?_)
              simp only [List.getElem_toArray, List.getElem_cons_zero, List.getElem_cons_succ]
              go_simp
              (go_at_call 30; refine Calls.mono (less_t (s1, s2) (t1, t2) _) ?_; rintro e w4 ⟨rfl, hb4⟩; have HP4 : Hid (Prt w5 w4 H _ _ _ _) := (HP3.out.below (Below.refl _ _).drew).below hb4; have hb49 : Below H w5 w4 := HP4.out.bel; clear hb4; obtain ⟨r, hr⟩ : ∃ r : Bool, r = ltS (s1, s2) (t1, t2) := ⟨_, rfl⟩; rw [← hr]; have HR9 : Hid (r = ltS (s1, s2) (t1, t2)) := hr; clear hr)
              go_wp2_with fail
              refine hK.out _ _ (by first | assumption | exact HP3.out.bel.drew) ?_
              clear hK K
              intro hHeld2
              clear hHeld
              have hHeld := hHeld2
              clear hHeld2
              try simp only [Act.put, List.setIfInBounds_toArray, List.set_cons_zero, List.set_cons_succ]
              refine take_at (i := 7) 86 (v := ?_) rfl rfl (by kernel_rfl) (by kernel_rfl) (by kernel_rfl) (fun _ _ _ h => h) (by rfl) ?_ hHeld ?_
              rotate_left
              · (intro w hSw; (try dsimp only at hSw); go_simp; try with_reducible rfl)
              simp only [Act.put, List.setIfInBounds_toArray, List.set_cons_zero, List.set_cons_succ]
              refine wpAnyH_done (by kernel_rfl) ?_ _
              refine NoPanic.normal ?_
              clear hb49
              cases r
              case true =>
                have HDN : Hid (dnB (L.take (j + 1)) (s1, s2) = dnB (L.take j) (s1, s2)) := (show _ = _ by rw [HTK.out, dnB_snoc, if_pos HR9.out.symm]; rfl)
                go_wp2_with fail
                go_roundw
                case rel => exact ⟨j + 1, _, _, by omega, by go_num, by rw [HUN.out, HDN.out]; exact HP4.out⟩
                case measure => simp [intOf]; omega
              case false =>
                have HDN : Hid (dnB (L.take (j + 1)) (s1, s2) = ⟨(t1, t2), tn⟩ :: dnB (L.take j) (s1, s2)) := (show _ = _ by rw [HTK.out, dnB_snoc, if_neg (by rw [← HR9.out]; decide)]; rfl)
                have hcd : ∀ u : World, u.heap = w4.heap → u.cell? ⟨H + 1, 0, none⟩ = some (.slice ad md cd) := fun u hu => by have := HP4.out.cd; simpa [World.cell?, hu] using this
                have hcd2 : ∀ ob : Obj, (w4.drew.alloc ob).cell? ⟨H + 1, 0, none⟩ = some (.slice ad md cd) := fun ob => (HP4.out.below (al (Below.refl _ _).drew ob)).cd
                have hcd3 : ∀ ob : Obj, (w4.alloc ob).cell? ⟨H + 1, 0, none⟩ = some (.slice ad md cd) := fun ob => (HP4.out.below (al (Below.refl _ _) ob)).cd
                go_wp2_with fail
                refine wp_region_noPanic ?_
                refine wp_region_held_drew (S := (fun u => Below H w5 u)) (by kernel_rfl) (by first | assumption | exact HP4.out.bel.drew | exact (HP4.out.below (al (Below.refl _ _).drew _)).bel | exact hp6.out.bel) (fun hHeld => ?_)
                refine take_at (i := 0) 87 (v := ?_) rfl rfl (by kernel_rfl) (by kernel_rfl) (by kernel_rfl) (fun _ _ _ h => h) (by rfl) ?_ hHeld ?_
                rotate_left
                · (intro w hSw; (try dsimp only at hSw); go_simp; try with_reducible rfl)
                simp only [Act.put, List.setIfInBounds_toArray, List.set_cons_zero, List.set_cons_succ]
                refine take_at (i := 1) 88 (v := ?_) rfl rfl (by kernel_rfl) (by kernel_rfl) (by kernel_rfl) (fun _ _ _ h => h) (by rfl) ?_ hHeld ?_
                rotate_left
                · (intro w hSw; (try dsimp only at hSw); go_simp; try with_reducible rfl)
                simp only [Act.put, List.setIfInBounds_toArray, List.set_cons_zero, List.set_cons_succ]
                refine take_at (i := 2) 89 (v := ?_) rfl rfl (by kernel_rfl) (by kernel_rfl) (by kernel_rfl) (fun _ _ _ h => h) (by rfl) ?_ hHeld ?_
                rotate_left
                · (intro w hSw; (try dsimp only at hSw); go_simp; try with_reducible rfl)
                simp only [Act.put, List.setIfInBounds_toArray, List.set_cons_zero, List.set_cons_succ]
                refine take_at (i := 3) 90 (v := ea ⟨(t1, t2), tn⟩) rfl rfl (by kernel_rfl) (by kernel_rfl) (by kernel_rfl) (fun _ _ _ h => h) (by rfl) ?_ hHeld ?_
                · (intro w hSw; refine exec_load (by rfl) ?_; exact hl5 w hSw)
                simp only [Act.put, List.setIfInBounds_toArray, List.set_cons_zero, List.set_cons_succ]
                refine wpAnyH_ready (rs := [4, 5]) (by kernel_rfl) (by simp) ?_
                refine AllReadyH.cons (o := _) rfl (fun K hK => ?_) ?_
                focus
                  rw [if_pos (by rfl)]
                  simp only [List.getElem_toArray, List.getElem_cons_zero, List.getElem_cons_succ]
                  go_simp
                  go_wp2_with fail
                  refine hK.out _ _ (by first | assumption | exact HP4.out.bel.drew | exact (HP4.out.below (al (Below.refl _ _).drew _)).bel | exact hp6.out.bel) ?_
                  clear hK K
                  intro hHeld2
                  clear hHeld
                  have hHeld := hHeld2
                  clear hHeld2
                  try simp only [Act.put, List.setIfInBounds_toArray, List.set_cons_zero, List.set_cons_succ]
                  refine val_at (i := 5) 92 (v := .slice ad md cd) rfl rfl (by kernel_rfl) (by rfl) ?_ ?_ ?_
                  · (refine exec_load (by rfl) ?_; go_simp)
                  · (first | assumption | exact HP4.out.bel.drew | exact (HP4.out.below (al (Below.refl _ _).drew _)).bel | exact hp6.out.bel)
                  intro hHeld2
                  clear hHeld
                  have hHeld := hHeld2
                  clear hHeld2
                  simp only [Act.put, List.setIfInBounds_toArray, List.set_cons_zero, List.set_cons_succ]
                  refine run_at (i := 6) rfl (by kernel_rfl) (by rfl) (fun K hK => ?_)
                  simp only [List.getElem_toArray, List.getElem_cons_zero, List.getElem_cons_succ]
                  (refine wpo_appD _ _ rfl (HP4.out.below (al (Below.refl _ _).drew _)) (by rfl) _ ⟨(t1, t2), tn⟩ (by rfl) (heap_alloc_new w4.drew _) (by have := HP4.out.sz; simpa using this) (fun b9 h9 => by have := (OwnB.blk HP4.out.ou b9 h9).2.1; simp; omega) (by have := HDL.out; omega) ?_; intro a6 m6 c6 w6 hm6 hb6 hp6 hc6 hf6; have HM6 : Hid _ := hm6; clear hm6)
                  refine hK.out _ _ (by first | assumption | exact HP4.out.bel.drew | exact (HP4.out.below (al (Below.refl _ _).drew _)).bel | exact hp6.out.bel) ?_
                  clear hK K
                  intro hHeld2
                  clear hHeld
                  have hHeld := hHeld2
                  clear hHeld2
                  try simp only [Act.put, List.setIfInBounds_toArray, List.set_cons_zero, List.set_cons_succ]
                  refine run_at (i := 7) rfl (by kernel_rfl) (by rfl) (fun K hK => ?_)
                  simp only [List.getElem_toArray, List.getElem_cons_zero, List.getElem_cons_succ]
                  go_simp
                  go_wp2_with fail
                  refine hK.out _ _ (by first | assumption | exact HP4.out.bel.drew | exact (HP4.out.below (al (Below.refl _ _).drew _)).bel | exact hp6.out.bel) ?_
                  clear hK K
                  intro hHeld2
                  clear hHeld
                  have hHeld := hHeld2
                  clear hHeld2
                  try simp only [Act.put, List.setIfInBounds_toArray, List.set_cons_zero, List.set_cons_succ]
                  refine wpAnyH_done (by kernel_rfl) ?_ _
                  refine NoPanic.normal ?_
                rotate_left 1
                refine AllReadyH.cons (o := _) rfl (fun K hK => ?_) AllReadyH.nil
                focus
                  rw [if_pos (by rfl)]
                  refine val_wp 92 (v := .slice ad md cd) rfl ?_ ?_
                  · (refine exec_load (by rfl) ?_; go_simp)
                  refine hK.out _ _ (by first | assumption | exact HP4.out.bel.drew | exact (HP4.out.below (al (Below.refl _ _).drew _)).bel | exact hp6.out.bel) ?_
                  clear hK K
                  intro hHeld2
                  clear hHeld
                  have hHeld := hHeld2
                  clear hHeld2
                  simp only [Act.put, List.setIfInBounds_toArray, List.set_cons_zero, List.set_cons_succ]
                  refine run_at (i := 4) rfl (by kernel_rfl) (by rfl) (fun K hK => ?_)
                  simp only [List.getElem_toArray, List.getElem_cons_zero, List.getElem_cons_succ]
                  go_simp
                  go_wp2_with fail
                  refine hK.out _ _ (by first | assumption | exact HP4.out.bel.drew | exact (HP4.out.below (al (Below.refl _ _).drew _)).bel | exact hp6.out.bel) ?_
                  clear hK K
                  intro hHeld2
                  clear hHeld
                  have hHeld := hHeld2
                  clear hHeld2
                  try simp only [Act.put, List.setIfInBounds_toArray, List.set_cons_zero, List.set_cons_succ]
                  refine run_at (i := 6) rfl (by kernel_rfl) (by rfl) (fun K hK => ?_)
                  simp only [List.getElem_toArray, List.getElem_cons_zero, List.getElem_cons_succ]
                  (refine wpo_appD _ _ rfl (HP4.out.below (al (Below.refl _ _).drew _)) (by rfl) _ ⟨(t1, t2), tn⟩ (by rfl) (heap_alloc_new w4.drew _) (by have := HP4.out.sz; simpa using this) (fun b9 h9 => by have := (OwnB.blk HP4.out.ou b9 h9).2.1; simp; omega) (by have := HDL.out; omega) ?_; intro a6 m6 c6 w6 hm6 hb6 hp6 hc6 hf6; have HM6 : Hid _ := hm6; clear hm6)
                  refine hK.out _ _ (by first | assumption | exact HP4.out.bel.drew | exact (HP4.out.below (al (Below.refl _ _).drew _)).bel | exact hp6.out.bel) ?_
                  clear hK K
                  intro hHeld2
                  clear hHeld
                  have hHeld := hHeld2
                  clear hHeld2
                  try simp only [Act.put, List.setIfInBounds_toArray, List.set_cons_zero, List.set_cons_succ]
                  refine run_at (i := 7) rfl (by kernel_rfl) (by rfl) (fun K hK => ?_)
                  simp only [List.getElem_toArray, List.getElem_cons_zero, List.getElem_cons_succ]
                  go_simp
                  go_wp2_with fail
                  refine hK.out _ _ (by first | assumption | exact HP4.out.bel.drew | exact (HP4.out.below (al (Below.refl _ _).drew _)).bel | exact hp6.out.bel) ?_
                  clear hK K
                  intro hHeld2
                  clear hHeld
                  have hHeld := hHeld2
                  clear hHeld2
                  try simp only [Act.put, List.setIfInBounds_toArray, List.set_cons_zero, List.set_cons_succ]
                  refine wpAnyH_done (by kernel_rfl) ?_ _
                  refine NoPanic.normal ?_
                case' _ => obtain ⟨w7, hw7⟩ : ∃ X : World, X = w6.setCell ⟨H + 1, 0, none⟩ (.slice a6 m6 c6) := ⟨_, rfl⟩; rw [← hw7] at hp6 ⊢; clear hw7 hc6 hf6
                all_goals go_wp2_with fail
                all_goals go_roundw
                case rel => exact ⟨j + 1, _, _, by omega, by go_num, by rw [HUN.out, HDN.out]; exact hp6.out⟩
                case measure => simp [intOf]; omega
                case rel => exact ⟨j + 1, _, _, by omega, by go_num, by rw [HUN.out, HDN.out]; exact hp6.out⟩
                case measure => simp [intOf]; omega
        · obtain rfl : j = M := by omega
          have hjI : ¬ ((j : Int) < (j : Int)) := by omega
          have htl : L.take j = L := List.take_of_length_le (by have := HM.out; omega)
          rw [htl] at HP HMU HMD HUL HDL
          obtain ⟨w6, hw6⟩ : ∃ X : World, X = wr := ⟨_, rfl⟩
          subst hw6
          obtain ⟨U, hU⟩ : ∃ U, U = upL P (s1, s2) := ⟨_, rfl⟩
          obtain ⟨D, hD⟩ : ∃ D, D = downL P (s1, s2) := ⟨_, rfl⟩
          have hU2 : upB L (s1, s2) = U := by rw [hU, HLP.out]; rfl
          have hD2 : dnB L (s1, s2) = D := by rw [hD, HLP.out]; rfl
          rw [hU2, hD2] at HP
          rw [hU2] at HMU HUL
          rw [hD2] at HMD HDL
          have HU : Hid (U = upL P (s1, s2)) := hU
          have HD : Hid (D = downL P (s1, s2)) := hD
          have HIT : Hid (Sit w6 B0 G S H P v vs s1 s2 (.slice au mu cu) (.slice ad md cd) (.slice ab j cb) U D L) := (show Sit w6 B0 G S H P v vs s1 s2 (.slice au mu cu) (.slice ad md cd) (.slice ab j cb) U D L by
            have hb5 := HP.out.bel
            rw [HH.out] at hb5
            exact ⟨(HP.out.bel.block B0 (by omega)).trans HBS5.out, (HP.out.bel.block (B0 + 1) (by omega)).trans HBR5.out, HI.out.below hb5, HP.out.bu, HP.out.bd, OwnB.low HP.out.ou, OwnB.low HP.out.od, OwnB.below HOBX.out hb5⟩)
          have HBW6 : Hid (Below B0 W w6) := HBW5.out.trans (HP.out.bel.mono (by omega))
          have hmu : mu ≤ j := by have := HMU.out; have := HUL.out; omega
          have hmd : md ≤ j := by have := HMD.out; have := HDL.out; omega
          obtain ⟨E, hE⟩ : ∃ E, E = w6.heap.size := ⟨_, rfl⟩
          have HE : Hid (E = w6.heap.size) := hE
          have hHE : H + 2 ≤ E := by rw [hE]; exact HP.out.sz
          have HSW : Hid (∀ u, Below E w6 u → Sit u B0 G S H P v vs s1 s2 (.slice au mu cu) (.slice ad md cd) (.slice ab j cb) U D L) := (fun u hu => by rw [hE] at hu; exact HIT.out.below hu)
          have HRU : Hid (∀ q (hq : q < U.length), ∃ b o, au = some ⟨b, o, none⟩ ∧ ∀ u, Below E w6 u → u.rangeAt b (o + q * 3) (ev U[q])) := (fun q hq => by
            obtain ⟨a9, c9, e9, -, h9⟩ := OwnB.val HIT.out.ru
            cases e9
            obtain ⟨b, o, e8, h8⟩ := h9 q hq
            exact ⟨b, o, e8, fun u hu => rangeAt_below h8 (by rw [hE] at hu; exact hu)⟩)
          have HRD : Hid (∀ q (hq : q < D.length), ∃ b o, ad = some ⟨b, o, none⟩ ∧ ∀ u, Below E w6 u → u.rangeAt b (o + q * 3) (ev D[q])) := (fun q hq => by
            obtain ⟨a9, c9, e9, -, h9⟩ := OwnB.val HIT.out.rd
            cases e9
            obtain ⟨b, o, e8, h8⟩ := h9 q hq
            exact ⟨b, o, e8, fun u hu => rangeAt_below h8 (by rw [hE] at hu; exact hu)⟩)
          clear hE hU hD hU2 hD2 htl HRB HBS5 HBR5 HBW5 HOB HOBX HP HI HP6
          go_wp2_with (first | (refine wpList_load_mid rfl tSt _ rfl B0 0 rfl (sc (s1, s2)) _ HIT.out.rs Try.underlying34 rfl info_st ?_))
          refine Calls.mono (least_any HIT.out.idx HT.out hS64 (by omega) s1 s2) ?_
          rintro e w7 ⟨⟨u1, u2⟩, un, uk, rfl, hfi, hb7⟩
          rw [← HU.out] at hfi
          rw [← HE.out] at hb7
          have HFI : Hid (FirstIs U (u1, u2) un uk) := hfi
          have HB7 : Hid (Below E w6 w7) := hb7
          obtain ⟨X, hX⟩ : ∃ X, X = w7.heap.size := ⟨_, rfl⟩
          have HX : Hid (X = w7.heap.size) := hX
          have hEX : E ≤ X := by rw [hX, HE.out]; exact hb7.size
          obtain ⟨w8, hw8⟩ : ∃ Y : World, Y = w7.alloc (.cells #[.int .u64 (u1 : Int), .int .u64 (u2 : Int)] tSt) := ⟨_, rfl⟩
          have HB8 : Hid (Below E w6 w8) := (show Below E w6 w8 by rw [hw8]; exact hb7.alloc (by omega) _)
          have HX8 : Hid (w8.heap[X]? = some (.cells #[.int .u64 (u1 : Int), .int .u64 (u2 : Int)] tSt (0, 0))) := (show _ = _ by rw [hw8, hX]; exact heap_alloc_new w7 _)
          have HZ8 : Hid (w8.heap.size = X + 1) := (show _ = _ by rw [hw8, hX]; simp)
          clear hfi hb7
          go_upto_region 18 with fail
          simp only [← hX]
          rw [← hw8]
          clear hw8 hX
          go_cut [124] from 101 to 124 (fun c wx => c = .bool false ∧ wx = w8.drew)
          case first =>
            have hcV : ∀ u : World, u.heap = w8.heap → ∀ ad9 : Addr, u.cell? ad9 = w8.cell? ad9 := fun u hu ad9 => by simp [World.cell?, hu]
            have hA0 : ∀ u : World, u.heap = w8.heap → u.cell? ⟨H, 0, none⟩ = some (.slice au mu cu) := fun u hu => by rw [hcV u hu]; exact (HSW.out _ HB8.out).cu
            have hl3 : ∀ u : World, u.heap = w8.heap → (Instr.loadAt tSt (.pointer (some ⟨X, 0, none⟩))).run Try.prog u = .ok (sv (u1, u2)) u := fun u hu => load_st u _ _ (u1, u2) (fun q9 v9 hv9 => (hcV u hu _).trans (box_range HX8.out q9 v9 hv9))
            rcases HFI.out with ⟨e1, e2, e3, e4⟩ | ⟨⟨⟨y1, y2⟩, yn⟩, e1, e2, e3, e4⟩
            · obtain rfl : mu = 0 := by have := HMU.out; rw [e1] at this; exact this
              subst e4
              clear e1 e2 e3
              refine wp_region_noPanic ?_
              refine wp_region_held_drew (S := (fun u => u.heap = w8.heap)) (by kernel_rfl) (by first | exact rfl | assumption) (fun hHeld => ?_)
              refine take_at (i := 0) 101 (v := ?_) rfl rfl (by kernel_rfl) (by kernel_rfl) (by kernel_rfl) (fun _ _ _ h => h) (by rfl) ?_ hHeld ?_
              rotate_left
              · (intro w hSw; (try dsimp only at hSw); go_simp; try with_reducible rfl)
              simp only [Act.put, List.setIfInBounds_toArray, List.set_cons_zero, List.set_cons_succ]
              refine take_at (i := 1) 102 (v := ?_) rfl rfl (by kernel_rfl) (by kernel_rfl) (by kernel_rfl) (fun _ _ _ h => h) (by rfl) ?_ hHeld ?_
              rotate_left
              · (intro w hSw; (try dsimp only at hSw); go_simp; try with_reducible rfl)
              simp only [Act.put, List.setIfInBounds_toArray, List.set_cons_zero, List.set_cons_succ]
              refine take_at (i := 2) 103 (v := ?_) rfl rfl (by kernel_rfl) (by kernel_rfl) (by kernel_rfl) (fun _ _ _ h => h) (by rfl) ?_ hHeld ?_
              rotate_left
              · (intro w hSw; (try dsimp only at hSw); go_simp; try with_reducible rfl)
              simp only [Act.put, List.setIfInBounds_toArray, List.set_cons_zero, List.set_cons_succ]
              refine take_at (i := 3) 104 (v := .bool false) rfl rfl (by kernel_rfl) (by kernel_rfl) (by kernel_rfl) (fun _ _ _ h => h) (by rfl) ?_ hHeld ?_
              · (intro w hSw; (try dsimp only at hSw); go_simp)
              simp only [Act.put, List.setIfInBounds_toArray, List.set_cons_zero, List.set_cons_succ]
              refine take_at (i := 4) 105 (v := .bool false) rfl rfl (by kernel_rfl) (by kernel_rfl) (by kernel_rfl) (fun _ _ _ h => h) (by rfl) ?_ hHeld ?_
              · (intro w hSw; (try dsimp only at hSw); go_simp; try rfl)
              simp only [Act.put, List.setIfInBounds_toArray, List.set_cons_zero, List.set_cons_succ]
              refine take_at (i := 5) 106 (v := ?_) rfl rfl (by kernel_rfl) (by kernel_rfl) (by kernel_rfl) (fun _ _ _ h => h) (by rfl) ?_ hHeld ?_
              rotate_left
              · (intro w hSw; (try dsimp only at hSw); go_simp; try with_reducible rfl)
              simp only [Act.put, List.setIfInBounds_toArray, List.set_cons_zero, List.set_cons_succ]
              refine take_at (i := 6) 107 (v := ?_) rfl rfl (by kernel_rfl) (by kernel_rfl) (by kernel_rfl) (fun _ _ _ h => h) (by rfl) ?_ hHeld ?_
              rotate_left
              · (intro w hSw; (try dsimp only at hSw); go_simp; try with_reducible rfl)
              simp only [Act.put, List.setIfInBounds_toArray, List.set_cons_zero, List.set_cons_succ]
              refine take_at (i := 7) 108 (v := ?_) rfl rfl (by kernel_rfl) (by kernel_rfl) (by kernel_rfl) (fun _ _ _ h => h) (by rfl) ?_ hHeld ?_
              rotate_left
              · (intro w hSw; (try dsimp only at hSw); go_simp; try with_reducible rfl)
              simp only [Act.put, List.setIfInBounds_toArray, List.set_cons_zero, List.set_cons_succ]
              refine skip_at (i := 8) 109 rfl rfl (by kernel_rfl) (by kernel_rfl) (by kernel_rfl) (fun _ _ _ h => h) (by rfl) hHeld ?_
              simp only [Act.put, List.setIfInBounds_toArray, List.set_cons_zero, List.set_cons_succ]
              refine skip_at (i := 9) 110 rfl rfl (by kernel_rfl) (by kernel_rfl) (by kernel_rfl) (fun _ _ _ h => h) (by rfl) hHeld ?_
              simp only [Act.put, List.setIfInBounds_toArray, List.set_cons_zero, List.set_cons_succ]
              refine skip_at (i := 10) 111 rfl rfl (by kernel_rfl) (by kernel_rfl) (by kernel_rfl) (fun _ _ _ h => h) (by rfl) hHeld ?_
              simp only [Act.put, List.setIfInBounds_toArray, List.set_cons_zero, List.set_cons_succ]
              refine skip_at (i := 11) 112 rfl rfl (by kernel_rfl) (by kernel_rfl) (by kernel_rfl) (fun _ _ _ h => h) (by rfl) hHeld ?_
              simp only [Act.put, List.setIfInBounds_toArray, List.set_cons_zero, List.set_cons_succ]
              refine skip_at (i := 12) 113 rfl rfl (by kernel_rfl) (by kernel_rfl) (by kernel_rfl) (fun _ _ _ h => h) (by rfl) hHeld ?_
              simp only [Act.put, List.setIfInBounds_toArray, List.set_cons_zero, List.set_cons_succ]
              refine skip_at (i := 13) 114 rfl rfl (by kernel_rfl) (by kernel_rfl) (by kernel_rfl) (fun _ _ _ h => h) (by rfl) hHeld ?_
              simp only [Act.put, List.setIfInBounds_toArray, List.set_cons_zero, List.set_cons_succ]
              refine skip_at (i := 14) 115 rfl rfl (by kernel_rfl) (by kernel_rfl) (by kernel_rfl) (fun _ _ _ h => h) (by rfl) hHeld ?_
              simp only [Act.put, List.setIfInBounds_toArray, List.set_cons_zero, List.set_cons_succ]
              refine skip_at (i := 15) 116 rfl rfl (by kernel_rfl) (by kernel_rfl) (by kernel_rfl) (fun _ _ _ h => h) (by rfl) hHeld ?_
              simp only [Act.put, List.setIfInBounds_toArray, List.set_cons_zero, List.set_cons_succ]
              refine skip_at (i := 16) 117 rfl rfl (by kernel_rfl) (by kernel_rfl) (by kernel_rfl) (fun _ _ _ h => h) (by rfl) hHeld ?_
              simp only [Act.put, List.setIfInBounds_toArray, List.set_cons_zero, List.set_cons_succ]
              refine skip_at (i := 17) 118 rfl rfl (by kernel_rfl) (by kernel_rfl) (by kernel_rfl) (fun _ _ _ h => h) (by rfl) hHeld ?_
              simp only [Act.put, List.setIfInBounds_toArray, List.set_cons_zero, List.set_cons_succ]
              refine skip_at (i := 18) 119 rfl rfl (by kernel_rfl) (by kernel_rfl) (by kernel_rfl) (fun _ _ _ h => h) (by rfl) hHeld ?_
              simp only [Act.put, List.setIfInBounds_toArray, List.set_cons_zero, List.set_cons_succ]
              refine skip_at (i := 19) 120 rfl rfl (by kernel_rfl) (by kernel_rfl) (by kernel_rfl) (fun _ _ _ h => h) (by rfl) hHeld ?_
              simp only [Act.put, List.setIfInBounds_toArray, List.set_cons_zero, List.set_cons_succ]
              refine skip_at (i := 20) 121 rfl rfl (by kernel_rfl) (by kernel_rfl) (by kernel_rfl) (fun _ _ _ h => h) (by rfl) hHeld ?_
              simp only [Act.put, List.setIfInBounds_toArray, List.set_cons_zero, List.set_cons_succ]
              refine skip_at (i := 21) 122 rfl rfl (by kernel_rfl) (by kernel_rfl) (by kernel_rfl) (fun _ _ _ h => h) (by rfl) hHeld ?_
              simp only [Act.put, List.setIfInBounds_toArray, List.set_cons_zero, List.set_cons_succ]
              refine take_at (i := 22) 123 (v := ?_) rfl rfl (by kernel_rfl) (by kernel_rfl) (by kernel_rfl) (fun _ _ _ h => h) (by rfl) ?_ hHeld ?_
              rotate_left
              · (intro w hSw; (try dsimp only at hSw); go_simp; try with_reducible rfl)
              simp only [Act.put, List.setIfInBounds_toArray, List.set_cons_zero, List.set_cons_succ]
              refine take_at (i := 23) 124 (v := ?_) rfl rfl (by kernel_rfl) (by kernel_rfl) (by kernel_rfl) (fun _ _ _ h => h) (by rfl) ?_ hHeld ?_
              rotate_left
              · (intro w hSw; (try dsimp only at hSw); go_simp; try with_reducible rfl)
              simp only [Act.put, List.setIfInBounds_toArray, List.set_cons_zero, List.set_cons_succ]
              refine wpAnyH_done (by kernel_rfl) ?_ _
              refine NoPanic.normal ?_
              go_wp2_with fail
              go_meet
              exact ⟨rfl, rfl⟩
            · obtain ⟨rfl, rfl⟩ : u1 = y1 ∧ u2 = y2 := ⟨congrArg Prod.fst e2, congrArg Prod.snd e2⟩
              obtain rfl : un = yn := e3
              subst e4
              have hpos : 0 < U.length := by cases h9 : U with | nil => (rw [h9] at e1; cases e1) | cons a l => simp
              have hy : U[0] = ⟨(u1, u2), un⟩ := by rw [List.head?_eq_getElem?, List.getElem?_eq_getElem hpos] at e1; exact Option.some.inj e1
              obtain ⟨b, o, rfl, hr⟩ := HRU.out 0 hpos
              rw [hy, Nat.zero_mul, Nat.add_zero] at hr
              have hrr := hr _ HB8.out
              have hmn : 0 < mu := by have := HMU.out; omega
              have hmi : (0 : Int) < (mu : Int) := by omega
              have hl4 : ∀ u : World, u.heap = w8.heap → (Instr.loadAt tSt (.pointer (some ⟨b, o, none⟩))).run Try.prog u = .ok (sv (u1, u2)) u := fun u hu => load_st u _ _ (u1, u2) (fun q9 v9 hv9 => (hcV u hu _).trans (range_st (e := ⟨(u1, u2), un⟩) hrr q9 v9 hv9))
              have hA5 : ∀ u : World, u.heap = w8.heap → u.cell? ⟨b, o + 2, none⟩ = some (.int .u64 (un : Int)) := fun u hu => by rw [hcV u hu]; exact hrr 2 _ rfl
              clear e1 e2 hpos hy hr hrr
              refine wp_region_noPanic ?_
              refine wp_region_held_drew (S := (fun u => u.heap = w8.heap)) (by kernel_rfl) (by first | exact rfl | assumption) (fun hHeld => ?_)
              refine take_at (i := 0) 101 (v := ?_) rfl rfl (by kernel_rfl) (by kernel_rfl) (by kernel_rfl) (fun _ _ _ h => h) (by rfl) ?_ hHeld ?_
              rotate_left
              · (intro w hSw; (try dsimp only at hSw); go_simp; try with_reducible rfl)
              simp only [Act.put, List.setIfInBounds_toArray, List.set_cons_zero, List.set_cons_succ]
              refine take_at (i := 1) 102 (v := ?_) rfl rfl (by kernel_rfl) (by kernel_rfl) (by kernel_rfl) (fun _ _ _ h => h) (by rfl) ?_ hHeld ?_
              rotate_left
              · (intro w hSw; (try dsimp only at hSw); go_simp; try with_reducible rfl)
              simp only [Act.put, List.setIfInBounds_toArray, List.set_cons_zero, List.set_cons_succ]
              refine take_at (i := 2) 103 (v := ?_) rfl rfl (by kernel_rfl) (by kernel_rfl) (by kernel_rfl) (fun _ _ _ h => h) (by rfl) ?_ hHeld ?_
              rotate_left
              · (intro w hSw; (try dsimp only at hSw); go_simp; try with_reducible rfl)
              simp only [Act.put, List.setIfInBounds_toArray, List.set_cons_zero, List.set_cons_succ]
              refine take_at (i := 3) 104 (v := .bool true) rfl rfl (by kernel_rfl) (by kernel_rfl) (by kernel_rfl) (fun _ _ _ h => h) (by rfl) ?_ hHeld ?_
              · (intro w hSw; (try dsimp only at hSw); go_simp; try (first | exact hmn | (simp; omega)))
              simp only [Act.put, List.setIfInBounds_toArray, List.set_cons_zero, List.set_cons_succ]
              refine take_at (i := 4) 105 (v := .bool false) rfl rfl (by kernel_rfl) (by kernel_rfl) (by kernel_rfl) (fun _ _ _ h => h) (by rfl) ?_ hHeld ?_
              · (intro w hSw; (try dsimp only at hSw); go_simp; try rfl)
              simp only [Act.put, List.setIfInBounds_toArray, List.set_cons_zero, List.set_cons_succ]
              refine take_at (i := 5) 106 (v := ?_) rfl rfl (by kernel_rfl) (by kernel_rfl) (by kernel_rfl) (fun _ _ _ h => h) (by rfl) ?_ hHeld ?_
              rotate_left
              · (intro w hSw; (try dsimp only at hSw); go_simp; try with_reducible rfl)
              simp only [Act.put, List.setIfInBounds_toArray, List.set_cons_zero, List.set_cons_succ]
              refine take_at (i := 6) 107 (v := ?_) rfl rfl (by kernel_rfl) (by kernel_rfl) (by kernel_rfl) (fun _ _ _ h => h) (by rfl) ?_ hHeld ?_
              rotate_left
              · (intro w hSw; (try dsimp only at hSw); go_simp; try with_reducible rfl)
              simp only [Act.put, List.setIfInBounds_toArray, List.set_cons_zero, List.set_cons_succ]
              refine take_at (i := 7) 108 (v := ?_) rfl rfl (by kernel_rfl) (by kernel_rfl) (by kernel_rfl) (fun _ _ _ h => h) (by rfl) ?_ hHeld ?_
              rotate_left
              · (intro w hSw; (try dsimp only at hSw); go_simp; try with_reducible rfl)
              simp only [Act.put, List.setIfInBounds_toArray, List.set_cons_zero, List.set_cons_succ]
              refine take_at (i := 8) 109 (v := sv (u1, u2)) rfl rfl (by kernel_rfl) (by kernel_rfl) (by kernel_rfl) (fun _ _ _ h => h) (by rfl) ?_ hHeld ?_
              · (intro w hSw; refine exec_load (by rfl) ?_; exact hl3 w hSw)
              simp only [Act.put, List.setIfInBounds_toArray, List.set_cons_zero, List.set_cons_succ]
              refine take_at (i := 9) 110 (v := ?_) rfl rfl (by kernel_rfl) (by kernel_rfl) (by kernel_rfl) (fun _ _ _ h => h) (by rfl) ?_ hHeld ?_
              rotate_left
              · (intro w hSw; (try dsimp only at hSw); go_simp; try with_reducible rfl)
              simp only [Act.put, List.setIfInBounds_toArray, List.set_cons_zero, List.set_cons_succ]
              refine take_at (i := 10) 111 (v := ?_) rfl rfl (by kernel_rfl) (by kernel_rfl) (by kernel_rfl) (fun _ _ _ h => h) (by rfl) ?_ hHeld ?_
              rotate_left
              · (intro w hSw; (try dsimp only at hSw); go_simp; try with_reducible rfl)
              simp only [Act.put, List.setIfInBounds_toArray, List.set_cons_zero, List.set_cons_succ]
              refine take_at (i := 11) 112 (v := ?_) rfl rfl (by kernel_rfl) (by kernel_rfl) (by kernel_rfl) (fun _ _ _ h => h) (by rfl) ?_ hHeld ?_
              rotate_left
              · (intro w hSw; (try dsimp only at hSw); go_simp; try with_reducible rfl)
              simp only [Act.put, List.setIfInBounds_toArray, List.set_cons_zero, List.set_cons_succ]
              refine take_at (i := 12) 113 (v := sv (u1, u2)) rfl rfl (by kernel_rfl) (by kernel_rfl) (by kernel_rfl) (fun _ _ _ h => h) (by rfl) ?_ hHeld ?_
              · (intro w hSw; refine exec_load (by rfl) ?_; exact hl4 w hSw)
              simp only [Act.put, List.setIfInBounds_toArray, List.set_cons_zero, List.set_cons_succ]
              refine take_at (i := 13) 114 (v := .bool false) rfl rfl (by kernel_rfl) (by kernel_rfl) (by kernel_rfl) (fun _ _ _ h => h) (by rfl) ?_ hHeld ?_
              · (intro w hSw; (try dsimp only at hSw); go_simp; try simp)
              simp only [Act.put, List.setIfInBounds_toArray, List.set_cons_zero, List.set_cons_succ]
              refine take_at (i := 14) 115 (v := ?_) rfl rfl (by kernel_rfl) (by kernel_rfl) (by kernel_rfl) (fun _ _ _ h => h) (by rfl) ?_ hHeld ?_
              rotate_left
              · (intro w hSw; (try dsimp only at hSw); go_simp; try with_reducible rfl)
              simp only [Act.put, List.setIfInBounds_toArray, List.set_cons_zero, List.set_cons_succ]
              refine take_at (i := 15) 116 (v := ?_) rfl rfl (by kernel_rfl) (by kernel_rfl) (by kernel_rfl) (fun _ _ _ h => h) (by rfl) ?_ hHeld ?_
              rotate_left
              · (intro w hSw; (try dsimp only at hSw); go_simp; try with_reducible rfl)
              simp only [Act.put, List.setIfInBounds_toArray, List.set_cons_zero, List.set_cons_succ]
              refine take_at (i := 16) 117 (v := ?_) rfl rfl (by kernel_rfl) (by kernel_rfl) (by kernel_rfl) (fun _ _ _ h => h) (by rfl) ?_ hHeld ?_
              rotate_left
              · (intro w hSw; (try dsimp only at hSw); go_simp; try with_reducible rfl)
              simp only [Act.put, List.setIfInBounds_toArray, List.set_cons_zero, List.set_cons_succ]
              refine take_at (i := 17) 118 (v := ?_) rfl rfl (by kernel_rfl) (by kernel_rfl) (by kernel_rfl) (fun _ _ _ h => h) (by rfl) ?_ hHeld ?_
              rotate_left
              · (intro w hSw; (try dsimp only at hSw); go_simp; try with_reducible rfl)
              simp only [Act.put, List.setIfInBounds_toArray, List.set_cons_zero, List.set_cons_succ]
              refine take_at (i := 18) 119 (v := ?_) rfl rfl (by kernel_rfl) (by kernel_rfl) (by kernel_rfl) (fun _ _ _ h => h) (by rfl) ?_ hHeld ?_
              rotate_left
              · (intro w hSw; (try dsimp only at hSw); go_simp; try with_reducible rfl)
              simp only [Act.put, List.setIfInBounds_toArray, List.set_cons_zero, List.set_cons_succ]
              refine take_at (i := 19) 120 (v := ?_) rfl rfl (by kernel_rfl) (by kernel_rfl) (by kernel_rfl) (fun _ _ _ h => h) (by rfl) ?_ hHeld ?_
              rotate_left
              · (intro w hSw; (try dsimp only at hSw); go_simp; try with_reducible rfl)
              simp only [Act.put, List.setIfInBounds_toArray, List.set_cons_zero, List.set_cons_succ]
              refine take_at (i := 20) 121 (v := .bool false) rfl rfl (by kernel_rfl) (by kernel_rfl) (by kernel_rfl) (fun _ _ _ h => h) (by rfl) ?_ hHeld ?_
              · (intro w hSw; (try dsimp only at hSw); go_simp; try simp)
              simp only [Act.put, List.setIfInBounds_toArray, List.set_cons_zero, List.set_cons_succ]
              refine take_at (i := 21) 122 (v := ?_) rfl rfl (by kernel_rfl) (by kernel_rfl) (by kernel_rfl) (fun _ _ _ h => h) (by rfl) ?_ hHeld ?_
              rotate_left
              · (intro w hSw; (try dsimp only at hSw); go_simp; try with_reducible rfl)
              simp only [Act.put, List.setIfInBounds_toArray, List.set_cons_zero, List.set_cons_succ]
              refine take_at (i := 22) 123 (v := ?_) rfl rfl (by kernel_rfl) (by kernel_rfl) (by kernel_rfl) (fun _ _ _ h => h) (by rfl) ?_ hHeld ?_
              rotate_left
              · (intro w hSw; (try dsimp only at hSw); go_simp; try with_reducible rfl)
              simp only [Act.put, List.setIfInBounds_toArray, List.set_cons_zero, List.set_cons_succ]
              refine take_at (i := 23) 124 (v := ?_) rfl rfl (by kernel_rfl) (by kernel_rfl) (by kernel_rfl) (fun _ _ _ h => h) (by rfl) ?_ hHeld ?_
              rotate_left
              · (intro w hSw; (try dsimp only at hSw); go_simp; try with_reducible rfl)
              simp only [Act.put, List.setIfInBounds_toArray, List.set_cons_zero, List.set_cons_succ]
              refine wpAnyH_done (by kernel_rfl) ?_ _
              refine NoPanic.normal ?_
              go_wp2_with fail
              go_meet
              exact ⟨rfl, rfl⟩
          case rest =>
            obtain ⟨hc9, hx9⟩ := hcut
            subst hc9 hx9
            obtain ⟨w9, hw9⟩ : ∃ Y : World, Y = w8.drew := ⟨_, rfl⟩
            have HB9 : Hid (Below E w6 w9) := (show Below E w6 w9 by rw [hw9]; exact HB8.out.drew)
            have HX9 : Hid (w9.heap[X]? = some (.cells #[.int .u64 (u1 : Int), .int .u64 (u2 : Int)] tSt (0, 0))) := (show _ = _ by rw [hw9]; exact HX8.out)
            have HZ9 : Hid (w9.heap.size = X + 1) := (show _ = _ by rw [hw9]; exact HZ8.out)
            rw [← hw9]
            clear hw9 HB8 HX8 HZ8 HFI HB7 HX
            go_wp2_with (first | (refine wpList_load_mid rfl tSt _ rfl B0 0 rfl (sc (s1, s2)) _ (HSW.out _ HB9.out).rs Try.underlying34 rfl info_st ?_))
            refine Calls.mono (greatest_any (HSW.out _ HB9.out).idx HT.out hS64 (by omega) s1 s2) ?_
            rintro e w10 ⟨⟨g1, g2⟩, gn, gk, rfl, hfi, hb10⟩
            rw [← HD.out] at hfi
            have HFI : Hid (FirstIs D (g1, g2) gn gk) := hfi
            have HB10 : Hid (Below E w6 w10) := HB9.out.trans (hb10.mono (by have := HZ9.out; omega))
            have HX10 : Hid (w10.heap[X]? = some (.cells #[.int .u64 (u1 : Int), .int .u64 (u2 : Int)] tSt (0, 0))) := (hb10.block X (by have := HZ9.out; omega)).trans HX9.out
            have hx10 := HX10.out
            obtain ⟨w11, hw11⟩ : ∃ Y : World, Y = w10.setRow X #[.int .u64 (g1 : Int), .int .u64 (g2 : Int)] := ⟨_, rfl⟩
            have HB11 : Hid (Below E w6 w11) := (show Below E w6 w11 by rw [hw11]; exact below_row HB10.out hEX _)
            have HX11 : Hid (w11.heap[X]? = some (.cells #[.int .u64 (g1 : Int), .int .u64 (g2 : Int)] tSt (0, 0))) := (show _ = _ by rw [hw11]; exact setRow_heap w10 X _ _ tSt _ hx10)
            clear hfi hb10 HB9 HX9 HZ9
            go_upto_region 21 with (first | (refine wpList_store_row rfl tSt _ _ rfl X #[.int .u64 (g1 : Int), .int .u64 (g2 : Int)] rfl rfl tSt _ hx10 info_st rfl (by simp [Value.oneCell']) ?_))
            rw [← hw11]
            clear hw11 hx10 HX10 HB10
            go_cut [155] from 132 to 155 (fun c wx => c = .bool false ∧ wx = w11.drew)
            case first =>
              have hcV : ∀ u : World, u.heap = w11.heap → ∀ ad9 : Addr, u.cell? ad9 = w11.cell? ad9 := fun u hu ad9 => by simp [World.cell?, hu]
              have hA0 : ∀ u : World, u.heap = w11.heap → u.cell? ⟨H + 1, 0, none⟩ = some (.slice ad md cd) := fun u hu => by rw [hcV u hu]; exact (HSW.out _ HB11.out).cd
              have hl3 : ∀ u : World, u.heap = w11.heap → (Instr.loadAt tSt (.pointer (some ⟨X, 0, none⟩))).run Try.prog u = .ok (sv (g1, g2)) u := fun u hu => load_st u _ _ (g1, g2) (fun q9 v9 hv9 => (hcV u hu _).trans (box_range HX11.out q9 v9 hv9))
              rcases HFI.out with ⟨e1, e2, e3, e4⟩ | ⟨⟨⟨y1, y2⟩, yn⟩, e1, e2, e3, e4⟩
              · obtain rfl : md = 0 := by have := HMD.out; rw [e1] at this; exact this
                subst e4
                clear e1 e2 e3
                refine wp_region_noPanic ?_
                refine wp_region_held_drew (S := (fun u => u.heap = w11.heap)) (by kernel_rfl) (by first | exact rfl | assumption) (fun hHeld => ?_)
                refine take_at (i := 0) 132 (v := ?_) rfl rfl (by kernel_rfl) (by kernel_rfl) (by kernel_rfl) (fun _ _ _ h => h) (by rfl) ?_ hHeld ?_
                rotate_left
                · (intro w hSw; (try dsimp only at hSw); go_simp; try with_reducible rfl)
                simp only [Act.put, List.setIfInBounds_toArray, List.set_cons_zero, List.set_cons_succ]
                refine take_at (i := 1) 133 (v := ?_) rfl rfl (by kernel_rfl) (by kernel_rfl) (by kernel_rfl) (fun _ _ _ h => h) (by rfl) ?_ hHeld ?_
                rotate_left
                · (intro w hSw; (try dsimp only at hSw); go_simp; try with_reducible rfl)
                simp only [Act.put, List.setIfInBounds_toArray, List.set_cons_zero, List.set_cons_succ]
                refine take_at (i := 2) 134 (v := ?_) rfl rfl (by kernel_rfl) (by kernel_rfl) (by kernel_rfl) (fun _ _ _ h => h) (by rfl) ?_ hHeld ?_
                rotate_left
                · (intro w hSw; (try dsimp only at hSw); go_simp; try with_reducible rfl)
                simp only [Act.put, List.setIfInBounds_toArray, List.set_cons_zero, List.set_cons_succ]
                refine take_at (i := 3) 135 (v := .bool false) rfl rfl (by kernel_rfl) (by kernel_rfl) (by kernel_rfl) (fun _ _ _ h => h) (by rfl) ?_ hHeld ?_
                · (intro w hSw; (try dsimp only at hSw); go_simp)
                simp only [Act.put, List.setIfInBounds_toArray, List.set_cons_zero, List.set_cons_succ]
                refine take_at (i := 4) 136 (v := .bool false) rfl rfl (by kernel_rfl) (by kernel_rfl) (by kernel_rfl) (fun _ _ _ h => h) (by rfl) ?_ hHeld ?_
                · (intro w hSw; (try dsimp only at hSw); go_simp; try rfl)
                simp only [Act.put, List.setIfInBounds_toArray, List.set_cons_zero, List.set_cons_succ]
                refine take_at (i := 5) 137 (v := ?_) rfl rfl (by kernel_rfl) (by kernel_rfl) (by kernel_rfl) (fun _ _ _ h => h) (by rfl) ?_ hHeld ?_
                rotate_left
                · (intro w hSw; (try dsimp only at hSw); go_simp; try with_reducible rfl)
                simp only [Act.put, List.setIfInBounds_toArray, List.set_cons_zero, List.set_cons_succ]
                refine take_at (i := 6) 138 (v := ?_) rfl rfl (by kernel_rfl) (by kernel_rfl) (by kernel_rfl) (fun _ _ _ h => h) (by rfl) ?_ hHeld ?_
                rotate_left
                · (intro w hSw; (try dsimp only at hSw); go_simp; try with_reducible rfl)
                simp only [Act.put, List.setIfInBounds_toArray, List.set_cons_zero, List.set_cons_succ]
                refine take_at (i := 7) 139 (v := ?_) rfl rfl (by kernel_rfl) (by kernel_rfl) (by kernel_rfl) (fun _ _ _ h => h) (by rfl) ?_ hHeld ?_
                rotate_left
                · (intro w hSw; (try dsimp only at hSw); go_simp; try with_reducible rfl)
                simp only [Act.put, List.setIfInBounds_toArray, List.set_cons_zero, List.set_cons_succ]
                refine skip_at (i := 8) 140 rfl rfl (by kernel_rfl) (by kernel_rfl) (by kernel_rfl) (fun _ _ _ h => h) (by rfl) hHeld ?_
                simp only [Act.put, List.setIfInBounds_toArray, List.set_cons_zero, List.set_cons_succ]
                refine skip_at (i := 9) 141 rfl rfl (by kernel_rfl) (by kernel_rfl) (by kernel_rfl) (fun _ _ _ h => h) (by rfl) hHeld ?_
                simp only [Act.put, List.setIfInBounds_toArray, List.set_cons_zero, List.set_cons_succ]
                refine skip_at (i := 10) 142 rfl rfl (by kernel_rfl) (by kernel_rfl) (by kernel_rfl) (fun _ _ _ h => h) (by rfl) hHeld ?_
                simp only [Act.put, List.setIfInBounds_toArray, List.set_cons_zero, List.set_cons_succ]
                refine skip_at (i := 11) 143 rfl rfl (by kernel_rfl) (by kernel_rfl) (by kernel_rfl) (fun _ _ _ h => h) (by rfl) hHeld ?_
                simp only [Act.put, List.setIfInBounds_toArray, List.set_cons_zero, List.set_cons_succ]
                refine skip_at (i := 12) 144 rfl rfl (by kernel_rfl) (by kernel_rfl) (by kernel_rfl) (fun _ _ _ h => h) (by rfl) hHeld ?_
                simp only [Act.put, List.setIfInBounds_toArray, List.set_cons_zero, List.set_cons_succ]
                refine skip_at (i := 13) 145 rfl rfl (by kernel_rfl) (by kernel_rfl) (by kernel_rfl) (fun _ _ _ h => h) (by rfl) hHeld ?_
                simp only [Act.put, List.setIfInBounds_toArray, List.set_cons_zero, List.set_cons_succ]
                refine skip_at (i := 14) 146 rfl rfl (by kernel_rfl) (by kernel_rfl) (by kernel_rfl) (fun _ _ _ h => h) (by rfl) hHeld ?_
                simp only [Act.put, List.setIfInBounds_toArray, List.set_cons_zero, List.set_cons_succ]
                refine skip_at (i := 15) 147 rfl rfl (by kernel_rfl) (by kernel_rfl) (by kernel_rfl) (fun _ _ _ h => h) (by rfl) hHeld ?_
                simp only [Act.put, List.setIfInBounds_toArray, List.set_cons_zero, List.set_cons_succ]
                refine skip_at (i := 16) 148 rfl rfl (by kernel_rfl) (by kernel_rfl) (by kernel_rfl) (fun _ _ _ h => h) (by rfl) hHeld ?_
                simp only [Act.put, List.setIfInBounds_toArray, List.set_cons_zero, List.set_cons_succ]
                refine skip_at (i := 17) 149 rfl rfl (by kernel_rfl) (by kernel_rfl) (by kernel_rfl) (fun _ _ _ h => h) (by rfl) hHeld ?_
                simp only [Act.put, List.setIfInBounds_toArray, List.set_cons_zero, List.set_cons_succ]
                refine skip_at (i := 18) 150 rfl rfl (by kernel_rfl) (by kernel_rfl) (by kernel_rfl) (fun _ _ _ h => h) (by rfl) hHeld ?_
                simp only [Act.put, List.setIfInBounds_toArray, List.set_cons_zero, List.set_cons_succ]
                refine skip_at (i := 19) 151 rfl rfl (by kernel_rfl) (by kernel_rfl) (by kernel_rfl) (fun _ _ _ h => h) (by rfl) hHeld ?_
                simp only [Act.put, List.setIfInBounds_toArray, List.set_cons_zero, List.set_cons_succ]
                refine skip_at (i := 20) 152 rfl rfl (by kernel_rfl) (by kernel_rfl) (by kernel_rfl) (fun _ _ _ h => h) (by rfl) hHeld ?_
                simp only [Act.put, List.setIfInBounds_toArray, List.set_cons_zero, List.set_cons_succ]
                refine skip_at (i := 21) 153 rfl rfl (by kernel_rfl) (by kernel_rfl) (by kernel_rfl) (fun _ _ _ h => h) (by rfl) hHeld ?_
                simp only [Act.put, List.setIfInBounds_toArray, List.set_cons_zero, List.set_cons_succ]
                refine take_at (i := 22) 154 (v := ?_) rfl rfl (by kernel_rfl) (by kernel_rfl) (by kernel_rfl) (fun _ _ _ h => h) (by rfl) ?_ hHeld ?_
                rotate_left
                · (intro w hSw; (try dsimp only at hSw); go_simp; try with_reducible rfl)
                simp only [Act.put, List.setIfInBounds_toArray, List.set_cons_zero, List.set_cons_succ]
                refine take_at (i := 23) 155 (v := ?_) rfl rfl (by kernel_rfl) (by kernel_rfl) (by kernel_rfl) (fun _ _ _ h => h) (by rfl) ?_ hHeld ?_
                rotate_left
                · (intro w hSw; (try dsimp only at hSw); go_simp; try with_reducible rfl)
                simp only [Act.put, List.setIfInBounds_toArray, List.set_cons_zero, List.set_cons_succ]
                refine wpAnyH_done (by kernel_rfl) ?_ _
                refine NoPanic.normal ?_
                go_wp2_with fail
                go_meet
                exact ⟨rfl, rfl⟩
              · obtain ⟨rfl, rfl⟩ : g1 = y1 ∧ g2 = y2 := ⟨congrArg Prod.fst e2, congrArg Prod.snd e2⟩
                obtain rfl : gn = yn := e3
                subst e4
                have hpos : 0 < D.length := by cases h9 : D with | nil => (rw [h9] at e1; cases e1) | cons a l => simp
                have hy : D[0] = ⟨(g1, g2), gn⟩ := by rw [List.head?_eq_getElem?, List.getElem?_eq_getElem hpos] at e1; exact Option.some.inj e1
                obtain ⟨b, o, rfl, hr⟩ := HRD.out 0 hpos
                rw [hy, Nat.zero_mul, Nat.add_zero] at hr
                have hrr := hr _ HB11.out
                have hmn : 0 < md := by have := HMD.out; omega
                have hmi : (0 : Int) < (md : Int) := by omega
                have hl4 : ∀ u : World, u.heap = w11.heap → (Instr.loadAt tSt (.pointer (some ⟨b, o, none⟩))).run Try.prog u = .ok (sv (g1, g2)) u := fun u hu => load_st u _ _ (g1, g2) (fun q9 v9 hv9 => (hcV u hu _).trans (range_st (e := ⟨(g1, g2), gn⟩) hrr q9 v9 hv9))
                have hA5 : ∀ u : World, u.heap = w11.heap → u.cell? ⟨b, o + 2, none⟩ = some (.int .u64 (gn : Int)) := fun u hu => by rw [hcV u hu]; exact hrr 2 _ rfl
                clear e1 e2 hpos hy hr hrr
                refine wp_region_noPanic ?_
                refine wp_region_held_drew (S := (fun u => u.heap = w11.heap)) (by kernel_rfl) (by first | exact rfl | assumption) (fun hHeld => ?_)
                refine take_at (i := 0) 132 (v := ?_) rfl rfl (by kernel_rfl) (by kernel_rfl) (by kernel_rfl) (fun _ _ _ h => h) (by rfl) ?_ hHeld ?_
                rotate_left
                · (intro w hSw; (try dsimp only at hSw); go_simp; try with_reducible rfl)
                simp only [Act.put, List.setIfInBounds_toArray, List.set_cons_zero, List.set_cons_succ]
                refine take_at (i := 1) 133 (v := ?_) rfl rfl (by kernel_rfl) (by kernel_rfl) (by kernel_rfl) (fun _ _ _ h => h) (by rfl) ?_ hHeld ?_
                rotate_left
                · (intro w hSw; (try dsimp only at hSw); go_simp; try with_reducible rfl)
                simp only [Act.put, List.setIfInBounds_toArray, List.set_cons_zero, List.set_cons_succ]
                refine take_at (i := 2) 134 (v := ?_) rfl rfl (by kernel_rfl) (by kernel_rfl) (by kernel_rfl) (fun _ _ _ h => h) (by rfl) ?_ hHeld ?_
                rotate_left
                · (intro w hSw; (try dsimp only at hSw); go_simp; try with_reducible rfl)
                simp only [Act.put, List.setIfInBounds_toArray, List.set_cons_zero, List.set_cons_succ]
                refine take_at (i := 3) 135 (v := .bool true) rfl rfl (by kernel_rfl) (by kernel_rfl) (by kernel_rfl) (fun _ _ _ h => h) (by rfl) ?_ hHeld ?_
                · (intro w hSw; (try dsimp only at hSw); go_simp; try (first | exact hmn | (simp; omega)))
                simp only [Act.put, List.setIfInBounds_toArray, List.set_cons_zero, List.set_cons_succ]
                refine take_at (i := 4) 136 (v := .bool false) rfl rfl (by kernel_rfl) (by kernel_rfl) (by kernel_rfl) (fun _ _ _ h => h) (by rfl) ?_ hHeld ?_
                · (intro w hSw; (try dsimp only at hSw); go_simp; try rfl)
                simp only [Act.put, List.setIfInBounds_toArray, List.set_cons_zero, List.set_cons_succ]
                refine take_at (i := 5) 137 (v := ?_) rfl rfl (by kernel_rfl) (by kernel_rfl) (by kernel_rfl) (fun _ _ _ h => h) (by rfl) ?_ hHeld ?_
                rotate_left
                · (intro w hSw; (try dsimp only at hSw); go_simp; try with_reducible rfl)
                simp only [Act.put, List.setIfInBounds_toArray, List.set_cons_zero, List.set_cons_succ]
                refine take_at (i := 6) 138 (v := ?_) rfl rfl (by kernel_rfl) (by kernel_rfl) (by kernel_rfl) (fun _ _ _ h => h) (by rfl) ?_ hHeld ?_
                rotate_left
                · (intro w hSw; (try dsimp only at hSw); go_simp; try with_reducible rfl)
                simp only [Act.put, List.setIfInBounds_toArray, List.set_cons_zero, List.set_cons_succ]
                refine take_at (i := 7) 139 (v := ?_) rfl rfl (by kernel_rfl) (by kernel_rfl) (by kernel_rfl) (fun _ _ _ h => h) (by rfl) ?_ hHeld ?_
                rotate_left
                · (intro w hSw; (try dsimp only at hSw); go_simp; try with_reducible rfl)
                simp only [Act.put, List.setIfInBounds_toArray, List.set_cons_zero, List.set_cons_succ]
                refine take_at (i := 8) 140 (v := sv (g1, g2)) rfl rfl (by kernel_rfl) (by kernel_rfl) (by kernel_rfl) (fun _ _ _ h => h) (by rfl) ?_ hHeld ?_
                · (intro w hSw; refine exec_load (by rfl) ?_; exact hl3 w hSw)
                simp only [Act.put, List.setIfInBounds_toArray, List.set_cons_zero, List.set_cons_succ]
                refine take_at (i := 9) 141 (v := ?_) rfl rfl (by kernel_rfl) (by kernel_rfl) (by kernel_rfl) (fun _ _ _ h => h) (by rfl) ?_ hHeld ?_
                rotate_left
                · (intro w hSw; (try dsimp only at hSw); go_simp; try with_reducible rfl)
                simp only [Act.put, List.setIfInBounds_toArray, List.set_cons_zero, List.set_cons_succ]
                refine take_at (i := 10) 142 (v := ?_) rfl rfl (by kernel_rfl) (by kernel_rfl) (by kernel_rfl) (fun _ _ _ h => h) (by rfl) ?_ hHeld ?_
                rotate_left
                · (intro w hSw; (try dsimp only at hSw); go_simp; try with_reducible rfl)
                simp only [Act.put, List.setIfInBounds_toArray, List.set_cons_zero, List.set_cons_succ]
                refine take_at (i := 11) 143 (v := ?_) rfl rfl (by kernel_rfl) (by kernel_rfl) (by kernel_rfl) (fun _ _ _ h => h) (by rfl) ?_ hHeld ?_
                rotate_left
                · (intro w hSw; (try dsimp only at hSw); go_simp; try with_reducible rfl)
                simp only [Act.put, List.setIfInBounds_toArray, List.set_cons_zero, List.set_cons_succ]
                refine take_at (i := 12) 144 (v := sv (g1, g2)) rfl rfl (by kernel_rfl) (by kernel_rfl) (by kernel_rfl) (fun _ _ _ h => h) (by rfl) ?_ hHeld ?_
                · (intro w hSw; refine exec_load (by rfl) ?_; exact hl4 w hSw)
                simp only [Act.put, List.setIfInBounds_toArray, List.set_cons_zero, List.set_cons_succ]
                refine take_at (i := 13) 145 (v := .bool false) rfl rfl (by kernel_rfl) (by kernel_rfl) (by kernel_rfl) (fun _ _ _ h => h) (by rfl) ?_ hHeld ?_
                · (intro w hSw; (try dsimp only at hSw); go_simp; try simp)
                simp only [Act.put, List.setIfInBounds_toArray, List.set_cons_zero, List.set_cons_succ]
                refine take_at (i := 14) 146 (v := ?_) rfl rfl (by kernel_rfl) (by kernel_rfl) (by kernel_rfl) (fun _ _ _ h => h) (by rfl) ?_ hHeld ?_
                rotate_left
                · (intro w hSw; (try dsimp only at hSw); go_simp; try with_reducible rfl)
                simp only [Act.put, List.setIfInBounds_toArray, List.set_cons_zero, List.set_cons_succ]
                refine take_at (i := 15) 147 (v := ?_) rfl rfl (by kernel_rfl) (by kernel_rfl) (by kernel_rfl) (fun _ _ _ h => h) (by rfl) ?_ hHeld ?_
                rotate_left
                · (intro w hSw; (try dsimp only at hSw); go_simp; try with_reducible rfl)
                simp only [Act.put, List.setIfInBounds_toArray, List.set_cons_zero, List.set_cons_succ]
                refine take_at (i := 16) 148 (v := ?_) rfl rfl (by kernel_rfl) (by kernel_rfl) (by kernel_rfl) (fun _ _ _ h => h) (by rfl) ?_ hHeld ?_
                rotate_left
                · (intro w hSw; (try dsimp only at hSw); go_simp; try with_reducible rfl)
                simp only [Act.put, List.setIfInBounds_toArray, List.set_cons_zero, List.set_cons_succ]
                refine take_at (i := 17) 149 (v := ?_) rfl rfl (by kernel_rfl) (by kernel_rfl) (by kernel_rfl) (fun _ _ _ h => h) (by rfl) ?_ hHeld ?_
                rotate_left
                · (intro w hSw; (try dsimp only at hSw); go_simp; try with_reducible rfl)
                simp only [Act.put, List.setIfInBounds_toArray, List.set_cons_zero, List.set_cons_succ]
                refine take_at (i := 18) 150 (v := ?_) rfl rfl (by kernel_rfl) (by kernel_rfl) (by kernel_rfl) (fun _ _ _ h => h) (by rfl) ?_ hHeld ?_
                rotate_left
                · (intro w hSw; (try dsimp only at hSw); go_simp; try with_reducible rfl)
                simp only [Act.put, List.setIfInBounds_toArray, List.set_cons_zero, List.set_cons_succ]
                refine take_at (i := 19) 151 (v := ?_) rfl rfl (by kernel_rfl) (by kernel_rfl) (by kernel_rfl) (fun _ _ _ h => h) (by rfl) ?_ hHeld ?_
                rotate_left
                · (intro w hSw; (try dsimp only at hSw); go_simp; try with_reducible rfl)
                simp only [Act.put, List.setIfInBounds_toArray, List.set_cons_zero, List.set_cons_succ]
                refine take_at (i := 20) 152 (v := .bool false) rfl rfl (by kernel_rfl) (by kernel_rfl) (by kernel_rfl) (fun _ _ _ h => h) (by rfl) ?_ hHeld ?_
                · (intro w hSw; (try dsimp only at hSw); go_simp; try simp)
                simp only [Act.put, List.setIfInBounds_toArray, List.set_cons_zero, List.set_cons_succ]
                refine take_at (i := 21) 153 (v := ?_) rfl rfl (by kernel_rfl) (by kernel_rfl) (by kernel_rfl) (fun _ _ _ h => h) (by rfl) ?_ hHeld ?_
                rotate_left
                · (intro w hSw; (try dsimp only at hSw); go_simp; try with_reducible rfl)
                simp only [Act.put, List.setIfInBounds_toArray, List.set_cons_zero, List.set_cons_succ]
                refine take_at (i := 22) 154 (v := ?_) rfl rfl (by kernel_rfl) (by kernel_rfl) (by kernel_rfl) (fun _ _ _ h => h) (by rfl) ?_ hHeld ?_
                rotate_left
                · (intro w hSw; (try dsimp only at hSw); go_simp; try with_reducible rfl)
                simp only [Act.put, List.setIfInBounds_toArray, List.set_cons_zero, List.set_cons_succ]
                refine take_at (i := 23) 155 (v := ?_) rfl rfl (by kernel_rfl) (by kernel_rfl) (by kernel_rfl) (fun _ _ _ h => h) (by rfl) ?_ hHeld ?_
                rotate_left
                · (intro w hSw; (try dsimp only at hSw); go_simp; try with_reducible rfl)
                simp only [Act.put, List.setIfInBounds_toArray, List.set_cons_zero, List.set_cons_succ]
                refine wpAnyH_done (by kernel_rfl) ?_ _
                refine NoPanic.normal ?_
                go_wp2_with fail
                go_meet
                exact ⟨rfl, rfl⟩
            case rest =>
              obtain ⟨hc9, hx9⟩ := hcut
              subst hc9 hx9
              obtain ⟨w13, hw13⟩ : ∃ Y : World, Y = w11.drew := ⟨_, rfl⟩
              have HB13 : Hid (Below E w6 w13) := (show Below E w6 w13 by rw [hw13]; exact HB11.out.drew)
              rw [← hw13]
              clear hw13 HB11
              obtain ⟨C, hC⟩ : ∃ C, C = w13.heap.size := ⟨_, rfl⟩
              have hEC : E ≤ C := by rw [hC, HE.out]; exact HB13.out.size
              obtain ⟨w12, hw12⟩ : ∃ Y : World, Y = w13.alloc (.cells #[.int .i64 0] 3) := ⟨_, rfl⟩
              have HB12 : Hid (Below E w6 w12) := (show Below E w6 w12 by rw [hw12]; exact HB13.out.alloc (by omega) _)
              have HC12 : Hid (w12.heap[C]? = some (.cells #[.int .i64 0] 3 (0, 0))) := (show _ = _ by rw [hw12, hC]; exact heap_alloc_new w13 _)
              have HZ12 : Hid (w12.heap.size = C + 1) := (show _ = _ by rw [hw12, hC]; simp)
              have hld : (w13.alloc (.cells #[.int .i64 0] 3)).rangeAt B0 0 (sc (s1, s2)) := by rw [← hw12]; exact (HSW.out _ HB12.out).rs
              clear HFI HX11
              go_wp2_with (first | (refine wpList_load_mid rfl tSt _ rfl B0 0 rfl (sc (s1, s2)) _ hld Try.underlying34 rfl info_st ?_))
              rw [← hw12]
              simp only [← hC]
              clear hld hw12 hC HB13
              have HUP : Hid _ := up_t (.pointer (some ⟨G, 0, none⟩)) rfl (some ⟨G, 0, none⟩) rfl s1 s2 w12
              refine Calls.mono HUP.out ?_
              rintro e z ⟨rfl, hz⟩
              obtain ⟨gxz, hgx⟩ : ∃ gx, gx = w12.heap.size := ⟨_, rfl⟩
              have HBz : Hid (Below E w6 z) := (show Below E w6 z by rw [hz]; exact (HB12.out.alloc (by have := HB12.out.size; rw [← HE.out] at this; omega) _).alloc (by have := HB12.out.size; rw [← HE.out] at this; simp; omega) _)
              have ht2 := two_new w12 (.cells #[.pointer (some ⟨G, 0, none⟩)] 29) (.cells #[.int .u64 (s1 : Int), .int .u64 (s2 : Int)] tSt)
              rw [← hz, ← hgx] at ht2
              have hcx : z.cell? ⟨gxz, 0, none⟩ = some (.pointer (some ⟨G, 0, none⟩)) := by rw [cell_of_row _ _ _ _ _ _ ht2.1]; rfl
              have hcs : z.rangeAt (gxz + 1) 0 (sc (s1, s2)) := box_range ht2.2
              have HCz : Hid (z.heap[C]? = some (.cells #[.int .i64 0] 3 (0, 0))) := (show _ = _ by rw [hz]; exact ((al (al (Below.refl w12.heap.size w12) _) _).block C (Array.getElem?_eq_some_iff.1 HC12.out).1).trans HC12.out)
              have HKz : Hid (∀ k9, k9 < w12.heap.size → z.heap[k9]? = w12.heap[k9]?) := (fun k9 h9 => by rw [hz]; exact (al (al (Below.refl w12.heap.size w12) _) _).block k9 h9)
              have HSz : Hid (w12.heap.size ≤ z.heap.size) := (show _ ≤ _ by rw [hz]; simp; omega)
              have HSQ : Hid (SeqG Fence.wide 11 Try.prog 52 #[.pointer (some ⟨gxz, 0, none⟩), .pointer (some ⟨gxz + 1, 0, none⟩)] encU (EntB z) (fun xs => xs = U) (fun pre => pre <+: U) U.length z) := (show SeqG Fence.wide 11 Try.prog 52 #[.pointer (some ⟨gxz, 0, none⟩), .pointer (some ⟨gxz + 1, 0, none⟩)] encU (EntB z) (fun xs => xs = U) (fun pre => pre <+: U) U.length z by
                have h9 := up_any 11 (by decide) gxz (gxz + 1) s1 s2 (HSW.out z HBz.out).idx HT.out hS64 (by omega) hcx hcs
                rw [← HU.out] at h9
                exact h9)
              have hEz : E ≤ z.heap.size := by rw [HE.out]; exact HBz.out.size
              have hRz : B0 + 1 < z.heap.size := by omega
              rw [← hgx]
              clear hz hgx ht2 hcx hcs HUP
              go_wp2_with fail
              refine (wpIn_wide (n := 12)).1 ?_
              refine name_act ?_
              intro T hT
              refine wpIn_rangeFunc_G rfl (by decide) (gf := 52) (lb := #[.pointer (some ⟨gxz, 0, none⟩), .pointer (some ⟨gxz + 1, 0, none⟩)]) (by subst hT; rfl) trivial (enters_of Try.func52 (by kernel_rfl) rfl) HSQ.out (fun k hk => hk.1) (fun _ => rfl)
                (fun pre Z V => pre <+: U ∧ Rng z V C (B0 + 1) Z pre.length)
                (fun c pre Z V => c = .ret ∧ ¬ pre <+: U)
                ⟨fun s Z V V' row hs hg hr => ⟨hs.1, hs.2.grow hRz hg hr⟩, fun s Z Z' V hs hz => ⟨hs.1, hs.2.less hz⟩⟩
                (fun c => ⟨fun s Z V V' row hs _ _ => hs, fun s Z Z' V hs _ => hs⟩)
                ⟨List.nil_prefix, Rng.init HCz.out (HSW.out z HBz.out).br⟩
                (fun x a' V => ∃ Bx, z.heap.size ≤ Bx ∧ V.heap[Bx]? = some (.cells #[.int .u64 (x.st.1 : Int), .int .u64 (x.st.2 : Int)] tSt (0, 0)) ∧ a' = { tmps := (((T.setIfInBounds 159 (sv x.st)).setIfInBounds 160 x.v).setIfInBounds 18 (.pointer (some ⟨Bx, 0, none⟩))).setIfInBounds 19 x.v, defers := [] })
                (fun x a' s A B row hs hg hr => by obtain ⟨Bx, h1, h2, h3⟩ := hs; exact ⟨Bx, h1, heap_kept h2 hg (fun r e => (hr r e).2), h3⟩)
                ?assign ?body ?done ?stop
              case assign =>
                rintro l pre Z ⟨⟨x1, x2⟩, xn⟩ V K ⟨hpre, hR⟩ hK
                subst hT
                simp only [fold2, List.setIfInBounds_toArray, List.set_cons_zero, List.set_cons_succ]
                gi_wp2
                exact hK _ _ ((KeepsOthers.alloc _ _).from _) (fun k hk => Below.heap_alloc V _ k (hR.zl k hk)) ⟨hpre, hR.alloc hRz _⟩ ⟨V.heap.size, hR.g.size, heap_alloc_new V _, rfl⟩
              case body =>
                rintro l pre Z ⟨⟨x1, x2⟩, xn⟩ a' V hl hlr ⟨hpre, hR⟩ ⟨Bx, hBx, hX9, rfl⟩ hlt
                obtain ⟨kk, hkk⟩ : ∃ kk, kk = pre.length := ⟨_, rfl⟩
                rw [← hkk] at hR hlt
                have hVb : Below E w6 V := hR.bel HBz.out (by omega) hEz
                have hcV : ∀ u : World, u.heap = V.heap → ∀ ad9 : Addr, u.cell? ad9 = V.cell? ad9 := fun u hu ad9 => by simp [World.cell?, hu]
                have hA2 : ∀ u : World, u.heap = V.heap → u.cell? ⟨C, 0, none⟩ = some (.int .i64 (kk : Int)) := fun u hu => by rw [hcV u hu, cell_of_row _ _ _ _ _ _ hR.x]; rfl
                have hl3 : ∀ u : World, u.heap = V.heap → (Instr.loadAt tSt (.pointer (some ⟨Bx, 0, none⟩))).run Try.prog u = .ok (sv (x1, x2)) u := fun u hu => load_st u _ _ (x1, x2) (fun j9 v9 hv9 => (hcV u hu _).trans (box_range hX9 j9 v9 hv9))
                have hc2 : V.cell? ⟨C, 0, none⟩ = some (.int .i64 (kk : Int)) := hA2 V rfl
                have hf2 : V.frozen? ⟨C, 0, none⟩ = false := by simp [World.frozen?, hR.x]
                have hbr := (HSW.out V hVb).br
                have hc1 : V.cell? ⟨B0 + 1, 0, none⟩ = some (.bool false) := by rw [cell_of_row _ _ _ _ _ _ hbr]; rfl
                have hf1 : V.frozen? ⟨B0 + 1, 0, none⟩ = false := by simp [World.frozen?, hbr]
                have hA0 : ∀ u : World, u.heap = V.heap → u.cell? ⟨H, 0, none⟩ = some (.slice au mu cu) := fun u hu => by rw [hcV u hu]; exact (HSW.out V hVb).cu
                have HRK : Hid (Rng z V C (B0 + 1) Z kk) := hR
                have HPR : Hid (pre.length = kk) := hkk.symm
                have HPE : Hid (pre <+: U) := hpre
                have HVB : Hid (Below E w6 V) := hVb
                clear hkk hR hbr hpre hVb
                by_cases hkL : kk < U.length
                · obtain ⟨b, o, rfl, hr⟩ := HRU.out kk hkL
                  obtain ⟨t1, t2, tn, htx⟩ : ∃ t1 t2 tn, U[kk] = ⟨(t1, t2), tn⟩ := ⟨_, _, _, rfl⟩
                  rw [htx] at hr
                  have hrV := hr V HVB.out
                  have hA5 : ∀ u : World, u.heap = V.heap → u.cell? ⟨b, o + kk * 3 + 2, none⟩ = some (.int .u64 (tn : Int)) := fun u hu => by rw [hcV u hu]; exact hrV 2 _ rfl
                  have hl4 : ∀ u : World, u.heap = V.heap → (Instr.loadAt tSt (.pointer (some ⟨b, o + kk * 3, none⟩))).run Try.prog u = .ok (sv (t1, t2)) u := fun u hu => load_st u _ _ (t1, t2) (fun j9 v9 hv9 => (hcV u hu _).trans (range_st (e := ⟨(t1, t2), tn⟩) hrV j9 v9 hv9))
                  have hkm : kk < mu := by have := HMU.out; omega
                  have hki : (kk : Int) < (mu : Int) := by omega
                  have hkge : ¬ ((mu : Int) ≤ (kk : Int)) := by omega
                  have hk0 : (0 : Int) ≤ (kk : Int) := by omega
                  obtain ⟨q, hq⟩ : ∃ q : Bool, q = decide (x1 = t1 ∧ x2 = t2) := ⟨_, rfl⟩
                  have HQ : Hid (q = decide (x1 = t1 ∧ x2 = t2)) := hq
                  obtain ⟨q2, hq2⟩ : ∃ q2 : Bool, q2 = decide (xn = tn) := ⟨_, rfl⟩
                  have HQ2 : Hid (q2 = decide (xn = tn)) := hq2
                  have HEX : Hid ((pre ++ [(⟨(x1, x2), xn⟩ : Ent)] <+: U) ↔ (q = true ∧ q2 = true)) := (show _ ↔ _ by
                    have hkL2 : pre.length < U.length := by have := HPR.out; omega
                    rw [pre_snoc HPE.out hkL2, show U[pre.length] = ⟨(t1, t2), tn⟩ by have e9 := HPR.out; subst e9; exact htx, hq, hq2]
                    simp [and_assoc]
                    constructor <;> (rintro ⟨rfl, rfl, rfl⟩; exact ⟨rfl, rfl, rfl⟩))
                  have hwk : IntKind.i64.wrap ((kk : Int) + 1) = ((kk + 1 : Nat) : Int) := by rw [IntKind.wrap_i64]; omega
                  clear hq hq2 hr hrV hX9 htx hkL
                  subst hT
                  simp only [List.setIfInBounds_toArray, List.set_cons_zero, List.set_cons_succ]
                  gi_wp2
                  cases q
                  case true =>
                    refine wpIn_region_held_drew (S := (fun u => u.heap = V.heap)) (by kernel_rfl) (by first | exact rfl | assumption) (by kernel_rfl) (fun ⟨_, _, h9⟩ => h9) (fun hHeld => ?_)
                    refine take_at (i := 0) 161 (v := ?_) rfl rfl (by kernel_rfl) (by kernel_rfl) (by kernel_rfl) (fun _ _ _ h => h) (by rfl) ?_ hHeld ?_
                    rotate_left
                    · (intro w hSw; (try dsimp only at hSw); go_simp; try with_reducible rfl)
                    simp only [Act.put, List.setIfInBounds_toArray, List.set_cons_zero, List.set_cons_succ]
                    refine take_at (i := 1) 162 (v := ?_) rfl rfl (by kernel_rfl) (by kernel_rfl) (by kernel_rfl) (fun _ _ _ h => h) (by rfl) ?_ hHeld ?_
                    rotate_left
                    · (intro w hSw; (try dsimp only at hSw); go_simp; try with_reducible rfl)
                    simp only [Act.put, List.setIfInBounds_toArray, List.set_cons_zero, List.set_cons_succ]
                    refine take_at (i := 2) 163 (v := ?_) rfl rfl (by kernel_rfl) (by kernel_rfl) (by kernel_rfl) (fun _ _ _ h => h) (by rfl) ?_ hHeld ?_
                    rotate_left
                    · (intro w hSw; (try dsimp only at hSw); go_simp; try with_reducible rfl)
                    simp only [Act.put, List.setIfInBounds_toArray, List.set_cons_zero, List.set_cons_succ]
                    refine take_at (i := 3) 164 (v := .bool false) rfl rfl (by kernel_rfl) (by kernel_rfl) (by kernel_rfl) (fun _ _ _ h => h) (by rfl) ?_ hHeld ?_
                    · (intro w hSw; (try dsimp only at hSw); go_simp; try (first | (simp; done) | (simp; omega)))
                    simp only [Act.put, List.setIfInBounds_toArray, List.set_cons_zero, List.set_cons_succ]
                    refine take_at (i := 4) 165 (v := ?_) rfl rfl (by kernel_rfl) (by kernel_rfl) (by kernel_rfl) (fun _ _ _ h => h) (by rfl) ?_ hHeld ?_
                    rotate_left
                    · (intro w hSw; (try dsimp only at hSw); go_simp; try with_reducible rfl)
                    simp only [Act.put, List.setIfInBounds_toArray, List.set_cons_zero, List.set_cons_succ]
                    refine take_at (i := 5) 166 (v := sv (x1, x2)) rfl rfl (by kernel_rfl) (by kernel_rfl) (by kernel_rfl) (fun _ _ _ h => h) (by rfl) ?_ hHeld ?_
                    · (intro w hSw; refine exec_load (by rfl) ?_; exact hl3 w hSw)
                    simp only [Act.put, List.setIfInBounds_toArray, List.set_cons_zero, List.set_cons_succ]
                    refine take_at (i := 6) 167 (v := ?_) rfl rfl (by kernel_rfl) (by kernel_rfl) (by kernel_rfl) (fun _ _ _ h => h) (by rfl) ?_ hHeld ?_
                    rotate_left
                    · (intro w hSw; (try dsimp only at hSw); go_simp; try with_reducible rfl)
                    simp only [Act.put, List.setIfInBounds_toArray, List.set_cons_zero, List.set_cons_succ]
                    refine take_at (i := 7) 168 (v := ?_) rfl rfl (by kernel_rfl) (by kernel_rfl) (by kernel_rfl) (fun _ _ _ h => h) (by rfl) ?_ hHeld ?_
                    rotate_left
                    · (intro w hSw; (try dsimp only at hSw); go_simp; try with_reducible rfl)
                    simp only [Act.put, List.setIfInBounds_toArray, List.set_cons_zero, List.set_cons_succ]
                    refine take_at (i := 8) 169 (v := ?_) rfl rfl (by kernel_rfl) (by kernel_rfl) (by kernel_rfl) (fun _ _ _ h => h) (by rfl) ?_ hHeld ?_
                    rotate_left
                    · (intro w hSw; (try dsimp only at hSw); go_simp; try with_reducible rfl)
                    simp only [Act.put, List.setIfInBounds_toArray, List.set_cons_zero, List.set_cons_succ]
                    refine take_at (i := 9) 170 (v := ?_) rfl rfl (by kernel_rfl) (by kernel_rfl) (by kernel_rfl) (fun _ _ _ h => h) (by rfl) ?_ hHeld ?_
                    rotate_left
                    · (intro w hSw; (try dsimp only at hSw); go_simp; try with_reducible rfl)
                    simp only [Act.put, List.setIfInBounds_toArray, List.set_cons_zero, List.set_cons_succ]
                    refine take_at (i := 10) 171 (v := sv (t1, t2)) rfl rfl (by kernel_rfl) (by kernel_rfl) (by kernel_rfl) (fun _ _ _ h => h) (by rfl) ?_ hHeld ?_
                    · (intro w hSw; refine exec_load (by rfl) ?_; exact hl4 w hSw)
                    simp only [Act.put, List.setIfInBounds_toArray, List.set_cons_zero, List.set_cons_succ]
                    refine take_at (i := 11) 172 (v := .bool false) rfl rfl (by kernel_rfl) (by kernel_rfl) (by kernel_rfl) (fun _ _ _ h => h) (by rfl) ?_ hHeld ?_
                    · (intro w hSw; (try dsimp only at hSw); go_simp; obtain ⟨e1, e2⟩ := of_decide_eq_true HQ.out.symm; simp [e1, e2])
                    simp only [Act.put, List.setIfInBounds_toArray, List.set_cons_zero, List.set_cons_succ]
                    refine take_at (i := 12) 173 (v := ?_) rfl rfl (by kernel_rfl) (by kernel_rfl) (by kernel_rfl) (fun _ _ _ h => h) (by rfl) ?_ hHeld ?_
                    rotate_left
                    · (intro w hSw; (try dsimp only at hSw); go_simp; try with_reducible rfl)
                    simp only [Act.put, List.setIfInBounds_toArray, List.set_cons_zero, List.set_cons_succ]
                    refine take_at (i := 13) 174 (v := ?_) rfl rfl (by kernel_rfl) (by kernel_rfl) (by kernel_rfl) (fun _ _ _ h => h) (by rfl) ?_ hHeld ?_
                    rotate_left
                    · (intro w hSw; (try dsimp only at hSw); go_simp; try with_reducible rfl)
                    simp only [Act.put, List.setIfInBounds_toArray, List.set_cons_zero, List.set_cons_succ]
                    refine take_at (i := 14) 175 (v := ?_) rfl rfl (by kernel_rfl) (by kernel_rfl) (by kernel_rfl) (fun _ _ _ h => h) (by rfl) ?_ hHeld ?_
                    rotate_left
                    · (intro w hSw; (try dsimp only at hSw); go_simp; try with_reducible rfl)
                    simp only [Act.put, List.setIfInBounds_toArray, List.set_cons_zero, List.set_cons_succ]
                    refine take_at (i := 15) 176 (v := ?_) rfl rfl (by kernel_rfl) (by kernel_rfl) (by kernel_rfl) (fun _ _ _ h => h) (by rfl) ?_ hHeld ?_
                    rotate_left
                    · (intro w hSw; (try dsimp only at hSw); go_simp; try with_reducible rfl)
                    simp only [Act.put, List.setIfInBounds_toArray, List.set_cons_zero, List.set_cons_succ]
                    refine take_at (i := 16) 177 (v := ?_) rfl rfl (by kernel_rfl) (by kernel_rfl) (by kernel_rfl) (fun _ _ _ h => h) (by rfl) ?_ hHeld ?_
                    rotate_left
                    · (intro w hSw; (try dsimp only at hSw); go_simp; try with_reducible rfl)
                    simp only [Act.put, List.setIfInBounds_toArray, List.set_cons_zero, List.set_cons_succ]
                    refine take_at (i := 17) 178 (v := ?_) rfl rfl (by kernel_rfl) (by kernel_rfl) (by kernel_rfl) (fun _ _ _ h => h) (by rfl) ?_ hHeld ?_
                    rotate_left
                    · (intro w hSw; (try dsimp only at hSw); go_simp; try with_reducible rfl)
                    simp only [Act.put, List.setIfInBounds_toArray, List.set_cons_zero, List.set_cons_succ]
                    refine take_at (i := 18) 179 (v := ?_) rfl rfl (by kernel_rfl) (by kernel_rfl) (by kernel_rfl) (fun _ _ _ h => h) (by rfl) ?_ hHeld ?_
                    rotate_left
                    · (intro w hSw; (try dsimp only at hSw); go_simp; try with_reducible rfl)
                    simp only [Act.put, List.setIfInBounds_toArray, List.set_cons_zero, List.set_cons_succ]
                    refine take_at (i := 19) 180 (v := ?_) rfl rfl (by kernel_rfl) (by kernel_rfl) (by kernel_rfl) (fun _ _ _ h => h) (by rfl) ?_ hHeld ?_
                    rotate_left
                    · (intro w hSw; (try dsimp only at hSw); go_simp; try with_reducible rfl)
                    simp only [Act.put, List.setIfInBounds_toArray, List.set_cons_zero, List.set_cons_succ]
                    refine take_at (i := 20) 181 (v := .bool (!q2)) rfl rfl (by kernel_rfl) (by kernel_rfl) (by kernel_rfl) (fun _ _ _ h => h) (by rfl) ?_ hHeld ?_
                    · (intro w hSw; (try dsimp only at hSw); go_simp; rw [HQ2.out]; by_cases e1 : xn = tn <;> simp [e1, Int.natCast_inj])
                    simp only [Act.put, List.setIfInBounds_toArray, List.set_cons_zero, List.set_cons_succ]
                    refine take_at (i := 21) 182 (v := ?_) rfl rfl (by kernel_rfl) (by kernel_rfl) (by kernel_rfl) (fun _ _ _ h => h) (by rfl) ?_ hHeld ?_
                    rotate_left
                    · (intro w hSw; (try dsimp only at hSw); go_simp; try with_reducible rfl)
                    simp only [Act.put, List.setIfInBounds_toArray, List.set_cons_zero, List.set_cons_succ]
                    refine wpAnyH_done (by kernel_rfl) ?_ _
                    cases q2
                    case true =>
                      have HP9 : Hid (pre ++ [(⟨(x1, x2), xn⟩ : Ent)] <+: U) := HEX.out.2 ⟨rfl, rfl⟩
                      gi_wp2
                      exact ⟨(HRK.out.step _ rfl).1, (HRK.out.step _ rfl).2.1, HP9.out, by rw [List.length_append, HPR.out]; exact (HRK.out.step _ rfl).2.2⟩
                    case false =>
                      have HP9 : Hid (¬ (pre ++ [(⟨(x1, x2), xn⟩ : Ent)] <+: U)) := fun h9 => by have := (HEX.out.1 h9).2; cases this
                      gi_wp2
                      exact ⟨(HRK.out.ret _ rfl).1, (HRK.out.ret _ rfl).2, rfl, HP9.out⟩
                  case false =>
                    have HP9 : Hid (¬ (pre ++ [(⟨(x1, x2), xn⟩ : Ent)] <+: U)) := fun h9 => by have := (HEX.out.1 h9).1; cases this
                    refine wpIn_region_held_drew (S := (fun u => u.heap = V.heap)) (by kernel_rfl) (by first | exact rfl | assumption) (by kernel_rfl) (fun ⟨_, _, h9⟩ => h9) (fun hHeld => ?_)
                    refine take_at (i := 0) 161 (v := ?_) rfl rfl (by kernel_rfl) (by kernel_rfl) (by kernel_rfl) (fun _ _ _ h => h) (by rfl) ?_ hHeld ?_
                    rotate_left
                    · (intro w hSw; (try dsimp only at hSw); go_simp; try with_reducible rfl)
                    simp only [Act.put, List.setIfInBounds_toArray, List.set_cons_zero, List.set_cons_succ]
                    refine take_at (i := 1) 162 (v := ?_) rfl rfl (by kernel_rfl) (by kernel_rfl) (by kernel_rfl) (fun _ _ _ h => h) (by rfl) ?_ hHeld ?_
                    rotate_left
                    · (intro w hSw; (try dsimp only at hSw); go_simp; try with_reducible rfl)
                    simp only [Act.put, List.setIfInBounds_toArray, List.set_cons_zero, List.set_cons_succ]
                    refine take_at (i := 2) 163 (v := ?_) rfl rfl (by kernel_rfl) (by kernel_rfl) (by kernel_rfl) (fun _ _ _ h => h) (by rfl) ?_ hHeld ?_
                    rotate_left
                    · (intro w hSw; (try dsimp only at hSw); go_simp; try with_reducible rfl)
                    simp only [Act.put, List.setIfInBounds_toArray, List.set_cons_zero, List.set_cons_succ]
                    refine take_at (i := 3) 164 (v := .bool false) rfl rfl (by kernel_rfl) (by kernel_rfl) (by kernel_rfl) (fun _ _ _ h => h) (by rfl) ?_ hHeld ?_
                    · (intro w hSw; (try dsimp only at hSw); go_simp; try (first | (simp; done) | (simp; omega)))
                    simp only [Act.put, List.setIfInBounds_toArray, List.set_cons_zero, List.set_cons_succ]
                    refine take_at (i := 4) 165 (v := ?_) rfl rfl (by kernel_rfl) (by kernel_rfl) (by kernel_rfl) (fun _ _ _ h => h) (by rfl) ?_ hHeld ?_
                    rotate_left
                    · (intro w hSw; (try dsimp only at hSw); go_simp; try with_reducible rfl)
                    simp only [Act.put, List.setIfInBounds_toArray, List.set_cons_zero, List.set_cons_succ]
                    refine take_at (i := 5) 166 (v := sv (x1, x2)) rfl rfl (by kernel_rfl) (by kernel_rfl) (by kernel_rfl) (fun _ _ _ h => h) (by rfl) ?_ hHeld ?_
                    · (intro w hSw; refine exec_load (by rfl) ?_; exact hl3 w hSw)
                    simp only [Act.put, List.setIfInBounds_toArray, List.set_cons_zero, List.set_cons_succ]
                    refine take_at (i := 6) 167 (v := ?_) rfl rfl (by kernel_rfl) (by kernel_rfl) (by kernel_rfl) (fun _ _ _ h => h) (by rfl) ?_ hHeld ?_
                    rotate_left
                    · (intro w hSw; (try dsimp only at hSw); go_simp; try with_reducible rfl)
                    simp only [Act.put, List.setIfInBounds_toArray, List.set_cons_zero, List.set_cons_succ]
                    refine take_at (i := 7) 168 (v := ?_) rfl rfl (by kernel_rfl) (by kernel_rfl) (by kernel_rfl) (fun _ _ _ h => h) (by rfl) ?_ hHeld ?_
                    rotate_left
                    · (intro w hSw; (try dsimp only at hSw); go_simp; try with_reducible rfl)
                    simp only [Act.put, List.setIfInBounds_toArray, List.set_cons_zero, List.set_cons_succ]
                    refine take_at (i := 8) 169 (v := ?_) rfl rfl (by kernel_rfl) (by kernel_rfl) (by kernel_rfl) (fun _ _ _ h => h) (by rfl) ?_ hHeld ?_
                    rotate_left
                    · (intro w hSw; (try dsimp only at hSw); go_simp; try with_reducible rfl)
                    simp only [Act.put, List.setIfInBounds_toArray, List.set_cons_zero, List.set_cons_succ]
                    refine take_at (i := 9) 170 (v := ?_) rfl rfl (by kernel_rfl) (by kernel_rfl) (by kernel_rfl) (fun _ _ _ h => h) (by rfl) ?_ hHeld ?_
                    rotate_left
                    · (intro w hSw; (try dsimp only at hSw); go_simp; try with_reducible rfl)
                    simp only [Act.put, List.setIfInBounds_toArray, List.set_cons_zero, List.set_cons_succ]
                    refine take_at (i := 10) 171 (v := sv (t1, t2)) rfl rfl (by kernel_rfl) (by kernel_rfl) (by kernel_rfl) (fun _ _ _ h => h) (by rfl) ?_ hHeld ?_
                    · (intro w hSw; refine exec_load (by rfl) ?_; exact hl4 w hSw)
                    simp only [Act.put, List.setIfInBounds_toArray, List.set_cons_zero, List.set_cons_succ]
                    refine take_at (i := 11) 172 (v := .bool true) rfl rfl (by kernel_rfl) (by kernel_rfl) (by kernel_rfl) (fun _ _ _ h => h) (by rfl) ?_ hHeld ?_
                    · (intro w hSw; (try dsimp only at hSw); go_simp; have e9 := of_decide_eq_false HQ.out.symm; by_cases e1 : x1 = t1 <;> by_cases e2 : x2 = t2 <;> simp_all [Int.natCast_inj])
                    simp only [Act.put, List.setIfInBounds_toArray, List.set_cons_zero, List.set_cons_succ]
                    refine take_at (i := 12) 173 (v := ?_) rfl rfl (by kernel_rfl) (by kernel_rfl) (by kernel_rfl) (fun _ _ _ h => h) (by rfl) ?_ hHeld ?_
                    rotate_left
                    · (intro w hSw; (try dsimp only at hSw); go_simp; try with_reducible rfl)
                    simp only [Act.put, List.setIfInBounds_toArray, List.set_cons_zero, List.set_cons_succ]
                    refine take_at (i := 13) 174 (v := ?_) rfl rfl (by kernel_rfl) (by kernel_rfl) (by kernel_rfl) (fun _ _ _ h => h) (by rfl) ?_ hHeld ?_
                    rotate_left
                    · (intro w hSw; (try dsimp only at hSw); go_simp; try with_reducible rfl)
                    simp only [Act.put, List.setIfInBounds_toArray, List.set_cons_zero, List.set_cons_succ]
                    refine skip_at (i := 14) 175 rfl rfl (by kernel_rfl) (by kernel_rfl) (by kernel_rfl) (fun _ _ _ h => h) (by rfl) hHeld ?_
                    simp only [Act.put, List.setIfInBounds_toArray, List.set_cons_zero, List.set_cons_succ]
                    refine skip_at (i := 15) 176 rfl rfl (by kernel_rfl) (by kernel_rfl) (by kernel_rfl) (fun _ _ _ h => h) (by rfl) hHeld ?_
                    simp only [Act.put, List.setIfInBounds_toArray, List.set_cons_zero, List.set_cons_succ]
                    refine skip_at (i := 16) 177 rfl rfl (by kernel_rfl) (by kernel_rfl) (by kernel_rfl) (fun _ _ _ h => h) (by rfl) hHeld ?_
                    simp only [Act.put, List.setIfInBounds_toArray, List.set_cons_zero, List.set_cons_succ]
                    refine skip_at (i := 17) 178 rfl rfl (by kernel_rfl) (by kernel_rfl) (by kernel_rfl) (fun _ _ _ h => h) (by rfl) hHeld ?_
                    simp only [Act.put, List.setIfInBounds_toArray, List.set_cons_zero, List.set_cons_succ]
                    refine skip_at (i := 18) 179 rfl rfl (by kernel_rfl) (by kernel_rfl) (by kernel_rfl) (fun _ _ _ h => h) (by rfl) hHeld ?_
                    simp only [Act.put, List.setIfInBounds_toArray, List.set_cons_zero, List.set_cons_succ]
                    refine skip_at (i := 19) 180 rfl rfl (by kernel_rfl) (by kernel_rfl) (by kernel_rfl) (fun _ _ _ h => h) (by rfl) hHeld ?_
                    simp only [Act.put, List.setIfInBounds_toArray, List.set_cons_zero, List.set_cons_succ]
                    refine skip_at (i := 20) 181 rfl rfl (by kernel_rfl) (by kernel_rfl) (by kernel_rfl) (fun _ _ _ h => h) (by rfl) hHeld ?_
                    simp only [Act.put, List.setIfInBounds_toArray, List.set_cons_zero, List.set_cons_succ]
                    refine take_at (i := 21) 182 (v := ?_) rfl rfl (by kernel_rfl) (by kernel_rfl) (by kernel_rfl) (fun _ _ _ h => h) (by rfl) ?_ hHeld ?_
                    rotate_left
                    · (intro w hSw; (try dsimp only at hSw); go_simp; try with_reducible rfl)
                    simp only [Act.put, List.setIfInBounds_toArray, List.set_cons_zero, List.set_cons_succ]
                    refine wpAnyH_done (by kernel_rfl) ?_ _
                    gi_wp2
                    exact ⟨(HRK.out.ret _ rfl).1, (HRK.out.ret _ rfl).2, rfl, HP9.out⟩
                · exact absurd hlt hkL
              case stop =>
                rintro D9 c pre Z V hD hpre ⟨-, hno⟩ hK
                exact absurd hpre hno
              case done =>
                rintro Dz ys Z Vz hDz hys ⟨hpre, hR⟩ hK
                obtain rfl : U = ys := hys.symm
                subst hT
                have HBV : Hid (Below E w6 Vz) := hR.bel HBz.out (by omega) hEz
                have HCV : Hid (Vz.heap[C]? = some (.cells #[.int .i64 (mu : Int)] 3 (0, 0))) := (show _ = _ by rw [HMU.out]; exact hR.x)
                have HDV : Hid (Vz.heap[Dz]? = some (.deferred (some []))) := hK
                have HVZ : Hid (z.heap.size ≤ Vz.heap.size) := hR.g.size
                have HCD : Hid (C < z.heap.size) := (Array.getElem?_eq_some_iff.1 HCz.out).1
                have HLD : Hid (Dz < Vz.heap.size) := (Array.getElem?_eq_some_iff.1 hK).1
                obtain ⟨C2, hC2⟩ : ∃ C2, C2 = Vz.heap.size := ⟨_, rfl⟩
                obtain ⟨w14, hw14⟩ : ∃ Y : World, Y = Vz.alloc (.cells #[.int .i64 0] 3) := ⟨_, rfl⟩
                have hEC2 : E ≤ C2 := by have := HVZ.out; omega
                have HB14 : Hid (Below E w6 w14) := (show Below E w6 w14 by rw [hw14]; exact HBV.out.alloc (by omega) _)
                have HC14 : Hid (w14.heap[C2]? = some (.cells #[.int .i64 0] 3 (0, 0))) := (show _ = _ by rw [hw14, hC2]; exact heap_alloc_new Vz _)
                have HO14 : Hid (∀ k9, k9 < C2 → w14.heap[k9]? = Vz.heap[k9]?) := (fun k9 h9 => by rw [hw14]; exact Below.heap_alloc Vz _ k9 (by omega))
                have HZ14 : Hid (w14.heap.size = C2 + 1) := (show _ = _ by rw [hw14, hC2]; simp)
                have hld : (Vz.alloc (.cells #[.int .i64 0] 3)).rangeAt B0 0 (sc (s1, s2)) := by rw [← hw14]; exact (HSW.out _ HB14.out).rs
                have HC2 : Hid (C2 = Vz.heap.size) := hC2
                have HDZ : Hid (z.heap.size ≤ Dz) := hDz
                clear hpre hR hK hys hDz HKz HSz HSQ
                dsimp only
                go_wp2_with (first | (refine wpList_load_mid rfl tSt _ rfl B0 0 rfl (sc (s1, s2)) _ hld Try.underlying34 rfl info_st ?_))
                rw [← hw14]
                simp only [← hC2]
                clear hld hw14 hC2
                have HUP : Hid _ := down_t (.pointer (some ⟨G, 0, none⟩)) rfl (some ⟨G, 0, none⟩) rfl s1 s2 w14
                refine Calls.mono HUP.out ?_
                rintro e y ⟨rfl, hz⟩
                obtain ⟨gxy, hgx⟩ : ∃ gx, gx = w14.heap.size := ⟨_, rfl⟩
                have HBy : Hid (Below E w6 y) := (show Below E w6 y by rw [hz]; exact (HB14.out.alloc (by have := HB14.out.size; rw [← HE.out] at this; omega) _).alloc (by have := HB14.out.size; rw [← HE.out] at this; simp; omega) _)
                have ht2 := two_new w14 (.cells #[.pointer (some ⟨G, 0, none⟩)] 29) (.cells #[.int .u64 (s1 : Int), .int .u64 (s2 : Int)] tSt)
                rw [← hz, ← hgx] at ht2
                have hcx : y.cell? ⟨gxy, 0, none⟩ = some (.pointer (some ⟨G, 0, none⟩)) := by rw [cell_of_row _ _ _ _ _ _ ht2.1]; rfl
                have hcs : y.rangeAt (gxy + 1) 0 (sc (s1, s2)) := box_range ht2.2
                have HCy : Hid (y.heap[C2]? = some (.cells #[.int .i64 0] 3 (0, 0))) := (show _ = _ by rw [hz]; exact ((al (al (Below.refl w14.heap.size w14) _) _).block C2 (Array.getElem?_eq_some_iff.1 HC14.out).1).trans HC14.out)
                have HKy : Hid (∀ k9, k9 < w14.heap.size → y.heap[k9]? = w14.heap[k9]?) := (fun k9 h9 => by rw [hz]; exact (al (al (Below.refl w14.heap.size w14) _) _).block k9 h9)
                have HSy : Hid (w14.heap.size ≤ y.heap.size) := (show _ ≤ _ by rw [hz]; simp; omega)
                have HSQ : Hid (SeqG Fence.wide 11 Try.prog 56 #[.pointer (some ⟨gxy, 0, none⟩), .pointer (some ⟨gxy + 1, 0, none⟩)] encU (EntB y) (fun xs => xs = D) (fun pre => pre <+: D) 1125899906842624 y) := (show SeqG Fence.wide 11 Try.prog 56 #[.pointer (some ⟨gxy, 0, none⟩), .pointer (some ⟨gxy + 1, 0, none⟩)] encU (EntB y) (fun xs => xs = D) (fun pre => pre <+: D) 1125899906842624 y by
                  have h9 := down_any 11 (by decide) gxy (gxy + 1) s1 s2 (HSW.out y HBy.out).idx HT.out hS64 (by omega) hcx hcs
                  rw [← HD.out] at h9
                  exact h9)
                have hEy : E ≤ y.heap.size := by rw [HE.out]; exact HBy.out.size
                have hRy : B0 + 1 < y.heap.size := by omega
                rw [← hgx]
                clear hz hgx ht2 hcx hcs HUP
                go_wp2_with fail
                refine (wpIn_wide (n := 12)).1 ?_
                refine name_act ?_
                intro T2 hT2
                refine wpIn_rangeFunc_G rfl (by decide) (gf := 56) (lb := #[.pointer (some ⟨gxy, 0, none⟩), .pointer (some ⟨gxy + 1, 0, none⟩)]) (by subst hT2; rfl) trivial (enters_of Try.func56 (by kernel_rfl) rfl) HSQ.out (fun k hk => hk.1) (fun _ => rfl)
                  (fun pre Z V => pre <+: D ∧ Rng y V C2 (B0 + 1) Z pre.length)
                  (fun c pre Z V => c = .ret ∧ ¬ pre <+: D)
                  ⟨fun s Z V V' row hs hg hr => ⟨hs.1, hs.2.grow hRy hg hr⟩, fun s Z Z' V hs hz => ⟨hs.1, hs.2.less hz⟩⟩
                  (fun c => ⟨fun s Z V V' row hs _ _ => hs, fun s Z Z' V hs _ => hs⟩)
                  ⟨List.nil_prefix, Rng.init HCy.out (HSW.out y HBy.out).br⟩
                  (fun x a' V => ∃ Bx, y.heap.size ≤ Bx ∧ V.heap[Bx]? = some (.cells #[.int .u64 (x.st.1 : Int), .int .u64 (x.st.2 : Int)] tSt (0, 0)) ∧ a' = { tmps := (((T2.setIfInBounds 188 (sv x.st)).setIfInBounds 189 x.v).setIfInBounds 21 (.pointer (some ⟨Bx, 0, none⟩))).setIfInBounds 22 x.v, defers := [] })
                  (fun x a' s A B row hs hg hr => by obtain ⟨Bx, h1, h2, h3⟩ := hs; exact ⟨Bx, h1, heap_kept h2 hg (fun r e => (hr r e).2), h3⟩)
                  ?assign ?body ?done ?stop
                case assign =>
                  rintro l pre Z ⟨⟨x1, x2⟩, xn⟩ V K ⟨hpre, hR⟩ hK
                  subst hT2
                  simp only [fold2, List.setIfInBounds_toArray, List.set_cons_zero, List.set_cons_succ]
                  gi_wp2
                  exact hK _ _ ((KeepsOthers.alloc _ _).from _) (fun k hk => Below.heap_alloc V _ k (hR.zl k hk)) ⟨hpre, hR.alloc hRy _⟩ ⟨V.heap.size, hR.g.size, heap_alloc_new V _, rfl⟩
                case body =>
                  rintro l pre Z ⟨⟨x1, x2⟩, xn⟩ a' V hl hlr ⟨hpre, hR⟩ ⟨Bx, hBx, hX9, rfl⟩ hlt
                  obtain ⟨kk, hkk⟩ : ∃ kk, kk = pre.length := ⟨_, rfl⟩
                  rw [← hkk] at hR hlt
                  have hVb : Below E w6 V := hR.bel HBy.out (by omega) hEy
                  have hcV : ∀ u : World, u.heap = V.heap → ∀ ad9 : Addr, u.cell? ad9 = V.cell? ad9 := fun u hu ad9 => by simp [World.cell?, hu]
                  have hA2 : ∀ u : World, u.heap = V.heap → u.cell? ⟨C2, 0, none⟩ = some (.int .i64 (kk : Int)) := fun u hu => by rw [hcV u hu, cell_of_row _ _ _ _ _ _ hR.x]; rfl
                  have hl3 : ∀ u : World, u.heap = V.heap → (Instr.loadAt tSt (.pointer (some ⟨Bx, 0, none⟩))).run Try.prog u = .ok (sv (x1, x2)) u := fun u hu => load_st u _ _ (x1, x2) (fun j9 v9 hv9 => (hcV u hu _).trans (box_range hX9 j9 v9 hv9))
                  have hc2 : V.cell? ⟨C2, 0, none⟩ = some (.int .i64 (kk : Int)) := hA2 V rfl
                  have hf2 : V.frozen? ⟨C2, 0, none⟩ = false := by simp [World.frozen?, hR.x]
                  have hbr := (HSW.out V hVb).br
                  have hc1 : V.cell? ⟨B0 + 1, 0, none⟩ = some (.bool false) := by rw [cell_of_row _ _ _ _ _ _ hbr]; rfl
                  have hf1 : V.frozen? ⟨B0 + 1, 0, none⟩ = false := by simp [World.frozen?, hbr]
                  have hA0 : ∀ u : World, u.heap = V.heap → u.cell? ⟨H + 1, 0, none⟩ = some (.slice ad md cd) := fun u hu => by rw [hcV u hu]; exact (HSW.out V hVb).cd
                  have HRK : Hid (Rng y V C2 (B0 + 1) Z kk) := hR
                  have HPR : Hid (pre.length = kk) := hkk.symm
                  have HPE : Hid (pre <+: D) := hpre
                  have HVB : Hid (Below E w6 V) := hVb
                  clear hkk hR hbr hpre hVb
                  by_cases hkL : kk < D.length
                  · obtain ⟨b, o, rfl, hr⟩ := HRD.out kk hkL
                    obtain ⟨t1, t2, tn, htx⟩ : ∃ t1 t2 tn, D[kk] = ⟨(t1, t2), tn⟩ := ⟨_, _, _, rfl⟩
                    rw [htx] at hr
                    have hrV := hr V HVB.out
                    have hA5 : ∀ u : World, u.heap = V.heap → u.cell? ⟨b, o + kk * 3 + 2, none⟩ = some (.int .u64 (tn : Int)) := fun u hu => by rw [hcV u hu]; exact hrV 2 _ rfl
                    have hl4 : ∀ u : World, u.heap = V.heap → (Instr.loadAt tSt (.pointer (some ⟨b, o + kk * 3, none⟩))).run Try.prog u = .ok (sv (t1, t2)) u := fun u hu => load_st u _ _ (t1, t2) (fun j9 v9 hv9 => (hcV u hu _).trans (range_st (e := ⟨(t1, t2), tn⟩) hrV j9 v9 hv9))
                    have hkm : kk < md := by have := HMD.out; omega
                    have hki : (kk : Int) < (md : Int) := by omega
                    have hkge : ¬ ((md : Int) ≤ (kk : Int)) := by omega
                    have hk0 : (0 : Int) ≤ (kk : Int) := by omega
                    obtain ⟨q, hq⟩ : ∃ q : Bool, q = decide (x1 = t1 ∧ x2 = t2) := ⟨_, rfl⟩
                    have HQ : Hid (q = decide (x1 = t1 ∧ x2 = t2)) := hq
                    obtain ⟨q2, hq2⟩ : ∃ q2 : Bool, q2 = decide (xn = tn) := ⟨_, rfl⟩
                    have HQ2 : Hid (q2 = decide (xn = tn)) := hq2
                    have HEX : Hid ((pre ++ [(⟨(x1, x2), xn⟩ : Ent)] <+: D) ↔ (q = true ∧ q2 = true)) := (show _ ↔ _ by
                      have hkL2 : pre.length < D.length := by have := HPR.out; omega
                      rw [pre_snoc HPE.out hkL2, show D[pre.length] = ⟨(t1, t2), tn⟩ by have e9 := HPR.out; subst e9; exact htx, hq, hq2]
                      simp [and_assoc]
                      constructor <;> (rintro ⟨rfl, rfl, rfl⟩; exact ⟨rfl, rfl, rfl⟩))
                    have hwk : IntKind.i64.wrap ((kk : Int) + 1) = ((kk + 1 : Nat) : Int) := by rw [IntKind.wrap_i64]; omega
                    clear hq hq2 hr hrV hX9 htx hkL
                    subst hT2
                    simp only [List.setIfInBounds_toArray, List.set_cons_zero, List.set_cons_succ]
                    gi_wp2
                    cases q
                    case true =>
                      refine wpIn_region_held_drew (S := (fun u => u.heap = V.heap)) (by kernel_rfl) (by first | exact rfl | assumption) (by kernel_rfl) (fun ⟨_, _, h9⟩ => h9) (fun hHeld => ?_)
                      refine take_at (i := 0) 190 (v := ?_) rfl rfl (by kernel_rfl) (by kernel_rfl) (by kernel_rfl) (fun _ _ _ h => h) (by rfl) ?_ hHeld ?_
                      rotate_left
                      · (intro w hSw; (try dsimp only at hSw); go_simp; try with_reducible rfl)
                      simp only [Act.put, List.setIfInBounds_toArray, List.set_cons_zero, List.set_cons_succ]
                      refine take_at (i := 1) 191 (v := ?_) rfl rfl (by kernel_rfl) (by kernel_rfl) (by kernel_rfl) (fun _ _ _ h => h) (by rfl) ?_ hHeld ?_
                      rotate_left
                      · (intro w hSw; (try dsimp only at hSw); go_simp; try with_reducible rfl)
                      simp only [Act.put, List.setIfInBounds_toArray, List.set_cons_zero, List.set_cons_succ]
                      refine take_at (i := 2) 192 (v := ?_) rfl rfl (by kernel_rfl) (by kernel_rfl) (by kernel_rfl) (fun _ _ _ h => h) (by rfl) ?_ hHeld ?_
                      rotate_left
                      · (intro w hSw; (try dsimp only at hSw); go_simp; try with_reducible rfl)
                      simp only [Act.put, List.setIfInBounds_toArray, List.set_cons_zero, List.set_cons_succ]
                      refine take_at (i := 3) 193 (v := .bool false) rfl rfl (by kernel_rfl) (by kernel_rfl) (by kernel_rfl) (fun _ _ _ h => h) (by rfl) ?_ hHeld ?_
                      · (intro w hSw; (try dsimp only at hSw); go_simp; try (first | (simp; done) | (simp; omega)))
                      simp only [Act.put, List.setIfInBounds_toArray, List.set_cons_zero, List.set_cons_succ]
                      refine take_at (i := 4) 194 (v := ?_) rfl rfl (by kernel_rfl) (by kernel_rfl) (by kernel_rfl) (fun _ _ _ h => h) (by rfl) ?_ hHeld ?_
                      rotate_left
                      · (intro w hSw; (try dsimp only at hSw); go_simp; try with_reducible rfl)
                      simp only [Act.put, List.setIfInBounds_toArray, List.set_cons_zero, List.set_cons_succ]
                      refine take_at (i := 5) 195 (v := sv (x1, x2)) rfl rfl (by kernel_rfl) (by kernel_rfl) (by kernel_rfl) (fun _ _ _ h => h) (by rfl) ?_ hHeld ?_
                      · (intro w hSw; refine exec_load (by rfl) ?_; exact hl3 w hSw)
                      simp only [Act.put, List.setIfInBounds_toArray, List.set_cons_zero, List.set_cons_succ]
                      refine take_at (i := 6) 196 (v := ?_) rfl rfl (by kernel_rfl) (by kernel_rfl) (by kernel_rfl) (fun _ _ _ h => h) (by rfl) ?_ hHeld ?_
                      rotate_left
                      · (intro w hSw; (try dsimp only at hSw); go_simp; try with_reducible rfl)
                      simp only [Act.put, List.setIfInBounds_toArray, List.set_cons_zero, List.set_cons_succ]
                      refine take_at (i := 7) 197 (v := ?_) rfl rfl (by kernel_rfl) (by kernel_rfl) (by kernel_rfl) (fun _ _ _ h => h) (by rfl) ?_ hHeld ?_
                      rotate_left
                      · (intro w hSw; (try dsimp only at hSw); go_simp; try with_reducible rfl)
                      simp only [Act.put, List.setIfInBounds_toArray, List.set_cons_zero, List.set_cons_succ]
                      refine take_at (i := 8) 198 (v := ?_) rfl rfl (by kernel_rfl) (by kernel_rfl) (by kernel_rfl) (fun _ _ _ h => h) (by rfl) ?_ hHeld ?_
                      rotate_left
                      · (intro w hSw; (try dsimp only at hSw); go_simp; try with_reducible rfl)
                      simp only [Act.put, List.setIfInBounds_toArray, List.set_cons_zero, List.set_cons_succ]
                      refine take_at (i := 9) 199 (v := ?_) rfl rfl (by kernel_rfl) (by kernel_rfl) (by kernel_rfl) (fun _ _ _ h => h) (by rfl) ?_ hHeld ?_
                      rotate_left
                      · (intro w hSw; (try dsimp only at hSw); go_simp; try with_reducible rfl)
                      simp only [Act.put, List.setIfInBounds_toArray, List.set_cons_zero, List.set_cons_succ]
                      refine take_at (i := 10) 200 (v := sv (t1, t2)) rfl rfl (by kernel_rfl) (by kernel_rfl) (by kernel_rfl) (fun _ _ _ h => h) (by rfl) ?_ hHeld ?_
                      · (intro w hSw; refine exec_load (by rfl) ?_; exact hl4 w hSw)
                      simp only [Act.put, List.setIfInBounds_toArray, List.set_cons_zero, List.set_cons_succ]
                      refine take_at (i := 11) 201 (v := .bool false) rfl rfl (by kernel_rfl) (by kernel_rfl) (by kernel_rfl) (fun _ _ _ h => h) (by rfl) ?_ hHeld ?_
                      · (intro w hSw; (try dsimp only at hSw); go_simp; obtain ⟨e1, e2⟩ := of_decide_eq_true HQ.out.symm; simp [e1, e2])
                      simp only [Act.put, List.setIfInBounds_toArray, List.set_cons_zero, List.set_cons_succ]
                      refine take_at (i := 12) 202 (v := ?_) rfl rfl (by kernel_rfl) (by kernel_rfl) (by kernel_rfl) (fun _ _ _ h => h) (by rfl) ?_ hHeld ?_
                      rotate_left
                      · (intro w hSw; (try dsimp only at hSw); go_simp; try with_reducible rfl)
                      simp only [Act.put, List.setIfInBounds_toArray, List.set_cons_zero, List.set_cons_succ]
                      refine take_at (i := 13) 203 (v := ?_) rfl rfl (by kernel_rfl) (by kernel_rfl) (by kernel_rfl) (fun _ _ _ h => h) (by rfl) ?_ hHeld ?_
                      rotate_left
                      · (intro w hSw; (try dsimp only at hSw); go_simp; try with_reducible rfl)
                      simp only [Act.put, List.setIfInBounds_toArray, List.set_cons_zero, List.set_cons_succ]
                      refine take_at (i := 14) 204 (v := ?_) rfl rfl (by kernel_rfl) (by kernel_rfl) (by kernel_rfl) (fun _ _ _ h => h) (by rfl) ?_ hHeld ?_
                      rotate_left
                      · (intro w hSw; (try dsimp only at hSw); go_simp; try with_reducible rfl)
                      simp only [Act.put, List.setIfInBounds_toArray, List.set_cons_zero, List.set_cons_succ]
                      refine take_at (i := 15) 205 (v := ?_) rfl rfl (by kernel_rfl) (by kernel_rfl) (by kernel_rfl) (fun _ _ _ h => h) (by rfl) ?_ hHeld ?_
                      rotate_left
                      · (intro w hSw; (try dsimp only at hSw); go_simp; try with_reducible rfl)
                      simp only [Act.put, List.setIfInBounds_toArray, List.set_cons_zero, List.set_cons_succ]
                      refine take_at (i := 16) 206 (v := ?_) rfl rfl (by kernel_rfl) (by kernel_rfl) (by kernel_rfl) (fun _ _ _ h => h) (by rfl) ?_ hHeld ?_
                      rotate_left
                      · (intro w hSw; (try dsimp only at hSw); go_simp; try with_reducible rfl)
                      simp only [Act.put, List.setIfInBounds_toArray, List.set_cons_zero, List.set_cons_succ]
                      refine take_at (i := 17) 207 (v := ?_) rfl rfl (by kernel_rfl) (by kernel_rfl) (by kernel_rfl) (fun _ _ _ h => h) (by rfl) ?_ hHeld ?_
                      rotate_left
                      · (intro w hSw; (try dsimp only at hSw); go_simp; try with_reducible rfl)
                      simp only [Act.put, List.setIfInBounds_toArray, List.set_cons_zero, List.set_cons_succ]
                      refine take_at (i := 18) 208 (v := ?_) rfl rfl (by kernel_rfl) (by kernel_rfl) (by kernel_rfl) (fun _ _ _ h => h) (by rfl) ?_ hHeld ?_
                      rotate_left
                      · (intro w hSw; (try dsimp only at hSw); go_simp; try with_reducible rfl)
                      simp only [Act.put, List.setIfInBounds_toArray, List.set_cons_zero, List.set_cons_succ]
                      refine take_at (i := 19) 209 (v := ?_) rfl rfl (by kernel_rfl) (by kernel_rfl) (by kernel_rfl) (fun _ _ _ h => h) (by rfl) ?_ hHeld ?_
                      rotate_left
                      · (intro w hSw; (try dsimp only at hSw); go_simp; try with_reducible rfl)
                      simp only [Act.put, List.setIfInBounds_toArray, List.set_cons_zero, List.set_cons_succ]
                      refine take_at (i := 20) 210 (v := .bool (!q2)) rfl rfl (by kernel_rfl) (by kernel_rfl) (by kernel_rfl) (fun _ _ _ h => h) (by rfl) ?_ hHeld ?_
                      · (intro w hSw; (try dsimp only at hSw); go_simp; rw [HQ2.out]; by_cases e1 : xn = tn <;> simp [e1, Int.natCast_inj])
                      simp only [Act.put, List.setIfInBounds_toArray, List.set_cons_zero, List.set_cons_succ]
                      refine take_at (i := 21) 211 (v := ?_) rfl rfl (by kernel_rfl) (by kernel_rfl) (by kernel_rfl) (fun _ _ _ h => h) (by rfl) ?_ hHeld ?_
                      rotate_left
                      · (intro w hSw; (try dsimp only at hSw); go_simp; try with_reducible rfl)
                      simp only [Act.put, List.setIfInBounds_toArray, List.set_cons_zero, List.set_cons_succ]
                      refine wpAnyH_done (by kernel_rfl) ?_ _
                      cases q2
                      case true =>
                        have HP9 : Hid (pre ++ [(⟨(x1, x2), xn⟩ : Ent)] <+: D) := HEX.out.2 ⟨rfl, rfl⟩
                        gi_wp2
                        exact ⟨(HRK.out.step _ rfl).1, (HRK.out.step _ rfl).2.1, HP9.out, by rw [List.length_append, HPR.out]; exact (HRK.out.step _ rfl).2.2⟩
                      case false =>
                        have HP9 : Hid (¬ (pre ++ [(⟨(x1, x2), xn⟩ : Ent)] <+: D)) := fun h9 => by have := (HEX.out.1 h9).2; cases this
                        gi_wp2
                        exact ⟨(HRK.out.ret _ rfl).1, (HRK.out.ret _ rfl).2, rfl, HP9.out⟩
                    case false =>
                      have HP9 : Hid (¬ (pre ++ [(⟨(x1, x2), xn⟩ : Ent)] <+: D)) := fun h9 => by have := (HEX.out.1 h9).1; cases this
                      refine wpIn_region_held_drew (S := (fun u => u.heap = V.heap)) (by kernel_rfl) (by first | exact rfl | assumption) (by kernel_rfl) (fun ⟨_, _, h9⟩ => h9) (fun hHeld => ?_)
                      refine take_at (i := 0) 190 (v := ?_) rfl rfl (by kernel_rfl) (by kernel_rfl) (by kernel_rfl) (fun _ _ _ h => h) (by rfl) ?_ hHeld ?_
                      rotate_left
                      · (intro w hSw; (try dsimp only at hSw); go_simp; try with_reducible rfl)
                      simp only [Act.put, List.setIfInBounds_toArray, List.set_cons_zero, List.set_cons_succ]
                      refine take_at (i := 1) 191 (v := ?_) rfl rfl (by kernel_rfl) (by kernel_rfl) (by kernel_rfl) (fun _ _ _ h => h) (by rfl) ?_ hHeld ?_
                      rotate_left
                      · (intro w hSw; (try dsimp only at hSw); go_simp; try with_reducible rfl)
                      simp only [Act.put, List.setIfInBounds_toArray, List.set_cons_zero, List.set_cons_succ]
                      refine take_at (i := 2) 192 (v := ?_) rfl rfl (by kernel_rfl) (by kernel_rfl) (by kernel_rfl) (fun _ _ _ h => h) (by rfl) ?_ hHeld ?_
                      rotate_left
                      · (intro w hSw; (try dsimp only at hSw); go_simp; try with_reducible rfl)
                      simp only [Act.put, List.setIfInBounds_toArray, List.set_cons_zero, List.set_cons_succ]
                      refine take_at (i := 3) 193 (v := .bool false) rfl rfl (by kernel_rfl) (by kernel_rfl) (by kernel_rfl) (fun _ _ _ h => h) (by rfl) ?_ hHeld ?_
                      · (intro w hSw; (try dsimp only at hSw); go_simp; try (first | (simp; done) | (simp; omega)))
                      simp only [Act.put, List.setIfInBounds_toArray, List.set_cons_zero, List.set_cons_succ]
                      refine take_at (i := 4) 194 (v := ?_) rfl rfl (by kernel_rfl) (by kernel_rfl) (by kernel_rfl) (fun _ _ _ h => h) (by rfl) ?_ hHeld ?_
                      rotate_left
                      · (intro w hSw; (try dsimp only at hSw); go_simp; try with_reducible rfl)
                      simp only [Act.put, List.setIfInBounds_toArray, List.set_cons_zero, List.set_cons_succ]
                      refine take_at (i := 5) 195 (v := sv (x1, x2)) rfl rfl (by kernel_rfl) (by kernel_rfl) (by kernel_rfl) (fun _ _ _ h => h) (by rfl) ?_ hHeld ?_
                      · (intro w hSw; refine exec_load (by rfl) ?_; exact hl3 w hSw)
                      simp only [Act.put, List.setIfInBounds_toArray, List.set_cons_zero, List.set_cons_succ]
                      refine take_at (i := 6) 196 (v := ?_) rfl rfl (by kernel_rfl) (by kernel_rfl) (by kernel_rfl) (fun _ _ _ h => h) (by rfl) ?_ hHeld ?_
                      rotate_left
                      · (intro w hSw; (try dsimp only at hSw); go_simp; try with_reducible rfl)
                      simp only [Act.put, List.setIfInBounds_toArray, List.set_cons_zero, List.set_cons_succ]
                      refine take_at (i := 7) 197 (v := ?_) rfl rfl (by kernel_rfl) (by kernel_rfl) (by kernel_rfl) (fun _ _ _ h => h) (by rfl) ?_ hHeld ?_
                      rotate_left
                      · (intro w hSw; (try dsimp only at hSw); go_simp; try with_reducible rfl)
                      simp only [Act.put, List.setIfInBounds_toArray, List.set_cons_zero, List.set_cons_succ]
                      refine take_at (i := 8) 198 (v := ?_) rfl rfl (by kernel_rfl) (by kernel_rfl) (by kernel_rfl) (fun _ _ _ h => h) (by rfl) ?_ hHeld ?_
                      rotate_left
                      · (intro w hSw; (try dsimp only at hSw); go_simp; try with_reducible rfl)
                      simp only [Act.put, List.setIfInBounds_toArray, List.set_cons_zero, List.set_cons_succ]
                      refine take_at (i := 9) 199 (v := ?_) rfl rfl (by kernel_rfl) (by kernel_rfl) (by kernel_rfl) (fun _ _ _ h => h) (by rfl) ?_ hHeld ?_
                      rotate_left
                      · (intro w hSw; (try dsimp only at hSw); go_simp; try with_reducible rfl)
                      simp only [Act.put, List.setIfInBounds_toArray, List.set_cons_zero, List.set_cons_succ]
                      refine take_at (i := 10) 200 (v := sv (t1, t2)) rfl rfl (by kernel_rfl) (by kernel_rfl) (by kernel_rfl) (fun _ _ _ h => h) (by rfl) ?_ hHeld ?_
                      · (intro w hSw; refine exec_load (by rfl) ?_; exact hl4 w hSw)
                      simp only [Act.put, List.setIfInBounds_toArray, List.set_cons_zero, List.set_cons_succ]
                      refine take_at (i := 11) 201 (v := .bool true) rfl rfl (by kernel_rfl) (by kernel_rfl) (by kernel_rfl) (fun _ _ _ h => h) (by rfl) ?_ hHeld ?_
                      · (intro w hSw; (try dsimp only at hSw); go_simp; have e9 := of_decide_eq_false HQ.out.symm; by_cases e1 : x1 = t1 <;> by_cases e2 : x2 = t2 <;> simp_all [Int.natCast_inj])
                      simp only [Act.put, List.setIfInBounds_toArray, List.set_cons_zero, List.set_cons_succ]
                      refine take_at (i := 12) 202 (v := ?_) rfl rfl (by kernel_rfl) (by kernel_rfl) (by kernel_rfl) (fun _ _ _ h => h) (by rfl) ?_ hHeld ?_
                      rotate_left
                      · (intro w hSw; (try dsimp only at hSw); go_simp; try with_reducible rfl)
                      simp only [Act.put, List.setIfInBounds_toArray, List.set_cons_zero, List.set_cons_succ]
                      refine take_at (i := 13) 203 (v := ?_) rfl rfl (by kernel_rfl) (by kernel_rfl) (by kernel_rfl) (fun _ _ _ h => h) (by rfl) ?_ hHeld ?_
                      rotate_left
                      · (intro w hSw; (try dsimp only at hSw); go_simp; try with_reducible rfl)
                      simp only [Act.put, List.setIfInBounds_toArray, List.set_cons_zero, List.set_cons_succ]
                      refine skip_at (i := 14) 204 rfl rfl (by kernel_rfl) (by kernel_rfl) (by kernel_rfl) (fun _ _ _ h => h) (by rfl) hHeld ?_
                      simp only [Act.put, List.setIfInBounds_toArray, List.set_cons_zero, List.set_cons_succ]
                      refine skip_at (i := 15) 205 rfl rfl (by kernel_rfl) (by kernel_rfl) (by kernel_rfl) (fun _ _ _ h => h) (by rfl) hHeld ?_
                      simp only [Act.put, List.setIfInBounds_toArray, List.set_cons_zero, List.set_cons_succ]
                      refine skip_at (i := 16) 206 rfl rfl (by kernel_rfl) (by kernel_rfl) (by kernel_rfl) (fun _ _ _ h => h) (by rfl) hHeld ?_
                      simp only [Act.put, List.setIfInBounds_toArray, List.set_cons_zero, List.set_cons_succ]
                      refine skip_at (i := 17) 207 rfl rfl (by kernel_rfl) (by kernel_rfl) (by kernel_rfl) (fun _ _ _ h => h) (by rfl) hHeld ?_
                      simp only [Act.put, List.setIfInBounds_toArray, List.set_cons_zero, List.set_cons_succ]
                      refine skip_at (i := 18) 208 rfl rfl (by kernel_rfl) (by kernel_rfl) (by kernel_rfl) (fun _ _ _ h => h) (by rfl) hHeld ?_
                      simp only [Act.put, List.setIfInBounds_toArray, List.set_cons_zero, List.set_cons_succ]
                      refine skip_at (i := 19) 209 rfl rfl (by kernel_rfl) (by kernel_rfl) (by kernel_rfl) (fun _ _ _ h => h) (by rfl) hHeld ?_
                      simp only [Act.put, List.setIfInBounds_toArray, List.set_cons_zero, List.set_cons_succ]
                      refine skip_at (i := 20) 210 rfl rfl (by kernel_rfl) (by kernel_rfl) (by kernel_rfl) (fun _ _ _ h => h) (by rfl) hHeld ?_
                      simp only [Act.put, List.setIfInBounds_toArray, List.set_cons_zero, List.set_cons_succ]
                      refine take_at (i := 21) 211 (v := ?_) rfl rfl (by kernel_rfl) (by kernel_rfl) (by kernel_rfl) (fun _ _ _ h => h) (by rfl) ?_ hHeld ?_
                      rotate_left
                      · (intro w hSw; (try dsimp only at hSw); go_simp; try with_reducible rfl)
                      simp only [Act.put, List.setIfInBounds_toArray, List.set_cons_zero, List.set_cons_succ]
                      refine wpAnyH_done (by kernel_rfl) ?_ _
                      gi_wp2
                      exact ⟨(HRK.out.ret _ rfl).1, (HRK.out.ret _ rfl).2, rfl, HP9.out⟩
                  · have hge : (md : Int) ≤ (kk : Int) := by have := HMD.out; omega
                    have hgn : md ≤ kk := by omega
                    have HP9 : Hid (¬ (pre ++ [(⟨(x1, x2), xn⟩ : Ent)] <+: D)) := (fun h9 => by have h8 := h9.length_le; rw [List.length_append, HPR.out] at h8; simp at h8; omega)
                    clear hkL hX9
                    subst hT2
                    simp only [List.setIfInBounds_toArray, List.set_cons_zero, List.set_cons_succ]
                    gi_wp2
                    refine wpIn_region_held_drew (S := (fun u => u.heap = V.heap)) (by kernel_rfl) (by first | exact rfl | assumption) (by kernel_rfl) (fun ⟨_, _, h9⟩ => h9) (fun hHeld => ?_)
                    refine take_at (i := 0) 190 (v := ?_) rfl rfl (by kernel_rfl) (by kernel_rfl) (by kernel_rfl) (fun _ _ _ h => h) (by rfl) ?_ hHeld ?_
                    rotate_left
                    · (intro w hSw; (try dsimp only at hSw); go_simp; try with_reducible rfl)
                    simp only [Act.put, List.setIfInBounds_toArray, List.set_cons_zero, List.set_cons_succ]
                    refine take_at (i := 1) 191 (v := ?_) rfl rfl (by kernel_rfl) (by kernel_rfl) (by kernel_rfl) (fun _ _ _ h => h) (by rfl) ?_ hHeld ?_
                    rotate_left
                    · (intro w hSw; (try dsimp only at hSw); go_simp; try with_reducible rfl)
                    simp only [Act.put, List.setIfInBounds_toArray, List.set_cons_zero, List.set_cons_succ]
                    refine take_at (i := 2) 192 (v := ?_) rfl rfl (by kernel_rfl) (by kernel_rfl) (by kernel_rfl) (fun _ _ _ h => h) (by rfl) ?_ hHeld ?_
                    rotate_left
                    · (intro w hSw; (try dsimp only at hSw); go_simp; try with_reducible rfl)
                    simp only [Act.put, List.setIfInBounds_toArray, List.set_cons_zero, List.set_cons_succ]
                    refine take_at (i := 3) 193 (v := .bool true) rfl rfl (by kernel_rfl) (by kernel_rfl) (by kernel_rfl) (fun _ _ _ h => h) (by rfl) ?_ hHeld ?_
                    · (intro w hSw; (try dsimp only at hSw); go_simp; try (first | (simp; done) | (simp; omega)))
                    simp only [Act.put, List.setIfInBounds_toArray, List.set_cons_zero, List.set_cons_succ]
                    refine take_at (i := 4) 194 (v := ?_) rfl rfl (by kernel_rfl) (by kernel_rfl) (by kernel_rfl) (fun _ _ _ h => h) (by rfl) ?_ hHeld ?_
                    rotate_left
                    · (intro w hSw; (try dsimp only at hSw); go_simp; try with_reducible rfl)
                    simp only [Act.put, List.setIfInBounds_toArray, List.set_cons_zero, List.set_cons_succ]
                    refine skip_at (i := 5) 195 rfl rfl (by kernel_rfl) (by kernel_rfl) (by kernel_rfl) (fun _ _ _ h => h) (by rfl) hHeld ?_
                    simp only [Act.put, List.setIfInBounds_toArray, List.set_cons_zero, List.set_cons_succ]
                    refine skip_at (i := 6) 196 rfl rfl (by kernel_rfl) (by kernel_rfl) (by kernel_rfl) (fun _ _ _ h => h) (by rfl) hHeld ?_
                    simp only [Act.put, List.setIfInBounds_toArray, List.set_cons_zero, List.set_cons_succ]
                    refine skip_at (i := 7) 197 rfl rfl (by kernel_rfl) (by kernel_rfl) (by kernel_rfl) (fun _ _ _ h => h) (by rfl) hHeld ?_
                    simp only [Act.put, List.setIfInBounds_toArray, List.set_cons_zero, List.set_cons_succ]
                    refine skip_at (i := 8) 198 rfl rfl (by kernel_rfl) (by kernel_rfl) (by kernel_rfl) (fun _ _ _ h => h) (by rfl) hHeld ?_
                    simp only [Act.put, List.setIfInBounds_toArray, List.set_cons_zero, List.set_cons_succ]
                    refine skip_at (i := 9) 199 rfl rfl (by kernel_rfl) (by kernel_rfl) (by kernel_rfl) (fun _ _ _ h => h) (by rfl) hHeld ?_
                    simp only [Act.put, List.setIfInBounds_toArray, List.set_cons_zero, List.set_cons_succ]
                    refine skip_at (i := 10) 200 rfl rfl (by kernel_rfl) (by kernel_rfl) (by kernel_rfl) (fun _ _ _ h => h) (by rfl) hHeld ?_
                    simp only [Act.put, List.setIfInBounds_toArray, List.set_cons_zero, List.set_cons_succ]
                    refine skip_at (i := 11) 201 rfl rfl (by kernel_rfl) (by kernel_rfl) (by kernel_rfl) (fun _ _ _ h => h) (by rfl) hHeld ?_
                    simp only [Act.put, List.setIfInBounds_toArray, List.set_cons_zero, List.set_cons_succ]
                    refine take_at (i := 12) 202 (v := ?_) rfl rfl (by kernel_rfl) (by kernel_rfl) (by kernel_rfl) (fun _ _ _ h => h) (by rfl) ?_ hHeld ?_
                    rotate_left
                    · (intro w hSw; (try dsimp only at hSw); go_simp; try with_reducible rfl)
                    simp only [Act.put, List.setIfInBounds_toArray, List.set_cons_zero, List.set_cons_succ]
                    refine take_at (i := 13) 203 (v := ?_) rfl rfl (by kernel_rfl) (by kernel_rfl) (by kernel_rfl) (fun _ _ _ h => h) (by rfl) ?_ hHeld ?_
                    rotate_left
                    · (intro w hSw; (try dsimp only at hSw); go_simp; try with_reducible rfl)
                    simp only [Act.put, List.setIfInBounds_toArray, List.set_cons_zero, List.set_cons_succ]
                    refine skip_at (i := 14) 204 rfl rfl (by kernel_rfl) (by kernel_rfl) (by kernel_rfl) (fun _ _ _ h => h) (by rfl) hHeld ?_
                    simp only [Act.put, List.setIfInBounds_toArray, List.set_cons_zero, List.set_cons_succ]
                    refine skip_at (i := 15) 205 rfl rfl (by kernel_rfl) (by kernel_rfl) (by kernel_rfl) (fun _ _ _ h => h) (by rfl) hHeld ?_
                    simp only [Act.put, List.setIfInBounds_toArray, List.set_cons_zero, List.set_cons_succ]
                    refine skip_at (i := 16) 206 rfl rfl (by kernel_rfl) (by kernel_rfl) (by kernel_rfl) (fun _ _ _ h => h) (by rfl) hHeld ?_
                    simp only [Act.put, List.setIfInBounds_toArray, List.set_cons_zero, List.set_cons_succ]
                    refine skip_at (i := 17) 207 rfl rfl (by kernel_rfl) (by kernel_rfl) (by kernel_rfl) (fun _ _ _ h => h) (by rfl) hHeld ?_
                    simp only [Act.put, List.setIfInBounds_toArray, List.set_cons_zero, List.set_cons_succ]
                    refine skip_at (i := 18) 208 rfl rfl (by kernel_rfl) (by kernel_rfl) (by kernel_rfl) (fun _ _ _ h => h) (by rfl) hHeld ?_
                    simp only [Act.put, List.setIfInBounds_toArray, List.set_cons_zero, List.set_cons_succ]
                    refine skip_at (i := 19) 209 rfl rfl (by kernel_rfl) (by kernel_rfl) (by kernel_rfl) (fun _ _ _ h => h) (by rfl) hHeld ?_
                    simp only [Act.put, List.setIfInBounds_toArray, List.set_cons_zero, List.set_cons_succ]
                    refine skip_at (i := 20) 210 rfl rfl (by kernel_rfl) (by kernel_rfl) (by kernel_rfl) (fun _ _ _ h => h) (by rfl) hHeld ?_
                    simp only [Act.put, List.setIfInBounds_toArray, List.set_cons_zero, List.set_cons_succ]
                    refine take_at (i := 21) 211 (v := ?_) rfl rfl (by kernel_rfl) (by kernel_rfl) (by kernel_rfl) (fun _ _ _ h => h) (by rfl) ?_ hHeld ?_
                    rotate_left
                    · (intro w hSw; (try dsimp only at hSw); go_simp; try with_reducible rfl)
                    simp only [Act.put, List.setIfInBounds_toArray, List.set_cons_zero, List.set_cons_succ]
                    refine wpAnyH_done (by kernel_rfl) ?_ _
                    gi_wp2
                    exact ⟨(HRK.out.ret _ rfl).1, (HRK.out.ret _ rfl).2, rfl, HP9.out⟩
                case stop =>
                  rintro D9 c pre Z V hD hpre ⟨-, hno⟩ hK
                  exact absurd hpre hno
                case done =>
                  rintro Dy ys Z Vy hDy hys ⟨hpre, hR⟩ hK
                  obtain rfl : D = ys := hys.symm
                  subst hT2
                  have HBY : Hid (Below E w6 Vy) := hR.bel HBy.out (by omega) hEy
                  have HY2 : Hid (Vy.heap[C2]? = some (.cells #[.int .i64 (md : Int)] 3 (0, 0))) := (show _ = _ by rw [HMD.out]; exact hR.x)
                  have HYO : Hid (∀ k9, k9 < C2 → Vy.heap[k9]? = Vz.heap[k9]?) := (fun k9 h9 => by
                    have h8 := HZ14.out
                    have h7 := HSy.out
                    rw [hR.g.block k9 (by omega) (fun e => by cases e; omega), HKy.out k9 (by omega), HO14.out k9 h9])
                  have hCC2 : C < C2 := by have := HCD.out; have := HVZ.out; have := HC2.out; omega
                  have hDC2 : Dz < C2 := by have := HLD.out; have := HC2.out; omega
                  have HY1 : Hid (Vy.heap[C]? = some (.cells #[.int .i64 (mu : Int)] 3 (0, 0))) := (HYO.out C hCC2).trans HCV.out
                  have HYD1 : Hid (Vy.heap[Dz]? = some (.deferred (some []))) := (HYO.out Dz hDC2).trans HDV.out
                  have HYD2 : Hid (Vy.heap[Dy]? = some (.deferred (some []))) := hK
                  have hDD : Dz < Dy := by have := HSy.out; have := HZ14.out; omega
                  have hEDz : E ≤ Dz := by have := HDZ.out; omega
                  have hld := (HSW.out _ HBY.out).rs
                  obtain ⟨pa, pcap, hv, hcap, hnil, hrd, hpg⟩ := (HSW.out Vy HBY.out).idx.rd
                  have HPL : Hid _ := place_t (.pointer (some ⟨G, 0, none⟩)) pa P.length pcap P (s1, s2) Vy hpg rfl hrd HT.out.1 (by omega) (fun p hp => by have := HT.out.2 p hp; omega)
                  clear hpre hR hK hys hDy HKy HSy HSQ hv hcap hnil hrd hpg HBz HCz hEz HB12 HC12 HZ12 HBV HCV HDV HVZ HCD HLD HB14 HC14 HO14 HZ14 HC2 HDZ HBy HCy hEy HYO hRy hRz
                  dsimp only
                  go_wp2_with (first | (refine wpList_load_mid rfl tSt _ rfl B0 0 rfl (sc (s1, s2)) _ hld Try.underlying34 rfl info_st ?_))
                  refine Calls.mono HPL.out ?_
                  rintro e w15 ⟨pp, pi, pk, rfl, hpl, hb15⟩
                  have HPS : Hid _ := place_sum hpl HT.out.1
                  have HEY : Hid (E ≤ Vy.heap.size) := (show _ ≤ _ by rw [HE.out]; exact HBY.out.size)
                  have HB15 : Hid (Below E w6 w15) := HBY.out.trans (hb15.mono HEY.out)
                  have HK15 : Hid (Below Vy.heap.size Vy w15) := hb15
                  obtain ⟨pa, pcap, hv, hcap, hnil, hrd, hpg⟩ := (HSW.out w15 HB15.out).idx.rd
                  have HPG : Hid _ := pages_t (.pointer (some ⟨G, 0, none⟩)) pa P.length pcap P w15 hpg rfl hrd (by omega)
                  clear hpl hb15 hv hcap hnil hrd hpg HPL hld
                  go_wp2_with fail
                  refine Calls.mono HPG.out ?_
                  rintro e w16 ⟨vl, rfl, hrow, hb16⟩
                  obtain ⟨n6, hn6⟩ : ∃ n6, n6 = P.length := ⟨_, rfl⟩
                  rw [← hn6] at hrow
                  obtain ⟨al6, cl6, rfl, hM6, hcell⟩ := cnt_val hrow hn6
                  have HCE : Hid (∀ j (hj : j < n6), ∃ g, al6 = some ⟨g, 0, none⟩ ∧ w16.cell? ⟨g, j, none⟩ = some (.int .i64 ((P.getD j []).length : Int))) := hcell
                  have HK16 : Hid (Below Vy.heap.size Vy w16) := below_next HK15.out hb16
                  have HB16 : Hid (Below E w6 w16) := HBY.out.trans (HK16.out.mono HEY.out)
                  have HN6 : Hid (n6 = P.length) := hn6
                  have hpp : pp ≤ n6 := by have := HPS.out.1; omega
                  have HSUM : Hid (∀ q, q ≤ pp → pi + (P.take q).flatten.length ≤ 4398046511104) := (fun q hq => by
                    have h1 := HPS.out.2.1
                    have h2 := HM.out
                    have h3 := HLP.out
                    have h4 : (P.take q).flatten.length ≤ (P.take pp).flatten.length := by
                      obtain ⟨d, rfl⟩ : ∃ d, pp = q + d := ⟨pp - q, by omega⟩
                      rw [List.take_add, List.flatten_append, List.length_append]; omega
                    rw [← h3, ← h2] at h1
                    omega)
                  have hn6b : n6 ≤ 4398046511104 := by omega
                  clear hrow hb16 hcell hn6 HPG HK15 HB15
                  go_wp2_with fail
                  go_loop [24, 27] (fun n jv => ∃ jj : Nat, jj ≤ pp ∧ jv = .int .i64 (jj : Int) ∧ n = .int .i64 ((pi + (P.take jj).flatten.length : Nat) : Int)) (fun _ jv => pp - (intOf jv).toNat)
                  case atStart => exact ⟨0, Nat.zero_le _, rfl, rfl⟩
                  case round =>
                    obtain ⟨jj, hjj, rfl, rfl⟩ := hrel
                    by_cases hlq : jj < pp
                    · obtain ⟨g6, rfl, hcj⟩ := HCE.out jj (by omega)
                      have hjP : jj < P.length := by have := HN6.out; omega
                      obtain ⟨x1, hx1⟩ : ∃ x1, x1 = (P.getD jj []).length := ⟨_, rfl⟩
                      have eP : P.getD jj [] = P[jj] := by simp [List.getD, hjP]
                      rw [← hx1] at hcj
                      obtain ⟨T0, hT0⟩ : ∃ T0, T0 = pi + (P.take jj).flatten.length := ⟨_, rfl⟩
                      have HS0 : Hid (pi + (P.take (jj + 1)).flatten.length = T0 + x1) := (show _ = _ by rw [sum_take hjP, hT0, hx1, eP, Nat.add_assoc])
                      have hTb : T0 + x1 ≤ 4398046511104 := by have h9 := HSUM.out (jj + 1) hlq; have h8 := HS0.out; omega
                      have hji : (jj : Int) < (pp : Int) := by omega
                      have hji2 : (jj : Int) < (n6 : Int) := by omega
                      have hj60 : (0 : Int) ≤ (jj : Int) := by omega
                      rw [← hT0]
                      clear hT0 hx1 eP
                      go_wp2
                      go_round
                      case rel => exact ⟨jj + 1, by omega, by go_num, by rw [HS0.out]; go_num⟩
                      case measure => simp [intOf]; omega
                    · obtain rfl : jj = pp := by omega
                      have hppI : ¬ ((jj : Int) < (jj : Int)) := by omega
                      obtain ⟨T1, hT1⟩ : ∃ T1, T1 = pi + (P.take jj).flatten.length := ⟨_, rfl⟩
                      have HT1 : Hid (T1 + mu = j) := (show _ = _ by
                        have h1 := HPS.out.2.1
                        rw [← hT1, ← HU.out, ← HMU.out, ← HLP.out, ← HM.out] at h1
                        exact h1)
                      rw [← hT1]
                      clear hT1
                      go_upto_region 43 with fail
                      have HS16 : Hid _ := HSW.out w16 HB16.out
                      have hbr := HS16.out.br
                      have hc1 : w16.cell? ⟨B0 + 1, 0, none⟩ = some (.bool false) := by rw [cell_of_row _ _ _ _ _ _ hbr]; rfl
                      have hf1 : w16.frozen? ⟨B0 + 1, 0, none⟩ = false := by simp [World.frozen?, hbr]
                      have hb1 : w16.heap[C]? = some (.cells #[.int .i64 (mu : Int)] 3 (0, 0)) := (HK16.out.block C (Array.getElem?_eq_some_iff.1 HY1.out).1).trans HY1.out
                      have hb2 : w16.heap[C2]? = some (.cells #[.int .i64 (md : Int)] 3 (0, 0)) := (HK16.out.block C2 (Array.getElem?_eq_some_iff.1 HY2.out).1).trans HY2.out
                      have hA1 : ∀ u : World, Agr (B0 + 1) w16 u → u.cell? ⟨C, 0, none⟩ = some (.int .i64 (mu : Int)) := fun u hu => hu.cell (by omega) (by rw [cell_of_row _ _ _ _ _ _ hb1]; rfl)
                      have hA2 : ∀ u : World, Agr (B0 + 1) w16 u → u.cell? ⟨C2, 0, none⟩ = some (.int .i64 (md : Int)) := fun u hu => hu.cell (by omega) (by rw [cell_of_row _ _ _ _ _ _ hb2]; rfl)
                      have hA3 : ∀ u : World, Agr (B0 + 1) w16 u → u.cell? ⟨H, 0, none⟩ = some (.slice au mu cu) := fun u hu => hu.cell (by omega) HS16.out.cu
                      have hA4 : ∀ u : World, Agr (B0 + 1) w16 u → u.cell? ⟨H + 1, 0, none⟩ = some (.slice ad md cd) := fun u hu => hu.cell (by omega) HS16.out.cd
                      have hl3 : ∀ u : World, Agr (B0 + 1) w16 u → (Instr.loadAt tSt (.pointer (some ⟨B0, 0, none⟩))).run Try.prog u = .ok (sv (s1, s2)) u := fun u hu => load_st u _ _ (s1, s2) (hu.range (by omega) HS16.out.rs)
                      have HEND : Hid (∀ u : World, u = (w16.setCell ⟨B0 + 1, 0, none⟩ (.bool true)).drew → u.heap[B0 + 1]? = some (.cells #[.bool true] 4 (0, 0)) ∧ Below B0 W u ∧ u.heap[Dz]? = some (.deferred (some [])) ∧ u.heap[Dy]? = some (.deferred (some []))) := (fun u hu => by
                        have h9 : Below B0 W w16 := HBW6.out.trans (HB16.out.mono (by omega))
                        refine ⟨?_, ?_, ?_, ?_⟩
                        · rw [hu, heap_drew, heap_setCell_same w16 (B0 + 1) 0 _ _ _ hbr]; rfl
                        · rw [hu]; exact (h9.setCell (p := ⟨B0 + 1, 0, none⟩) (by simp) _).drew
                        · rw [hu, heap_drew, heap_setCell_other _ _ _ _ (by simp; omega)]; exact (HK16.out.block Dz (Array.getElem?_eq_some_iff.1 HYD1.out).1).trans HYD1.out
                        · rw [hu, heap_drew, heap_setCell_other _ _ _ _ (by simp; omega)]; exact (HK16.out.block Dy (Array.getElem?_eq_some_iff.1 HYD2.out).1).trans HYD2.out)
                      have hT1w : IntKind.i64.wrap ((j : Int) - (mu : Int)) = (T1 : Int) := by rw [IntKind.wrap_i64]; have := HT1.out; omega
                      clear hb1 hb2 hbr HY1 HY2
                      by_cases hm0 : mu = 0
                      · have hpk : pk = false := HPS.out.2.2.1 (by rw [← HU.out]; exact List.eq_nil_of_length_eq_zero (by have := HMU.out; omega))
                        subst hpk
                        have hm0i : ¬ (0 : Int) < (mu : Int) := by omega
                        have hm0n : ¬ 0 < mu := by omega
                        have HM0 : Hid (mu = 0) := hm0
                        clear hm0
                        refine wp_region_noPanic ?_
                        refine wp_region_held_drew (S := (fun u => Agr (B0 + 1) w16 u)) (by kernel_rfl) (by first | assumption | exact Agr.drew _ _ | exact (Agr.drew _ _).set _ | exact Agr.setd (fun _ _ => rfl) _) (fun hHeld => ?_)
                        refine take_at (i := 0) 240 (v := ?_) rfl rfl (by kernel_rfl) (by kernel_rfl) (by kernel_rfl) (fun _ _ _ h => h) (by rfl) ?_ hHeld ?_
                        rotate_left
                        · (intro w hSw; (try dsimp only at hSw); go_simp; try with_reducible rfl)
                        simp only [Act.put, List.setIfInBounds_toArray, List.set_cons_zero, List.set_cons_succ]
                        refine take_at (i := 1) 241 (v := ?_) rfl rfl (by kernel_rfl) (by kernel_rfl) (by kernel_rfl) (fun _ _ _ h => h) (by rfl) ?_ hHeld ?_
                        rotate_left
                        · (intro w hSw; (try dsimp only at hSw); go_simp; try with_reducible rfl)
                        simp only [Act.put, List.setIfInBounds_toArray, List.set_cons_zero, List.set_cons_succ]
                        refine take_at (i := 2) 242 (v := ?_) rfl rfl (by kernel_rfl) (by kernel_rfl) (by kernel_rfl) (fun _ _ _ h => h) (by rfl) ?_ hHeld ?_
                        rotate_left
                        · (intro w hSw; (try dsimp only at hSw); go_simp; try with_reducible rfl)
                        simp only [Act.put, List.setIfInBounds_toArray, List.set_cons_zero, List.set_cons_succ]
                        refine take_at (i := 3) 243 (v := .bool true) rfl rfl (by kernel_rfl) (by kernel_rfl) (by kernel_rfl) (fun _ _ _ h => h) (by rfl) ?_ hHeld ?_
                        · (intro w hSw; (try dsimp only at hSw); go_simp; try simp)
                        simp only [Act.put, List.setIfInBounds_toArray, List.set_cons_zero, List.set_cons_succ]
                        refine take_at (i := 4) 244 (v := ?_) rfl rfl (by kernel_rfl) (by kernel_rfl) (by kernel_rfl) (fun _ _ _ h => h) (by rfl) ?_ hHeld ?_
                        rotate_left
                        · (intro w hSw; (try dsimp only at hSw); go_simp; try with_reducible rfl)
                        simp only [Act.put, List.setIfInBounds_toArray, List.set_cons_zero, List.set_cons_succ]
                        refine take_at (i := 5) 245 (v := ?_) rfl rfl (by kernel_rfl) (by kernel_rfl) (by kernel_rfl) (fun _ _ _ h => h) (by rfl) ?_ hHeld ?_
                        rotate_left
                        · (intro w hSw; (try dsimp only at hSw); go_simp; try with_reducible rfl)
                        simp only [Act.put, List.setIfInBounds_toArray, List.set_cons_zero, List.set_cons_succ]
                        refine take_at (i := 6) 246 (v := ?_) rfl rfl (by kernel_rfl) (by kernel_rfl) (by kernel_rfl) (fun _ _ _ h => h) (by rfl) ?_ hHeld ?_
                        rotate_left
                        · (intro w hSw; (try dsimp only at hSw); go_simp; try with_reducible rfl)
                        simp only [Act.put, List.setIfInBounds_toArray, List.set_cons_zero, List.set_cons_succ]
                        refine take_at (i := 7) 247 (v := ?_) rfl rfl (by kernel_rfl) (by kernel_rfl) (by kernel_rfl) (fun _ _ _ h => h) (by rfl) ?_ hHeld ?_
                        rotate_left
                        · (intro w hSw; (try dsimp only at hSw); go_simp; try with_reducible rfl)
                        simp only [Act.put, List.setIfInBounds_toArray, List.set_cons_zero, List.set_cons_succ]
                        refine take_at (i := 8) 248 (v := .bool true) rfl rfl (by kernel_rfl) (by kernel_rfl) (by kernel_rfl) (fun _ _ _ h => h) (by rfl) ?_ hHeld ?_
                        · (intro w hSw; (try dsimp only at hSw); go_simp; try simp)
                        simp only [Act.put, List.setIfInBounds_toArray, List.set_cons_zero, List.set_cons_succ]
                        refine take_at (i := 9) 249 (v := ?_) rfl rfl (by kernel_rfl) (by kernel_rfl) (by kernel_rfl) (fun _ _ _ h => h) (by rfl) ?_ hHeld ?_
                        rotate_left
                        · (intro w hSw; (try dsimp only at hSw); go_simp; try with_reducible rfl)
                        simp only [Act.put, List.setIfInBounds_toArray, List.set_cons_zero, List.set_cons_succ]
                        refine take_at (i := 10) 250 (v := ?_) rfl rfl (by kernel_rfl) (by kernel_rfl) (by kernel_rfl) (fun _ _ _ h => h) (by rfl) ?_ hHeld ?_
                        rotate_left
                        · (intro w hSw; (try dsimp only at hSw); go_simp; try with_reducible rfl)
                        simp only [Act.put, List.setIfInBounds_toArray, List.set_cons_zero, List.set_cons_succ]
                        refine take_at (i := 11) 251 (v := ?_) rfl rfl (by kernel_rfl) (by kernel_rfl) (by kernel_rfl) (fun _ _ _ h => h) (by rfl) ?_ hHeld ?_
                        rotate_left
                        · (intro w hSw; (try dsimp only at hSw); go_simp; try with_reducible rfl)
                        simp only [Act.put, List.setIfInBounds_toArray, List.set_cons_zero, List.set_cons_succ]
                        refine take_at (i := 12) 252 (v := ?_) rfl rfl (by kernel_rfl) (by kernel_rfl) (by kernel_rfl) (fun _ _ _ h => h) (by rfl) ?_ hHeld ?_
                        rotate_left
                        · (intro w hSw; (try dsimp only at hSw); go_simp; try with_reducible rfl)
                        simp only [Act.put, List.setIfInBounds_toArray, List.set_cons_zero, List.set_cons_succ]
                        refine take_at (i := 13) 253 (v := ?_) rfl rfl (by kernel_rfl) (by kernel_rfl) (by kernel_rfl) (fun _ _ _ h => h) (by rfl) ?_ hHeld ?_
                        rotate_left
                        · (intro w hSw; (try dsimp only at hSw); go_simp; try with_reducible rfl)
                        simp only [Act.put, List.setIfInBounds_toArray, List.set_cons_zero, List.set_cons_succ]
                        refine take_at (i := 14) 254 (v := ?_) rfl rfl (by kernel_rfl) (by kernel_rfl) (by kernel_rfl) (fun _ _ _ h => h) (by rfl) ?_ hHeld ?_
                        rotate_left
                        · (intro w hSw; (try dsimp only at hSw); go_simp; try with_reducible rfl)
                        simp only [Act.put, List.setIfInBounds_toArray, List.set_cons_zero, List.set_cons_succ]
                        refine take_at (i := 15) 255 (v := ?_) rfl rfl (by kernel_rfl) (by kernel_rfl) (by kernel_rfl) (fun _ _ _ h => h) (by rfl) ?_ hHeld ?_
                        rotate_left
                        · (intro w hSw; (try dsimp only at hSw); go_simp; try with_reducible rfl)
                        simp only [Act.put, List.setIfInBounds_toArray, List.set_cons_zero, List.set_cons_succ]
                        refine take_at (i := 16) 256 (v := .int .i64 (T1 : Int)) rfl rfl (by kernel_rfl) (by kernel_rfl) (by kernel_rfl) (fun _ _ _ h => h) (by rfl) ?_ hHeld ?_
                        · (intro w hSw; (try dsimp only at hSw); go_simp; try (first | exact hT1w | (rw [hT1w]; done) | simp [hT1w]))
                        simp only [Act.put, List.setIfInBounds_toArray, List.set_cons_zero, List.set_cons_succ]
                        refine take_at (i := 17) 257 (v := .bool true) rfl rfl (by kernel_rfl) (by kernel_rfl) (by kernel_rfl) (fun _ _ _ h => h) (by rfl) ?_ hHeld ?_
                        · (intro w hSw; (try dsimp only at hSw); go_simp; try simp)
                        simp only [Act.put, List.setIfInBounds_toArray, List.set_cons_zero, List.set_cons_succ]
                        refine take_at (i := 18) 258 (v := ?_) rfl rfl (by kernel_rfl) (by kernel_rfl) (by kernel_rfl) (fun _ _ _ h => h) (by rfl) ?_ hHeld ?_
                        rotate_left
                        · (intro w hSw; (try dsimp only at hSw); go_simp; try with_reducible rfl)
                        simp only [Act.put, List.setIfInBounds_toArray, List.set_cons_zero, List.set_cons_succ]
                        refine take_at (i := 19) 259 (v := ?_) rfl rfl (by kernel_rfl) (by kernel_rfl) (by kernel_rfl) (fun _ _ _ h => h) (by rfl) ?_ hHeld ?_
                        rotate_left
                        · (intro w hSw; (try dsimp only at hSw); go_simp; try with_reducible rfl)
                        simp only [Act.put, List.setIfInBounds_toArray, List.set_cons_zero, List.set_cons_succ]
                        refine take_at (i := 20) 260 (v := ?_) rfl rfl (by kernel_rfl) (by kernel_rfl) (by kernel_rfl) (fun _ _ _ h => h) (by rfl) ?_ hHeld ?_
                        rotate_left
                        · (intro w hSw; (try dsimp only at hSw); go_simp; try with_reducible rfl)
                        simp only [Act.put, List.setIfInBounds_toArray, List.set_cons_zero, List.set_cons_succ]
                        refine take_at (i := 21) 261 (v := ?_) rfl rfl (by kernel_rfl) (by kernel_rfl) (by kernel_rfl) (fun _ _ _ h => h) (by rfl) ?_ hHeld ?_
                        rotate_left
                        · (intro w hSw; (try dsimp only at hSw); go_simp; try with_reducible rfl)
                        simp only [Act.put, List.setIfInBounds_toArray, List.set_cons_zero, List.set_cons_succ]
                        refine take_at (i := 22) 262 (v := ?_) rfl rfl (by kernel_rfl) (by kernel_rfl) (by kernel_rfl) (fun _ _ _ h => h) (by rfl) ?_ hHeld ?_
                        rotate_left
                        · (intro w hSw; (try dsimp only at hSw); go_simp; try with_reducible rfl)
                        simp only [Act.put, List.setIfInBounds_toArray, List.set_cons_zero, List.set_cons_succ]
                        refine take_at (i := 23) 263 (v := .bool false) rfl rfl (by kernel_rfl) (by kernel_rfl) (by kernel_rfl) (fun _ _ _ h => h) (by rfl) ?_ hHeld ?_
                        · (intro w hSw; (try dsimp only at hSw); go_simp; try (first | exact HM0.out | (simp; omega)))
                        simp only [Act.put, List.setIfInBounds_toArray, List.set_cons_zero, List.set_cons_succ]
                        refine take_at (i := 24) 264 (v := ?_) rfl rfl (by kernel_rfl) (by kernel_rfl) (by kernel_rfl) (fun _ _ _ h => h) (by rfl) ?_ hHeld ?_
                        rotate_left
                        · (intro w hSw; (try dsimp only at hSw); go_simp; try with_reducible rfl)
                        simp only [Act.put, List.setIfInBounds_toArray, List.set_cons_zero, List.set_cons_succ]
                        refine skip_at (i := 25) 265 rfl rfl (by kernel_rfl) (by kernel_rfl) (by kernel_rfl) (fun _ _ _ h => h) (by rfl) hHeld ?_
                        simp only [Act.put, List.setIfInBounds_toArray, List.set_cons_zero, List.set_cons_succ]
                        refine skip_at (i := 26) 266 rfl rfl (by kernel_rfl) (by kernel_rfl) (by kernel_rfl) (fun _ _ _ h => h) (by rfl) hHeld ?_
                        simp only [Act.put, List.setIfInBounds_toArray, List.set_cons_zero, List.set_cons_succ]
                        refine skip_at (i := 27) 267 rfl rfl (by kernel_rfl) (by kernel_rfl) (by kernel_rfl) (fun _ _ _ h => h) (by rfl) hHeld ?_
                        simp only [Act.put, List.setIfInBounds_toArray, List.set_cons_zero, List.set_cons_succ]
                        refine skip_at (i := 28) 268 rfl rfl (by kernel_rfl) (by kernel_rfl) (by kernel_rfl) (fun _ _ _ h => h) (by rfl) hHeld ?_
                        simp only [Act.put, List.setIfInBounds_toArray, List.set_cons_zero, List.set_cons_succ]
                        refine skip_at (i := 29) 269 rfl rfl (by kernel_rfl) (by kernel_rfl) (by kernel_rfl) (fun _ _ _ h => h) (by rfl) hHeld ?_
                        simp only [Act.put, List.setIfInBounds_toArray, List.set_cons_zero, List.set_cons_succ]
                        refine skip_at (i := 30) 270 rfl rfl (by kernel_rfl) (by kernel_rfl) (by kernel_rfl) (fun _ _ _ h => h) (by rfl) hHeld ?_
                        simp only [Act.put, List.setIfInBounds_toArray, List.set_cons_zero, List.set_cons_succ]
                        refine take_at (i := 31) 271 (v := ?_) rfl rfl (by kernel_rfl) (by kernel_rfl) (by kernel_rfl) (fun _ _ _ h => h) (by rfl) ?_ hHeld ?_
                        rotate_left
                        · (intro w hSw; (try dsimp only at hSw); go_simp; try with_reducible rfl)
                        simp only [Act.put, List.setIfInBounds_toArray, List.set_cons_zero, List.set_cons_succ]
                        refine take_at (i := 32) 272 (v := .bool true) rfl rfl (by kernel_rfl) (by kernel_rfl) (by kernel_rfl) (fun _ _ _ h => h) (by rfl) ?_ hHeld ?_
                        · (intro w hSw; (try dsimp only at hSw); go_simp; try simp)
                        simp only [Act.put, List.setIfInBounds_toArray, List.set_cons_zero, List.set_cons_succ]
                        refine take_at (i := 33) 273 (v := ?_) rfl rfl (by kernel_rfl) (by kernel_rfl) (by kernel_rfl) (fun _ _ _ h => h) (by rfl) ?_ hHeld ?_
                        rotate_left
                        · (intro w hSw; (try dsimp only at hSw); go_simp; try with_reducible rfl)
                        simp only [Act.put, List.setIfInBounds_toArray, List.set_cons_zero, List.set_cons_succ]
                        refine run_at (i := 34) rfl (by kernel_rfl) (by rfl) (fun K hK => ?_)
                        simp only [List.getElem_toArray, List.getElem_cons_zero, List.getElem_cons_succ]
                        go_simp
                        go_wp2_with fail
                        refine hK.out _ _ (by first | assumption | exact Agr.drew _ _ | exact (Agr.drew _ _).set _ | exact Agr.setd (fun _ _ => rfl) _) ?_
                        clear hK K
                        intro hHeld2
                        clear hHeld
                        have hHeld := hHeld2
                        clear hHeld2
                        try simp only [Act.put, List.setIfInBounds_toArray, List.set_cons_zero, List.set_cons_succ]
                        refine wpAnyH_done (by kernel_rfl) ?_ _
                        refine NoPanic.normal ?_
                        go_wp2_with fail
                        refine ⟨by simp, .inl ⟨_, _, rfl, run_takeDeferred (HEND.out _ rfl).2.2.2, ?_⟩⟩
                        refine ⟨by simp, .inl ⟨_, _, rfl, run_takeDeferred ((World.putObj_heap_other (by omega)).trans (HEND.out _ rfl).2.2.1), ?_⟩⟩
                        exact ⟨_, results_cb rfl _ ((World.putObj_heap_other (by omega)).trans ((World.putObj_heap_other (by omega)).trans (HEND.out _ rfl).1)) rfl, rfl, by
                          have h9 := (HEND.out _ rfl).2.1
                          have h8 := h9.trans (belowK_b (w := W) (Nat.le_of_eq HB0W.out) _ Dy _ (.deferred none) (by have := HB0W.out; omega) (HEND.out _ rfl).2.2.2 rfl rfl)
                          exact h8.trans (belowK_b (w := W) (Nat.le_of_eq HB0W.out) _ Dz _ (.deferred none) (by have := HB0W.out; omega) ((World.putObj_heap_other (by omega)).trans (HEND.out _ rfl).2.2.1) rfl rfl)⟩
                      · have hpos : 0 < U.length := by have := HMU.out; omega
                        obtain ⟨y1, y2, yn, hy⟩ : ∃ y1 y2 yn, U[0] = ⟨(y1, y2), yn⟩ := ⟨_, _, _, rfl⟩
                        obtain ⟨b, o, rfl, hr⟩ := HRU.out 0 hpos
                        rw [hy, Nat.zero_mul, Nat.add_zero] at hr
                        have hrr := hr _ HB16.out
                        have HPK : Hid (pk = decide (y1 = s1 ∧ y2 = s2)) := (show _ = _ by
                          have h9 := HPS.out.2.2.2 ⟨(y1, y2), yn⟩ (by rw [← HU.out, List.head?_eq_getElem?, List.getElem?_eq_getElem hpos, hy])
                          cases pk
                          · symm; rw [decide_eq_false_iff_not]; rintro ⟨rfl, rfl⟩; have := h9.2 rfl; cases this
                          · symm; rw [decide_eq_true_eq]; have h8 := h9.1 rfl; exact ⟨congrArg Prod.fst h8, congrArg Prod.snd h8⟩)
                        have hbne : b ≠ B0 + 1 := fun e => by
                          have h8 := (OwnB.blk HS16.out.ru b rfl).2.2
                          obtain ⟨cur, h8⟩ := h8
                          rw [e, HS16.out.br] at h8
                          injection h8 with h8; injection h8 with h7 h6; exact absurd h6 (by decide)
                        have hl4 : ∀ u : World, Agr (B0 + 1) w16 u → (Instr.loadAt tSt (.pointer (some ⟨b, o, none⟩))).run Try.prog u = .ok (sv (y1, y2)) u := fun u hu => load_st u _ _ (y1, y2) (hu.range hbne (range_st (e := ⟨(y1, y2), yn⟩) hrr))
                        have hm0i : (0 : Int) < (mu : Int) := by omega
                        have hm0n : 0 < mu := by omega
                        clear hm0 hr hrr hy hpos hbne
                        refine wp_region_noPanic ?_
                        refine wp_region_held_drew (S := (fun u => Agr (B0 + 1) w16 u)) (by kernel_rfl) (by first | assumption | exact Agr.drew _ _ | exact (Agr.drew _ _).set _ | exact Agr.setd (fun _ _ => rfl) _) (fun hHeld => ?_)
                        refine take_at (i := 0) 240 (v := ?_) rfl rfl (by kernel_rfl) (by kernel_rfl) (by kernel_rfl) (fun _ _ _ h => h) (by rfl) ?_ hHeld ?_
                        rotate_left
                        · (intro w hSw; (try dsimp only at hSw); go_simp; try with_reducible rfl)
                        simp only [Act.put, List.setIfInBounds_toArray, List.set_cons_zero, List.set_cons_succ]
                        refine take_at (i := 1) 241 (v := ?_) rfl rfl (by kernel_rfl) (by kernel_rfl) (by kernel_rfl) (fun _ _ _ h => h) (by rfl) ?_ hHeld ?_
                        rotate_left
                        · (intro w hSw; (try dsimp only at hSw); go_simp; try with_reducible rfl)
                        simp only [Act.put, List.setIfInBounds_toArray, List.set_cons_zero, List.set_cons_succ]
                        refine take_at (i := 2) 242 (v := ?_) rfl rfl (by kernel_rfl) (by kernel_rfl) (by kernel_rfl) (fun _ _ _ h => h) (by rfl) ?_ hHeld ?_
                        rotate_left
                        · (intro w hSw; (try dsimp only at hSw); go_simp; try with_reducible rfl)
                        simp only [Act.put, List.setIfInBounds_toArray, List.set_cons_zero, List.set_cons_succ]
                        refine take_at (i := 3) 243 (v := .bool true) rfl rfl (by kernel_rfl) (by kernel_rfl) (by kernel_rfl) (fun _ _ _ h => h) (by rfl) ?_ hHeld ?_
                        · (intro w hSw; (try dsimp only at hSw); go_simp; try simp)
                        simp only [Act.put, List.setIfInBounds_toArray, List.set_cons_zero, List.set_cons_succ]
                        refine take_at (i := 4) 244 (v := ?_) rfl rfl (by kernel_rfl) (by kernel_rfl) (by kernel_rfl) (fun _ _ _ h => h) (by rfl) ?_ hHeld ?_
                        rotate_left
                        · (intro w hSw; (try dsimp only at hSw); go_simp; try with_reducible rfl)
                        simp only [Act.put, List.setIfInBounds_toArray, List.set_cons_zero, List.set_cons_succ]
                        refine take_at (i := 5) 245 (v := ?_) rfl rfl (by kernel_rfl) (by kernel_rfl) (by kernel_rfl) (fun _ _ _ h => h) (by rfl) ?_ hHeld ?_
                        rotate_left
                        · (intro w hSw; (try dsimp only at hSw); go_simp; try with_reducible rfl)
                        simp only [Act.put, List.setIfInBounds_toArray, List.set_cons_zero, List.set_cons_succ]
                        refine take_at (i := 6) 246 (v := ?_) rfl rfl (by kernel_rfl) (by kernel_rfl) (by kernel_rfl) (fun _ _ _ h => h) (by rfl) ?_ hHeld ?_
                        rotate_left
                        · (intro w hSw; (try dsimp only at hSw); go_simp; try with_reducible rfl)
                        simp only [Act.put, List.setIfInBounds_toArray, List.set_cons_zero, List.set_cons_succ]
                        refine take_at (i := 7) 247 (v := ?_) rfl rfl (by kernel_rfl) (by kernel_rfl) (by kernel_rfl) (fun _ _ _ h => h) (by rfl) ?_ hHeld ?_
                        rotate_left
                        · (intro w hSw; (try dsimp only at hSw); go_simp; try with_reducible rfl)
                        simp only [Act.put, List.setIfInBounds_toArray, List.set_cons_zero, List.set_cons_succ]
                        refine take_at (i := 8) 248 (v := .bool true) rfl rfl (by kernel_rfl) (by kernel_rfl) (by kernel_rfl) (fun _ _ _ h => h) (by rfl) ?_ hHeld ?_
                        · (intro w hSw; (try dsimp only at hSw); go_simp; try simp)
                        simp only [Act.put, List.setIfInBounds_toArray, List.set_cons_zero, List.set_cons_succ]
                        refine take_at (i := 9) 249 (v := ?_) rfl rfl (by kernel_rfl) (by kernel_rfl) (by kernel_rfl) (fun _ _ _ h => h) (by rfl) ?_ hHeld ?_
                        rotate_left
                        · (intro w hSw; (try dsimp only at hSw); go_simp; try with_reducible rfl)
                        simp only [Act.put, List.setIfInBounds_toArray, List.set_cons_zero, List.set_cons_succ]
                        refine take_at (i := 10) 250 (v := ?_) rfl rfl (by kernel_rfl) (by kernel_rfl) (by kernel_rfl) (fun _ _ _ h => h) (by rfl) ?_ hHeld ?_
                        rotate_left
                        · (intro w hSw; (try dsimp only at hSw); go_simp; try with_reducible rfl)
                        simp only [Act.put, List.setIfInBounds_toArray, List.set_cons_zero, List.set_cons_succ]
                        refine take_at (i := 11) 251 (v := ?_) rfl rfl (by kernel_rfl) (by kernel_rfl) (by kernel_rfl) (fun _ _ _ h => h) (by rfl) ?_ hHeld ?_
                        rotate_left
                        · (intro w hSw; (try dsimp only at hSw); go_simp; try with_reducible rfl)
                        simp only [Act.put, List.setIfInBounds_toArray, List.set_cons_zero, List.set_cons_succ]
                        refine take_at (i := 12) 252 (v := ?_) rfl rfl (by kernel_rfl) (by kernel_rfl) (by kernel_rfl) (fun _ _ _ h => h) (by rfl) ?_ hHeld ?_
                        rotate_left
                        · (intro w hSw; (try dsimp only at hSw); go_simp; try with_reducible rfl)
                        simp only [Act.put, List.setIfInBounds_toArray, List.set_cons_zero, List.set_cons_succ]
                        refine take_at (i := 13) 253 (v := ?_) rfl rfl (by kernel_rfl) (by kernel_rfl) (by kernel_rfl) (fun _ _ _ h => h) (by rfl) ?_ hHeld ?_
                        rotate_left
                        · (intro w hSw; (try dsimp only at hSw); go_simp; try with_reducible rfl)
                        simp only [Act.put, List.setIfInBounds_toArray, List.set_cons_zero, List.set_cons_succ]
                        refine take_at (i := 14) 254 (v := ?_) rfl rfl (by kernel_rfl) (by kernel_rfl) (by kernel_rfl) (fun _ _ _ h => h) (by rfl) ?_ hHeld ?_
                        rotate_left
                        · (intro w hSw; (try dsimp only at hSw); go_simp; try with_reducible rfl)
                        simp only [Act.put, List.setIfInBounds_toArray, List.set_cons_zero, List.set_cons_succ]
                        refine take_at (i := 15) 255 (v := ?_) rfl rfl (by kernel_rfl) (by kernel_rfl) (by kernel_rfl) (fun _ _ _ h => h) (by rfl) ?_ hHeld ?_
                        rotate_left
                        · (intro w hSw; (try dsimp only at hSw); go_simp; try with_reducible rfl)
                        simp only [Act.put, List.setIfInBounds_toArray, List.set_cons_zero, List.set_cons_succ]
                        refine take_at (i := 16) 256 (v := .int .i64 (T1 : Int)) rfl rfl (by kernel_rfl) (by kernel_rfl) (by kernel_rfl) (fun _ _ _ h => h) (by rfl) ?_ hHeld ?_
                        · (intro w hSw; (try dsimp only at hSw); go_simp; try (first | exact hT1w | (rw [hT1w]; done) | simp [hT1w]))
                        simp only [Act.put, List.setIfInBounds_toArray, List.set_cons_zero, List.set_cons_succ]
                        refine take_at (i := 17) 257 (v := .bool true) rfl rfl (by kernel_rfl) (by kernel_rfl) (by kernel_rfl) (fun _ _ _ h => h) (by rfl) ?_ hHeld ?_
                        · (intro w hSw; (try dsimp only at hSw); go_simp; try simp)
                        simp only [Act.put, List.setIfInBounds_toArray, List.set_cons_zero, List.set_cons_succ]
                        refine take_at (i := 18) 258 (v := ?_) rfl rfl (by kernel_rfl) (by kernel_rfl) (by kernel_rfl) (fun _ _ _ h => h) (by rfl) ?_ hHeld ?_
                        rotate_left
                        · (intro w hSw; (try dsimp only at hSw); go_simp; try with_reducible rfl)
                        simp only [Act.put, List.setIfInBounds_toArray, List.set_cons_zero, List.set_cons_succ]
                        refine take_at (i := 19) 259 (v := ?_) rfl rfl (by kernel_rfl) (by kernel_rfl) (by kernel_rfl) (fun _ _ _ h => h) (by rfl) ?_ hHeld ?_
                        rotate_left
                        · (intro w hSw; (try dsimp only at hSw); go_simp; try with_reducible rfl)
                        simp only [Act.put, List.setIfInBounds_toArray, List.set_cons_zero, List.set_cons_succ]
                        refine take_at (i := 20) 260 (v := ?_) rfl rfl (by kernel_rfl) (by kernel_rfl) (by kernel_rfl) (fun _ _ _ h => h) (by rfl) ?_ hHeld ?_
                        rotate_left
                        · (intro w hSw; (try dsimp only at hSw); go_simp; try with_reducible rfl)
                        simp only [Act.put, List.setIfInBounds_toArray, List.set_cons_zero, List.set_cons_succ]
                        refine take_at (i := 21) 261 (v := ?_) rfl rfl (by kernel_rfl) (by kernel_rfl) (by kernel_rfl) (fun _ _ _ h => h) (by rfl) ?_ hHeld ?_
                        rotate_left
                        · (intro w hSw; (try dsimp only at hSw); go_simp; try with_reducible rfl)
                        simp only [Act.put, List.setIfInBounds_toArray, List.set_cons_zero, List.set_cons_succ]
                        refine take_at (i := 22) 262 (v := ?_) rfl rfl (by kernel_rfl) (by kernel_rfl) (by kernel_rfl) (fun _ _ _ h => h) (by rfl) ?_ hHeld ?_
                        rotate_left
                        · (intro w hSw; (try dsimp only at hSw); go_simp; try with_reducible rfl)
                        simp only [Act.put, List.setIfInBounds_toArray, List.set_cons_zero, List.set_cons_succ]
                        refine take_at (i := 23) 263 (v := .bool true) rfl rfl (by kernel_rfl) (by kernel_rfl) (by kernel_rfl) (fun _ _ _ h => h) (by rfl) ?_ hHeld ?_
                        · (intro w hSw; (try dsimp only at hSw); go_simp; try (first | exact hm0n | (simp; omega)))
                        simp only [Act.put, List.setIfInBounds_toArray, List.set_cons_zero, List.set_cons_succ]
                        refine take_at (i := 24) 264 (v := ?_) rfl rfl (by kernel_rfl) (by kernel_rfl) (by kernel_rfl) (fun _ _ _ h => h) (by rfl) ?_ hHeld ?_
                        rotate_left
                        · (intro w hSw; (try dsimp only at hSw); go_simp; try with_reducible rfl)
                        simp only [Act.put, List.setIfInBounds_toArray, List.set_cons_zero, List.set_cons_succ]
                        refine take_at (i := 25) 265 (v := ?_) rfl rfl (by kernel_rfl) (by kernel_rfl) (by kernel_rfl) (fun _ _ _ h => h) (by rfl) ?_ hHeld ?_
                        rotate_left
                        · (intro w hSw; (try dsimp only at hSw); go_simp; try with_reducible rfl)
                        simp only [Act.put, List.setIfInBounds_toArray, List.set_cons_zero, List.set_cons_succ]
                        refine take_at (i := 26) 266 (v := ?_) rfl rfl (by kernel_rfl) (by kernel_rfl) (by kernel_rfl) (fun _ _ _ h => h) (by rfl) ?_ hHeld ?_
                        rotate_left
                        · (intro w hSw; (try dsimp only at hSw); go_simp; try with_reducible rfl)
                        simp only [Act.put, List.setIfInBounds_toArray, List.set_cons_zero, List.set_cons_succ]
                        refine take_at (i := 27) 267 (v := ?_) rfl rfl (by kernel_rfl) (by kernel_rfl) (by kernel_rfl) (fun _ _ _ h => h) (by rfl) ?_ hHeld ?_
                        rotate_left
                        · (intro w hSw; (try dsimp only at hSw); go_simp; try with_reducible rfl)
                        simp only [Act.put, List.setIfInBounds_toArray, List.set_cons_zero, List.set_cons_succ]
                        refine take_at (i := 28) 268 (v := sv (y1, y2)) rfl rfl (by kernel_rfl) (by kernel_rfl) (by kernel_rfl) (fun _ _ _ h => h) (by rfl) ?_ hHeld ?_
                        · (intro w hSw; refine exec_load (by rfl) ?_; exact hl4 w hSw)
                        simp only [Act.put, List.setIfInBounds_toArray, List.set_cons_zero, List.set_cons_succ]
                        refine take_at (i := 29) 269 (v := sv (s1, s2)) rfl rfl (by kernel_rfl) (by kernel_rfl) (by kernel_rfl) (fun _ _ _ h => h) (by rfl) ?_ hHeld ?_
                        · (intro w hSw; refine exec_load (by rfl) ?_; exact hl3 w hSw)
                        simp only [Act.put, List.setIfInBounds_toArray, List.set_cons_zero, List.set_cons_succ]
                        refine take_at (i := 30) 270 (v := .bool pk) rfl rfl (by kernel_rfl) (by kernel_rfl) (by kernel_rfl) (fun _ _ _ h => h) (by rfl) ?_ hHeld ?_
                        · (intro w hSw; (try dsimp only at hSw); go_simp; rw [HPK.out]; by_cases e1 : y1 = s1 <;> by_cases e2 : y2 = s2 <;> simp [e1, e2, Int.natCast_inj])
                        simp only [Act.put, List.setIfInBounds_toArray, List.set_cons_zero, List.set_cons_succ]
                        refine take_at (i := 31) 271 (v := ?_) rfl rfl (by kernel_rfl) (by kernel_rfl) (by kernel_rfl) (fun _ _ _ h => h) (by rfl) ?_ hHeld ?_
                        rotate_left
                        · (intro w hSw; (try dsimp only at hSw); go_simp; try with_reducible rfl)
                        simp only [Act.put, List.setIfInBounds_toArray, List.set_cons_zero, List.set_cons_succ]
                        refine take_at (i := 32) 272 (v := .bool true) rfl rfl (by kernel_rfl) (by kernel_rfl) (by kernel_rfl) (fun _ _ _ h => h) (by rfl) ?_ hHeld ?_
                        · (intro w hSw; (try dsimp only at hSw); go_simp; try simp)
                        simp only [Act.put, List.setIfInBounds_toArray, List.set_cons_zero, List.set_cons_succ]
                        refine take_at (i := 33) 273 (v := ?_) rfl rfl (by kernel_rfl) (by kernel_rfl) (by kernel_rfl) (fun _ _ _ h => h) (by rfl) ?_ hHeld ?_
                        rotate_left
                        · (intro w hSw; (try dsimp only at hSw); go_simp; try with_reducible rfl)
                        simp only [Act.put, List.setIfInBounds_toArray, List.set_cons_zero, List.set_cons_succ]
                        refine run_at (i := 34) rfl (by kernel_rfl) (by rfl) (fun K hK => ?_)
                        simp only [List.getElem_toArray, List.getElem_cons_zero, List.getElem_cons_succ]
                        go_simp
                        go_wp2_with fail
                        refine hK.out _ _ (by first | assumption | exact Agr.drew _ _ | exact (Agr.drew _ _).set _ | exact Agr.setd (fun _ _ => rfl) _) ?_
                        clear hK K
                        intro hHeld2
                        clear hHeld
                        have hHeld := hHeld2
                        clear hHeld2
                        try simp only [Act.put, List.setIfInBounds_toArray, List.set_cons_zero, List.set_cons_succ]
                        refine wpAnyH_done (by kernel_rfl) ?_ _
                        refine NoPanic.normal ?_
                        go_wp2_with fail
                        refine ⟨by simp, .inl ⟨_, _, rfl, run_takeDeferred (HEND.out _ rfl).2.2.2, ?_⟩⟩
                        refine ⟨by simp, .inl ⟨_, _, rfl, run_takeDeferred ((World.putObj_heap_other (by omega)).trans (HEND.out _ rfl).2.2.1), ?_⟩⟩
                        exact ⟨_, results_cb rfl _ ((World.putObj_heap_other (by omega)).trans ((World.putObj_heap_other (by omega)).trans (HEND.out _ rfl).1)) rfl, rfl, by
                          have h9 := (HEND.out _ rfl).2.1
                          have h8 := h9.trans (belowK_b (w := W) (Nat.le_of_eq HB0W.out) _ Dy _ (.deferred none) (by have := HB0W.out; omega) (HEND.out _ rfl).2.2.2 rfl rfl)
                          exact h8.trans (belowK_b (w := W) (Nat.le_of_eq HB0W.out) _ Dz _ (.deferred none) (by have := HB0W.out; omega) ((World.putObj_heap_other (by omega)).trans (HEND.out _ rfl).2.2.1) rfl rfl)⟩
end
end Go.Proofs.Ytnhjkipaclchiaa
