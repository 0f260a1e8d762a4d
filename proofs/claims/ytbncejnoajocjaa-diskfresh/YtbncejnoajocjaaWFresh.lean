import Derived.Test.YtbncejnoajocjaaDOver
namespace Go.Proofs.Ytbncejnoajocjaa
set_option linter.unusedVariables false
set_option linter.unusedSimpArgs false
open Go.RowKit Go.Maps
set_option maxRecDepth 20000 in
set_option maxHeartbeats 1600000 in
theorem diskFresh_walk (n0 n1 : Int) (a c : UInt8) (n4 : Int) (W : World) (h0 : -9223372036854775808 ≤ n0 ∧ n0 ≤ 9223372036854775807) (h1 : -9223372036854775808 ≤ n1 ∧ n1 ≤ 9223372036854775807) (h4 : -9223372036854775808 ≤ n4 ∧ n4 ≤ 9223372036854775807) :
    Calls Try.prog 6 #[.int .i64 n0, .int .i64 n1, .int .u8 (a.toNat : Int), .int .u8 (c.toNat : Int), .int .i64 n4] W fun e W' => e = .returned (.bool true) ∧ Below W.heap.size W W' := by
  obtain ⟨N, hN⟩ : ∃ N : Nat, N = spanS n0 2 65536 := ⟨_, rfl⟩
  have hNin := spanS_in n0 2 65536 (by decide)
  rw [← hN] at hNin
  obtain ⟨hN1, hN2⟩ := hNin
  have HSP : Hid (∀ u, Calls Try.prog 14 #[.int .i64 n0, .int .i64 2, .int .i64 65536] u fun e w' => e = .returned (.int .i64 (N : Int)) ∧ w' = u) := fun u => by rw [hN]; exact span_t n0 2 65536 u h0.1 h0.2 (by decide) (by decide)
  obtain ⟨K, hK⟩ : ∃ K : Nat, K = N - 2 := ⟨_, rfl⟩
  have hKw : IntKind.i64.wrap ((N : Int) - 2) = (K : Int) := by rw [IntKind.wrap_i64]; omega
  obtain ⟨i, hi⟩ : ∃ i : Nat, i = spanS n1 0 K := ⟨_, rfl⟩
  have hiK := spanS_in n1 0 K (Nat.zero_le _)
  rw [← hi] at hiK
  have HSQ : Hid (∀ u, Calls Try.prog 14 #[.int .i64 n1, .int .i64 0, .int .i64 (K : Int)] u fun e w' => e = .returned (.int .i64 (i : Int)) ∧ w' = u) := fun u => by rw [hi]; exact span_t n1 0 K u h1.1 h1.2 (Nat.zero_le _) (by omega)
  have HiN : Hid (i + 1 < N) := by unfold Hid; omega
  have hiw : IntKind.i64.wrap ((i : Int) + 1) = ((i + 1 : Nat) : Int) := by rw [IntKind.wrap_i64]; omega
  obtain ⟨E, hE⟩ : ∃ E : Nat, E = spanS n4 0 1 := ⟨_, rfl⟩
  have hE1 := spanS_in n4 0 1 (by decide)
  rw [← hE] at hE1
  have hE2 : E ≤ 1 := hE1.2
  have HSR : Hid (∀ u, Calls Try.prog 14 #[.int .i64 n4, .int .i64 0, .int .i64 1] u fun e w' => e = .returned (.int .i64 (E : Int)) ∧ w' = u) := fun u => by rw [hE]; exact span_t n4 0 1 u h4.1 h4.2 (by decide) (by decide)
  obtain ⟨A, hA⟩ : ∃ A : Nat, A = a.toNat := ⟨_, rfl⟩
  have hA1 : A < 256 := by rw [hA]; exact a.toNat_lt
  have hAw : IntKind.i64.wrap (A : Int) = (A : Int) := by rw [IntKind.wrap_i64]; omega
  rw [← hA]
  have hc1 : c.toNat < 256 := c.toNat_lt
  have hcw : IntKind.u8.wrap ((c.toNat : Int) + 1) = ((c + 1).toNat : Int) := by
    rw [UInt8.toNat_add]
    simp [IntKind.wrap, IntKind.signed, IntKind.bits]
  obtain ⟨S, hS⟩ : ∃ S : List Sec, S = List.replicate N Sec.zero := ⟨_, rfl⟩
  have HSl : Hid (S.length = N) := by unfold Hid; rw [hS, List.length_replicate]
  have hSf : ∀ s ∈ S, s.fit := by rw [hS]; exact rep_fit N
  have HSz : Hid (∀ k (h : k < S.length), S[k] = Sec.zero) := fun k h => by simp [hS]
  have HNE : Hid (Calls Try.prog 9 #[.int .i64 (N : Int)] W fun e w' => e = .returned (.tuple #[.pointer (some ⟨W.heap.size + 2, 0, none⟩), .int .i64 0]) ∧ NewAt w' (W.heap.size + 2) W.heap.size (W.heap.size + 1) S ∧ Below W.heap.size W w') := by
    refine Calls.mono (new_t N (by omega) (by omega) W) ?_
    rintro e w' ⟨rfl, rfl⟩
    exact ⟨rfl, by rw [hS]; exact newW_at W N (by omega) (by omega), newW_below W N⟩
  clear hN hK hi hE hE1 hA hS hiK hc1
  go_enter Try.func6, Try.ntmps6
  go_wp2_with (first | (go_at_call 14; refine (HSP.out _).mono ?_; rintro e w2 ⟨rfl, hq⟩; have hq := hq.symm; subst hq))
  refine HNE.out.mono ?_
  rintro e w1 ⟨rfl, hat1, hb1⟩
  obtain ⟨P, hP⟩ : ∃ P : Nat, P = W.heap.size + 2 := ⟨_, rfl⟩
  obtain ⟨Q, hQ⟩ : ∃ Q : Nat, Q = W.heap.size + 1 := ⟨_, rfl⟩
  obtain ⟨G, hG⟩ : ∃ G : Nat, G = W.heap.size := ⟨_, rfl⟩
  rw [← hP, ← hQ, ← hG] at hat1
  rw [← hP]
  have hdk1 := hat1.dk hSf
  have hPW : W.heap.size ≤ P ∧ W.heap.size ≤ Q ∧ W.heap.size ≤ G := by omega
  have HPW : Hid _ := hPW
  have hP1 : P < w1.heap.size := hdk1.lt (.inl rfl)
  have hs1 := hb1.size
  clear hP hQ hG hat1 hPW
  go_wp2_with (first | (go_at_call 14; refine (HSQ.out _).mono ?_; rintro e w2 ⟨rfl, hq⟩; have hq := hq.symm; subst hq))
  refine (fill_t A w1 (by omega)).mono ?_
  rintro e w2 ⟨B, rfl, hB1, hrow2, hb2⟩
  obtain ⟨F, hF⟩ : ∃ F : List UInt8, F = fillS A := ⟨_, rfl⟩
  have HFl : Hid (F.length = 128) := by unfold Hid; rw [hF]; exact fillS_len A
  rw [← hF] at hrow2
  have HF : Hid _ := hF
  have hBW : W.heap.size ≤ B := by omega
  have HWR : Hid (Calls Try.prog 16 #[.pointer (some ⟨P, 0, none⟩), .int .i64 (i : Int), .slice (some ⟨B, 0, none⟩) 128 128] w2 fun e w' => e = .returned (.int .i64 0) ∧ ∃ v, DK w' P G Q S (upd (fun _ => []) i ([] ++ [F])) (upd (fun _ => nilS) i v) (begO false (-1)) (begF false (-1)) (0 + 1) ∧ Chg (fun b => b = P ∨ b = Q ∨ nilS.ownBlock = some b) w2 w' ∧ (nilS.ownBlock = v.ownBlock ∨ ∃ b, v.ownBlock = some b ∧ w2.heap.size ≤ b)) :=
    write_t P G Q i S (fun _ => []) (fun _ => nilS) false (-1) 0 (some ⟨B, 0, none⟩) 128 F w2 (hdk1.below hb2) (by decide) (by have := HSl.out; have := HiN.out; omega) rfl (rd_row hrow2) HFl.out (fun a ha => by cases ha; show B ≠ P; omega)
  have hw2 : Below W.heap.size W w2 := hb1.trans (hb2.mono hb1.size)
  have hBf : ∀ b, foot P G Q (fun _ => nilS) b → b ≠ B := fun b hb e => by subst e; exact (hdk1.below hb2).not5 hb hrow2
  have hBf2 : B ≠ P ∧ B ≠ Q := ⟨fun e => hBf P (.inl rfl) e.symm, fun e => hBf Q (.inr (.inr (.inl rfl))) e.symm⟩
  have HBf2 : Hid _ := hBf2
  have HB2 : Hid _ := hw2
  have HR2 : Hid _ := hrow2
  have HPW1 : Hid (P < w1.heap.size) := hP1
  clear hF hdk1 hb1 hb2 hw2 hs1 hB1 hBf hBf2 hP1
  clear hrow2
  go_wp2_with fail
  refine HWR.out.mono ?_
  rintro e w3 ⟨rfl, v3, hdk3, hc3, -⟩
  have hF3 : ∀ b, (b = P ∨ b = Q ∨ nilS.ownBlock = some b) → W.heap.size ≤ b := by
    have := HPW.out
    rintro b (rfl | rfl | hb)
    · omega
    · omega
    · simp [nilS, Value.ownBlock] at hb
  have hw3 : Below W.heap.size W w3 := Below.trans HB2.out (hc3.below hF3 (Below.size HB2.out))
  have hrow3 : w3.heap[B]? = some (.cells (bv F).toArray 5 (0, 0)) := by
    refine (hc3.block B (Array.getElem?_eq_some_iff.1 HR2.out).1 ?_).trans HR2.out
    rintro (e | e | e)
    · exact HBf2.out.1 e
    · exact HBf2.out.2 e
    · simp [nilS, Value.ownBlock] at e
  obtain ⟨C1, hC1⟩ : ∃ C : Nat → List (List UInt8), C = upd (fun _ => []) i ([] ++ [F]) := ⟨_, rfl⟩
  obtain ⟨V1, hV1⟩ : ∃ V : Nat → Value, V = upd (fun _ => nilS) i v3 := ⟨_, rfl⟩
  rw [← hC1, ← hV1] at hdk3
  have hdk3' : DK w3 P G Q S C1 V1 false (-1) 1 := hdk3
  have HC1 : Hid _ := hC1
  have HV1 : Hid _ := hV1
  clear hdk3 hC1 hV1 hc3 HWR HNE
  go_wp2_with fail
  go_loopw [16] (fun j wr => ∃ k : Nat, k ≤ 128 ∧ j = .int .i64 k ∧ wr.heap[B]? = some (.cells (bv (mix c F k)).toArray 5 (0, 0)) ∧ DK wr P G Q S C1 V1 false (-1) 1 ∧ Below W.heap.size W wr) (fun j _ => 128 - (intOf j).toNat)
  case atStart => exact ⟨0, Nat.zero_le _, rfl, by rw [mix_none]; exact hrow3, hdk3', hw3⟩
  case round =>
    obtain ⟨k, hk, rfl, hrow, hdk, hbk⟩ := hrel
    clear hrow3 hdk3' hw3
    have HDk : Hid _ := hdk
    clear hdk
    have hMl := mix_len c F k (by rw [HFl.out]; exact hk)
    rw [HFl.out] at hMl
    by_cases hlt : k < 128
    · obtain ⟨u0, hu0⟩ := byte_at hrow k (by rw [hMl]; exact hlt)
      have hf0 := frozen_of_row wr B k _ _ hrow
      have hk0 : (0 : Int) ≤ (k : Int) := by omega
      have hk1 : (k : Int) < (128 : Int) := by omega
      have HNX : Hid _ := set_byte hrow k c
      rw [mix_step c F k (by rw [HFl.out]; exact hlt)] at HNX
      have HDX : Hid _ := DK.over HDk.out hrow (set_chg wr B k (.int .u8 (c.toNat : Int)))
      clear hrow hMl
      go_wp2_with fail
      go_roundw
      case rel => exact ⟨k + 1, by omega, by go_num, HNX.out, HDX.out, hbk.setCell (p := ⟨B, k, none⟩) hBW _⟩
      case measure => simp [intOf]; omega
    · obtain rfl : k = 128 := by omega
      rw [mix_all c F 128 HFl.out] at hrow
      obtain ⟨Z, hZ⟩ : ∃ Z : List UInt8, Z = List.replicate 128 c := ⟨_, rfl⟩
      rw [← hZ] at hrow
      have HZ : Hid _ := hZ
      have HZl : Hid (Z.length = 128) := by unfold Hid; rw [hZ, List.length_replicate]
      have HV2 : Hid (V1 (i + 1) = nilS) := by unfold Hid; rw [HV1.out]; exact upd_other _ (by omega) _
      have HC2 : Hid (C1 (i + 1) = []) := by unfold Hid; rw [HC1.out]; exact upd_other _ (by omega) _
      have hBP : B ≠ P ∧ B ≠ Q := HBf2.out
      have HWR : Hid (Calls Try.prog 16 #[.pointer (some ⟨P, 0, none⟩), .int .i64 ((i + 1 : Nat) : Int), .slice (some ⟨B, 0, none⟩) 128 128] wr fun e w' => e = .returned (.int .i64 0) ∧ ∃ v, DK w' P G Q S (upd C1 (i + 1) ([] ++ [Z])) (upd V1 (i + 1) v) (begO false (-1)) (begF false (-1)) (1 + 1) ∧ Chg (fun b => b = P ∨ b = Q ∨ nilS.ownBlock = some b) wr w' ∧ (nilS.ownBlock = v.ownBlock ∨ ∃ b, v.ownBlock = some b ∧ wr.heap.size ≤ b)) := by
        have h9 := write_t P G Q (i + 1) S C1 V1 false (-1) 1 (some ⟨B, 0, none⟩) 128 Z wr HDk.out (by decide) (by have := HSl.out; have := HiN.out; omega) rfl (rd_row hrow) HZl.out (fun a ha => by cases ha; exact hBP.1)
        rw [HC2.out, HV2.out] at h9
        exact h9
      have HRw : Hid _ := hrow
      clear hZ hMl hrow hBP
      go_wp2_with fail
      refine HWR.out.mono ?_
      rintro e w4 ⟨rfl, v4, hdk4, hc4, -⟩
      have hw4 : Below W.heap.size W w4 := hbk.trans (hc4.below hF3 hbk.size)
      have hrow4 : w4.heap[B]? = some (.cells (bv Z).toArray 5 (0, 0)) := by
        refine (hc4.block B (Array.getElem?_eq_some_iff.1 HRw.out).1 ?_).trans HRw.out
        rintro (e | e | e)
        · exact HBf2.out.1 e
        · exact HBf2.out.2 e
        · simp [nilS, Value.ownBlock] at e
      obtain ⟨C2, hC2⟩ : ∃ C : Nat → List (List UInt8), C = upd C1 (i + 1) ([] ++ [Z]) := ⟨_, rfl⟩
      obtain ⟨V2, hV2⟩ : ∃ V : Nat → Value, V = upd V1 (i + 1) v4 := ⟨_, rfl⟩
      rw [← hC2, ← hV2] at hdk4
      have hdk4' : DK w4 P G Q S C2 V2 false (-1) 2 := hdk4
      have HCi : Hid (C2 i = [F]) := by unfold Hid; rw [hC2, upd_other _ (by omega), HC1.out, upd_same]; rfl
      have HCj : Hid (C2 (i + 1) = [Z]) := by unfold Hid; rw [hC2, upd_same]; rfl
      have HCo : Hid (∀ k, C2 k ≠ [] ↔ k = i ∨ k = i + 1) := by
        intro k
        by_cases e1 : k = i
        · subst e1; rw [HCi.out]; simp
        · by_cases e2 : k = i + 1
          · subst e2; rw [HCj.out]; simp
          · rw [hC2, upd_other _ e2, HC1.out, upd_other _ e1]; simp [e1, e2]
      clear hdk4 hC2 hV2 hc4 HWR hbk HDk HRw
      go_wp2_with fail
      go_loopw [17] (fun j wr => ∃ k : Nat, k ≤ 128 ∧ j = .int .i64 k ∧ (∃ xs : List UInt8, xs.length = 128 ∧ wr.heap[B]? = some (.cells (bv xs).toArray 5 (0, 0))) ∧ DK wr P G Q S C2 V2 false (-1) 2 ∧ Below W.heap.size W wr) (fun j _ => 128 - (intOf j).toNat)
      case atStart => exact ⟨0, Nat.zero_le _, rfl, ⟨Z, HZl.out, hrow4⟩, hdk4', hw4⟩
      case round =>
        obtain ⟨k, hk, rfl, ⟨xs, hxl, hrow⟩, hdk, hbk⟩ := hrel
        clear hrow4 hdk4' hw4
        have HDk : Hid _ := hdk
        clear hdk
        by_cases hlt : k < 128
        · obtain ⟨u0, hu0⟩ := byte_at hrow k (by rw [hxl]; exact hlt)
          have hf0 := frozen_of_row wr B k _ _ hrow
          have hk0 : (0 : Int) ≤ (k : Int) := by omega
          have hk1 : (k : Int) < (128 : Int) := by omega
          have HNX : Hid _ := set_byte hrow k (c + 1)
          have HDX : Hid _ := DK.over HDk.out hrow (set_chg wr B k (.int .u8 ((c + 1).toNat : Int)))
          have HXL : Hid ((xs.set k (c + 1)).length = 128) := by unfold Hid; rw [List.length_set]; exact hxl
          clear hrow hxl
          go_wp2_with fail
          go_roundw
          case rel => exact ⟨k + 1, by omega, by go_num, ⟨_, HXL.out, HNX.out⟩, HDX.out, hbk.setCell (p := ⟨B, k, none⟩) hBW _⟩
          case measure => simp [intOf]; omega
        · clear hrow hxl
          go_wp2_with (first | (go_at_call 14; refine (HSR.out _).mono ?_; rintro e w5 ⟨rfl, hq⟩; have hq := hq.symm; subst hq))
          obtain ⟨L, hL⟩ : ∃ L : Nat, L = wr.heap.size := ⟨_, rfl⟩
          obtain ⟨X, hX⟩ : ∃ X : World, X = wr.alloc (.cells #[.int .i64 1, .int .i64 (E : Int)] 3) := ⟨_, rfl⟩
          have hLX : X.heap[L]? = some (.cells #[.int .i64 1, .int .i64 (E : Int)] 3 (0, 0)) := by rw [hX, hL]; exact heap_alloc_new wr _
          have hXb : Below wr.heap.size wr X := by rw [hX]; exact al (Below.refl _ _) _
          have hdX : DK X P G Q S C2 V2 false (-1) 2 := DK.below HDk.out hXb
          have hfl : ∀ b, foot P G Q V2 b → b ≠ L := fun b hb e => by subst e; have := DK.lt HDk.out hb; omega
          have hWL : W.heap.size ≤ L := by rw [hL]; exact hbk.size
          have hLP : L ≠ P ∧ L ≠ G ∧ L ≠ Q := ⟨fun e => hfl P (.inl rfl) e.symm, fun e => hfl G (.inr (.inl rfl)) e.symm, fun e => hfl Q (.inr (.inr (.inl rfl))) e.symm⟩
          have hwX : Below W.heap.size W X := hbk.trans (hXb.mono hbk.size)
          have HCR : Hid _ := crash_t P G Q S C2 V2 false (-1) 2 (some ⟨L, 0, none⟩) 2 [1, (E : Int)] X hdX (ints_row hLX) (fun q hq => by cases hq; exact hLP)
          obtain ⟨T, hT⟩ : ∃ T : List Sec, T = crashed S C2 [1, (E : Int)] := ⟨_, rfl⟩
          have HTl : Hid (T.length = N) := by unfold Hid; rw [hT, crashed_len]; exact HSl.out
          obtain ⟨hT1, hT2⟩ := crash_two (S := S) (E := E) (by rw [HSl.out]; exact HiN.out) HSz.out HCo.out HCi.out HCj.out hE2
          have hTi : ∃ h : i < T.length, T[i] = ⟨F, false⟩ := ⟨by have := HTl.out; have := HiN.out; omega, by simp only [hT]; exact hT1⟩
          have hTj : ∃ h : i + 1 < T.length, T[i + 1] = ⟨if E = 1 then Z else List.replicate 128 0, false⟩ := ⟨by have := HTl.out; have := HiN.out; omega, by simp only [hT]; exact hT2⟩
          have HTi : Hid _ := hTi
          have HTj : Hid _ := hTj
          have HLX : Hid _ := hLX
          have HLP : Hid _ := hLP
          rw [← hT] at HCR
          rw [← hX, ← hL]
          clear hL hX hXb hdX hfl hT hT1 hT2 hTi hTj hLX hLP hbk HDk
          refine Calls.mono HCR.out ?_
          rintro e w6 ⟨rfl, hdk6, hc6⟩
          have hw6 : Below W.heap.size W w6 := hwX.trans (hc6.below (fun b hb => by have := HPW.out; rcases hb with rfl | rfl | rfl <;> omega) hwX.size)
          have hL6 : w6.heap[L]? = some (.cells #[.int .i64 1, .int .i64 (E : Int)] 3 (0, 0)) := (hc6.block L (Array.getElem?_eq_some_iff.1 HLX.out).1 (fun e => e.elim HLP.out.1 (fun e => e.elim HLP.out.2.1 HLP.out.2.2))).trans HLX.out
          have hd0 : w6.cell? ⟨L, 0, none⟩ = some (.int .i64 1) := by rw [cell_of_row _ _ 0 _ _ _ hL6]; rfl
          have hd1 : w6.cell? ⟨L, 1, none⟩ = some (.int .i64 (E : Int)) := by rw [cell_of_row _ _ 1 _ _ _ hL6]; rfl
          have hf0 := frozen_of_row w6 L 0 _ _ hL6
          have hf1 := frozen_of_row w6 L 1 _ _ hL6
          have hc7 : Chg (fun b => b = L) w6 ((w6.setCell ⟨L, 0, none⟩ (.int .i64 0)).setCell ⟨L, 1, none⟩ (.int .i64 0)) := (set_chg w6 L 0 (.int .i64 0)).trans (set_chg _ L 1 (.int .i64 0)) (fun k hk => .inl hk)
          have hnf : ∀ b, foot P G Q (fun _ => nilS) b → b ≠ L := by
            rintro b (rfl | rfl | rfl | ⟨j, e⟩) h9
            · exact HLP.out.1 h9.symm
            · exact HLP.out.2.1 h9.symm
            · exact HLP.out.2.2 h9.symm
            · simp [nilS, Value.ownBlock] at e
          have HD7 : Hid _ := hdk6.kept hc7 hnf
          have HB7 : Hid _ := hw6.trans (hc7.below (B := W.heap.size) (fun b hb => by rw [hb]; exact hWL) hw6.size)
          clear hL6 hdk6 hc6 hw6 hwX HCR hc7 hnf
          go_wp2_with fail
          obtain ⟨w7, hw7⟩ : ∃ u : World, u = (w6.setCell ⟨L, 0, none⟩ (.int .i64 0)).setCell ⟨L, 1, none⟩ (.int .i64 0) := ⟨_, rfl⟩
          rw [← hw7] at HD7 HB7 ⊢
          clear hw7 hd0 hd1 hf0 hf1
          obtain ⟨hti, hTi⟩ := HTi.out
          obtain ⟨htj, hTj⟩ := HTj.out
          obtain ⟨Y, hY⟩ : ∃ Y : List UInt8, Y = if E = 1 then Z else List.replicate 128 0 := ⟨_, rfl⟩
          rw [← hY] at hTj
          have HY : Hid _ := hY
          have HYl : Hid (Y.length = 128) := by
            unfold Hid
            rw [hY]
            split
            · exact HZl.out
            · exact List.length_replicate
          have HRD1 : Hid (Calls Try.prog 15 #[.pointer (some ⟨P, 0, none⟩), .int .i64 (i : Int)] w7 fun e w' => ∃ v, e = .returned (.tuple #[v, .int .i64 0]) ∧ Own w' w7.heap.size v F ∧ Below w7.heap.size w7 w') := by
            have h9 := clean_read HD7.out i hti
            rw [hTi] at h9
            exact h9
          have HRD2 : Hid (∀ u, Below w7.heap.size w7 u → Calls Try.prog 15 #[.pointer (some ⟨P, 0, none⟩), .int .i64 ((i + 1 : Nat) : Int)] u fun e w' => ∃ v, e = .returned (.tuple #[v, .int .i64 0]) ∧ Own w' u.heap.size v Y ∧ Below u.heap.size u w') := by
            intro u hu
            have h9 := clean_read (DK.below HD7.out hu) (i + 1) htj
            rw [hTj] at h9
            exact h9
          clear hY hti hTi htj hTj
          refine HRD1.out.mono ?_
          rintro e w8 ⟨v8, rfl, hown8, hb8⟩
          obtain ⟨ax, cx, rfl, -, -, -, hrx, hbx⟩ := hown8.val
          have HRX : Hid _ := hrx
          have HBX : Hid _ := hbx
          have HFl2 := HFl.out
          rw [HFl2]
          clear hown8 hrx hbx HFl2
          go_wp2_with fail
          refine (HRD2.out _ hb8).mono ?_
          rintro e w9 ⟨v9, rfl, hown9, hb9⟩
          obtain ⟨ay, cy, rfl, -, -, -, hry, hby⟩ := hown9.val
          have HRY : Hid _ := hry
          have HBY : Hid _ := hby
          have HYl2 := HYl.out
          rw [HYl2]
          clear hown9 hry hby HYl2
          have hmk : ∀ w, (Instr.makeSlice 28 (.int .i64 128) (.int .i64 128)).run Try.prog w = .ok (.slice (some ⟨w.heap.size, 0, none⟩) 128 128) (w.alloc (.cells (List.replicate 128 (Value.int .u8 0)).toArray 5)) := fun w => make_bytes 128 (by decide) w
          obtain ⟨O, hO⟩ : ∃ O : List UInt8, O = List.replicate 128 0 := ⟨_, rfl⟩
          have HO : Hid _ := hO
          have HOl : Hid (O.length = 128) := by unfold Hid; rw [hO, List.length_replicate]
          obtain ⟨OA, hOA⟩ : ∃ OA : Array Value, OA = (List.replicate 128 (Value.int .u8 0)).toArray := ⟨_, rfl⟩
          have HOA : Hid (OA = (bv O).toArray) := by unfold Hid; rw [hOA, hO]; unfold bv; rw [List.map_replicate]; rfl
          rw [← hOA] at hmk
          clear hO hOA
          obtain ⟨D, hD⟩ : ∃ D : Nat, D = w9.heap.size := ⟨_, rfl⟩
          obtain ⟨U, hU⟩ : ∃ U : World, U = w9.alloc (.cells OA 5) := ⟨_, rfl⟩
          have HDR : Hid (U.heap[D]? = some (.cells (bv O).toArray 5 (0, 0))) := by unfold Hid; rw [hU, hD, HOA.out]; exact heap_alloc_new w9 _
          have hUb : Below w9.heap.size w9 U := by rw [hU]; exact al (Below.refl _ _) _
          have hs9 := hb9.size
          have hs8 := hb8.size
          have hsW := Below.size HB7.out
          have hb79 : Below w7.heap.size w7 w9 := below_next hb8 hb9
          have HXU : Hid (Rd U ax F) := (Rd.below (Rd.below HRX.out hb9) hUb)
          have HYU : Hid (Rd U ay Y) := Rd.below HRY.out hUb
          have HDU : Hid (DK U P G Q T (fun _ => []) (fun _ => nilS) false (-1) 0) := DK.below (DK.below HD7.out hb79) hUb
          have HBU : Hid (Below W.heap.size W U) := by
            have h9 : Below W.heap.size W w9 := Below.trans HB7.out (hb79.mono hsW)
            exact h9.trans (hUb.mono h9.size)
          have hWD : W.heap.size ≤ D := by omega
          have HAX : Hid (∀ q, ax = some q → q.block ≠ D) := fun q hq => by have := (HBX.out q hq).2; omega
          have HAY : Hid (∀ q, ay = some q → q.block ≠ D) := fun q hq => by have := (HBY.out q hq).2; omega
          clear hUb hs9 hs8 hsW hb79 hb8 hb9
          by_cases hEE : E = 1
          · subst hEE
            have HYZ : Hid (Y = Z) := by unfold Hid; rw [HY.out]; simp
            go_wp2_with (first | (go_at_call 14; refine (HSR.out _).mono ?_; rintro e w5 ⟨rfl, hq⟩; have hq := hq.symm; subst hq))
            rw [← hU, ← hD]
            clear hU hD
            go_loopw [24] (fun j wr => ∃ k : Nat, k ≤ 128 ∧ j = .int .i64 k ∧ wr.heap[D]? = some (.cells (bv (mix c O k)).toArray 5 (0, 0)) ∧ Rd wr ax F ∧ Rd wr ay Y ∧ DK wr P G Q T (fun _ => []) (fun _ => nilS) false (-1) 0 ∧ Below W.heap.size W wr) (fun j _ => 128 - (intOf j).toNat)
            case atStart => exact ⟨0, Nat.zero_le _, rfl, by rw [mix_none]; exact HDR.out, HXU.out, HYU.out, HDU.out, HBU.out⟩
            case round =>
              obtain ⟨k, hk, rfl, hrow, hrx, hry, hdk, hbk⟩ := hrel
              clear HDR HXU HYU HDU HBU
              have HRx : Hid _ := hrx
              have HRy : Hid _ := hry
              have HDk : Hid _ := hdk
              clear hdk hrx hry
              have hMl := mix_len c O k (by rw [HOl.out]; exact hk)
              rw [HOl.out] at hMl
              by_cases hlt : k < 128
              · obtain ⟨u0, hu0⟩ := byte_at hrow k (by rw [hMl]; exact hlt)
                have hf0 := frozen_of_row wr D k _ _ hrow
                have hk0 : (0 : Int) ≤ (k : Int) := by omega
                have hk1 : (k : Int) < (128 : Int) := by omega
                have HNX : Hid _ := set_byte hrow k c
                rw [mix_step c O k (by rw [HOl.out]; exact hlt)] at HNX
                have hcg := set_chg wr D k (.int .u8 (c.toNat : Int))
                have HDX : Hid _ := DK.over HDk.out hrow hcg
                have HRx2 : Hid _ := Rd.over HRx.out hcg HAX.out
                have HRy2 : Hid _ := Rd.over HRy.out hcg HAY.out
                clear hrow hMl hcg
                go_wp2_with fail
                go_roundw
                case rel => exact ⟨k + 1, by omega, by go_num, HNX.out, HRx2.out, HRy2.out, HDX.out, hbk.setCell (p := ⟨D, k, none⟩) hWD _⟩
                case measure => simp [intOf]; omega
              · obtain rfl : k = 128 := by omega
                rw [mix_all c O 128 HOl.out, ← HZ.out, ← HYZ.out] at hrow
                clear hMl
                go_wp2_with fail
                have HRow : Hid _ := hrow
                have HBk : Hid _ := hbk
                clear hrow hbk
                refine (fill_t A wr (by omega)).mono ?_
                rintro e x1 ⟨g1, rfl, -, hrow1, hbb1⟩
                rw [← HF.out] at hrow1
                have hfl := HFl.out
                have hyl := HYl.out
                have HB1 : Hid (Calls Try.prog 12 #[.slice ax 128 cx, .slice (some ⟨g1, 0, none⟩) 128 128] x1 fun e w' => e = .returned (.bool true) ∧ Below x1.heap.size x1 w') := by
                  have h9 := byt_n ax (some ⟨g1, 0, none⟩) 128 128 cx 128 F F x1 hfl.symm hfl.symm (Rd.below HRx.out hbb1) (rd_row hrow1) (by rw [hfl]; decide) (by rw [hfl]; decide)
                  rw [beq_self_eq_true] at h9
                  exact h9
                clear hrow1
                go_wp2_with fail
                refine HB1.out.mono ?_
                rintro e x2 ⟨rfl, hbb2⟩
                have hb12 : Below wr.heap.size wr x2 := below_next hbb1 hbb2
                have HB2' : Hid (Calls Try.prog 12 #[.slice ay 128 cy, .slice (some ⟨D, 0, none⟩) 128 128] x2 fun e w' => e = .returned (.bool true) ∧ Below x2.heap.size x2 w') := by
                  have h9 := byt_n ay (some ⟨D, 0, none⟩) 128 128 cy 128 Y Y x2 hyl.symm hyl.symm (Rd.below HRy.out hb12) ((rd_row HRow.out).below hb12) (by rw [hyl]; decide) (by rw [hyl]; decide)
                  rw [beq_self_eq_true] at h9
                  exact h9
                clear hfl hyl HB1
                go_wp2_with fail
                refine HB2'.out.mono ?_
                rintro e x3 ⟨rfl, hbb3⟩
                have hb13 : Below wr.heap.size wr x3 := below_next hb12 hbb3
                have hdk3 := DK.below HDk.out hb13
                have hw3 : Below W.heap.size W x3 := Below.trans HBk.out (hb13.mono (Below.size HBk.out))
                have hTf := hdk3.fit
                have hTo := fit_ok hTf
                have HTf : Hid _ := hTf
                have HTo : Hid _ := hTo
                obtain ⟨M, hM⟩ : ∃ M : Nat, M = (img T).length := ⟨_, rfl⟩
                have hMN : M = N * 129 := by rw [hM, img_len hTo, HTl.out]
                have hM1 : 129 ≤ M := by omega
                have hM2 : M ≤ 8454144 := by omega
                have HIM := image_r P G T x3 hdk3.secAt
                rw [← hM] at HIM
                have HIM : Hid _ := HIM
                have HM : Hid _ := hM
                have HDk3 : Hid _ := hdk3
                have HW3 : Hid _ := hw3
                clear hM hMN hdk3 hb13 hb12 hbb1 hbb2 hbb3 hw3 hTf hTo HDk HBk HRow HRx HRy HB2'
                go_wp2_with fail
                refine Calls.mono HIM.out ?_
                rintro e x4 ⟨rfl, hrow4, hbb4⟩
                obtain ⟨J, hJ⟩ : ∃ J : Nat, J = x3.heap.size := ⟨_, rfl⟩
                rw [← hJ] at hrow4 ⊢
                have hTN := HTl.out
                have HLT : Hid (loadS (img T) = some T) := img_load HTf.out (by omega) (by omega)
                have HLD : Hid (Calls Try.prog 11 #[.slice (some ⟨J, 0, none⟩) M M] x4 fun e w' => LoadOut x4 e w' (some T)) := by
                  have h9 := load_t (some ⟨J, 0, none⟩) M (img T) x4 (rd_row hrow4) (by rw [HM.out]; exact Nat.le_refl _) (by rw [← HM.out]; omega)
                  rw [HLT.out, ← HM.out] at h9
                  exact h9
                have hJW : W.heap.size ≤ J := by rw [hJ]; exact Below.size HW3.out
                have HDk4 : Hid _ := DK.below HDk3.out hbb4
                have HW4 : Hid (Below W.heap.size W x4) := Below.trans HW3.out (hbb4.mono (Below.size HW3.out))
                have HRow4 : Hid _ := hrow4
                clear hJ hTN hrow4 hbb4 HIM HDk3 HW3
                go_wp2_with fail
                refine HLD.out.mono ?_
                rintro e x5 ⟨rfl, hat5, hbb5⟩
                obtain ⟨P2, hP2⟩ : ∃ P : Nat, P = x4.heap.size + 2 := ⟨_, rfl⟩
                obtain ⟨Q2, hQ2⟩ : ∃ Q : Nat, Q = x4.heap.size + 1 := ⟨_, rfl⟩
                obtain ⟨G2, hG2⟩ : ∃ G : Nat, G = x4.heap.size := ⟨_, rfl⟩
                rw [← hP2, ← hQ2, ← hG2] at hat5
                rw [← hP2]
                have HDt : Hid _ := hat5.dk HTf.out
                have HDk5 : Hid _ := DK.below HDk4.out hbb5
                have HW5 : Hid (Below W.heap.size W x5) := Below.trans HW4.out (hbb5.mono (Below.size HW4.out))
                have HRow5 : Hid (x5.heap[J]? = some (.cells (bv (img T)).toArray 5 (0, 0))) := (hbb5.block J (Array.getElem?_eq_some_iff.1 HRow4.out).1).trans HRow4.out
                clear hP2 hQ2 hG2 hat5 hbb5 HLD HDk4 HW4 HRow4
                go_wp2_with fail
                go_loopw [28] (fun j wq => ∃ k : Nat, k ≤ 129 ∧ j = .int .i64 k ∧ wq.heap[J]? = some (.cells (bv (mix 0 (img T) k)).toArray 5 (0, 0)) ∧ DK wq P2 G2 Q2 T (fun _ => []) (fun _ => nilS) false (-1) 0 ∧ DK wq P G Q T (fun _ => []) (fun _ => nilS) false (-1) 0 ∧ Below W.heap.size W wq) (fun j _ => 129 - (intOf j).toNat)
                case atStart => exact ⟨0, Nat.zero_le _, rfl, by rw [mix_none]; exact HRow5.out, HDt.out, HDk5.out, HW5.out⟩
                case round =>
                  obtain ⟨k6, hk6, rfl, hrow, hdt, hdk, hbk⟩ := hrel
                  clear HRow5 HDt HDk5 HW5
                  have HDt : Hid _ := hdt
                  have HDk : Hid _ := hdk
                  clear hdt hdk
                  by_cases hlt6 : k6 < 129
                  · have hMl := mix_len 0 (img T) k6 (by rw [← HM.out]; omega)
                    rw [← HM.out] at hMl
                    obtain ⟨u0, hu0⟩ := byte_at hrow k6 (by rw [hMl]; omega)
                    have hf0 := frozen_of_row wr J k6 _ _ hrow
                    have hk60 : (0 : Int) ≤ (k6 : Int) := by omega
                    have hk61 : (k6 : Int) < (M : Int) := by omega
                    have hk62 : (k6 : Int) < 129 := by omega
                    have HNX : Hid ((World.setCell wr ⟨J, k6, none⟩ (.int .u8 0)).heap[J]? = some (.cells (bv (mix 0 (img T) (k6 + 1))).toArray 5 (0, 0))) := by
                      unfold Hid
                      have h9 := set_byte hrow k6 0
                      rw [mix_step 0 (img T) k6 (by rw [← HM.out]; omega)] at h9
                      exact h9
                    have hcg := set_chg wr J k6 (.int .u8 0)
                    have HDX : Hid _ := DK.over HDt.out hrow hcg
                    have HDY : Hid _ := DK.over HDk.out hrow hcg
                    clear hrow hMl hcg
                    go_wp2_with fail
                    go_roundw
                    case rel => exact ⟨k6 + 1, by omega, by go_num, HNX.out, HDX.out, HDY.out, hbk.setCell (p := ⟨J, k6, none⟩) hJW _⟩
                    case measure => simp [intOf]; omega
                  · obtain rfl : k6 = 129 := by omega
                    have hTN := HTl.out
                    rw [mix_img HTo.out (by omega)] at hrow
                    obtain ⟨T2, hT2⟩ : ∃ T2 : List Sec, T2 = T.set 0 Sec.zero := ⟨_, rfl⟩
                    rw [← hT2] at hrow
                    have hT2f : ∀ s ∈ T2, s.fit := by
                      rw [hT2]
                      intro s hs
                      rcases List.mem_or_eq_of_mem_set hs with h9 | rfl
                      · exact HTf.out s h9
                      · exact Sec.zero_fit
                    have hT2l : T2.length = T.length := by rw [hT2, List.length_set]
                    have HM2 : Hid ((img T2).length = M) := by unfold Hid; rw [img_len (fit_ok hT2f), hT2l, ← img_len HTo.out, HM.out]
                    have HLT2 : Hid (loadS (img T2) = some T2) := img_load hT2f (by omega) (by omega)
                    have HT2f : Hid _ := hT2f
                    have HLD : Hid (Calls Try.prog 11 #[.slice (some ⟨J, 0, none⟩) M M] wr fun e w' => LoadOut wr e w' (some T2)) := by
                      have h9 := load_t (some ⟨J, 0, none⟩) M (img T2) wr (rd_row hrow) (by rw [HM2.out]; exact Nat.le_refl _) (by rw [HM2.out]; omega)
                      rw [HLT2.out, HM2.out] at h9
                      exact h9
                    have HRow : Hid _ := hrow
                    have HBk : Hid _ := hbk
                    clear hrow hbk hT2 hT2f hT2l hTN
                    go_wp2_with fail
                    refine HLD.out.mono ?_
                    rintro e y1 ⟨rfl, hat1, hb1⟩
                    obtain ⟨P3, hP3⟩ : ∃ P : Nat, P = wr.heap.size + 2 := ⟨_, rfl⟩
                    obtain ⟨Q3, hQ3⟩ : ∃ Q : Nat, Q = wr.heap.size + 1 := ⟨_, rfl⟩
                    obtain ⟨G3, hG3⟩ : ∃ G : Nat, G = wr.heap.size := ⟨_, rfl⟩
                    rw [← hP3, ← hQ3, ← hG3] at hat1
                    rw [← hP3]
                    have HIM := image_r P3 G3 T2 y1 hat1.secAt
                    rw [HM2.out] at HIM
                    have HIM : Hid _ := HIM
                    have HB1 : Hid _ := hb1
                    clear hP3 hQ3 hG3 hat1 hb1 HLD
                    go_wp2_with fail
                    refine Calls.mono HIM.out ?_
                    rintro e y2 ⟨rfl, hrow2, hb2⟩
                    have hb02 : Below wr.heap.size wr y2 := below_next HB1.out hb2
                    have HBY : Hid (Calls Try.prog 12 #[.slice (some ⟨y1.heap.size, 0, none⟩) M M, .slice (some ⟨J, 0, none⟩) M M] y2 fun e w' => e = .returned (.bool true) ∧ Below y2.heap.size y2 w') := by
                      have h9 := byt_n (some ⟨y1.heap.size, 0, none⟩) (some ⟨J, 0, none⟩) M M M M (img T2) (img T2) y2 HM2.out.symm HM2.out.symm (rd_row hrow2) ((rd_row HRow.out).below hb02) (by rw [HM2.out]; omega) (by rw [HM2.out]; omega)
                      rw [beq_self_eq_true] at h9
                      exact h9
                    have HB02 : Hid _ := hb02
                    clear hrow2 hb2 hb02 HIM
                    go_wp2_with fail
                    refine HBY.out.mono ?_
                    rintro e y3 ⟨rfl, hb3⟩
                    have hb03 : Below wr.heap.size wr y3 := below_next HB02.out hb3
                    have HIM := image_r P2 G2 T y3 (DK.below HDt.out hb03).secAt
                    rw [← HM.out] at HIM
                    have HIM : Hid _ := HIM
                    have HB03 : Hid _ := hb03
                    clear hb3 hb03 HBY
                    go_wp2_with fail
                    refine Calls.mono HIM.out ?_
                    rintro e y4 ⟨rfl, hrow4, hb4⟩
                    have hb04 : Below wr.heap.size wr y4 := below_next HB03.out hb4
                    have HIM := image_r P G T y4 (DK.below HDk.out hb04).secAt
                    rw [← HM.out] at HIM
                    have HIM : Hid _ := HIM
                    have HB04 : Hid _ := hb04
                    have HR4 : Hid _ := hrow4
                    clear hb4 hb04 hrow4
                    go_wp2_with fail
                    refine Calls.mono HIM.out ?_
                    rintro e y5 ⟨rfl, hrow5, hb5⟩
                    have hb05 : Below wr.heap.size wr y5 := below_next HB04.out hb5
                    have HBY : Hid (Calls Try.prog 12 #[.slice (some ⟨y3.heap.size, 0, none⟩) M M, .slice (some ⟨y4.heap.size, 0, none⟩) M M] y5 fun e w' => e = .returned (.bool true) ∧ Below y5.heap.size y5 w') := by
                      have h9 := byt_n (some ⟨y3.heap.size, 0, none⟩) (some ⟨y4.heap.size, 0, none⟩) M M M M (img T) (img T) y5 HM.out HM.out ((rd_row HR4.out).below hb5) (rd_row hrow5) (by rw [← HM.out]; omega) (by rw [← HM.out]; omega)
                      rw [beq_self_eq_true] at h9
                      exact h9
                    have HB05 : Hid _ := hb05
                    clear hrow5 hb5 hb05 HIM
                    go_wp2_with fail
                    refine HBY.out.mono ?_
                    rintro e y6 ⟨rfl, hb6⟩
                    have hb06 : Below wr.heap.size wr y6 := below_next HB05.out hb6
                    go_wp2
                    go_ret
                    exact ⟨rfl, Below.trans HBk.out (hb06.mono (Below.size HBk.out))⟩
          · obtain rfl : E = 0 := by omega
            have HYO : Hid (Y = O) := by unfold Hid; rw [HY.out, HO.out]; simp
            go_wp2_with (first | (go_at_call 14; refine (HSR.out _).mono ?_; rintro e w5 ⟨rfl, hq⟩; have hq := hq.symm; subst hq))
            rw [← hU, ← hD]
            clear hU hD
            have hrow := HDR.out
            rw [← HYO.out] at hrow
            have HRx := HXU
            have HRy := HYU
            have HDk := HDU
            have hbk := HBU.out
            clear HDR HXU HYU HDU HBU
            have HRow : Hid _ := hrow
            have HBk : Hid _ := hbk
            clear hrow hbk
            refine (fill_t A U (by omega)).mono ?_
            rintro e x1 ⟨g1, rfl, -, hrow1, hbb1⟩
            rw [← HF.out] at hrow1
            have hfl := HFl.out
            have hyl := HYl.out
            have HB1 : Hid (Calls Try.prog 12 #[.slice ax 128 cx, .slice (some ⟨g1, 0, none⟩) 128 128] x1 fun e w' => e = .returned (.bool true) ∧ Below x1.heap.size x1 w') := by
              have h9 := byt_n ax (some ⟨g1, 0, none⟩) 128 128 cx 128 F F x1 hfl.symm hfl.symm (Rd.below HRx.out hbb1) (rd_row hrow1) (by rw [hfl]; decide) (by rw [hfl]; decide)
              rw [beq_self_eq_true] at h9
              exact h9
            clear hrow1
            go_wp2_with fail
            refine HB1.out.mono ?_
            rintro e x2 ⟨rfl, hbb2⟩
            have hb12 : Below U.heap.size U x2 := below_next hbb1 hbb2
            have HB2' : Hid (Calls Try.prog 12 #[.slice ay 128 cy, .slice (some ⟨D, 0, none⟩) 128 128] x2 fun e w' => e = .returned (.bool true) ∧ Below x2.heap.size x2 w') := by
              have h9 := byt_n ay (some ⟨D, 0, none⟩) 128 128 cy 128 Y Y x2 hyl.symm hyl.symm (Rd.below HRy.out hb12) ((rd_row HRow.out).below hb12) (by rw [hyl]; decide) (by rw [hyl]; decide)
              rw [beq_self_eq_true] at h9
              exact h9
            clear hfl hyl HB1
            go_wp2_with fail
            refine HB2'.out.mono ?_
            rintro e x3 ⟨rfl, hbb3⟩
            have hb13 : Below U.heap.size U x3 := below_next hb12 hbb3
            have hdk3 := DK.below HDk.out hb13
            have hw3 : Below W.heap.size W x3 := Below.trans HBk.out (hb13.mono (Below.size HBk.out))
            have hTf := hdk3.fit
            have hTo := fit_ok hTf
            have HTf : Hid _ := hTf
            have HTo : Hid _ := hTo
            obtain ⟨M, hM⟩ : ∃ M : Nat, M = (img T).length := ⟨_, rfl⟩
            have hMN : M = N * 129 := by rw [hM, img_len hTo, HTl.out]
            have hM1 : 129 ≤ M := by omega
            have hM2 : M ≤ 8454144 := by omega
            have HIM := image_r P G T x3 hdk3.secAt
            rw [← hM] at HIM
            have HIM : Hid _ := HIM
            have HM : Hid _ := hM
            have HDk3 : Hid _ := hdk3
            have HW3 : Hid _ := hw3
            clear hM hMN hdk3 hb13 hb12 hbb1 hbb2 hbb3 hw3 hTf hTo HDk HBk HRow HRx HRy HB2'
            go_wp2_with fail
            refine Calls.mono HIM.out ?_
            rintro e x4 ⟨rfl, hrow4, hbb4⟩
            obtain ⟨J, hJ⟩ : ∃ J : Nat, J = x3.heap.size := ⟨_, rfl⟩
            rw [← hJ] at hrow4 ⊢
            have hTN := HTl.out
            have HLT : Hid (loadS (img T) = some T) := img_load HTf.out (by omega) (by omega)
            have HLD : Hid (Calls Try.prog 11 #[.slice (some ⟨J, 0, none⟩) M M] x4 fun e w' => LoadOut x4 e w' (some T)) := by
              have h9 := load_t (some ⟨J, 0, none⟩) M (img T) x4 (rd_row hrow4) (by rw [HM.out]; exact Nat.le_refl _) (by rw [← HM.out]; omega)
              rw [HLT.out, ← HM.out] at h9
              exact h9
            have hJW : W.heap.size ≤ J := by rw [hJ]; exact Below.size HW3.out
            have HDk4 : Hid _ := DK.below HDk3.out hbb4
            have HW4 : Hid (Below W.heap.size W x4) := Below.trans HW3.out (hbb4.mono (Below.size HW3.out))
            have HRow4 : Hid _ := hrow4
            clear hJ hTN hrow4 hbb4 HIM HDk3 HW3
            go_wp2_with fail
            refine HLD.out.mono ?_
            rintro e x5 ⟨rfl, hat5, hbb5⟩
            obtain ⟨P2, hP2⟩ : ∃ P : Nat, P = x4.heap.size + 2 := ⟨_, rfl⟩
            obtain ⟨Q2, hQ2⟩ : ∃ Q : Nat, Q = x4.heap.size + 1 := ⟨_, rfl⟩
            obtain ⟨G2, hG2⟩ : ∃ G : Nat, G = x4.heap.size := ⟨_, rfl⟩
            rw [← hP2, ← hQ2, ← hG2] at hat5
            rw [← hP2]
            have HDt : Hid _ := hat5.dk HTf.out
            have HDk5 : Hid _ := DK.below HDk4.out hbb5
            have HW5 : Hid (Below W.heap.size W x5) := Below.trans HW4.out (hbb5.mono (Below.size HW4.out))
            have HRow5 : Hid (x5.heap[J]? = some (.cells (bv (img T)).toArray 5 (0, 0))) := (hbb5.block J (Array.getElem?_eq_some_iff.1 HRow4.out).1).trans HRow4.out
            clear hP2 hQ2 hG2 hat5 hbb5 HLD HDk4 HW4 HRow4
            go_wp2_with fail
            go_loopw [28] (fun j wq => ∃ k : Nat, k ≤ 129 ∧ j = .int .i64 k ∧ wq.heap[J]? = some (.cells (bv (mix 0 (img T) k)).toArray 5 (0, 0)) ∧ DK wq P2 G2 Q2 T (fun _ => []) (fun _ => nilS) false (-1) 0 ∧ DK wq P G Q T (fun _ => []) (fun _ => nilS) false (-1) 0 ∧ Below W.heap.size W wq) (fun j _ => 129 - (intOf j).toNat)
            case atStart => exact ⟨0, Nat.zero_le _, rfl, by rw [mix_none]; exact HRow5.out, HDt.out, HDk5.out, HW5.out⟩
            case round =>
              obtain ⟨k6, hk6, rfl, hrow, hdt, hdk, hbk⟩ := hrel
              clear HRow5 HDt HDk5 HW5
              have HDt : Hid _ := hdt
              have HDk : Hid _ := hdk
              clear hdt hdk
              by_cases hlt6 : k6 < 129
              · have hMl := mix_len 0 (img T) k6 (by rw [← HM.out]; omega)
                rw [← HM.out] at hMl
                obtain ⟨u0, hu0⟩ := byte_at hrow k6 (by rw [hMl]; omega)
                have hf0 := frozen_of_row wr J k6 _ _ hrow
                have hk60 : (0 : Int) ≤ (k6 : Int) := by omega
                have hk61 : (k6 : Int) < (M : Int) := by omega
                have hk62 : (k6 : Int) < 129 := by omega
                have HNX : Hid ((World.setCell wr ⟨J, k6, none⟩ (.int .u8 0)).heap[J]? = some (.cells (bv (mix 0 (img T) (k6 + 1))).toArray 5 (0, 0))) := by
                  unfold Hid
                  have h9 := set_byte hrow k6 0
                  rw [mix_step 0 (img T) k6 (by rw [← HM.out]; omega)] at h9
                  exact h9
                have hcg := set_chg wr J k6 (.int .u8 0)
                have HDX : Hid _ := DK.over HDt.out hrow hcg
                have HDY : Hid _ := DK.over HDk.out hrow hcg
                clear hrow hMl hcg
                go_wp2_with fail
                go_roundw
                case rel => exact ⟨k6 + 1, by omega, by go_num, HNX.out, HDX.out, HDY.out, hbk.setCell (p := ⟨J, k6, none⟩) hJW _⟩
                case measure => simp [intOf]; omega
              · obtain rfl : k6 = 129 := by omega
                have hTN := HTl.out
                rw [mix_img HTo.out (by omega)] at hrow
                obtain ⟨T2, hT2⟩ : ∃ T2 : List Sec, T2 = T.set 0 Sec.zero := ⟨_, rfl⟩
                rw [← hT2] at hrow
                have hT2f : ∀ s ∈ T2, s.fit := by
                  rw [hT2]
                  intro s hs
                  rcases List.mem_or_eq_of_mem_set hs with h9 | rfl
                  · exact HTf.out s h9
                  · exact Sec.zero_fit
                have hT2l : T2.length = T.length := by rw [hT2, List.length_set]
                have HM2 : Hid ((img T2).length = M) := by unfold Hid; rw [img_len (fit_ok hT2f), hT2l, ← img_len HTo.out, HM.out]
                have HLT2 : Hid (loadS (img T2) = some T2) := img_load hT2f (by omega) (by omega)
                have HT2f : Hid _ := hT2f
                have HLD : Hid (Calls Try.prog 11 #[.slice (some ⟨J, 0, none⟩) M M] wr fun e w' => LoadOut wr e w' (some T2)) := by
                  have h9 := load_t (some ⟨J, 0, none⟩) M (img T2) wr (rd_row hrow) (by rw [HM2.out]; exact Nat.le_refl _) (by rw [HM2.out]; omega)
                  rw [HLT2.out, HM2.out] at h9
                  exact h9
                have HRow : Hid _ := hrow
                have HBk : Hid _ := hbk
                clear hrow hbk hT2 hT2f hT2l hTN
                go_wp2_with fail
                refine HLD.out.mono ?_
                rintro e y1 ⟨rfl, hat1, hb1⟩
                obtain ⟨P3, hP3⟩ : ∃ P : Nat, P = wr.heap.size + 2 := ⟨_, rfl⟩
                obtain ⟨Q3, hQ3⟩ : ∃ Q : Nat, Q = wr.heap.size + 1 := ⟨_, rfl⟩
                obtain ⟨G3, hG3⟩ : ∃ G : Nat, G = wr.heap.size := ⟨_, rfl⟩
                rw [← hP3, ← hQ3, ← hG3] at hat1
                rw [← hP3]
                have HIM := image_r P3 G3 T2 y1 hat1.secAt
                rw [HM2.out] at HIM
                have HIM : Hid _ := HIM
                have HB1 : Hid _ := hb1
                clear hP3 hQ3 hG3 hat1 hb1 HLD
                go_wp2_with fail
                refine Calls.mono HIM.out ?_
                rintro e y2 ⟨rfl, hrow2, hb2⟩
                have hb02 : Below wr.heap.size wr y2 := below_next HB1.out hb2
                have HBY : Hid (Calls Try.prog 12 #[.slice (some ⟨y1.heap.size, 0, none⟩) M M, .slice (some ⟨J, 0, none⟩) M M] y2 fun e w' => e = .returned (.bool true) ∧ Below y2.heap.size y2 w') := by
                  have h9 := byt_n (some ⟨y1.heap.size, 0, none⟩) (some ⟨J, 0, none⟩) M M M M (img T2) (img T2) y2 HM2.out.symm HM2.out.symm (rd_row hrow2) ((rd_row HRow.out).below hb02) (by rw [HM2.out]; omega) (by rw [HM2.out]; omega)
                  rw [beq_self_eq_true] at h9
                  exact h9
                have HB02 : Hid _ := hb02
                clear hrow2 hb2 hb02 HIM
                go_wp2_with fail
                refine HBY.out.mono ?_
                rintro e y3 ⟨rfl, hb3⟩
                have hb03 : Below wr.heap.size wr y3 := below_next HB02.out hb3
                have HIM := image_r P2 G2 T y3 (DK.below HDt.out hb03).secAt
                rw [← HM.out] at HIM
                have HIM : Hid _ := HIM
                have HB03 : Hid _ := hb03
                clear hb3 hb03 HBY
                go_wp2_with fail
                refine Calls.mono HIM.out ?_
                rintro e y4 ⟨rfl, hrow4, hb4⟩
                have hb04 : Below wr.heap.size wr y4 := below_next HB03.out hb4
                have HIM := image_r P G T y4 (DK.below HDk.out hb04).secAt
                rw [← HM.out] at HIM
                have HIM : Hid _ := HIM
                have HB04 : Hid _ := hb04
                have HR4 : Hid _ := hrow4
                clear hb4 hb04 hrow4
                go_wp2_with fail
                refine Calls.mono HIM.out ?_
                rintro e y5 ⟨rfl, hrow5, hb5⟩
                have hb05 : Below wr.heap.size wr y5 := below_next HB04.out hb5
                have HBY : Hid (Calls Try.prog 12 #[.slice (some ⟨y3.heap.size, 0, none⟩) M M, .slice (some ⟨y4.heap.size, 0, none⟩) M M] y5 fun e w' => e = .returned (.bool true) ∧ Below y5.heap.size y5 w') := by
                  have h9 := byt_n (some ⟨y3.heap.size, 0, none⟩) (some ⟨y4.heap.size, 0, none⟩) M M M M (img T) (img T) y5 HM.out HM.out ((rd_row HR4.out).below hb5) (rd_row hrow5) (by rw [← HM.out]; omega) (by rw [← HM.out]; omega)
                  rw [beq_self_eq_true] at h9
                  exact h9
                have HB05 : Hid _ := hb05
                clear hrow5 hb5 hb05 HIM
                go_wp2_with fail
                refine HBY.out.mono ?_
                rintro e y6 ⟨rfl, hb6⟩
                have hb06 : Below wr.heap.size wr y6 := below_next HB05.out hb6
                go_wp2
                go_ret
                exact ⟨rfl, Below.trans HBk.out (hb06.mono (Below.size HBk.out))⟩
end Go.Proofs.Ytbncejnoajocjaa
