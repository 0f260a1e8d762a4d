import Derived.Test.YtnhjkipaclchiaaOpenL
import Derived.Test.YtnhjkipaclchiaaQT
import Derived.Test.YtnhjkipaclchiaaQW
namespace Go.Proofs.Ytnhjkipaclchiaa
set_option linter.unusedVariables false
set_option linter.unusedSimpArgs false
open Go.RowKit
section
set_option maxRecDepth 20000
set_option maxHeartbeats 3200000
theorem sized_t (n : Int) (hn : -9223372036854775808 ≤ n ∧ n ≤ 9223372036854775807) (w : World) : Calls Try.prog 25 #[.int .i64 n] w fun e w' => ∃ S : Nat, 4 ≤ S ∧ S ≤ 64 ∧ e = .returned (.int .i64 (S : Int)) ∧ w' = w := by
  obtain ⟨h1, h2⟩ := hn
  have hr1 : -61 < n.tmod 61 := by
    have := Int.lt_tmod_of_pos n (b := 61) (by decide)
    exact this
  have hr2 : n.tmod 61 < 61 := Int.tmod_lt_of_pos n (by decide)
  obtain ⟨r, hr⟩ : ∃ r, r = n.tmod 61 := ⟨_, rfl⟩
  rw [← hr] at hr1 hr2
  have hs1 : 0 ≤ (r + 61).tmod 61 := Int.tmod_nonneg _ (by omega)
  have hs2 : (r + 61).tmod 61 < 61 := Int.tmod_lt_of_pos _ (by decide)
  obtain ⟨s, hs⟩ : ∃ s, s = (r + 61).tmod 61 := ⟨_, rfl⟩
  rw [← hs] at hs1 hs2
  have hr' := hr.symm
  have hs' := hs.symm
  clear hr hs
  go_enter Try.func25, Try.ntmps25
  go_wp2
  go_ret
  refine ⟨(4 + s).toNat, by omega, by omega, ?_, rfl⟩
  rw [Int.toNat_of_nonneg (by omega)]
  rfl
theorem cnt_val {w : World} {B n : Nat} {v : Value} {P : List (List Ent)} (h : w.ownsRow B 3 1 v n (cnt P)) (hn : n = P.length) : ∃ a c, v = .slice a n c ∧ n ≤ c ∧ ∀ j (hj : j < n), ∃ g, a = some ⟨g, 0, none⟩ ∧ w.cell? ⟨g, j, none⟩ = some (.int .i64 ((P.getD j []).length : Int)) := by
  have h' := h
  rcases h.2 with ⟨rfl, h0⟩ | ⟨g, cap, cur, rfl, hB, hg, hc, hm, r⟩
  · exact ⟨none, 0, by rw [h0], by omega, fun j hj => by omega⟩
  · refine ⟨_, cap, rfl, hc, fun j hj => ⟨g, rfl, ?_⟩⟩
    rw [World.ownsRow.cellAt h' j (by omega)]
    unfold cnt
    rw [List.getElem?_map, List.getElem?_eq_getElem (by omega)]
    simp [List.getD, show j < P.length by omega]
theorem info_op : (Try.prog.info? tOp).map (·.size) = some 4 := by kernel_rfl
theorem Lies.above {w : World} {v v' : Value} {G : Nat} (h : Lies w v v') (hv : ∀ b, foot G v b → G ≤ b) (hG : G ≤ w.heap.size) : ∀ b, foot G v' b → G ≤ b := fun b hb => by
  rcases hb with rfl | hb
  · exact Nat.le_refl _
  · rcases h with h | ⟨b', h1, h2⟩
    · exact hv b (.inr (by rw [← h]; exact hb))
    · rw [hb] at h1; cases h1; omega
theorem pagesTight_walk (size : Int) (a : Option Addr) (cap : Nat) (xs : List Stp) (W : World) (hsz : -9223372036854775808 ≤ size ∧ size ≤ 9223372036854775807) (hr : RdO W a xs) (hl : xs.length ≤ cap) (hn : a = none → cap = 0) (hc : xs.length ≤ 4398046511103) :
    Calls Try.prog 6 #[.int .i64 size, .slice a xs.length cap] W fun e W' => e = .returned (.bool true) ∧ Below W.heap.size W W' := by
  obtain ⟨N, hN⟩ : ∃ N, N = xs.length := ⟨_, rfl⟩
  rw [← hN] at hl hc ⊢
  have HR : Hid (RdO W a xs) := hr
  have HN : Hid (N = xs.length) := hN
  obtain ⟨G, hG⟩ : ∃ G, G = W.heap.size := ⟨_, rfl⟩
  have HG : Hid (G = W.heap.size) := hG
  clear hr hN hG
  go_enter Try.func6, Try.ntmps6
  go_wp2_with fail
  refine Calls.mono (sized_t size hsz W) ?_
  rintro e w1 ⟨S, hS4, hS64, rfl, hw1⟩
  subst hw1
  go_wp2_with fail
  refine Calls.mono (newU_t S ⟨hS4, hS64⟩ w1) ?_
  rintro e w2 ⟨rfl, hi2, hb2⟩
  rw [← HG.out] at hi2 hb2 ⊢
  have HI2 : Hid (IdxAt w2 G S [] (.slice none 0 0) []) := hi2
  have HB2 : Hid (Below G w1 w2) := hb2
  clear hi2 hb2
  go_wp2_with fail
  refine Calls.mono (num_t 0 w2) ?_
  rintro e w3 ⟨rfl, hw3⟩
  subst hw3
  go_wp2_with fail
  refine Calls.mono (small_t w3) ?_
  rintro e w4 ⟨rfl, hb4⟩
  have HI4 : Hid (IdxAt w4 G S [] (.slice none 0 0) []) := HI2.out.below hb4
  have HB4 : Hid (Below G w1 w4) := (show Below G w1 w4 by
    have h9 := HB2.out
    rw [HG.out] at h9 ⊢
    exact below_next h9 hb4)
  clear hb4
  go_wp2_with fail
  go_loopw [7, 8] (fun al i wr => ∃ (k : Nat) (ab : Bool) (P : List (List Ent)) (v : Value) (vs : List Value), k ≤ N ∧ i = .int .i64 (k : Int) ∧ al = .bool ab ∧ IdxAt wr G S P v vs ∧ Tid S P ∧ (ab = true → Half S P) ∧ P.length ≤ k ∧ (∀ b, foot G v b → G ≤ b) ∧ Below G w1 wr) (fun _ i _ => N - (intOf i).toNat)
  case atStart => exact ⟨0, true, [], _, _, Nat.zero_le _, rfl, rfl, HI4.out, ⟨⟨(fun p hp => by cases hp), List.Pairwise.nil⟩, (fun p hp => by cases hp)⟩, (fun _ h => by simp at h), Nat.le_refl _, (fun b hb => by rcases hb with rfl | hb; exact Nat.le_refl _; cases hb), HB4.out⟩
  case round =>
    obtain ⟨k, ab, P, v, vs, hk, rfl, rfl, hi, ht, hh, hPk, hf, hbel⟩ := hrel
    have HI : Hid (IdxAt wr G S P v vs) := hi
    have HT : Hid (Tid S P) := ht
    have HH : Hid (ab = true → Half S P) := hh
    have HF : Hid (∀ b, foot G v b → G ≤ b) := hf
    have HBEL : Hid (Below G w1 wr) := hbel
    have hGr : G < wr.heap.size := hi.lt G (.inl rfl)
    clear hi ht hh hf hbel
    by_cases hlt : k < N
    · have hkx : k < xs.length := by have := HN.out; omega
      obtain ⟨b, o, rfl, hr⟩ := HR.out k hkx
      obtain ⟨kd, t1, t2, tn, hx⟩ : ∃ kd t1 t2 tn, xs[k] = (kd, ⟨(t1, t2), tn⟩) := ⟨_, _, _, _, rfl⟩
      rw [hx] at hr
      have hrr : wr.rangeAt b (o + k * 4) (opv (kd, ⟨(t1, t2), tn⟩)) := fun j v9 hv9 => (HBEL.out.cell (by rw [HG.out]; exact World.block_lt_of_cell? w1 _ (hr j v9 hv9))).trans (hr j v9 hv9)
      have HRR : Hid (wr.rangeAt b (o + k * 4) (opv (kd, ⟨(t1, t2), tn⟩))) := hrr
      have hki : (k : Int) < (N : Int) := by omega
      have hk0 : (0 : Int) ≤ (k : Int) := by omega
      have HBL : Hid (b < G) := (show b < G by rw [HG.out]; exact World.block_lt_of_cell? w1 _ (hr 0 _ rfl))
      have HR1 : Hid (w1.rangeAt b (o + k * 4) (opv (kd, ⟨(t1, t2), tn⟩))) := hr
      clear hr hx hrr
      go_wp2_with (first | (refine wpList_load_mid rfl tOp _ rfl b (o + k * 4) rfl (opv (kd, ⟨(t1, t2), tn⟩)) _ HRR.out Try.underlying36 rfl info_op ?_))
      refine Calls.mono (turns_t HI.out HT.out ⟨by omega, hS64⟩ (by omega) (.slice none 0 0) [] (OwnB.nil _ _) List.Pairwise.nil (by simp) kd t1 t2 tn) ?_
      rintro e w5 ⟨vb5, v5, vs5, P5, rfl, hi5, htu, -, hli, hch⟩
      have HI5 : Hid (IdxAt w5 G S P5 v5 vs5) := hi5
      have HF5 : Hid (∀ b, foot G v5 b → G ≤ b) := hli.above HF.out (by omega)
      have HB5 : Hid (Below G w1 w5) := HBEL.out.trans (hch.below HF.out (by omega))
      have HT5 : Hid (Tid S P5) := htu.tid
      have hP5 : P5.length ≤ k + 1 := by have := htu.len; omega
      have HH5 : Hid (kd ≠ 2 → Half S P → Half S P5) := htu.half
      have hk5 : w5.cell? ⟨b, o + k * 4, none⟩ = some (.int .i64 kd) := (HB5.out.cell HBL.out).trans (HR1.out 0 _ rfl)
      --ARMS
      obtain ⟨pa5, cap5, hv5, hcap5, hnil5, hrd5, hpg5⟩ := HI5.out.rd
      have HPG : Hid _ := pages_t (.pointer (some ⟨G, 0, none⟩)) pa5 P5.length cap5 P5 w5 hpg5 rfl hrd5 (by omega)
      clear hi5 htu hli hch hv5 hcap5 hnil5 hrd5 hpg5
      cases ab
      case false =>
        have HAB : Hid (false = true → Half S P5) := fun h9 => by cases h9
        go_wp2_with fail
        refine Calls.mono HPG.out ?_
        rintro e w6 ⟨v6, rfl, hrow6, hb6⟩
        obtain ⟨M, hM⟩ : ∃ M, M = P5.length := ⟨_, rfl⟩
        rw [← hM] at hrow6
        obtain ⟨a6, c6, rfl, hM6, hcell⟩ := cnt_val hrow6 hM
        have HI6 : Hid (IdxAt w6 G S P5 v5 vs5) := HI5.out.below hb6
        have HB6 : Hid (Below G w1 w6) := HB5.out.trans ⟨hb6.os, hb6.tape, hb6.output, hb6.size, fun k9 h9 => hb6.block k9 (by have := HI5.out.lt G (.inl rfl); omega)⟩
        have HM : Hid (M = P5.length) := hM
        have hMb : M ≤ 4398046511104 := by omega
        have HCE : Hid (∀ j (hj : j < M), ∃ g, a6 = some ⟨g, 0, none⟩ ∧ w6.cell? ⟨g, j, none⟩ = some (.int .i64 ((P5.getD j []).length : Int))) := hcell
        have HSUM : Hid (∀ k, (P5.take k).flatten.length ≤ 100 * k) := sum_le (fun p hp => by have := HT5.out.2 p hp; omega)
        obtain ⟨pa6, cap6, hv6, hcap6, hnil6, hrd6, hpg6⟩ := HI6.out.rd
        have HLN : Hid _ := len_t (.pointer (some ⟨G, 0, none⟩)) pa6 P5.length cap6 P5 w6 hpg6 rfl hrd6 (by omega) (fun p hp => by have := HT5.out.2 p hp; omega)
        clear hrow6 hb6 hcell hM hv6 hcap6 hnil6 hrd6 hpg6
        go_wp2_with fail
        go_loop [9, 11] (fun n j => ∃ jj : Nat, jj ≤ M ∧ j = .int .i64 (jj : Int) ∧ n = .int .i64 ((P5.take jj).flatten.length : Int)) (fun _ j => M - (intOf j).toNat)
        case atStart => exact ⟨0, Nat.zero_le _, rfl, rfl⟩
        case round =>
          obtain ⟨jj, hjj, rfl, rfl⟩ := hrel
          by_cases hlj : jj < M
          · obtain ⟨g6, rfl, hcj⟩ := HCE.out jj hlj
            have hjP : jj < P5.length := by have := HM.out; omega
            obtain ⟨x1, hx1⟩ : ∃ x1, x1 = (P5.getD jj []).length := ⟨_, rfl⟩
            have eP : P5.getD jj [] = P5[jj] := by simp [List.getD, hjP]
            rw [← hx1] at hcj
            have hx2 : 1 ≤ x1 := by rw [hx1, eP]; exact HT5.out.1.1 _ (List.getElem_mem hjP)
            have hx3 : x1 ≤ S := by rw [hx1, eP]; exact HT5.out.2 _ (List.getElem_mem hjP)
            have hx2i : ¬ ((x1 : Int) < 1) := by omega
            have hx3i : ¬ ((S : Int) < (x1 : Int)) := by omega
            obtain ⟨T0, hT0⟩ : ∃ T0, T0 = (P5.take jj).flatten.length := ⟨_, rfl⟩
            have HS0 : Hid ((P5.take (jj + 1)).flatten.length = T0 + x1) := (show _ = _ by rw [sum_take hjP, hT0, hx1, eP])
            have hTb : T0 + x1 ≤ 439804651110500 := by have h9 := HSUM.out (jj + 1); have h8 := HS0.out; omega
            have hji : (jj : Int) < (M : Int) := by omega
            have hj0 : (0 : Int) ≤ (jj : Int) := by omega
            rw [← hT0]
            clear hT0 hx1 eP
            go_wp2
            go_round
            case rel => exact ⟨jj + 1, by omega, by go_num, by rw [HS0.out]; go_num⟩
            case measure => simp [intOf]; omega
          · obtain rfl : jj = M := by omega
            obtain ⟨T1, hT1⟩ : ∃ T1, T1 = (P5.take jj).flatten.length := ⟨_, rfl⟩
            rw [← hT1]
            have HT1 : Hid (P5.flatten.length = T1) := (show _ = _ by rw [hT1, HM.out, List.take_length])
            have hTb : T1 ≤ 439804651110400 := by rw [hT1]; have := HSUM.out jj; omega
            clear hT1
            go_wp2_with fail
            refine Calls.mono HLN.out ?_
            rintro e w7 ⟨rfl, hw7⟩
            subst hw7
            rw [HT1.out]
            go_wp2
            go_roundw
            case rel => exact ⟨k + 1, false, P5, v5, vs5, by omega, by go_num, rfl, HI6.out, HT5.out, HAB.out, hP5, HF5.out, HB6.out⟩
            case measure => simp [intOf]; omega
      case true =>
        by_cases hkd : kd = 2
        · subst hkd
          have HAB : Hid (false = true → Half S P5) := fun h9 => by cases h9
          go_wp2_with fail
          refine Calls.mono HPG.out ?_
          rintro e w6 ⟨v6, rfl, hrow6, hb6⟩
          obtain ⟨M, hM⟩ : ∃ M, M = P5.length := ⟨_, rfl⟩
          rw [← hM] at hrow6
          obtain ⟨a6, c6, rfl, hM6, hcell⟩ := cnt_val hrow6 hM
          have HI6 : Hid (IdxAt w6 G S P5 v5 vs5) := HI5.out.below hb6
          have HB6 : Hid (Below G w1 w6) := HB5.out.trans ⟨hb6.os, hb6.tape, hb6.output, hb6.size, fun k9 h9 => hb6.block k9 (by have := HI5.out.lt G (.inl rfl); omega)⟩
          have HM : Hid (M = P5.length) := hM
          have hMb : M ≤ 4398046511104 := by omega
          have HCE : Hid (∀ j (hj : j < M), ∃ g, a6 = some ⟨g, 0, none⟩ ∧ w6.cell? ⟨g, j, none⟩ = some (.int .i64 ((P5.getD j []).length : Int))) := hcell
          have HSUM : Hid (∀ k, (P5.take k).flatten.length ≤ 100 * k) := sum_le (fun p hp => by have := HT5.out.2 p hp; omega)
          obtain ⟨pa6, cap6, hv6, hcap6, hnil6, hrd6, hpg6⟩ := HI6.out.rd
          have HLN : Hid _ := len_t (.pointer (some ⟨G, 0, none⟩)) pa6 P5.length cap6 P5 w6 hpg6 rfl hrd6 (by omega) (fun p hp => by have := HT5.out.2 p hp; omega)
          clear hrow6 hb6 hcell hM hv6 hcap6 hnil6 hrd6 hpg6
          go_wp2_with fail
          go_loop [9, 11] (fun n j => ∃ jj : Nat, jj ≤ M ∧ j = .int .i64 (jj : Int) ∧ n = .int .i64 ((P5.take jj).flatten.length : Int)) (fun _ j => M - (intOf j).toNat)
          case atStart => exact ⟨0, Nat.zero_le _, rfl, rfl⟩
          case round =>
            obtain ⟨jj, hjj, rfl, rfl⟩ := hrel
            by_cases hlj : jj < M
            · obtain ⟨g6, rfl, hcj⟩ := HCE.out jj hlj
              have hjP : jj < P5.length := by have := HM.out; omega
              obtain ⟨x1, hx1⟩ : ∃ x1, x1 = (P5.getD jj []).length := ⟨_, rfl⟩
              have eP : P5.getD jj [] = P5[jj] := by simp [List.getD, hjP]
              rw [← hx1] at hcj
              have hx2 : 1 ≤ x1 := by rw [hx1, eP]; exact HT5.out.1.1 _ (List.getElem_mem hjP)
              have hx3 : x1 ≤ S := by rw [hx1, eP]; exact HT5.out.2 _ (List.getElem_mem hjP)
              have hx2i : ¬ ((x1 : Int) < 1) := by omega
              have hx3i : ¬ ((S : Int) < (x1 : Int)) := by omega
              obtain ⟨T0, hT0⟩ : ∃ T0, T0 = (P5.take jj).flatten.length := ⟨_, rfl⟩
              have HS0 : Hid ((P5.take (jj + 1)).flatten.length = T0 + x1) := (show _ = _ by rw [sum_take hjP, hT0, hx1, eP])
              have hTb : T0 + x1 ≤ 439804651110500 := by have h9 := HSUM.out (jj + 1); have h8 := HS0.out; omega
              have hji : (jj : Int) < (M : Int) := by omega
              have hj0 : (0 : Int) ≤ (jj : Int) := by omega
              rw [← hT0]
              clear hT0 hx1 eP
              go_wp2
              go_round
              case rel => exact ⟨jj + 1, by omega, by go_num, by rw [HS0.out]; go_num⟩
              case measure => simp [intOf]; omega
            · obtain rfl : jj = M := by omega
              obtain ⟨T1, hT1⟩ : ∃ T1, T1 = (P5.take jj).flatten.length := ⟨_, rfl⟩
              rw [← hT1]
              have HT1 : Hid (P5.flatten.length = T1) := (show _ = _ by rw [hT1, HM.out, List.take_length])
              have hTb : T1 ≤ 439804651110400 := by rw [hT1]; have := HSUM.out jj; omega
              clear hT1
              go_wp2_with fail
              refine Calls.mono HLN.out ?_
              rintro e w7 ⟨rfl, hw7⟩
              subst hw7
              rw [HT1.out]
              go_wp2
              go_roundw
              case rel => exact ⟨k + 1, false, P5, v5, vs5, by omega, by go_num, rfl, HI6.out, HT5.out, HAB.out, hP5, HF5.out, HB6.out⟩
              case measure => simp [intOf]; omega
        · have hkdb : (kd == 2) = false := by simpa using hkd
          have hkdn : (kd != 2) = true := by simpa using hkd
          have HABT : Hid (Half S P5) := HH5.out hkd (HH.out rfl)
          go_wp2_with fail
          refine Calls.mono HPG.out ?_
          rintro e w6 ⟨v6, rfl, hrow6, hb6⟩
          obtain ⟨M, hM⟩ : ∃ M, M = P5.length := ⟨_, rfl⟩
          rw [← hM] at hrow6
          obtain ⟨a6, c6, rfl, hM6, hcell⟩ := cnt_val hrow6 hM
          have HI6 : Hid (IdxAt w6 G S P5 v5 vs5) := HI5.out.below hb6
          have HB6 : Hid (Below G w1 w6) := HB5.out.trans ⟨hb6.os, hb6.tape, hb6.output, hb6.size, fun k9 h9 => hb6.block k9 (by have := HI5.out.lt G (.inl rfl); omega)⟩
          have HM : Hid (M = P5.length) := hM
          have hMb : M ≤ 4398046511104 := by omega
          have HCE : Hid (∀ j (hj : j < M), ∃ g, a6 = some ⟨g, 0, none⟩ ∧ w6.cell? ⟨g, j, none⟩ = some (.int .i64 ((P5.getD j []).length : Int))) := hcell
          have HSUM : Hid (∀ k, (P5.take k).flatten.length ≤ 100 * k) := sum_le (fun p hp => by have := HT5.out.2 p hp; omega)
          obtain ⟨pa6, cap6, hv6, hcap6, hnil6, hrd6, hpg6⟩ := HI6.out.rd
          have HLN : Hid _ := len_t (.pointer (some ⟨G, 0, none⟩)) pa6 P5.length cap6 P5 w6 hpg6 rfl hrd6 (by omega) (fun p hp => by have := HT5.out.2 p hp; omega)
          clear hrow6 hb6 hcell hM hv6 hcap6 hnil6 hrd6 hpg6
          go_wp2_with fail
          go_loop [9, 11] (fun n j => ∃ jj : Nat, jj ≤ M ∧ j = .int .i64 (jj : Int) ∧ n = .int .i64 ((P5.take jj).flatten.length : Int)) (fun _ j => M - (intOf j).toNat)
          case atStart => exact ⟨0, Nat.zero_le _, rfl, rfl⟩
          case round =>
            obtain ⟨jj, hjj, rfl, rfl⟩ := hrel
            by_cases hlj : jj < M
            · obtain ⟨g6, rfl, hcj⟩ := HCE.out jj hlj
              have hjP : jj < P5.length := by have := HM.out; omega
              obtain ⟨x1, hx1⟩ : ∃ x1, x1 = (P5.getD jj []).length := ⟨_, rfl⟩
              have eP : P5.getD jj [] = P5[jj] := by simp [List.getD, hjP]
              rw [← hx1] at hcj
              have hx2 : 1 ≤ x1 := by rw [hx1, eP]; exact HT5.out.1.1 _ (List.getElem_mem hjP)
              have hx3 : x1 ≤ S := by rw [hx1, eP]; exact HT5.out.2 _ (List.getElem_mem hjP)
              have hx2i : ¬ ((x1 : Int) < 1) := by omega
              have hx3i : ¬ ((S : Int) < (x1 : Int)) := by omega
              obtain ⟨T0, hT0⟩ : ∃ T0, T0 = (P5.take jj).flatten.length := ⟨_, rfl⟩
              have HS0 : Hid ((P5.take (jj + 1)).flatten.length = T0 + x1) := (show _ = _ by rw [sum_take hjP, hT0, hx1, eP])
              have hTb : T0 + x1 ≤ 439804651110500 := by have h9 := HSUM.out (jj + 1); have h8 := HS0.out; omega
              have hji : (jj : Int) < (M : Int) := by omega
              have hj0 : (0 : Int) ≤ (jj : Int) := by omega
              rw [← hT0]
              have hhf : 1 < M → (S + 1) / 2 ≤ x1 := fun h9 => by rw [hx1, eP]; exact HABT.out (by have := HM.out; omega) _ (List.getElem_mem hjP)
              clear hT0 hx1 eP
              by_cases hM1 : 1 < M
              · have hM1i : (1 : Int) < (M : Int) := by omega
                have hx4 : ¬ ((x1 : Int) < ((S : Int) + 1) / 2) := by have := hhf hM1; omega
                clear hhf
                go_wp2
                go_round
                case rel => exact ⟨jj + 1, by omega, by go_num, by rw [HS0.out]; go_num⟩
                case measure => simp [intOf]; omega
              · have hM1i : ¬ ((1 : Int) < (M : Int)) := by omega
                clear hhf
                go_wp2
                go_round
                case rel => exact ⟨jj + 1, by omega, by go_num, by rw [HS0.out]; go_num⟩
                case measure => simp [intOf]; omega
            · obtain rfl : jj = M := by omega
              obtain ⟨T1, hT1⟩ : ∃ T1, T1 = (P5.take jj).flatten.length := ⟨_, rfl⟩
              rw [← hT1]
              have HT1 : Hid (P5.flatten.length = T1) := (show _ = _ by rw [hT1, HM.out, List.take_length])
              have hTb : T1 ≤ 439804651110400 := by rw [hT1]; have := HSUM.out jj; omega
              clear hT1
              go_wp2_with fail
              refine Calls.mono HLN.out ?_
              rintro e w7 ⟨rfl, hw7⟩
              subst hw7
              rw [HT1.out]
              go_wp2
              go_roundw
              case rel => exact ⟨k + 1, true, P5, v5, vs5, by omega, by go_num, rfl, HI6.out, HT5.out, fun _ => HABT.out, hP5, HF5.out, HB6.out⟩
              case measure => simp [intOf]; omega
    · obtain rfl : k = N := by omega
      have hkI : ¬ ((k : Int) < (k : Int)) := by omega
      go_wp2
      go_ret
      exact ⟨rfl, by have h9 := HBEL.out; rw [HG.out] at h9; exact h9⟩
end
end Go.Proofs.Ytnhjkipaclchiaa
