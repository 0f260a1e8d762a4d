import Derived.Test.YtnhjkipaclchiaaWTight
import Derived.Test.YtnhjkipaclchiaaQAl
namespace Go.Proofs.Ytnhjkipaclchiaa
set_option linter.unusedVariables false
set_option linter.unusedSimpArgs false
open Go.RowKit
theorem apart_step {w : World} {G G' : Nat} {vx vx' vy : Value} (hd : ∀ b, foot G vx b → ¬ foot G' vy b) (hli : Lies w vx vx') (hlt : ∀ b, foot G' vy b → b < w.heap.size) : ∀ b, foot G vx' b → ¬ foot G' vy b := fun b hb hy => by
  rcases hb with rfl | hb
  · exact hd _ (.inl rfl) hy
  · rcases hli with h | ⟨b', h1, h2⟩
    · exact hd b (.inr (by rw [← h]; exact hb)) hy
    · rw [hb] at h1; cases h1
      have := hlt b hy
      omega
theorem lies_above {w : World} {v v' : Value} {G B : Nat} (h : Lies w v v') (hv : ∀ b, foot G v b → B ≤ b) (hB : B ≤ w.heap.size) : ∀ b, foot G v' b → B ≤ b := fun b hb => by
  rcases hb with rfl | hb
  · exact hv _ (.inl rfl)
  · rcases h with h | ⟨b', h1, h2⟩
    · exact hv b (.inr (by rw [← h]; exact hb))
    · rw [hb] at h1; cases h1; omega
section
set_option maxRecDepth 20000
set_option maxHeartbeats 3200000
theorem pagesMap_walk (size other : Int) (a : Option Addr) (cap : Nat) (xs : List Stp) (W : World) (hsz : -9223372036854775808 ≤ size ∧ size ≤ 9223372036854775807) (hot : -9223372036854775808 ≤ other ∧ other ≤ 9223372036854775807) (hr : RdO W a xs) (hl : xs.length ≤ cap) (hn : a = none → cap = 0) (hc : xs.length ≤ 4398046511103) :
    Calls Try.prog 5 #[.int .i64 size, .int .i64 other, .slice a xs.length cap] W fun e W' => e = .returned (.bool true) ∧ Below W.heap.size W W' := by
  obtain ⟨N, hN⟩ : ∃ N, N = xs.length := ⟨_, rfl⟩
  rw [← hN] at hl hc ⊢
  have HR : Hid (RdO W a xs) := hr
  have HN : Hid (N = xs.length) := hN
  obtain ⟨G, hG⟩ : ∃ G, G = W.heap.size := ⟨_, rfl⟩
  have HG : Hid (G = W.heap.size) := hG
  clear hr hN hG
  go_enter Try.func5, Try.ntmps5
  go_wp2_with fail
  refine Calls.mono (sized_t size hsz W) ?_
  rintro e w1 ⟨S, hS4, hS64, rfl, hw1⟩
  subst hw1
  go_wp2_with fail
  refine Calls.mono (newU_t S ⟨hS4, hS64⟩ w1) ?_
  rintro e w2 ⟨rfl, hi2, hb2⟩
  rw [← HG.out] at hi2 hb2 ⊢
  have HI2 : Hid (IdxAt w2 G S [] (.slice none 0 0) []) := hi2
  have HB2 : Hid (Below G w1 w2) := hb2
  clear hi2 hb2
  go_wp2_with fail
  refine Calls.mono (sized_t other hot w2) ?_
  rintro e w3 ⟨S2, hT4, hT64, rfl, hw3⟩
  subst hw3
  go_wp2_with fail
  refine Calls.mono (newU_t S2 ⟨hT4, hT64⟩ w3) ?_
  rintro e w4 ⟨rfl, hi4, hb4⟩
  obtain ⟨G2, hG2⟩ : ∃ G2, G2 = w3.heap.size := ⟨_, rfl⟩
  rw [← hG2] at hi4 ⊢
  have HJ4 : Hid (IdxAt w4 G2 S2 [] (.slice none 0 0) []) := hi4
  have HI4 : Hid (IdxAt w4 G S [] (.slice none 0 0) []) := HI2.out.below hb4
  have HB4 : Hid (Below G w1 w4) := (show Below G w1 w4 by
    have h9 := HB2.out
    rw [HG.out] at h9 ⊢
    exact below_next h9 hb4)
  have HGG : Hid (G < G2) := (show G < G2 by rw [hG2]; exact HI2.out.lt G (.inl rfl))
  clear hi4 hb4 hG2
  go_wp2_with fail
  refine Calls.mono (num_t 0 w4) ?_
  rintro e w5 ⟨rfl, hw5⟩
  subst hw5
  go_wp2_with fail
  refine Calls.mono (num_t 0 w5) ?_
  rintro e w6 ⟨rfl, hw6⟩
  subst hw6
  go_wp2_with fail
  go_loopw [11, 12, 13] (fun vb vc i wr => ∃ (k : Nat) (P Q : List (List Ent)) (vx vy : Value) (vxs vys : List Value) (L : List Ent), k ≤ N ∧ i = .int .i64 (k : Int) ∧ IdxAt wr G S P vx vxs ∧ Tid S P ∧ P.length ≤ k ∧ IdxAt wr G2 S2 Q vy vys ∧ Tid S2 Q ∧ Q.length ≤ k ∧ OwnB wr 0 vb L ∧ OwnB wr 0 vc L ∧ L = P.flatten ∧ L = Q.flatten ∧ L.length ≤ k ∧ (∀ b, foot G vx b → G ≤ b) ∧ (∀ b, foot G2 vy b → G ≤ b) ∧ (∀ b, foot G vx b → ¬ foot G2 vy b) ∧ Below G w1 wr) (fun _ _ i _ => N - (intOf i).toNat)
  case atStart => exact ⟨0, [], [], _, _, _, _, [], Nat.zero_le _, rfl, HI4.out, ⟨⟨(fun p hp => by cases hp), List.Pairwise.nil⟩, (fun p hp => by cases hp)⟩, Nat.le_refl _, HJ4.out, ⟨⟨(fun p hp => by cases hp), List.Pairwise.nil⟩, (fun p hp => by cases hp)⟩, Nat.le_refl _, OwnB.nil _ _, OwnB.nil _ _, rfl, rfl, Nat.le_refl _, (fun b hb => by rcases hb with rfl | hb; exact Nat.le_refl _; cases hb), (fun b hb => by rcases hb with rfl | hb; exact Nat.le_of_lt HGG.out; cases hb), (fun b hb hb2 => by rcases hb with rfl | hb; rcases hb2 with e | hb2; exact absurd e (Nat.ne_of_lt HGG.out); cases hb2; cases hb), HB4.out⟩
  case round =>
    obtain ⟨k, P, Q, vx, vy, vxs, vys, L, hk, rfl, hi, ht, hPk, hj, hu, hQk, hob, hoc, hLP, hLQ, hLk, hf, hf2, hd, hbel⟩ := hrel
    have HI : Hid (IdxAt wr G S P vx vxs) := hi
    have HJ : Hid (IdxAt wr G2 S2 Q vy vys) := hj
    have HT : Hid (Tid S P) := ht
    have HU : Hid (Tid S2 Q) := hu
    have HOB : Hid _ := hob
    have HOC : Hid _ := hoc
    have HLP : Hid (L = P.flatten) := hLP
    have HLQ : Hid (L = Q.flatten) := hLQ
    have HORD : Hid (Ord L) := (show Ord L by rw [hLP]; exact ht.1.2)
    have HF : Hid (∀ b, foot G vx b → G ≤ b) := hf
    have HF2 : Hid (∀ b, foot G2 vy b → G ≤ b) := hf2
    have HD : Hid (∀ b, foot G vx b → ¬ foot G2 vy b) := hd
    have HBEL : Hid (Below G w1 wr) := hbel
    have hGr : G < wr.heap.size := hi.lt G (.inl rfl)
    clear hi hj ht hu hob hoc hLP hLQ hf hf2 hd hbel
    by_cases hlt : k < N
    · have hkx : k < xs.length := by have := HN.out; omega
      obtain ⟨b, o, rfl, hr⟩ := HR.out k hkx
      obtain ⟨kd, t1, t2, tn, hx⟩ : ∃ kd t1 t2 tn, xs[k] = (kd, ⟨(t1, t2), tn⟩) := ⟨_, _, _, _, rfl⟩
      rw [hx] at hr
      have HBL : Hid (b < G) := (show b < G by rw [HG.out]; exact World.block_lt_of_cell? w1 _ (hr 0 _ rfl))
      have HR1 : Hid (∀ u, Below G w1 u → u.rangeAt b (o + k * 4) (opv (kd, ⟨(t1, t2), tn⟩))) := fun u hu j v9 hv9 => (hu.cell HBL.out).trans (hr j v9 hv9)
      have hki : (k : Int) < (N : Int) := by omega
      have hk0 : (0 : Int) ≤ (k : Int) := by omega
      clear hr hx
      go_wp2_with (first | (refine wpList_load_mid rfl tOp _ rfl b (o + k * 4) rfl (opv (kd, ⟨(t1, t2), tn⟩)) _ (HR1.out _ HBEL.out) Try.underlying36 rfl info_op ?_))
      refine Calls.mono (turns_t HI.out HT.out ⟨by omega, hS64⟩ (by omega) _ L HOB.out HORD.out (by omega) kd t1 t2 tn) ?_
      rintro e w7 ⟨vb7, vx7, vxs7, P7, rfl, hi7, htu, hob7, hli, hch⟩
      have HI7 : Hid (IdxAt w7 G S P7 vx7 vxs7) := hi7
      have HJ7 : Hid (IdxAt w7 G2 S2 Q vy vys) := HJ.out.kept hch (fun b9 h9 h8 => HD.out b9 h8 h9) (fun b9 h9 => HI.out.noF b9 h9)
      have HOB7 : Hid (OwnB w7 0 vb7 (rowTurn kd (mkE (t1, t2) tn) L)) := hob7
      have HOC7 : Hid _ := OwnB.kept HOC.out HI.out hch
      have HF7 : Hid (∀ b, foot G vx7 b → G ≤ b) := lies_above hli HF.out (by omega)
      have HD7 : Hid (∀ b, foot G vx7 b → ¬ foot G2 vy b) := apart_step HD.out hli (fun b9 h9 => HJ.out.lt b9 h9)
      have HB7 : Hid (Below G w1 w7) := HBEL.out.trans (hch.below HF.out (by omega))
      have HT7 : Hid (Tid S P7) := htu.tid
      have hP7 : P7.length ≤ k + 1 := by have := htu.len; omega
      have HL7 : Hid (rowTurn kd (mkE (t1, t2) tn) L = P7.flatten) := (show _ = _ by rw [HLP.out]; exact htu.flat.symm)
      have hGr7 : G < w7.heap.size := hi7.lt G (.inl rfl)
      clear hi7 htu hob7 hli hch
      go_wp2_with (first | (refine wpList_load_mid rfl tOp _ rfl b (o + k * 4) rfl (opv (kd, ⟨(t1, t2), tn⟩)) _ (HR1.out _ HB7.out) Try.underlying36 rfl info_op ?_))
      refine Calls.mono (turns_t HJ7.out HU.out ⟨by omega, hT64⟩ (by omega) _ L HOC7.out HORD.out (by omega) kd t1 t2 tn) ?_
      rintro e w8 ⟨vc8, vy8, vys8, Q8, rfl, hj8, htu8, hoc8, hli8, hch8⟩
      have HJ8 : Hid (IdxAt w8 G2 S2 Q8 vy8 vys8) := hj8
      have HI8 : Hid (IdxAt w8 G S P7 vx7 vxs7) := HI7.out.kept hch8 (fun b9 h9 h8 => HD7.out b9 h9 h8) (fun b9 h9 => HJ7.out.noF b9 h9)
      have HOC8 : Hid (OwnB w8 0 vc8 (rowTurn kd (mkE (t1, t2) tn) L)) := hoc8
      have HOB8 : Hid (OwnB w8 0 vb7 (rowTurn kd (mkE (t1, t2) tn) L)) := OwnB.kept HOB7.out HJ7.out hch8
      have HF8 : Hid (∀ b, foot G2 vy8 b → G ≤ b) := lies_above hli8 HF2.out (by omega)
      have HD8 : Hid (∀ b, foot G vx7 b → ¬ foot G2 vy8 b) := fun b9 h9 h8 => apart_step (fun b h1 h2 => HD7.out b h2 h1) hli8 (fun b h1 => HI7.out.lt b h1) b9 h8 h9
      have HB8 : Hid (Below G w1 w8) := HB7.out.trans (hch8.below HF2.out (by omega))
      have HU8 : Hid (Tid S2 Q8) := htu8.tid
      have hQ8 : Q8.length ≤ k + 1 := by have := htu8.len; omega
      have HM8 : Hid (rowTurn kd (mkE (t1, t2) tn) L = Q8.flatten) := (show _ = _ by rw [HLQ.out]; exact htu8.flat.symm)
      have hLl : (rowTurn kd (mkE (t1, t2) tn) L).length ≤ k + 1 := by have := rowTurn_len kd (mkE (t1, t2) tn) L; omega
      have HLL : Hid ((rowTurn kd (mkE (t1, t2) tn) L).length ≤ k + 1) := hLl
      clear hj8 htu8 hoc8 hli8 hch8 hLl
      obtain ⟨r8, hr8⟩ : ∃ r8, r8 = (k : Int).tmod 8 := ⟨_, rfl⟩
      have hr8' := hr8.symm
      clear hr8
      by_cases hm : r8 = 0
      · subst hm
        go_wp2_with fail
        refine Calls.mono (ball_t HI8.out HT7.out hS64 (by omega) vb7 _ HOB8.out HL7.out (by have := HLL.out; omega)) ?_
        rintro e w9 ⟨rfl, hb9⟩
        have HB9 : Hid (Below w8.heap.size w8 w9) := hb9
        have HBG : Hid (Below G w1 w9) := HB8.out.trans ⟨hb9.os, hb9.tape, hb9.output, hb9.size, fun k9 h9 => hb9.block k9 (by have := HI8.out.lt G (.inl rfl); omega)⟩
        clear hb9
        go_wp2
        go_roundw
        case rel => exact ⟨k + 1, P7, Q8, vx7, vy8, vxs7, vys8, _, by omega, by go_num, HI8.out.below HB9.out, HT7.out, hP7, HJ8.out.below HB9.out, HU8.out, hQ8, OwnB.below HOB8.out HB9.out, OwnB.below HOC8.out HB9.out, HL7.out, HM8.out, HLL.out, HF7.out, HF8.out, HD8.out, HBG.out⟩
        case measure => simp [intOf]; omega
      · have hmb : (r8 == 0) = false := by simpa using hm
        go_wp2
        go_roundw
        case rel => exact ⟨k + 1, P7, Q8, vx7, vy8, vxs7, vys8, _, by omega, by go_num, HI8.out, HT7.out, hP7, HJ8.out, HU8.out, hQ8, HOB8.out, HOC8.out, HL7.out, HM8.out, HLL.out, HF7.out, HF8.out, HD8.out, HB8.out⟩
        case measure => simp [intOf]; omega
    · obtain rfl : k = N := by omega
      have hkI : ¬ ((k : Int) < (k : Int)) := by omega
      go_wp2_with fail
      refine Calls.mono (ball_t HI.out HT.out hS64 (by omega) _ L HOB.out HLP.out (by omega)) ?_
      rintro e w9 ⟨rfl, hb9⟩
      have HB9 : Hid (Below wr.heap.size wr w9) := hb9
      have HJ9 : Hid (IdxAt w9 G2 S2 Q vy vys) := HJ.out.below hb9
      have HOC9 : Hid _ := OwnB.below HOC.out hb9
      clear hb9
      go_wp2_with fail
      refine Calls.mono (ball_t HJ9.out HU.out hT64 (by omega) _ L HOC9.out HLQ.out (by omega)) ?_
      rintro e w10 ⟨rfl, hb10⟩
      have HB10 : Hid (Below wr.heap.size wr w10) := below_next HB9.out hb10
      clear hb10
      go_wp2
      go_ret
      have h9 : Below G w1 w10 := HBEL.out.trans ⟨HB10.out.os, HB10.out.tape, HB10.out.output, HB10.out.size, fun k9 h9 => HB10.out.block k9 (by omega)⟩
      exact ⟨rfl, h9.mono (Nat.le_of_eq HG.out.symm)⟩
end
end Go.Proofs.Ytnhjkipaclchiaa
