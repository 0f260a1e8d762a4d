import Derived.Test.YtdkifaojpklmcaaDoorKTe
import Derived.Test.YtdkifaojpklmcaaDoorOpenD
namespace Go.Proofs.YtdkifaojpklmcaaDoor
set_option linter.unusedVariables false
set_option linter.unusedSimpArgs false
open Go.RowKit
set_option maxRecDepth 20000 in
set_option maxHeartbeats 12800000 in
theorem seglogEndless_walk (size : Int) (ao : Option Addr) (cap : Nat) (xs : List Int) (keep : Int) (w : World) (hs : I64 size) (hx : RdI w ao xs) (hi : ∀ n ∈ xs, I64 n) (hl : xs.length ≤ cap) (hn : ao = none → cap = 0) (hc : cap ≤ 1048575) (hk : I64 keep) (ht : TabOk w) :
    Calls Tryd.prog 3 #[.int .i64 size, .slice ao xs.length cap, .int .i64 keep] w fun e w' => e = .returned (.bool true) ∧ Below w.heap.size w w' := by
  have HBG : Hid (Calls _ _ _ w _) := EnC.begin size hs.1 hs.2 ht
  have HSP : Hid (∀ u, Calls _ _ _ u _) := fun u => spanK_t keep 0 65535 u hk.1 hk.2 (by decide) (by decide)
  have HX : Hid (RdI w ao xs) := hx
  have HI : Hid (∀ n ∈ xs, I64 n) := hi
  have hmi := spanK_in keep 0 65535 (by decide)
  obtain ⟨K, hK⟩ : ∃ K, K = spanK keep 0 65535 := ⟨_, rfl⟩
  obtain ⟨Z, hZ⟩ : ∃ Z, Z = spanK size 3 65531 := ⟨_, rfl⟩
  have hmz := spanK_in size 3 65531 (by decide)
  obtain ⟨L, hL⟩ : ∃ L, L = xs.length := ⟨_, rfl⟩
  rw [← hK] at HSP hmi
  rw [← hZ] at HBG hmz
  have HL : Hid (L = xs.length ∧ L ≤ 1048575) := ⟨hL, by omega⟩
  have HZ : Hid (3 ≤ Z ∧ Z ≤ 65531) := hmz
  have HK : Hid (K ≤ 65535) := hmi.2
  rw [← hL]
  clear hs hx hi hl hn hc hk ht hmi hK hZ hmz hL
  go_enter Tryd.func3, Tryd.ntmps3
  go_wp2_with first | (go_at_call 8; refine Calls.mono HBG.out ?_; rintro e w1 ⟨kb, g, p, x0, d0, n0, X0, Y0, k0, rfl, hen, htd⟩; have HE0 : Hid (EnC w w1 kb g p Z 0 x0 d0 n0 X0 Y0 [] k0 ∧ k0.told = 0) := ⟨hen, htd⟩; clear hen htd) | (go_at_call 9; refine Calls.mono (HSP.out _) ?_; rintro e w' ⟨rfl, hq⟩; have hq := hq.symm; subst hq)
  clear hq
  go_loopw [9] (fun j wr => ∃ i : Nat, i ≤ L ∧ j = .int .i64 (i : Int) ∧ Hid (∃ x d n X Y T k, EnC w wr kb g p Z i x d n X Y T k ∧ k.told = i)) (fun j _ => L - (intOf j).toNat)
  case atStart => exact ⟨0, Nat.zero_le _, rfl, _, _, _, _, _, _, _, HE0.out⟩
  case round =>
    obtain ⟨i, hiL, rfl, HE⟩ := hrel
    obtain ⟨x, d, n, X, Y, T, k, hen, htd⟩ := HE.out
    have HEN : Hid (EnC w wr kb g p Z i x d n X Y T k) := hen
    have HTD : Hid (k.told = i) := htd
    clear HE hen htd
    by_cases hil : i < L
    · have hilI : (i : Int) < (L : Int) := by omega
      have hi0 : (0 : Int) ≤ (i : Int) := by omega
      have HIL : Hid (i < L) := hil
      have hix : i < xs.length := by rw [← HL.out.1]; exact hil
      obtain ⟨a0, ha0⟩ : ∃ a0, a0 = xs[i] := ⟨_, rfl⟩
      obtain ⟨b, o, e1, hcxa⟩ := HX.out (by omega)
      subst e1
      have hcx0 := hcxa i hix
      rw [← ha0] at hcx0
      have hcx : wr.cell? ⟨b, o + i, none⟩ = some (.int .i64 a0) := (HEN.out.bel.cell (World.block_lt_of_cell? w _ hcx0)).trans hcx0
      have hI64 := HI.out a0 (by rw [ha0]; exact List.getElem_mem hix)
      have HTX : Hid (Calls _ _ _ wr _) := HEN.out.text a0 hI64.1 hI64.2 (by rw [HTD.out]; have := HL.out; omega)
      obtain ⟨R, hR⟩ : ∃ R, R = spanK a0 0 8192 := ⟨_, rfl⟩
      have hRR := (spanK_in a0 0 8192 (by decide)).2
      rw [← hR] at HTX hRR
      have HR : Hid (R ≤ 8192) := hRR
      obtain ⟨M, hM⟩ : ∃ M, M = needS R := ⟨_, rfl⟩
      have HM : Hid (M = needS R ∧ 1 ≤ M ∧ M ≤ 79) := (show _ ∧ _ from ⟨hM, by rw [hM]; exact (needS_pos hRR).1, by rw [hM]; exact (needS_pos hRR).2.1⟩)
      have HNE : Hid (∀ u, Calls Tryd.prog 11 #[.int .i64 (R : Int)] u fun er w' => er = .returned (.int .i64 (M : Int)) ∧ w' = u) := fun u => by rw [hM]; exact need_t R (by omega) u
      clear hcxa hcx0 hI64 hR hRR hM ha0 hix
      go_upto_region 9 with (go_at_call 10; refine Calls.mono HTX.out ?_; rintro e w2 ⟨ra, rc, rec, rfl, hrl, hrc, hen2⟩; have HRL : Hid (rec.length = R) := hrl; have HRC : Hid (Rc w w2 X Y ra rc rec) := hrc; have HEN2 : Hid (EnC w w2 kb g p Z i x d n X Y T { k with told := k.told + 1 }) := hen2; clear hrl hrc hen2)
      clear hcx
      have HT2 : Hid (({ k with told := k.told + 1 } : Kp).told = i + 1) := (show k.told + 1 = i + 1 by rw [HTD.out])
      go_wp2_with (go_at_call 11; refine Calls.mono (HNE.out _) ?_; rintro e w' ⟨rfl, hq⟩; have hq := hq.symm; subst hq)
      go_loopw [] (fun wq => Hid (∃ x d n X Y T k, EnC w wq kb g p Z i x d n X Y T k ∧ k.told = i + 1 ∧ Rc w wq X Y ra rc rec)) (fun wq => lenK wq kb)
      case atStart => exact ⟨_, _, _, _, _, _, _, HEN2.out, HT2.out, HRC.out⟩
      case round =>
        obtain ⟨x2, d2, n2, X2, Y2, T2, k2, hen, htd, hrc⟩ := hrel.out
        have HE2 : Hid (EnC w wr kb g p Z i x2 d2 n2 X2 Y2 T2 k2) := hen
        have HTD2 : Hid (k2.told = i + 1) := htd
        have HRC2 : Hid (Rc w wr X2 Y2 ra rc rec) := hrc
        clear hrel hen htd hrc
        have hnx2 : x2.nx < 281474976710656 := by have := HE2.out.nx; have := HL.out; have := HIL.out; omega
        have HFR : Hid (Calls _ _ _ wr _) := HE2.out.st.a.log.free HE2.out.st.l hnx2
        obtain ⟨fr, hfr⟩ : ∃ fr, fr = x2.free := ⟨_, rfl⟩
        rw [← hfr] at HFR
        have HF : Hid (fr = x2.free) := hfr
        obtain ⟨ia, ic, M2, hbx, hM2, -, -, -, -⟩ := HE2.out.st.a.boxD
        have HM2 : Hid (M2 = T2.length) := hM2
        have HBX : Hid (wr.heap[kb]? = _) := hbx
        obtain ⟨-, c1, -, -, -, -, -, -, -, -⟩ := cells11 hbx
        clear hfr hM2 hbx hnx2 hq
        by_cases hfM : fr < M
        · have hfI : (fr : Int) < (M : Int) := by omega
          have HFM : Hid (fr < M) := hfM
          clear hfM
          by_cases hT2 : T2 = []
          · have hM0 : M2 = 0 := by rw [HM2.out, hT2]; rfl
            subst hM0
            have HT2E : Hid (T2 = []) := hT2
            clear hT2
            go_upto_region 13 with (go_at_call 12; refine Calls.mono HFR.out ?_; rintro e u3 ⟨rfl, hu3⟩; have c3 := (cells11 (below_blk hu3 HBX.out)).2.2.2.1; have HU3 : Hid (Below wr.heap.size wr u3) := hu3; clear hu3)
            have hen3 := HE2.out.below HU3.out
            have HE3 : Hid (EnC w u3 kb g p Z i x2 d2 n2 X2 Y2 T2 k2) := hen3
            have hfrZ : fr = Z - 2 := by
              have h1 := HF.out
              have h2 := HE2.out.st.l.ch
              rw [HT2E.out] at h2
              have h2 : x2.h.f = x2.nx := h2
              have h3 : x2.free = x2.h.f + (x2.Z - 2) - x2.nx := rfl
              have h4 := HE2.out.Z
              omega
            have hgt : (Z : Int) - 2 < (M : Int) := by have := HFM.out; have := HZ.out; omega
            have hwz : wrap64 ((Z : Int) - 2) = (Z : Int) - 2 := by have := HZ.out; unfold wrap64; omega
            have hkw : IntKind.i64.wrap ((i : Int) + 1) = ((i + 1 : Nat) : Int) := by have := HL.out; have := HIL.out; rw [IntKind.wrap_i64]; omega
            have HAP : Hid (Calls _ _ _ u3 _) := hen3.st.a.log.full hen3.st.l ra rc R HR.out (by have := HE2.out.nx; have := HL.out; have := HIL.out; omega) (by rw [← HF.out, ← HM.out.1]; exact HFM.out)
            have hsz : k2.size = Z := by rw [HE2.out.st.f.size, HE2.out.Z]
            have HCC : Hid (∀ u, Below u3.heap.size u3 u → u.cell? ⟨kb, 2, none⟩ = some (.int .i64 (Z : Int))) := fun u hu => by rw [← hsz]; exact (hen3.below hu).st.a.cl.2.2.1
            have c1 : u3.cell? ⟨kb, 1, none⟩ = some (.pointer (some ⟨g, 0, none⟩)) := hen3.st.a.cl.2.1
            clear hen3 hfrZ hsz c3
            go_wp2_with (go_at_call 14; refine Calls.mono HAP.out ?_; rintro e u4 ⟨rfl, hu4⟩; have c2 := HCC.out u4 hu4; have HU4 : Hid (Below u3.heap.size u3 u4) := hu4; clear hu4)
            go_roundw
            case rel => exact ⟨i + 1, HIL.out, by go_num, x2, d2, n2, X2, Y2, T2, k2, (HE3.out.below HU4.out).up, HTD2.out⟩
            case measure => have := HIL.out; simp [intOf]; omega
          · have hM0 : 0 < M2 := by rw [HM2.out]; cases T2 with | nil => exact absurd rfl hT2 | cons t r => simp
            have hM0I : (0 : Int) < (M2 : Int) := by omega
            have HTM : Hid (∀ u, Below wr.heap.size wr u → Calls _ _ _ u _) := fun u hu => (HE2.out.below hu).trim hT2 (by have := HL.out; have := HIL.out; omega)
            clear hT2
            go_wp2_with first | (go_at_call 12; refine Calls.mono HFR.out ?_; rintro e u3 ⟨rfl, hu3⟩; have c3 := (cells11 (below_blk hu3 HBX.out)).2.2.2.1; have HU3 : Hid (Below wr.heap.size wr u3) := hu3; clear hu3) | (go_at_call 13; refine Calls.mono (HTM.out _ HU3.out) ?_; rintro e u4 ⟨rfl, x4, d4, n4, X4, Y4, k4, hen4, htd4, hX4, hY4, hc4⟩; have HE4 : Hid (EnC w u4 kb g p Z i x4 d4 n4 X4 Y4 (T2.drop 1) k4 ∧ k4.told = k2.told ∧ Rc w u4 X4 Y4 ra rc rec) := ⟨hen4, htd4, (HRC2.out.below HU3.out).kept hc4 hX4 hY4⟩; clear hen4 htd4 hX4 hY4 hc4)
            go_roundw
            case rel => exact ⟨x4, d4, n4, X4, Y4, T2.drop 1, k4, HE4.out.1, HE4.out.2.1.trans HTD2.out, HE4.out.2.2⟩
            case measure =>
              rw [HE4.out.1.len, HE2.out.len, List.length_drop]
              have := HM2.out
              omega
        · have hfI : ¬ (fr : Int) < (M : Int) := by omega
          have HFM : Hid (M ≤ fr) := (show M ≤ fr by omega)
          clear hfM
          go_upto_region 13 with (go_at_call 12; refine Calls.mono HFR.out ?_; rintro e u3 ⟨rfl, hu3⟩; have c3 := (cells11 (below_blk hu3 HBX.out)).2.2.2.1; have HU3 : Hid (Below wr.heap.size wr u3) := hu3; clear hu3)
          have hen3 := HE2.out.below HU3.out
          have HE3 : Hid (EnC w u3 kb g p Z i x2 d2 n2 X2 Y2 T2 k2) := hen3
          have HRC3 : Hid (Rc w u3 X2 Y2 ra rc rec) := HRC2.out.below HU3.out
          have hbd : x2.nx + 79 < 281474976710656 ∧ n2 + 79 < 1099511627776 := by have := HE2.out.nx; have := HE2.out.nn; have := HL.out; have := HIL.out; omega
          have hwz : wrap64 ((Z : Int) - 2) = (Z : Int) - 2 := by have := HZ.out; unfold wrap64; omega
          have hle : ¬ (Z : Int) - 2 < (M : Int) := by
            have h1 := HF.out
            have h2 := HE2.out.st.l.ch.le.1
            have h3 : x2.free = x2.h.f + (x2.Z - 2) - x2.nx := rfl
            have h4 := HE2.out.Z
            have h5 := HFM.out
            have h6 := HZ.out
            omega
          have hkw : IntKind.i64.wrap ((i : Int) + 1) = ((i + 1 : Nat) : Int) := by have := HL.out; have := HIL.out; rw [IntKind.wrap_i64]; omega
          obtain ⟨qa, qc, hqv, hqc, -, hqn, hqr, -⟩ := Own.val HRC3.out.own
          injection hqv with q1 q2 q3
          subst q1; subst q3
          have hap := LogX.append hen3.st.a.log hen3.st.l ra rc R rec HRL.out.symm HR.out hqr (by rw [← HRL.out]; exact hqc) hqn (fun q e => (HRC3.out.nX q e).1) hbd.2 hbd.1 (by rw [← HM.out.1, ← HF.out]; exact HFM.out)
          obtain ⟨nx, hnx⟩ : ∃ nx, nx = x2.nx := ⟨_, rfl⟩
          rw [← hnx] at hap
          have HNX : Hid (nx = x2.nx) := hnx
          have HAP : Hid (Calls _ _ _ u3 _) := hap
          have hsz : k2.size = Z := by rw [HE2.out.st.f.size, HE2.out.Z]
          have HSZ : Hid (k2.size = Z) := hsz
          have c1 : u3.cell? ⟨kb, 1, none⟩ = some (.pointer (some ⟨g, 0, none⟩)) := hen3.st.a.cl.2.1
          clear hen3 hbd hqc hqn hqr hap hnx hsz c3 q2
          go_upto_region 14 with (go_at_call 14; refine Calls.mono HAP.out ?_; rintro e w4 ⟨rfl, hlo⟩; have HLO : Hid (LogO u3 g p X2 (x2.app rec) _ (n2 + 79) w4) := hlo; clear hlo)
          obtain ⟨X4, hA4, hX4⟩ := HE3.out.st.a.logged HLO.out
          have hrX4 : ∀ q, ra = some q → ¬ X4 q.block := fun q e hX => by
            rcases hX4 _ hX with h9 | h9
            · exact (HRC3.out.nX q e).1 h9
            · have := (HRC3.out.nX q e).2.2; omega
          have hO4 : Own w4 w.heap.size (.slice ra R rc) rec := by
            rw [← HRL.out]
            exact ownKept HRC3.out.own (fun b hb => by
              obtain ⟨a, e1, rfl⟩ := SA_blk hb
              exact HLO.out.chg.block _ (HRC3.out.nX a e1).2.2 (HRC3.out.nX a e1).1)
          have HA4 : Hid (KpA w4 kb g p (x2.app rec) _ (n2 + 79) X4 Y2 T2 k2) := hA4
          have HX4 : Hid (∀ b, X4 b → X2 b ∨ u3.heap.size ≤ b) := hX4
          obtain ⟨hlog4, ⟨ja, jc, N, hbx4, hmid4, hits4, hY1, hY2, hY3⟩, hy4⟩ := hA4
          obtain ⟨m, hm⟩ : ∃ m, m = N.length := ⟨_, rfl⟩
          rw [← hm] at hbx4 hmid4
          have HMN : Hid (m = N.length ∧ N.length = T2.length) := ⟨hm, hits4.len⟩
          have HMS : Hid (m < 65537) := (show m < 65537 by have := HE2.out.st.l.size; have := HE2.out.st.l.fit; have := HE2.out.st.l.N; have := HE2.out.st.l.AZ; have := hits4.len; omega)
          have HK4 : Hid (LogX w4 g p (x2.app rec) _ (n2 + 79) X4 ∧ w4.heap[kb]? = some (.cells (Kp.c k2 p g (.slice ja m jc)) tKp (0, 0)) ∧ MidG KI w4 (.slice ja m jc) N ∧ Its w4 N T2 ∧ Y2 kb ∧ (∀ a, ja = some a → Y2 a.block) ∧ (∀ (i : Nat) y b, N[i]? = some y → y.v.ownBlock = some b → Y2 b) ∧ (∀ b, Y2 b → b < w4.heap.size ∧ ¬ X4 b)) := ⟨hlog4, hbx4, hmid4, hits4, hY1, hY2, hY3, hy4⟩
          have HO4 : Hid _ := hO4
          have HRX4 : Hid _ := hrX4
          have cd3 := (cells11 hbx4).2.2.2.1
          have cd2 : w4.cell? ⟨kb, 2, none⟩ = some (.int .i64 (Z : Int)) := by rw [← HSZ.out]; exact (cells11 hbx4).2.2.1
          have HBX5 : Hid (∀ u' v', (∀ b, v' = some b → b ≠ kb) → (∃ o, (w4.alloc o).grownBy u' v') → u'.heap[kb]? = some (.cells (Kp.c k2 p g (.slice ja m jc)) tKp (0, 0))) := fun u' v' hne ⟨o, hg⟩ => by
            have h1 := below_blk (alS (Below.refl w4.heap.size w4) o) hbx4
            exact (hg.block kb (Array.getElem?_eq_some_iff.1 h1).1 (fun e => hne kb e.symm rfl)).trans h1
          have HRN : Hid (∀ b, (Value.slice ja m jc).ownBlock = some b → b ≠ kb) := fun b hb e => by
            obtain ⟨cur, h9⟩ := hmid4.blk b hb
            rw [e, hbx4] at h9; cases h9
          clear c1 hlog4 hbx4 hmid4 hits4 hY1 hY2 hY3 hy4 hO4 hrX4 hX4 hm
          go_wp2_with (at_builtin; refine wp_appM1 (K := KI) rfl _ _ rfl (.slice ja m jc) N ⟨nx, ra, R, rc⟩ m HMN.out.1 _ 1 rfl (HK4.out.2.2.1.below (alS (Below.refl _ _) _)) (by rfl) (rdG_lit (K := KI) (heap_alloc_new _ _) rfl) (by have := HMS.out; show (m + 1) * 32 ≤ _; omega) (by have := HMS.out; simp only [maxLen]; omega) ?_; intro v7 w7 hmid7 hg7 hat7; obtain ⟨a7, c7, hv7, -⟩ := hmid7.val; obtain ⟨n7, hn7⟩ : ∃ n7, n7 = (N ++ [(⟨nx, ra, R, rc⟩ : Nb)]).length := ⟨_, rfl⟩; rw [← hn7] at hv7; subst hv7; have h37 := HBX5.out w7 _ (fun b hb => HRN.out b hb) ⟨_, hg7⟩; have d37 := (cells11 h37).2.2.2.1; have f37 := frz h37 3; have HN7 : Hid _ := hn7; have HM7 : Hid _ := hmid7; have HG7 : Hid _ := hg7; have HT7 : Hid _ := hat7; clear hmid7 hg7 hat7 hn7 h37)
          obtain ⟨k1, k2', k3, k4, k5, k6, k7, k8⟩ := HK4.out
          obtain ⟨Y9, hA9, hY9⟩ := KpA.push (t := ⟨nx, x2.h.e, rec⟩) k1 k2' k3 k4 k5 k6 k7 k8 HO4.out HRX4.out HG7.out HM7.out HN7.out HT7.out
          have hlv := (HE2.out.st.l.app (rec := rec) (by rw [HRL.out]; exact HR.out) (by rw [HRL.out, ← HM.out.1, ← HF.out]; exact HFM.out) (by have := HE2.out.nx; have := HL.out; have := HIL.out; omega)).2
          rw [HRL.out, ← HNX.out] at hlv
          have hbc : Chg (fun b => b = kb ∨ (Value.slice ja m jc).ownBlock = some b) w4 (w7.setCell ⟨kb, 3, none⟩ (.slice a7 n7 c7)) :=
            ((Chg.of_below (alS (Below.refl w4.heap.size w4) _) : Chg (fun b => b = kb ∨ (Value.slice ja m jc).ownBlock = some b) _ _).trans (Chg.of_grown HG7.out (F := fun b => (Value.slice ja m jc).ownBlock = some b) (fun b e => e)) (fun i h => .inl (.inr h))).trans (Chg.of_grown (gset1 w7 kb 3 _) (F := fun b => b = kb) (fun b e => (Option.some.inj e).symm)) (fun i h => .inl (.inl h))
          generalize (w7.setCell ⟨kb, 3, none⟩ (.slice a7 n7 c7)) = W9 at *
          have hc9 : Chg (fun b => X2 b ∨ Y2 b) u3 W9 := (HLO.out.chg.mono (fun b h => (.inl h : X2 b ∨ Y2 b))).trans hbc (fun i h9 => by
            rcases h9 with rfl | h9
            · exact .inl (.inr k5)
            · obtain ⟨a, e1, rfl⟩ := SA_blk h9
              exact .inl (.inr (k6 a e1)))
          have hS := HE3.out.st.a.sums
          have hs9 : W9.heap[0]? = u3.heap[0]? := (hbc.block _ (Nat.lt_of_lt_of_le hS.1 HLO.out.chg.size) (fun h9 => by
            rcases h9 with h9 | h9
            · exact hS.2.1 (h9 ▸ k5)
            · obtain ⟨a, e1, e2⟩ := SA_blk h9
              exact hS.2.1 (e2 ▸ k6 a e1))).trans HLO.out.sm
          have hen9 : EnC w W9 kb g p Z (i + 1) (x2.app rec) (runO d2 (recO x2.A x2.Z nx x2.h.e rec (needS R))).1 (n2 + 79) X4 Y9 (T2 ++ [⟨nx, x2.h.e, rec⟩]) k2 := by
            have h1 := HE2.out.nx; have h2 := HE2.out.gn; have h3 := HE2.out.nn; have h4 := HM.out
            refine ⟨⟨hA9, hlv, HE2.out.st.f.size, HE2.out.st.f.fst, HE2.out.st.f.ep, HE2.out.st.f.dead⟩, HE2.out.Z, ?_, ?_, ?_, fun b hb => ?_, fun b hb => ?_, HE3.out.kept hc9 hs9⟩
            · show x2.nx + needS rec.length ≤ _
              rw [HRL.out, ← h4.1]; omega
            · show x2.h.g + (T2 ++ [_]).length ≤ _
              rw [List.length_append, List.length_singleton]; omega
            · rw [List.length_append, List.length_singleton]; omega
            · rcases HX4.out b hb with h9 | h9
              · exact HE2.out.fX b h9
              · exact .inr (Nat.le_trans HE3.out.bel.size h9)
            · rcases hY9 b hb with h9 | h9 | ⟨q, e, rfl⟩
              · exact HE2.out.fY b h9
              · exact Nat.le_trans HE3.out.bel.size (Nat.le_trans HLO.out.chg.size h9)
              · exact (World.ownsRow.lt HO4.out q.block (by rw [e]; cases q; rfl)).1
          have HE9 : Hid _ := hen9
          have hwk1 : IntKind.i64.wrap ((K : Int) + 1) = (K : Int) + 1 := by have := HK.out; rw [IntKind.wrap_i64]; omega
          have hwk2 : wrap64 ((K : Int) + 1) = (K : Int) + 1 := by have := HK.out; unfold wrap64; omega
          clear k1 k2' k3 k4 k5 k6 k7 k8 hA9 hY9 hlv hbc hc9 hS hs9 hen9 d37 f37 cd3 cd2 hle hwz
          go_loopw [] (fun wq => Hid (∃ x d n X Y T k, EnC w wq kb g p Z (i + 1) x d n X Y T k ∧ k.told = i + 1)) (fun wq => lenK wq kb)
          case atStart => exact ⟨_, _, _, _, _, _, _, HE9.out, HTD2.out⟩
          case round =>
            obtain ⟨x5, d5, n5, X5, Y5, T5, k5, hen, htd⟩ := hrel.out
            have HE5 : Hid (EnC w wr kb g p Z (i + 1) x5 d5 n5 X5 Y5 T5 k5) := hen
            have HTD5 : Hid (k5.told = i + 1) := htd
            clear hrel hen htd
            obtain ⟨ia5, ic5, M5, hbx5, hM5, -, -, -, -⟩ := HE5.out.st.a.boxD
            have HM5 : Hid (M5 = T5.length) := hM5
            have c53 := (cells11 hbx5).2.2.2.1
            clear hM5 hbx5
            by_cases hK5 : K + 1 < M5
            · have hK5I : (K : Int) + 1 < (M5 : Int) := by omega
              have hT5 : T5 ≠ [] := fun e => by have := HM5.out; rw [e] at this; simp at this; omega
              have HTM : Hid (Calls _ _ _ wr _) := HE5.out.trim hT5 (by have := HL.out; have := HIL.out; omega)
              have HK5 : Hid (K + 1 < M5) := hK5
              clear hT5 hK5
              go_wp2_with (go_at_call 13; refine Calls.mono HTM.out ?_; rintro e u6 ⟨rfl, x6, d6, n6, X6, Y6, k6, hen6, htd6, -, -, -⟩; have HE6 : Hid (EnC w u6 kb g p Z (i + 1) x6 d6 n6 X6 Y6 (T5.drop 1) k6 ∧ k6.told = k5.told) := ⟨hen6, htd6⟩; clear hen6 htd6)
              go_roundw
              case rel => exact ⟨x6, d6, n6, X6, Y6, T5.drop 1, k6, HE6.out.1, HE6.out.2.trans HTD5.out⟩
              case measure =>
                rw [HE6.out.1.len, HE5.out.len, List.length_drop]
                have := HM5.out; have := HK5.out
                omega
            · have hK5I : ¬ (K : Int) + 1 < (M5 : Int) := by omega
              have HIS : Hid (Calls _ _ _ wr _) := kis_t HE5.out.st (by have := HE5.out.nx; have := HL.out; omega)
              clear hK5
              go_wp2_with (go_at_call 15; refine Calls.mono HIS.out ?_; rintro e w6 ⟨rfl, hb6⟩; have HB6 : Hid (Below wr.heap.size wr w6) := hb6; clear hb6)
              go_roundw
              case rel => exact ⟨i + 1, HIL.out, by go_num, x5, d5, n5, X5, Y5, T5, k5, HE5.out.below HB6.out, HTD5.out⟩
              case measure => have := HIL.out; simp [intOf]; omega
    · obtain rfl : i = L := by omega
      have hilI : ¬ (i : Int) < (i : Int) := by omega
      have HIS : Hid (Calls _ _ _ wr _) := kis_t HEN.out.st (by have := HEN.out.nx; have := HL.out; omega)
      go_wp2_with (go_at_call 15; refine Calls.mono HIS.out ?_; rintro e w9 ⟨rfl, hb9⟩; have HB9 : Hid _ := hb9; clear hb9)
      go_ret
      exact ⟨by first | rfl | simp, (HEN.out.below HB9.out).bel⟩
end Go.Proofs.YtdkifaojpklmcaaDoor
