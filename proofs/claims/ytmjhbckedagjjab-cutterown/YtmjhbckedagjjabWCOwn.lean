import Derived.Test.YtmjhbckedagjjabOwD
namespace Go.Proofs.Ytmjhbckedagjjab
set_option linter.unusedVariables false
set_option linter.unusedSimpArgs false
open Go.RowKit
set_option maxRecDepth 20000 in
set_option maxHeartbeats 6400000 in
theorem cutterOwn_walk (ba : Option Addr) (bc : Nat) (bs : List UInt8) (m : Int) (r : Int) (ao : Option Addr) (cap : Nat) (xs : List OpD) (w : World) (hb : Rd w ba bs) (hlb : bs.length ≤ bc) (hcb : bc ≤ 140737488351232) (hnb : ba = none → bc = 0) (hm : -9223372036854775808 ≤ m ∧ m ≤ 9223372036854775807) (hr : RdO w ao xs) (hle : xs.length ≤ cap) (hnil : ao = none → cap = 0) (hl : xs.length ≤ 4398046511103) :
    Calls Try.prog 6 #[.slice ba bs.length bc, .int .i64 m, .agg #[.int .i64 r, .slice ao xs.length cap]] w fun e w' => e = .returned (.bool true) ∧ Below w.heap.size w w' := by
  clear hle hnil hnb
  have HNUM : Hid (∀ (e : Int) (u : World), Calls _ _ _ u _) := fun e u => num_t e u
  obtain ⟨L, hL⟩ : ∃ L, L = bs.length := ⟨_, rfl⟩
  rw [← hL] at hlb ⊢
  have HL : Hid _ := hL
  clear hL
  go_enter Try.func6, Try.ntmps6
  go_wp2_with fail
  have hb0 : Below w.heap.size w (w.alloc (.cells #[.int .i64 r, .slice ao xs.length cap] tSc)) := al (Below.refl _ _) _
  have hbx0 : (w.alloc (.cells #[.int .i64 r, .slice ao xs.length cap] tSc)).heap[w.heap.size]? = some (.cells #[.int .i64 r, .slice ao xs.length cap] tSc (0, 0)) := heap_alloc_new w _
  generalize (w.alloc (.cells #[.int .i64 r, .slice ao xs.length cap] tSc)) = W0 at *
  have HR : Hid (RdO W0 ao xs) := hr.below hb0
  have HRB : Hid (Rd W0 ba bs) := Rd.below hb hb0
  have HCS : Hid (∀ u, Below W0.heap.size W0 u → u.cell? ⟨w.heap.size, 0, none⟩ = some (.int .i64 r) ∧ u.cell? ⟨w.heap.size, 1, none⟩ = some (.slice ao xs.length cap)) := fun u hu => scells ((hu.block _ (Array.getElem?_eq_some_iff.1 hbx0).1).trans hbx0)
  have HB0 : Hid _ := hb0
  have HM : Hid _ := hm
  have hlb2 : L ≤ 140737488355328 := by omega
  clear hr hbx0 hb0 hb hm
  obtain ⟨Er, hEr⟩ : ∃ Er, Er = cutE L m := ⟨_, rfl⟩
  obtain ⟨T, hTd⟩ : ∃ T, T = cutS bs m := ⟨_, rfl⟩
  obtain ⟨N, hN⟩ : ∃ N, N = T.length := ⟨_, rfl⟩
  have hN64 : N ≤ 64 := by rw [hN, hTd]; exact cutS_len bs m
  have HER : Hid _ := hEr
  have HTD : Hid _ := hTd
  have HN : Hid _ := hN
  clear hEr hTd hN
  refine Calls.mono (cut_p (w := W0) ba L bc bs m HM.out HL.out HRB.out hlb hlb2) ?_
  rintro e w1 ⟨v1, E1, he1, hls1, hb1⟩
  rw [← HL.out, ← HER.out] at he1
  rw [← HTD.out] at hls1
  subst he1
  obtain ⟨a1, c1, hv1, hrl1, hle1, hnil1⟩ := hls1.rdL
  rw [← HN.out] at hv1 hle1
  subst hv1
  have HLS1 : Hid (Lists w1 W0.heap.size (.slice a1 N c1) E1 T) := hls1
  have HRL1 : Hid (RdL w1 a1 E1 T) := hrl1
  have HNL1 : Hid (a1 = none → c1 = 0) := hnil1
  have HB1 : Hid (Below W0.heap.size W0 w1) := hb1
  clear hls1 hrl1 hnil1 hb1
  go_wp2_with fail
  refine Calls.mono (cut_p (w := w1) ba L bc bs m HM.out HL.out (Rd.below HRB.out HB1.out) hlb hlb2) ?_
  rintro e w2 ⟨v2, E2, he2, hls2, hb2⟩
  rw [← HL.out, ← HER.out] at he2
  rw [← HTD.out] at hls2
  subst he2
  obtain ⟨a2, c2, hv2, hrl2, hle2, hnil2⟩ := hls2.rdL
  rw [← HN.out] at hv2 hle2
  subst hv2
  have HLS2 : Hid (Lists w2 w1.heap.size (.slice a2 N c2) E2 T) := hls2
  have HRL2 : Hid (RdL w2 a2 E2 T) := hrl2
  have HNL2 : Hid (a2 = none → c2 = 0) := hnil2
  have HB2 : Hid (Below w1.heap.size w1 w2) := hb2
  clear hls2 hrl2 hnil2 hb2
  go_wp2_with fail
  refine Calls.mono (sameL_t (w := w2) a1 a2 N N c1 c2 E1 E2 T HN.out HN.out (HRL1.out.below HB2.out) HRL2.out (by omega)) ?_
  rintro e w3 ⟨rfl, hb3⟩
  have HB3 : Hid (Below w2.heap.size w2 w3) := hb3
  clear hb3
  go_wp2_with fail
  refine Calls.mono (small_t w3) ?_
  rintro e w4 ⟨rfl, hb4⟩
  have HB4 : Hid (Below w2.heap.size w2 w4) := below_next HB3.out hb4
  have HRG1 : Hid (RdG KL w4 a1 E1) := (HRL1.out.below (below_next HB2.out HB4.out)).rd
  have HRG2 : Hid (∀ u, Below w4.heap.size w4 u → RdG KL u a2 E2) := fun u hu => (HRL2.out.below (below_next HB4.out hu)).rd
  have HE1 : Hid (N = E1.length) := by unfold Hid; rw [HLS1.out.len]; exact HN.out
  have HE2 : Hid (N = E2.length) := by unfold Hid; rw [HLS2.out.len]; exact HN.out
  clear hb4
  by_cases hce : Er = 0
  case neg =>
    have hee : (Er == 0) = false := by simpa using hce
    go_wp2_with (first | (have hh := HO5; at_builtin; refine wp_appG (K := KL) rfl _ _ rfl w4.heap.size v5 ([] ++ E1) E2 N a2 c2 HE2.out rfl HO5.out rfl (HRG2.out _ HB5.out) HNL2.out (by rw [List.nil_append, ← HE1.out]; show (N + N) * 24 ≤ _; omega) (by rw [List.nil_append, ← HE1.out]; simp only [maxLen]; omega) HB5.out.size ?_; intro v6 w6 hown6 hg6; have HO6 : Hid (OwnG KL w6 w4.heap.size v6 ([] ++ E1 ++ E2)) := hown6; have HB6 : Hid (Below w4.heap.size w4 w6) := HB5.out.grown hg6 HB5.out.size (fun b e => (HO5.out.lt' e).1); have HB6W : Hid (Below W0.heap.size W0 w6) := below_next (below_next (below_next HB1.out HB2.out) HB4.out) HB6.out; obtain ⟨z0, z1⟩ := HCS.out _ HB6W.out; clear hown6 hg6) | (at_builtin; refine wp_appG (K := KL) rfl _ _ rfl w4.heap.size (.slice none 0 0) [] E1 N a1 c1 HE1.out rfl (World.ownsRow_nil _ _ _ _) rfl HRG1.out HNL1.out (by show (0 + N) * 24 ≤ _; omega) (by simp only [maxLen, List.length_nil]; omega) (Nat.le_refl _) ?_; intro v5 w5 hown5 hg5; have HO5 : Hid (OwnG KL w5 w4.heap.size v5 ([] ++ E1)) := hown5; have HB5 : Hid (Below w4.heap.size w4 w5) := (Below.refl _ _).grown hg5 (Nat.le_refl _) (fun b e => by cases e); clear hown5 hg5) | (go_at_call 12; refine Calls.mono (HNUM.out _ _) ?_; rintro e w' ⟨rfl, hq⟩; have hq := hq.symm; subst hq))
    have HBX : Hid (Below W0.heap.size W0 w6) := HB6W.out
    clear HRG1 HRG2 HO5 HB5
    refine Calls.mono (Ply.begin_ W0 HBX.out r) ?_
    rintro e wp ⟨pv, qv, rfl, h1⟩
    have HP1 : Hid _ := h1
    clear h1 z0 z1
    go_wp2
    go_loopw [24] (fun j wr => ∃ k : Nat, k ≤ xs.length ∧ j = .int .i64 (k : Int) ∧ Ply W0 wr pv qv) (fun j _ => xs.length - (intOf j).toNat)
    case atStart => exact ⟨0, Nat.zero_le _, rfl, HP1.out⟩
    case round =>
      obtain ⟨k, hk, rfl, hp⟩ := hrel
      have HP : Hid _ := hp
      obtain ⟨y0, y1⟩ := HCS.out _ hp.bel
      clear hp
      by_cases hlt : k < xs.length
      · obtain ⟨b, o, rfl, hok, hrg⟩ := HR.out k hlt
        obtain ⟨op, hop⟩ : ∃ op, op = xs[k] := ⟨_, rfl⟩
        rw [← hop] at hok hrg
        obtain ⟨kd, oi, oa, on, oc, oxs⟩ := op
        have HOK : Hid _ := hok
        have hk0 : (0 : Int) ≤ (k : Int) := by omega
        have hkI : (k : Int) < (xs.length : Int) := by omega
        have hkw : IntKind.i64.wrap ((k : Int) + 1) = ((k + 1 : Nat) : Int) := by rw [IntKind.wrap_i64]; omega
        obtain ⟨l0, l1, l2⟩ := op_cells (rangeAt_below hrg HP.out.bel)
        clear hop hok hrg
        go_wp2_with (go_at_call 8; refine Calls.mono ((HP.out.below (Below.refl _ _)).ask kd oi oa on oc oxs HOK.out.hn (fun u hu => Rd.below HOK.out.rd hu) HOK.out.nil HOK.out.le) ?_; rintro e w3 ⟨rfl, h3⟩; have HP3 : Hid _ := h3; clear h3)
        go_roundw
        case rel => exact ⟨k + 1, by omega, by go_num, HP3.out⟩
        case measure => simp [intOf]; omega
      · obtain rfl : k = xs.length := by omega
        have hkI : ¬ (xs.length : Int) < (xs.length : Int) := by omega
        go_wp2_with (go_at_call 18; refine Calls.mono (ranges_t HP.out) ?_; rintro e wz ⟨rfl, hbz⟩; have HBZ : Hid _ := hbz; clear hbz)
        go_ret
        exact ⟨rfl, below_next HB0.out HBZ.out⟩
  case pos =>
    subst hce
    go_wp2_with (first | (have hh := HO5; at_builtin; refine wp_appG (K := KL) rfl _ _ rfl w4.heap.size v5 ([] ++ E1) E2 N a2 c2 HE2.out rfl HO5.out rfl (HRG2.out _ HB5.out) HNL2.out (by rw [List.nil_append, ← HE1.out]; show (N + N) * 24 ≤ _; omega) (by rw [List.nil_append, ← HE1.out]; simp only [maxLen]; omega) HB5.out.size ?_; intro v6 w6 hown6 hg6; have HO6 : Hid (OwnG KL w6 w4.heap.size v6 ([] ++ E1 ++ E2)) := hown6; have HB6 : Hid (Below w4.heap.size w4 w6) := HB5.out.grown hg6 HB5.out.size (fun b e => (HO5.out.lt' e).1); have HB6W : Hid (Below W0.heap.size W0 w6) := below_next (below_next (below_next HB1.out HB2.out) HB4.out) HB6.out; obtain ⟨z0, z1⟩ := HCS.out _ HB6W.out; clear hown6 hg6) | (at_builtin; refine wp_appG (K := KL) rfl _ _ rfl w4.heap.size (.slice none 0 0) [] E1 N a1 c1 HE1.out rfl (World.ownsRow_nil _ _ _ _) rfl HRG1.out HNL1.out (by show (0 + N) * 24 ≤ _; omega) (by simp only [maxLen, List.length_nil]; omega) (Nat.le_refl _) ?_; intro v5 w5 hown5 hg5; have HO5 : Hid (OwnG KL w5 w4.heap.size v5 ([] ++ E1)) := hown5; have HB5 : Hid (Below w4.heap.size w4 w5) := (Below.refl _ _).grown hg5 (Nat.le_refl _) (fun b e => by cases e); clear hown5 hg5) | (go_at_call 12; refine Calls.mono (HNUM.out _ _) ?_; rintro e w' ⟨rfl, hq⟩; have hq := hq.symm; subst hq))
    obtain ⟨g1, g2, g3, g4, g5⟩ := cutE_zero HER.out.symm
    obtain ⟨M, rfl⟩ : ∃ M : Nat, m = (M : Int) := ⟨m.toNat, by omega⟩
    have hST : SegT T bs M := by
      have e9 : cutE bs.length (M : Int) = 0 := by rw [← HL.out]; exact HER.out.symm
      have h9 : cutS bs (M : Int) = segN bs M (cutN bs.length M) := by unfold cutS; rw [if_pos e9]; rfl
      rw [HTD.out, h9]
      have := HL.out
      exact segT_of (by omega) (by omega) (by omega) (by omega)
    have hN1 : 1 ≤ N := by rw [HN.out]; exact hST.len
    have e1 : newSt (N : Int) = some (List.replicate N []) := by unfold newSt; rw [if_pos (by omega)]; rfl
    have e2 : newEr (N : Int) = 0 := if_pos (by omega)
    have HST : Hid (SegT T bs M) := hST
    have HX1 : Hid _ := e1
    have HX2 : Hid _ := e2
    have HL24 : Hid (L ≤ 1024) := by unfold Hid; omega
    clear z0 z1 hST e1 e2 HRG1 HRG2 HO5 HB5 g1 g2 g3 g4 g5
    go_wp2_with fail
    refine Calls.mono (One.new w6 (Below.refl _ _) (N : Int)) ?_
    rintro e wn ⟨pv, rfl, hpn, hon⟩
    rw [HX2.out]
    rw [HX1.out] at hon
    rcases pv with _ | pa
    · exact absurd (HX1.out.symm.trans (hpn.1 rfl)) (by simp)
    have HON : Hid (One w6 wn (some pa) (some (List.replicate N []))) := hon
    have HPE : Hid (PtS T (List.replicate N [])) := by unfold Hid; rw [HN.out]; exact PtS.empty T
    clear hpn hon
    go_wp2
    go_loopw [14] (fun j wr => ∃ (k : Nat) (S : List Seg), k ≤ N ∧ j = .int .i64 (k : Int) ∧ Hid (PtS T S) ∧ Hid (Came S k) ∧ Hid (∀ q, k ≤ q → q < N → S[q]? = some []) ∧ One w6 wr (some pa) (some S)) (fun j _ => N - (intOf j).toNat)
    case atStart => exact ⟨0, _, Nat.zero_le _, rfl, HPE, Came.zero _, (fun q _ hq => by rw [List.getElem?_replicate, if_pos hq]), HON.out⟩
    case round =>
      obtain ⟨k, S, hk, rfl, HPT, HCM, HZ, hp⟩ := hrel
      have HP : Hid (One w6 wr (some pa) (some S)) := hp
      clear hp
      by_cases hlt : k < N
      · have hltI : (k : Int) < (N : Int) := by omega
        have hk0 : (0 : Int) ≤ (k : Int) := by omega
        have hkw : IntKind.i64.wrap ((k : Int) + 1) = ((k + 1 : Nat) : Int) := by rw [IntKind.wrap_i64]; omega
        obtain ⟨b1, o1, d, t, ea, hd, ht, hcl, hby⟩ := (HRL1.out.below (below_next (below_next (below_next HB2.out HB4.out) HB6.out) HP.out.bel)).at_ (k := k) (by rw [← HN.out]; exact hlt)
        subst ea
        obtain ⟨da, dn, dc⟩ := d
        have htp := HST.out.pos ht
        have hdn : dn = t.length := hby.n
        have HTN : Hid (t ≠ []) := by unfold Hid; intro e; rw [e] at htp; simp at htp
        have hS0 := HZ.out k (Nat.le_refl _) hlt
        rcases HPT.out.step HST.out ht with ⟨-, h2, h3, -, -, -, h7⟩ | ⟨h1, -⟩
        case inr => exact absurd (Option.some.inj (h1.symm.trans hS0)) HTN.out
        have HPU : Hid _ := HP.out.put (k : Int) da dn dc t hby.n hby.rd hby.nil (by omega)
        rw [h2, h3] at HPU
        have HPT2 : Hid (PtS T (S.set k t)) := h7
        have HC2 : Hid (Came (S.set k t) (k + 1)) := (HCM.out.set HTN.out).one (by rw [List.getElem?_set_self (List.getElem?_eq_some_iff.1 hS0).1]; intro e; exact HTN.out (Option.some.inj e))
        have HZ2 : Hid (∀ q, k + 1 ≤ q → q < N → (S.set k t)[q]? = some []) := fun q hq1 hq2 => by rw [List.getElem?_set_ne (by omega)]; exact HZ.out q (by omega) hq2
        clear hd ht hby htp hdn hS0 h2 h3 h7
        go_wp2_with (first | (go_at_call 14; refine Calls.mono HPU.out ?_; rintro e w3 ⟨rfl, h3⟩; have HO3 : Hid _ := h3; clear h3) | (go_at_call 12; refine Calls.mono (HNUM.out _ _) ?_; rintro e w' ⟨rfl, hq⟩; have hq := hq.symm; subst hq))
        go_roundw
        case rel => exact ⟨k + 1, S.set k t, by omega, by go_num, HPT2, HC2, HZ2, HO3.out⟩
        case measure => simp [intOf]; omega
      · obtain rfl : k = N := by omega
        have hltI : ¬ (k : Int) < (k : Int) := by omega
        have hz := Came.left (S := S) (by have h9 := HCM.out; rw [show S.length = k by rw [HPT.out.len]; exact HN.out.symm]; exact h9)
        have hSS : S = T := HPT.out.all (leftN_zero.1 hz)
        subst hSS
        have e1 : wholeB (some S) = true := by rw [PtS.wholeB (T := S), hz]; rfl
        have e2 : wholeX (some S) = bs := by rw [HPT.out.wholeX HST.out, if_pos hz]
        have HE : Hid (wholeB (some S) = true ∧ wholeX (some S) = bs) := ⟨e1, e2⟩
        obtain ⟨F, hpF, hF6⟩ := HP.out.ex
        have HPF : Hid (PBx wr (some pa) (some S) F) := hpF
        have HF6 : Hid (∀ b, F b → w6.heap.size ≤ b) := hF6
        have HBR : Hid (Below w6.heap.size w6 wr) := HP.out.bel
        clear hz e1 e2 hpF hF6
        go_wp2_with fail
        refine Calls.mono (pwhole HPF.out) ?_
        rintro e w8 ⟨u8, he8, hown8, hb8⟩
        rw [HE.out.1] at he8
        rw [HE.out.2] at hown8
        subst he8
        obtain ⟨a8, c8, hv8, -, -, -, hrd8, -⟩ := hown8.val
        rw [← HL.out] at hv8
        subst hv8
        have HO8 : Hid (Own w8 wr.heap.size (Dc.v ⟨a8, L, c8⟩) bs) := hown8
        have HB8 : Hid (Below wr.heap.size wr w8) := hb8
        have HRD8 : Hid (Rd w8 a8 bs) := hrd8
        clear hown8 hb8 hrd8
        go_wp2_with fail
        refine Calls.mono (pwhole (HPF.out.below HB8.out)) ?_
        rintro e w9 ⟨u9, he9, hown9, hb9⟩
        rw [HE.out.1] at he9
        rw [HE.out.2] at hown9
        subst he9
        obtain ⟨a9, c9, hv9, -, -, -, hrd9, -⟩ := hown9.val
        rw [← HL.out] at hv9
        subst hv9
        have HO9 : Hid (Own w9 w8.heap.size (Dc.v ⟨a9, L, c9⟩) bs) := hown9
        have HB9 : Hid (Below w8.heap.size w8 w9) := hb9
        have HBW9 : Hid (Below W0.heap.size W0 w9) := below_next (below_next (below_next HB6W.out HBR.out) HB8.out) hb9
        have cv1 := conv_rd' (Rd.below HRD8.out hb9) L c8 HL.out
        have cv2 := conv_rd' hrd9 L c9 HL.out
        have cv3 := conv_rd' (Rd.below HRB.out HBW9.out) L bc HL.out
        have HO69 : Hid (OwnG KL w9 w4.heap.size v6 (E1 ++ E2)) := by
          have h9 := HO6.out
          rw [List.nil_append] at h9
          exact (h9.below HBR.out).below (below_next HB8.out HB9.out)
        have HS49 : Hid (w4.heap.size ≤ w9.heap.size) := Nat.le_trans HB6.out.size (Nat.le_trans HBR.out.size (Nat.le_trans HB8.out.size hb9.size))
        have HBO : Hid _ := both_t w9 w4.heap.size v6 (E1 ++ E2) ⟨a8, L, c8⟩ ⟨a9, L, c9⟩ HO69.out HS49.out (by rw [List.length_append, ← HE1.out, ← HE2.out]; omega)
        clear hown9 hb9 hrd9
        go_wp2_with fail
        refine Calls.mono HBO.out ?_
        rintro e wb ⟨vb, rfl, hob, hcb2⟩
        have hv6 : ∀ b, v6.ownBlock = some b → w4.heap.size ≤ b ∧ b < w6.heap.size := fun b e => HO6.out.lt' e
        have hfm : Fml wb W0.heap.size (E1 ++ E2 ++ [⟨a8, L, c8⟩] ++ [⟨a9, L, c9⟩]) (S ++ S ++ [bs] ++ [bs]) := by
          have f1 : Fml wr W0.heap.size E1 S := HLS1.out.fml.below (below_next (below_next (below_next HB2.out HB4.out) HB6.out) HBR.out)
          have f2 : Fml wr w1.heap.size E2 S := HLS2.out.fml.below (below_next (below_next HB4.out HB6.out) HBR.out)
          have f3 : Fml wr W0.heap.size (E1 ++ E2) (S ++ S) := f1.app (fun b hx => (HLS1.out.fml.lt hx).2) f2 HB1.out.size
          have hwr : W0.heap.size ≤ wr.heap.size := Nat.le_trans HB6W.out.size HBR.out.size
          have f4 := f3.push HB8.out hwr HO8.out
          have f5 := f4.push HB9.out (Nat.le_trans hwr HB8.out.size) HO9.out
          exact f5.keep5 (fun b C hC => hcb2.block b (Array.getElem?_eq_some_iff.1 hC).1 (fun e => by
            obtain ⟨cur, h9⟩ := HO69.out.at_ e
            exact absurd (ty_of hC h9) (by decide)))
        have hxv : ∀ b, XV (E1 ++ E2 ++ [⟨a8, L, c8⟩] ++ [⟨a9, L, c9⟩]) b → W0.heap.size ≤ b ∧ (b < w2.heap.size ∨ wr.heap.size ≤ b) := by
          rintro b ⟨i, d, hd, e⟩
          refine ⟨(hfm.lt ⟨i, d, hd, e⟩).1, ?_⟩
          rcases XV.push (E := E1 ++ E2 ++ [⟨a8, L, c8⟩]) ⟨i, d, hd, e⟩ with h9 | h9
          · rcases XV.push (E := E1 ++ E2) h9 with h8 | h8
            · obtain ⟨i2, d2, hd2, e2⟩ := h8
              rw [List.getElem?_append] at hd2
              split at hd2
              · have := (HLS1.out.fml.lt ⟨i2, d2, hd2, e2⟩).2
                have := HB2.out.size
                exact .inl (by omega)
              · exact .inl (HLS2.out.fml.lt ⟨_, d2, hd2, e2⟩).2
            · exact .inr (World.ownsRow.lt HO8.out b h8).1
          · have := (World.ownsRow.lt HO9.out b h9).1
            have := HB8.out.size
            exact .inr (by omega)
        have hWb : W0.heap.size ≤ wb.heap.size := Nat.le_trans HBW9.out.size hcb2.size
        have hW4 : W0.heap.size ≤ w4.heap.size := Nat.le_trans HB1.out.size (Nat.le_trans HB2.out.size HB4.out.size)
        have hlen : ∀ j : Nat, ((S ++ S ++ [bs] ++ [bs])[j]?.getD []).length ≤ 4398046511103 := fun j => by
          rcases hj : (S ++ S ++ [bs] ++ [bs])[j]? with _ | t
          · simp
          · simp only [Option.getD_some]
            have hmem := List.mem_of_getElem? hj
            simp only [List.mem_append, List.mem_singleton] at hmem
            have hSl : t ∈ S → t.length ≤ 4398046511103 := fun h9 => by
              obtain ⟨i, hi⟩ := List.mem_iff_getElem?.1 h9
              have := HST.out.pos hi
              omega
            have := HL.out
            have := HL24.out
            rcases hmem with ((h9 | h9) | h9) | h9
            · exact hSl h9
            · exact hSl h9
            · rw [h9]; omega
            · rw [h9]; omega
        have HAP : Hid _ := apartBytes_t W0.heap.size vb _ _ wb (KL_row (hob.base hW4)) hfm.rows (by simp only [List.length_map, List.length_append, List.length_singleton, ← HE1.out, ← HE2.out]; omega) hlen hWb
        have HCB : Hid (Chg (fun b => v6.ownBlock = some b) w9 wb) := hcb2
        have HXV : Hid (∀ b, XV (E1 ++ E2 ++ [⟨a8, L, c8⟩] ++ [⟨a9, L, c9⟩]) b → W0.heap.size ≤ b ∧ (b < w2.heap.size ∨ wr.heap.size ≤ b)) := hxv
        have HV6 : Hid (∀ b, v6.ownBlock = some b → w4.heap.size ≤ b ∧ b < w6.heap.size) := hv6
        have HW4 : Hid (W0.heap.size ≤ w4.heap.size) := hW4
        have HWB : Hid (W0.heap.size ≤ wb.heap.size) := hWb
        clear hob hcb2 hv6 hfm hxv hWb hW4 hlen HBO
        go_wp2_with fail
        refine Calls.mono HAP.out ?_
        rintro e wc ⟨rfl, hch⟩
        have hXF : ∀ b, (∃ v ∈ (E1 ++ E2 ++ [(⟨a8, L, c8⟩ : Dc)] ++ [(⟨a9, L, c9⟩ : Dc)]).map Dc.v, v.ownBlock = some b) → XV (E1 ++ E2 ++ [⟨a8, L, c8⟩] ++ [⟨a9, L, c9⟩]) b := by
          rintro b ⟨v, hv, e⟩
          obtain ⟨d, hd, rfl⟩ := List.mem_map.1 hv
          obtain ⟨i, hi⟩ := List.mem_iff_getElem?.1 hd
          exact ⟨i, d, hi, e⟩
        have hbw : Below W0.heap.size W0 wc := (HBW9.out.trans (HCB.out.below (fun b e => Nat.le_trans HW4.out (HV6.out b e).1) HBW9.out.size)).trans (hch.bel (fun b hb => (HXV.out b (hXF b hb)).1) HWB.out)
        have hpc : PBx wc (some pa) (some S) F := by
          have h9 := (HPF.out.below HB8.out).below HB9.out
          refine h9.kept (Nat.le_trans HCB.out.size hch.size) (fun b hf => ?_)
          have hlo := HF6.out b hf
          have hhi := HPF.out.lt b hf
          rw [hch.block b (Nat.lt_of_lt_of_le (h9.lt b hf) HCB.out.size) (fun hb => by
            rcases (HXV.out b (hXF b hb)).2 with h8 | h8
            · have := HB4.out.size
              have := HB6.out.size
              omega
            · omega)]
          exact HCB.out.block b (h9.lt b hf) (fun e => by have := (HV6.out b e).2; omega)
        have HPC : Hid (PBx wc (some pa) (some S) F) := hpc
        have HBWC : Hid (Below W0.heap.size W0 wc) := hbw
        clear hch hXF hbw hpc HAP cv1 cv2 cv3
        go_wp2_with fail
        refine Calls.mono (pwhole HPC.out) ?_
        rintro e wd ⟨ud, hed, hownd, hbd⟩
        rw [HE.out.1] at hed
        rw [HE.out.2] at hownd
        subst hed
        obtain ⟨ad, cd, hvd, -, -, -, hrdd, -⟩ := hownd.val
        rw [← HL.out] at hvd
        subst hvd
        have HBX : Hid (Below W0.heap.size W0 wd) := below_next HBWC.out hbd
        have cv4 := conv_rd' hrdd L cd HL.out
        have cv5 := conv_rd' (Rd.below HRB.out HBX.out) L bc HL.out
        clear hownd hrdd hbd
        obtain ⟨z0, z1⟩ := HCS.out _ HBX.out
        go_wp2_with fail
        refine Calls.mono (Ply.begin_ W0 HBX.out r) ?_
        rintro e wp ⟨pv, qv, rfl, h1⟩
        have HP1 : Hid _ := h1
        clear h1 z0 z1
        go_wp2
        go_loopw [24] (fun j wr => ∃ k : Nat, k ≤ xs.length ∧ j = .int .i64 (k : Int) ∧ Ply W0 wr pv qv) (fun j _ => xs.length - (intOf j).toNat)
        case atStart => exact ⟨0, Nat.zero_le _, rfl, HP1.out⟩
        case round =>
          obtain ⟨k, hk, rfl, hp⟩ := hrel
          have HP : Hid _ := hp
          obtain ⟨y0, y1⟩ := HCS.out _ hp.bel
          clear hp
          by_cases hlt : k < xs.length
          · obtain ⟨b, o, rfl, hok, hrg⟩ := HR.out k hlt
            obtain ⟨op, hop⟩ : ∃ op, op = xs[k] := ⟨_, rfl⟩
            rw [← hop] at hok hrg
            obtain ⟨kd, oi, oa, on, oc, oxs⟩ := op
            have HOK : Hid _ := hok
            have hk0 : (0 : Int) ≤ (k : Int) := by omega
            have hkI : (k : Int) < (xs.length : Int) := by omega
            have hkw : IntKind.i64.wrap ((k : Int) + 1) = ((k + 1 : Nat) : Int) := by rw [IntKind.wrap_i64]; omega
            obtain ⟨l0, l1, l2⟩ := op_cells (rangeAt_below hrg HP.out.bel)
            clear hop hok hrg
            go_wp2_with (go_at_call 8; refine Calls.mono ((HP.out.below (Below.refl _ _)).ask kd oi oa on oc oxs HOK.out.hn (fun u hu => Rd.below HOK.out.rd hu) HOK.out.nil HOK.out.le) ?_; rintro e w3 ⟨rfl, h3⟩; have HP3 : Hid _ := h3; clear h3)
            go_roundw
            case rel => exact ⟨k + 1, by omega, by go_num, HP3.out⟩
            case measure => simp [intOf]; omega
          · obtain rfl : k = xs.length := by omega
            have hkI : ¬ (xs.length : Int) < (xs.length : Int) := by omega
            go_wp2_with (go_at_call 18; refine Calls.mono (ranges_t HP.out) ?_; rintro e wz ⟨rfl, hbz⟩; have HBZ : Hid _ := hbz; clear hbz)
            go_ret
            exact ⟨rfl, below_next HB0.out HBZ.out⟩
end Go.Proofs.Ytmjhbckedagjjab
