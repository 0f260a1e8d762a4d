import Derived.Test.YtpakkpahcpgnnaaGreatDoorFJ
import Derived.Test.YtpakkpahcpgnnaaGreatDoorGMiss
set_option linter.unusedVariables false
set_option linter.unusedSimpArgs false
namespace Go.Proofs.YtpakkpahcpgnnaaGreatDoor
open Go.RowKit Go.Maps
def MissF (x : Fe) (ys : List Rg) : Prop := (ys ≠ [] ∧ MissS x.told ys (x.T.length : Int)) ∨ (ys = [((x.T.length : Int) - 1, (x.T.length : Int))] ∧ MissS x.told [] (x.T.length : Int))
section
variable {w w' : World} {P : Fp} {s : Fs} {W W' : List Wh.Tm}
set_option maxRecDepth 20000
set_option maxHeartbeats 3200000
theorem fmissing_t (h : FSw w P s W) {j : Nat} {x : Fe} {m : Fm} (hx : s.L[j]? = some x) (hm : P.M[j]? = some m) (hl : x.told.length ≤ 1000000) :
 Calls Tryz.prog 102 #[.pointer (some ⟨m.g, 0, none⟩)] w fun e w' => ∃ (a : Option Addr) (c n : Nat) (ys : List Rg), e = .returned (.slice a n c) ∧ n = ys.length ∧ n ≤ x.told.length + 1 ∧ RdR w' a ys ∧ MissF x ys ∧ Below w.heap.size w w' := by
 have hse := h.se j x m hx hm; have hseg := h.inv.seg x (List.mem_of_getElem? hx); have hEl : m.E.length = x.T.length := hse.seg.len; obtain ⟨a1, c1, hv1, -⟩ := hse.seg.row.val; obtain ⟨N, hN⟩ : ∃ N, N = x.T.length := ⟨_, rfl⟩; rw [hEl, ← hN] at hv1; obtain ⟨a2, c2, hv2, hc1, hc2, hc3, hrd, hq⟩ := hse.tol.val; obtain ⟨L, hL⟩ : ∃ L, L = x.told.length := ⟨_, rfl⟩; rw [← hL] at hv2; have h2 : w.cell? ⟨m.g, 2, none⟩ = some (.slice a1 N c1) := by rw [cR hse.box, ← hv1]; rfl
 have h3 : w.cell? ⟨m.g, 3, none⟩ = some (.slice a2 L c2) := by rw [cR hse.box, ← hv2]; rfl
 have hN64 : N ≤ 64 := by rw [hN]; exact hseg.1.2
 have hN1 : 1 ≤ N := by rw [hN]; exact hseg.1.1
 have HMS : Hid _ := missing_t a2 L c2 x.told (N : Int) w hL hrd hc3 (by omega); have HNT : Hid (N = x.T.length) := hN; have hNw : IntKind.i64.wrap ((N : Int) - 1) = (N : Int) - 1 := by rw [IntKind.wrap_i64]; omega
 clear h hx hm hl hse hseg hEl hv1 hN hv2 hc1 hc2 hc3 hrd hq hL; go_enter Tryz.func102, Tryz.ntmps102
 (go_wp2_with fail); refine Calls.mono HMS.out ?_; rintro e9 w1 ⟨v, out, rfl, hown, hms, hle, hb⟩; obtain ⟨a3, c3, hv3, -, -, -, hr3, -⟩ := hown.val; obtain ⟨n3, hn3⟩ : ∃ n3, n3 = out.length := ⟨_, rfl⟩; rw [← hn3] at hv3; subst hv3; have HR3 : Hid (RdR w1 a3 out) := hr3; have HMS3 : Hid _ := hms; have HN3 : Hid (n3 = out.length) := hn3; have HLE : Hid (n3 ≤ x.told.length + 1) := by unfold Hid; rw [hn3]; exact hle
 have HB : Hid _ := hb; clear hown hr3 hms hn3 hle hb h2 h3
 by_cases h0 : 0 < n3
 · have hi : (0 : Int) < (n3 : Int) := by omega
   have HNE : Hid (out ≠ []) := fun e => by have := HN3.out; rw [e] at this; simp at this; omega
   clear h0; go_wp2; go_ret; exact ⟨a3, c3, n3, out, rfl, HN3.out, HLE.out, HR3.out, .inl ⟨HNE.out, by rw [← HNT.out]; exact HMS3.out⟩, HB.out⟩
 · have hi : ¬ (0 : Int) < (n3 : Int) := by omega
   have HNE : Hid (out = []) := List.eq_nil_of_length_eq_zero (by have := HN3.out; omega); clear h0; go_wp2; go_ret; refine ⟨some ⟨w1.heap.size, 0, none⟩, 1, 1, [((N : Int) - 1, (N : Int))], rfl, rfl, Nat.le_add_left _ _, rd_lit1 w1 ((N : Int) - 1, (N : Int)), .inr ⟨by rw [HNT.out], ?_⟩, alw HB.out _⟩; have h9 := HMS3.out; rw [HNE.out, HNT.out] at h9; exact h9
end
open Go.RowKit Go.Maps
def rgI (r : Rg) : List Nat := (List.range (r.2 - r.1).toNat).map (fun i => r.1.toNat + i)
def idxR (ys : List Rg) : List Nat := (ys.map rgI).flatten
def txF (x : Fe) (k : Nat) : Seg := (x.T[k]?).getD []
theorem rgI_len (r : Rg) : (rgI r).length = (r.2 - r.1).toNat := by simp [rgI]
theorem idxR_len : ∀ {ys : List Rg}, (∀ r, r ∈ ys → r.2 - r.1 ≤ 64) → (idxR ys).length ≤ ys.length * 64
 | [], _ => by simp [idxR]
 | r :: ys, h => by
  have h1 := idxR_len (ys := ys) (fun q hq => h q (List.mem_cons_of_mem _ hq)); have h2 := h r List.mem_cons_self; simp only [idxR, List.map_cons, List.flatten_cons, List.length_append, List.length_cons] at h1 ⊢; rw [rgI_len]; omega
theorem MissF.rg {x : Fe} {ys : List Rg} (h : MissF x ys) (h1 : 1 ≤ x.T.length) : ∀ r, r ∈ ys → 0 ≤ r.1 ∧ r.1 < r.2 ∧ r.2 ≤ (x.T.length : Int) := by
 intro r hr; rcases h with ⟨-, hl, hi⟩ | ⟨rfl, -⟩
 · have hlt := hl.pos r hr; have h2 := (hi r.1).1 ⟨r, hr, Int.le_refl _, hlt⟩; have h3 := (hi (r.2 - 1)).1 ⟨r, hr, by omega, by omega⟩; exact ⟨h2.1, hlt, by omega⟩
 · rw [List.mem_singleton.1 hr]; exact ⟨by show (0 : Int) ≤ (x.T.length : Int) - 1; omega, by show (x.T.length : Int) - 1 < (x.T.length : Int); omega, Int.le_refl _⟩
structure UR (w : World) (B : Nat) (v : Value) (ep n N : Nat) (I : List Nat) (D : List Dc) (T : List Seg) : Prop where
 row : OwnG KBf w B v (List.zipWith (fun k d => (⟨ep, n, k, N, d⟩ : Bf)) I D)
 len : D.length = I.length
 fml : Fml w B D T
theorem UR.nil (w : World) (B ep n N : Nat) : UR w B (.slice none 0 0) ep n N [] [] [] := ⟨World.ownsRow_nil _ _ _ _, rfl, ⟨rfl, fun i d t h => by simp at h, fun i j d e b h => by simp at h⟩⟩
theorem UR.ulen {w : World} {B : Nat} {v : Value} {ep n N : Nat} {I : List Nat} {D : List Dc} {T : List Seg} (h : UR w B v ep n N I D T) : (List.zipWith (fun k d => (⟨ep, n, k, N, d⟩ : Bf)) I D).length = I.length := by
 rw [List.length_zipWith, h.len]; simp
theorem UR.below {w w' : World} {B : Nat} {v : Value} {ep n N : Nat} {I : List Nat} {D : List Dc} {T : List Seg} (h : UR w B v ep n N I D T) (hb : Below w.heap.size w w') : UR w' B v ep n N I D T := ⟨h.row.below hb, h.len, h.fml.below hb⟩
theorem UR.push {w w2 w3 w4 : World} {B : Nat} {v v' : Value} {ep n N k : Nat} {I : List Nat} {D : List Dc} {T : List Seg} {d : Dc} {t : Seg} (h : UR w B v ep n N I D T) (hB : B ≤ w.heap.size) (hb : Below w.heap.size w w2) (ho : Own w2 w.heap.size d.v t) (hb3 : Below w2.heap.size w2 w3) (hg : w3.grownBy w4 v.ownBlock) (hr : OwnG KBf w4 B v' (List.zipWith (fun k d => (⟨ep, n, k, N, d⟩ : Bf)) I D ++ [⟨ep, n, k, N, d⟩])) : UR w4 B v' ep n N (I ++ [k]) (D ++ [d]) (T ++ [t]) := by
 have h3 := (h.fml.push hb hB ho).below hb3; refine ⟨?_, by simp [h.len], ?_⟩
 · rw [List.zipWith_append h.len.symm]; exact hr
 · refine h3.keep5 (fun b C hC => hg.block b (sI hC).1 (fun e => ?_)); obtain ⟨cur, h9⟩ := ((h.row.below hb).below hb3).at_ e.symm; rw [hC] at h9
   injection h9 with h9
   injection h9 with h9 h8
   exact absurd h8 (by decide)
open Go.RowKit Go.Maps
theorem rgI_take {A Bn e : Nat} (h : A + e < Bn) : (rgI ((A : Int), (Bn : Int))).take (e + 1) = (rgI ((A : Int), (Bn : Int))).take e ++ [A + e] := by
 have hl : e < (rgI ((A : Int), (Bn : Int))).length := by rw [rgI_len]; show e < ((Bn : Int) - (A : Int)).toNat; omega
 rw [List.take_succ_eq_append_getElem hl]; simp [rgI]
theorem idxR_take {ys : List Rg} {k : Nat} (h : k < ys.length) : idxR (ys.take (k + 1)) = idxR (ys.take k) ++ rgI ys[k] := by
 show ((ys.take (k + 1)).map rgI).flatten = ((ys.take k).map rgI).flatten ++ rgI ys[k]; rw [List.take_succ_eq_append_getElem h, List.map_append, List.flatten_append]; simp only [List.map_cons, List.map_nil, List.flatten_cons, List.flatten_nil, List.append_nil]
section
variable {w w' : World} {P : Fp} {s : Fs} {W W' : List Wh.Tm}
set_option maxRecDepth 20000
set_option maxHeartbeats 6400000
theorem funits_t (h : FSw w P s W) {j : Nat} {x : Fe} {m : Fm} (hx : s.L[j]? = some x) (hm : P.M[j]? = some m) (hl : x.told.length ≤ 1000000) :
 Calls Tryz.prog 74 #[.pointer (some ⟨P.p, 0, none⟩), .int .u64 (x.n : Int), .pointer (some ⟨m.g, 0, none⟩)] w fun e w' => ∃ (v : Value) (ys : List Rg) (D : List Dc), e = .returned v ∧ MissF x ys ∧ UR w' w.heap.size v s.ep x.n x.T.length (idxR ys) D ((idxR ys).map (txF x)) ∧ Below w.heap.size w w' := by
 have HMS : Hid _ := fmissing_t h hx hm hl; have HH : Hid _ := h; have HXJ : Hid (s.L[j]? = some x ∧ P.M[j]? = some m) := ⟨hx, hm⟩; have hseg := h.inv.seg x (List.mem_of_getElem? hx); have HS1 : Hid (1 ≤ x.T.length ∧ x.T.length ≤ 64) := hseg.1; clear h hx hm hseg; go_enter Tryz.func74, Tryz.ntmps74
 (go_wp2_with fail); refine Calls.mono HMS.out ?_; rintro e9 w1 ⟨a, c, n, ys, rfl, hn, hnb, hrd, hms, hb1⟩; have HRG : Hid _ := hms.rg HS1.out.1; have HRD : Hid (RdR w1 a ys) := hrd; have HN : Hid (n = ys.length) := hn; have hn6 : n ≤ 1000001 := by omega
 have HMF : Hid _ := hms; have HB1 : Hid _ := hb1; clear hn hnb hrd hms hb1 hl; go_wp2; go_loopw [7, 14] (fun u jv wr => ∃ (k : Nat) (D : List Dc), k ≤ n ∧ jv = .int .i64 (k : Int) ∧ UR wr w1.heap.size u s.ep x.n x.T.length (idxR (ys.take k)) D ((idxR (ys.take k)).map (txF x)) ∧ Below w1.heap.size w1 wr) (fun _ jv _ => n - (intOf jv).toNat)
 case atStart => exact ⟨0, [], Nat.zero_le _, rfl, UR.nil _ _ _ _ _, bR _ _⟩
 case round =>
  obtain ⟨k, D, hkn, rfl, hur, hbw⟩ := hrel; have hkw : IntKind.i64.wrap ((k : Int) + 1) = ((k + 1 : Nat) : Int) := by rw [IntKind.wrap_i64]; omega
  by_cases hlt : k < n
  · have hlti : (k : Int) < (n : Int) := by omega
    have hk0 : (0 : Int) ≤ (k : Int) := by omega
    have hk1 : k < ys.length := by rw [← HN.out]; exact hlt
    obtain ⟨b, o, rfl, q1, q2⟩ := RdR.below HRD.out hbw k hk1; have hrg := HRG.out ys[k] (List.getElem_mem hk1); have HIT : Hid (idxR (ys.take (k + 1)) = idxR (ys.take k) ++ rgI ys[k]) := idxR_take hk1; obtain ⟨r, hr⟩ : ∃ r : Rg, r = ys[k] := ⟨_, rfl⟩; rw [← hr] at q1 q2 hrg HIT; obtain ⟨r1, r2⟩ := r; obtain ⟨A, rfl⟩ : ∃ A : Nat, r1 = (A : Int) := ⟨r1.toNat, by have := hrg.1; simp only at this; omega⟩; obtain ⟨Bn, rfl⟩ : ∃ Bn : Nat, r2 = (Bn : Int) := ⟨r2.toNat, by have := hrg.1; have := hrg.2.1; simp only at *; omega⟩; have hAB : A < Bn := by have := hrg.2.1; simp only at this; omega
    have hBT : Bn ≤ x.T.length := by have := hrg.2.2; simp only at this; omega
    have hB64 : Bn ≤ 64 := by have := HS1.out.2; omega
    have HBT : Hid _ := hBT
    have HLI : Hid ((idxR (ys.take k)).length ≤ k * 64) := by
     unfold Hid; have h9 := idxR_len (ys := ys.take k) (fun q hq => by have := HRG.out q (List.mem_of_mem_take hq); have := HS1.out.2; omega); rw [List.length_take] at h9; have : min k ys.length ≤ k := Nat.min_le_left _ _; exact Nat.le_trans h9 (Nat.mul_le_mul_right 64 this)
    obtain ⟨wb, hwb⟩ : ∃ wb, wb = wr.alloc (.cells #[.int .i64 (A : Int), .int .i64 (Bn : Int)] 108) := ⟨_, rfl⟩; have hbb : Below wr.heap.size wr wb := by rw [hwb]; exact alw (bR _ _) _
    have hbx : wb.heap[wr.heap.size]? = some (.cells #[.int .i64 (A : Int), .int .i64 (Bn : Int)] 108 (0, 0)) := by rw [hwb]; exact heap_alloc_new wr _
    have HUR : Hid _ := hur.below hbb; have HBW : Hid (Below w1.heap.size w1 wb) := below_next hbw hbb; have HBX : Hid _ := hbx; have HWB : Hid (wb = _) := hwb; have hb0 := hbx; have hz0 : (wr.alloc (.cells #[.int .i64 (A : Int), .int .i64 (Bn : Int)] 108)).cell? ⟨wr.heap.size, 0, none⟩ = some (.int .i64 (A : Int)) := by rw [← hwb, cR hbx]; rfl
    clear hur hbw hr hrg hBT hwb hbb hbx hb0 hk1; go_wp2; rw [← HWB.out]; clear hz0 q1 q2; go_loopw [7, 10] (fun u iv wv => ∃ (e : Nat) (D : List Dc), A + e ≤ Bn ∧ iv = .int .i64 ((A + e : Nat) : Int) ∧ UR wv w1.heap.size u s.ep x.n x.T.length (idxR (ys.take k) ++ (rgI ((A : Int), (Bn : Int))).take e) D ((idxR (ys.take k) ++ (rgI ((A : Int), (Bn : Int))).take e).map (txF x)) ∧ Below w1.heap.size w1 wv ∧ wv.heap[wr.heap.size]? = wb.heap[wr.heap.size]?) (fun _ iv _ => Bn - (intOf iv).toNat)
    case atStart => exact ⟨0, D, by omega, by simp, by simpa using HUR.out, HBW.out, rfl⟩
    case round =>
     rename World => wv
     obtain ⟨e, D2, hen, rfl, hur2, hbv, hbv9⟩ := hrel; obtain ⟨q, hq⟩ : ∃ q, q = A + e := ⟨_, rfl⟩; rw [← hq] at hen ⊢; have hqw : IntKind.i64.wrap ((q : Int) + 1) = ((q + 1 : Nat) : Int) := by rw [IntKind.wrap_i64]; omega
     have hbv2 := hbv9.trans HBX.out; have hc1 : wv.cell? ⟨wr.heap.size, 1, none⟩ = some (.int .i64 (Bn : Int)) := by rw [cR hbv2]; rfl
     by_cases hlt2 : q < Bn
     · have hlti2 : (q : Int) < (Bn : Int) := by omega
       have hqT : q < x.T.length := by have := HBT.out; omega
       obtain ⟨t, ht⟩ : ∃ t, x.T[q]? = some t := ⟨_, List.getElem?_eq_getElem hqT⟩; have hB1v : Below w.heap.size w wv := below_next HB1.out hbv; have HUN : Hid _ := funit_t (HH.out.below hB1v) HXJ.out.1 HXJ.out.2 q t ht; have HTX : Hid (txF x q = t) := by unfold Hid txF; rw [ht]; rfl
       have HIE : Hid ((idxR (ys.take k) ++ (rgI ((A : Int), (Bn : Int))).take (e + 1)) = (idxR (ys.take k) ++ (rgI ((A : Int), (Bn : Int))).take e) ++ [q]) := by unfold Hid; rw [rgI_take (by omega), ← List.append_assoc, hq]
       have HU2 : Hid _ := hur2; have HBV : Hid _ := hbv; have HSZ : Hid (w1.heap.size ≤ wv.heap.size) := hbv.size; have HBQ : Hid _ := hbv2; obtain ⟨M7, hM7⟩ : ∃ M7, M7 = (List.zipWith (fun k d => (⟨s.ep, x.n, k, x.T.length, d⟩ : Bf)) (idxR (ys.take k) ++ (rgI ((A : Int), (Bn : Int))).take e) D2).length := ⟨_, rfl⟩
       have hM7b : M7 ≤ 64000128 := by
        have h9 := HLI.out; rw [hM7, hur2.ulen, List.length_append, List.length_take]; omega
       have HM7 : Hid _ := hM7; have HQ : Hid (q = A + e) := hq; clear hur2 hbv hbv2 hbv9 hqT ht hB1v hM7 hq
       go_wp2_with (first
         | (go_at_call 103; refine Calls.mono HUN.out ?_; rintro e9 w2 ⟨d, rfl, hown2, hb2⟩; have HO2 : Hid _ := hown2; have HB2 : Hid _ := hb2; have HR2 : Hid _ := HU2.out.row.below (below_next hb2 (alw (Below.refl w2.heap.size w2) (.cells (bfv ⟨s.ep, x.n, q, x.T.length, d⟩).toArray tUf))); have hs2 : wv.heap.size ≤ w2.heap.size := hb2.size; clear hown2 hb2)
         | (at_builtin; refine wp_appG1 (K := KBf) rfl _ _ rfl w1.heap.size u7 _ ⟨s.ep, x.n, q, x.T.length, d⟩ M7 HM7.out ⟨w2.heap.size, 0, none⟩ 1 rfl HR2.out rfl (rdUf_new w2 ⟨s.ep, x.n, q, x.T.length, d⟩ _ rfl) (by show (M7 + 1) * 104 ≤ _; omega) (by simp only [maxLen]; omega) (by have := HSZ.out; simp; omega) ?_; intro g7 c7 w7 hown7 hg7 hlie7; have HO7 : Hid _ := hown7; have HG7 : Hid _ := hg7; clear hown7 hg7 hlie7))
       go_roundw
       case rel =>
        have h9 := HU2.out.push HSZ.out HB2.out HO2.out (alw (Below.refl w2.heap.size w2) (.cells (bfv ⟨s.ep, x.n, q, x.T.length, d⟩).toArray tUf)) HG7.out HO7.out; refine ⟨e + 1, D2 ++ [d], by have := HQ.out; omega, ?_, ?_, ?_, ?_⟩
        · have := HQ.out; rw [show A + (e + 1) = q + 1 by omega]; go_num
        · rw [HIE.out, List.map_append, List.map_cons, List.map_nil, HTX.out]; exact h9
        · exact (alw (below_next HBV.out HB2.out) _).grown HG7.out (by have := HBV.out.size; simp; omega) (fun j hj => (HU2.out.row.lt' hj).1)
        · have hl9 := (sI HBQ.out).1
          have h3 : (w2.alloc (.cells (bfv ⟨s.ep, x.n, q, x.T.length, d⟩).toArray tUf)).heap[wr.heap.size]? = some (.cells #[.int .i64 (A : Int), .int .i64 (Bn : Int)] 108 (0, 0)) := by
           rw [Below.heap_alloc _ _ _ (Nat.lt_of_lt_of_le hl9 HB2.out.size), HB2.out.block _ hl9]; exact HBQ.out
          rw [HG7.out.block wr.heap.size (sI h3).1 (fun e9 => ?_), h3]
          · exact HBX.out.symm
          · obtain ⟨cur, h8⟩ := OwnG.at_ (K := KBf) HR2.out e9.symm; rw [h3] at h8
            injection h8 with h8
            injection h8 with h8 h7
            exact absurd h7 (by decide)
       case measure => simp [intOf]; omega
     · obtain rfl : q = Bn := by omega
       have hlti2 : ¬ (q : Int) < (q : Int) := by omega
       have htk : (rgI ((A : Int), (q : Int))).take e = rgI ((A : Int), (q : Int)) := List.take_of_length_le (by rw [rgI_len]; show ((q : Int) - (A : Int)).toNat ≤ e; omega); rw [htk, ← HIT.out] at hur2; have HU2 : Hid _ := hur2; have HBV : Hid _ := hbv; clear hur2 hbv hbv2 hbv9 htk hq; go_wp2; go_roundw
       case rel => exact ⟨k + 1, D2, by omega, by go_num, HU2.out, HBV.out⟩
       case measure => simp [intOf]; omega
  · have hlti : ¬ (k : Int) < (n : Int) := by omega
    have htk : ys.take k = ys := List.take_of_length_le (by rw [← HN.out]; omega); rw [htk] at hur; have HUR : Hid _ := hur; have HBW : Hid _ := hbw; clear hur hbw htk; go_wp2; go_ret; have h9 : UR wr w.heap.size u7 s.ep x.n x.T.length (idxR ys) D ((idxR ys).map (txF x)) := ⟨OwnG.base HUR.out.row HB1.out.size, HUR.out.len, ⟨HUR.out.fml.len, fun i d t h1 h2 => Own.base (HUR.out.fml.own i d t h1 h2) HB1.out.size, HUR.out.fml.ap⟩⟩
    first | exact ⟨_, ys, D, rfl, HMF.out, h9, below_next HB1.out HBW.out⟩ | exact ⟨_, rfl, ys, HMF.out, ⟨D, h9⟩, below_next HB1.out HBW.out⟩ | exact ⟨_, rfl, ys, D, HMF.out, h9, below_next HB1.out HBW.out⟩
end
end Go.Proofs.YtpakkpahcpgnnaaGreatDoor
