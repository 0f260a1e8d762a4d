import Derived.Test.YtpakkpahcpgnnaaGreatDoorKB
set_option linter.unusedVariables false
set_option linter.unusedSimpArgs false
namespace Go.Proofs.YtpakkpahcpgnnaaGreatDoor
open Go.RowKit Go.Maps
section
variable {w w' : World} {P P' : Jp} {X : Value × Value} {s : Fs}
theorem size_jf (u : World) : (sizeOf (Tryz.prog.elem 111)).run Tryz.prog u = .ok 3 u := by kernel_rfl
theorem wpo_appGL {α : Type} {K : Kd α} {w : World} {o : Oper} {a : Act} {P : Act → World → Prop} {Q : Exit → Act → World → Prop} (s x : Operand)
 (ho : o.op = .call { callee := .builtin .append, args := #[s, x], argTypes := #[K.ts, K.ts] }) (B : Nat) (v : Value) (xs ys : List α) (n m t : Nat) (hn : n = xs.length) (hm0 : m = ys.length) (hpos : 0 < m) (ht : t = n + m) (ad : Addr) (cap : Nat)
 (hs : a.eval s = v) (hown : OwnG K w B v xs) (hx : a.eval x = .slice (some ad) m cap) (hr : RdG K w (some ad) ys)
 (hb : (n + m) * K.by_ ≤ 140737488355328) (hm : n + m ≤ maxLen) (hbase : B ≤ w.heap.size)
 (h : ∀ g cap w', OwnG K w' B (.slice (some ⟨g, 0, none⟩) t cap) (xs ++ ys) → w.grownBy w' v.ownBlock → (v.ownBlock = some g ∨ w.heap.size ≤ g) → P (a.put o.dst (.slice (some ⟨g, 0, none⟩) t cap)) w') : o.wp Tryz.prog a w P Q := by
 subst hn hm0 ht; obtain ⟨i0, hi, hz0, hz1, hz2⟩ := info_parts K.hi; refine wp_append_lies w s x K.ts ho B K.t i0 K.z K.k K.by_ K.ht hi hz0 hz1 hz2 K.hz K.hpos v xs.length (K.flat xs) hs hown ad ys.length cap (K.flat ys) hx (Kd.flat_len ys) hr.news (Kd.flat_one' ys) hpos hm hb hbase w.heap.size rfl ?_; intro g cap w' h1 h2 h3 _; refine h g cap w' ?_ h2 (h3.imp id (fun e => by omega)); unfold OwnG; rw [List.length_append, Kd.flat_app]; exact h1
set_option maxRecDepth 20000
set_option maxHeartbeats 12800000
theorem jrun_t (h : JS w P X s.d) (hI : FInv s) (htd : ∀ x, x ∈ s.L → x.told.length ≤ 1000000) (n now : Nat) (hn : 1 ≤ n ∧ n ≤ mxX) (hnu : ∀ x, x ∈ s.L → x.n < n) : Calls Tryz.prog 51 #[.pointer (some ⟨P.q, 0, none⟩), .int .u64 (n : Int), .int .u64 (now : Int)] w fun e w' => ∃ j v P' D, e = .returned (.tuple #[.int .i64 ((j : Nat) : Int), v]) ∧ RunJ w w' P X { s with clk := max s.clk (min now mxX) } n j v P' D := by
 have hn0 : ((n : Int) == 0) = false := by simp; omega
 have hn1 : ¬ (281474976710655 : Int) < (n : Int) := by unfold mxX at hn; omega
 have HON : Hid _ := jon_t h now; obtain ⟨s1, hs1⟩ : ∃ s1 : Fs, s1 = { s with clk := max s.clk (min now mxX) } := ⟨_, rfl⟩; have hd1 : ({ s.d with clk := max s.d.clk (min now mxX) } : Dd) = s1.d := by rw [hs1]; rfl
 rw [hd1] at HON; rw [← hs1]; have hI1 : FInv s1 := by rw [hs1]; exact ⟨hI.mt, hI.rt, hI.rs, hI.wn, hI.e, (by show max s.clk (min now mxX) ≤ mxX; have := hI.c; omega), (by show s.N ≤ max s.clk (min now mxX); have := hI.nc; omega), hI.len, hI.lw, hI.num, hI.up, hI.good, hI.nk, hI.blk, hI.seg, hI.ag⟩
 have HI1 : Hid _ := hI1; have HNU : Hid (∀ x, x ∈ s1.L → x.n < n) := by unfold Hid; rw [hs1]; exact hnu
 have HNN : Hid (1 ≤ n ∧ n ≤ mxX) := hn; have hc9 : w.cell? ⟨P.q, 9, none⟩ = some P.lv := h.cell 9; obtain ⟨la, lc, hlv, -, -, -, hrdQ⟩ := OwnG.val h.l; obtain ⟨m, hm⟩ : ∃ m, m = P.Q.length := ⟨_, rfl⟩; have hm64 : m ≤ 64 := by rw [hm, h.llen]; show (s.L.map Fe.d).length ≤ 64; rw [List.length_map]; have := hI.len; omega
 rw [← hm] at hlv; rw [hlv] at hc9; have HM : Hid (m = P.Q.length) := hm; have HRQ : Hid (RdG KJe w la P.Q) := hrdQ
 have HNO : Hid (∀ i (hi : i < P.Q.length), ¬ n ≤ (P.Q[i]).x.n) := fun i hi => by
  have h9 : (P.Q[i]).x ∈ s.L.map Fe.d := by
   have h8 : P.Q.map Fq.x = s.L.map Fe.d := h.lx; rw [← h8]; exact List.mem_map.2 ⟨_, List.getElem_mem hi, rfl⟩
  obtain ⟨x, hx, e⟩ := List.mem_map.1 h9; have := hnu x hx; rw [← e]; show ¬ n ≤ x.n; omega
 clear h hI htd hn hnu hs1 hd1 hI1 hm hlv hrdQ; go_enter Tryz.func51, Tryz.ntmps51
 go_wp2; go_loopw [8] (fun j wr => ∃ i : Nat, i ≤ m ∧ j = .int .i64 (i : Int) ∧ wr = w) (fun j _ => m - (intOf j).toNat)
 case atStart => exact ⟨0, Nat.zero_le _, rfl, by first | rfl | trivial⟩
 case round =>
  obtain ⟨i, him, rfl, hq⟩ := hrel; have hq := hq.symm; subst hq; have hkw : IntKind.i64.wrap ((i : Int) + 1) = ((i + 1 : Nat) : Int) := by rw [IntKind.wrap_i64]; omega
  by_cases hlt : i < m
  · have hlti : (i : Int) < (m : Int) := by omega
    have hi0 : (0 : Int) ≤ (i : Int) := by omega
    have hi1 : i < P.Q.length := by rw [← HM.out]; exact hlt
    obtain ⟨b, o, rfl, r1, -⟩ := HRQ.out i hi1; obtain ⟨x, hx⟩ : ∃ x : Fq, x = P.Q[i] := ⟨_, rfl⟩; have g1 := r1 0 (.int .u64 (x.x.n : Int)) (by rw [hx]; rfl); rw [Nat.add_zero] at g1; have hei : ¬ (n : Int) ≤ (x.x.n : Int) := by have := HNO.out i hi1; rw [← hx] at this; omega
    clear r1 hx hi1; go_wp2; go_roundw
    case rel => exact ⟨i + 1, by omega, by go_num, by first | rfl | trivial⟩
    case measure => simp [intOf]; omega
  · have hlti : ¬ (i : Int) < (m : Int) := by omega
    clear HNO HRQ; go_wp2_with (go_at_call 91; refine Calls.mono HON.out ?_; rintro e9 w1 ⟨rfl, hJ1, hS1⟩; have HJ1 : Hid _ := hJ1; have HS1 : Hid _ := hS1; clear hJ1 hS1)
    clear hlt hlti hkw him hc9 HON; go_loopw [1, 9, 10] (fun u1 u9 u10 wr => ∃ (j : Nat) (P' : Jp) (D : List Dc), u1 = .int .u64 ((n + j : Nat) : Int) ∧ u9 = .int .i64 (j : Int) ∧ RnJ w1 wr P X s1 n j u10 P' D) (fun _ u9 _ _ => 64 - (intOf u9).toNat)
    case atStart => exact ⟨0, P, [], by simp, rfl, RunAt.zero HNU.out, HI1.out, HJ1.out, ⟨World.ownsRow_nil _ _ _ _, rfl, fun i d u h => by simp at h⟩, JStp.refl _ _, (fun b hb => by cases hb), rfl⟩
    case round =>
     obtain ⟨j, P', D, rfl, rfl, hR⟩ := hrel; obtain ⟨z, hz⟩ : ∃ z, z = n + j := ⟨_, rfl⟩; rw [← hz]; obtain ⟨sj, hsj⟩ : ∃ sj, sj = runN s1 n j := ⟨_, rfl⟩; have hJ := hR.st; have hInv := hR.inv; rw [← hsj] at hJ hInv; have hqe := hR.q; obtain ⟨ra, rc, hrv, hrle, -, hrrd⟩ := hJ.row.val; obtain ⟨l2, c2, hlv2, -⟩ := hJ.l.val; obtain ⟨nr, hnr⟩ : ∃ nr, nr = P'.R.length := ⟨_, rfl⟩; obtain ⟨nl, hnl⟩ : ∃ nl, nl = P'.Q.length := ⟨_, rfl⟩; rw [← hnr] at hrv; rw [← hnl] at hlv2; have hnrr : nr = sj.row.length := by rw [hnr, hJ.rlen]; rfl
     have hnll : nl = sj.L.length := by rw [hnl, hJ.llen]; show (sj.L.map Fe.d).length = _; rw [List.length_map]
     have hnr64 : nr ≤ 64 := by rw [hnrr]; have := hInv.len; omega
     have hnl64 : nl ≤ 64 := by rw [hnll]; have := hInv.len; omega
     have hcl : ∀ u, Below wr.heap.size wr u → u.cell? ⟨P.q, 8, none⟩ = some (.slice ra nr rc) ∧ u.cell? ⟨P.q, 9, none⟩ = some (.slice l2 nl c2) ∧ u.cell? ⟨P.q, 4, none⟩ = some (.int .i64 (sj.win : Int)) := fun u hu => by
      have h9 := hJ.below hu; rw [← hqe, ← hrv, ← hlv2]; exact ⟨h9.cell 8, h9.cell 9, h9.cell 4⟩
     have HR : Hid _ := hR; have HSJ : Hid (sj = runN s1 n j) := hsj; have HJ : Hid _ := hJ; have HINV : Hid _ := hInv; have HZ : Hid (z = n + j) := hz; have HQE : Hid _ := hqe; have HNR : Hid (nr = sj.row.length) := hnrr; have HNL : Hid (nl = sj.L.length) := hnll; have HRV : Hid (P'.rv = .slice ra nr rc) := hrv; have HLV2 : Hid (P'.lv = .slice l2 nl c2) := hlv2
     have HDONE : Hid (¬ mayB sj z → RunJ w wr P X s1 n j u10 P' D) := fun hno => by
      refine ⟨⟨hR.at_.go, by rw [← hsj, ← hz]; exact hno⟩, hR.st, ⟨hR.us.row.base HS1.out.chg.size, hR.us.len, hR.us.dat⟩, HS1.out.trans hR.stp, hR.far, hR.q⟩
     have hclr := hcl wr (bR _ _); clear hR hsj hJ hInv hz hqe hrv hlv2 hnr hnl hnrr hnll hrrd hrle
     by_cases h0 : 0 < nr
     · have h0i : (0 : Int) < (nr : Int) := by omega
       by_cases hwn : nl < sj.win
       · have hwi : (nl : Int) < (sj.win : Int) := by omega
         by_cases hzz : z ≤ mxX
         · have hzi : (z : Int) ≤ 281474976710655 := by unfold mxX at hzz; omega
           obtain ⟨g, o, c, hrv1, hnc, hcm, hrrd, hgl⟩ := HJ.out.row.one (by rw [HJ.out.rlen]; show 0 < sj.row.length; rw [← HNR.out]; exact h0); rw [HRV.out] at hrv1; simp only [Value.slice.injEq] at hrv1; obtain ⟨e1, e2, e3⟩ := hrv1; have e3 := e3.symm; subst e1; subst e3
           obtain ⟨r0, R1, hR⟩ : ∃ r0 R1, P'.R = r0 :: R1 := by
            cases e : P'.R with
            | nil => rw [e] at e2; simp at e2; omega
            | cons a b => exact ⟨a, b, rfl⟩
           obtain ⟨⟨k, xs⟩, row1, hrow⟩ : ∃ x r, sj.row = x :: r := by
            cases e : sj.row with
            | nil => have := HNR.out; rw [e] at this; simp at this; omega
            | cons a b => exact ⟨a, b, rfl⟩
           have hrk : P'.R.map Fr.k = sj.row.map Prod.fst := HJ.out.rk; rw [hR, hrow] at hrk; simp only [List.map_cons, List.cons.injEq] at hrk; have hR0 : P'.R[0]? = some r0 := by rw [hR]; rfl
           have hrow0 : sj.row[0]? = some (k, xs) := by rw [hrow]; rfl
           have hsz0 := HJ.out.rs 0 r0 (k, xs) hR0 hrow0; obtain ⟨b9, o9, e9, r1, -⟩ := hrrd 0 (by rw [hR]; simp); cases e9; have er0 : P'.R[0]'(by rw [hR]; simp) = r0 := by simp [hR]
           rw [er0] at r1; obtain ⟨k0, ⟨da, dn, dc⟩, E⟩ := r0; have hk0 : k0 = k := hrk.1; subst hk0; have hsz0 : SegZ wr P'.Z ⟨da, dn, dc⟩ (segN xs sj.mtu (cutN xs.length sj.mtu)) E := hsz0; have hblk := HINV.out.blk (k0, xs) (List.mem_of_getElem? hrow0); have hsok := segs_ok HINV.out.mt.1 HINV.out.mt.2 hblk.1 hblk.2; have hEl : E.length = (segN xs sj.mtu (cutN xs.length sj.mtu)).length := hsz0.ls.fml.len; obtain ⟨m1, hm1⟩ : ∃ m1, m1 = E.length := ⟨_, rfl⟩; have hm1a : 1 ≤ m1 ∧ m1 ≤ 64 := by rw [hm1, hEl]; exact hsok.1
           obtain ⟨gd, cd, hvd, -⟩ := hsz0.ls.row.one (by rw [← hm1]; exact hm1a.1); rw [← hm1] at hvd; have hvd : Value.slice da dn dc = .slice (some ⟨gd, 0, none⟩) m1 cd := hvd; simp only [Value.slice.injEq] at hvd; obtain ⟨v1, v2, v3⟩ := hvd; have v2 := v2.symm; have v3 := v3.symm; subst v1; subst v2; subst v3; obtain ⟨n1, hn1⟩ : ∃ n1, n1 = R1.length := ⟨_, rfl⟩; have hnr1 : nr = n1 + 1 := by rw [e2, hR, hn1]; rfl
           obtain ⟨A, hA⟩ : ∃ A : Option Addr, A = if c = 1 then some ⟨g, o, none⟩ else some ⟨g, o + 1 * KJf.k, none⟩ := ⟨_, rfl⟩
           obtain ⟨c1, hc1⟩ : ∃ c1, c1 = c - 1 := ⟨_, rfl⟩
           have hsl : ∀ u, (Instr.slice 111 (.slice (some ⟨g, o, none⟩) nr c) (some (.int .i64 1)) none none).run Tryz.prog u = .ok (.slice A n1 c1) u := fun u => by
            rw [run_slice_l u 111 (some ⟨g, o, none⟩) nr c (by kernel_rfl) .i64 1 (by omega) (by omega), size_jf]; simp only [Result.andThen, sliced]; rw [hA, hc1]
            by_cases h1c : c = 1
            · subst h1c; simp [show nr - 1 = n1 by omega]
            · rw [if_neg h1c, if_neg (by simp; omega)]; simp [Go.WideShapes.add_plain, show nr - 1 = n1 by omega]
           have hMT : MidG KJf wr (.slice A n1 c1) R1 := by
            have h9 := HJ.out.row; rw [HRV.out, hR] at h9; rw [hA, hn1, hc1]; exact h9.tail
           have hAo : ∀ b, (Value.slice A n1 c1).ownBlock = some b → P'.rv.ownBlock = some b := fun b hb => by
            rw [HRV.out]; rw [hA] at hb; split at hb <;> exact hb
           have hzp : 1 ≤ z ∧ z ≤ mxX := ⟨by have := HNN.out.1; have := HZ.out; omega, hzz⟩; have hmay : mayB sj z := ⟨by rw [← HNR.out]; exact h0, by rw [← HNL.out]; exact hwn, hzp⟩; have HMAY : Hid (mayB sj z) := hmay; have HROW0 : Hid (sj.row[0]? = some (k0, xs)) := hrow0; have HROW : Hid (sj.row = (k0, xs) :: row1) := hrow; have HRK1 : Hid (R1.map Fr.k = row1.map Prod.fst) := hrk.2; have HRR : Hid (P'.R = ⟨k0, ⟨some ⟨gd, 0, none⟩, m1, cd⟩, E⟩ :: R1) := hR; have HMID : Hid (MidG KJf wr (.slice A n1 c1) R1) := hMT; have HAO : Hid (∀ b, (Value.slice A n1 c1).ownBlock = some b → P'.rv.ownBlock = some b) := hAo; have HSG : Hid (SegZ wr P'.Z ⟨some ⟨gd, 0, none⟩, m1, cd⟩ (segN xs sj.mtu (cutN xs.length sj.mtu)) E) := hsz0; have HSOK : Hid _ := hsok; have HEL : Hid (E.length = _) := hEl; have HM1 : Hid (m1 = E.length) := hm1; have HNR1 : Hid (nr = n1 + 1) := hnr1; have q0 := r1 0 (.int .i64 k0.1) rfl; have q1 := r1 1 (.int .u64 (k0.2 : Int)) rfl; have q2 := r1 2 (.slice (some ⟨gd, 0, none⟩) m1 cd) rfl; rw [Nat.zero_mul, Nat.add_zero] at q0 q1 q2; clear hrrd e2 hR hrow hrk hR0 hrow0 hsz0 r1 er0 hblk hsok hEl hm1 hn1 hA hc1 hMT hAo hmay hzp h0 hwn hzz hnr1 hnc hcm hgl; (go_wp2_with fail); refine wp_region_noPanic ?_; refine wp_region_held_drew (S := (fun u => Below wr.heap.size wr u)) (by kernel_rfl) (by first | exact (bR _ _).drew | assumption) (fun hHeld => ?_); refine tz 0 40 hHeld ?_; simp only [pS]; refine tz 1 41 hHeld ?_; simp only [pS]; refine tz 2 42 hHeld ?_; simp only [pS]; refine tk 3 43 (v := .slice (some ⟨g, o, none⟩) nr c) ?_ hHeld ?_
           · (intro w hSw; have hc9 := hcl _ hSw; go_simp; try with_reducible rfl)
           simp only [pS]; refine tz 4 44 hHeld ?_; simp only [pS]; refine tk 5 45 (v := .bool true) ?_ hHeld ?_
           · (intro w hSw; go_simp; try omega)
           simp only [pS]; refine tz 6 46 hHeld ?_; simp only [pS]; refine tz 7 47 hHeld ?_; simp only [pS]; refine tz 8 48 hHeld ?_; simp only [pS]; refine tz 9 49 hHeld ?_; simp only [pS]; refine tk 10 50 (v := .slice l2 nl c2) ?_ hHeld ?_
           · (intro w hSw; have hc9 := hcl _ hSw; go_simp; try with_reducible rfl)
           simp only [pS]; refine tz 11 51 hHeld ?_; simp only [pS]; refine tz 12 52 hHeld ?_; simp only [pS]; refine tz 13 53 hHeld ?_; simp only [pS]; refine tz 14 54 hHeld ?_; simp only [pS]; refine tz 15 55 hHeld ?_; simp only [pS]; refine tk 16 56 (v := .int .i64 (sj.win : Int)) ?_ hHeld ?_
           · (intro w hSw; have hc9 := hcl _ hSw; go_simp; try with_reducible rfl)
           simp only [pS]; refine tk 17 57 (v := .bool true) ?_ hHeld ?_
           · (intro w hSw; go_simp; try omega)
           simp only [pS]; refine tz 18 58 hHeld ?_; simp only [pS]; refine tz 19 59 hHeld ?_; simp only [pS]; refine tz 20 60 hHeld ?_; simp only [pS]; refine tk 21 61 (v := .bool true) ?_ hHeld ?_
           · (intro w hSw; go_simp; try omega)
           simp only [pS]; refine tz 22 62 hHeld ?_; simp only [pS]; refine wpAnyH_done (by kernel_rfl) ?_ _; refine NoPanic.normal ?_; clear hHeld hclr; obtain ⟨wd, hwd⟩ : ∃ wd, wd = wr.drew := ⟨_, rfl⟩; have hbd : Below wr.heap.size wr wd := by rw [hwd]; exact (bR _ _).drew
           have k0' : wd.cell? ⟨g, o, none⟩ = some (.int .i64 k0.1) := by rw [hwd]; simpa using q0
           have k1' : wd.cell? ⟨g, o + 1, none⟩ = some (.int .u64 (k0.2 : Int)) := by rw [hwd]; simpa using q1
           have k2' : wd.cell? ⟨g, o + 2, none⟩ = some (.slice (some ⟨gd, 0, none⟩) m1 cd) := by rw [hwd]; simpa using q2
           have h8d := (hcl wd hbd).1; obtain ⟨wb, hwb⟩ : ∃ wb, wb = wd.alloc (.cells #[.int .i64 k0.1, .int .u64 (k0.2 : Int), .slice (some ⟨gd, 0, none⟩) m1 cd] tJf) := ⟨_, rfl⟩; have hbb : Below wr.heap.size wr wb := by rw [hwb]; exact alw hbd _
           have hbx : wb.heap[wd.heap.size]? = some (.cells #[.int .i64 k0.1, .int .u64 (k0.2 : Int), .slice (some ⟨gd, 0, none⟩) m1 cd] tJf (0, 0)) := by rw [hwb]; exact heap_alloc_new wd _
           have HWB : Hid (wb = _) := hwb; have hszd : wd.heap.size = wr.heap.size := by rw [hwd]; rfl
           have HSZD : Hid (wd.heap.size = wr.heap.size) := hszd; have HBX : Hid _ := hbx; rw [← hwd]; have hJb := HJ.out.below hbb; have h8b := (hcl wb hbb).1; have hf8 : wb.frozen? ⟨P.q, 8, none⟩ = false := by rw [← HQE.out]; exact hJb.frz 8
           obtain ⟨hJc, hSc⟩ := hJb.setRow (Chg.refl _ _) (rv' := .slice A n1 c1) (R' := R1) (row' := row1) (Z' := P'.Z) (HMID.out.kept (fun b hb => hbb.block b (HMID.out.lt hb))) (fun b hb => .inl (HAO.out b hb)) (fun _ h => h) hJb.zt (fun _ h => .inl h) HRK1.out (fun i r e h1 h2 => hJb.rs (i + 1) r e (by rw [HRR.out]; exact h1) (by show sj.row[i + 1]? = _; rw [HROW.out]; exact h2)); rw [hwb] at h8b hf8; have HJC : Hid _ := hJc; have HSC : Hid _ := hSc; have HBB : Hid _ := hbb; clear hwd hbd hwb hbb hbx hszd hJb hJc hSc q0 q1 q2 hcl; go_wp2; rw [← HWB.out]; obtain ⟨wc, hwc⟩ : ∃ wc, wc = wb.setCell ⟨P.q, 8, none⟩ (.slice A n1 c1) := ⟨_, rfl⟩; have hJc := HJC.out; have hSc := HSC.out; have hwc2 : wb.setCell ⟨P'.q, 8, none⟩ (.slice A n1 c1) = wc := by rw [hwc, HQE.out]
           rw [hwc2] at hJc hSc; obtain ⟨P2, hP2⟩ : ∃ P2 : Jp, P2 = { P' with rv := .slice A n1 c1, R := R1, Z := P'.Z } := ⟨_, rfl⟩; have hP2q : P2.q = P.q := by rw [hP2]; exact HQE.out
           have hP2z : P2.Z = P'.Z := by rw [hP2]
           have hP2l : P2.lv = .slice l2 nl c2 := by rw [hP2]; exact HLV2.out
           have hP2Q : P2.Q = P'.Q := by rw [hP2]
           rw [← hP2] at hJc hSc
           have hxb : wc.heap[wd.heap.size]? = some (.cells #[.int .i64 k0.1, .int .u64 (k0.2 : Int), .slice (some ⟨gd, 0, none⟩) m1 cd] tJf (0, 0)) := by
            rw [hwc]; refine (heap_setCell_other wb ⟨P.q, 8, none⟩ _ _ (fun e => ?_)).trans HBX.out; have h9 := HJ.out.ql; rw [HQE.out] at h9; have h8 : wd.heap.size = P.q := e; have := HSZD.out; omega
           have hk5 : ∀ u, Below wc.heap.size wc u → (u.cell? ⟨wd.heap.size, 0, none⟩ = some (.int .i64 k0.1) ∧ u.cell? ⟨wd.heap.size, 1, none⟩ = some (.int .u64 (k0.2 : Int)) ∧ u.cell? ⟨wd.heap.size, 2, none⟩ = some (.slice (some ⟨gd, 0, none⟩) m1 cd) ∧ u.cell? ⟨P.q, 7, none⟩ = some (.int .u64 (sj.clk : Int)) ∧ u.cell? ⟨P.q, 2, none⟩ = some (.int .u64 (sj.rt : Int)) ∧ u.cell? ⟨P.q, 9, none⟩ = some (.slice l2 nl c2)) := fun u hu => by
            have h9 := (hu.block _ (sI hxb).1).trans hxb; have h8 := hJc.below hu; rw [← hP2q, ← hP2l]; exact ⟨by rw [cR h9]; rfl, by rw [cR h9]; rfl, by rw [cR h9]; rfl, h8.cell 7, h8.cell 2, h8.cell 9⟩
           have hck : sj.clk ≤ mxX ∧ sj.rt ≤ 4096 := ⟨HINV.out.c, HINV.out.rt.2⟩; have HLT : Hid (∀ u, Calls Tryz.prog 92 #[.int .u64 (sj.clk : Int), .int .u64 (sj.rt : Int)] u fun e w' => e = .returned (.int .u64 ((min (sj.clk + sj.rt) mxX : Nat) : Int)) ∧ w' = u) := fun u => rlaterF_t sj.clk sj.rt hck.1 hck.2 u
           obtain ⟨D9, hD9⟩ : ∃ D9, D9 = min (sj.clk + sj.rt) mxX := ⟨_, rfl⟩; rw [← hD9] at HLT
           have HOW : Hid (∀ u, Below wc.heap.size wc u → OwnG KJe u 0 (.slice l2 nl c2) P'.Q) := fun u hu => by
            have h9 := (hJc.below hu).l; rw [hP2l, hP2Q] at h9; exact h9
           have HQ : Hid (∀ u u', Below wc.heap.size wc u → u.grownBy u' (Value.slice l2 nl c2).ownBlock → u'.cell? ⟨P.q, 9, none⟩ = some (.slice l2 nl c2) ∧ u'.frozen? ⟨P.q, 9, none⟩ = false) := fun u u' hu hg => by
            have h9 := hJc.below hu; have h7 : (Value.slice l2 nl c2) = P2.lv := hP2l.symm; rw [h7] at hg ⊢; rw [← hP2q]; have h8 : u'.heap[P2.q]? = u.heap[P2.q]? := hg.block P2.q h9.ql (fun e => (h9.ql2 P2.q e.symm).1 rfl); exact ⟨(World.cell?_of_block h8).trans (h9.cell 9), (World.frozen?_of_block h8).trans (h9.frz 9)⟩
           obtain ⟨y, hy⟩ : ∃ y : Fq, y = ⟨⟨z, k0, segN xs sj.mtu (cutN xs.length sj.mtu), [], 0, D9⟩, ⟨some ⟨gd, 0, none⟩, m1, cd⟩, Dc.z, E⟩ := ⟨_, rfl⟩; have HY : Hid (fqv y = [.int .u64 (z : Int), .int .i64 k0.1, .int .u64 (k0.2 : Int), .slice (some ⟨gd, 0, none⟩) m1 cd, .slice none 0 0, .int .i64 0, .int .u64 (D9 : Int)]) := by unfold Hid; rw [hy]; rfl
           have HYE : Hid (y = _) := hy; have HNLQ : Hid (nl = P'.Q.length) := by unfold Hid; rw [HNL.out, HJ.out.llen]; show sj.L.length = (sj.L.map Fe.d).length; rw [List.length_map]
           have HK5 : Hid _ := hk5; have HJ2 : Hid (JS wc P2 X { sj.d with row := row1 }) := hJc; have HS2 : Hid (JStp wb wc P' P2) := hSc; have HP2 : Hid (P2 = _) := hP2; have HP2Q : Hid (P2.Q = P'.Q) := hP2Q; have HP2L : Hid (P2.lv = .slice l2 nl c2) := hP2l; have HP2Z : Hid (P2.Z = P'.Z) := hP2z; have HP2q : Hid (P2.q = P.q) := hP2q; have HXB : Hid _ := hxb; have HD9 : Hid _ := hD9; have HWC : Hid (wc = _) := hwc; rw [← hwc]; clear hwc hwc2 hJc hSc hP2 hP2q hP2z hP2l hP2Q hxb hk5 hck hD9 hy; refine wp_region_noPanic ?_; refine wp_region_late_drew (S := (fun u => Below wc.heap.size wc u)) (X := [22, 23, 24, 25]) (by kernel_rfl) (by with_reducible first | exact (bR _ _).drew | exact alw (bR _ _).drew _ | exact alw hHeld _ | exact (alw (bR _ _) _).drew | assumption) (fun hHeld => ?_); refine qA 0 77 hHeld ?_; simp only [pS]; refine qA 1 78 hHeld ?_; simp only [pS]; refine qA 2 79 hHeld ?_; simp only [pS]; refine qA 3 80 hHeld ?_; simp only [pS]; refine qL 4 81 (v := .slice l2 nl c2) ?_ hHeld ?_
           · (intro w hSw; have hc9 := HK5.out _ hSw; go_simp; try with_reducible rfl)
           simp only [pS]; refine qA 5 82 hHeld ?_; simp only [pS]; refine qA 6 83 hHeld ?_; simp only [pS]; refine qL 7 84 (v := .agg #[.int .i64 k0.1, .int .u64 (k0.2 : Int)]) ?_ hHeld ?_
           · (intro w hSw; have hc9 := HK5.out _ hSw; go_simp; try with_reducible rfl)
           simp only [pS]; refine qA 8 85 hHeld ?_; simp only [pS]; refine qL 9 86 (v := .slice (some ⟨gd, 0, none⟩) m1 cd) ?_ hHeld ?_
           · (intro w hSw; have hc9 := HK5.out _ hSw; go_simp; try with_reducible rfl)
           simp only [pS]; refine qA 10 87 hHeld ?_; simp only [pS]; refine qA 11 88 hHeld ?_; simp only [pS]; refine qA 12 89 hHeld ?_; simp only [pS]; refine qL 13 90 (v := .int .u64 (sj.clk : Int)) ?_ hHeld ?_
           · (intro w hSw; have hc9 := HK5.out _ hSw; go_simp; try with_reducible rfl)
           simp only [pS]; refine qA 14 91 hHeld ?_; simp only [pS]; refine qA 15 92 hHeld ?_; simp only [pS]; refine qA 16 93 hHeld ?_; simp only [pS]; refine qA 17 94 hHeld ?_; simp only [pS]; refine qL 18 95 (v := .int .u64 (sj.rt : Int)) ?_ hHeld ?_
           · (intro w hSw; have hc9 := HK5.out _ hSw; go_simp; try with_reducible rfl)
           simp only [pS]; refine run_atL (i := 19) rfl (by kernel_rfl) (by rfl) (fun K hK => ?_); simp only [gE]; go_simp
           first | (go_at_call 92; refine Calls.mono (HLT.out _) ?_; rintro e9 u9 ⟨rfl, hq⟩; have hq := hq.symm; subst hq) | (refine wpo_appG1 (K := KJe) _ _ rfl 0 (.slice l2 nl c2) P'.Q y nl HNLQ.out ⟨wc.heap.size, 0, none⟩ 1 rfl (HOW.out _ (alw (bR _ _).drew _)) rfl (rdG_lit (K := KJe) (heap_alloc_new _ _) (by simp [Kd.flat, HY.out])) (by show (nl + 1) * 88 ≤ _; omega) (by simp only [maxLen]; omega) (Nat.zero_le _) ?_; intro g6 c6 w6 hown6 hg6 hat6; obtain ⟨hcq, hfq⟩ := HQ.out _ _ (alw (bR _ _).drew _) hg6; have HO6 : Hid _ := hown6; have HG6 : Hid _ := hg6; have HT6 : Hid _ := hat6; clear hown6 hg6 hat6)
           (go_wp2_with fail); refine hK.out _ _ (by with_reducible first | exact (bR _ _).drew | exact alw (bR _ _).drew _ | exact alw hHeld _ | exact (alw (bR _ _) _).drew | assumption) ?_; clear hK K; clear hHeld; intro hHeld; (try simp only [pS]); refine qA 20 97 hHeld ?_; simp only [pS]; refine run_atL (i := 21) rfl (by kernel_rfl) (by rfl) (fun K hK => ?_); simp only [gE]; go_simp; (go_wp2_with fail); refine hK.out _ _ (by with_reducible first | exact (bR _ _).drew | exact alw (bR _ _).drew _ | exact alw hHeld _ | exact (alw (bR _ _) _).drew | assumption) ?_; clear hK K; clear hHeld; intro hHeld; (try simp only [pS]); refine run_atLate (i := 22) rfl (by kernel_rfl) (by decide) (by rfl) (fun K hK => ?_); simp only [gE]
           first | (go_at_call 92; refine Calls.mono (HLT.out _) ?_; rintro e9 u9 ⟨rfl, hq⟩; have hq := hq.symm; subst hq) | (refine wpo_appG1 (K := KJe) _ _ rfl 0 (.slice l2 nl c2) P'.Q y nl HNLQ.out ⟨wc.heap.size, 0, none⟩ 1 rfl (HOW.out _ (alw (bR _ _).drew _)) rfl (rdG_lit (K := KJe) (heap_alloc_new _ _) (by simp [Kd.flat, HY.out])) (by show (nl + 1) * 88 ≤ _; omega) (by simp only [maxLen]; omega) (Nat.zero_le _) ?_; intro g6 c6 w6 hown6 hg6 hat6; obtain ⟨hcq, hfq⟩ := HQ.out _ _ (alw (bR _ _).drew _) hg6; have HO6 : Hid _ := hown6; have HG6 : Hid _ := hg6; have HT6 : Hid _ := hat6; clear hown6 hg6 hat6)
           refine hK.out _ _ ?_; clear hK K; (try simp only [pS]); refine val_atLate (i := 23) 100 (v := ?_) rfl rfl (by kernel_rfl) (by decide) (by rfl) ?_ ?_; rotate_left
           · (go_simp; try with_reducible rfl)
           simp only [pS]; refine val_atLate (i := 24) 101 (v := ?_) rfl rfl (by kernel_rfl) (by decide) (by rfl) ?_ ?_; rotate_left
           · (go_simp; try with_reducible rfl)
           simp only [pS]; refine run_atLate (i := 25) rfl (by kernel_rfl) (by decide) (by rfl) (fun K hK => ?_); simp only [gE]; go_simp; (go_wp2_with fail); refine hK.out _ _ ?_; clear hK K; (try simp only [pS]); refine doneL (by kernel_rfl) ?_ _; refine NoPanic.normal ?_; have hO6 := HO6.out; obtain ⟨w7, hw7⟩ : ∃ w7, w7 = w6.setCell ⟨P.q, 9, none⟩ (.slice (some ⟨g6, 0, none⟩) (nl + 1) c6) := ⟨_, rfl⟩; rw [← hw7]
           have hcw : Chg (fun b => P2.lv.ownBlock = some b) wc w6 := by
            rw [HP2L.out]; exact (Chg.of_below (alw (bR _ _).drew _)).trans (Chg.of_grown HG6.out (F := fun b => (Value.slice l2 nl c2).ownBlock = some b) (fun b e => e)) (fun b e => .inl e)
           have hzk : ∀ b, P'.Z b → w6.heap[b]? = wc.heap[b]? := fun b hb => hcw.block b (HJ2.out.zt.lt (by rw [HP2Z.out]; exact hb)) (fun e => (HJ2.out.ql2 b e).2 (by rw [HP2Z.out]; exact hb))
           have hzc : ∀ b, P'.Z b → wc.heap[b]? = wr.heap[b]? := fun b hb => by
            have h9 := HJ.out.zt.lt hb; rw [HWC.out]; refine (heap_setCell_other wb ⟨P.q, 8, none⟩ b _ (fun e => ?_)).trans (HBB.out.block b h9); have h8 : b = P.q := e; rw [h8, ← HQE.out] at hb; exact HJ.out.qz hb
           have hsgk : SegZ w6 P'.Z ⟨some ⟨gd, 0, none⟩, m1, cd⟩ (segN xs sj.mtu (cutN xs.length sj.mtu)) E := HSG.out.kept (fun b hb => (hzk b hb).trans (hzc b hb))
           obtain ⟨hJ7, hS7⟩ := HJ2.out.setL hcw (lv' := .slice (some ⟨g6, 0, none⟩) (nl + 1) c6) (Q' := P'.Q ++ [y]) hO6 (fun b e => by
               cases e; rw [HP2L.out]; rcases HT6.out with h9 | h9
               · exact .inl h9
               · exact .inr (Nat.le_trans (alw (bR _ _).drew _).size h9)) (Z' := P2.Z) (fun _ h => h) (HJ2.out.zt.kept (fun b hb => hzk b (by rw [HP2Z.out] at hb; exact hb))) (fun _ h => .inl h) (fun v hv => by
               rcases List.mem_append.1 hv with h9 | h9
               · exact (HJ2.out.ls v (by rw [HP2Q.out]; exact h9)).kept (fun b hb => hzk b (by rw [HP2Z.out] at hb; exact hb))
               · rw [List.mem_singleton.1 h9, HYE.out, HP2Z.out]; exact hsgk) (fun v hv => by
               rcases List.mem_append.1 hv with h9 | h9
               · exact (HJ2.out.lq v (by rw [HP2Q.out]; exact h9)).kept (fun b hb => hzk b (by rw [HP2Z.out] at hb; exact hb))
               · rw [List.mem_singleton.1 h9, HYE.out]
                 exact ⟨World.ownsRow_nil _ _ _ _, fun b hb => by cases hb⟩)
           have hw72 : w6.setCell ⟨P2.q, 9, none⟩ (.slice (some ⟨g6, 0, none⟩) (nl + 1) c6) = w7 := by rw [hw7, HP2q.out]
           rw [hw72] at hJ7 hS7; obtain ⟨P3, hP3⟩ : ∃ P3 : Jp, P3 = { P2 with lv := .slice (some ⟨g6, 0, none⟩) (nl + 1) c6, Q := P'.Q ++ [y], Z := P2.Z } := ⟨_, rfl⟩; rw [← hP3] at hJ7 hS7; have hP3q : P3.q = P.q := by rw [hP3]; exact HP2q.out
           have hP3z : P3.Z = P'.Z := by rw [hP3]; exact HP2Z.out
           have hst : (runN s1 n (j + 1)).d = { sj.d with row := row1, L := (P'.Q ++ [y]).map Fq.x } := by
            show (stepF (runN s1 n j) (n + j)).d = _; rw [← HSJ.out, ← HZ.out, stepF_d HROW0.out, HROW.out, List.map_append]; have h9 : P'.Q.map Fq.x = sj.d.L := HJ.out.lx; rw [h9, HYE.out]; show ({ sj.d with row := ((k0, xs) :: row1).eraseIdx 0, L := sj.d.L ++ [(begF sj z k0 xs).d] } : Dd) = _; unfold begF Fe.d; rw [HD9.out]
            rfl
           have hJ7 : JS w7 P3 X (runN s1 n (j + 1)).d := by rw [hst]; exact hJ7
           have hinv7 : FInv (runN s1 n (j + 1)) := by
            show FInv (stepF (runN s1 n j) (n + j)); rw [← HSJ.out, ← HZ.out]; exact HINV.out.step HMAY.out (by have := HR.out.at_.up; rw [← HSJ.out, ← HZ.out] at this; exact this) HROW0.out
           have hxb7 : w7.heap[wd.heap.size]? = some (.cells #[.int .i64 k0.1, .int .u64 (k0.2 : Int), .slice (some ⟨gd, 0, none⟩) m1 cd] tJf (0, 0)) := by
            have hl : wd.heap.size < wc.heap.size := (sI HXB.out).1
            have hlv : P2.lv.ownBlock ≠ some wd.heap.size := fun e => by
             have h9 : P'.lv.ownBlock = some wd.heap.size := by rw [HLV2.out]; rw [HP2L.out] at e; exact e
             have := (HJ.out.l.lt' h9).2; have := HSZD.out; omega
            rw [hw7]; refine (heap_setCell_other w6 ⟨P.q, 9, none⟩ _ _ (fun e => ?_)).trans ((hcw.block _ hl hlv).trans HXB.out); have h9 := HJ.out.ql; rw [HQE.out] at h9; have h8 : wd.heap.size = P.q := e; have := HSZD.out; omega
           have hk7 : ∀ u, Below w7.heap.size w7 u → (u.cell? ⟨wd.heap.size, 2, none⟩ = some (.slice (some ⟨gd, 0, none⟩) m1 cd) ∧ u.cell? ⟨P.q, 6, none⟩ = some (.int .u64 (sj.ep : Int))) := fun u hu => by
            have h9 := (hu.block _ (sI hxb7).1).trans hxb7; have h8 := (hJ7.below hu).cell 6; rw [hst] at h8; rw [← hP3q]; exact ⟨by rw [cR h9]; rfl, h8⟩
           have hse7 : SegZ w7 P'.Z ⟨some ⟨gd, 0, none⟩, m1, cd⟩ (segN xs sj.mtu (cutN xs.length sj.mtu)) E := hsgk.kept (fun b hb => by
             rw [hw7]; refine heap_setCell_other w6 ⟨P.q, 9, none⟩ b _ (fun e => ?_); have h8 : b = P.q := e; rw [h8, ← HQE.out] at hb
             exact HJ.out.qz hb)
           have HUN : Hid (∀ u, Below w7.heap.size w7 u → Calls Tryz.prog 93 #[.int .u64 (sj.ep : Int), .int .u64 (z : Int), .int .i64 2, .slice (some ⟨gd, 0, none⟩) m1 cd] u fun e w' => ∃ v, e = .returned v ∧ OwnG KBf w' u.heap.size v (unF sj.ep z m1 E) ∧ Below u.heap.size u w') := fun u hu => runitsF_t sj.ep z gd m1 cd 0 E HM1.out hm1a.2 (OwnG.below hse7.ls.row hu)
           have hS27 : JStp wr w7 P' P3 := ((JStp.below HBB.out P').trans HS2.out).trans hS7
           have hU7 : UJw w7 P'.Z w1.heap.size u10 D (runU s1 n j) := by
            refine HR.out.us.kept (fun b hb => ?_); rcases hb with hb | hb
            · have hl := (HR.out.us.row.lt' hb).2; exact hS27.chg.block b hl (HR.out.far b hb)
            · have h9 := HJ.out.zt.lt hb; rw [hw7]; refine (heap_setCell_other w6 ⟨P.q, 9, none⟩ b _ (fun e => ?_)).trans ((hzk b hb).trans (hzc b hb)); have h8 : b = P.q := e; rw [h8, ← HQE.out] at hb; exact HJ.out.qz hb
           obtain ⟨au, cu, hu10, -⟩ := OwnG.val hU7.row; obtain ⟨nu, hnu⟩ : ∃ nu, nu = (runU s1 n j).length := ⟨_, rfl⟩; have hzl : (List.zipWith (fun u d => (⟨u.ep, u.n, u.i, u.c, d⟩ : Bf)) (runU s1 n j) D).length = nu := by rw [List.length_zipWith, hU7.len, hnu]; omega
           rw [hzl] at hu10
           have hnul : nu ≤ 4160 := by
            have h9 := HR.out.at_.ul; have h8 := HR.out.at_.len; have h7 := HI1.out.len; have : j * 65 ≤ 64 * 65 := Nat.mul_le_mul_right _ (by omega); omega
           subst hu10; have HU7 : Hid _ := hU7; have HJ7 : Hid _ := hJ7; have HINV7 : Hid _ := hinv7; have HK7 : Hid _ := hk7; have HS27 : Hid _ := hS27; have HSE7 : Hid _ := hse7; have HP3q : Hid _ := hP3q; have HP3z : Hid _ := hP3z; have HNU : Hid (nu = _) := hzl.symm; have HSZ7 : Hid (w1.heap.size ≤ w7.heap.size) := Nat.le_trans HR.out.stp.chg.size hS27.chg.size; have HROLD : Hid (∀ u, Below w7.heap.size w7 u → OwnG KBf u w1.heap.size (.slice au nu cu) (List.zipWith (fun u d => (⟨u.ep, u.n, u.i, u.c, d⟩ : Bf)) (runU s1 n j) D)) := fun u hu => OwnG.below hU7.row hu
           clear hO6 hw7 hcw hzk hzc hsgk hJ7 hS7 hw72 hP3 hP3q hP3z hst hinv7 hxb7 hk7 hse7 hS27 hU7 hnu hzl hcq hfq; (go_wp2_with fail); refine wp_region_noPanic ?_; refine wp_region_late_drew (S := (fun u => Below w7.heap.size w7 u)) (X := [9, 10]) (by kernel_rfl) (by with_reducible first | exact (bR _ _).drew | exact below_next hHeld hb8 | assumption) (fun hHeld => ?_); refine qA 0 102 hHeld ?_; simp only [pS]; refine qA 1 103 hHeld ?_; simp only [pS]; refine qA 2 104 hHeld ?_; simp only [pS]; refine qA 3 105 hHeld ?_; simp only [pS]; refine qL 4 106 (v := .int .u64 (sj.ep : Int)) ?_ hHeld ?_
           · (intro w hSw; have hc9 := HK7.out _ hSw; go_simp; try with_reducible rfl)
           simp only [pS]; refine qA 5 107 hHeld ?_; simp only [pS]; refine qA 6 108 hHeld ?_; simp only [pS]; refine qL 7 109 (v := .slice (some ⟨gd, 0, none⟩) m1 cd) ?_ hHeld ?_
           · (intro w hSw; have hc9 := HK7.out _ hSw; go_simp; try with_reducible rfl)
           simp only [pS]; refine run_atL (i := 8) rfl (by kernel_rfl) (by rfl) (fun K hK => ?_); simp only [gE]; go_simp
           first | (go_at_call 93; refine Calls.mono (HUN.out _ (by first | exact (bR _ _).drew | assumption)) ?_; rintro e9 w8 ⟨v8, rfl, hown8, hb8⟩; obtain ⟨g8, c8, hv8, hlt8, -⟩ := hown8.one (by rw [unF_len, ← HM1.out]; exact hm1a.1); have hrd8 : RdG KBf w8 (some ⟨g8, 0, none⟩) (unF sj.ep z m1 E) := (by have h9 := hown8; rw [hv8] at h9; exact OwnG.rd h9); rw [unF_len, ← HM1.out] at hv8; subst hv8; have HB8 : Hid (Below w7.heap.size w7 w8) := below_next (bR _ _).drew hb8) | (refine wpo_appGL (K := KBf) _ _ rfl w1.heap.size (.slice au nu cu) (List.zipWith (fun u d => (⟨u.ep, u.n, u.i, u.c, d⟩ : Bf)) (runU s1 n j) D) (unF sj.ep z m1 E) nu m1 (nu + m1) HNU.out (by rw [unF_len]; exact HM1.out) hm1a.1 rfl ⟨g8, 0, none⟩ c8 rfl (HROLD.out _ (by assumption)) rfl hrd8 (by show (nu + m1) * 104 ≤ _; omega) (by simp only [maxLen]; omega) (by have := HSZ7.out; have := HB8.out.size; omega) ?_; intro g9 c9 w9 hown9 hg9 hat9; have HO9 : Hid _ := hown9; have HG9 : Hid _ := hg9; have HT9 : Hid _ := hat9; clear hown9 hg9 hat9)
           (go_wp2_with fail); refine hK.out _ _ (by with_reducible first | exact (bR _ _).drew | exact below_next hHeld hb8 | assumption) ?_; clear hK K; clear hHeld; intro hHeld; (try simp only [pS]); refine run_atLate (i := 9) rfl (by kernel_rfl) (by decide) (by rfl) (fun K hK => ?_); simp only [gE]
           first | (go_at_call 93; refine Calls.mono (HUN.out _ (by first | exact (bR _ _).drew | assumption)) ?_; rintro e9 w8 ⟨v8, rfl, hown8, hb8⟩; obtain ⟨g8, c8, hv8, hlt8, -⟩ := hown8.one (by rw [unF_len, ← HM1.out]; exact hm1a.1); have hrd8 : RdG KBf w8 (some ⟨g8, 0, none⟩) (unF sj.ep z m1 E) := (by have h9 := hown8; rw [hv8] at h9; exact OwnG.rd h9); rw [unF_len, ← HM1.out] at hv8; subst hv8; have HB8 : Hid (Below w7.heap.size w7 w8) := below_next (bR _ _).drew hb8) | (refine wpo_appGL (K := KBf) _ _ rfl w1.heap.size (.slice au nu cu) (List.zipWith (fun u d => (⟨u.ep, u.n, u.i, u.c, d⟩ : Bf)) (runU s1 n j) D) (unF sj.ep z m1 E) nu m1 (nu + m1) HNU.out (by rw [unF_len]; exact HM1.out) hm1a.1 rfl ⟨g8, 0, none⟩ c8 rfl (HROLD.out _ (by assumption)) rfl hrd8 (by show (nu + m1) * 104 ≤ _; omega) (by simp only [maxLen]; omega) (by have := HSZ7.out; have := HB8.out.size; omega) ?_; intro g9 c9 w9 hown9 hg9 hat9; have HO9 : Hid _ := hown9; have HG9 : Hid _ := hg9; have HT9 : Hid _ := hat9; clear hown9 hg9 hat9)
           refine hK.out _ _ ?_; clear hK K; (try simp only [pS]); refine val_atLate (i := 10) 10 (v := ?_) rfl rfl (by kernel_rfl) (by decide) (by rfl) ?_ ?_; rotate_left
           · (go_simp; try with_reducible rfl)
           simp only [pS]; refine doneL (by kernel_rfl) ?_ _; refine NoPanic.normal ?_; have hB8 := HB8.out; have hO9 := HO9.out; have hG9 := HG9.out; have hxT : (begF sj z k0 xs).T.length = m1 := by show (segN xs sj.mtu (cutN xs.length sj.mtu)).length = m1; rw [HM1.out, HEL.out]
           have hus1 : 1 ≤ (begF sj z k0 xs).T.length := by rw [hxT]; exact hm1a.1
           have hue : unF sj.ep z m1 E = List.zipWith (fun u d => (⟨u.ep, u.n, u.i, u.c, d⟩ : Bf)) (usF sj.ep (begF sj z k0 xs)) E := by
            have h9 := unF_us (ep := sj.ep) (x := begF sj z k0 xs) (E := E) HEL.out hus1 rfl; rw [hxT] at h9; exact h9
           rw [hue] at hO9
           have hru : runU s1 n (j + 1) = runU s1 n j ++ usF sj.ep (begF sj z k0 xs) := by
            show runU s1 n j ++ stepU (runN s1 n j) (n + j) = _; rw [← HSJ.out, ← HZ.out, (stepF_cons (m := z) HROW0.out).2]
           have hJ8 := HJ7.out.below hB8; have hau : ∀ b, (Value.slice au nu cu).ownBlock = some b → w1.heap.size ≤ b ∧ b < wr.heap.size := fun b hb => HR.out.us.row.lt' hb
           have hfa : ∀ b, (Value.slice au nu cu).ownBlock = some b → ¬ footJ P3 b := fun b hb hf => by
            rcases HS27.out.new b hf with h9 | h9
            · exact HR.out.far b hb h9
            · have := (hau b hb).2; omega
           have hst9 : JS w9 P3 X (runN s1 n (j + 1)).d := hJ8.chg (Chg.of_grown hG9 (F := fun b => (Value.slice au nu cu).ownBlock = some b) (fun b e => e)) (fun b hb hf => hfa b hf hb); have hzl : ∀ b, P'.Z b → b < w7.heap.size := fun b hb => HJ7.out.zt.lt (by rw [HP3z.out]; exact hb)
           have hU8 : UJw w8 P'.Z w1.heap.size (.slice au nu cu) D (runU s1 n j) := HU7.out.kept (fun b hb => hB8.block b (by
             rcases hb with hb | hb
             · exact (HU7.out.row.lt' hb).2
             · exact hzl b hb))
           have hu9 : UJw w9 P3.Z w1.heap.size (.slice (some ⟨g9, 0, none⟩) (nu + m1) c9) (D ++ E) (runU s1 n (j + 1)) := by
            rw [hru, HP3z.out]; refine hU8.app (fun b hb => hG9.block b (Nat.lt_of_lt_of_le (hzl b hb) hB8.size) (fun e => hfa b e.symm (.inr (.inr (.inr (by rw [HP3z.out]; exact hb)))))) (by rw [usF_len hus1 rfl, hxT]; exact HM1.out.symm) (fun i d u h1 h2 => ?_) hO9; obtain ⟨hi, ht⟩ := usF_at hus1 rfl h2; have hiT : i < (segN xs sj.mtu (cutN xs.length sj.mtu)).length := hi; have ho := HSE7.out.ls.fml.own i d _ h1 (List.getElem?_eq_getElem hiT)
            have e9 : u.t = (segN xs sj.mtu (cutN xs.length sj.mtu))[i] := by
             rw [ht]; unfold txF; show ((segN xs sj.mtu (cutN xs.length sj.mtu))[i]?).getD [] = _; rw [List.getElem?_eq_getElem hiT]
             rfl
            have hdz : ∀ b, d.v.ownBlock = some b → P'.Z b := fun b hb => HSE7.out.z b (.inr ⟨i, d, h1, hb⟩)
            rw [e9]; exact ⟨Own.keptb ho (fun b hb => hB8.block b (hzl b (hdz b hb))), hdz⟩
           have h17 := HR.out.stp.trans HS27.out; have hstp9 : JStp w1 w9 P P3 := ⟨(h17.chg.trans (Chg.of_below hB8 (F := fun b => False)) (fun b hb => hb.elim)).trans (Chg.of_grown hG9 (F := fun b => (Value.slice au nu cu).ownBlock = some b) (fun b e => e)) (fun b hb => .inr (hau b hb).1), h17.new⟩
           have hfar9 : ∀ b, (Value.slice (some ⟨g9, 0, none⟩) (nu + m1) c9).ownBlock = some b → ¬ footJ P3 b := fun b hb hf => by
            have hb : g9 = b := Option.some.inj hb; subst hb; rcases HT9.out with h9 | h9
            · exact hfa _ h9 hf
            · have h8 := HJ7.out.lt hf; have := hB8.size; omega
           have hat9 : RunAt s1 n (j + 1) := HR.out.at_.next (by rw [← HSJ.out, ← HZ.out]; exact HMAY.out) (by rw [← HSJ.out]; exact HROW0.out) (by rw [← HSJ.out, ← HZ.out, hxT]; exact hm1a.2); have HRN : Hid (RnJ w1 w9 P X s1 n (j + 1) (.slice (some ⟨g9, 0, none⟩) (nu + m1) c9) P3 (D ++ E)) := ⟨hat9, HINV7.out, hst9, hu9, hstp9, hfar9, HP3q.out⟩
           have hj64 : j < 64 := by
            have h9 := hat9.len; have h8 := HI1.out.len; omega
           obtain ⟨j1, hj1⟩ : ∃ j1, j1 = j + 1 := ⟨_, rfl⟩; obtain ⟨z1, hz1⟩ : ∃ z1, z1 = n + j1 := ⟨_, rfl⟩; have hjw : IntKind.i64.wrap ((j : Int) + 1) = (j1 : Int) := by rw [IntKind.wrap_i64]; omega
           have hzw : IntKind.u64.wrap ((z : Int) + 1) = (z1 : Int) := by
            have := HZ.out; have := HMAY.out.2.2.2; unfold mxX at this; rw [IntKind.wrap_u64]; omega
           rw [← hj1] at HRN; have HJ1 : Hid (j1 = j + 1) := hj1; have HZ1 : Hid (z1 = n + j1) := hz1; clear hB8 hO9 hG9 hxT hus1 hue hru hJ8 hau hfa hst9 hzl hU8 hu9 h17 hstp9 hfar9 hat9 hj1 hz1 hHeld hown8 hb8 hrd8 hlt8; go_wp2; go_roundw
           case rel =>
            exact ⟨j1, P3, D ++ E, by first | rfl | rw [← HZ1.out], rfl, HRN.out⟩
           case measure => have := HJ1.out; simp [intOf]; omega
         · have hzi : ¬ (z : Int) ≤ 281474976710655 := by unfold mxX at hzz; omega
           have HD2 : Hid _ := HDONE.out (fun h9 => hzz h9.2.2.2); clear h0 hwn hzz; (go_wp2_with fail); refine wp_region_noPanic ?_; refine wp_region_held_drew (S := (fun u => Below wr.heap.size wr u)) (by kernel_rfl) (by first | exact (bR _ _).drew | assumption) (fun hHeld => ?_); refine tz 0 40 hHeld ?_; simp only [pS]; refine tz 1 41 hHeld ?_; simp only [pS]; refine tz 2 42 hHeld ?_; simp only [pS]; refine tk 3 43 (v := .slice ra nr rc) ?_ hHeld ?_
           · (intro w hSw; have hc9 := hcl _ hSw; go_simp; try with_reducible rfl)
           simp only [pS]; refine tz 4 44 hHeld ?_; simp only [pS]; refine tk 5 45 (v := .bool true) ?_ hHeld ?_
           · (intro w hSw; go_simp; try omega)
           simp only [pS]; refine tz 6 46 hHeld ?_; simp only [pS]; refine tz 7 47 hHeld ?_; simp only [pS]; refine tz 8 48 hHeld ?_; simp only [pS]; refine tz 9 49 hHeld ?_; simp only [pS]; refine tk 10 50 (v := .slice l2 nl c2) ?_ hHeld ?_
           · (intro w hSw; have hc9 := hcl _ hSw; go_simp; try with_reducible rfl)
           simp only [pS]; refine tz 11 51 hHeld ?_; simp only [pS]; refine tz 12 52 hHeld ?_; simp only [pS]; refine tz 13 53 hHeld ?_; simp only [pS]; refine tz 14 54 hHeld ?_; simp only [pS]; refine tz 15 55 hHeld ?_; simp only [pS]; refine tk 16 56 (v := .int .i64 (sj.win : Int)) ?_ hHeld ?_
           · (intro w hSw; have hc9 := hcl _ hSw; go_simp; try with_reducible rfl)
           simp only [pS]; refine tk 17 57 (v := .bool true) ?_ hHeld ?_
           · (intro w hSw; go_simp; try omega)
           simp only [pS]; refine tz 18 58 hHeld ?_; simp only [pS]; refine tz 19 59 hHeld ?_; simp only [pS]; refine tz 20 60 hHeld ?_; simp only [pS]; refine tk 21 61 (v := .bool false) ?_ hHeld ?_
           · (intro w hSw; go_simp; try omega)
           simp only [pS]; refine tz 22 62 hHeld ?_; simp only [pS]; refine wpAnyH_done (by kernel_rfl) ?_ _; refine NoPanic.normal ?_; clear hHeld hclr hcl; have HD3 : Hid (∃ v P' D, RunJ w wr.drew P X s1 n j v P' D ∧ v = u10) := ⟨u10, P', D, ⟨HD2.out.is_, HD2.out.st.below (bR _ _).drew, HD2.out.us.kept (fun b _ => rfl), HD2.out.stp.trans (JStp.below (bR _ _).drew _), HD2.out.far, HD2.out.q⟩, rfl⟩; go_wp2; go_ret2; obtain ⟨v9, P9, D9, hr9, rfl⟩ := HD3.out; exact ⟨j, _, P9, D9, rfl, hr9⟩
       · have hwi : ¬ (nl : Int) < (sj.win : Int) := by omega
         have HD2 : Hid _ := HDONE.out (fun h9 => hwn (by rw [HNL.out]; exact h9.2.1)); clear h0 hwn; (go_wp2_with fail); refine wp_region_noPanic ?_; refine wp_region_held_drew (S := (fun u => Below wr.heap.size wr u)) (by kernel_rfl) (by first | exact (bR _ _).drew | assumption) (fun hHeld => ?_); refine tz 0 40 hHeld ?_; simp only [pS]; refine tz 1 41 hHeld ?_; simp only [pS]; refine tz 2 42 hHeld ?_; simp only [pS]; refine tk 3 43 (v := .slice ra nr rc) ?_ hHeld ?_
         · (intro w hSw; have hc9 := hcl _ hSw; go_simp; try with_reducible rfl)
         simp only [pS]; refine tz 4 44 hHeld ?_; simp only [pS]; refine tk 5 45 (v := .bool true) ?_ hHeld ?_
         · (intro w hSw; go_simp; try omega)
         simp only [pS]; refine tz 6 46 hHeld ?_; simp only [pS]; refine tz 7 47 hHeld ?_; simp only [pS]; refine tz 8 48 hHeld ?_; simp only [pS]; refine tz 9 49 hHeld ?_; simp only [pS]; refine tk 10 50 (v := .slice l2 nl c2) ?_ hHeld ?_
         · (intro w hSw; have hc9 := hcl _ hSw; go_simp; try with_reducible rfl)
         simp only [pS]; refine tz 11 51 hHeld ?_; simp only [pS]; refine tz 12 52 hHeld ?_; simp only [pS]; refine tz 13 53 hHeld ?_; simp only [pS]; refine tz 14 54 hHeld ?_; simp only [pS]; refine tz 15 55 hHeld ?_; simp only [pS]; refine tk 16 56 (v := .int .i64 (sj.win : Int)) ?_ hHeld ?_
         · (intro w hSw; have hc9 := hcl _ hSw; go_simp; try with_reducible rfl)
         simp only [pS]; refine tk 17 57 (v := .bool false) ?_ hHeld ?_
         · (intro w hSw; go_simp; try omega)
         simp only [pS]; refine tz 18 58 hHeld ?_; simp only [pS]; refine tz 19 59 hHeld ?_; simp only [pS]; refine qS 20 60 hHeld ?_; simp only [pS]; refine qS 21 61 hHeld ?_; simp only [pS]; refine tz 22 62 hHeld ?_; simp only [pS]; refine wpAnyH_done (by kernel_rfl) ?_ _; refine NoPanic.normal ?_; clear hHeld hclr hcl; have HD3 : Hid (∃ v P' D, RunJ w wr.drew P X s1 n j v P' D ∧ v = u10) := ⟨u10, P', D, ⟨HD2.out.is_, HD2.out.st.below (bR _ _).drew, HD2.out.us.kept (fun b _ => rfl), HD2.out.stp.trans (JStp.below (bR _ _).drew _), HD2.out.far, HD2.out.q⟩, rfl⟩; go_wp2; go_ret2; obtain ⟨v9, P9, D9, hr9, rfl⟩ := HD3.out; exact ⟨j, _, P9, D9, rfl, hr9⟩
     · have h0i : ¬ (0 : Int) < (nr : Int) := by omega
       have HD2 : Hid _ := HDONE.out (fun h9 => h0 (by rw [HNR.out]; exact h9.1)); clear h0; (go_wp2_with fail); refine wp_region_noPanic ?_; refine wp_region_held_drew (S := (fun u => Below wr.heap.size wr u)) (by kernel_rfl) (by first | exact (bR _ _).drew | assumption) (fun hHeld => ?_); refine tz 0 40 hHeld ?_; simp only [pS]; refine tz 1 41 hHeld ?_; simp only [pS]; refine tz 2 42 hHeld ?_; simp only [pS]; refine tk 3 43 (v := .slice ra nr rc) ?_ hHeld ?_
       · (intro w hSw; have hc9 := hcl _ hSw; go_simp; try with_reducible rfl)
       simp only [pS]; refine tz 4 44 hHeld ?_; simp only [pS]; refine tk 5 45 (v := .bool false) ?_ hHeld ?_
       · (intro w hSw; go_simp; try omega)
       simp only [pS]; refine tz 6 46 hHeld ?_; simp only [pS]; refine qS 7 47 hHeld ?_; simp only [pS]; refine qS 8 48 hHeld ?_; simp only [pS]; refine qS 9 49 hHeld ?_; simp only [pS]; refine qS 10 50 hHeld ?_; simp only [pS]; refine qS 11 51 hHeld ?_; simp only [pS]; refine qS 12 52 hHeld ?_; simp only [pS]; refine qS 13 53 hHeld ?_; simp only [pS]; refine qS 14 54 hHeld ?_; simp only [pS]; refine qS 15 55 hHeld ?_; simp only [pS]; refine qS 16 56 hHeld ?_; simp only [pS]; refine qS 17 57 hHeld ?_; simp only [pS]; refine tz 18 58 hHeld ?_; simp only [pS]; refine tz 19 59 hHeld ?_; simp only [pS]; refine qS 20 60 hHeld ?_; simp only [pS]; refine qS 21 61 hHeld ?_; simp only [pS]; refine tz 22 62 hHeld ?_; simp only [pS]; refine wpAnyH_done (by kernel_rfl) ?_ _; refine NoPanic.normal ?_; clear hHeld hclr hcl; have HD3 : Hid (∃ v P' D, RunJ w wr.drew P X s1 n j v P' D ∧ v = u10) := ⟨u10, P', D, ⟨HD2.out.is_, HD2.out.st.below (bR _ _).drew, HD2.out.us.kept (fun b _ => rfl), HD2.out.stp.trans (JStp.below (bR _ _).drew _), HD2.out.far, HD2.out.q⟩, rfl⟩; go_wp2; go_ret2; obtain ⟨v9, P9, D9, hr9, rfl⟩ := HD3.out; exact ⟨j, _, P9, D9, rfl, hr9⟩
end
end Go.Proofs.YtpakkpahcpgnnaaGreatDoor
