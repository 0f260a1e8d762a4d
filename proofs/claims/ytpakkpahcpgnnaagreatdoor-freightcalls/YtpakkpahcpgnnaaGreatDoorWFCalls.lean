import Derived.Test.YtpakkpahcpgnnaaGreatDoorKGh
set_option linter.unusedVariables false
set_option linter.unusedSimpArgs false
namespace Go.Proofs.YtpakkpahcpgnnaaGreatDoor
open Go.RowKit Go.Maps
section
variable {w w' : World} {H : Nat → Prop} {P P' : Fp} {J J' : Jp} {X : Value × Value} {s s' : Fs} {W W' : List Wh.Tm}
theorem fstep_t (h : Exf w H P J X s W s.d) (hok : Fok s W) (hS : s.S + 64 < 18446744073709551615) (y : Of) (ok : ∀ u, Chg (fun b => ¬ H b) w u → OfOk u y) :
 Calls Tryz.prog 21 #[.pointer (some ⟨P.p, 0, none⟩), .pointer (some ⟨J.q, 0, none⟩), .agg y.c] w fun e w' => e = .returned (.bool true) ∧ ∃ P' J' s' W', FOut w w' H P P' J J' X s s' W' := by
 by_cases k1 : (y.kd == 1) = true
 · exact fstep_queue h hok hS y k1 ok
 · have k1 : (y.kd == 1) = false := by simpa using k1
   by_cases k2 : (y.kd == 2) = true
   · exact fstep_run h hok hS y k1 k2 ok
   · have k2 : (y.kd == 2) = false := by simpa using k2
     by_cases k3 : (y.kd == 3) = true
     · exact fstep_hear h hok hS y k1 k2 k3 ok
     · have k3 : (y.kd == 3) = false := by simpa using k3
       by_cases k4 : (y.kd == 4) = true
       · exact fstep_tick h hok hS y k1 k2 k3 k4 ok
       · have k4 : (y.kd == 4) = false := by simpa using k4
         by_cases k5 : (y.kd == 5) = true
         · exact fstep_stop h hok hS y k1 k2 k3 k4 k5 ok
         · have k5 : (y.kd == 5) = false := by simpa using k5
           exact fstep_no h hok hS y k1 k2 k3 k4 k5 ok
set_option maxRecDepth 20000
set_option maxHeartbeats 6400000
theorem ftells_t (h : Exf w H P J X s W s.d) (hok : Fok s W) : Calls Tryz.prog 22 #[.pointer (some ⟨P.p, 0, none⟩), .pointer (some ⟨J.q, 0, none⟩)] w fun e w' => e = .returned (.bool true) ∧ Below w.heap.size w w' := by
 have hi := h.a.inv; have hd := hok.dinv hi; obtain ⟨n, hn⟩ : ∃ n, n = (s.row.map Prod.fst).length := ⟨_, rfl⟩; obtain ⟨m, hm⟩ : ∃ m, m = (s.L.map Fe.k).length := ⟨_, rfl⟩; have hn64 : n ≤ 64 := by rw [hn, List.length_map]; have := hi.len; omega
 have hm64 : m ≤ 64 := by rw [hm, List.length_map]; have := hi.len; omega
 have HH : Hid _ := h; have HD : Hid _ := hd; have HN : Hid _ := hn; have HM : Hid _ := hm; clear h hok hi hd hn hm; go_enter Tryz.func22, Tryz.ntmps22
 go_wp2_with (go_at_call 12; refine Calls.mono (fwaiting_t HH.out.a) ?_; rintro e9 w1 ⟨va, rfl, hown, hb1⟩; obtain ⟨aa, ca, hva, -, -, -, -⟩ := hown.val; rw [← HN.out] at hva; subst hva; have HA : Hid _ := hown; have HB1 : Hid _ := hb1; clear hown hb1)
 have HH1 : Hid _ := HH.out.below HB1.out; go_wp2_with (go_at_call 59; refine Calls.mono (jwaiting_t HH1.out.b HD.out) ?_; rintro e9 w2 ⟨vb, rfl, hownb, hb2⟩; have hownb : OwnG KKy w2 w1.heap.size vb (s.row.map Prod.fst) := hownb; obtain ⟨ab, cb, hvb, -, -, -, -⟩ := hownb.val; rw [← HN.out] at hvb; subst hvb; have HB : Hid _ := hownb; have HB2 : Hid _ := hb2; clear hownb hb2)
 have HS1 : Hid (Calls Tryz.prog 17 #[.slice aa n ca, .slice ab n cb] w2 fun e w' => e = .returned (.bool true) ∧ Below w2.heap.size w2 w') := sameKeys_of HN.out hn64 (OwnG.below HA.out HB2.out) HB.out; have HH2 : Hid _ := HH1.out.below HB2.out
 go_wp2_with (first
   | (go_at_call 17; refine Calls.mono HS1.out ?_; rintro e1 w3 ⟨rfl, hb3⟩; have HB3 : Hid _ := hb3; clear hb3)
   | (go_at_call 15; have hh3 := HH2.out.below HB3.out; have HH3 : Hid _ := hh3; refine Calls.mono (fbusy_t hh3.a) ?_; clear hh3; rintro e9 w4 ⟨vc, rfl, hownc, hb4⟩; obtain ⟨ac, cc, hvc, -, -, -, -⟩ := hownc.val; rw [← HM.out] at hvc; subst hvc; have HC : Hid _ := hownc; have HB4 : Hid _ := hb4; clear hownc hb4)
   | (go_at_call 60; have hh4 := HH3.out.below HB4.out; refine Calls.mono (jbusy_t hh4.b HD.out) ?_; clear hh4; rintro e9 w5 ⟨vd, rfl, hownd, hb5⟩; rw [Fs.dK] at hownd; obtain ⟨ad, cd, hvd, -, -, -, -⟩ := hownd.val; rw [← HM.out] at hvd; subst hvd; have HS2 : Hid (Calls Tryz.prog 17 #[.slice ac m cc, .slice ad m cd] w5 fun e w' => e = .returned (.bool true) ∧ Below w5.heap.size w5 w') := sameKeys_of HM.out hm64 (OwnG.below HC.out hb5) hownd; have HB5 : Hid _ := hb5; clear hownd hb5 HS1)
   | (go_at_call 17; refine Calls.mono HS2.out ?_; rintro e1 w6 ⟨rfl, hb6⟩; have HB6 : Hid _ := hb6; clear hb6))
 go_ret; exact ⟨rfl, below_next (below_next (below_next (below_next (below_next HB1.out HB2.out) HB3.out) HB4.out) HB5.out) HB6.out⟩
def RdOf (w : World) (a : Option Addr) (xs : List Of) : Prop := ∀ j (hj : j < xs.length), ∃ b o, a = some ⟨b, o, none⟩ ∧ OfOk w xs[j] ∧ w.rangeAt b (o + j * 15) xs[j].c.toList
theorem belowF_of_chg {w u u' : World} (hb : Below w.heap.size w u) (hc : Chg (fun b => ¬ b < w.heap.size) u u') : Below w.heap.size w u' :=
 ⟨hc.os.trans hb.os, hc.tape.trans hb.tape, hc.output.trans hb.output, Nat.le_trans hb.size hc.size, fun k hk => (hc.block k (Nat.lt_of_lt_of_le hk hb.size) (fun h => h hk)).trans (hb.block k hk)⟩
theorem Exf.fresh2 {w0 : World} {t : Dd} (ha : FSw w P s W) (hb : JS w J X t) (h0 : 0 < w0.heap.size) (hl : w0.heap.size ≤ w.heap.size) (h1 : ∀ b, footF P b → w0.heap.size ≤ b ∧ ¬ footJ J b) (h2 : ∀ b, footJ J b → w0.heap.size ≤ b) (tz : Wh.TabZ w) : Exf w (fun b => b < w0.heap.size) P J X s W t :=
 ⟨ha, hb, fun b hb => (h1 b hb).2, fun b hb => ⟨Nat.lt_of_lt_of_le hb hl, fun h => by have := (h1 b h).1; omega, fun h => by have := h2 b h; omega⟩, tz, h0⟩
theorem infoOf : (Tryz.prog.info? tOf).map (·.size) = some 15 := by kernel_rfl
theorem info_cff : (Tryz.prog.info? 25).map (·.size) = some 6 := by kernel_rfl
theorem tabF_pos {w : World} (h : Wh.TabZ w) : 0 < w.heap.size := World.block_lt_of_cell? w _ (h 0 (by decide))
theorem newF_ok (m r t v ep now : Nat) : Fok (newF m r t v ep now) [] := ⟨⟨List.Perm.refl _, (fun x hx => by cases hx), (fun x hx => by cases hx)⟩, (fun x hx => by cases hx)⟩
end
open Go.RowKit Go.Maps
set_option maxRecDepth 20000 in
set_option maxHeartbeats 6400000 in
theorem freightCalls_walk (m : Int) (a r : Nat) (t vw i : Int) (ep now : Nat) (ao : Option Addr) (len cap : Nat) (xs : List Of) (w : World) (hep : ep < 18446744073709551616) (hnow : now < 18446744073709551616) (hx : len = xs.length) (hr : RdOf w ao xs) (hl : len ≤ 4398046511103) (ht : Wh.TabZ w) :
 Calls Tryz.prog 5 #[cfgv m a r t vw i, .int .u64 (ep : Int), .int .u64 (now : Int), .slice ao len cap] w fun e w' => e = .returned (.bool true) ∧ Below w.heap.size w w' := by
 subst hx; obtain ⟨w1, hw1⟩ : ∃ w1, w1 = w.alloc (.cells #[.int .i64 m, .int .u64 (a : Int), .int .u64 (r : Int), .int .i64 t, .int .i64 vw, .int .i64 i] 25) := ⟨_, rfl⟩; have hb1 : Below w.heap.size w w1 := by rw [hw1]; exact alw (bR _ _) _
 have hbox : w1.heap[w.heap.size]? = some (.cells #[.int .i64 m, .int .u64 (a : Int), .int .u64 (r : Int), .int .i64 t, .int .i64 vw, .int .i64 i] 25 (0, 0)) := by rw [hw1]; exact heap_alloc_new w _
 have HB1 : Hid _ := hb1; have HW1 : Hid (w1 = _) := hw1; have HBOX : Hid _ := hbox; have HR : Hid _ := hr; have HT : Hid (Wh.TabZ w) := ht; have HPOS : Hid _ := tabF_pos ht; have hcg : (w.alloc (.cells #[.int .i64 m, .int .u64 (a : Int), .int .u64 (r : Int), .int .i64 t, .int .i64 vw, .int .i64 i] 25)).heap[w.heap.size]? = some (.cells #[.int .i64 m, .int .u64 (a : Int), .int .u64 (r : Int), .int .i64 t, .int .i64 vw, .int .i64 i] 25 (0, 0)) := heap_alloc_new w _
 by_cases hc : CfgOk m a r t vw i ∧ 1 ≤ ep ∧ ep ≤ mxX
 · obtain ⟨M, rfl⟩ : ∃ M : Nat, m = (M : Int) := ⟨m.toNat, by have := hc.1.1; omega⟩; obtain ⟨T, rfl⟩ : ∃ T : Nat, t = (T : Int) := ⟨t.toNat, by have := hc.1.2.2.2.2.2.2.1; omega⟩; obtain ⟨V, rfl⟩ : ∃ V : Nat, vw = (V : Int) := ⟨vw.toNat, by have := hc.1.2.2.2.2.2.2.2.2.1; omega⟩; have HN : Hid _ := fnew_t (w := w1) M a r T V i ep now (Nat.lt_of_lt_of_le (tabF_pos ht) hb1.size) hc.1 hc.2; have HM : Hid (∀ u : World, Calls _ _ _ u _) := fun u => jnew_t (w := u) M a r T V i ep now hc.1 hc.2
   clear hr ht hc hw1 hb1 hbox; go_enter Tryz.func5, Tryz.ntmps5
   go_wp2_with (first
     | (refine wpList_load_g (by rfl) 25 _ rfl w.heap.size 0 (by rfl) [.int .i64 (M : Int), .int .u64 (a : Int), .int .u64 (r : Int), .int .i64 (T : Int), .int .i64 (V : Int), .int .i64 i] _ (box_range hcg) Tryz.underlying25 rfl info_cff ?_))
   rw [← HW1.out]; clear hcg; refine Calls.mono HN.out ?_; rintro e9 w2 ⟨P0, rfl, hst, hb2, hf2⟩; have hbx2 := (hb2.block _ (sI HBOX.out).1).trans HBOX.out; have HB2 : Hid (Below w1.heap.size w1 w2) := hb2; have HX2 : Hid _ := hst; have HF2 : Hid _ := hf2; clear hb2 hst hf2
   go_wp2_with (first
     | (refine wpList_load_g (by rfl) 25 _ rfl w.heap.size 0 (by rfl) [.int .i64 (M : Int), .int .u64 (a : Int), .int .u64 (r : Int), .int .i64 (T : Int), .int .i64 (V : Int), .int .i64 i] _ (box_range hbx2) Tryz.underlying25 rfl info_cff ?_))
   clear hbx2; refine Calls.mono (HM.out w2) ?_; rintro e9 w3 ⟨q, rfl, hrx, hb3, hq3⟩; have hBW : Below w.heap.size w w3 := HB1.out.trans ((below_next HB2.out hb3).mono HB1.out.size); obtain ⟨J0, hJ0⟩ : ∃ J0 : Jp, J0 = ⟨q, .slice none 0 0, .slice none 0 0, [], [], fun _ => False⟩ := ⟨_, rfl⟩; have HJ0 : Hid (J0.q = q) := by unfold Hid; rw [hJ0]
   have hfJ : ∀ b, footJ J0 b → b = q := fun b hb => by
    rw [hJ0] at hb; rcases hb with hb | hb | hb | hb
    · exact hb
    · cases hb
    · cases hb
    · exact hb.elim
   rw [← hJ0] at hrx
   have HE3 : Hid (Exf w3 (fun b => b < w.heap.size) P0 J0 (.int .u64 (a : Int), .int .i64 i) (newF M r T V ep now) [] (newF M r T V ep now).d) := Exf.fresh2 (HX2.out.below hb3) hrx HPOS.out hBW.size (fun b hb => ⟨Nat.le_trans HB1.out.size (HF2.out b hb), fun hf => by
       have h1 := HX2.out.lt hb; have := hfJ b hf
       omega⟩) (fun b hb => by have := hfJ b hb; have := HB2.out.size; have := HB1.out.size; omega) (Wh.TabZ.below HT.out hBW)
   have HB3 : Hid _ := hBW; clear hrx hb3 hq3 hBW hJ0 hfJ; go_wp2; go_loopw [13] (fun j wr => ∃ (k : Nat) (P : Fp) (J : Jp) (s : Fs) (W : List Wh.Tm), k ≤ xs.length ∧ j = .int .i64 k ∧ s.S ≤ 64 * k ∧ Fok s W ∧ Exf wr (fun b => b < w.heap.size) P J (.int .u64 (a : Int), .int .i64 i) s W s.d ∧ Below w.heap.size w wr ∧ P.p = P0.p ∧ J.q = q) (fun j _ => xs.length - (intOf j).toNat)
   case atStart => exact ⟨0, P0, J0, newF M r T V ep now, [], Nat.zero_le _, rfl, Nat.le_refl _, newF_ok _ _ _ _ _ _, HE3.out, HB3.out, rfl, HJ0.out⟩
   case round =>
    obtain ⟨k, P, J, s, W, hk, rfl, hsb, hok, hE, hB, hpp, hqq⟩ := hrel; have HEr : Hid _ := hE; have HBr : Hid _ := hB; have HSB : Hid _ := hsb; have HFK : Hid _ := hok; have HPP : Hid _ := hpp; have HQQ : Hid _ := hqq; clear hE hB hsb hok hpp hqq
    by_cases hlt : k < xs.length
    · obtain ⟨b, o, rfl, hof, hrg⟩ := HR.out k hlt; obtain ⟨y, hy⟩ : ∃ y, y = xs[k] := ⟨_, rfl⟩; rw [← hy] at hof hrg; have HOK : Hid _ := hof; have hk0 : (0 : Int) ≤ (k : Int) := by omega
      have hkI : (k : Int) < (xs.length : Int) := by omega
      have hLD := rangeAt_below hrg HBr.out; have HST : Hid _ := fstep_t HEr.out HFK.out (by have := HSB.out; omega) y (fun u hu => HOK.out.below (belowF_of_chg HBr.out hu)); rw [HPP.out, HQQ.out] at HST; clear hy hof hrg
      go_wp2_with (first
        | (refine wpList_load_g (by rfl) tOf _ rfl b (o + k * 15) (by rfl) y.c.toList _ hLD Tryz.underlying69 rfl infoOf ?_)
        | (go_at_call 21; refine Calls.mono HST.out ?_; rintro e9 w4 ⟨rfl, P2, J2, s2, W2, ho⟩; have HO : Hid _ := ho; have HB4 : Hid (Below w.heap.size w w4) := belowF_of_chg HBr.out ho.chg; have HTL : Hid _ := ftells_t ho.st ho.ok; rw [ho.p, ho.q, HPP.out, HQQ.out] at HTL; clear ho hLD)
        | (go_at_call 22; refine Calls.mono HTL.out ?_; rintro e9 w7 ⟨rfl, hb7⟩; have HB7 : Hid _ := hb7; clear hb7))
      go_roundw
      case rel => exact ⟨k + 1, P2, J2, s2, W2, by omega, by go_num, by have := HSB.out; have := HO.out.S; omega, HO.out.ok, HO.out.st.below HB7.out, HB4.out.trans (HB7.out.mono HB4.out.size), HO.out.p.trans HPP.out, HO.out.q.trans HQQ.out⟩
      case measure => simp [intOf]; omega
    · obtain rfl : k = xs.length := by omega
      go_wp2; go_ret; exact ⟨rfl, HBr.out⟩
 · have HN : Hid _ := fnew_no (w := w1) m a r t vw i ep now hc; have HM : Hid (∀ u : World, Calls _ _ _ u _) := fun u => jnew_no (w := u) m a r t vw i ep now hc
   clear hr ht hc hw1 hb1 hbox; go_enter Tryz.func5, Tryz.ntmps5
   go_wp2_with (first
     | (refine wpList_load_g (by rfl) 25 _ rfl w.heap.size 0 (by rfl) [.int .i64 m, .int .u64 (a : Int), .int .u64 (r : Int), .int .i64 t, .int .i64 vw, .int .i64 i] _ (box_range hcg) Tryz.underlying25 rfl info_cff ?_))
   rw [← HW1.out]; clear hcg; refine Calls.mono HN.out ?_; rintro e9 w2 ⟨rfl, hb2⟩; have hbx2 := (hb2.block _ (sI HBOX.out).1).trans HBOX.out; have HB2 : Hid (Below w1.heap.size w1 w2) := hb2; clear hb2
   go_wp2_with (first
     | (refine wpList_load_g (by rfl) 25 _ rfl w.heap.size 0 (by rfl) [.int .i64 m, .int .u64 (a : Int), .int .u64 (r : Int), .int .i64 t, .int .i64 vw, .int .i64 i] _ (box_range hbx2) Tryz.underlying25 rfl info_cff ?_))
   clear hbx2; refine Calls.mono (HM.out w2) ?_; rintro e9 w3 ⟨rfl, hb3⟩; have HB3 : Hid (Below w.heap.size w w3) := HB1.out.trans ((below_next HB2.out hb3).mono HB1.out.size); clear hb3; go_wp2; go_ret; exact ⟨rfl, HB3.out⟩
end Go.Proofs.YtpakkpahcpgnnaaGreatDoor
