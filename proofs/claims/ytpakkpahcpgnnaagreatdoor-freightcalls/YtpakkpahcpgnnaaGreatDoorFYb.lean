import Derived.Test.YtpakkpahcpgnnaaGreatDoorFS
import Derived.Test.YtpakkpahcpgnnaaGreatDoorRL
set_option linter.unusedVariables false
set_option linter.unusedSimpArgs false
namespace Go.Proofs.YtpakkpahcpgnnaaGreatDoor
open Go.RowKit Go.Maps
section
variable {w w' : World} {P : Fp} {s : Fs} {W W' : List Wh.Tm}
set_option maxRecDepth 20000 in
set_option maxHeartbeats 6400000 in
theorem fhear_told (h : FSw w P s W) {i : Nat} {x : Fe} {m : Fm} (hxi : s.L[i]? = some x) (hmi : P.M[i]? = some m) (pt ix c : Int) (da : Option Addr) (dn dc : Nat) (ga : Option Addr) (gn gc : Nat) (l : List Rg) (hn : gn = l.length) (hx : RdR w ga l) (hl : gn ≤ 8796093022208) (hc : gn ≤ gc) (hg0 : ga = none → gc = 0) (hlt : x.told.length + gn ≤ 1000000) (hv : validR 2 (s.ep : Int) (x.n : Int) pt ix c dn 0 gn l) :
 Calls Tryz.prog 19 #[.pointer (some ⟨P.p, 0, none⟩), .agg (ucl 2 (s.ep : Int) (x.n : Int) pt ix c da dn dc 0 ga gn gc)] w fun e9 w' => e9 = .returned (.tuple #[doneV 0 0 0, .bool false]) ∧ ∃ (out : List Rg) (m' : Fm), (Lst out ∧ (∀ j, hasR out j ↔ hasR (x.told ++ l) j) ∧ out.length ≤ (x.told ++ l).length) ∧ m'.g = m.g ∧ FSw w' { P with M := P.M.set i m' } { s with L := s.L.set i { x with told := out } } W ∧ FStp w w' P { P with M := P.M.set i m' } := by
 obtain ⟨w1, hw1⟩ : ∃ w1, w1 = (w.alloc (.cells (ucl 2 (s.ep : Int) (x.n : Int) pt ix c da dn dc 0 ga gn gc) tUn)).alloc (.cells #[.int .i64 0, .int .u64 0, .int .i64 0] tDo) := ⟨_, rfl⟩; obtain ⟨hb1, hsz1, hu1, hd1⟩ := hboxes w _ w1 hw1; have HM : Hid (∀ u, Below w1.heap.size w1 u → Calls _ _ _ u _) := fun u hu => fmade_t ((h.below hb1).below hu)
 have hsh : ∀ u, Below w1.heap.size w1 u → u.cell? ⟨w.heap.size, 0, none⟩ = some (.int .i64 2) ∧ u.cell? ⟨w.heap.size, 1, none⟩ = some (.int .u64 (s.ep : Int)) ∧ u.cell? ⟨w.heap.size, 2, none⟩ = some (.int .u64 (x.n : Int)) ∧ u.cell? ⟨w.heap.size, 3, none⟩ = some (.int .i64 pt) ∧ u.cell? ⟨w.heap.size, 4, none⟩ = some (.int .i64 ix) ∧ u.cell? ⟨w.heap.size, 5, none⟩ = some (.int .i64 c) ∧ u.cell? ⟨w.heap.size, 6, none⟩ = some (.slice da dn dc) ∧ u.cell? ⟨w.heap.size, 7, none⟩ = some (.int .i64 0) ∧ u.cell? ⟨w.heap.size, 8, none⟩ = some (.slice ga gn gc) ∧ u.cell? ⟨P.p, 4, none⟩ = some (.int .u64 (s.ep : Int)) ∧ u.cell? ⟨P.p, 7, none⟩ = some (.map (some P.ms)) := fun u hu => by
  have h9 := (hu.block _ (sI hu1).1).trans hu1; have h8 := (h.below hb1).below hu; refine ⟨?_, ?_, ?_, ?_, ?_, ?_, ?_, ?_, ?_, ?_, ?_⟩
  all_goals first | (rw [cR h9]; rfl) | exact h8.cell 4 | exact h8.cell 7
 have HV : Hid (∀ u, Below w1.heap.size w1 u → Calls Tryz.prog 49 #[.agg (ucl 2 (s.ep : Int) (x.n : Int) pt ix c da dn dc 0 ga gn gc)] u fun e w' => e = .returned (.int .i64 0) ∧ Below u.heap.size u w') := fun u hu => by
  have h9 := valid_t 2 (s.ep : Int) (x.n : Int) pt ix c da dn dc 0 ga gn gc l true (by simp; exact hv) u hn (hx.below (hb1.trans (hu.mono hb1.size))) hl hc
  simpa using h9
 have hlk : ∀ u, Below w1.heap.size w1 u → (Instr.lookup tMp (.map (some P.ms)) (.int .u64 (x.n : Int)) true).run Tryz.prog u = .ok (.tuple #[.pointer (some ⟨m.g, 0, none⟩), .bool true]) u := fun u hu => lookF_in (h.below hb1) hxi hmi u (hu.block P.ms (h.below hb1).mp.lt)
 obtain ⟨ta, tc, htv, -, -, hta0, -, -⟩ := (h.se i x m hxi hmi).tol.val
 have HUN : Hid (∀ u, Below w1.heap.size w1 u → Calls Tryz.prog 48 #[.slice ta x.told.length tc, .slice ga gn gc] u fun e w' => LeastOut (x.told ++ l) u e w') := fun u hu => by
  obtain ⟨a9, c9, e9, -, -, -, hr9, -⟩ := (((h.below hb1).below hu).se i x m hxi hmi).tol.val; rw [htv] at e9
  injection e9 with e91 e92 e93
  subst e91; exact union_t ta ga x.told.length gn tc gc x.told l u rfl hn hr9 (hx.below (hb1.trans (hu.mono hb1.size))) (by omega) hta0 hg0
 have hm3 : ∀ u, Below w1.heap.size w1 u → u.cell? ⟨m.g, 3, none⟩ = some (.slice ta x.told.length tc) := fun u hu => by
  rw [cR (((h.below hb1).below hu).se i x m hxi hmi).box, ← htv]; rfl
 have HM3 : Hid _ := hm3; clear hm3; have HMI : Hid (s.L[i]? = some x ∧ P.M[i]? = some m) := ⟨hxi, hmi⟩; have HU1 : Hid _ := hu1; have HSZ1 : Hid _ := hsz1; have HB1 : Hid _ := hb1; have HD1 : Hid _ := hd1; have HX0 : Hid _ := h; have HW1 : Hid (w1 = _) := hw1; have HX : Hid (∀ u, Below w1.heap.size w1 u → Below w.heap.size w u) := fun u hu => hb1.trans (hu.mono hb1.size)
 clear h hb1 hw1 hd1 hu1 hsz1 hn hx hl hc hv hxi hmi hlt hg0 hta0 htv; go_enter Tryz.func19, Tryz.ntmps19
 (go_wp2_with fail); rw [← HW1.out]; refine wp_region_noPanic ?_; refine wp_region_held_drew (S := (fun u => Below w1.heap.size w1 u)) (by kernel_rfl) (by first | exact (bR _ _).drew | assumption | exact below_next (by assumption) (by assumption)) (fun hHeld => ?_); refine tz 0 8 hHeld ?_; simp only [pS]; refine run_at (i := 1) rfl (by kernel_rfl) (by rfl) (fun K hK => ?_); simp only [gE]; go_simp
 (first | (go_at_call 34; refine Calls.mono (HM.out _ (by assumption)) ?_; rintro e9 u4 ⟨rfl, hu4⟩; subst hu4) | (go_at_call 49; refine Calls.mono (HV.out _ (by assumption)) ?_; rintro e9 u5 ⟨rfl, hu5⟩))
 (go_wp2_with fail); refine hK.out _ _ (by first | exact (bR _ _).drew | assumption | exact below_next (by assumption) (by assumption)) ?_; clear hK K; clear hHeld; intro hHeld; (try simp only [pS]); refine tz 2 10 hHeld ?_; simp only [pS]; refine tz 3 11 hHeld ?_; simp only [pS]; refine tz 4 12 hHeld ?_; simp only [pS]; refine tz 5 13 hHeld ?_; simp only [pS]; refine tz 6 14 hHeld ?_; simp only [pS]; refine tz 7 15 hHeld ?_; simp only [pS]; refine tz 8 16 hHeld ?_; simp only [pS]; refine tz 9 17 hHeld ?_; simp only [pS]; refine run_at (i := 10) rfl (by kernel_rfl) (by rfl) (fun K hK => ?_); simp only [gE]; go_simp
 (first | (go_at_call 34; refine Calls.mono (HM.out _ (by assumption)) ?_; rintro e9 u4 ⟨rfl, hu4⟩; subst hu4) | (go_at_call 49; refine Calls.mono (HV.out _ (by assumption)) ?_; rintro e9 u5 ⟨rfl, hu5⟩))
 (go_wp2_with fail); refine hK.out _ _ (by first | exact (bR _ _).drew | assumption | exact below_next (by assumption) (by assumption)) ?_; clear hK K; clear hHeld; intro hHeld; (try simp only [pS]); refine tz 11 19 hHeld ?_; simp only [pS]; refine tz 12 20 hHeld ?_; simp only [pS]; refine tz 13 21 hHeld ?_; simp only [pS]; refine tz 14 22 hHeld ?_; simp only [pS]; refine tz 15 23 hHeld ?_; simp only [pS]; refine tz 16 24 hHeld ?_; simp only [pS]; refine tz 17 25 hHeld ?_; simp only [pS]; refine tz 18 26 hHeld ?_; simp only [pS]; refine tz 19 27 hHeld ?_; simp only [pS]; refine tz 20 28 hHeld ?_; simp only [pS]; refine tz 21 29 hHeld ?_; simp only [pS]; refine wpAnyH_done (by kernel_rfl) ?_ _; refine NoPanic.normal ?_; have hb2 := hHeld; have HB2 : Hid _ := hb2; clear hu5 hHeld; (go_wp2_with fail); refine wp_region_noPanic ?_; refine wp_region_held_drew (S := (fun u => Below w1.heap.size w1 u)) (by kernel_rfl) (by first | exact hb2.drew | assumption) (fun hHeld => ?_); refine tz 0 32 hHeld ?_; simp only [pS]; refine tz 1 33 hHeld ?_; simp only [pS]; refine tz 2 34 hHeld ?_; simp only [pS]; refine tz 3 35 hHeld ?_; simp only [pS]; refine tz 4 36 hHeld ?_; simp only [pS]; refine tz 5 37 hHeld ?_; simp only [pS]; refine tz 6 38 hHeld ?_; simp only [pS]; refine tz 7 31 hHeld ?_; simp only [pS]; refine tz 8 39 hHeld ?_; simp only [pS]; refine tz 9 40 hHeld ?_; simp only [pS]; refine tz 10 6 hHeld ?_; simp only [pS]; refine tz 11 7 hHeld ?_; simp only [pS]; refine wpAnyH_done (by kernel_rfl) ?_ _; refine NoPanic.normal ?_; clear hHeld hlk; obtain ⟨w4, hw4⟩ : ∃ w4, w4 = u5.drew := ⟨_, rfl⟩; have hb4 : Below w1.heap.size w1 w4 := by rw [hw4]; exact HB2.out.drew
 rw [← hw4]; have HB4 : Hid _ := hb4; clear hw4 HB2 hb2; have hc7 : w4.cell? ⟨w.heap.size, 7, none⟩ = some (.int .i64 0) := (hsh _ hb4).2.2.2.2.2.2.2.1; have HSH : Hid _ := hsh; clear hsh; (go_wp2_with fail); clear hc7; refine wp_region_noPanic ?_; refine wp_region_late_drew (S := (fun u => Below w1.heap.size w1 u)) (X := [10]) (by kernel_rfl) (by first | exact hb4.drew | assumption | exact HB7.out) (fun hHeld => ?_); refine qA 0 47 hHeld ?_; simp only [pS]; refine qA 1 48 hHeld ?_; simp only [pS]; refine qA 2 49 hHeld ?_; simp only [pS]; refine qA 3 50 hHeld ?_; simp only [pS]; refine qL 4 51 (v := .slice ta x.told.length tc) ?_ hHeld ?_
 · (intro w hSw; have hc9 := HM3.out _ hSw; go_simp; try with_reducible rfl)
 simp only [pS]; refine qA 5 52 hHeld ?_; simp only [pS]; refine qL 6 53 (v := .slice ga gn gc) ?_ hHeld ?_
 · (intro w hSw; have hc9 := (HSH.out _ hSw).2.2.2.2.2.2.2.2.1; go_simp; try with_reducible rfl)
 simp only [pS]; refine run_atL (i := 7) rfl (by kernel_rfl) (by rfl) (fun K hK => ?_); simp only [gE]; go_simp
 (go_at_call 48; refine Calls.mono (HUN.out _ hb4.drew) ?_; rintro e9 w7 ⟨v, out, rfl, hov, hls, hhs, hlo, hb7⟩; obtain ⟨a, cp, hve, -, -, -, -, -⟩ := hov.val; subst hve; have HB7 : Hid (Below w1.heap.size w1 w7) := below_next hb4.drew hb7; have HOV : Hid _ := hov; have HLS : Hid (Lst out ∧ (∀ j, hasR out j ↔ hasR (x.told ++ l) j) ∧ out.length ≤ (x.told ++ l).length) := ⟨hls, hhs, hlo⟩; have hc3 := HM3.out _ HB7.out; have HF7 : Hid _ := (HX0.out.below (HX.out _ HB7.out)); have hf3 : w7.frozen? ⟨m.g, 3, none⟩ = false := (by simp [World.frozen?, ((HX0.out.below (HX.out _ HB7.out)).se i x m HMI.out.1 HMI.out.2).box]); clear hov hls hhs hlo hb7)
 (go_wp2_with fail); refine hK.out _ _ (by first | exact hb4.drew | assumption | exact HB7.out) ?_; clear hK K; clear hHeld; intro hHeld; (try simp only [pS]); refine qA 8 55 hHeld ?_; simp only [pS]; refine qA 9 56 hHeld ?_; simp only [pS]; refine run_atLate (i := 10) rfl (by kernel_rfl) (by decide) (by rfl) (fun K hK => ?_); simp only [gE]; go_simp; (go_wp2_with fail); refine hK.out _ _ ?_; clear hK K; (try simp only [pS]); refine doneL (by kernel_rfl) ?_ _; refine NoPanic.normal ?_; obtain ⟨w8, hw8⟩ : ∃ w8, w8 = w7.setCell ⟨m.g, 3, none⟩ (.slice a out.length cp) := ⟨_, rfl⟩
 try rw [← hw8]
 have hcg : Chg (fun b => b = m.g) w7 w8 := by rw [hw8]; exact Chg.of_grown (gset1 _ _ _ _) (fun b e => (Option.some.inj e).symm)
 have hd7 := (HB7.out.block _ (sI HD1.out).1).trans HD1.out; have hgl : m.g < w.heap.size := (sI (HX0.out.se i x m HMI.out.1 HMI.out.2).box).1; have hd2 := (hcg.block (w.heap.size + 1) (sI hd7).1 (fun e => by omega)).trans hd7; have HCG : Hid _ := hcg; have HW8 : Hid (w8 = _) := hw8; have c0 : w8.cell? ⟨w.heap.size + 1, 0, none⟩ = some (.int .i64 0) := by rw [cR hd2]; rfl
 have c1 : w8.cell? ⟨w.heap.size + 1, 1, none⟩ = some (.int .u64 0) := by rw [cR hd2]; rfl
 have c2 : w8.cell? ⟨w.heap.size + 1, 2, none⟩ = some (.int .i64 0) := by rw [cR hd2]; rfl
 have f0 : w8.frozen? ⟨w.heap.size + 1, 0, none⟩ = false := by simp [World.frozen?, hd2]
 have f1 : w8.frozen? ⟨w.heap.size + 1, 1, none⟩ = false := by simp [World.frozen?, hd2]
 have f2 : w8.frozen? ⟨w.heap.size + 1, 2, none⟩ = false := by simp [World.frozen?, hd2]
 clear hHeld hc3 hf3 hb4 hcg hw8 hd7 hd2; go_wp2; refine bodyPost_ret (v := .tuple #[.agg #[.int .i64 0, .int .u64 0, .int .i64 0], .bool false]) (by simp [results, Tryz.results19, go_sem, c0, c1, c2, f0, f1, f2]) rfl ?_
 obtain ⟨m', hm'⟩ : ∃ m' : Fm, m' = { m with ta := a, tn := out.length, tc := cp } := ⟨_, rfl⟩; have hse7 := HF7.out.se i x m HMI.out.1 HMI.out.2; have hne : ∀ b, (Value.slice a out.length cp).ownBlock = some b → w4.heap.size ≤ b := fun b e => (World.ownsRow.lt HOV.out b e).1
 have hsz4 := HB4.out.size; have hsz1 := HSZ1.out
 have hty : ∀ (b : Nat) (C : Array Value) (t : TypeId) (f : Nat × Nat), w7.heap[b]? = some (Obj.cells C t f) → t ≠ tFs → w8.heap[b]? = w7.heap[b]? := fun b C t f h1 h2 => HCG.out.block b (sI h1).1 (fun e => by
   rw [e, hse7.box] at h1
   injection h1 with h1
   injection h1 with h1 h3
   exact h2 h3.symm)
 have hse8 : SeA w8 { x with told := out } m' := by
  rw [hm']; refine ⟨?_, ?_, ?_⟩
  · rw [HW8.out]; exact heap_setCell_same w7 m.g 3 _ tFs _ hse7.box
  · refine hse7.seg.kept (fun b hb => ?_); rcases hb with hb | hb
    · obtain ⟨cur, h9⟩ := hse7.seg.row.at_ hb; exact hty b _ _ _ h9 (by decide)
    · obtain ⟨C, h9⟩ := hse7.seg.fml.ty hb; exact hty b _ _ _ h9 (by decide)
  · have h9 : OwnR w7 0 (.slice a out.length cp) out := OwnR.base HOV.out (Nat.zero_le _); refine h9.keptR (fun b hb => ?_); obtain ⟨cur, h8⟩ := h9.atR hb; exact hty b _ _ _ h8 (by decide)
 obtain ⟨h1, h2⟩ := (HX0.out.below HB1.out).setBox HMI.out.1 HMI.out.2 (x' := { x with told := out }) (m' := m') rfl rfl rfl (HX0.out.inv.ag x (List.mem_of_getElem? HMI.out.1)) (by rw [hm']) ((Chg.of_below HB7.out).trans HCG.out (fun b e => .inl e)) hse8 (fun b hb => by
   rw [hm'] at hb; rcases hb with hb | hb | hb | hb
   · exact .inl (.inl hb)
   · exact .inl (.inr (.inl hb))
   · exact .inl (.inr (.inr (.inl hb)))
   · have h9 := hne b hb
     exact .inr (by omega))
 have hcf : Chg (fun b => b = w.heap.size + 1) w8 (((w8.setCell ⟨w.heap.size + 1, 0, none⟩ (.int .i64 0)).setCell ⟨w.heap.size + 1, 1, none⟩ (.int .u64 0)).setCell ⟨w.heap.size + 1, 2, none⟩ (.int .i64 0)) := Chg.of_grown (grow_trans (grow_trans (gset1 _ _ _ _) (gset1 _ _ _ _)) (gset1 _ _ _ _)) (fun b e => (Option.some.inj e).symm); have h3 := (FStp.below HB1.out P).trans h2; refine ⟨rfl, out, m', HLS.out, by rw [hm'], h1.chg hcf (fun b hb e => ?_), h3.chg.trans hcf (fun b hb => .inr (by omega)), h3.new⟩; rcases h2.new b hb with h4 | h4
 · have := HX0.out.lt h4; omega
 · omega
end
open Go.RowKit Go.Maps
section
variable {w w' : World} {P : Fp} {s : Fs} {W W' : List Wh.Tm}
set_option maxRecDepth 20000
set_option maxHeartbeats 3200000
theorem fstop_in (h : FSw w P s W) {i : Nat} {x : Fe} {m : Fm} (hx : s.L[i]? = some x) (hm : P.M[i]? = some m) (hW : W.length ≤ 4398046511104) :
 Calls Tryz.prog 57 #[.pointer (some ⟨P.p, 0, none⟩), fv x.k] w fun e w' => e = .returned (.tuple #[.int .u64 (x.n : Int), .bool true]) ∧ ∃ V', FSw w' { P with M := P.M.eraseIdx i, V := V' } { s with L := s.L.eraseIdx i } (W.filter (fun t => decide (t.id ≠ (x.n : Int)))) ∧ FStp w w' P { P with M := P.M.eraseIdx i, V := V' } := by
 obtain ⟨s1, s2, hk⟩ : ∃ s1 s2, x.k = (s1, s2) := ⟨_, _, rfl⟩; rw [hk]; have hxm := List.mem_of_getElem? hx; have hn1 := h.inv.num x hxm; obtain ⟨w1, hw1⟩ : ∃ w1, w1 = w.alloc (.cells #[.int .i64 s1, .int .u64 (s2 : Int)] tFk) := ⟨_, rfl⟩; have hb1 : Below w.heap.size w w1 := by rw [hw1]; exact alw (bR _ _) _
 have hbx : w1.heap[w.heap.size]? = some (.cells #[.int .i64 s1, .int .u64 (s2 : Int)] tFk (0, 0)) := by rw [hw1]; exact heap_alloc_new w _
 have hc0 : w1.cell? ⟨w.heap.size, 0, none⟩ = some (.int .i64 s1) := by rw [cR hbx]; rfl
 have hc1 : w1.cell? ⟨w.heap.size, 1, none⟩ = some (.int .u64 (s2 : Int)) := by rw [cR hbx]; rfl
 have HM : Hid _ := fmade_t (h.below hb1)
 have HN : Hid (Calls Tryz.prog 36 #[.pointer (some ⟨P.p, 0, none⟩), fv (s1, s2)] w1 fun e w' => e = .returned (.int .u64 (x.n : Int)) ∧ Below w1.heap.size w1 w') := Calls.mono (fnumberOf_t (h.below hb1) (s1, s2)) (fun e u hu => ⟨by
   rcases hu.1 with ⟨y, hy, hyk, he⟩ | ⟨hno, -⟩
   · have hkk : (s.L.map Fe.k).Nodup := (List.nodup_append.1 h.inv.nk).2.1; obtain ⟨j, hj, rfl⟩ := List.getElem_of_mem hy; obtain ⟨hi, hxe⟩ := List.getElem?_eq_some_iff.1 hx; have hpw := List.pairwise_iff_getElem.1 hkk
     have hij : j = i := by
      rcases Nat.lt_trichotomy j i with q | q | q
      · exact absurd (by rw [List.getElem_map, List.getElem_map, hyk, hxe, hk]) (hpw j i (by simpa using hj) (by simpa using hi) q)
      · exact q
      · exact absurd (by rw [List.getElem_map, List.getElem_map, hyk, hxe, hk]) (hpw i j (by simpa using hi) (by simpa using hj) q)
     subst hij; rw [he, hxe]
   · exact absurd (List.mem_map.2 ⟨x, hxm, hk⟩) hno, hu.2⟩)
 have hpos : (0 : Int) < (x.n : Int) := by omega
 have HE : Hid (∀ u, Below w1.heap.size w1 u → Calls _ _ _ u _) := fun u hu => fend_t ((h.below hb1).below hu) hx hm hW
 have HB1 : Hid _ := hb1; have HW1 : Hid (w1 = _) := hw1; clear h hx hm hW hxm hn1 hw1 hb1 hbx; go_enter Tryz.func57, Tryz.ntmps57
 (go_wp2_with fail); rw [← HW1.out]; refine Calls.mono HM.out ?_; rintro e9 u ⟨rfl, hu⟩; subst hu; (go_wp2_with fail); refine Calls.mono HN.out ?_; rintro e9 u2 ⟨rfl, hb2⟩; have HE2 : Hid _ := HE.out _ hb2; have HB2 : Hid _ := hb2; clear hb2 hc0 hc1; (go_wp2_with fail); refine Calls.mono HE2.out ?_; rintro e9 u3 ⟨rfl, V', h3, hs3⟩; have H3 : Hid _ := h3; have HS3 : Hid _ := hs3; clear h3 hs3; go_wp2; refine bodyPost_ret (v := .tuple #[.int .u64 (x.n : Int), .bool true]) (by simp [results, Tryz.results57, go_sem]) rfl ?_
 exact ⟨rfl, V', H3.out, (FStp.below (HB1.out.trans (HB2.out.mono HB1.out.size)) P).trans HS3.out⟩
theorem fstop_no (h : FSw w P s W) (kk : Fk) (h1 : kk ∉ s.L.map Fe.k) (h2 : kk ∉ P.R.map Prod.fst) :
 Calls Tryz.prog 57 #[.pointer (some ⟨P.p, 0, none⟩), fv kk] w fun e w' => e = .returned (.tuple #[.int .u64 0, .bool false]) ∧ Below w.heap.size w w' := by
 obtain ⟨s1, s2⟩ := kk; obtain ⟨w1, hw1⟩ : ∃ w1, w1 = w.alloc (.cells #[.int .i64 s1, .int .u64 (s2 : Int)] tFk) := ⟨_, rfl⟩; have hb1 : Below w.heap.size w w1 := by rw [hw1]; exact alw (bR _ _) _
 have hbx : w1.heap[w.heap.size]? = some (.cells #[.int .i64 s1, .int .u64 (s2 : Int)] tFk (0, 0)) := by rw [hw1]; exact heap_alloc_new w _
 have hcc : ∀ u, Below w1.heap.size w1 u → u.cell? ⟨w.heap.size, 0, none⟩ = some (.int .i64 s1) ∧ u.cell? ⟨w.heap.size, 1, none⟩ = some (.int .u64 (s2 : Int)) := fun u hu => by
  have h9 := (hu.block _ (sI hbx).1).trans hbx; exact ⟨by rw [cR h9]; rfl, by rw [cR h9]; rfl⟩
 have hc0 := (hcc _ (bR _ _)).1; have hc1 := (hcc _ (bR _ _)).2; have HCC : Hid _ := hcc; have HM : Hid _ := fmade_t (h.below hb1)
 have HN : Hid (Calls Tryz.prog 36 #[.pointer (some ⟨P.p, 0, none⟩), fv (s1, s2)] w1 fun e w' => e = .returned (.int .u64 0) ∧ Below w1.heap.size w1 w') := Calls.mono (fnumberOf_t (h.below hb1) (s1, s2)) (fun e u hu => ⟨by
   rcases hu.1 with ⟨y, hy, hyk, he⟩ | ⟨-, he⟩
   · exact absurd (List.mem_map.2 ⟨y, hy, hyk⟩) h1
   · exact he, hu.2⟩)
 have HP : Hid (∀ u, Below w1.heap.size w1 u → Calls Tryz.prog 37 #[.pointer (some ⟨P.p, 0, none⟩), fv (s1, s2)] u fun e w' => e = .returned (.int .i64 (-1)) ∧ Below u.heap.size u w') := fun u hu => Calls.mono (fplaceOf_t ((h.below hb1).below hu) (s1, s2)) (fun e u' hu' => ⟨by
   rcases hu'.1 with ⟨j, hj, hjk, he⟩ | ⟨-, he⟩
   · exact absurd (List.mem_map.2 ⟨_, List.getElem_mem hj, hjk⟩) h2
   · exact he, hu'.2⟩)
 have HB1 : Hid _ := hb1; have HW1 : Hid (w1 = _) := hw1; clear h h1 h2 hw1 hb1 hbx hcc; go_enter Tryz.func57, Tryz.ntmps57
 (go_wp2_with fail); rw [← HW1.out]; refine Calls.mono HM.out ?_; rintro e9 u ⟨rfl, hu⟩; subst hu; (go_wp2_with fail); refine Calls.mono HN.out ?_; rintro e9 u2 ⟨rfl, hb2⟩; have hd0 := (HCC.out _ hb2).1; have hd1 := (HCC.out _ hb2).2; have HP2 : Hid _ := HP.out _ hb2; have HB2 : Hid _ := hb2; clear hb2 hc0 hc1; (go_wp2_with fail); refine Calls.mono HP2.out ?_; rintro e9 u3 ⟨rfl, hb3⟩; have HB3 : Hid _ := hb3; clear hb3 hd0 hd1; go_wp2; refine bodyPost_ret (v := .tuple #[.int .u64 0, .bool false]) (by simp [results, Tryz.results57, go_sem]) rfl ?_
 exact ⟨rfl, HB1.out.trans ((below_next HB2.out HB3.out).mono HB1.out.size)⟩
end
open Go.RowKit Go.Maps
section
variable {α : Type} {K : Kd α}
def RowK (K : Kd α) (w : World) (g : Nat) (cur : List Value) : Prop := w.heap[g]? = some (.cells cur.toArray K.t (0, 0))
theorem rowK_open {w : World} {B g n cap : Nat} {xs : List α} (h : OwnG K w B (.slice (some ⟨g, 0, none⟩) n cap) xs) (hn : n = xs.length) : ∃ cur, RowK K w g cur ∧ cur.length = cap * K.k ∧ cur.take (n * K.k) = K.flat xs ∧ n ≤ cap ∧ cap ≤ maxLen ∧ B ≤ g := by
 subst hn; rcases h.2 with ⟨e, -⟩ | ⟨g', cap', cur, e, hB, hg, hn, hm, hs, ht⟩
 · cases e
 · cases e; exact ⟨cur.toList, by unfold RowK; simpa using hg, by simpa using hs, by simpa using ht, hn, hm, hB⟩
theorem rowK_shut {w : World} {B g n cap : Nat} {cur : List Value} {xs : List α} (h : RowK K w g cur) (hl : cur.length = cap * K.k) (hn : n = xs.length) (ht : cur.take (n * K.k) = K.flat xs) (hc : n ≤ cap) (hm : cap ≤ maxLen) (hB : B ≤ g) : OwnG K w B (.slice (some ⟨g, 0, none⟩) n cap) xs := by
 subst hn; refine ⟨K.flat_len xs, .inr ⟨g, cap, cur.toArray, rfl, hB, h, hc, hm, by simpa using hl, by simpa using ht⟩⟩
theorem RowK.cell {w : World} {g : Nat} {cur : List Value} (h : RowK K w g cur) (k : Nat) : w.cell? ⟨g, k, none⟩ = cur[k]? := by
 rw [cR h]; simp
theorem RowK.thawed {w : World} {g : Nat} {cur : List Value} (h : RowK K w g cur) (k : Nat) : w.frozen? ⟨g, k, none⟩ = false := by
 unfold RowK at h; simp [World.frozen?, h]
theorem spliceK_cons (cur : List Value) (k : Nat) (v : Value) (r : List Value) (hk : k < cur.length) : splice cur k (v :: r) = splice (cur.set k v) (k + 1) r := by
 unfold splice; apply List.ext_getElem?; intro j; simp only [List.getElem?_append, List.length_take, List.length_set, List.length_cons, List.getElem?_take, List.getElem?_set, List.getElem?_drop, List.getElem?_cons]
 grind
theorem rowK_setCells {g : Nat} : ∀ (cs : List Value) (k : Nat) (w : World) (cur : List Value), RowK K w g cur → k + cs.length ≤ cur.length → RowK K (w.setCells g k cs) g (splice cur k cs) ∧ w.grownBy (w.setCells g k cs) (some g)
 | [], k, w, cur, h, _ => ⟨by have e : splice cur k ([] : List Value) = cur := (by unfold splice; simp); rw [e]; exact h, ⟨rfl, rfl, rfl, Nat.le_refl _, fun _ _ _ => rfl⟩⟩
 | v :: r, k, w, cur, h, hk => by
  have h1 : RowK K (w.setCell ⟨g, k, none⟩ v) g (cur.set k v) := by
   unfold RowK; rw [heap_setCell_same w g k _ K.t v h]; simp
  obtain ⟨h2, h3⟩ := rowK_setCells r (k + 1) (w.setCell ⟨g, k, none⟩ v) (cur.set k v) h1 (by simp at hk ⊢; omega); rw [World.setCells, spliceK_cons cur k v r (by simp at hk; omega)]; refine ⟨h2, ⟨h3.os, h3.tape, h3.output, by simp, fun i hi hne => ?_⟩⟩; rw [h3.block i (by simpa using hi) hne]; exact heap_setCell_other w ⟨g, k, none⟩ i v (fun e => hne (by simp [e]))
theorem growK_row {w : World} {g : Nat} (cs : Array Value) : w.grownBy (w.setRow g cs) (some g) := ⟨rfl, rfl, rfl, by simp [World.setRow], fun k _ hne => setRow_other w g k cs (fun e => hne (by simp [e]))⟩
theorem growK_drew {w : World} {r : Option Nat} : w.grownBy w.drew r := ⟨rfl, rfl, rfl, Nat.le_refl _, fun _ _ _ => rfl⟩
theorem wpo_roomK {w : World} {o : Oper} {a : Act} {C : Act → World → Prop} {Q : Exit → Act → World → Prop} (s x : Operand)
 (ho : o.op = .call { callee := .builtin .append, args := #[s, x], argTypes := #[K.ts, K.ts] }) (g i cap : Nat) (cur : List Value) (hg : RowK K w g cur) (hs : a.eval s = .slice (some ⟨g, 0, none⟩) i cap)
 (ad : Addr) (m c : Nat) (hx : a.eval x = .slice (some ad) m c) (ys : List α) (hl : ys.length = m) (hr : RdG K w (some ad) ys)
 (hroom : i + m ≤ cap) (hcap : cur.length = cap * K.k) (L : Nat) (hL : i + m = L)
 (h : ∀ w', RowK K w' g (splice cur (i * K.k) (K.flat ys)) → w.grownBy w' (some g) → C (a.put o.dst (.slice (some ⟨g, 0, none⟩) L cap)) w') : o.wp Tryz.prog a w C Q := by
 subst hL; obtain ⟨i0, hi, hz0, hz1, hz2⟩ := info_parts K.hi
 have hfit : i * K.k + (K.flat ys).length ≤ cur.toArray.size := by
  rw [K.flat_len, hl, List.size_toArray, hcap, ← Nat.add_mul]; exact Nat.mul_le_mul_right _ hroom
 have hr := run_append_room (P := Tryz.prog) w K.ts o.type K.t i0 K.ht hi g i cap cur.toArray hg ad m c (K.flat ys) (by rw [hz1, K.flat_len, hl]) hr.news (K.flat_one' ys) hroom (by rw [hz1]; exact hfit); unfold Oper.wp execOp; simp only [ho, resolve, invoke, builtin, Sem.run_bind, Sem.run_pure, Result.andThen_ok, List.map_toArray, List.map_cons, List.map_nil, hs, hx, hr]; refine h _ ?_ (growK_row _); unfold RowK; rw [setRow_heap w g _ _ K.t _ hg, hz1]; simp [splice]
theorem spliceK_take {X Y : List Value} {k : Nat} (h : k ≤ X.length) : (splice X k Y).take k = X.take k := by
 unfold splice; rw [List.take_append_of_le_length (by rw [List.length_take]; omega), List.take_take, Nat.min_self]
theorem spliceK_take2 {X Y : List Value} {k m : Nat} (h : k ≤ X.length) (hm : m = k + Y.length) : (splice X k Y).take m = X.take k ++ Y := by
 unfold splice; rw [← List.append_assoc, List.take_append_of_le_length (by rw [List.length_append, List.length_take]; omega), List.take_of_length_le (by rw [List.length_append, List.length_take]; omega)]
theorem Kd.flat_take (xs : List α) (i : Nat) : K.flat (xs.take i) = (K.flat xs).take (i * K.k) := by
 by_cases hi : i ≤ xs.length
 · have e : K.flat xs = K.flat (xs.take i) ++ K.flat (xs.drop i) := by rw [← K.flat_app, List.take_append_drop]
   rw [e, List.take_append_of_le_length (by rw [K.flat_len, List.length_take, Nat.min_eq_left hi]; exact Nat.le_refl _), List.take_of_length_le (l := K.flat (xs.take i)) (by rw [K.flat_len, List.length_take, Nat.min_eq_left hi]; exact Nat.le_refl _)]
 · rw [List.take_of_length_le (l := xs) (by omega), List.take_of_length_le (l := K.flat xs) (by rw [K.flat_len]; exact Nat.mul_le_mul_right _ (by omega))]
end
abbrev zFr : List Value := [.int .i64 0, .int .u64 0, .slice none 0 0]
theorem zero_fr (u : World) : (zeroValue tFr).run Tryz.prog u = .ok (.agg #[.int .i64 0, .int .u64 0, .slice none 0 0]) u := by
 obtain ⟨i0, hi, hz0, hz1, hz2⟩ := info_parts KFr.hi; simp [zeroValue, typeInfo, hi, hz0]
theorem clear_runF {w : World} {g k m : Nat} {cur : List Value} (hg : RowK KFr w g cur) (hm : m = 1) (hk : k * 3 + 3 ≤ cur.length) :
 ∃ w', (∀ ty c o, o = k * 3 → (Builtin.clear_ #[90] ty #[.slice (some ⟨g, o, none⟩) m c]).run Tryz.prog w = .ok (.tuple #[]) w') ∧ RowK KFr w' g (splice cur (k * 3) zFr) ∧ w.grownBy w' (some g) := by
 subst hm; obtain ⟨h2, h3⟩ := rowK_setCells (K := KFr) (g := g) zFr (k * 3) w cur hg (by simpa using hk); refine ⟨_, fun ty c o ho => ?_, h2, h3⟩; subst ho
 have hzc : (Builtin.zeroCells (Value.cells (.agg #[.int .i64 0, .int .u64 0, .slice none 0 0])) 1).toList = zFr := by
  simp [Builtin.zeroCells, Value.cells]
  rfl
 have hst := run_storeCells_cells (P := Tryz.prog) g (k * 3) zFr 0 w (fun j hj => by rw [hg.cell, List.getElem?_eq_getElem (by simp at hj; omega)]; rfl) (fun j hj => hg.thawed _) (by intro v hv; simp at hv; rcases hv with rfl | rfl | rfl <;> rfl); simp only [Nat.add_zero] at hst; simp [Builtin.clear_, run_underlying Tryz.underlying90, zero_fr, hzc, hst]
theorem fdel_eq {cur : List Value} {R : List (Fk × Dc)} {n cap i j k : Nat} (hcl : cur.length = cap * 3) (htk : cur.take (n * 3) = KFr.flat R) (hn : n = R.length) (hj : j = i + 1) (hi : i < n) (hk : k + 1 = n) (hc : n ≤ cap) : k * 3 + 3 ≤ (splice cur (i * 3) (KFr.flat (R.drop j))).length ∧ (splice (splice cur (i * 3) (KFr.flat (R.drop j))) (k * 3) zFr).length = cap * 3 ∧ (splice (splice cur (i * 3) (KFr.flat (R.drop j))) (k * 3) zFr).take (k * 3) = KFr.flat (R.eraseIdx i) ∧ k = (R.eraseIdx i).length := by
 have hfl : (KFr.flat (R.drop j)).length = (n - j) * 3 := by rw [KFr.flat_len, List.length_drop, hn]
 have h1 : (splice cur (i * 3) (KFr.flat (R.drop j))).length = cap * 3 := by rw [length_splice _ _ _ (by omega), hcl]
 refine ⟨by omega, ?_, ?_, ?_⟩
 · rw [length_splice _ _ _ (by rw [h1]; show k * 3 + 3 ≤ cap * 3; omega), h1]
 · rw [spliceK_take (by omega), spliceK_take2 (by omega) (by omega), List.eraseIdx_eq_take_drop_succ, KFr.flat_app, ← hj, Kd.flat_take, ← htk, List.take_take, Nat.min_eq_left (by show i * 3 ≤ n * 3; omega)]
 · rw [List.length_eraseIdx_of_lt (by omega)]; omega
section
set_option maxRecDepth 20000
set_option maxHeartbeats 3200000
theorem fdelete_t {w : World} {g n cap : Nat} {R : List (Fk × Dc)} (h : OwnG KFr w 0 (.slice (some ⟨g, 0, none⟩) n cap) R) (hR : n = R.length) (i j k : Nat) (hj : j = i + 1) (hi : i < n) (hk : k + 1 = n) (hl : n ≤ 4398046511104) :
 Calls Tryz.prog 100 #[.slice (some ⟨g, 0, none⟩) n cap, .int .i64 (i : Int), .int .i64 (j : Int)] w fun e w' => e = .returned (.slice (some ⟨g, 0, none⟩) k cap) ∧ OwnG KFr w' 0 (.slice (some ⟨g, 0, none⟩) k cap) (R.eraseIdx i) ∧ w.grownBy w' (some g) := by
 obtain ⟨cur, hrow, hcl, htk, hnc, hcm, -⟩ := rowK_open h hR; have HOWN : Hid (OwnG KFr w 0 (.slice (some ⟨g, 0, none⟩) R.length cap) R) := by unfold Hid; rw [← hR]; exact h
 have HROW : Hid (RowK KFr w g cur) := hrow; have HCL : Hid (cur.length = cap * 3) := hcl; have HTK : Hid (cur.take (n * 3) = KFr.flat R) := htk; have HCM : Hid (cap ≤ maxLen) := hcm; have HVL : Hid (n = R.length) := hR; have hi0 : (0 : Int) ≤ (i : Int) := by omega
 have hj0 : (0 : Int) ≤ (j : Int) := by omega
 have hij : (i : Int) ≤ (j : Int) := by omega
 have hjn : (j : Int) ≤ (n : Int) := by omega
 have hin : (i : Int) ≤ (n : Int) := by omega
 have hncI : (n : Int) ≤ (cap : Int) := by omega
 have hjc : (j : Int) ≤ (cap : Int) := by omega
 have hic : (i : Int) ≤ (cap : Int) := by omega
 have hijn : i ≤ j := by omega
 have hjnn : j ≤ n := by omega
 have hicn : i ≤ cap := by omega
 have hjcn : j ≤ cap := by omega
 have hci : ¬ cap = i := by omega
 have hni : ¬ n = i := by omega
 have hne : ¬ (i : Int) = (j : Int) := by omega
 have hneb : ((i : Int) == (j : Int)) = false := by simpa using hne
 have hkn : (k : Int) ≤ (n : Int) := by omega
 have hk0 : (0 : Int) ≤ (k : Int) := by omega
 have hkc : ¬ cap = k := by omega
 have hkcI : (k : Int) ≤ (cap : Int) := by omega
 have hknn : k ≤ n := by omega
 have HJ : Hid (j = i + 1) := hj; have HK : Hid (k + 1 = n) := hk; clear h hrow hcl htk hcm hR hj hk
 by_cases hcj : cap = j
 · obtain rfl : n = j := by omega
   subst hcj; go_enter Tryz.func100, Tryz.ntmps100
   (go_wp2_with fail); refine wp_region_noPanic ?_; refine wp_region_held_drew (S := (fun _ => True)) (by kernel_rfl) (by exact trivial) (fun hHeld => ?_); refine tz 0 20 hHeld ?_; simp only [pS]; refine tz 1 21 hHeld ?_; simp only [pS]; refine tz 2 22 hHeld ?_; simp only [pS]; refine tz 3 23 hHeld ?_; simp only [pS]; refine tz 4 24 hHeld ?_; simp only [pS]; refine tz 5 25 hHeld ?_; simp only [pS]; refine run_at (i := 6) rfl (by kernel_rfl) (by rfl) (fun K hK => ?_); simp only [gE]
   (refine wpo_roomK (K := KFr) _ _ rfl g i cap cur HROW.out rfl _ _ _ rfl (R.drop cap) (by rw [List.length_drop, ← HVL.out]; omega) (by rw [List.drop_eq_nil_of_le (by have := HVL.out; omega)]; exact RdG.nil _ _) (by omega) HCL.out k (by have := HJ.out; have := HK.out; omega) ?_; intro w2 hr2 hg2; have HR2 : Hid _ := hr2; have HG2 : Hid _ := hg2; clear hr2 hg2)
   refine hK.out _ _ (by exact trivial) ?_; clear hK K; clear hHeld; intro hHeld; (try simp only [pS]); refine tz 7 0 hHeld ?_; simp only [pS]; refine wpAnyH_done (by kernel_rfl) ?_ _; refine NoPanic.normal ?_; have HEQ : Hid _ := fdel_eq HCL.out HTK.out HVL.out HJ.out hi HK.out hnc; obtain ⟨w3, hcl0, hr3, hg3⟩ := clear_runF (k := k) (m := cap - k) HR2.out (by have := HK.out; omega) HEQ.out.1; have hcl := fun ty c => hcl0 ty c _ rfl
   have HR3 : Hid _ := hr3; have HG3 : Hid _ := hg3; clear hr3 hg3 hcl0; go_wp2; go_ret; exact ⟨rfl, rowK_shut HR3.out HEQ.out.2.1 HEQ.out.2.2.2 HEQ.out.2.2.1 (by omega) HCM.out (Nat.zero_le _), grow_trans growK_drew (grow_trans HG2.out HG3.out)⟩
 · have hcj2 : ¬ n = j ∨ n = j := by omega
   go_enter Tryz.func100, Tryz.ntmps100
   (go_wp2_with fail); refine wp_region_noPanic ?_; refine wp_region_held_drew (S := (fun _ => True)) (by kernel_rfl) (by exact trivial) (fun hHeld => ?_); refine tz 0 20 hHeld ?_; simp only [pS]; refine tz 1 21 hHeld ?_; simp only [pS]; refine tz 2 22 hHeld ?_; simp only [pS]; refine tz 3 23 hHeld ?_; simp only [pS]; refine tz 4 24 hHeld ?_; simp only [pS]; refine tz 5 25 hHeld ?_; simp only [pS]; refine run_at (i := 6) rfl (by kernel_rfl) (by rfl) (fun K hK => ?_); simp only [gE]
   (refine wpo_roomK (K := KFr) _ _ rfl g i cap cur HROW.out rfl _ _ _ rfl (R.drop j) (by rw [List.length_drop, ← HVL.out]) (by have h9 := RdG.drop (OwnG.rd HOWN.out) j; rw [Nat.zero_add] at h9; exact RdG.below h9 (bR _ _).drew) (by omega) HCL.out k (by have := HJ.out; have := HK.out; omega) ?_; intro w2 hr2 hg2; have HR2 : Hid _ := hr2; have HG2 : Hid _ := hg2; clear hr2 hg2)
   refine hK.out _ _ (by exact trivial) ?_; clear hK K; clear hHeld; intro hHeld; (try simp only [pS]); refine tz 7 0 hHeld ?_; simp only [pS]; refine wpAnyH_done (by kernel_rfl) ?_ _; refine NoPanic.normal ?_; have HEQ : Hid _ := fdel_eq HCL.out HTK.out HVL.out HJ.out hi HK.out hnc; obtain ⟨w3, hcl0, hr3, hg3⟩ := clear_runF (k := k) (m := n - k) HR2.out (by have := HK.out; omega) HEQ.out.1; have hcl := fun ty c => hcl0 ty c _ rfl
   have HR3 : Hid _ := hr3; have HG3 : Hid _ := hg3; clear hr3 hg3 hcl0; go_wp2; go_ret; exact ⟨rfl, rowK_shut HR3.out HEQ.out.2.1 HEQ.out.2.2.2 HEQ.out.2.2.1 (by omega) HCM.out (Nat.zero_le _), grow_trans growK_drew (grow_trans HG2.out HG3.out)⟩
end
open Go.RowKit Go.Maps
theorem map_erase {α β : Type} (f : α → β) : ∀ (L : List α) (i : Nat), (L.eraseIdx i).map f = (L.map f).eraseIdx i
 | [], i => by simp
 | _ :: _, 0 => by simp
 | x :: L, i + 1 => by simp only [List.eraseIdx_cons_succ, List.map_cons, map_erase f L i]
theorem XV.erase {E : List Dc} {i b : Nat} (h : XV (E.eraseIdx i) b) : XV E b := by
 obtain ⟨j, d, hd, hb⟩ := h; exact ⟨_, d, erase_at hd, hb⟩
theorem Fml.erase {w : World} {B : Nat} {V : List Dc} {T : List (List UInt8)} (h : Fml w B V T) (i : Nat) : Fml w B (V.eraseIdx i) (T.eraseIdx i) := by
 refine ⟨by rw [List.length_eraseIdx, List.length_eraseIdx, h.len], fun j d t h1 h2 => h.own _ d t (erase_at h1) (erase_at h2), ?_⟩; intro j j' a b c h1 h2 hne; refine h.ap _ _ a b c (erase_at h1) (erase_at h2) (fun e => hne ?_); split at e <;> split at e <;> omega
section
variable {w w' : World} {P : Fp} {s : Fs} {W W' : List Wh.Tm}
theorem FSw.newRow (h : FSw w P s W) {rv' : Value} {R' : List (Fk × Dc)} {row' : List (Fk × Seg)} (hc : Chg (fun b => b = P.p ∨ P.rv.ownBlock = some b) w w') (hblk : w'.heap[P.p]? = some (.cells (cellsFx s rv' P.ms P.pw) tFx (0, 0))) (hrow : OwnG KFr w' 0 rv' R') (hrk : R'.map Prod.fst = row'.map Prod.fst) (hrb : Fml w' 0 (R'.map Prod.snd) (row'.map Prod.snd)) (hinv : FInv { s with row := row' })
 (hrv : ∀ b, rv'.ownBlock = some b → P.rv.ownBlock = some b ∨ w.heap.size ≤ b) (hxv : ∀ b, XV (R'.map Prod.snd) b → XV (P.R.map Prod.snd) b ∨ w.heap.size ≤ b) :
 FSw w' { P with rv := rv', R := R' } { s with row := row' } W ∧ FStp w w' P { P with rv := rv', R := R' } := by
 have hty : ∀ (b : Nat) (C : Array Value) (t : TypeId) (f : Nat × Nat), w.heap[b]? = some (Obj.cells C t f) → t ≠ tFx → t ≠ tFr → w'.heap[b]? = w.heap[b]? := fun b C t f h1 h2 h3 => hc.block b (sI h1).1 (fun e => by
   rcases e with e | e
   · rw [e, h.blk] at h1
     injection h1 with h1
     injection h1 with h1 h4
     exact h2 h4.symm
   · obtain ⟨cur, h9⟩ := h.row.at_ e; rw [h9] at h1
     injection h1 with h1
     injection h1 with h1 h4
     exact h3 h4.symm)
 have hmp : w'.heap[P.ms]? = w.heap[P.ms]? := hc.block _ h.mp.lt (fun e => by
   obtain ⟨es, cl, h1⟩ := h.mp.at_; rcases e with e | e
   · rw [e, h.blk] at h1; cases h1
   · obtain ⟨cur, h9⟩ := h.row.at_ e; rw [h9] at h1
     cases h1)
 have hse : ∀ (i : Nat) x m, s.L[i]? = some x → P.M[i]? = some m → SeA w' x m := fun i x m h1 h2 => by
  have hs := h.se i x m h1 h2; refine hs.kept (fun b hb => ?_); rcases hb with hb | hb | hb | hb
  · rw [hb]; exact hty _ _ _ _ hs.box (by decide) (by decide)
  · obtain ⟨cur, h9⟩ := hs.seg.row.at_ hb; exact hty b _ _ _ h9 (by decide) (by decide)
  · obtain ⟨C, h9⟩ := hs.seg.fml.ty hb; exact hty b _ _ _ h9 (by decide) (by decide)
  · obtain ⟨cur, h9⟩ := hs.tol.atR hb; exact hty b _ _ _ h9 (by decide) (by decide)
 refine ⟨⟨hblk, hrow, hrk, hrb, h.mp.kept hmp, h.len, hse, h.wh.chg (chgV hc) (fun b hb e => ?_), hinv, fun b hb => ⟨(h.aw b hb).1, (h.aw b hb).2.1, fun e => ?_, fun e => ?_, (h.aw b hb).2.2.2.2⟩, h.am, fun m hm b hb e => ?_⟩, hc.mono (fun b hb => ?_), fun b hb => ?_⟩
 · rcases e with e | e
   · exact (h.aw b hb).1 e
   · exact (h.aw b hb).2.2.1 e
 · rcases hrv b e with h1 | h1
   · exact (h.aw b hb).2.2.1 h1
   · have := h.wh.lt hb; omega
 · rcases hxv b e with h1 | h1
   · exact (h.aw b hb).2.2.2.1 h1
   · have := h.wh.lt hb; omega
 · rcases hxv b e with h1 | h1
   · exact h.ab m hm b hb h1
   · have := h.lt (.inr (.inr (.inr (.inr (.inl ⟨m, hm, hb⟩))))); omega
 · rcases hb with e | e
   · exact .inl e
   · exact .inr (.inr (.inl e))
 · rcases hb with e | e | e | e | e | e
   · exact .inl (.inl e)
   · exact .inl (.inr (.inl e))
   · rcases hrv b e with h1 | h1
     · exact .inl (.inr (.inr (.inl h1)))
     · exact .inr h1
   · rcases hxv b e with h1 | h1
     · exact .inl (.inr (.inr (.inr (.inl h1))))
     · exact .inr h1
   · exact .inl (.inr (.inr (.inr (.inr (.inl e)))))
   · exact .inl (.inr (.inr (.inr (.inr (.inr e)))))
theorem FInv.rowErase (h : FInv s) (i : Nat) : FInv { s with row := s.row.eraseIdx i } := by
 have hs : (s.row.eraseIdx i).Sublist s.row := List.eraseIdx_sublist _ _; have hl := hs.length_le; refine ⟨h.mt, h.rt, h.rs, h.wn, h.e, h.c, h.nc, ?_, h.lw, h.num, h.up, ?_, h.nk.sublist ((hs.map _).append (List.Sublist.refl _)), fun r hr => h.blk r (hs.mem hr), h.seg, h.ag⟩
 · have := h.len; show (s.row.eraseIdx i).length + s.L.length ≤ 64; omega
 · rintro k (hk | hk)
   · exact h.good k (.inl ((hs.map _).mem hk))
   · exact h.good k (.inr hk)
set_option maxRecDepth 20000
set_option maxHeartbeats 3200000
theorem fleave_t (h : FSw w P s W) (i : Nat) (hi : i < s.row.length) :
 Calls Tryz.prog 71 #[.pointer (some ⟨P.p, 0, none⟩), .int .i64 (i : Int)] w fun e w' => e = .returned (.tuple #[]) ∧ ∃ rv', FSw w' { P with rv := rv', R := P.R.eraseIdx i } { s with row := s.row.eraseIdx i } W ∧ FStp w w' P { P with rv := rv', R := P.R.eraseIdx i } ∧ Chg (fun b => b = P.p ∨ P.rv.ownBlock = some b) w w' := by
 have hrl : P.R.length = s.row.length := by have := congrArg List.length h.rk; simpa using this
 obtain ⟨g, cap, hv, hnc, -, -, hgl⟩ := OwnG.one h.row (by omega); obtain ⟨n, hn⟩ : ∃ n, n = P.R.length := ⟨_, rfl⟩; obtain ⟨k, hk⟩ : ∃ k, k + 1 = n := ⟨n - 1, by omega⟩; obtain ⟨j, hj⟩ : ∃ j, j = i + 1 := ⟨_, rfl⟩; rw [← hn] at hv; have hown : OwnG KFr w 0 (.slice (some ⟨g, 0, none⟩) n cap) P.R := by have h9 := h.row; rw [hv] at h9; exact h9
 have hl64 := h.inv.len; have HD : Hid _ := fdelete_t hown hn i j k hj (by omega) hk (by omega); have hc6 : w.cell? ⟨P.p, 6, none⟩ = some (.slice (some ⟨g, 0, none⟩) n cap) := by rw [← hv]; exact h.cell 6
 have hwj : IntKind.i64.wrap ((i : Int) + 1) = (j : Int) := by rw [IntKind.wrap_i64]; omega
 have hgp : g ≠ P.p := fun e => by
  obtain ⟨cur, h9⟩ := h.row.at_ (b := g) (by rw [hv]; rfl); rw [e, h.blk] at h9
  injection h9 with h9
  injection h9 with h9 h8
  exact absurd h8 (by decide)
 have HF : Hid (∀ u v, w.grownBy u (some g) → OwnG KFr u 0 v (P.R.eraseIdx i) → v.ownBlock = some g → (FSw (u.setCell ⟨P.p, 6, none⟩ v) { P with rv := v, R := P.R.eraseIdx i } { s with row := s.row.eraseIdx i } W ∧ FStp w (u.setCell ⟨P.p, 6, none⟩ v) P { P with rv := v, R := P.R.eraseIdx i }) ∧ Chg (fun b => b = P.p ∨ P.rv.ownBlock = some b) w (u.setCell ⟨P.p, 6, none⟩ v)) := fun u v hg ho hb => by
  have hbu : u.heap[P.p]? = some (.cells (cellsFx s P.rv P.ms P.pw) tFx (0, 0)) := (hg.block _ (sI h.blk).1 (fun e => hgp (Option.some.inj e).symm)).trans h.blk; have hst : ∀ b, b ≠ P.p → (u.setCell ⟨P.p, 6, none⟩ v).heap[b]? = u.heap[b]? := fun b hb => heap_setCell_other u ⟨P.p, 6, none⟩ b _ hb
  have hc1 : Chg (fun b => b = P.p ∨ P.rv.ownBlock = some b) w u := Chg.of_grown hg (fun b e => .inr (by rw [hv]; exact e)); have hc2 : Chg (fun b => b = P.p ∨ P.rv.ownBlock = some b) u (u.setCell ⟨P.p, 6, none⟩ v) := Chg.of_grown (gset1 u P.p 6 v) (fun b e => .inl (Option.some.inj e).symm)
  have hxu : Fml u 0 (P.R.map Prod.snd) (s.row.map Prod.snd) := h.rb.kept (fun b hb => by
    obtain ⟨C, h9⟩ := h.rb.ty hb; refine hg.block b (h.rb.lt hb).2 (fun e => ?_); obtain ⟨cur, h8⟩ := h.row.at_ (b := b) (by rw [hv]; exact e.symm); rw [h9] at h8
    injection h8 with h8
    injection h8 with h8 h7
    exact absurd h7 (by decide))
  have hxs : Fml (u.setCell ⟨P.p, 6, none⟩ v) 0 (P.R.map Prod.snd) (s.row.map Prod.snd) := hxu.kept (fun b hb => hst b (fun e => by
    obtain ⟨C, h9⟩ := hxu.ty hb; rw [e, hbu] at h9
    injection h9 with h9
    injection h9 with h9 h8
    exact absurd h8 (by decide)))
  refine ⟨h.newRow (hc1.trans hc2 (fun b hb => .inl hb)) ?_ (ho.kept (fun b e => hst b (fun e2 => hgp (by rw [hb] at e; exact (Option.some.inj e).trans e2)))) ?_ ?_ (h.inv.rowErase i) (fun b e => .inl (by rw [hb] at e; rw [hv]; exact e)) (fun b e => .inl (by rw [map_erase] at e; exact e.erase)), hc1.trans hc2 (fun b hb => .inl hb)⟩
  · exact heap_setCell_same u P.p 6 (cellsFx s P.rv P.ms P.pw) tFx _ hbu
  · rw [map_erase, map_erase, h.rk]
  · rw [map_erase, map_erase]; exact hxs.erase i
 have HC : Hid (∀ u, w.grownBy u (some g) → u.cell? ⟨P.p, 6, none⟩ = some (.slice (some ⟨g, 0, none⟩) n cap) ∧ u.frozen? ⟨P.p, 6, none⟩ = false) := fun u hg => by
  have hbu : u.heap[P.p]? = some (.cells (cellsFx s P.rv P.ms P.pw) tFx (0, 0)) := (hg.block _ (sI h.blk).1 (fun e => hgp (Option.some.inj e).symm)).trans h.blk; exact ⟨by rw [cR hbu, ← hv]; rfl, by simp [World.frozen?, hbu]⟩
 clear h hi hrl hv hnc hgl hn hk hj hown hl64 hgp; go_enter Tryz.func71, Tryz.ntmps71
 (go_wp2_with fail); refine Calls.mono HD.out ?_; rintro e9 u ⟨rfl, ho, hg⟩; have hd6 := (HC.out u hg).1; have hf6 := (HC.out u hg).2; have HX : Hid _ := HF.out u _ hg ho rfl; clear ho hg hc6 hwj; go_wp2; go_end0; exact ⟨rfl, _, HX.out.1.1, HX.out.1.2, HX.out.2⟩
end
open Go.RowKit Go.Maps
section
variable {w w' : World} {P : Fp} {s : Fs} {W W' : List Wh.Tm}
set_option maxRecDepth 20000
set_option maxHeartbeats 3200000
theorem fqueue_key (h : FSw w P s W) (k : Fk) (ba : Option Addr) (n bc : Nat) (hk : ¬ (0 ≤ k.1 ∧ k.1 < 8 ∧ k.2 ≤ mxX)) : Calls Tryz.prog 10 #[.pointer (some ⟨P.p, 0, none⟩), fv k, .slice ba n bc] w fun e w' => e = .returned (.int .i64 1) ∧ Below w.heap.size w w' := by
 obtain ⟨s1, s2⟩ := k; obtain ⟨w1, hw1⟩ : ∃ w1, w1 = w.alloc (.cells #[.int .i64 s1, .int .u64 (s2 : Int)] tFk) := ⟨_, rfl⟩; have hb1 : Below w.heap.size w w1 := by rw [hw1]; exact alw (bR _ _) _
 have hbx : w1.heap[w.heap.size]? = some (.cells #[.int .i64 s1, .int .u64 (s2 : Int)] tFk (0, 0)) := by rw [hw1]; exact heap_alloc_new w _
 have hkk : ∀ u, Below w1.heap.size w1 u → u.cell? ⟨w.heap.size, 0, none⟩ = some (.int .i64 s1) ∧ u.cell? ⟨w.heap.size, 1, none⟩ = some (.int .u64 (s2 : Int)) := fun u hu => by
  have h9 := (hu.block _ (sI hbx).1).trans hbx; exact ⟨by rw [cR h9]; rfl, by rw [cR h9]; rfl⟩
 have HKK : Hid _ := hkk; have hc0 := (hkk _ (bR _ _)).1; have hc1 := (hkk _ (bR _ _)).2; have HM : Hid _ := fmade_t (h.below hb1); have HG : Hid (Calls Tryz.prog 35 #[fv (s1, s2)] w1 fun e w' => e = .returned (.bool false) ∧ Below w1.heap.size w1 w') := Calls.mono (fisGood_t (s1, s2) w1) (fun e u hu => ⟨by rw [hu.1, decide_eq_false hk], hu.2⟩); have HB1 : Hid _ := hb1; have HW1 : Hid (w1 = _) := hw1; clear h hk hw1 hb1 hbx hkk; go_enter Tryz.func10, Tryz.ntmps10
 (go_wp2_with fail); rw [← HW1.out]; refine Calls.mono HM.out ?_; rintro e9 u ⟨rfl, hu⟩; have hu := hu.symm; subst hu; (go_wp2_with fail); refine Calls.mono HG.out ?_; rintro e9 u2 ⟨rfl, hb2⟩; have HB2 : Hid _ := hb2; clear hb2 hc0 hc1; go_wp2; go_ret; exact ⟨rfl, HB1.out.trans (HB2.out.mono HB1.out.size)⟩
theorem fqueue_nil (h : FSw w P s W) (k : Fk) (ba : Option Addr) (n bc : Nat) (hk : 0 ≤ k.1 ∧ k.1 < 8 ∧ k.2 ≤ mxX) (h0 : n = 0) : Calls Tryz.prog 10 #[.pointer (some ⟨P.p, 0, none⟩), fv k, .slice ba n bc] w fun e w' => e = .returned (.int .i64 1) ∧ Below w.heap.size w w' := by
 subst h0; obtain ⟨s1, s2⟩ := k; obtain ⟨w1, hw1⟩ : ∃ w1, w1 = w.alloc (.cells #[.int .i64 s1, .int .u64 (s2 : Int)] tFk) := ⟨_, rfl⟩; have hb1 : Below w.heap.size w w1 := by rw [hw1]; exact alw (bR _ _) _
 have hbx : w1.heap[w.heap.size]? = some (.cells #[.int .i64 s1, .int .u64 (s2 : Int)] tFk (0, 0)) := by rw [hw1]; exact heap_alloc_new w _
 have hkk : ∀ u, Below w1.heap.size w1 u → u.cell? ⟨w.heap.size, 0, none⟩ = some (.int .i64 s1) ∧ u.cell? ⟨w.heap.size, 1, none⟩ = some (.int .u64 (s2 : Int)) := fun u hu => by
  have h9 := (hu.block _ (sI hbx).1).trans hbx; exact ⟨by rw [cR h9]; rfl, by rw [cR h9]; rfl⟩
 have HKK : Hid _ := hkk; have hc0 := (hkk _ (bR _ _)).1; have hc1 := (hkk _ (bR _ _)).2; have HM : Hid _ := fmade_t (h.below hb1); have HG : Hid (Calls Tryz.prog 35 #[fv (s1, s2)] w1 fun e w' => e = .returned (.bool true) ∧ Below w1.heap.size w1 w') := Calls.mono (fisGood_t (s1, s2) w1) (fun e u hu => ⟨by rw [hu.1, decide_eq_true hk], hu.2⟩); have HB1 : Hid _ := hb1; have HW1 : Hid (w1 = _) := hw1; clear h hk hw1 hb1 hbx hkk; go_enter Tryz.func10, Tryz.ntmps10
 (go_wp2_with fail); rw [← HW1.out]; refine Calls.mono HM.out ?_; rintro e9 u ⟨rfl, hu⟩; have hu := hu.symm; subst hu; (go_wp2_with fail); refine Calls.mono HG.out ?_; rintro e9 u2 ⟨rfl, hb2⟩; have HB2 : Hid _ := hb2; clear hb2 hc0 hc1; go_wp2; go_ret; exact ⟨rfl, HB1.out.trans (HB2.out.mono HB1.out.size)⟩
theorem fqueue_big (h : FSw w P s W) (k : Fk) (ba : Option Addr) (n bc : Nat) (hk : 0 ≤ k.1 ∧ k.1 < 8 ∧ k.2 ≤ mxX) (h0 : 1024 < n) : Calls Tryz.prog 10 #[.pointer (some ⟨P.p, 0, none⟩), fv k, .slice ba n bc] w fun e w' => e = .returned (.int .i64 1) ∧ Below w.heap.size w w' := by
 have hz : ((n : Int) == 0) = false := by simp; omega
 have hz2 : ¬ (n : Int) = 0 := by omega
 have hbg : (1024 : Int) < (n : Int) := by omega
 obtain ⟨s1, s2⟩ := k; obtain ⟨w1, hw1⟩ : ∃ w1, w1 = w.alloc (.cells #[.int .i64 s1, .int .u64 (s2 : Int)] tFk) := ⟨_, rfl⟩; have hb1 : Below w.heap.size w w1 := by rw [hw1]; exact alw (bR _ _) _
 have hbx : w1.heap[w.heap.size]? = some (.cells #[.int .i64 s1, .int .u64 (s2 : Int)] tFk (0, 0)) := by rw [hw1]; exact heap_alloc_new w _
 have hkk : ∀ u, Below w1.heap.size w1 u → u.cell? ⟨w.heap.size, 0, none⟩ = some (.int .i64 s1) ∧ u.cell? ⟨w.heap.size, 1, none⟩ = some (.int .u64 (s2 : Int)) := fun u hu => by
  have h9 := (hu.block _ (sI hbx).1).trans hbx; exact ⟨by rw [cR h9]; rfl, by rw [cR h9]; rfl⟩
 have HKK : Hid _ := hkk; have hc0 := (hkk _ (bR _ _)).1; have hc1 := (hkk _ (bR _ _)).2; have HM : Hid _ := fmade_t (h.below hb1); have HG : Hid (Calls Tryz.prog 35 #[fv (s1, s2)] w1 fun e w' => e = .returned (.bool true) ∧ Below w1.heap.size w1 w') := Calls.mono (fisGood_t (s1, s2) w1) (fun e u hu => ⟨by rw [hu.1, decide_eq_true hk], hu.2⟩); have HB1 : Hid _ := hb1; have HW1 : Hid (w1 = _) := hw1; clear h hk hw1 hb1 hbx hkk h0; go_enter Tryz.func10, Tryz.ntmps10
 (go_wp2_with fail); rw [← HW1.out]; refine Calls.mono HM.out ?_; rintro e9 u ⟨rfl, hu⟩; have hu := hu.symm; subst hu; (go_wp2_with fail); refine Calls.mono HG.out ?_; rintro e9 u2 ⟨rfl, hb2⟩; have HB2 : Hid _ := hb2; clear hb2 hc0 hc1; go_wp2; go_ret; exact ⟨rfl, HB1.out.trans (HB2.out.mono HB1.out.size)⟩
theorem fqueue_way (h : FSw w P s W) (k : Fk) (ba : Option Addr) (n bc : Nat) (hk : 0 ≤ k.1 ∧ k.1 < 8 ∧ k.2 ≤ mxX) (h0 : 1 ≤ n) (h00 : n ≤ 1024) (h1 : k ∈ s.L.map Fe.k) : Calls Tryz.prog 10 #[.pointer (some ⟨P.p, 0, none⟩), fv k, .slice ba n bc] w fun e w' => e = .returned (.int .i64 3) ∧ Below w.heap.size w w' := by
 have hz : ((n : Int) == 0) = false := by simp; omega
 have hz2 : ¬ (n : Int) = 0 := by omega
 have hbg : ¬ (1024 : Int) < (n : Int) := by omega
 obtain ⟨s1, s2⟩ := k; obtain ⟨w1, hw1⟩ : ∃ w1, w1 = w.alloc (.cells #[.int .i64 s1, .int .u64 (s2 : Int)] tFk) := ⟨_, rfl⟩; have hb1 : Below w.heap.size w w1 := by rw [hw1]; exact alw (bR _ _) _
 have hbx : w1.heap[w.heap.size]? = some (.cells #[.int .i64 s1, .int .u64 (s2 : Int)] tFk (0, 0)) := by rw [hw1]; exact heap_alloc_new w _
 have hkk : ∀ u, Below w1.heap.size w1 u → u.cell? ⟨w.heap.size, 0, none⟩ = some (.int .i64 s1) ∧ u.cell? ⟨w.heap.size, 1, none⟩ = some (.int .u64 (s2 : Int)) := fun u hu => by
  have h9 := (hu.block _ (sI hbx).1).trans hbx; exact ⟨by rw [cR h9]; rfl, by rw [cR h9]; rfl⟩
 have HKK : Hid _ := hkk; have hc0 := (hkk _ (bR _ _)).1; have hc1 := (hkk _ (bR _ _)).2; have HM : Hid _ := fmade_t (h.below hb1); have HG : Hid (Calls Tryz.prog 35 #[fv (s1, s2)] w1 fun e w' => e = .returned (.bool true) ∧ Below w1.heap.size w1 w') := Calls.mono (fisGood_t (s1, s2) w1) (fun e u hu => ⟨by rw [hu.1, decide_eq_true hk], hu.2⟩); have HB1 : Hid _ := hb1; have HW1 : Hid (w1 = _) := hw1
 have HN : Hid (∀ u, Below w1.heap.size w1 u → Calls Tryz.prog 36 #[.pointer (some ⟨P.p, 0, none⟩), fv (s1, s2)] u fun e w' => (∃ z : Nat, (0 : Int) < (z : Int) ∧ e = .returned (.int .u64 (z : Int))) ∧ Below u.heap.size u w') := fun u hu => Calls.mono (fnumberOf_t ((h.below hb1).below hu) (s1, s2)) (fun e u' hu' => ⟨by
   rcases hu'.1 with ⟨y, hy, hyk, he⟩ | ⟨hno, -⟩
   · have := (h.inv.num y hy).1; exact ⟨y.n, by omega, he⟩
   · exact absurd h1 hno, hu'.2⟩)
 clear h hk hw1 hb1 hbx hkk h0 h00 h1; go_enter Tryz.func10, Tryz.ntmps10
 (go_wp2_with fail); rw [← HW1.out]; refine Calls.mono HM.out ?_; rintro e9 u ⟨rfl, hu⟩; have hu := hu.symm; subst hu; (go_wp2_with fail); refine Calls.mono HG.out ?_; rintro e9 u2 ⟨rfl, hb2⟩; have hd0 := (HKK.out _ hb2).1; have hd1 := (HKK.out _ hb2).2; have HN2 : Hid _ := HN.out _ hb2; have HB2 : Hid _ := hb2; clear hb2 hc0 hc1; (go_wp2_with fail); refine Calls.mono HN2.out ?_; rintro e9 u3 ⟨⟨z, hz9, rfl⟩, hb3⟩; have HB3 : Hid _ := hb3; clear hb3 hd0 hd1; go_wp2; go_ret; exact ⟨rfl, HB1.out.trans ((below_next HB2.out HB3.out).mono HB1.out.size)⟩
theorem fqueue_row (h : FSw w P s W) (k : Fk) (ba : Option Addr) (n bc : Nat) (hk : 0 ≤ k.1 ∧ k.1 < 8 ∧ k.2 ≤ mxX) (h0 : 1 ≤ n) (h00 : n ≤ 1024) (h1 : k ∉ s.L.map Fe.k) (h2 : k ∈ s.row.map Prod.fst) : Calls Tryz.prog 10 #[.pointer (some ⟨P.p, 0, none⟩), fv k, .slice ba n bc] w fun e w' => e = .returned (.int .i64 3) ∧ Below w.heap.size w w' := by
 have hz : ((n : Int) == 0) = false := by simp; omega
 have hz2 : ¬ (n : Int) = 0 := by omega
 have hbg : ¬ (1024 : Int) < (n : Int) := by omega
 obtain ⟨s1, s2⟩ := k; obtain ⟨w1, hw1⟩ : ∃ w1, w1 = w.alloc (.cells #[.int .i64 s1, .int .u64 (s2 : Int)] tFk) := ⟨_, rfl⟩; have hb1 : Below w.heap.size w w1 := by rw [hw1]; exact alw (bR _ _) _
 have hbx : w1.heap[w.heap.size]? = some (.cells #[.int .i64 s1, .int .u64 (s2 : Int)] tFk (0, 0)) := by rw [hw1]; exact heap_alloc_new w _
 have hkk : ∀ u, Below w1.heap.size w1 u → u.cell? ⟨w.heap.size, 0, none⟩ = some (.int .i64 s1) ∧ u.cell? ⟨w.heap.size, 1, none⟩ = some (.int .u64 (s2 : Int)) := fun u hu => by
  have h9 := (hu.block _ (sI hbx).1).trans hbx; exact ⟨by rw [cR h9]; rfl, by rw [cR h9]; rfl⟩
 have HKK : Hid _ := hkk; have hc0 := (hkk _ (bR _ _)).1; have hc1 := (hkk _ (bR _ _)).2; have HM : Hid _ := fmade_t (h.below hb1); have HG : Hid (Calls Tryz.prog 35 #[fv (s1, s2)] w1 fun e w' => e = .returned (.bool true) ∧ Below w1.heap.size w1 w') := Calls.mono (fisGood_t (s1, s2) w1) (fun e u hu => ⟨by rw [hu.1, decide_eq_true hk], hu.2⟩); have HB1 : Hid _ := hb1; have HW1 : Hid (w1 = _) := hw1
 have HN : Hid (∀ u, Below w1.heap.size w1 u → Calls Tryz.prog 36 #[.pointer (some ⟨P.p, 0, none⟩), fv (s1, s2)] u fun e w' => e = .returned (.int .u64 0) ∧ Below u.heap.size u w') := fun u hu => Calls.mono (fnumberOf_t ((h.below hb1).below hu) (s1, s2)) (fun e u' hu' => ⟨by
   rcases hu'.1 with ⟨y, hy, hyk, he⟩ | ⟨-, he⟩
   · exact absurd (List.mem_map.2 ⟨y, hy, hyk⟩) h1
   · exact he, hu'.2⟩)
 have HP : Hid (∀ u, Below w1.heap.size w1 u → Calls Tryz.prog 37 #[.pointer (some ⟨P.p, 0, none⟩), fv (s1, s2)] u fun e w' => (∃ z : Nat, (0 : Int) ≤ (z : Int) ∧ e = .returned (.int .i64 (z : Int))) ∧ Below u.heap.size u w') := fun u hu => Calls.mono (fplaceOf_t ((h.below hb1).below hu) (s1, s2)) (fun e u' hu' => ⟨by
   rcases hu'.1 with ⟨j, hj, hjk, he⟩ | ⟨hno, -⟩
   · exact ⟨j, by omega, he⟩
   · exact absurd (by rw [h.rk]; exact h2) hno, hu'.2⟩)
 clear h hk hw1 hb1 hbx hkk h0 h00 h1 h2; go_enter Tryz.func10, Tryz.ntmps10
 (go_wp2_with fail); rw [← HW1.out]; refine Calls.mono HM.out ?_; rintro e9 u ⟨rfl, hu⟩; have hu := hu.symm; subst hu; (go_wp2_with fail); refine Calls.mono HG.out ?_; rintro e9 u2 ⟨rfl, hb2⟩; have hd0 := (HKK.out _ hb2).1; have hd1 := (HKK.out _ hb2).2; have HN2 : Hid _ := HN.out _ hb2; have HB2 : Hid _ := hb2; clear hb2 hc0 hc1; (go_wp2_with fail); refine Calls.mono HN2.out ?_; rintro e9 u3 ⟨rfl, hb3⟩; have hb23 : Below w1.heap.size w1 u3 := below_next HB2.out hb3; have hd2 := (HKK.out _ hb23).1; have hd3 := (HKK.out _ hb23).2; have HP3 : Hid _ := HP.out _ hb23; have HB3 : Hid _ := hb23; clear hb3 hb23 hd0 hd1; (go_wp2_with fail); refine Calls.mono HP3.out ?_; rintro e9 u4 ⟨⟨z, hz9, rfl⟩, hb4⟩; have HB4 : Hid _ := hb4; clear hb4 hd2 hd3; go_wp2; go_ret; exact ⟨rfl, HB1.out.trans ((below_next HB3.out HB4.out).mono HB1.out.size)⟩
theorem fqueue_full (h : FSw w P s W) (k : Fk) (ba : Option Addr) (n bc : Nat) (hk : 0 ≤ k.1 ∧ k.1 < 8 ∧ k.2 ≤ mxX) (h0 : 1 ≤ n) (h00 : n ≤ 1024) (h1 : k ∉ s.L.map Fe.k) (h2 : k ∉ s.row.map Prod.fst) (h3 : 64 ≤ s.row.length + s.L.length) : Calls Tryz.prog 10 #[.pointer (some ⟨P.p, 0, none⟩), fv k, .slice ba n bc] w fun e w' => e = .returned (.int .i64 2) ∧ Below w.heap.size w w' := by
 have hz : ((n : Int) == 0) = false := by simp; omega
 have hz2 : ¬ (n : Int) = 0 := by omega
 have hbg : ¬ (1024 : Int) < (n : Int) := by omega
 obtain ⟨s1, s2⟩ := k; obtain ⟨w1, hw1⟩ : ∃ w1, w1 = w.alloc (.cells #[.int .i64 s1, .int .u64 (s2 : Int)] tFk) := ⟨_, rfl⟩; have hb1 : Below w.heap.size w w1 := by rw [hw1]; exact alw (bR _ _) _
 have hbx : w1.heap[w.heap.size]? = some (.cells #[.int .i64 s1, .int .u64 (s2 : Int)] tFk (0, 0)) := by rw [hw1]; exact heap_alloc_new w _
 have hkk : ∀ u, Below w1.heap.size w1 u → u.cell? ⟨w.heap.size, 0, none⟩ = some (.int .i64 s1) ∧ u.cell? ⟨w.heap.size, 1, none⟩ = some (.int .u64 (s2 : Int)) := fun u hu => by
  have h9 := (hu.block _ (sI hbx).1).trans hbx; exact ⟨by rw [cR h9]; rfl, by rw [cR h9]; rfl⟩
 have HKK : Hid _ := hkk; have hc0 := (hkk _ (bR _ _)).1; have hc1 := (hkk _ (bR _ _)).2; have HM : Hid _ := fmade_t (h.below hb1); have HG : Hid (Calls Tryz.prog 35 #[fv (s1, s2)] w1 fun e w' => e = .returned (.bool true) ∧ Below w1.heap.size w1 w') := Calls.mono (fisGood_t (s1, s2) w1) (fun e u hu => ⟨by rw [hu.1, decide_eq_true hk], hu.2⟩); have HB1 : Hid _ := hb1; have HW1 : Hid (w1 = _) := hw1
 have HN : Hid (∀ u, Below w1.heap.size w1 u → Calls Tryz.prog 36 #[.pointer (some ⟨P.p, 0, none⟩), fv (s1, s2)] u fun e w' => e = .returned (.int .u64 0) ∧ Below u.heap.size u w') := fun u hu => Calls.mono (fnumberOf_t ((h.below hb1).below hu) (s1, s2)) (fun e u' hu' => ⟨by
   rcases hu'.1 with ⟨y, hy, hyk, he⟩ | ⟨-, he⟩
   · exact absurd (List.mem_map.2 ⟨y, hy, hyk⟩) h1
   · exact he, hu'.2⟩)
 have HP : Hid (∀ u, Below w1.heap.size w1 u → Calls Tryz.prog 37 #[.pointer (some ⟨P.p, 0, none⟩), fv (s1, s2)] u fun e w' => e = .returned (.int .i64 (-1)) ∧ Below u.heap.size u w') := fun u hu => Calls.mono (fplaceOf_t ((h.below hb1).below hu) (s1, s2)) (fun e u' hu' => ⟨by
   rcases hu'.1 with ⟨j, hj, hjk, he⟩ | ⟨-, he⟩
   · exact absurd (by rw [← h.rk]; exact List.mem_map.2 ⟨_, List.getElem_mem hj, hjk⟩) h2
   · exact he, hu'.2⟩)
 obtain ⟨a, cp, hv, -⟩ := OwnG.val h.row; obtain ⟨m, hm⟩ : ∃ m, m = P.R.length := ⟨_, rfl⟩; rw [← hm] at hv; obtain ⟨l, hl⟩ : ∃ l, l = s.L.length := ⟨_, rfl⟩
 have HC : Hid (∀ u, Below w1.heap.size w1 u → ∀ u', Below u.heap.size u u' → u'.cell? ⟨P.p, 6, none⟩ = some (.slice a m cp) ∧ u'.cell? ⟨P.p, 7, none⟩ = some (.map (some P.ms)) ∧ ∀ ty, (Builtin.len_ #[tMp] ty #[.map (some P.ms)]).run Tryz.prog u' = .ok (.int .i64 (l : Int)) u') := fun u hu u' hu' => by
  have h8 := ((h.below hb1).below hu).below hu'; refine ⟨by rw [← hv]; exact h8.cell 6, h8.cell 7, fun ty => ?_⟩; have h9 := h8.mp.len uMp ty; rw [mpF_len h.len, ← hl] at h9; exact h9
 have hlen := h.inv.len; have HSM : Hid (m = s.row.length ∧ l = s.L.length) := ⟨by rw [hm, h.rlen], hl⟩; obtain ⟨t, ht⟩ : ∃ t, t = m + l := ⟨_, rfl⟩; have hwr : IntKind.i64.wrap ((m : Int) + (l : Int)) = (t : Int) := by rw [IntKind.wrap_i64]; have h8 := HSM.out.1; have h9 := HSM.out.2; omega
 have hge : (64 : Int) ≤ (t : Int) := by have h8 := HSM.out.1; have h9 := HSM.out.2; omega
 clear h hk hw1 hb1 hbx hkk h0 h00 h1 h2 h3 hv hm hl hlen ht; go_enter Tryz.func10, Tryz.ntmps10
 (go_wp2_with fail); rw [← HW1.out]; refine Calls.mono HM.out ?_; rintro e9 u ⟨rfl, hu⟩; have hu := hu.symm; subst hu; (go_wp2_with fail); refine Calls.mono HG.out ?_; rintro e9 u2 ⟨rfl, hb2⟩; have hd0 := (HKK.out _ hb2).1; have hd1 := (HKK.out _ hb2).2; have HN2 : Hid _ := HN.out _ hb2; have HB2 : Hid _ := hb2; clear hb2 hc0 hc1; (go_wp2_with fail); refine Calls.mono HN2.out ?_; rintro e9 u3 ⟨rfl, hb3⟩; have hb23 : Below w1.heap.size w1 u3 := below_next HB2.out hb3; have hd2 := (HKK.out _ hb23).1; have hd3 := (HKK.out _ hb23).2; have HP3 : Hid _ := HP.out _ hb23; have HB3 : Hid _ := hb23; clear hb3 hb23 hd0 hd1; (go_wp2_with fail); refine Calls.mono HP3.out ?_; rintro e9 u4 ⟨rfl, hb4⟩; have hb34 : Below w1.heap.size w1 u4 := below_next HB3.out hb4; have hqc := HC.out _ hb34; have HB4 : Hid _ := hb34; clear hb4 hb34 hd2 hd3; (go_wp2_with fail); refine wp_region_noPanic ?_; refine wp_region_held_drew (S := (fun u => Below u4.heap.size u4 u)) (by kernel_rfl) (by first | exact (bR _ _).drew | assumption) (fun hHeld => ?_); refine tz 0 35 hHeld ?_; simp only [pS]; refine tz 1 36 hHeld ?_; simp only [pS]; refine tz 2 37 hHeld ?_; simp only [pS]; refine tk 3 38 (v := .slice a m cp) ?_ hHeld ?_
 · (intro w hSw; have hc9 := hqc _ hSw; go_simp; try with_reducible rfl)
 simp only [pS]; refine tz 4 39 hHeld ?_; simp only [pS]; refine tz 5 40 hHeld ?_; simp only [pS]; refine tz 6 41 hHeld ?_; simp only [pS]; refine tz 7 42 hHeld ?_; simp only [pS]; refine tk 8 43 (v := .map (some P.ms)) ?_ hHeld ?_
 · (intro w hSw; have hc9 := hqc _ hSw; go_simp; try with_reducible rfl)
 simp only [pS]; refine tk 9 44 (v := .int .i64 (l : Int)) ?_ hHeld ?_
 · (intro w hSw; have hc9 := (hqc _ hSw).2.2; go_simp; try with_reducible rfl)
 simp only [pS]; refine tk 10 45 (v := .int .i64 (t : Int)) ?_ hHeld ?_
 · (intro w hSw; go_simp; try with_reducible rfl)
 simp only [pS]; refine tk 11 46 (v := .bool true) ?_ hHeld ?_
 · (intro w hSw; go_simp; try with_reducible rfl)
 simp only [pS]; refine wpAnyH_done (by kernel_rfl) ?_ _; refine NoPanic.normal ?_; clear hqc; go_wp2; go_ret; exact ⟨rfl, HB1.out.trans (HB4.out.drew.mono HB1.out.size)⟩
end
open Go.RowKit Go.Maps
section
variable {w w' : World} {P : Fp} {s : Fs} {W W' : List Wh.Tm}
theorem FInv.rowPush (h : FInv s) {k : Fk} {xs : Seg} (hk : goodK k) (h1 : k ∉ s.L.map Fe.k) (h2 : k ∉ s.row.map Prod.fst) (h3 : s.row.length + s.L.length < 64) (h4 : 1 ≤ xs.length) (h5 : xs.length ≤ 1024) : FInv { s with row := s.row ++ [(k, xs)] } := by
 refine ⟨h.mt, h.rt, h.rs, h.wn, h.e, h.c, h.nc, ?_, h.lw, h.num, h.up, ?_, ?_, ?_, h.seg, h.ag⟩
 · show (s.row ++ [(k, xs)]).length + s.L.length ≤ 64; rw [List.length_append]; show s.row.length + 1 + s.L.length ≤ 64; omega
 · rintro q (hq | hq)
   · rw [List.map_append, List.mem_append] at hq; rcases hq with hq | hq
     · exact h.good q (.inl hq)
     · simp at hq; rw [hq]; exact hk
   · exact h.good q (.inr hq)
 · have h9 := h.nk; show ((s.row ++ [(k, xs)]).map Prod.fst ++ s.L.map Fe.k).Nodup; rw [List.map_append, List.append_assoc]; rw [List.nodup_append] at h9 ⊢; obtain ⟨n1, n2, n3⟩ := h9; refine ⟨n1, ?_, ?_⟩
   · rw [List.nodup_append]; refine ⟨by simp, n2, ?_⟩; intro a ha b hb e; simp at ha; subst e; rw [ha] at hb; exact h1 hb
   · intro a ha b hb e; rw [List.mem_append] at hb; rcases hb with hb | hb
     · simp at hb; rw [e, hb] at ha; exact h2 ha
     · exact n3 a ha b hb e
 · intro r hr; rw [List.mem_append] at hr; rcases hr with hr | hr
   · exact h.blk r hr
   · simp at hr; rw [hr]; exact ⟨h4, h5⟩
set_option maxRecDepth 20000
set_option maxHeartbeats 3200000
theorem fqueue_ok (h : FSw w P s W) (k : Fk) (ba : Option Addr) (n bc : Nat) (xs : Seg) (hn : n = xs.length) (hx : Rd w ba xs) (hnil : ba = none → bc = 0) (hk : 0 ≤ k.1 ∧ k.1 < 8 ∧ k.2 ≤ mxX) (h0 : 1 ≤ n) (h00 : n ≤ 1024) (h1 : k ∉ s.L.map Fe.k) (h2 : k ∉ s.row.map Prod.fst) (h3 : s.row.length + s.L.length < 64) : Calls Tryz.prog 10 #[.pointer (some ⟨P.p, 0, none⟩), fv k, .slice ba n bc] w fun e w' => e = .returned (.int .i64 0) ∧ ∃ rv' d, FSw w' { P with rv := rv', R := P.R ++ [(k, d)] } { s with row := s.row ++ [(k, xs)] } W ∧ FStp w w' P { P with rv := rv', R := P.R ++ [(k, d)] } := by
 have hz : ((n : Int) == 0) = false := by simp; omega
 have hz2 : ¬ (n : Int) = 0 := by omega
 have hbg : ¬ (1024 : Int) < (n : Int) := by omega
 obtain ⟨s1, s2⟩ := k; obtain ⟨w1, hw1⟩ : ∃ w1, w1 = w.alloc (.cells #[.int .i64 s1, .int .u64 (s2 : Int)] tFk) := ⟨_, rfl⟩; have hb1 : Below w.heap.size w w1 := by rw [hw1]; exact alw (bR _ _) _
 have hbx : w1.heap[w.heap.size]? = some (.cells #[.int .i64 s1, .int .u64 (s2 : Int)] tFk (0, 0)) := by rw [hw1]; exact heap_alloc_new w _
 have hkk : ∀ u, Below w1.heap.size w1 u → u.cell? ⟨w.heap.size, 0, none⟩ = some (.int .i64 s1) ∧ u.cell? ⟨w.heap.size, 1, none⟩ = some (.int .u64 (s2 : Int)) := fun u hu => by
  have h9 := (hu.block _ (sI hbx).1).trans hbx; exact ⟨by rw [cR h9]; rfl, by rw [cR h9]; rfl⟩
 have HKK : Hid _ := hkk; have hc0 := (hkk _ (bR _ _)).1; have hc1 := (hkk _ (bR _ _)).2; have HM : Hid _ := fmade_t (h.below hb1); have HG : Hid (Calls Tryz.prog 35 #[fv (s1, s2)] w1 fun e w' => e = .returned (.bool true) ∧ Below w1.heap.size w1 w') := Calls.mono (fisGood_t (s1, s2) w1) (fun e u hu => ⟨by rw [hu.1, decide_eq_true hk], hu.2⟩); have HB1 : Hid _ := hb1; have HW1 : Hid (w1 = _) := hw1
 have HN : Hid (∀ u, Below w1.heap.size w1 u → Calls Tryz.prog 36 #[.pointer (some ⟨P.p, 0, none⟩), fv (s1, s2)] u fun e w' => e = .returned (.int .u64 0) ∧ Below u.heap.size u w') := fun u hu => Calls.mono (fnumberOf_t ((h.below hb1).below hu) (s1, s2)) (fun e u' hu' => ⟨by
   rcases hu'.1 with ⟨y, hy, hyk, he⟩ | ⟨-, he⟩
   · exact absurd (List.mem_map.2 ⟨y, hy, hyk⟩) h1
   · exact he, hu'.2⟩)
 have HP : Hid (∀ u, Below w1.heap.size w1 u → Calls Tryz.prog 37 #[.pointer (some ⟨P.p, 0, none⟩), fv (s1, s2)] u fun e w' => e = .returned (.int .i64 (-1)) ∧ Below u.heap.size u w') := fun u hu => Calls.mono (fplaceOf_t ((h.below hb1).below hu) (s1, s2)) (fun e u' hu' => ⟨by
   rcases hu'.1 with ⟨j, hj, hjk, he⟩ | ⟨-, he⟩
   · exact absurd (by rw [← h.rk]; exact List.mem_map.2 ⟨_, List.getElem_mem hj, hjk⟩) h2
   · exact he, hu'.2⟩)
 obtain ⟨a, cp, hv, -⟩ := OwnG.val h.row; obtain ⟨m, hm⟩ : ∃ m, m = P.R.length := ⟨_, rfl⟩; rw [← hm] at hv; obtain ⟨l, hl⟩ : ∃ l, l = s.L.length := ⟨_, rfl⟩
 have HC : Hid (∀ u, Below w1.heap.size w1 u → ∀ u', Below u.heap.size u u' → u'.cell? ⟨P.p, 6, none⟩ = some (.slice a m cp) ∧ u'.cell? ⟨P.p, 7, none⟩ = some (.map (some P.ms)) ∧ ∀ ty, (Builtin.len_ #[tMp] ty #[.map (some P.ms)]).run Tryz.prog u' = .ok (.int .i64 (l : Int)) u') := fun u hu u' hu' => by
  have h8 := ((h.below hb1).below hu).below hu'; refine ⟨by rw [← hv]; exact h8.cell 6, h8.cell 7, fun ty => ?_⟩; have h9 := h8.mp.len uMp ty; rw [mpF_len h.len, ← hl] at h9; exact h9
 have hlen := h.inv.len; have HSM : Hid (m = s.row.length ∧ l = s.L.length) := ⟨by rw [hm, h.rlen], hl⟩; obtain ⟨t, ht⟩ : ∃ t, t = m + l := ⟨_, rfl⟩; have hwr : IntKind.i64.wrap ((m : Int) + (l : Int)) = (t : Int) := by rw [IntKind.wrap_i64]; have h8 := HSM.out.1; have h9 := HSM.out.2; omega
 have hge : ¬ (64 : Int) ≤ (t : Int) := by have h8 := HSM.out.1; have h9 := HSM.out.2; omega
 have hm64 : m ≤ 63 := by have h8 := HSM.out.1; omega
 have HIN : Hid _ := h.inv.rowPush (xs := xs) hk h1 h2 h3 (by omega) (by omega); have HX : Hid (∀ u, Below w1.heap.size w1 u → Rd u ba xs) := fun u hu => Rd.below (Rd.below hx hb1) hu
 have HNI : Hid (ba = none → bc = 0) := hnil; have HLN : Hid (n = xs.length) := hn; have HM5 : Hid (m = P.R.length) := hm; have HV : Hid (P.rv = .slice a m cp) := hv; have HFS : Hid (∀ u, Below w1.heap.size w1 u → FSw u P s W) := fun u hu => (h.below hb1).below hu
 have HSZ : Hid (w1.heap.size = w.heap.size + 1) := by unfold Hid; rw [hw1]; simp
 clear h hk hw1 hb1 hbx hkk h0 h1 h2 h3 hv hm hl hlen ht hx hnil hn; go_enter Tryz.func10, Tryz.ntmps10
 (go_wp2_with fail); rw [← HW1.out]; refine Calls.mono HM.out ?_; rintro e9 u ⟨rfl, hu⟩; have hu := hu.symm; subst hu; (go_wp2_with fail); refine Calls.mono HG.out ?_; rintro e9 u2 ⟨rfl, hb2⟩; have hd0 := (HKK.out _ hb2).1; have hd1 := (HKK.out _ hb2).2; have HN2 : Hid _ := HN.out _ hb2; have HB2 : Hid _ := hb2; clear hb2 hc0 hc1; (go_wp2_with fail); refine Calls.mono HN2.out ?_; rintro e9 u3 ⟨rfl, hb3⟩; have hb23 : Below w1.heap.size w1 u3 := below_next HB2.out hb3; have hd2 := (HKK.out _ hb23).1; have hd3 := (HKK.out _ hb23).2; have HP3 : Hid _ := HP.out _ hb23; have HB3 : Hid _ := hb23; clear hb3 hb23 hd0 hd1; (go_wp2_with fail); refine Calls.mono HP3.out ?_; rintro e9 u4 ⟨rfl, hb4⟩; have hb34 : Below w1.heap.size w1 u4 := below_next HB3.out hb4; have hqc := HC.out _ hb34; have HB4 : Hid _ := hb34; clear hb4 hb34 hd2 hd3; (go_wp2_with fail); refine wp_region_noPanic ?_; refine wp_region_held_drew (S := (fun u => Below u4.heap.size u4 u)) (by kernel_rfl) (by first | exact (bR _ _).drew | assumption) (fun hHeld => ?_); refine tz 0 35 hHeld ?_; simp only [pS]; refine tz 1 36 hHeld ?_; simp only [pS]; refine tz 2 37 hHeld ?_; simp only [pS]; refine tk 3 38 (v := .slice a m cp) ?_ hHeld ?_
 · (intro w hSw; have hc9 := hqc _ hSw; go_simp; try with_reducible rfl)
 simp only [pS]; refine tz 4 39 hHeld ?_; simp only [pS]; refine tz 5 40 hHeld ?_; simp only [pS]; refine tz 6 41 hHeld ?_; simp only [pS]; refine tz 7 42 hHeld ?_; simp only [pS]; refine tk 8 43 (v := .map (some P.ms)) ?_ hHeld ?_
 · (intro w hSw; have hc9 := hqc _ hSw; go_simp; try with_reducible rfl)
 simp only [pS]; refine tk 9 44 (v := .int .i64 (l : Int)) ?_ hHeld ?_
 · (intro w hSw; have hc9 := (hqc _ hSw).2.2; go_simp; try with_reducible rfl)
 simp only [pS]; refine tk 10 45 (v := .int .i64 (t : Int)) ?_ hHeld ?_
 · (intro w hSw; go_simp; try with_reducible rfl)
 simp only [pS]; refine tk 11 46 (v := .bool false) ?_ hHeld ?_
 · (intro w hSw; go_simp; try with_reducible rfl)
 simp only [pS]; refine wpAnyH_done (by kernel_rfl) ?_ _; refine NoPanic.normal ?_; clear hqc hHeld; (go_wp2_with fail); obtain ⟨w5, hw5⟩ : ∃ w5, w5 = u4.drew := ⟨_, rfl⟩; have hb5 : Below w1.heap.size w1 w5 := by rw [hw5]; exact HB4.out.drew
 try rw [← hw5]
 have HB5 : Hid _ := hb5; have h5 := HFS.out _ hb5; have HF5 : Hid _ := h5; have HC1 : Hid (∀ u, Below w5.heap.size w5 u → u.cell? ⟨P.p, 6, none⟩ = some (.slice a m cp)) := fun u hu => by rw [← HV.out]; exact (h5.below hu).cell 6
 have HK5 : Hid (∀ u, Below w5.heap.size w5 u → u.cell? ⟨w.heap.size, 0, none⟩ = some (.int .i64 s1) ∧ u.cell? ⟨w.heap.size, 1, none⟩ = some (.int .u64 (s2 : Int))) := fun u hu => HKK.out _ (below_next hb5 hu)
 have HRD : Hid (∀ u, Below w5.heap.size w5 u → Rd u ba xs) := fun u hu => HX.out _ (below_next hb5 hu)
 have HOW : Hid (∀ u, Below w5.heap.size w5 u → OwnG KFr u 0 (.slice a m cp) P.R) := fun u hu => by rw [← HV.out]; exact (h5.below hu).row
 have HQ : Hid (∀ u u', Below w5.heap.size w5 u → u.grownBy u' (Value.slice a m cp).ownBlock → u'.heap[P.p]? = some (.cells (cellsFx s P.rv P.ms P.pw) tFx (0, 0)) ∧ u'.cell? ⟨P.p, 6, none⟩ = some (.slice a m cp) ∧ u'.frozen? ⟨P.p, 6, none⟩ = false) := fun u u' hu hg => by
  have h9 := h5.below hu
  have h8 : u'.heap[P.p]? = some (.cells (cellsFx s P.rv P.ms P.pw) tFx (0, 0)) := (hg.block P.p (h9.lt (.inl rfl)) (fun e => by
    obtain ⟨cur, h7⟩ := h9.row.at_ (b := P.p) (by rw [HV.out]; exact e.symm); rw [h9.blk] at h7
    injection h7 with h7
    injection h7 with h7 h6
    exact absurd h6 (by decide))).trans h9.blk
  exact ⟨h8, by rw [cR h8, ← HV.out]; rfl, by simp [World.frozen?, h8]⟩
 clear hw5 hb5 h5; have hln : n = xs.length := HLN.out; clear HLN; subst hln; refine wp_region_noPanic ?_; refine wp_region_late_drew (S := (fun u => Below w5.heap.size w5 u)) (X := [10, 11, 12, 13]) (by kernel_rfl) (by with_reducible first | exact (bR _ _).drew | exact HB6.out | exact alw HB6.out _ | assumption) (fun hHeld => ?_); refine qA 0 47 hHeld ?_; simp only [pS]; refine qA 1 48 hHeld ?_; simp only [pS]; refine qA 2 49 hHeld ?_; simp only [pS]; refine qA 3 50 hHeld ?_; simp only [pS]; refine qL 4 51 (v := .slice a m cp) ?_ hHeld ?_
 · (intro w hSw; have hc9 := HC1.out _ hSw; go_simp; try with_reducible rfl)
 simp only [pS]; refine qL 5 52 (v := .agg #[.int .i64 s1, .int .u64 (s2 : Int)]) ?_ hHeld ?_
 · (intro w hSw; have hc9 := HK5.out _ hSw; go_simp; try with_reducible rfl)
 simp only [pS]; refine qA 6 53 hHeld ?_; simp only [pS]; refine run_atL (i := 7) rfl (by kernel_rfl) (by rfl) (fun K hK => ?_); simp only [gE]; go_simp
 first | (go_at_call 38; refine Calls.mono (clone_any ba bc xs _ (HRD.out _ hHeld) HNI.out (by omega)) ?_; rintro e9 w6 ⟨v6, rfl, hown6, hb6'⟩; have hb6 : Below w5.heap.size w5 w6 := ⟨hb6'.os, hb6'.tape, hb6'.output, hb6'.size, hb6'.block⟩; have hown6' : Own w6 w5.heap.size v6 xs := hown6; clear hb6' hown6; obtain ⟨a2, c2, hu2, -, -, -, -, -⟩ := hown6'.val; subst hu2; have HO6 : Hid _ := hown6'; have HB6 : Hid _ := hb6; clear hown6' hb6) | (refine wpo_appG1 (K := KFr) _ _ rfl 0 (.slice a m cp) P.R ((s1, s2), ⟨a2, xs.length, c2⟩) m HM5.out ⟨w6.heap.size, 0, none⟩ 1 rfl (HOW.out _ (alw HB6.out _)) rfl (rdG_lit (K := KFr) (heap_alloc_new _ _) rfl) (by show (m + 1) * 40 ≤ _; omega) (by simp only [maxLen]; omega) (Nat.zero_le _) ?_; intro g7 c7 w7 hown7 hg7 hat7; obtain ⟨hblk7, hcq, hfq⟩ := HQ.out _ _ (alw HB6.out _) hg7; have HBK7 : Hid _ := hblk7; have HO7 : Hid _ := hown7; have HG7 : Hid _ := hg7; have HT7 : Hid _ := hat7; clear hblk7 hown7 hg7 hat7)
 (go_wp2_with fail); refine hK.out _ _ (by with_reducible first | exact (bR _ _).drew | exact HB6.out | exact alw HB6.out _ | assumption) ?_; clear hK K; clear hHeld; intro hHeld; (try simp only [pS]); refine qA 8 55 hHeld ?_; simp only [pS]; refine run_atL (i := 9) rfl (by kernel_rfl) (by rfl) (fun K hK => ?_); simp only [gE]; go_simp; (go_wp2_with fail); refine hK.out _ _ (by with_reducible first | exact (bR _ _).drew | exact HB6.out | exact alw HB6.out _ | assumption) ?_; clear hK K; clear hHeld; intro hHeld; (try simp only [pS]); refine run_atLate (i := 10) rfl (by kernel_rfl) (by decide) (by rfl) (fun K hK => ?_); simp only [gE]
 first | (go_at_call 38; refine Calls.mono (clone_any ba bc xs _ (HRD.out _ hHeld) HNI.out (by omega)) ?_; rintro e9 w6 ⟨v6, rfl, hown6, hb6'⟩; have hb6 : Below w5.heap.size w5 w6 := ⟨hb6'.os, hb6'.tape, hb6'.output, hb6'.size, hb6'.block⟩; have hown6' : Own w6 w5.heap.size v6 xs := hown6; clear hb6' hown6; obtain ⟨a2, c2, hu2, -, -, -, -, -⟩ := hown6'.val; subst hu2; have HO6 : Hid _ := hown6'; have HB6 : Hid _ := hb6; clear hown6' hb6) | (refine wpo_appG1 (K := KFr) _ _ rfl 0 (.slice a m cp) P.R ((s1, s2), ⟨a2, xs.length, c2⟩) m HM5.out ⟨w6.heap.size, 0, none⟩ 1 rfl (HOW.out _ (alw HB6.out _)) rfl (rdG_lit (K := KFr) (heap_alloc_new _ _) rfl) (by show (m + 1) * 40 ≤ _; omega) (by simp only [maxLen]; omega) (Nat.zero_le _) ?_; intro g7 c7 w7 hown7 hg7 hat7; obtain ⟨hblk7, hcq, hfq⟩ := HQ.out _ _ (alw HB6.out _) hg7; have HBK7 : Hid _ := hblk7; have HO7 : Hid _ := hown7; have HG7 : Hid _ := hg7; have HT7 : Hid _ := hat7; clear hblk7 hown7 hg7 hat7)
 refine hK.out _ _ ?_; clear hK K; (try simp only [pS]); refine val_atLate (i := 11) 58 (v := ?_) rfl rfl (by kernel_rfl) (by decide) (by rfl) ?_ ?_; rotate_left
 · (go_simp; try with_reducible rfl)
 simp only [pS]; refine val_atLate (i := 12) 59 (v := ?_) rfl rfl (by kernel_rfl) (by decide) (by rfl) ?_ ?_; rotate_left
 · (go_simp; try with_reducible rfl)
 simp only [pS]; refine run_atLate (i := 13) rfl (by kernel_rfl) (by decide) (by rfl) (fun K hK => ?_); simp only [gE]; go_simp; (go_wp2_with fail); refine hK.out _ _ ?_; clear hK K; (try simp only [pS]); refine doneL (by kernel_rfl) ?_ _; refine NoPanic.normal ?_; go_wp2; go_ret; have hb7 : Below w5.heap.size w5 (w6.alloc (.cells #[.int .i64 s1, .int .u64 (s2 : Int), .slice a2 xs.length c2] tFr)) := alw HB6.out _; have hO7 : OwnG KFr w7 0 (.slice (some ⟨g7, 0, none⟩) (m + 1) c7) (P.R ++ [((s1, s2), ⟨a2, xs.length, c2⟩)]) := HO7.out; have hch : Chg (fun b => b = P.p ∨ P.rv.ownBlock = some b) w5 w7 := (Chg.of_below hb7).trans (Chg.of_grown HG7.out (F := fun b => b = P.p ∨ P.rv.ownBlock = some b) (fun b e => .inr (by rw [HV.out]; exact e))) (fun b e => .inl e); have hc2 : Chg (fun b => b = P.p ∨ P.rv.ownBlock = some b) w7 (w7.setCell ⟨P.p, 6, none⟩ (.slice (some ⟨g7, 0, none⟩) (m + 1) c7)) := Chg.of_grown (gset1 w7 P.p 6 _) (fun b e => .inl (Option.some.inj e).symm); have hst : ∀ b, b ≠ P.p → (w7.setCell ⟨P.p, 6, none⟩ (.slice (some ⟨g7, 0, none⟩) (m + 1) c7)).heap[b]? = w7.heap[b]? := fun b hb => heap_setCell_other w7 ⟨P.p, 6, none⟩ b _ hb
 have hf6 : Fml w6 0 (P.R.map Prod.snd ++ [⟨a2, xs.length, c2⟩]) (s.row.map Prod.snd ++ [xs]) := HF5.out.rb.push HB6.out (Nat.zero_le _) HO6.out; have hf7 : Fml (w6.alloc (.cells #[.int .i64 s1, .int .u64 (s2 : Int), .slice a2 xs.length c2] tFr)) 0 (P.R.map Prod.snd ++ [⟨a2, xs.length, c2⟩]) (s.row.map Prod.snd ++ [xs]) := hf6.below (alw (bR _ _) _)
 have hf8 : Fml w7 0 (P.R.map Prod.snd ++ [⟨a2, xs.length, c2⟩]) (s.row.map Prod.snd ++ [xs]) := hf7.keep5 (fun b C hb => HG7.out.block b (sI hb).1 (fun e => by
   obtain ⟨cur, h7⟩ := OwnG.at_ (HOW.out _ hb7) (b := b) e.symm; rw [hb] at h7
   injection h7 with h7
   injection h7 with h7 h6
   exact absurd h6 (by decide)))
 have hf9 : Fml (w7.setCell ⟨P.p, 6, none⟩ (.slice (some ⟨g7, 0, none⟩) (m + 1) c7)) 0 (P.R.map Prod.snd ++ [⟨a2, xs.length, c2⟩]) (s.row.map Prod.snd ++ [xs]) := hf8.keep5 (fun b C hb => hst b (fun e => by
   rw [e, HBK7.out] at hb
   injection hb with h7
   injection h7 with h7 h6
   exact absurd h6 (by decide)))
 have hgp : g7 ≠ P.p := fun e => by
  obtain ⟨cur, h7⟩ := OwnG.at_ hO7 (b := g7) rfl; rw [e, HBK7.out] at h7
  injection h7 with h7
  injection h7 with h7 h6
  exact absurd h6 (by decide)
 obtain ⟨h8, h9⟩ := HF5.out.newRow (rv' := .slice (some ⟨g7, 0, none⟩) (m + 1) c7) (R' := P.R ++ [((s1, s2), ⟨a2, xs.length, c2⟩)]) (row' := s.row ++ [((s1, s2), xs)]) (hch.trans hc2 (fun b hb => .inl hb)) (heap_setCell_same w7 P.p 6 (cellsFx s P.rv P.ms P.pw) tFx _ HBK7.out) (hO7.kept (fun b e => hst b (fun e2 => by cases e; exact hgp e2))) (by rw [List.map_append, List.map_append, HF5.out.rk]; rfl) (by rw [List.map_append, List.map_append]; exact hf9) HIN.out (fun b e => by
     cases e; rcases HT7.out with q | q
     · exact .inl (by rw [HV.out]; exact q)
     · exact .inr (Nat.le_trans hb7.size q)) (fun b e => by
     rw [List.map_append] at e; rcases XV.push e with q | q
     · exact .inl q
     · exact .inr ((World.ownsRow.lt HO6.out b q).1))
 exact ⟨rfl, _, _, h8, (FStp.below (HB1.out.trans (HB5.out.mono HB1.out.size)) P).trans h9⟩
end
open Go.RowKit Go.Maps
def begF (s : Fs) (n : Nat) (k : Fk) (xs : Seg) : Fe := ⟨n, k, segN xs s.mtu (cutN xs.length s.mtu), [], 0, min (s.clk + s.rt) mxX, max (min (s.clk + s.rt) mxX) (s.N + 1), s.S + 1⟩
theorem segs_ok {xs : Seg} {m : Nat} (h1 : 16 ≤ m) (hm : m ≤ 1024) (h2 : 1 ≤ xs.length) (h3 : xs.length ≤ 1024) : (1 ≤ (segN xs m (cutN xs.length m)).length ∧ (segN xs m (cutN xs.length m)).length ≤ 64) ∧ ∀ t, t ∈ segN xs m (cutN xs.length m) → 1 ≤ t.length ∧ t.length ≤ 1024 := by
 have hc : ∀ j, j < cutN xs.length m → j * m < xs.length := fun j hj => by
  unfold cutN at hj; have h3 := (Nat.lt_div_iff_mul_lt (by omega)).1 hj; omega
 refine ⟨⟨?_, ?_⟩, fun t ht => ?_⟩
 · rw [segN_len]; unfold cutN; exact (Nat.le_div_iff_mul_le (by omega)).2 (by omega)
 · rw [segN_len]; rcases Nat.lt_or_ge 64 (cutN xs.length m) with h9 | h9
   · have := hc 64 h9; omega
   · exact h9
 · obtain ⟨i, hi, rfl⟩ := List.getElem_of_mem ht; rw [segN_len] at hi; have hi0 := hc i hi
   have he : ((segN xs m (cutN xs.length m))[i]'(by rw [segN_len]; exact hi)).length = min m (xs.length - i * m) := by
    simp [segN]
   rw [he]; omega
theorem FInv.begin {s : Fs} (h : FInv s) {k : Fk} {xs : Seg} (hr : s.row[0]? = some (k, xs)) {n : Nat} (hn : 1 ≤ n ∧ n ≤ mxX) (hnu : ∀ x, x ∈ s.L → x.n < n) (hwn : s.L.length < s.win) : FInv { s with row := s.row.eraseIdx 0, L := s.L ++ [begF s n k xs] } := by
 obtain ⟨r, hrow⟩ : ∃ r, s.row = (k, xs) :: r := by
  rcases hq : s.row with _ | ⟨a, r⟩
  · rw [hq] at hr; simp at hr
  · rw [hq] at hr; simp at hr; exact ⟨r, by rw [hr]⟩
 have hbk := h.blk (k, xs) (by rw [hrow]; simp); have hsg := segs_ok (m := s.mtu) h.mt.1 h.mt.2 hbk.1 hbk.2; have hln := h.len; have hnk := h.nk; have hgd := h.good; rw [hrow] at hln hnk hgd; refine ⟨h.mt, h.rt, h.rs, h.wn, h.e, h.c, h.nc, ?_, ?_, ?_, ?_, ?_, ?_, ?_, ?_, ?_⟩
 · show (s.row.eraseIdx 0).length + (s.L ++ [begF s n k xs]).length ≤ 64; rw [hrow]; simp at hln ⊢; omega
 · show (s.L ++ [begF s n k xs]).length ≤ s.win; rw [List.length_append]; exact hwn
 · intro x hx; rcases List.mem_append.1 hx with hx | hx
   · exact h.num x hx
   · simp at hx; rw [hx]; exact hn
 · show (s.L ++ [begF s n k xs]).Pairwise (fun a b => a.n < b.n); rw [List.pairwise_append]; refine ⟨h.up, by simp, ?_⟩; intro a ha b hb; simp at hb; rw [hb]; exact hnu a ha
 · rintro q (hq | hq)
   · refine hgd q (.inl ?_); have hq : q ∈ (s.row.eraseIdx 0).map Prod.fst := hq; rw [hrow] at hq; exact List.mem_cons_of_mem _ hq
   · have hq : q ∈ (s.L ++ [begF s n k xs]).map Fe.k := hq; rw [List.map_append, List.mem_append] at hq; rcases hq with hq | hq
     · exact hgd q (.inr hq)
     · simp at hq; rw [hq]; exact hgd k (.inl (by simp))
 · show ((s.row.eraseIdx 0).map Prod.fst ++ (s.L ++ [begF s n k xs]).map Fe.k).Nodup; rw [hrow, List.map_append, ← List.append_assoc]; simp only [List.eraseIdx_cons_zero]; rw [List.map_cons, List.cons_append, List.nodup_cons] at hnk; rw [List.nodup_append]; refine ⟨hnk.2, by simp, ?_⟩; intro a ha b hb e; simp at hb; rw [e, hb] at ha; exact hnk.1 ha
 · intro q hq; exact h.blk q ((List.eraseIdx_sublist _ _).mem hq)
 · intro x hx; rcases List.mem_append.1 hx with hx | hx
   · exact h.seg x hx
   · simp at hx; rw [hx]; exact hsg
 · intro x hx; rcases List.mem_append.1 hx with hx | hx
   · exact h.ag x hx
   · simp at hx; rw [hx]; exact Nat.zero_le _
theorem mpF_snoc {L : List Fe} {M : List Fm} (h : M.length = L.length) (x : Fe) (m : Fm) : mpF (L ++ [x]) (M ++ [m]) = mpF L M ++ [(x.n, m.g)] := by
 unfold mpF; rw [List.zipWith_append h.symm]
 rfl
section
variable {w w' : World} {P : Fp} {s : Fs} {W W' : List Wh.Tm}
theorem FSw.join (h : FSw w P s W) {x : Fe} {m : Fm} (hse : SeA w x m) (hfr : ∀ b, footM m b → ¬ footF P b) (hr : MapG KSp w' P.ms (gr (mpF s.L P.M) x.n ++ [(x.n, m.g)])) (hg : w.grownBy w' (some P.ms)) (hinv : FInv { s with L := s.L ++ [x] }) (hn : ∀ y, y ∈ s.L → y.n < x.n) : FSw w' { P with M := P.M ++ [m] } { s with L := s.L ++ [x] } W := by
 have hc : Chg (fun b => b = P.ms) w w' := Chg.of_grown hg (fun b e => (Option.some.inj e).symm)
 have hmap : ∀ (b : Nat) (C : Array Value) (t : TypeId) (f : Nat × Nat), w.heap[b]? = some (Obj.cells C t f) → b ≠ P.ms := fun b C t f h1 e => by
  obtain ⟨es, cl, h2⟩ := h.mp.at_; rw [e, h2] at h1; cases h1
 have hkc : ∀ (b : Nat) (C : Array Value) (t : TypeId) (f : Nat × Nat), w.heap[b]? = some (Obj.cells C t f) → w'.heap[b]? = w.heap[b]? := fun b C t f h1 => hc.block b (sI h1).1 (hmap b C t f h1)
 have hrv : ∀ b, P.rv.ownBlock = some b → w'.heap[b]? = w.heap[b]? := fun b hb => by
  obtain ⟨cur, h9⟩ := h.row.at_ hb; exact hkc b _ _ _ h9
 have hxv : ∀ b, XV (P.R.map Prod.snd) b → w'.heap[b]? = w.heap[b]? := fun b hb => by
  obtain ⟨C, h9⟩ := h.rb.ty hb; exact hkc b _ _ _ h9
 have hsk : ∀ {y : Fe} {m' : Fm}, SeA w y m' → SeA w' y m' := fun hs => by
  refine hs.kept (fun b hb => ?_); rcases hb with hb | hb | hb | hb
  · rw [hb]; exact hkc _ _ _ _ hs.box
  · obtain ⟨cur, h9⟩ := hs.seg.row.at_ hb; exact hkc b _ _ _ h9
  · obtain ⟨C, h9⟩ := hs.seg.fml.ty hb; exact hkc b _ _ _ h9
  · obtain ⟨cur, h9⟩ := hs.tol.atR hb; exact hkc b _ _ _ h9
 have hat : ∀ (i : Nat) {α : Type} (l : List α) (a z : α), (l ++ [z])[i]? = some a → l[i]? = some a ∨ (i = l.length ∧ a = z) := fun i α l a z hq => by
  rcases Nat.lt_trichotomy i l.length with q | q | q
  · rw [List.getElem?_append_left q] at hq; exact .inl hq
  · rw [q, List.getElem?_append_right (Nat.le_refl _)] at hq; simp at hq; exact .inr ⟨q, hq.symm⟩
  · rw [List.getElem?_eq_none (by rw [List.length_append]; show l.length + 1 ≤ i; omega)] at hq; cases hq
 have hmem : ∀ m', m' ∈ P.M ++ [m] → m' ∈ P.M ∨ m' = m := fun m' hm => by
  rcases List.mem_append.1 hm with q | q
  · exact .inl q
  · simp at q; exact .inr q
 have hfm : ∀ m' b, m' ∈ P.M → footM m' b → footF P b := fun m' b h1 h2 => .inr (.inr (.inr (.inr (.inl ⟨m', h1, h2⟩))))
 refine ⟨(hkc _ _ _ _ h.blk).trans h.blk, h.row.kept hrv, h.rk, h.rb.kept hxv, ?_, ?_, fun j y m' h1 h2 => ?_, h.wh.chg (chgV hc) (fun b hb e => (h.aw b hb).2.1 e), hinv, fun b hb => ⟨(h.aw b hb).1, (h.aw b hb).2.1, (h.aw b hb).2.2.1, (h.aw b hb).2.2.2.1, fun m' hm' hb' => ?_⟩, fun j j' m1 m2 b h1 h2 hne hb1 hb2 => ?_, fun m' hm' b hb hq => ?_⟩
 · show MapG KSp w' P.ms (mpF (s.L ++ [x]) (P.M ++ [m])); rw [mpF_snoc h.len]; rw [gr_noF (by rw [mpF_keys h.len]; intro h9; obtain ⟨y, hy, e⟩ := List.mem_map.1 h9; have := hn y hy; omega)] at hr; exact hr
 · show (P.M ++ [m]).length = (s.L ++ [x]).length; rw [List.length_append, List.length_append, h.len]
   rfl
 · rcases hat j s.L y x h1 with q1 | ⟨q1, q2⟩
   · rcases hat j P.M m' m h2 with q3 | ⟨q3, q4⟩
     · exact hsk (h.se j y m' q1 q3)
     · have := (List.getElem?_eq_some_iff.1 q1).1; rw [h.len] at q3; omega
   · rcases hat j P.M m' m h2 with q3 | ⟨q3, q4⟩
     · have := (List.getElem?_eq_some_iff.1 q3).1; rw [h.len] at this; omega
     · rw [q2, q4]; exact hsk hse
 · rcases hmem m' hm' with q | q
   · exact (h.aw b hb).2.2.2.2 m' q hb'
   · rw [q] at hb'; exact hfr b hb' (.inr (.inr (.inr (.inr (.inr hb)))))
 · rcases hat j P.M m1 m h1 with q1 | ⟨q1, q2⟩
   · rcases hat j' P.M m2 m h2 with q3 | ⟨q3, q4⟩
     · exact h.am j j' m1 m2 b q1 q3 hne hb1 hb2
     · rw [q4] at hb2; exact hfr b hb2 (hfm m1 b (List.mem_of_getElem? q1) hb1)
   · rcases hat j' P.M m2 m h2 with q3 | ⟨q3, q4⟩
     · rw [q2] at hb1; exact hfr b hb1 (hfm m2 b (List.mem_of_getElem? q3) hb2)
     · exact hne (q1.trans q3.symm)
 · rcases hmem m' hm' with q | q
   · exact h.ab m' q b hb hq
   · rw [q] at hb; exact hfr b hb (.inr (.inr (.inr (.inl hq))))
end
open Go.RowKit Go.Maps
section
variable {w w' : World} {P : Fp} {s : Fs} {W W' : List Wh.Tm}
set_option maxRecDepth 20000
set_option maxHeartbeats 3200000
theorem fbegin_t (h : FSw w P s W) {k : Fk} {xs : Seg} (hr : s.row[0]? = some (k, xs)) (n : Nat) (hn : 1 ≤ n ∧ n ≤ mxX) (hnu : ∀ x, x ∈ s.L → x.n < n) (hwn : s.L.length < s.win) (hS : s.S < 18446744073709551615) (hW : W.length ≤ 4398046511104) :
 Calls Tryz.prog 42 #[.pointer (some ⟨P.p, 0, none⟩), .int .u64 (n : Int)] w fun e w' => ∃ (v : Value) (ys : List Rg) (D : List Dc) (P' : Fp), e = .returned v ∧ MissF (begF s n k xs) ys ∧ UR w' w.heap.size v s.ep n (begF s n k xs).T.length (idxR ys) D ((idxR ys).map (txF (begF s n k xs))) ∧ FSw w' P' { s with row := s.row.eraseIdx 0, L := s.L ++ [begF s n k xs], S := s.S + 1 } (Wh.setL W s.N s.S (n : Int) (s.clk + s.rt)) ∧ FStp w w' P P' ∧ (∀ b, v.ownBlock = some b ∨ XV D b → ¬ footF P' b) ∧ P'.p = P.p := by
 obtain ⟨k1, k2⟩ := k; have hrl := h.rlen; have h0 : 0 < s.row.length := (List.getElem?_eq_some_iff.1 hr).1; obtain ⟨g, cap, hv, hnc, -, -, hgl⟩ := OwnG.one h.row (by omega); obtain ⟨N, hN⟩ : ∃ N, N = P.R.length := ⟨_, rfl⟩
 obtain ⟨d, hd0⟩ : ∃ d, P.R[0]? = some ((k1, k2), d) := by
  have e := congrArg (fun l => l[0]?) h.rk; simp only [List.getElem?_map, hr, Option.map_some] at e; rcases hq : P.R[0]? with _ | ⟨a, d⟩
  · rw [hq] at e; simp at e
  · rw [hq] at e; simp at e; exact ⟨d, by rw [e]⟩
 have hown := h.rb.own 0 d xs (by rw [List.getElem?_map, hd0]; rfl) (by rw [List.getElem?_map, hr]; rfl); obtain ⟨da, dn, dc⟩ := d; obtain ⟨a9, c9, e9, -⟩ := hown.val
 injection e9 with e1 e2 e3
 subst e2; have hbk := h.inv.blk ((k1, k2), xs) (List.mem_of_getElem? hr); rw [← hN] at hv; have hrd : RdG KFr w (some ⟨g, 0, none⟩) P.R := by have h9 := h.row; rw [hv, hN] at h9; exact OwnG.rd h9
 have hrg : w.rangeAt g 0 [.int .i64 k1, .int .u64 (k2 : Int), .slice da xs.length dc] := by
  obtain ⟨b, o, h1, h2, -⟩ := hrd 0 (by omega); cases h1; have e8 : P.R[0]'(by omega) = ((k1, k2), ⟨da, xs.length, dc⟩) := (List.getElem?_eq_some_iff.1 hd0).2; rw [e8, Nat.zero_add, Nat.zero_mul] at h2; exact h2
 have hc6 : w.cell? ⟨P.p, 6, none⟩ = some (.slice (some ⟨g, 0, none⟩) N cap) := by rw [← hv]; exact h.cell 6
 have hlt : (0 : Int) < (N : Int) := by omega
 obtain ⟨w1, hw1⟩ : ∃ w1, w1 = w.alloc (.cells #[.int .i64 k1, .int .u64 (k2 : Int), .slice da xs.length dc] tFr) := ⟨_, rfl⟩; have hb1 : Below w.heap.size w w1 := by rw [hw1]; exact alw (bR _ _) _
 have hz1 : w1.heap.size = w.heap.size + 1 := by rw [hw1]; simp
 have hbx : w1.heap[w.heap.size]? = some (.cells #[.int .i64 k1, .int .u64 (k2 : Int), .slice da xs.length dc] tFr (0, 0)) := by rw [hw1]; exact heap_alloc_new w _
 have h1 := h.below hb1; have hlv := fleave_t h1 0 h0; have e00 : ((0 : Nat) : Int) = 0 := rfl; rw [e00] at hlv; have HLV : Hid _ := hlv; have how1 : Own w1 0 (.slice da xs.length dc) xs := hown.below hb1
 have HCH : Hid (∀ u, Chg (fun b => b = P.p ∨ P.rv.ownBlock = some b) w1 u → Own u 0 (.slice da xs.length dc) xs ∧ u.heap[w.heap.size]? = some (.cells #[.int .i64 k1, .int .u64 (k2 : Int), .slice da xs.length dc] tFr (0, 0))) := fun u hu => by
  refine ⟨how1.keptb (fun b hb => ?_), (hu.block _ (by omega) (fun e => ?_)).trans hbx⟩
  · obtain ⟨C, h9⟩ := how1.blk hb; refine hu.block b (sI h9).1 (fun e => ?_); rcases e with e | e
    · rw [e, h1.blk] at h9
      injection h9 with h9
      injection h9 with h9 h8
      exact absurd h8 (by decide)
    · obtain ⟨cur, h8⟩ := h1.row.at_ e; rw [h9] at h8
      injection h8 with h8
      injection h8 with h8 h7
      exact absurd h7 (by decide)
  · rcases e with e | e
    · have := h.lt (b := P.p) (.inl rfl); omega
    · have := (h.row.lt' e).2; omega
 have HIN : Hid _ := h.inv.begin hr hn hnu hwn; have HHW : Hid (FStp w w1 P P) := FStp.below hb1 P; have HMT : Hid (16 ≤ s.mtu ∧ s.mtu ≤ 1024) := h.inv.mt; have HBK : Hid (1 ≤ xs.length ∧ xs.length ≤ 1024) := hbk; have HW1 : Hid (w1 = _) := hw1; have HZ1 : Hid _ := hz1; have HNN : Hid _ := hn; have HNU : Hid _ := hnu; have HSS : Hid _ := hS; have HWW : Hid _ := hW; have HL8 : Hid ((mpF s.L P.M).length ≤ 8192) := by unfold Hid; rw [mpF_len h.len]; have := h.inv.len; omega
 have HLL : Hid (P.M.length = s.L.length) := h.len; clear hlv e00 h hr hn hnu hwn hS hW hrl h0 hv hnc hgl hN hd0 hown hbk hrd hw1 hb1 hz1 hbx h1 how1 e1 e3; go_enter Tryz.func42, Tryz.ntmps42
 go_wp2_with (refine wpList_load_mid rfl tFr _ rfl g 0 rfl [.int .i64 k1, .int .u64 (k2 : Int), .slice da xs.length dc] _ hrg Tryz.underlying97 rfl info_fr ?_)
 rw [← HW1.out]; refine Calls.mono HLV.out ?_; rintro e9 u2 ⟨rfl, rv', hF2, hS2, hC2⟩; obtain ⟨how2, hbx2⟩ := HCH.out u2 hC2; obtain ⟨a8, c8, e8, hlc, -, -, hrd2, -⟩ := how2.val
 injection e8 with q1 q2 q3
 subst q1 q3
 have hkk : ∀ u, Below u2.heap.size u2 u → u.cell? ⟨w.heap.size, 0, none⟩ = some (.int .i64 k1) ∧ u.cell? ⟨w.heap.size, 1, none⟩ = some (.int .u64 (k2 : Int)) ∧ u.cell? ⟨w.heap.size, 2, none⟩ = some (.slice da xs.length dc) ∧ u.cell? ⟨P.p, 0, none⟩ = some (.int .i64 (s.mtu : Int)) := fun u hu => by
  have h9 := (hu.block _ (sI hbx2).1).trans hbx2; exact ⟨by rw [cR h9]; rfl, by rw [cR h9]; rfl, by rw [cR h9]; rfl, (hF2.below hu).cell 0⟩
 have HKK : Hid _ := hkk
 have HCT : Hid (∀ u, Below u2.heap.size u2 u → Calls Tryz.prog 72 #[.slice da xs.length dc, .int .i64 (s.mtu : Int)] u fun e w' => ∃ v E, e = .returned (.tuple #[v, .int .i64 0]) ∧ Lists w' u2.heap.size v E (segN xs s.mtu (cutN xs.length s.mtu)) ∧ Below u2.heap.size u2 w') := fun u hu => by
  refine (cut_t da xs.length dc xs s.mtu rfl (Rd.below hrd2 hu) hlc (by have := HMT.out; omega) HMT.out.2 HBK.out.1 HBK.out.2 (by have := HMT.out; have := HBK.out; omega)).mono ?_; rintro e u' ⟨v, E, he, hls, hb⟩; exact ⟨v, E, he, hls.base hu.size, below_next hu hb⟩
 have HF2 : Hid _ := hF2; have HS2 : Hid _ := hS2; clear hF2 hS2 hC2 how2 hbx2 hlc hrd2 hkk hrg hc6 hlt; (go_wp2_with fail); refine wp_region_noPanic ?_; refine wp_region_held_drew (S := (fun u => Below u2.heap.size u2 u)) (by kernel_rfl) (by first | exact (bR _ _).drew | exact HB3.out | assumption) (fun hHeld => ?_); refine tz 0 18 hHeld ?_; simp only [pS]; refine tk 1 19 (v := .slice da xs.length dc) ?_ hHeld ?_
 · (intro w hSw; have hc9 := HKK.out _ hSw; go_simp; try with_reducible rfl)
 simp only [pS]; refine tz 2 20 hHeld ?_; simp only [pS]; refine tz 3 21 hHeld ?_; simp only [pS]; refine tz 4 22 hHeld ?_; simp only [pS]; refine tk 5 23 (v := .int .i64 (s.mtu : Int)) ?_ hHeld ?_
 · (intro w hSw; have hc9 := HKK.out _ hSw; go_simp; try with_reducible rfl)
 simp only [pS]; refine run_at (i := 6) rfl (by kernel_rfl) (by rfl) (fun K hK => ?_); simp only [gE]; go_simp
 (go_at_call 72; refine Calls.mono (HCT.out _ hHeld) ?_; rintro e9 w3 ⟨v3, E3, rfl, hls3, hb3⟩; obtain ⟨sa, sc, hv3, -⟩ := hls3.row.val; have hEl : E3.length = cutN xs.length s.mtu := (by have h9 := hls3.len; rw [segN_len] at h9; exact h9); rw [hEl] at hv3; obtain ⟨sn, hsn⟩ : ∃ sn, sn = cutN xs.length s.mtu := ⟨_, rfl⟩; rw [← hsn] at hv3; subst hv3; have HLS : Hid _ := hls3; have HB3 : Hid _ := hb3; clear hls3 hb3 hEl hsn)
 (go_wp2_with fail); refine hK.out _ _ (by first | exact (bR _ _).drew | exact HB3.out | assumption) ?_; clear hK K; clear hHeld; intro hHeld; (try simp only [pS]); refine tz 7 17 hHeld ?_; simp only [pS]; refine tz 8 25 hHeld ?_; simp only [pS]; refine tz 9 26 hHeld ?_; simp only [pS]; refine tz 10 6 hHeld ?_; simp only [pS]; refine tz 11 7 hHeld ?_; simp only [pS]; refine wpAnyH_done (by kernel_rfl) ?_ _; refine NoPanic.normal ?_; clear hHeld; have hc0 := (HKK.out _ HB3.out).1; have hc1 := (HKK.out _ HB3.out).2.1; obtain ⟨w4, hw4⟩ : ∃ w4, w4 = w3.alloc (.cells #[.int .i64 k1, .int .u64 (k2 : Int), .slice sa sn sc, .slice none 0 0, .int .i64 0] tFs) := ⟨_, rfl⟩; have hb4 : Below u2.heap.size u2 w4 := by rw [hw4]; exact alw HB3.out _
 have hF4 := HF2.out.below hb4; have hc7 : w4.cell? ⟨P.p, 7, none⟩ = some (.map (some P.ms)) := hF4.cell 7; have hnu9 : KSp.ok n := by show n < 18446744073709551616; have := HNN.out.2; unfold mxX at this; omega
 obtain ⟨w5, hup0, hmp5, hg5⟩ := hF4.mp.put uMp (s := n) hnu9 w3.heap.size HL8.out; have hup : (Instr.mapUpdate tMp (.map (some P.ms)) (.int .u64 (n : Int)) (.pointer (some ⟨w3.heap.size, 0, none⟩))).run Tryz.prog w4 = .ok () w5 := hup0; have hbx4 : w4.heap[w3.heap.size]? = some (.cells #[.int .i64 k1, .int .u64 (k2 : Int), .slice sa sn sc, .slice none 0 0, .int .i64 0] tFs (0, 0)) := by rw [hw4]; exact heap_alloc_new w3 _
 have hse4 : SeA w4 (begF s n (k1, k2) xs) ⟨w3.heap.size, sa, sn, sc, E3, none, 0, 0⟩ := by
  refine ⟨hbx4, ?_, World.ownsRow_nil _ _ _ _⟩; rw [hw4]; exact (HLS.out.base (Nat.zero_le _)).below (alw (bR _ _) _)
 have hfm : ∀ b, footM ⟨w3.heap.size, sa, sn, sc, E3, none, 0, 0⟩ b → u2.heap.size ≤ b := fun b hb => by
  rcases hb with hb | hb | hb | hb
  · rw [hb]; exact HB3.out.size
  · exact (HLS.out.lt (.inl hb)).1
  · exact (HLS.out.lt (.inr hb)).1
  · cases hb
 have hF5 := hF4.join hse4 (fun b hb hf => by have := hfm b hb; have := HF2.out.lt hf; omega) hmp5 hg5 HIN.out HNU.out
 have hS5 : FStp u2 w5 { P with rv := rv', R := P.R.eraseIdx 0 } { P with rv := rv', R := P.R.eraseIdx 0, M := P.M ++ [⟨w3.heap.size, sa, sn, sc, E3, none, 0, 0⟩] } := by
  refine ⟨(Chg.of_below hb4).trans (Chg.of_grown hg5 (F := fun b => b = P.ms) (fun b e => (Option.some.inj e).symm)) (fun b hb => .inl (.inr (.inl hb))), fun b hb => ?_⟩; rcases hb with e | e | e | e | ⟨m, hm, e⟩ | e
  · exact .inl (.inl e)
  · exact .inl (.inr (.inl e))
  · exact .inl (.inr (.inr (.inl e)))
  · exact .inl (.inr (.inr (.inr (.inl e))))
  · rcases List.mem_append.1 hm with q | q
    · exact .inl (.inr (.inr (.inr (.inr (.inl ⟨m, q, e⟩)))))
    · simp at q; rw [q] at e; exact .inr (hfm b e)
  · exact .inl (.inr (.inr (.inr (.inr (.inr e)))))
 have HST : Hid _ := fsetTimer_t hF5 n HNN.out.2 HSS.out HWW.out; have HS5 : Hid _ := hS5; have HFS : Hid (FStp w w5 P _) := HHW.out.trans (HS2.out.trans hS5)
 have HLI : Hid ((s.L ++ [begF s n (k1, k2) xs])[s.L.length]? = some (begF s n (k1, k2) xs) ∧ (P.M ++ [(⟨w3.heap.size, sa, sn, sc, E3, none, 0, 0⟩ : Fm)])[s.L.length]? = some ⟨w3.heap.size, sa, sn, sc, E3, none, 0, 0⟩) := by
  refine ⟨by simp, ?_⟩; rw [← HLL.out]; simp
 have HNB : Hid ((begF s n (k1, k2) xs).n = n) := rfl; rw [hw4] at hup hc7; clear hw4 hb4 hF4 hup0 hmp5 hg5 hbx4 hse4 hfm hF5 hS5 hnu9; (go_wp2_with fail); clear hup hc7 hc0 hc1; refine Calls.mono HST.out ?_; rintro e9 w6 ⟨rfl, V6, hF6, hS6⟩; have HUN : Hid _ := funits_t hF6 HLI.out.1 HLI.out.2 (by show (0 : Nat) ≤ 1000000; omega); have HF6 : Hid _ := hF6; have HS6 : Hid _ := hS6; clear hF6 hS6; rw [HNB.out] at HUN; (go_wp2_with fail); refine Calls.mono HUN.out ?_; rintro e9 w7 ⟨v, ys, D, rfl, hms, hur, hb7⟩; have HM : Hid _ := hms; have HU : Hid _ := hur; have HB7 : Hid _ := hb7; clear hms hur hb7; go_wp2; go_ret; have hst := HFS.out.trans (HS6.out.trans (FStp.below HB7.out _)); have hsz : w.heap.size ≤ w6.heap.size := (HFS.out.trans HS6.out).chg.size; have hU := HU.out; have hU2 : UR w7 w.heap.size v s.ep n (begF s n (k1, k2) xs).T.length (idxR ys) D ((idxR ys).map (txF (begF s n (k1, k2) xs))) := ⟨OwnG.base hU.row hsz, hU.len, ⟨hU.fml.len, fun i d t h1 h2 => Own.base (hU.fml.own i d t h1 h2) hsz, hU.fml.ap⟩⟩
 have hfar : ∀ b, v.ownBlock = some b ∨ XV D b → ¬ footF { P with rv := rv', R := P.R.eraseIdx 0, M := P.M ++ [⟨w3.heap.size, sa, sn, sc, E3, none, 0, 0⟩], V := V6 } b := fun b hb hf => by
  have h8 := HF6.out.lt hf; rcases hb with hb | hb
  · have := (hU.row.lt' hb).1; omega
  · have := (hU.fml.lt hb).1; omega
 first
  | exact ⟨v, ys, D, _, rfl, HM.out, hU2, HF6.out.below HB7.out, hst, hfar, rfl⟩
  | exact ⟨v, rfl, ys, HM.out, D, hU2, _, HF6.out.below HB7.out, hst, hfar, rfl⟩
  | exact ⟨_, rfl, ys, D, _, HM.out, hU2, HF6.out.below HB7.out, hst, hfar, rfl⟩
  | (refine ⟨_, rfl, ys, HM.out, D, ?_⟩; first | exact ⟨_, hU2, HF6.out.below HB7.out, hst, hfar, rfl⟩ | exact ⟨hU2, _, HF6.out.below HB7.out, hst, hfar, rfl⟩)
end
end Go.Proofs.YtpakkpahcpgnnaaGreatDoor
