import Derived.Test.YtpakkpahcpgnnaaGreatDoorFM
import Derived.Test.YtpakkpahcpgnnaaGreatDoorXV
set_option linter.unusedVariables false
set_option linter.unusedSimpArgs false
namespace Go.Proofs.YtpakkpahcpgnnaaGreatDoor
open Go.RowKit Go.Maps
def newF (m rt rs win ep now : Nat) : Fs := ⟨m, rt, rs, win, ep, min now mxX, min now mxX, 0, [], []⟩
theorem newF_inv {m rt rs win ep now : Nat} (h1 : 16 ≤ m ∧ m ≤ 1024) (h2 : 1 ≤ rt ∧ rt ≤ 4096) (h3 : rs ≤ 16) (h4 : 1 ≤ win ∧ win ≤ 8) (h5 : 1 ≤ ep ∧ ep ≤ mxX) : FInv (newF m rt rs win ep now) :=
 ⟨h1, h2, h3, h4, h5, Nat.min_le_right _ _, Nat.le_refl _, Nat.zero_le _, Nat.zero_le _, (fun x hx => by cases hx), List.Pairwise.nil, (fun k hk => by rcases hk with hk | hk <;> cases hk), List.nodup_nil, (fun r hr => by cases hr), (fun x hx => by cases hx), (fun x hx => by cases hx)⟩
section
variable {w w3 : World} {Pw Mw : Nat} {V : Nat → Nat → Value}
theorem newF_at {m rt rs win ep now : Nat} (hi : FInv (newF m rt rs win ep now)) (hw : Wh.Wt w3 Pw Mw (min now mxX) 0 [] V) (hb : Below w.heap.size w w3) (hf : ∀ b, Wh.footW Pw Mw V b → w.heap.size ≤ b) (u : World)
 (hu : u = (w3.drew.alloc (.map #[] 0)).alloc (.cells (cellsFx (newF m rt rs win ep now) (.slice none 0 0) w3.heap.size Pw) tFx)) :
 FSw u ⟨w3.heap.size + 1, w3.heap.size, Pw, Mw, V, .slice none 0 0, [], []⟩ (newF m rt rs win ep now) [] ∧ Below w.heap.size w u ∧ ∀ b, footF ⟨w3.heap.size + 1, w3.heap.size, Pw, Mw, V, .slice none 0 0, [], []⟩ b → w.heap.size ≤ b := by
 have hs3 := hb.size; obtain ⟨u1, hu1⟩ : ∃ u1, u1 = w3.drew.alloc (.map #[] 0) := ⟨_, rfl⟩; rw [← hu1] at hu; have z1 : u1.heap.size = w3.heap.size + 1 := by rw [hu1]; simp
 have b1 : Below w3.heap.size w3 u1 := by rw [hu1]; exact (bR _ _).drew.alloc (by simp) _
 have b2 : Below w3.heap.size w3 u := by rw [hu]; exact b1.alloc (by omega) _
 have e1 : u1.heap[w3.heap.size]? = some (.map #[] 0) := by rw [hu1]; exact heap_alloc_new w3.drew _
 have e1' : u.heap[w3.heap.size]? = some (.map #[] 0) := by rw [hu, Below.heap_alloc _ _ _ (by omega)]; exact e1
 have e2 : u.heap[w3.heap.size + 1]? = some (.cells (cellsFx (newF m rt rs win ep now) (.slice none 0 0) w3.heap.size Pw) tFx (0, 0)) := by rw [hu, ← z1]; exact heap_alloc_new u1 _
 have hlt : ∀ b, Wh.footW Pw Mw V b → b < w3.heap.size := fun b hb => hw.lt hb
 have hxn : ∀ b, ¬ XV ([] : List Dc) b := fun b ⟨i, d, h1, _⟩ => by simp at h1
 refine ⟨⟨e2, World.ownsRow_nil _ _ _ _, rfl, ⟨rfl, (fun i d t h => by simp at h), (fun i j d e b h => by simp at h)⟩, MapG.nil e1', rfl, (fun i x m h => by simp [newF] at h), hw.below b2, hi, (fun b hb => ⟨(fun e => by have := hlt b hb; simp only at e; omega), (fun e => by have := hlt b hb; simp only at e; omega), (fun e => by cases e), hxn b, (fun m hm => by cases hm)⟩), (fun i j m m' b h => by simp at h), (fun m hm => by cases hm)⟩, hb.trans (b2.mono hs3), fun b h9 => ?_⟩; rcases h9 with h9 | h9 | h9 | h9 | ⟨m', h9, -⟩ | h9
 · simp only at h9; omega
 · simp only at h9; omega
 · cases h9
 · exact absurd h9 (hxn b)
 · cases h9
 · exact hf b h9
set_option maxRecDepth 20000 in
set_option maxHeartbeats 1600000 in
theorem fnew_t (m a r t v : Nat) (i : Int) (ep now : Nat) (hz : 0 < w.heap.size) (hc : CfgOk m a r t v i) (he : 1 ≤ ep ∧ ep ≤ mxX) :
 Calls Tryz.prog 8 #[cfgv m a r t v i, .int .u64 (ep : Int), .int .u64 (now : Int)] w fun e w' => ∃ P : Fp, e = .returned (.tuple #[.pointer (some ⟨P.p, 0, none⟩), .int .i64 0]) ∧ FSw w' P (newF m r t v ep now) [] ∧ Below w.heap.size w w' ∧ ∀ b, footF P b → w.heap.size ≤ b := by
 obtain ⟨w1, hw1⟩ : ∃ w1, w1 = w.alloc (.cells #[.int .i64 (m : Int), .int .u64 (a : Int), .int .u64 (r : Int), .int .i64 (t : Int), .int .i64 (v : Int), .int .i64 i] 25) := ⟨_, rfl⟩; have hb1 : Below w.heap.size w w1 := by rw [hw1]; exact alw (bR _ _) _
 have hbox : w1.heap[w.heap.size]? = some (.cells #[.int .i64 (m : Int), .int .u64 (a : Int), .int .u64 (r : Int), .int .i64 (t : Int), .int .i64 (v : Int), .int .i64 i] 25 (0, 0)) := by rw [hw1]; exact heap_alloc_new w _
 have HIN : Hid (FInv (newF m r t v ep now)) := by
  obtain ⟨h1, h2, h3, h4, h5, h6, h7, h8, h9, h10, h11, h12⟩ := hc; exact newF_inv ⟨by omega, by omega⟩ ⟨by omega, by omega⟩ (by omega) ⟨by omega, by omega⟩ he
 have HV : Hid (Calls Tryz.prog 30 #[cfgv m a r t v i] w1 fun e w' => e = .returned (.bool true) ∧ Below w1.heap.size w1 w') := by
  haveI := Classical.propDecidable (CfgOk m a r t v i)
  have h9 := cfg_t m a r t v i w1; rw [decide_eq_true hc] at h9; exact h9
 have HE : Hid (∀ u, Calls Tryz.prog 31 #[.int .u64 (ep : Int)] u fun e w' => e = .returned (.bool true) ∧ w' = u) := fun u => by
  have h9 := fisNumber_t ep u; rw [decide_eq_true he] at h9; exact h9
 have HB1 : Hid _ := hb1; have HBOX : Hid _ := hbox; have HW1 : Hid (w1 = _) := hw1; have HZ : Hid _ := hz
 have hcb : ∀ u, Below w1.heap.size w1 u → u.cell? ⟨w.heap.size, 0, none⟩ = some (.int .i64 (m : Int)) ∧ u.cell? ⟨w.heap.size, 2, none⟩ = some (.int .u64 (r : Int)) ∧ u.cell? ⟨w.heap.size, 3, none⟩ = some (.int .i64 (t : Int)) ∧ u.cell? ⟨w.heap.size, 4, none⟩ = some (.int .i64 (v : Int)) := fun u hu => by
  have h9 := (hu.block _ (sI hbox).1).trans hbox; refine ⟨?_, ?_, ?_, ?_⟩
  all_goals (rw [cR h9]; rfl)
 clear hw1 hb1 hbox hc he hz; go_enter Tryz.func8, Tryz.ntmps8
 (go_wp2_with fail); rw [← HW1.out]; refine Calls.mono HV.out ?_; rintro e w2 ⟨rfl, hb2⟩; have HB2 : Hid _ := hb2; clear hb2; go_wp2_with (first | (go_at_call 31; refine Calls.mono (HE.out _) ?_; rintro e u2 ⟨rfl, hq⟩; have hq := hq.symm; subst hq) | (go_at_call 32; refine Calls.mono (Wh.new_t now w2 (Nat.lt_of_lt_of_le HZ.out (Nat.le_trans HB1.out.size HB2.out.size))) ?_; rintro e w3 ⟨Pw, Mw, V, rfl, hwt, hb3, hf3⟩; have HWT : Hid _ := hwt; have HB3 : Hid _ := hb3; have HF3 : Hid _ := hf3; clear hwt hb3 hf3))
 have hcc : ∀ u, Below w3.heap.size w3 u → u.cell? ⟨w.heap.size, 0, none⟩ = some (.int .i64 (m : Int)) ∧ u.cell? ⟨w.heap.size, 2, none⟩ = some (.int .u64 (r : Int)) ∧ u.cell? ⟨w.heap.size, 3, none⟩ = some (.int .i64 (t : Int)) ∧ u.cell? ⟨w.heap.size, 4, none⟩ = some (.int .i64 (v : Int)) := fun u hu => hcb u (below_next (below_next HB2.out HB3.out) hu)
 have HNOW : Hid (∀ u, Below w3.heap.size w3 u → Calls Tryz.prog 33 #[.pointer (some ⟨Pw, 0, none⟩)] u fun e w' => e = .returned (.int .u64 ((min now mxX : Nat) : Int)) ∧ w' = u) := fun u hu => Wh.now_t (Wh.Wt.below HWT.out hu)
 have hmm := @run_makeMap Tryz.prog; clear hcb; have HBW : Hid (Below w.heap.size w w3) := HB1.out.trans ((below_next HB2.out HB3.out).mono HB1.out.size); have HFW : Hid (∀ b, Wh.footW Pw Mw V b → w.heap.size ≤ b) := fun b hb => Nat.le_trans (Nat.le_trans HB1.out.size HB2.out.size) (HF3.out b hb)
 refine wp_region_noPanic ?_; refine wp_region_held_drew (S := (fun u => Below w3.heap.size w3 u)) (by kernel_rfl) (by first | exact (bR _ _).drew | assumption | exact Below.alloc (bR _ _).drew (by simp <;> omega) _ | exact Below.alloc (Below.alloc (bR _ _).drew (by simp <;> omega) _) (by simp <;> omega) _) (fun hHeld => ?_); refine tz 0 23 hHeld ?_; simp only [pS]; refine tz 1 24 hHeld ?_; simp only [pS]; refine tz 2 25 hHeld ?_; simp only [pS]; refine tz 3 26 hHeld ?_; simp only [pS]; refine tz 4 27 hHeld ?_; simp only [pS]; refine tz 5 28 hHeld ?_; simp only [pS]; refine tz 6 29 hHeld ?_; simp only [pS]; refine tz 7 30 hHeld ?_; simp only [pS]; refine tz 8 31 hHeld ?_; simp only [pS]; refine tz 9 32 hHeld ?_; simp only [pS]; refine tz 12 35 hHeld ?_; simp only [pS]; refine wpAnyH_ready (rs := [10, 11]) (by kernel_rfl) (by simp) ?_; refine AllReadyH.cons (o := _) rfl (fun K hK => ?_) ?_
 focus
  rw [if_pos (by rfl)]; simp only [gE]; go_simp
  (go_at_call 33; refine Calls.mono (HNOW.out _ (by first | exact (bR _ _).drew | exact Below.alloc (bR _ _).drew (by simp <;> omega) _ | exact Below.alloc (Below.alloc (bR _ _).drew (by simp <;> omega) _) (by simp <;> omega) _)) ?_; rintro e9 u4 ⟨rfl, hq4⟩; have hq4 := hq4.symm; subst hq4)
  (go_wp2_with fail); refine hK.out _ _ (by first | exact (bR _ _).drew | assumption | exact Below.alloc (bR _ _).drew (by simp <;> omega) _ | exact Below.alloc (Below.alloc (bR _ _).drew (by simp <;> omega) _) (by simp <;> omega) _) ?_; clear hK K; clear hHeld; intro hHeld; (try simp only [pS]); refine run_at (i := 11) rfl (by kernel_rfl) (by rfl) (fun K hK => ?_); simp only [gE]; go_simp; (go_wp2_with fail); refine hK.out _ _ (by first | exact (bR _ _).drew | assumption | exact Below.alloc (bR _ _).drew (by simp <;> omega) _ | exact Below.alloc (Below.alloc (bR _ _).drew (by simp <;> omega) _) (by simp <;> omega) _) ?_; clear hK K; clear hHeld; intro hHeld; (try simp only [pS]); refine tz 13 36 hHeld ?_; simp only [pS]; refine run_at (i := 14) rfl (by kernel_rfl) (by rfl) (fun K hK => ?_); simp only [gE]; go_simp; (go_wp2_with fail); refine hK.out _ _ (by first | exact (bR _ _).drew | assumption | exact Below.alloc (bR _ _).drew (by simp <;> omega) _ | exact Below.alloc (Below.alloc (bR _ _).drew (by simp <;> omega) _) (by simp <;> omega) _) ?_; clear hK K; clear hHeld; intro hHeld; (try simp only [pS]); refine tz 15 6 hHeld ?_; simp only [pS]; refine tz 16 7 hHeld ?_; simp only [pS]; refine wpAnyH_done (by kernel_rfl) ?_ _; refine NoPanic.normal ?_
 rotate_left 1; refine AllReadyH.cons (o := _) rfl (fun K hK => ?_) AllReadyH.nil
 focus
  rw [if_pos (by rfl)]; simp only [gE]; go_simp; (go_wp2_with fail); refine hK.out _ _ (by first | exact (bR _ _).drew | assumption | exact Below.alloc (bR _ _).drew (by simp <;> omega) _ | exact Below.alloc (Below.alloc (bR _ _).drew (by simp <;> omega) _) (by simp <;> omega) _) ?_; clear hK K; clear hHeld; intro hHeld; (try simp only [pS]); refine run_at (i := 10) rfl (by kernel_rfl) (by rfl) (fun K hK => ?_); simp only [gE]; go_simp
  (go_at_call 33; refine Calls.mono (HNOW.out _ (by first | exact (bR _ _).drew | exact Below.alloc (bR _ _).drew (by simp <;> omega) _ | exact Below.alloc (Below.alloc (bR _ _).drew (by simp <;> omega) _) (by simp <;> omega) _)) ?_; rintro e9 u4 ⟨rfl, hq4⟩; have hq4 := hq4.symm; subst hq4)
  (go_wp2_with fail); refine hK.out _ _ (by first | exact (bR _ _).drew | assumption | exact Below.alloc (bR _ _).drew (by simp <;> omega) _ | exact Below.alloc (Below.alloc (bR _ _).drew (by simp <;> omega) _) (by simp <;> omega) _) ?_; clear hK K; clear hHeld; intro hHeld; (try simp only [pS]); refine tz 13 36 hHeld ?_; simp only [pS]; refine run_at (i := 14) rfl (by kernel_rfl) (by rfl) (fun K hK => ?_); simp only [gE]; go_simp; (go_wp2_with fail); refine hK.out _ _ (by first | exact (bR _ _).drew | assumption | exact Below.alloc (bR _ _).drew (by simp <;> omega) _ | exact Below.alloc (Below.alloc (bR _ _).drew (by simp <;> omega) _) (by simp <;> omega) _) ?_; clear hK K; clear hHeld; intro hHeld; (try simp only [pS]); refine tz 15 6 hHeld ?_; simp only [pS]; refine tz 16 7 hHeld ?_; simp only [pS]; refine wpAnyH_done (by kernel_rfl) ?_ _; refine NoPanic.normal ?_
 all_goals
  go_wp2; go_ret2; exact ⟨⟨w3.heap.size + 1, w3.heap.size, Pw, Mw, V, .slice none 0 0, [], []⟩, rfl, newF_at HIN.out HWT.out HBW.out HFW.out _ rfl⟩
set_option maxRecDepth 20000 in
set_option maxHeartbeats 1600000 in
theorem fnew_no (m : Int) (a r : Nat) (t v i : Int) (ep now : Nat) (hc : ¬ (CfgOk m a r t v i ∧ 1 ≤ ep ∧ ep ≤ mxX)) :
 Calls Tryz.prog 8 #[cfgv m a r t v i, .int .u64 (ep : Int), .int .u64 (now : Int)] w fun e w' => e = .returned (.tuple #[.pointer none, .int .i64 1]) ∧ Below w.heap.size w w' := by
 obtain ⟨w1, hw1⟩ : ∃ w1, w1 = w.alloc (.cells #[.int .i64 m, .int .u64 (a : Int), .int .u64 (r : Int), .int .i64 t, .int .i64 v, .int .i64 i] 25) := ⟨_, rfl⟩; have hb1 : Below w.heap.size w w1 := by rw [hw1]; exact alw (bR _ _) _
 haveI := Classical.propDecidable (CfgOk m a r t v i)
 have hv := cfg_t m a r t v i w1; have HB1 : Hid _ := hb1; have HW1 : Hid (w1 = _) := hw1
 by_cases h1 : CfgOk m a r t v i
 · rw [decide_eq_true h1] at hv; have HV : Hid _ := hv
   have HE : Hid (∀ u, Calls Tryz.prog 31 #[.int .u64 (ep : Int)] u fun e w' => e = .returned (.bool false) ∧ w' = u) := fun u => by
    have h9 := fisNumber_t ep u; rw [decide_eq_false (fun h => hc ⟨h1, h⟩)] at h9; exact h9
   clear hw1 hb1 hc h1 hv; go_enter Tryz.func8, Tryz.ntmps8
   (go_wp2_with fail); rw [← HW1.out]; refine Calls.mono HV.out ?_; rintro e w2 ⟨rfl, hb2⟩; have HB2 : Hid _ := hb2; clear hb2; go_wp2_with (go_at_call 31; refine Calls.mono (HE.out _) ?_; rintro e u2 ⟨rfl, hq⟩; have hq := hq.symm; subst hq)
   go_ret2; exact ⟨rfl, HB1.out.trans (HB2.out.mono HB1.out.size)⟩
 · rw [decide_eq_false h1] at hv; have HV : Hid _ := hv; clear hw1 hb1 hc h1 hv; go_enter Tryz.func8, Tryz.ntmps8
   (go_wp2_with fail); rw [← HW1.out]; refine Calls.mono HV.out ?_; rintro e w2 ⟨rfl, hb2⟩; have HB2 : Hid _ := hb2; clear hb2; go_wp2; go_ret2; exact ⟨rfl, HB1.out.trans (HB2.out.mono HB1.out.size)⟩
end
open Go.RowKit Go.Maps
section
variable {w w' : World} {P : Fp} {s : Fs} {W W' : List Wh.Tm}
set_option maxRecDepth 20000
set_option maxHeartbeats 3200000
theorem fmay_0 (h : FSw w P s W) (z : Nat) (h0 : s.row.length = 0) : Calls Tryz.prog 41 #[.pointer (some ⟨P.p, 0, none⟩), .int .u64 (z : Int)] w fun e w' => e = .returned (.bool false) ∧ Below w.heap.size w w' := by
 obtain ⟨a, cp, hv, -⟩ := OwnG.val h.row; obtain ⟨n, hn⟩ : ∃ n, n = P.R.length := ⟨_, rfl⟩; rw [← hn] at hv; have hc : ∀ u, Below w.heap.size w u → u.cell? ⟨P.p, 6, none⟩ = some (.slice a n cp) := fun u hu => by rw [← hv]; exact (h.below hu).cell 6
 have hi : ¬ (0 : Int) < (n : Int) := by rw [hn, h.rlen, h0]; omega
 clear h h0 hv hn; go_enter Tryz.func41, Tryz.ntmps41
 (go_wp2_with fail); refine wp_region_noPanic ?_; refine wp_region_held_drew (S := (fun u => Below w.heap.size w u)) (by kernel_rfl) (by first | exact (bR _ _).drew | assumption) (fun hHeld => ?_); refine tz 0 5 hHeld ?_; simp only [pS]; refine tz 1 6 hHeld ?_; simp only [pS]; refine tz 2 7 hHeld ?_; simp only [pS]; refine tz 3 8 hHeld ?_; simp only [pS]; refine tz 4 9 hHeld ?_; simp only [pS]; refine tk 5 10 (v := .bool false) ?_ hHeld ?_
 · (intro w hSw; go_simp; try omega)
 simp only [pS]; refine tz 6 11 hHeld ?_; simp only [pS]; refine qS 7 12 hHeld ?_; simp only [pS]; refine qS 8 13 hHeld ?_; simp only [pS]; refine qS 9 14 hHeld ?_; simp only [pS]; refine qS 10 15 hHeld ?_; simp only [pS]; refine qS 11 16 hHeld ?_; simp only [pS]; refine qS 12 17 hHeld ?_; simp only [pS]; refine qS 13 18 hHeld ?_; simp only [pS]; refine qS 14 19 hHeld ?_; simp only [pS]; refine qS 15 20 hHeld ?_; simp only [pS]; refine qS 16 21 hHeld ?_; simp only [pS]; refine tz 17 22 hHeld ?_; simp only [pS]; refine tz 18 23 hHeld ?_; simp only [pS]; refine qS 19 24 hHeld ?_; simp only [pS]; refine qS 20 25 hHeld ?_; simp only [pS]; refine tz 21 26 hHeld ?_; simp only [pS]; refine tz 22 4 hHeld ?_; simp only [pS]; refine wpAnyH_done (by kernel_rfl) ?_ _; refine NoPanic.normal ?_; go_wp2; go_ret; exact ⟨rfl, (bR _ _).drew⟩
theorem fmay_1 (h : FSw w P s W) (z : Nat) (h0 : 0 < s.row.length) (h1 : s.win ≤ s.L.length) : Calls Tryz.prog 41 #[.pointer (some ⟨P.p, 0, none⟩), .int .u64 (z : Int)] w fun e w' => e = .returned (.bool false) ∧ Below w.heap.size w w' := by
 obtain ⟨a, cp, hv, -⟩ := OwnG.val h.row; obtain ⟨n, hn⟩ : ∃ n, n = P.R.length := ⟨_, rfl⟩; rw [← hn] at hv; obtain ⟨l, hl⟩ : ∃ l, l = s.L.length := ⟨_, rfl⟩; have hc : ∀ u, Below w.heap.size w u → u.cell? ⟨P.p, 6, none⟩ = some (.slice a n cp) ∧ u.cell? ⟨P.p, 7, none⟩ = some (.map (some P.ms)) ∧ u.cell? ⟨P.p, 3, none⟩ = some (.int .i64 (s.win : Int)) := fun u hu => by rw [← hv]; exact ⟨(h.below hu).cell 6, (h.below hu).cell 7, (h.below hu).cell 3⟩
 have hml : ∀ u ty, Below w.heap.size w u → (Builtin.len_ #[tMp] ty #[.map (some P.ms)]).run Tryz.prog u = .ok (.int .i64 (l : Int)) u := fun u ty hu => by
  have h9 := (h.mp.below hu).len uMp ty; rw [mpF_len h.len, ← hl] at h9; exact h9
 have hi : (0 : Int) < (n : Int) := by rw [hn, h.rlen]; omega
 have hw : ¬ (l : Int) < (s.win : Int) := by omega
 clear h h0 h1 hv hn hl; go_enter Tryz.func41, Tryz.ntmps41
 (go_wp2_with fail); refine wp_region_noPanic ?_; refine wp_region_held_drew (S := (fun u => Below w.heap.size w u)) (by kernel_rfl) (by first | exact (bR _ _).drew | assumption) (fun hHeld => ?_); refine tz 0 5 hHeld ?_; simp only [pS]; refine tz 1 6 hHeld ?_; simp only [pS]; refine tz 2 7 hHeld ?_; simp only [pS]; refine tz 3 8 hHeld ?_; simp only [pS]; refine tz 4 9 hHeld ?_; simp only [pS]; refine tk 5 10 (v := .bool true) ?_ hHeld ?_
 · (intro w hSw; go_simp; try omega)
 simp only [pS]; refine tz 6 11 hHeld ?_; simp only [pS]; refine tz 7 12 hHeld ?_; simp only [pS]; refine tz 8 13 hHeld ?_; simp only [pS]; refine tz 9 14 hHeld ?_; simp only [pS]; refine tz 10 15 hHeld ?_; simp only [pS]; refine tz 11 16 hHeld ?_; simp only [pS]; refine tz 12 17 hHeld ?_; simp only [pS]; refine tz 13 18 hHeld ?_; simp only [pS]; refine tz 14 19 hHeld ?_; simp only [pS]; refine tz 15 20 hHeld ?_; simp only [pS]; refine tk 16 21 (v := .bool false) ?_ hHeld ?_
 · (intro w hSw; go_simp; try omega)
 simp only [pS]; refine tz 17 22 hHeld ?_; simp only [pS]; refine tz 18 23 hHeld ?_; simp only [pS]; refine qS 19 24 hHeld ?_; simp only [pS]; refine qS 20 25 hHeld ?_; simp only [pS]; refine tz 21 26 hHeld ?_; simp only [pS]; refine tz 22 4 hHeld ?_; simp only [pS]; refine wpAnyH_done (by kernel_rfl) ?_ _; refine NoPanic.normal ?_; go_wp2; go_ret; exact ⟨rfl, (bR _ _).drew⟩
theorem fmay_2 (h : FSw w P s W) (z : Nat) (h0 : 0 < s.row.length) (h1 : s.L.length < s.win) : Calls Tryz.prog 41 #[.pointer (some ⟨P.p, 0, none⟩), .int .u64 (z : Int)] w fun e w' => e = .returned (.bool (decide (1 ≤ z ∧ z ≤ mxX))) ∧ Below w.heap.size w w' := by
 obtain ⟨a, cp, hv, -⟩ := OwnG.val h.row; obtain ⟨n, hn⟩ : ∃ n, n = P.R.length := ⟨_, rfl⟩; rw [← hn] at hv; obtain ⟨l, hl⟩ : ∃ l, l = s.L.length := ⟨_, rfl⟩; have hc : ∀ u, Below w.heap.size w u → u.cell? ⟨P.p, 6, none⟩ = some (.slice a n cp) ∧ u.cell? ⟨P.p, 7, none⟩ = some (.map (some P.ms)) ∧ u.cell? ⟨P.p, 3, none⟩ = some (.int .i64 (s.win : Int)) := fun u hu => by rw [← hv]; exact ⟨(h.below hu).cell 6, (h.below hu).cell 7, (h.below hu).cell 3⟩
 have hml : ∀ u ty, Below w.heap.size w u → (Builtin.len_ #[tMp] ty #[.map (some P.ms)]).run Tryz.prog u = .ok (.int .i64 (l : Int)) u := fun u ty hu => by
  have h9 := (h.mp.below hu).len uMp ty; rw [mpF_len h.len, ← hl] at h9; exact h9
 have hi : (0 : Int) < (n : Int) := by rw [hn, h.rlen]; omega
 have hw : (l : Int) < (s.win : Int) := by omega
 obtain ⟨bb, hbb⟩ : ∃ bb, bb = decide (1 ≤ z ∧ z ≤ mxX) := ⟨_, rfl⟩; have HI : Hid (∀ u, Calls Tryz.prog 31 #[.int .u64 (z : Int)] u fun e w' => e = .returned (.bool bb) ∧ w' = u) := fun u => by rw [hbb]; exact fisNumber_t z u
 rw [← hbb]; clear h h0 h1 hv hn hl hbb; go_enter Tryz.func41, Tryz.ntmps41
 (go_wp2_with fail); refine wp_region_noPanic ?_; refine wp_region_held_drew (S := (fun u => Below w.heap.size w u)) (by kernel_rfl) (by first | exact (bR _ _).drew | assumption) (fun hHeld => ?_); refine tz 0 5 hHeld ?_; simp only [pS]; refine tz 1 6 hHeld ?_; simp only [pS]; refine tz 2 7 hHeld ?_; simp only [pS]; refine tz 3 8 hHeld ?_; simp only [pS]; refine tz 4 9 hHeld ?_; simp only [pS]; refine tk 5 10 (v := .bool true) ?_ hHeld ?_
 · (intro w hSw; go_simp; try omega)
 simp only [pS]; refine tz 6 11 hHeld ?_; simp only [pS]; refine tz 7 12 hHeld ?_; simp only [pS]; refine tz 8 13 hHeld ?_; simp only [pS]; refine tz 9 14 hHeld ?_; simp only [pS]; refine tz 10 15 hHeld ?_; simp only [pS]; refine tz 11 16 hHeld ?_; simp only [pS]; refine tz 12 17 hHeld ?_; simp only [pS]; refine tz 13 18 hHeld ?_; simp only [pS]; refine tz 14 19 hHeld ?_; simp only [pS]; refine tz 15 20 hHeld ?_; simp only [pS]; refine tk 16 21 (v := .bool true) ?_ hHeld ?_
 · (intro w hSw; go_simp; try omega)
 simp only [pS]; refine tz 17 22 hHeld ?_; simp only [pS]; refine tz 18 23 hHeld ?_; simp only [pS]; refine tz 19 24 hHeld ?_; simp only [pS]; refine run_at (i := 20) rfl (by kernel_rfl) (by rfl) (fun K hK => ?_); simp only [gE]; go_simp
 (go_at_call 31; refine Calls.mono (HI.out _) ?_; rintro e9 u9 ⟨rfl, hq9⟩; have hq9 := hq9.symm; subst hq9)
 (go_wp2_with fail); refine hK.out _ _ (by first | exact (bR _ _).drew | assumption) ?_; clear hK K; clear hHeld; intro hHeld; (try simp only [pS]); refine tz 21 26 hHeld ?_; simp only [pS]; refine tz 22 4 hHeld ?_; simp only [pS]; refine wpAnyH_done (by kernel_rfl) ?_ _; refine NoPanic.normal ?_; go_wp2; go_ret; exact ⟨rfl, (bR _ _).drew⟩
end
open Go.RowKit Go.Maps
theorem mpF_set : ∀ {L : List Fe} {M : List Fm} (i : Nat) {x x' : Fe} {m m' : Fm}, L[i]? = some x → M[i]? = some m → x'.n = x.n → m'.g = m.g → mpF (L.set i x') (M.set i m') = mpF L M
 | [], _, i, x, x', m, m', h, _, _, _ => by simp at h
 | _ :: _, [], i, x, x', m, m', _, h, _, _ => by simp at h
 | y :: L, n :: M, 0, x, x', m, m', hx, hm, e1, e2 => by
  simp only [List.getElem?_cons_zero, Option.some.injEq] at hx hm; subst hx hm; simp [mpF, e1, e2]
 | y :: L, n :: M, i + 1, x, x', m, m', hx, hm, e1, e2 => by
  have h9 := mpF_set i (L := L) (M := M) (by simpa using hx) (by simpa using hm) e1 e2; simp only [mpF, List.set_cons_succ, List.zipWith_cons_cons] at h9 ⊢; rw [h9]
theorem map_set_same {α β : Type} (f : α → β) : ∀ {L : List α} (i : Nat) {x x' : α}, L[i]? = some x → f x' = f x → (L.set i x').map f = L.map f
 | [], i, x, x', h, _ => by simp at h
 | y :: L, 0, x, x', h, e => by
  simp only [List.getElem?_cons_zero, Option.some.injEq] at h; subst h; simp [e]
 | y :: L, i + 1, x, x', h, e => by
  have h9 := map_set_same f i (L := L) (by simpa using h) e; simp only [List.set_cons_succ, List.map_cons, h9]
theorem set_at {α : Type} {L : List α} {i j : Nat} {x' y : α} (h : (L.set i x')[j]? = some y) : (j = i ∧ y = x') ∨ (j ≠ i ∧ L[j]? = some y) := by
 by_cases e : j = i
 · subst e
   by_cases hl : j < L.length
   · rw [List.getElem?_set_self hl] at h; exact .inl ⟨rfl, (Option.some.inj h).symm⟩
   · rw [List.getElem?_eq_none (by rw [List.length_set]; omega)] at h; cases h
 · rw [List.getElem?_set_ne (fun e9 => e e9.symm)] at h; exact .inr ⟨e, h⟩
theorem FInv.set {s : Fs} (h : FInv s) {i : Nat} {x x' : Fe} (hx : s.L[i]? = some x) (e1 : x'.n = x.n) (e2 : x'.k = x.k) (e3 : x'.T = x.T) (ha : x'.ag ≤ s.rs) : FInv { s with L := s.L.set i x' } := by
 have hn : (s.L.set i x').map Fe.n = s.L.map Fe.n := map_set_same Fe.n i hx e1; have hk : (s.L.set i x').map Fe.k = s.L.map Fe.k := map_set_same Fe.k i hx e2
 have hm : ∀ y, y ∈ s.L.set i x' → y = x' ∨ y ∈ s.L := fun y hy => by
  obtain ⟨j, hj, rfl⟩ := List.getElem_of_mem hy; rcases set_at (List.getElem?_eq_getElem hj) with ⟨-, h9⟩ | ⟨-, h9⟩
  · exact .inl h9
  · exact .inr (List.mem_of_getElem? h9)
 have hxm := List.mem_of_getElem? hx; refine ⟨h.mt, h.rt, h.rs, h.wn, h.e, h.c, h.nc, ?_, ?_, fun y hy => ?_, ?_, ?_, ?_, h.blk, fun y hy => ?_, fun y hy => ?_⟩
 · show s.row.length + (s.L.set i x').length ≤ 64; rw [List.length_set]; exact h.len
 · show (s.L.set i x').length ≤ s.win; rw [List.length_set]; exact h.lw
 · rcases hm y hy with rfl | h9
   · rw [e1]; exact h.num x hxm
   · exact h.num y h9
 · have h9 : ((s.L.set i x').map Fe.n).Pairwise (fun a b => a < b) := by rw [hn, List.pairwise_map]; exact h.up
   exact List.pairwise_map.1 h9
 · show ∀ k, k ∈ s.row.map Prod.fst ∨ k ∈ (s.L.set i x').map Fe.k → goodK k; rw [hk]; exact h.good
 · show (s.row.map Prod.fst ++ (s.L.set i x').map Fe.k).Nodup; rw [hk]; exact h.nk
 · rcases hm y hy with rfl | h9
   · rw [e3]; exact h.seg x hxm
   · exact h.seg y h9
 · rcases hm y hy with rfl | h9
   · exact ha
   · exact h.ag y h9
section
variable {w w' : World} {P : Fp} {s : Fs} {W W' : List Wh.Tm}
theorem FSw.setBox (h : FSw w P s W) {i : Nat} {x x' : Fe} {m m' : Fm} (hx : s.L[i]? = some x) (hm : P.M[i]? = some m) (e1 : x'.n = x.n) (e2 : x'.k = x.k) (e3 : x'.T = x.T) (ha : x'.ag ≤ s.rs) (eg : m'.g = m.g) (hc : Chg (fun b => b = m.g) w w') (hse : SeA w' x' m') (hf : ∀ b, footM m' b → footM m b ∨ w.heap.size ≤ b) :
 FSw w' { P with M := P.M.set i m' } { s with L := s.L.set i x' } W ∧ FStp w w' P { P with M := P.M.set i m' } := by
 have hmm := List.mem_of_getElem? hm; have hbx := (h.se i x m hx hm).box; have hng : ∀ b, footF P b → b ≠ m.g → w'.heap[b]? = w.heap[b]? := fun b hb hne => hc.block b (h.lt hb) hne
 have hty : ∀ (b : Nat) (C : Array Value) (t : TypeId) (f : Nat × Nat), w.heap[b]? = some (Obj.cells C t f) → t ≠ tFs → b ≠ m.g := fun b C t f h1 h2 e => by
  rw [e, hbx] at h1
  injection h1 with h1
  injection h1 with h1 h3
  exact h2 h3.symm
 have hp : P.p ≠ m.g := hty _ _ _ _ h.blk (by decide)
 have hms : P.ms ≠ m.g := fun e => by
  obtain ⟨es, cl, h2⟩ := h.mp.at_; rw [e, hbx] at h2; cases h2
 have hrv : ∀ b, P.rv.ownBlock = some b → b ≠ m.g := fun b hb => by
  obtain ⟨cur, h9⟩ := h.row.at_ hb; exact hty b _ _ _ h9 (by decide)
 have hxv : ∀ b, XV (P.R.map Prod.snd) b → b ≠ m.g := fun b hb => by
  obtain ⟨C, h9⟩ := h.rb.ty hb; exact hty b _ _ _ h9 (by decide)
 have hwg : ∀ b, Wh.footW P.pw P.mw P.V b → b ≠ m.g := fun b hb e => (h.aw b hb).2.2.2.2 m hmm (.inl e)
 have hfm : ∀ b, footM m b → footF P b := fun b hb => .inr (.inr (.inr (.inr (.inl ⟨m, hmm, hb⟩))))
 have hmem : ∀ n, n ∈ P.M.set i m' → n = m' ∨ n ∈ P.M := fun n hn => by
  obtain ⟨j, hj, rfl⟩ := List.getElem_of_mem hn; rcases set_at (List.getElem?_eq_getElem hj) with ⟨-, h9⟩ | ⟨-, h9⟩
  · exact .inl h9
  · exact .inr (List.mem_of_getElem? h9)
 refine ⟨⟨(hng _ (.inl rfl) hp).trans h.blk, h.row.kept (fun b hb => hng b (.inr (.inr (.inl hb))) (hrv b hb)), h.rk, h.rb.kept (fun b hb => hng b (.inr (.inr (.inr (.inl hb)))) (hxv b hb)), ?_, ?_, fun j y n h1 h2 => ?_, h.wh.chg (chgV hc) (fun b hb e => hwg b hb e), h.inv.set hx e1 e2 e3 ha, fun b hb => ⟨(h.aw b hb).1, (h.aw b hb).2.1, (h.aw b hb).2.2.1, (h.aw b hb).2.2.2.1, fun n hn hq => ?_⟩, fun j j' n n' b h1 h2 hne hb hb' => ?_, fun n hn b hb hq => ?_⟩, hc.mono (fun b hb => by rw [hb]; exact hfm _ (.inl rfl)), fun b hb => ?_⟩
 · show MapG KSp w' P.ms (mpF (s.L.set i x') (P.M.set i m')); rw [mpF_set i hx hm e1 eg]; exact h.mp.kept (hng _ (.inr (.inl rfl)) hms)
 · show (P.M.set i m').length = (s.L.set i x').length; rw [List.length_set, List.length_set, h.len]
 · rcases set_at h1 with ⟨q1, rfl⟩ | ⟨q1, q2⟩
   · rcases set_at h2 with ⟨-, rfl⟩ | ⟨q3, -⟩
     · exact hse
     · exact absurd q1 q3
   · rcases set_at h2 with ⟨q3, -⟩ | ⟨-, q4⟩
     · exact absurd q3 q1
     · refine (h.se j y n q2 q4).kept (fun b hb => hng b (.inr (.inr (.inr (.inr (.inl ⟨n, List.mem_of_getElem? q4, hb⟩))))) (fun e => ?_)); exact h.am j i n m b q4 hm q1 hb (.inl e)
 · rcases hmem n hn with rfl | h9
   · rcases hf b hq with h8 | h8
     · exact (h.aw b hb).2.2.2.2 m hmm h8
     · have := h.wh.lt hb; omega
   · exact (h.aw b hb).2.2.2.2 n h9 hq
 · rcases set_at h1 with ⟨q1, rfl⟩ | ⟨q1, q2⟩
   · rcases set_at h2 with ⟨q3, -⟩ | ⟨q3, q4⟩
     · exact hne (q1.trans q3.symm)
     · rcases hf b hb with h8 | h8
       · exact h.am i j' m n' b hm q4 (fun e => q3 e.symm) h8 hb'
       · have := h.lt (.inr (.inr (.inr (.inr (.inl ⟨n', List.mem_of_getElem? q4, hb'⟩))))); omega
   · rcases set_at h2 with ⟨q3, rfl⟩ | ⟨q3, q4⟩
     · rcases hf b hb' with h8 | h8
       · exact h.am j i n m b q2 hm q1 hb h8
       · have := h.lt (.inr (.inr (.inr (.inr (.inl ⟨n, List.mem_of_getElem? q2, hb⟩))))); omega
     · exact h.am j j' n n' b q2 q4 hne hb hb'
 · rcases hmem n hn with rfl | h9
   · rcases hf b hb with h8 | h8
     · exact h.ab m hmm b h8 hq
     · have := h.lt (.inr (.inr (.inr (.inl hq)))); omega
   · exact h.ab n h9 b hb hq
 · rcases hb with e | e | e | e | ⟨n, hn, hb⟩ | e
   · exact .inl (.inl e)
   · exact .inl (.inr (.inl e))
   · exact .inl (.inr (.inr (.inl e)))
   · exact .inl (.inr (.inr (.inr (.inl e))))
   · rcases hmem n hn with rfl | h9
     · rcases hf b hb with h8 | h8
       · exact .inl (hfm b h8)
       · exact .inr h8
     · exact .inl (.inr (.inr (.inr (.inr (.inl ⟨n, h9, hb⟩)))))
   · exact .inl (.inr (.inr (.inr (.inr (.inr e)))))
end
open Go.RowKit Go.Maps
section
variable {w w' : World} {P : Fp} {s : Fs} {W W' : List Wh.Tm}
set_option maxRecDepth 20000
set_option maxHeartbeats 3200000
theorem fsendAgain_t (h : FSw w P s W) {i : Nat} {x x' : Fe} {m : Fm} (hx : s.L[i]? = some x) (hm : P.M[i]? = some m) (e1 : x'.n = x.n) (e2 : x'.k = x.k) (e3 : x'.T = x.T) (e4 : x'.told = x.told) (e5 : x'.ag = x.ag + 1) (ha : x'.ag ≤ s.rs) (hS : s.S < 18446744073709551615) (hW : W.length ≤ 4398046511104) (hl : x.told.length ≤ 1000000) :
 Calls Tryz.prog 44 #[.pointer (some ⟨P.p, 0, none⟩), .int .u64 (x.n : Int), .pointer (some ⟨m.g, 0, none⟩)] w fun e w' => ∃ (v : Value) (ys : List Rg) (D : List Dc) (P' : Fp), e = .returned v ∧ MissF x' ys ∧ UR w' w.heap.size v s.ep x.n x.T.length (idxR ys) D ((idxR ys).map (txF x)) ∧ FSw w' P' { s with L := s.L.set i x', S := s.S + 1 } (Wh.setL W s.N s.S (x.n : Int) (s.clk + s.rt)) ∧ FStp w w' P P' ∧ (∀ b, v.ownBlock = some b ∨ XV D b → ¬ footF P' b) ∧ (P'.p = P.p ∧ P'.pw = P.pw ∧ P'.M[i]? = some m) := by
 have hse := h.se i x m hx hm; have hn := (h.inv.num x (List.mem_of_getElem? hx)).2; have hag : x.ag ≤ 16 := by have := h.inv.rs; omega
 have hc4 : w.cell? ⟨m.g, 4, none⟩ = some (.int .i64 (x.ag : Int)) := by rw [cR hse.box]; rfl
 have hf4 : w.frozen? ⟨m.g, 4, none⟩ = false := by simp [World.frozen?, hse.box]
 have haw : IntKind.i64.wrap ((x.ag : Int) + 1) = (x'.ag : Int) := by rw [IntKind.wrap_i64]; omega
 obtain ⟨w1, hw1⟩ : ∃ w1, w1 = w.setCell ⟨m.g, 4, none⟩ (.int .i64 (x'.ag : Int)) := ⟨_, rfl⟩; have hcg : Chg (fun b => b = m.g) w w1 := by rw [hw1]; exact Chg.of_grown (gset1 _ _ _ _) (fun b e => (Option.some.inj e).symm)
 have hbx1 : w1.heap[m.g]? = some (.cells #[.int .i64 x'.k.1, .int .u64 (x'.k.2 : Int), m.sv, m.tv, .int .i64 (x'.ag : Int)] tFs (0, 0)) := by
  rw [hw1, e2]; exact heap_setCell_same w m.g 4 _ tFs _ hse.box
 have hty : ∀ (b : Nat) (C : Array Value) (t : TypeId) (f : Nat × Nat), w.heap[b]? = some (Obj.cells C t f) → t ≠ tFs → w1.heap[b]? = w.heap[b]? := fun b C t f h1 h2 => hcg.block b (sI h1).1 (fun e => by
   rw [e, hse.box] at h1
   injection h1 with h1
   injection h1 with h1 h3
   exact h2 h3.symm)
 have hse1 : SeA w1 x' m := by
  refine ⟨hbx1, ?_, ?_⟩
  · rw [e3]; refine hse.seg.kept (fun b hb => ?_); rcases hb with hb | hb
    · obtain ⟨cur, h9⟩ := hse.seg.row.at_ hb; exact hty b _ _ _ h9 (by decide)
    · obtain ⟨C, h9⟩ := hse.seg.fml.ty hb; exact hty b _ _ _ h9 (by decide)
  · rw [e4]; refine hse.tol.keptR (fun b hb => ?_); obtain ⟨cur, h9⟩ := hse.tol.atR hb; exact hty b _ _ _ h9 (by decide)
 obtain ⟨hF1, hS1⟩ := h.setBox hx hm e1 e2 e3 ha rfl hcg hse1 (fun b hb => .inl hb); have hiM : i < P.M.length := (List.getElem?_eq_some_iff.1 hm).1; have hiL : i < s.L.length := (List.getElem?_eq_some_iff.1 hx).1; have hMs : (P.M.set i m)[i]? = some m := List.getElem?_set_self hiM; have hLs : (s.L.set i x')[i]? = some x' := List.getElem?_set_self hiL; have HST : Hid _ := fsetTimer_t hF1 x.n hn hS hW; have HW1 : Hid (w1 = _) := hw1; have HS1 : Hid _ := hS1; have HML : Hid ((P.M.set i m)[i]? = some m ∧ (s.L.set i x')[i]? = some x') := ⟨hMs, hLs⟩; have HE : Hid (x'.n = x.n ∧ x'.T = x.T ∧ x'.told = x.told) := ⟨e1, e3, e4⟩; have HTL : Hid (x'.told.length ≤ 1000000) := by unfold Hid; rw [e4]; exact hl
 have HTX : Hid (txF x' = txF x) := by unfold Hid; funext k; unfold txF; rw [e3]
 clear h hx hm e1 e2 e3 e4 e5 ha hS hW hl hse hn hag hw1 hcg hbx1 hty hse1 hF1 hS1 hiM hiL hMs hLs; go_enter Tryz.func44, Tryz.ntmps44
 (go_wp2_with fail); rw [← HW1.out]; clear hc4 hf4; refine Calls.mono HST.out ?_; rintro e9 w2 ⟨rfl, V', hF2, hS2⟩; have HUN : Hid _ := funits_t hF2 HML.out.2 HML.out.1 HTL.out; rw [HE.out.1] at HUN; have HF2 : Hid _ := hF2; have HS2 : Hid _ := hS2; clear hF2 hS2; (go_wp2_with fail); refine Calls.mono HUN.out ?_; rintro e9 w3 ⟨v, ys, D, rfl, hms, hur, hb3⟩; have HM : Hid _ := hms; have HU : Hid _ := hur; have HB3 : Hid _ := hb3; clear hms hur hb3; go_wp2; go_ret; have hst := HS1.out.trans (HS2.out.trans (FStp.below HB3.out _)); have hsz : w.heap.size ≤ w2.heap.size := (HS1.out.trans HS2.out).chg.size; have hU := HU.out; rw [HE.out.2.1, HTX.out] at hU; have hU2 : UR w3 w.heap.size v s.ep x.n x.T.length (idxR ys) D ((idxR ys).map (txF x)) := ⟨OwnG.base hU.row hsz, hU.len, ⟨hU.fml.len, fun i d t h1 h2 => Own.base (hU.fml.own i d t h1 h2) hsz, hU.fml.ap⟩⟩
 have hfar : ∀ b, v.ownBlock = some b ∨ XV D b → ¬ footF { P with M := P.M.set i m, V := V' } b := fun b hb hf => by
  have h8 := HF2.out.lt hf; rcases hb with hb | hb
  · have := (hU.row.lt' hb).1; omega
  · have := (hU.fml.lt hb).1; omega
 first
  | exact ⟨v, ys, D, { P with M := P.M.set i m, V := V' }, rfl, HM.out, hU2, HF2.out.below HB3.out, hst, hfar, rfl, rfl, HML.out.1⟩
  | exact ⟨v, rfl, ys, HM.out, D, hU2, { P with M := P.M.set i m, V := V' }, HF2.out.below HB3.out, hst, hfar, rfl, rfl, HML.out.1⟩
  | exact ⟨_, rfl, ys, D, { P with M := P.M.set i m, V := V' }, HM.out, hU2, HF2.out.below HB3.out, hst, hfar, rfl, rfl, HML.out.1⟩
  | (refine ⟨_, rfl, ys, HM.out, D, ?_⟩; first | exact ⟨{ P with M := P.M.set i m, V := V' }, hU2, HF2.out.below HB3.out, hst, hfar, rfl, rfl, HML.out.1⟩ | exact ⟨hU2, { P with M := P.M.set i m, V := V' }, HF2.out.below HB3.out, hst, hfar, rfl, rfl, HML.out.1⟩)
end
end Go.Proofs.YtpakkpahcpgnnaaGreatDoor
