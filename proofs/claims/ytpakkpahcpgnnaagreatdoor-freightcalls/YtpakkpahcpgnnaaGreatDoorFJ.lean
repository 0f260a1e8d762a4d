import Derived.Test.YtpakkpahcpgnnaaGreatDoorFB
import Derived.Test.YtpakkpahcpgnnaaGreatDoorKy
set_option linter.unusedVariables false
set_option linter.unusedSimpArgs false
namespace Go.Proofs.YtpakkpahcpgnnaaGreatDoor
open Go.RowKit Go.Maps
abbrev tMp : TypeId := 89
theorem uMp : Tryz.prog.underlying tMp = some (.map KSp.t 100) := Tryz.underlying89
theorem mpF_keys : ∀ {L : List Fe} {M : List Fm}, M.length = L.length → gk (mpF L M) = L.map Fe.n
 | [], [], _ => rfl
 | [], _ :: _, h => by simp at h
 | _ :: _, [], h => by simp at h
 | x :: L, m :: M, h => by
  have h9 := mpF_keys (L := L) (M := M) (by simpa using h); simp only [mpF, List.zipWith_cons_cons, gk, List.map_cons] at h9 ⊢; rw [h9]
theorem mpF_len {L : List Fe} {M : List Fm} (h : M.length = L.length) : (mpF L M).length = L.length := by simp [mpF, h]
section
variable {w w' : World} {P : Fp} {s : Fs} {W : List Wh.Tm}
set_option maxRecDepth 20000
set_option maxHeartbeats 3200000
theorem FSw.rlen (h : FSw w P s W) : P.R.length = s.row.length := by
 have h9 := congrArg List.length h.rk
 simpa using h9
theorem fwaiting_t (h : FSw w P s W) : Calls Tryz.prog 12 #[.pointer (some ⟨P.p, 0, none⟩)] w fun e w' => ∃ v, e = .returned v ∧ OwnG KKy w' w.heap.size v (s.row.map Prod.fst) ∧ Below w.heap.size w w' := by
 have HMD : Hid _ := fmade_t h; have hc6 : w.cell? ⟨P.p, 6, none⟩ = some P.rv := h.cell 6; obtain ⟨a, cp, hv, -, -, -, hrd⟩ := OwnG.val h.row; have HR : Hid (RdG KFr w a P.R) := hrd; obtain ⟨n, hn⟩ : ∃ n, n = P.R.length := ⟨_, rfl⟩; rw [← hn] at hv; rw [hv] at hc6; have hl : n ≤ 64 := by rw [hn, h.rlen]; have := h.inv.len; omega
 have HN : Hid (n = P.R.length) := hn; have HRK : Hid _ := h.rk; clear h hn hv hrd; go_enter Tryz.func12, Tryz.ntmps12
 go_wp2_with (go_at_call 34; refine Calls.mono HMD.out ?_; rintro e u2 ⟨rfl, hq⟩; have hq := hq.symm; subst hq)
 go_loopw [3, 14] (fun u j wr => ∃ k : Nat, k ≤ n ∧ j = .int .i64 (k : Int) ∧ OwnG KKy wr w.heap.size u ((P.R.take k).map Prod.fst) ∧ Below w.heap.size w wr) (fun _ j _ => n - (intOf j).toNat)
 case atStart => exact ⟨0, Nat.zero_le _, rfl, World.ownsRow_nil _ _ _ _, bR _ _⟩
 case round =>
  obtain ⟨k, hkn, rfl, hown, hbw⟩ := hrel; have hkw : IntKind.i64.wrap ((k : Int) + 1) = ((k + 1 : Nat) : Int) := by rw [IntKind.wrap_i64]; omega
  by_cases hlt : k < n
  · have hlti : (k : Int) < (n : Int) := by omega
    have hk0 : (0 : Int) ≤ (k : Int) := by omega
    have hk1 : k < P.R.length := by rw [← HN.out]; exact hlt
    obtain ⟨b, o, rfl, r1, -⟩ := RdG.below HR.out hbw k hk1; obtain ⟨x, hx⟩ : ∃ x : Fk × Dc, x = P.R[k] := ⟨_, rfl⟩; have g0 := r1 0 (.int .i64 x.1.1) (by rw [hx]; rfl); rw [Nat.add_zero] at g0; have g1 := r1 1 (.int .u64 (x.1.2 : Int)) (by rw [hx]; rfl); have g2 := r1 2 x.2.v (by rw [hx]; rfl); have HT : Hid ((P.R.take k).map Prod.fst ++ [x.1] = (P.R.take (k + 1)).map Prod.fst) := by unfold Hid; rw [List.take_succ_eq_append_getElem hk1, ← hx]; simp
    have HSZ : Hid (w.heap.size ≤ wr.heap.size) := hbw.size; obtain ⟨⟨x1, x2⟩, da, dn, dc⟩ := x; have HO : Hid (OwnG KKy ((wr.alloc (.cells #[.int .i64 x1, .int .u64 (x2 : Int), .slice da dn dc] tFr)).alloc (.cells #[.int .i64 x1, .int .u64 (x2 : Int)] tFk)) w.heap.size u3 ((P.R.take k).map Prod.fst)) := hown.below (alw (alw (bR _ _) _) _); have HL3 : Hid (∀ b, u3.ownBlock = some b → w.heap.size ≤ b) := fun b hb => (hown.lt' hb).1
    have HBW : Hid _ := hbw; obtain ⟨m3, hm3⟩ : ∃ m3, m3 = ((P.R.take k).map Prod.fst).length := ⟨_, rfl⟩; have hm64 : m3 ≤ 64 := by rw [hm3, List.length_map, List.length_take]; omega
    have HM3 : Hid _ := hm3; have HZ1 : Hid ((wr.alloc (.cells #[.int .i64 x1, .int .u64 (x2 : Int), .slice da dn dc] tFr)).heap.size = wr.heap.size + 1) := by unfold Hid; simp
    clear r1 hx hk1 hown hbw hm3; go_wp2_with (at_builtin; refine wp_appG1 (K := KKy) rfl _ _ rfl w.heap.size u3 ((P.R.take k).map Prod.fst) (x1, x2) m3 HM3.out ⟨wr.heap.size + 1, 0, none⟩ 1 rfl HO.out rfl (rdF_new _ (x1, x2) _ HZ1.out.symm) (by show (m3 + 1) * 16 ≤ _; omega) (by simp only [maxLen]; omega) (by have := HSZ.out; simp; omega) ?_; intro g7 c7 w7 hown7 hg7 hlie7; rw [HT.out] at hown7; have HO7 : Hid _ := hown7; have HG7 : Hid _ := hg7; clear hown7 hg7 hlie7)
    go_roundw
    case rel => exact ⟨k + 1, hlt, by go_num, HO7.out, (alw (alw HBW.out _) _).grown HG7.out (by have := HSZ.out; simp; omega) (fun j hj => HL3.out j hj)⟩
    case measure => simp [intOf]; omega
  · have hlti : ¬ (k : Int) < (n : Int) := by omega
    have htk : P.R.take k = P.R := List.take_of_length_le (by rw [← HN.out]; omega); rw [htk, HRK.out] at hown; have HO5 : Hid _ := hown; have HBW : Hid _ := hbw; clear hown hbw htk; go_wp2; go_ret; exact ⟨_, rfl, HO5.out, HBW.out⟩
end
open Go.RowKit Go.Maps
section
variable {w w' : World} {P : Fp} {s : Fs} {W : List Wh.Tm}
set_option maxRecDepth 20000
set_option maxHeartbeats 3200000
theorem fisPassed_t (h : FSw w P s W) (z : Nat) : Calls Tryz.prog 39 #[.pointer (some ⟨P.p, 0, none⟩), .int .u64 (z : Int)] w fun e w' => e = .returned (.bool (s.L.any (fun x => decide (z ≤ x.n)))) ∧ Below w.heap.size w w' := by
 have hc7 : w.cell? ⟨P.p, 7, none⟩ = some (.map (some P.ms)) := h.cell 7; have HMP : Hid (MapG KSp w P.ms (mpF s.L P.M)) := h.mp; have HK : Hid (gk (mpF s.L P.M) = s.L.map Fe.n) := mpF_keys h.len; have HML : Hid (P.ms < w.heap.size) := h.mp.lt; obtain ⟨bb, hbb⟩ : ∃ bb, bb = s.L.any (fun x => decide (z ≤ x.n)) := ⟨_, rfl⟩; rw [← hbb]
 have HT : Hid ((∃ n, n ∈ s.L.map Fe.n ∧ z ≤ n) → bb = true) := fun ⟨n, h1, h2⟩ => by
  obtain ⟨x, hx, rfl⟩ := List.mem_map.1 h1; rw [hbb]; exact List.any_eq_true.2 ⟨x, hx, decide_eq_true h2⟩
 have HF : Hid ((∀ n, n ∈ s.L.map Fe.n → ¬ z ≤ n) → bb = false) := fun h1 => by
  rw [hbb, List.any_eq_false]; intro x hx; have h2 := h1 x.n (List.mem_map.2 ⟨x, hx, rfl⟩)
  simpa using h2
 clear h hbb; go_enter Tryz.func39, Tryz.ntmps39
 go_wp2_with (at_range; refine gwpn_range (K := KSp) uMp rfl _ rfl (L := mpF s.L P.M) HMP.out rfl ?_; intro w3 hr3 hg3 hs3)
 go_frame
 obtain ⟨R, hR⟩ : ∃ R, R = w.heap.size := ⟨_, rfl⟩; rw [← hR] at hr3 ⊢; have hb3 : Below w.heap.size w w3 := (bR _ _).grown hg3 (Nat.le_refl _) (fun j hj => by cases hj); have HRP : Hid (R = w.heap.size) := hR; rw [HRP.out]; rw [hR] at hr3; clear hg3 hs3 hR; go_loopw [5] (fun _ wr => ∃ (ds : List Nat) (cnt : Nat), RngG KSp wr P.ms w.heap.size (mpF s.L P.M) ds cnt ∧ (∀ d, d ∈ ds → ¬ z ≤ d) ∧ Below w.heap.size w wr) (fun _ wr => wr.rangeLeft P.ms w.heap.size)
 case atStart => exact ⟨[], _, hr3, (fun d hd => by cases hd), hb3⟩
 case round =>
  obtain ⟨ds, cnt, hrg, hds, hbw⟩ := hrel; clear hr3 hb3; go_wp2_with (at_next; refine gwpn_next rfl _ rfl hrg rfl ?_ ?_)
  · intro hd; have HFB : Hid (bb = false) := HF.out (fun n hn => hds n ((hd n).2 (by rw [HK.out]; exact hn))); have HBW : Hid _ := hbw; clear hd hrg hds hbw; go_wp2; go_ret; exact ⟨by rw [HFB.out]; rfl, HBW.out⟩
  · intro n9 g9 w5 cnt5 hx9 hnd hrg5 hlt5 hg5 hs5 hen; have hen' : (Instr.entry (.pointer (some ⟨w.heap.size, 0, none⟩))).run Tryz.prog w5 = .ok (.tuple #[.int .u64 (n9 : Int), .pointer (some ⟨g9, 0, none⟩)]) w5 := hen; have HRG5 : Hid (RngG KSp w5 P.ms w.heap.size (mpF s.L P.M) (ds ++ [n9]) cnt5) := hrg5; have HB5 : Hid (Below w.heap.size w w5) := hbw.grown hg5 hbw.size (fun j hj => by have := Option.some.inj hj; omega); have HLT : Hid (cnt5 < wr.rangeLeft P.ms w.heap.size) := by unfold Hid; rw [hrg.left_eq]; exact hlt5
    have HIN : Hid (n9 ∈ s.L.map Fe.n) := by
     unfold Hid; rw [← HK.out]; exact List.mem_map.2 ⟨(n9, g9), hx9, rfl⟩
    have HDS : Hid _ := hds; clear hen hx9 hnd hrg5 hlt5 hg5 hs5 hrg hds hbw
    by_cases hz : z ≤ n9
    · have hzi : (z : Int) ≤ (n9 : Int) := by omega
      have HTB : Hid (bb = true) := HT.out ⟨n9, HIN.out, hz⟩; go_wp2; go_ret; exact ⟨by rw [HTB.out]; rfl, HB5.out⟩
    · have hzi : ¬ (z : Int) ≤ (n9 : Int) := by omega
      have HZ : Hid _ := hz; go_wp2; go_roundw
      case rel =>
       refine ⟨_, _, HRG5.out, fun d hd => ?_, HB5.out⟩; rcases List.mem_append.1 hd with h1 | h1
       · exact HDS.out d h1
       · rw [List.mem_singleton.1 h1]; exact HZ.out
      case measure =>
       rw [HRG5.out.left_eq]; exact HLT.out
end
open Go.RowKit Go.Maps
theorem mpF_mem : ∀ {L : List Fe} {M : List Fm} {n g : Nat}, (n, g) ∈ mpF L M → ∃ (i : Nat) (x : Fe) (m : Fm), L[i]? = some x ∧ M[i]? = some m ∧ x.n = n ∧ m.g = g
 | [], _, n, g, h => by simp [mpF] at h
 | _ :: _, [], n, g, h => by simp [mpF] at h
 | x :: L, m :: M, n, g, h => by
  simp only [mpF, List.zipWith_cons_cons, List.mem_cons, Prod.mk.injEq] at h; rcases h with ⟨rfl, rfl⟩ | h
  · exact ⟨0, x, m, rfl, rfl, rfl, rfl⟩
  · obtain ⟨i, y, m', h1, h2, h3, h4⟩ := mpF_mem (L := L) (M := M) h; exact ⟨i + 1, y, m', by simpa using h1, by simpa using h2, h3, h4⟩
def NumOf (L : List Fe) (k : Fk) (e : Ending) : Prop := (∃ x, x ∈ L ∧ x.k = k ∧ e = .returned (.int .u64 (x.n : Int))) ∨ (k ∉ L.map Fe.k ∧ e = .returned (.int .u64 0))
section
variable {w w' : World} {P : Fp} {s : Fs} {W : List Wh.Tm}
set_option maxRecDepth 20000
set_option maxHeartbeats 3200000
theorem fnumberOf_t (h : FSw w P s W) (kk : Fk) : Calls Tryz.prog 36 #[.pointer (some ⟨P.p, 0, none⟩), fv kk] w fun e w' => NumOf s.L kk e ∧ Below w.heap.size w w' := by
 obtain ⟨s1, s2⟩ := kk; obtain ⟨w1, hw1⟩ : ∃ w1, w1 = w.alloc (.cells #[.int .i64 s1, .int .u64 (s2 : Int)] tFk) := ⟨_, rfl⟩; have hb1 : Below w.heap.size w w1 := by rw [hw1]; exact alw (bR _ _) _
 have hz1 : w1.heap.size = w.heap.size + 1 := by rw [hw1]; simp
 have hkb := keyBoxF w (s1, s2)
 have hk : ∀ u, Below w1.heap.size w1 u → u.cell? ⟨w.heap.size, 0, none⟩ = some (.int .i64 s1) ∧ u.cell? ⟨w.heap.size, 1, none⟩ = some (.int .u64 (s2 : Int)) := fun u hu => by
  have h9 := hkb u (by rw [← hw1, ← hz1]; exact hu); exact ⟨h9.1, h9.2.1⟩
 have h1 := h.below hb1; have hc7 : (w.alloc (.cells #[.int .i64 s1, .int .u64 (s2 : Int)] tFk)).cell? ⟨P.p, 7, none⟩ = some (.map (some P.ms)) := by rw [← hw1]; exact h1.cell 7
 have HMP : Hid (MapG KSp w1 P.ms (mpF s.L P.M)) := h1.mp; have HK : Hid (gk (mpF s.L P.M) = s.L.map Fe.n) := mpF_keys h.len
 have HS : Hid (∀ (u : World) n g, Below w1.heap.size w1 u → (n, g) ∈ mpF s.L P.M → ∃ x, x ∈ s.L ∧ x.n = n ∧ u.cell? ⟨g, 0, none⟩ = some (.int .i64 x.k.1) ∧ u.cell? ⟨g, 1, none⟩ = some (.int .u64 (x.k.2 : Int))) := fun u n g hu hm => by
  obtain ⟨i, x, m, e1, e2, e3, e4⟩ := mpF_mem hm; have h9 := ((h1.below hu).se i x m e1 e2).box; rw [e4] at h9; exact ⟨x, List.mem_of_getElem? e1, e3, by rw [cR h9]; rfl, by rw [cR h9]; rfl⟩
 have HW1 : Hid (w1 = _) := hw1; have HB1 : Hid _ := hb1
 have HUQ : Hid (∀ x y, x ∈ s.L → y ∈ s.L → x.n = y.n → x = y) := fun x y hx hy e => by
  have h9 := h.inv.up; obtain ⟨i, hi, rfl⟩ := List.getElem_of_mem hx; obtain ⟨j, hj, rfl⟩ := List.getElem_of_mem hy; rcases Nat.lt_trichotomy i j with h8 | h8 | h8
  · have := List.pairwise_iff_getElem.1 h9 i j hi hj h8; omega
  · subst h8; rfl
  · have := List.pairwise_iff_getElem.1 h9 j i hj hi h8; omega
 clear h h1 hw1 hb1 hz1 hkb; go_enter Tryz.func36, Tryz.ntmps36
 go_wp2_with (at_range; refine gwpn_range (K := KSp) uMp rfl _ rfl (L := mpF s.L P.M) (by have h9 := HMP.out; rw [HW1.out] at h9; exact h9) rfl ?_; intro w3 hr3 hg3 hs3)
 go_frame
 rw [← HW1.out] at hr3 hg3 hs3 ⊢; have hb3 : Below w1.heap.size w1 w3 := (bR _ _).grown hg3 (Nat.le_refl _) (fun j hj => by cases hj); clear hg3 hs3 hc7; go_loopw [5, 6] (fun _ _ wr => ∃ (ds : List Nat) (cnt : Nat), RngG KSp wr P.ms w1.heap.size (mpF s.L P.M) ds cnt ∧ (∀ x, x ∈ s.L → x.n ∈ ds → x.k ≠ (s1, s2)) ∧ Below w1.heap.size w1 wr) (fun _ _ wr => wr.rangeLeft P.ms w1.heap.size)
 case atStart => exact ⟨[], _, hr3, (fun x _ hd => by cases hd), hb3⟩
 case round =>
  obtain ⟨ds, cnt, hrg, hds, hbw⟩ := hrel; clear hr3 hb3; go_wp2_with (at_next; refine gwpn_next rfl _ rfl hrg rfl ?_ ?_)
  · intro hd
    have HNO : Hid ((s1, s2) ∉ s.L.map Fe.k) := fun h9 => by
     obtain ⟨x, hx, e⟩ := List.mem_map.1 h9; exact hds x hx ((hd x.n).2 (by rw [HK.out]; exact List.mem_map.2 ⟨x, hx, rfl⟩)) e
    have HBW : Hid _ := hbw; clear hd hrg hds hbw; go_wp2; go_ret; exact ⟨.inr ⟨HNO.out, rfl⟩, below_next HB1.out HBW.out⟩
  · intro n9 g9 w5 cnt5 hx9 hnd hrg5 hlt5 hg5 hs5 hen; have hen' : (Instr.entry (.pointer (some ⟨w1.heap.size, 0, none⟩))).run Tryz.prog w5 = .ok (.tuple #[.int .u64 (n9 : Int), .pointer (some ⟨g9, 0, none⟩)]) w5 := hen; have HRG5 : Hid (RngG KSp w5 P.ms w1.heap.size (mpF s.L P.M) (ds ++ [n9]) cnt5) := hrg5; have hb5 : Below w1.heap.size w1 w5 := hbw.grown hg5 hbw.size (fun j hj => by have := Option.some.inj hj; omega); have HLT : Hid (cnt5 < wr.rangeLeft P.ms w1.heap.size) := by unfold Hid; rw [hrg.left_eq]; exact hlt5
    obtain ⟨x, hx, hxn, hx1, hx2⟩ := HS.out w5 n9 g9 hb5 hx9; have HXM : Hid (x ∈ s.L ∧ x.n = n9) := ⟨hx, hxn⟩; have hc : ∀ u, Below w5.heap.size w5 u → u.cell? ⟨g9, 0, none⟩ = some (.int .i64 x.k.1) ∧ u.cell? ⟨g9, 1, none⟩ = some (.int .u64 (x.k.2 : Int)) ∧ u.cell? ⟨w.heap.size, 0, none⟩ = some (.int .i64 s1) ∧ u.cell? ⟨w.heap.size, 1, none⟩ = some (.int .u64 (s2 : Int)) := fun u hu => ⟨(hu.cell (World.block_lt_of_cell? _ _ hx1)).trans hx1, (hu.cell (World.block_lt_of_cell? _ _ hx2)).trans hx2, (hk u (below_next hb5 hu)).1, (hk u (below_next hb5 hu)).2⟩
    have HB5 : Hid _ := hb5; have HDS : Hid _ := hds; clear hen hx9 hnd hrg5 hlt5 hg5 hs5 hrg hds hbw hx hxn hx1 hx2 hb5
    by_cases he : x.k = (s1, s2)
    · have hq : ∀ u, (binOp .eql tFk (.agg #[.int .i64 x.k.1, .int .u64 (x.k.2 : Int)]) (.agg #[.int .i64 s1, .int .u64 (s2 : Int)])).run Tryz.prog u = .ok (.bool true) u := fun u => by rw [eql_fk, he]; simp
      have HE : Hid _ := he; clear he; (go_wp2_with fail); refine wp_region_noPanic ?_; refine wp_region_held_drew (S := (fun u => Below w5.heap.size w5 u)) (by kernel_rfl) (by first | exact (bR _ _).drew | assumption) (fun hHeld => ?_); refine tz 0 17 hHeld ?_; simp only [pS]; refine tz 1 18 hHeld ?_; simp only [pS]; refine tz 2 19 hHeld ?_; simp only [pS]; refine tz 3 20 hHeld ?_; simp only [pS]; refine tz 4 21 hHeld ?_; simp only [pS]; refine tz 5 22 hHeld ?_; simp only [pS]; refine wpAnyH_done (by kernel_rfl) ?_ _; refine NoPanic.normal ?_; clear hHeld hc; go_wp2; go_ret; refine ⟨.inl ⟨x, HXM.out.1, HE.out, ?_⟩, below_next HB1.out HB5.out.drew⟩; rw [HXM.out.2]
      rfl
    · have hq : ∀ u, (binOp .eql tFk (.agg #[.int .i64 x.k.1, .int .u64 (x.k.2 : Int)]) (.agg #[.int .i64 s1, .int .u64 (s2 : Int)])).run Tryz.prog u = .ok (.bool false) u := fun u => by
       rw [eql_fk]; have : ¬ (x.k.1 = s1 ∧ (x.k.2 : Int) = s2) := fun h9 => he (Prod.ext h9.1 (by have := h9.2; show x.k.2 = s2; omega))
       simp [this]
      have HE : Hid _ := he; clear he; (go_wp2_with fail); refine wp_region_noPanic ?_; refine wp_region_held_drew (S := (fun u => Below w5.heap.size w5 u)) (by kernel_rfl) (by first | exact (bR _ _).drew | assumption) (fun hHeld => ?_); refine tz 0 17 hHeld ?_; simp only [pS]; refine tz 1 18 hHeld ?_; simp only [pS]; refine tz 2 19 hHeld ?_; simp only [pS]; refine tz 3 20 hHeld ?_; simp only [pS]; refine tz 4 21 hHeld ?_; simp only [pS]; refine tz 5 22 hHeld ?_; simp only [pS]; refine wpAnyH_done (by kernel_rfl) ?_ _; refine NoPanic.normal ?_; clear hHeld hc; go_wp2; go_roundw
      case rel =>
       refine ⟨_, _, RngG.kept HRG5.out rfl rfl, fun y hy hd => ?_, HB5.out.drew⟩; rcases List.mem_append.1 hd with h1 | h1
       · exact HDS.out y hy h1
       · rw [HUQ.out y x hy HXM.out.1 ((List.mem_singleton.1 h1).trans HXM.out.2.symm)]; exact HE.out
      case measure =>
       have h9 : RngG KSp w5.drew P.ms w1.heap.size (mpF s.L P.M) (ds ++ [n9]) cnt5 := RngG.kept HRG5.out rfl rfl; rw [h9.left_eq]; exact HLT.out
end
open Go.RowKit Go.Maps
abbrev frv (r : Fk × Dc) : Value := .agg #[.int .i64 r.1.1, .int .u64 (r.1.2 : Int), r.2.v]
theorem info_fr : (Tryz.prog.info? tFr).map (·.size) = some 3 := by kernel_rfl
def PlaceOf (R : List (Fk × Dc)) (k : Fk) (e : Ending) : Prop := (∃ (i : Nat) (h : i < R.length), (R[i]).1 = k ∧ e = .returned (.int .i64 (i : Int))) ∨ (k ∉ R.map Prod.fst ∧ e = .returned (.int .i64 (-1)))
section
variable {w w' : World} {P : Fp} {s : Fs} {W : List Wh.Tm}
set_option maxRecDepth 20000
set_option maxHeartbeats 3200000
theorem fclo_t (r : Fk × Dc) (kk : Fk) (B : Nat) (hk : w.heap[B]? = some (.cells #[.int .i64 kk.1, .int .u64 (kk.2 : Int)] tFk (0, 0))) : Calls Tryz.prog 70 #[frv r, .pointer (some ⟨B, 0, none⟩)] w fun e w' => e = .returned (.bool (decide (r.1 = kk))) ∧ Below w.heap.size w w' := by
 obtain ⟨⟨x1, x2⟩, da, dn, dc⟩ := r; obtain ⟨s1, s2⟩ := kk; obtain ⟨w1, hw1⟩ : ∃ w1, w1 = w.alloc (.cells #[.int .i64 x1, .int .u64 (x2 : Int), .slice da dn dc] tFr) := ⟨_, rfl⟩; have hb1 : Below w.heap.size w w1 := by rw [hw1]; exact alw (bR _ _) _
 have hk1 := (hb1.block B (sI hk).1).trans hk; have c0 : (w.alloc (.cells #[.int .i64 x1, .int .u64 (x2 : Int), .slice da dn dc] tFr)).cell? ⟨B, 0, none⟩ = some (.int .i64 s1) := by rw [← hw1, cR hk1]; rfl
 have c1 : (w.alloc (.cells #[.int .i64 x1, .int .u64 (x2 : Int), .slice da dn dc] tFr)).cell? ⟨B, 1, none⟩ = some (.int .u64 (s2 : Int)) := by rw [← hw1, cR hk1]; rfl
 have HB : Hid (Below w.heap.size w (w.alloc (.cells #[.int .i64 x1, .int .u64 (x2 : Int), .slice da dn dc] tFr))) := alw (bR _ _) _; obtain ⟨d, hd⟩ : ∃ d, d = decide ((x1, x2) = (s1, s2)) := ⟨_, rfl⟩; show Calls _ _ _ _ fun e w' => e = .returned (.bool (decide ((x1, x2) = (s1, s2)))) ∧ _
 rw [← hd]
 have hq : ∀ u, (binOp .eql tFk (.agg #[.int .i64 x1, .int .u64 (x2 : Int)]) (.agg #[.int .i64 s1, .int .u64 (s2 : Int)])).run Tryz.prog u = .ok (.bool d) u := fun u => by
  rw [eql_fk, hd]
  congr 2
  apply decide_eq_decide.2; constructor
  · rintro ⟨h1, h2⟩; rw [h1, show x2 = s2 by omega]
  · intro h9; simp only [Prod.mk.injEq] at h9; exact ⟨h9.1, by omega⟩
 clear hk hw1 hb1 hk1 hd; go_enter Tryz.func70, Tryz.ntmps70
 go_wp2; go_ret; exact ⟨rfl, HB.out⟩
theorem findex_t (a : Option Addr) (n cp B : Nat) (R : List (Fk × Dc)) (hn : n = R.length) (hl : n ≤ 64) (hr : RdG KFr w a R) (kk : Fk) (hk : w.heap[B]? = some (.cells #[.int .i64 kk.1, .int .u64 (kk.2 : Int)] tFk (0, 0))) :
 Calls Tryz.prog 69 #[.slice a n cp, .func (.func 70) #[] #[.pointer (some ⟨B, 0, none⟩)]] w fun e w' => PlaceOf R kk e ∧ Below w.heap.size w w' := by
 have HR : Hid (RdG KFr w a R) := hr; have HN : Hid (n = R.length) := hn; have HK : Hid _ := hk; clear hr hn hk; go_enter Tryz.func69, Tryz.ntmps69
 go_wp2; go_loopw [5, 8] (fun _ j wr => ∃ k : Nat, k ≤ n ∧ j = .int .i64 (k : Int) ∧ Hid (kk ∉ (R.map Prod.fst).take k) ∧ Below w.heap.size w wr) (fun _ j _ => n - (intOf j).toNat)
 case atStart => exact ⟨0, Nat.zero_le _, rfl, by unfold Hid; simp, bR _ _⟩
 case round =>
  obtain ⟨k, hkn, rfl, HNO, hbw⟩ := hrel; have hkw : IntKind.i64.wrap ((k : Int) + 1) = ((k + 1 : Nat) : Int) := by rw [IntKind.wrap_i64]; omega
  by_cases hlt : k < n
  · have hlti : (k : Int) < (n : Int) := by omega
    have hk0 : (0 : Int) ≤ (k : Int) := by omega
    have hk1 : k < R.length := by rw [← HN.out]; exact hlt
    obtain ⟨b, o, rfl, r1, -⟩ := RdG.below HR.out hbw k hk1; obtain ⟨x, hx⟩ : ∃ x : Fk × Dc, x = R[k] := ⟨_, rfl⟩
    have hrg : wr.rangeAt b (o + k * 3) [.int .i64 x.1.1, .int .u64 (x.1.2 : Int), x.2.v] := fun q v hq => by
     rw [hx] at hq; exact r1 q v hq
    have HCL : Hid _ := fclo_t (w := wr) x kk B ((hbw.block B (sI HK.out).1).trans HK.out); have HX : Hid _ := hx; have HK1 : Hid _ := hk1; have HBW : Hid _ := hbw
    have HNX : Hid (x.1 ≠ kk → kk ∉ (R.map Prod.fst).take (k + 1)) := fun he => by
     have hk2 : k < (R.map Prod.fst).length := by rw [List.length_map]; exact hk1
     rw [List.take_succ_eq_append_getElem hk2, List.mem_append, List.mem_singleton]; rintro (h9 | h9)
     · exact HNO.out h9
     · exact he ((congrArg Prod.fst hx).trans (h9.trans (List.getElem_map _)).symm)
    by_cases he : x.1 = kk
    · rw [decide_eq_true he] at HCL; have HE : Hid _ := he; clear r1 hx hbw he
      go_wp2_with (first
        | (refine wpList_load_mid rfl tFr _ rfl b (o + k * 3) rfl [.int .i64 x.1.1, .int .u64 (x.1.2 : Int), x.2.v] _ hrg Tryz.underlying97 rfl info_fr ?_)
        | (go_at_call 70; refine Calls.mono HCL.out ?_; rintro e9 w2 ⟨rfl, hb2⟩; have HB2 : Hid _ := hb2; clear hb2))
      go_ret; exact ⟨.inl ⟨k, HK1.out, by rw [← HX.out]; exact HE.out, rfl⟩, below_next HBW.out HB2.out⟩
    · rw [decide_eq_false he] at HCL; have HE : Hid _ := HNX.out he; clear r1 hx hbw he
      go_wp2_with (first
        | (refine wpList_load_mid rfl tFr _ rfl b (o + k * 3) rfl [.int .i64 x.1.1, .int .u64 (x.1.2 : Int), x.2.v] _ hrg Tryz.underlying97 rfl info_fr ?_)
        | (go_at_call 70; refine Calls.mono HCL.out ?_; rintro e9 w2 ⟨rfl, hb2⟩; have HB2 : Hid _ := hb2; clear hb2))
      go_roundw
      case rel => exact ⟨k + 1, by omega, by go_num, HE, below_next HBW.out HB2.out⟩
      case measure => simp [intOf]; omega
  · have hlti : ¬ (k : Int) < (n : Int) := by omega
    have HNM : Hid (kk ∉ R.map Prod.fst) := by
     have h9 := HNO.out; rw [List.take_of_length_le (by rw [List.length_map, ← HN.out]; omega)] at h9; exact h9
    have HBW : Hid _ := hbw; clear hbw; go_wp2; go_ret; exact ⟨.inr ⟨HNM.out, rfl⟩, HBW.out⟩
theorem fplaceOf_t (h : FSw w P s W) (kk : Fk) : Calls Tryz.prog 37 #[.pointer (some ⟨P.p, 0, none⟩), fv kk] w fun e w' => PlaceOf P.R kk e ∧ Below w.heap.size w w' := by
 obtain ⟨s1, s2⟩ := kk; obtain ⟨w1, hw1⟩ : ∃ w1, w1 = w.alloc (.cells #[.int .i64 s1, .int .u64 (s2 : Int)] tFk) := ⟨_, rfl⟩; have hb1 : Below w.heap.size w w1 := by rw [hw1]; exact alw (bR _ _) _
 have hbx : w1.heap[w.heap.size]? = some (.cells #[.int .i64 s1, .int .u64 (s2 : Int)] tFk (0, 0)) := by rw [hw1]; exact heap_alloc_new w _
 have h1 := h.below hb1; obtain ⟨a, cp, hv, -, -, -, hrd⟩ := OwnG.val h1.row; obtain ⟨n, hn⟩ : ∃ n, n = P.R.length := ⟨_, rfl⟩; rw [← hn] at hv; have hc6 : (w.alloc (.cells #[.int .i64 s1, .int .u64 (s2 : Int)] tFk)).cell? ⟨P.p, 6, none⟩ = some (.slice a n cp) := by rw [← hw1, ← hv]; exact h1.cell 6
 have hl : n ≤ 64 := by rw [hn, h.rlen]; have := h.inv.len; omega
 have HI : Hid _ := findex_t (w := w1) a n cp w.heap.size P.R hn hl hrd (s1, s2) hbx; have HW1 : Hid (w1 = _) := hw1; have HB1 : Hid _ := hb1; clear h h1 hw1 hb1 hbx hv hrd hn; go_enter Tryz.func37, Tryz.ntmps37
 (go_wp2_with fail); rw [← HW1.out]; refine Calls.mono HI.out ?_; rintro e9 w2 ⟨hp, hb2⟩; have HB2 : Hid _ := hb2; clear hb2; rcases hp with ⟨i, hi, hk, rfl⟩ | ⟨hno, rfl⟩
 · have HP : Hid (∃ (i' : Nat) (h : i' < P.R.length), (P.R[i']).1 = (s1, s2) ∧ i' = i) := ⟨i, hi, hk, rfl⟩; clear hi hk; go_wp2; go_ret; obtain ⟨i', h1, h2, rfl⟩ := HP.out; exact ⟨.inl ⟨i', h1, h2, rfl⟩, below_next HB1.out HB2.out⟩
 · have HNO : Hid _ := hno; clear hno; go_wp2; go_ret; exact ⟨.inr ⟨HNO.out, rfl⟩, below_next HB1.out HB2.out⟩
end
open Go.RowKit Go.Maps
section
variable {w w' : World} {P : Fp} {s : Fs} {W W' : List Wh.Tm}
def restF (P : Fp) (b : Nat) : Prop := b = P.p ∨ b = P.ms ∨ P.rv.ownBlock = some b ∨ XV (P.R.map Prod.snd) b ∨ ∃ m, m ∈ P.M ∧ footM m b
theorem restF.foot {b : Nat} (h : restF P b) : footF P b := by
 rcases h with h | h | h | h | h
 · exact .inl h
 · exact .inr (.inl h)
 · exact .inr (.inr (.inl h))
 · exact .inr (.inr (.inr (.inl h)))
 · exact .inr (.inr (.inr (.inr (.inl h))))
theorem FSw.rest (h : FSw w P s W) {b : Nat} (hb : restF P b) : ¬ Wh.footW P.pw P.mw P.V b := fun hf => by
 obtain ⟨h1, h2, h3, h4, h5⟩ := h.aw b hf; rcases hb with e | e | e | e | ⟨m, e1, e2⟩
 · exact h1 e
 · exact h2 e
 · exact h3 e
 · exact h4 e
 · exact h5 m e1 e2
theorem FSw.wheel (h : FSw w P s W) {N' S' : Nat} {V' : Nat → Nat → Value} (hw : Wh.Wt w' P.pw P.mw N' S' W' V') (hs : Wh.Stp w w' P.pw P.mw P.V V') (hN : N' ≤ s.clk) : FSw w' { P with V := V' } { s with N := N', S := S' } W' ∧ FStp w w' P { P with V := V' } := by
 have hc := chgW hs.chg; have hk : ∀ b, restF P b → w'.heap[b]? = w.heap[b]? := fun b hb => hc.block b (h.lt hb.foot) (h.rest hb)
 have i := h.inv
 have ha : ∀ b, Wh.footW P.pw P.mw V' b → ¬ restF P b := fun b hb hr => by
  rcases hs.new b hb with h1 | h1
  · exact h.rest hr h1
  · have := h.lt hr.foot; omega
 refine ⟨⟨(hk _ (.inl rfl)).trans h.blk, h.row.kept (fun b hb => hk b (.inr (.inr (.inl hb)))), h.rk, h.rb.kept (fun b hb => hk b (.inr (.inr (.inr (.inl hb))))), h.mp.kept (hk _ (.inr (.inl rfl))), h.len, fun i x m h1 h2 => (h.se i x m h1 h2).kept (fun b hb => hk b (.inr (.inr (.inr (.inr ⟨m, List.mem_of_getElem? h2, hb⟩))))), hw, ⟨i.mt, i.rt, i.rs, i.wn, i.e, i.c, hN, i.len, i.lw, i.num, i.up, i.good, i.nk, i.blk, i.seg, i.ag⟩, fun b hb => ⟨fun e => ha b hb (.inl e), fun e => ha b hb (.inr (.inl e)), fun e => ha b hb (.inr (.inr (.inl e))), fun e => ha b hb (.inr (.inr (.inr (.inl e)))), fun m hm e => ha b hb (.inr (.inr (.inr (.inr ⟨m, hm, e⟩))))⟩, h.am, h.ab⟩, hc.mono (fun b hb => .inr (.inr (.inr (.inr (.inr hb))))), fun b hb => ?_⟩; rcases hb with e | e | e | e | e | e
 · exact .inl (.inl e)
 · exact .inl (.inr (.inl e))
 · exact .inl (.inr (.inr (.inl e)))
 · exact .inl (.inr (.inr (.inr (.inl e))))
 · exact .inl (.inr (.inr (.inr (.inr (.inl e)))))
 · rcases hs.new b e with h1 | h1
   · exact .inl (.inr (.inr (.inr (.inr (.inr h1)))))
   · exact .inr h1
set_option maxRecDepth 20000
set_option maxHeartbeats 3200000
theorem fsetTimer_t (h : FSw w P s W) (n : Nat) (hn : n ≤ mxX) (hS : s.S < 18446744073709551615) (hW : W.length ≤ 4398046511104) :
 Calls Tryz.prog 73 #[.pointer (some ⟨P.p, 0, none⟩), .int .u64 (n : Int)] w fun e w' => e = .returned (.tuple #[]) ∧ ∃ V', FSw w' { P with V := V' } { s with S := s.S + 1 } (Wh.setL W s.N s.S (n : Int) (s.clk + s.rt)) ∧ FStp w w' P { P with V := V' } := by
 have hcl : s.clk ≤ 281474976710655 := h.inv.c; have hrt : s.rt ≤ 4096 := h.inv.rt.2; have hni : (n : Int) ≤ 281474976710655 := by unfold mxX at hn; omega
 have hci : (s.clk : Int) ≤ 281474976710655 := by omega
 have hri : (s.rt : Int) ≤ 4096 := by omega
 have HWR1 : Hid (IntKind.i64.wrap (n : Int) = (n : Int)) := by unfold Hid; rw [IntKind.wrap_i64]; omega
 have HWR2 : Hid (IntKind.u64.wrap ((s.clk : Int) + (s.rt : Int)) = ((s.clk + s.rt : Nat) : Int)) := by unfold Hid; rw [IntKind.wrap_u64]; omega
 have HID : Hid (Wh.inI (n : Int)) := ⟨by omega, by omega⟩; have HH : Hid _ := h; have hsh := fun (u : World) (hu : u.heap[P.p]? = some (.cells (cellsFx s P.rv P.ms P.pw) tFx (0, 0))) => (show u.cell? ⟨P.p, 8, none⟩ = some (.pointer (some ⟨P.pw, 0, none⟩)) ∧ u.cell? ⟨P.p, 5, none⟩ = some (.int .u64 (s.clk : Int)) ∧ u.cell? ⟨P.p, 1, none⟩ = some (.int .u64 (s.rt : Int)) from ⟨by rw [cR hu]; rfl, by rw [cR hu]; rfl, by rw [cR hu]; rfl⟩)
 have HSET : Hid _ := Wh.set_t (Wh.Wt.below h.wh (bR _ _).drew) (n : Int) (s.clk + s.rt) HID.out hW hS; have HBD : Hid (w.drew.heap[P.p]? = some (.cells (cellsFx s P.rv P.ms P.pw) tFx (0, 0))) := h.blk; have HAP : Hid (¬ Wh.footW P.pw P.mw P.V P.p) := fun hf => (h.aw _ hf).1 rfl
 clear h hn hcl hrt hS hW; go_enter Tryz.func73, Tryz.ntmps73
 (go_wp2_with fail); refine wp_region_noPanic ?_; refine wp_region_held_drew (S := (fun u => u.heap[P.p]? = some (.cells (cellsFx s P.rv P.ms P.pw) tFx (0, 0)))) (by kernel_rfl) (by first | exact HBD.out | exact HBF.out | assumption) (fun hHeld => ?_); refine tz 0 4 hHeld ?_; simp only [pS]; refine tz 1 5 hHeld ?_; simp only [pS]; refine tz 2 6 hHeld ?_; simp only [pS]; refine tz 3 7 hHeld ?_; simp only [pS]; refine tz 4 8 hHeld ?_; simp only [pS]; refine tz 5 9 hHeld ?_; simp only [pS]; refine tz 6 10 hHeld ?_; simp only [pS]; refine tz 7 11 hHeld ?_; simp only [pS]; refine tz 8 12 hHeld ?_; simp only [pS]; refine tz 9 13 hHeld ?_; simp only [pS]; refine tz 10 14 hHeld ?_; simp only [pS]; refine tz 11 15 hHeld ?_; simp only [pS]; refine tz 12 16 hHeld ?_; simp only [pS]; refine tz 13 17 hHeld ?_; simp only [pS]; refine tz 14 18 hHeld ?_; simp only [pS]; refine run_at (i := 15) rfl (by kernel_rfl) (by rfl) (fun K hK => ?_); simp only [gE]; go_simp
 (go_at_call 101; rw [HWR1.out, HWR2.out]; refine Calls.mono HSET.out ?_; rintro e9 wF ⟨rfl, V', hwF, hstF⟩; have HBF : Hid (wF.heap[P.p]? = some (.cells (cellsFx s P.rv P.ms P.pw) tFx (0, 0))) := (hstF.chg.block P.p (sI HBD.out).1 HAP.out).trans HBD.out; have HWF : Hid _ := hwF; have HSTF : Hid _ := hstF; clear hwF hstF)
 (go_wp2_with fail); refine hK.out _ _ (by first | exact HBD.out | exact HBF.out | assumption) ?_; clear hK K; clear hHeld; intro hHeld; (try simp only [pS]); refine wpAnyH_done (by kernel_rfl) ?_ _; refine NoPanic.normal ?_; clear hHeld hsh; go_wp2; go_end0; have h0 := HH.out.below (Below.refl w.heap.size w).drew; obtain ⟨h1, h2⟩ := h0.wheel HWF.out HSTF.out h0.inv.nc; exact ⟨rfl, V', h1, (FStp.below (Below.refl w.heap.size w).drew P).trans h2⟩
end
open Go.RowKit Go.Maps
theorem gr_noF {L : List (Nat × Nat)} {s : Nat} (h : s ∉ gk L) : gr L s = L := by
 unfold gr; rw [List.filter_eq_self]; intro p hp; have : p.1 ≠ s := fun e => h (by rw [← e]; exact List.mem_map.2 ⟨p, hp, rfl⟩)
 simp [this]
theorem gr_mpF : ∀ {L : List Fe} {M : List Fm} (i : Nat) {x : Fe} {m : Fm}, M.length = L.length → (L.map Fe.n).Nodup → L[i]? = some x → M[i]? = some m → gr (mpF L M) x.n = mpF (L.eraseIdx i) (M.eraseIdx i)
 | [], _, i, x, m, _, _, h, _ => by simp at h
 | _ :: _, [], i, x, m, hl, _, _, _ => by simp at hl
 | y :: L, m' :: M, 0, x, m, hl, hn, hx, hm => by
  have hl' : M.length = L.length := by simpa using hl
  simp only [List.getElem?_cons_zero, Option.some.injEq] at hx; subst hx; rw [List.map_cons, List.nodup_cons] at hn; have h9 : gr (mpF L M) y.n = mpF L M := gr_noF (by rw [mpF_keys hl']; exact hn.1); simp only [List.eraseIdx_cons_zero]; rw [← h9]; simp [gr, mpF]
 | y :: L, m' :: M, i + 1, x, m, hl, hn, hx, hm => by
  have hl' : M.length = L.length := by simpa using hl
  rw [List.map_cons, List.nodup_cons] at hn; have hx' : L[i]? = some x := by simpa using hx
  have hm' : M[i]? = some m := by simpa using hm
  have hne : y.n ≠ x.n := fun e => hn.1 (by rw [e]; exact List.mem_map.2 ⟨x, List.mem_of_getElem? hx', rfl⟩)
  have h9 := gr_mpF i hl' hn.2 hx' hm'; simp only [List.eraseIdx_cons_succ]; show gr ((y.n, m'.g) :: mpF L M) x.n = (y.n, m'.g) :: mpF (L.eraseIdx i) (M.eraseIdx i); rw [← h9]; simp [gr, hne]
theorem FInv.nn {s : Fs} (i : FInv s) : (s.L.map Fe.n).Nodup := by
 rw [List.nodup_iff_pairwise_ne, List.pairwise_map]; exact i.up.imp (fun h => Nat.ne_of_lt h)
theorem FInv.erase {s : Fs} (h : FInv s) (i : Nat) : FInv { s with L := s.L.eraseIdx i } := by
 have hs : (s.L.eraseIdx i).Sublist s.L := List.eraseIdx_sublist _ _; have hl := hs.length_le; refine ⟨h.mt, h.rt, h.rs, h.wn, h.e, h.c, h.nc, ?_, Nat.le_trans hl h.lw, fun x hx => h.num x (hs.mem hx), h.up.sublist hs, ?_, h.nk.sublist ((List.Sublist.refl _).append (hs.map _)), h.blk, fun x hx => h.seg x (hs.mem hx), fun x hx => h.ag x (hs.mem hx)⟩
 · have := h.len; show s.row.length + (s.L.eraseIdx i).length ≤ 64; omega
 · rintro k (hk | hk)
   · exact h.good k (.inl hk)
   · exact h.good k (.inr ((hs.map _).mem hk))
theorem erase_at {α : Type} {L : List α} {i j : Nat} {x : α} (h : (L.eraseIdx i)[j]? = some x) : L[if j < i then j else j + 1]? = some x := by
 rw [List.getElem?_eraseIdx] at h; split at h
 · rename_i h1; rw [if_pos h1]; exact h
 · rename_i h1; rw [if_neg h1]; exact h
section
variable {w w' : World} {P : Fp} {s : Fs} {W W' : List Wh.Tm}
theorem FSw.drop (h : FSw w P s W) {i : Nat} {x : Fe} {m : Fm} (hx : s.L[i]? = some x) (hm : P.M[i]? = some m) (hr : MapG KSp w' P.ms (gr (mpF s.L P.M) x.n)) (hg : w.grownBy w' (some P.ms)) : FSw w' { P with M := P.M.eraseIdx i } { s with L := s.L.eraseIdx i } W ∧ FStp w w' P { P with M := P.M.eraseIdx i } := by
 have hc : Chg (fun b => b = P.ms) w w' := Chg.of_grown hg (fun b e => (Option.some.inj e).symm)
 have hmap : ∀ (b : Nat) (C : Array Value) (t : TypeId) (f : Nat × Nat), w.heap[b]? = some (Obj.cells C t f) → b ≠ P.ms := fun b C t f h1 e => by
  obtain ⟨es, cl, h2⟩ := h.mp.at_; rw [e, h2] at h1; cases h1
 have hkc : ∀ (b : Nat) (C : Array Value) (t : TypeId) (f : Nat × Nat), w.heap[b]? = some (Obj.cells C t f) → w'.heap[b]? = w.heap[b]? := fun b C t f h1 => hc.block b (sI h1).1 (hmap b C t f h1)
 have hrv : ∀ b, P.rv.ownBlock = some b → w'.heap[b]? = w.heap[b]? := fun b hb => by
  obtain ⟨cur, h9⟩ := h.row.at_ hb; exact hkc b _ _ _ h9
 have hxv : ∀ b, XV (P.R.map Prod.snd) b → w'.heap[b]? = w.heap[b]? := fun b hb => by
  obtain ⟨C, h9⟩ := h.rb.ty hb; exact hkc b _ _ _ h9
 have hse : ∀ (j : Nat) y m', s.L[j]? = some y → P.M[j]? = some m' → SeA w' y m' := fun j y m' h1 h2 => by
  have hs := h.se j y m' h1 h2; refine hs.kept (fun b hb => ?_); rcases hb with hb | hb | hb | hb
  · rw [hb]; exact hkc _ _ _ _ hs.box
  · obtain ⟨cur, h9⟩ := hs.seg.row.at_ hb; exact hkc b _ _ _ h9
  · obtain ⟨C, h9⟩ := hs.seg.fml.ty hb; exact hkc b _ _ _ h9
  · obtain ⟨cur, h9⟩ := hs.tol.atR hb; exact hkc b _ _ _ h9
 have hsub : ∀ m', m' ∈ P.M.eraseIdx i → m' ∈ P.M := fun m' hm' => (List.eraseIdx_sublist _ _).mem hm'
 refine ⟨⟨(hkc _ _ _ _ h.blk).trans h.blk, h.row.kept hrv, h.rk, h.rb.kept hxv, ?_, ?_, fun j y m' h1 h2 => hse _ y m' (erase_at h1) (erase_at h2), h.wh.chg (chgV hc) (fun b hb e => (h.aw b hb).2.1 e), h.inv.erase i, fun b hb => ⟨(h.aw b hb).1, (h.aw b hb).2.1, (h.aw b hb).2.2.1, (h.aw b hb).2.2.2.1, fun m' hm' => (h.aw b hb).2.2.2.2 m' (hsub m' hm')⟩, ?_, fun m' hm' => h.ab m' (hsub m' hm')⟩, hc.mono (fun b hb => .inr (.inl hb)), ?_⟩
 · have h9 := hr; rw [gr_mpF i h.len h.inv.nn hx hm] at h9; exact h9
 · show (P.M.eraseIdx i).length = (s.L.eraseIdx i).length; rw [List.length_eraseIdx, List.length_eraseIdx, h.len]
 · intro j j' a b c h1 h2 hne; refine h.am _ _ a b c (erase_at h1) (erase_at h2) (fun e => hne ?_); split at e <;> split at e <;> omega
 · rintro b (e | e | e | e | ⟨m', h1, h2⟩ | e)
   · exact .inl (.inl e)
   · exact .inl (.inr (.inl e))
   · exact .inl (.inr (.inr (.inl e)))
   · exact .inl (.inr (.inr (.inr (.inl e))))
   · exact .inl (.inr (.inr (.inr (.inr (.inl ⟨m', hsub m' h1, h2⟩)))))
   · exact .inl (.inr (.inr (.inr (.inr (.inr e)))))
end
open Go.RowKit Go.Maps
theorem zMp (u : World) : (zeroValue 100).run Tryz.prog u = .ok (.pointer none) u := by kernel_rfl
theorem gl_mpF : ∀ {L : List Fe} {M : List Fm} (i : Nat) {x : Fe} {m : Fm}, M.length = L.length → (L.map Fe.n).Nodup → L[i]? = some x → M[i]? = some m → gl (mpF L M) x.n = some m.g
 | [], _, i, x, m, _, _, h, _ => by simp at h
 | _ :: _, [], i, x, m, hl, _, _, _ => by simp at hl
 | y :: L, m' :: M, 0, x, m, hl, hn, hx, hm => by
  simp only [List.getElem?_cons_zero, Option.some.injEq] at hx hm; subst hx hm; simp [mpF, gl]
 | y :: L, m' :: M, i + 1, x, m, hl, hn, hx, hm => by
  have hl' : M.length = L.length := by simpa using hl
  rw [List.map_cons, List.nodup_cons] at hn; have hx' : L[i]? = some x := by simpa using hx
  have hm' : M[i]? = some m := by simpa using hm
  have hne : y.n ≠ x.n := fun e => hn.1 (by rw [e]; exact List.mem_map.2 ⟨x, List.mem_of_getElem? hx', rfl⟩)
  have h9 := gl_mpF i hl' hn.2 hx' hm'; show gl ((y.n, m'.g) :: mpF L M) x.n = some m.g; simp only [gl, if_neg hne]; exact h9
section
variable {w w' : World} {P : Fp} {s : Fs} {W W' : List Wh.Tm}
set_option maxRecDepth 20000
set_option maxHeartbeats 3200000
theorem fend_t (h : FSw w P s W) {i : Nat} {x : Fe} {m : Fm} (hx : s.L[i]? = some x) (hm : P.M[i]? = some m) (hW : W.length ≤ 4398046511104) :
 Calls Tryz.prog 45 #[.pointer (some ⟨P.p, 0, none⟩), .int .u64 (x.n : Int)] w fun e w' => e = .returned (fv x.k) ∧ ∃ V', FSw w' { P with M := P.M.eraseIdx i, V := V' } { s with L := s.L.eraseIdx i } (W.filter (fun t => decide (t.id ≠ (x.n : Int)))) ∧ FStp w w' P { P with M := P.M.eraseIdx i, V := V' } := by
 have hxn := h.inv.num x (List.mem_of_getElem? hx); have hnu : KSp.ok x.n := by show x.n < 18446744073709551616; have := hxn.2; unfold mxX at this; omega
 obtain ⟨w1, hw1⟩ : ∃ w1, w1 = w.alloc (.cells #[.int .i64 0, .int .u64 0] tFk) := ⟨_, rfl⟩; have hb1 : Below w.heap.size w w1 := by rw [hw1]; exact alw (bR _ _) _
 have hx1 := h.below hb1; obtain ⟨w2, hw2⟩ : ∃ w2, w2 = w1.alloc (.cells #[.int .i64 x.k.1, .int .u64 (x.k.2 : Int)] tFk) := ⟨_, rfl⟩; have hsz1 : w1.heap.size = w.heap.size + 1 := by rw [hw1]; simp
 have hsz2 : w2.heap.size = w.heap.size + 2 := by rw [hw2]; simp [hsz1]
 have hb2 : Below w.heap.size w w2 := by rw [hw2]; exact alw hb1 _
 have hx2 := h.below hb2; have hbox2 : w2.heap[w.heap.size + 1]? = some (.cells #[.int .i64 x.k.1, .int .u64 (x.k.2 : Int)] tFk (0, 0)) := by rw [hw2, ← hsz1]; exact heap_alloc_new w1 _
 have hres2 : w2.heap[w.heap.size]? = some (.cells #[.int .i64 0, .int .u64 0] tFk (0, 0)) := by
  rw [hw2, Below.heap_alloc _ _ _ (by omega), hw1]; exact heap_alloc_new w _
 have hl1 : (Instr.lookup tMp (.map (some P.ms)) (.int .u64 (x.n : Int)) false).run Tryz.prog w1 = .ok (.pointer (some ⟨m.g, 0, none⟩)) w1 := by
  have h9 := hx1.mp.get uMp zMp (s := x.n) hnu; rw [gl_mpF i h.len h.inv.nn hx hm] at h9; exact h9
 have hsb := (hx1.se i x m hx hm).box; have hk0 : w1.cell? ⟨m.g, 0, none⟩ = some (.int .i64 x.k.1) := by rw [cR hsb]; rfl
 have hk1 : w1.cell? ⟨m.g, 1, none⟩ = some (.int .u64 (x.k.2 : Int)) := by rw [cR hsb]; rfl
 have hc7 : w1.cell? ⟨P.p, 7, none⟩ = some (.map (some P.ms)) := hx1.cell 7; have hc7' : w2.cell? ⟨P.p, 7, none⟩ = some (.map (some P.ms)) := hx2.cell 7; obtain ⟨wD, hdel0, hseD, hgD⟩ := hx2.mp.del uMp (s := x.n) hnu 0; have hdel : (Builtin.delete_ #[tMp, 23] 0 #[.map (some P.ms), .int .u64 (x.n : Int)]).run Tryz.prog w2 = .ok (.tuple #[]) wD := hdel0; clear hdel0; obtain ⟨hFD, hSD⟩ := hx2.drop hx hm hseD hgD; have hms := h.mp.lt; have hboxD := (hgD.block (w.heap.size + 1) (by omega) (fun e => by have := Option.some.inj e; omega)).trans hbox2; have hresD := (hgD.block w.heap.size (by omega) (fun e => by have := Option.some.inj e; omega)).trans hres2; have hc8 : wD.cell? ⟨P.p, 8, none⟩ = some (.pointer (some ⟨P.pw, 0, none⟩)) := hFD.cell 8; rw [hw1] at hl1 hc7 hk0 hk1; rw [hw2, hw1] at hc7' hdel; have HID : Hid (Wh.inI (x.n : Int)) := by have := hxn.2; unfold mxX at this; exact ⟨by omega, by omega⟩
 have HWR : Hid (IntKind.i64.wrap (x.n : Int) = (x.n : Int)) := by have := hxn.2; unfold mxX at this; unfold Hid; rw [IntKind.wrap_i64]; omega
 have HST : Hid (∀ z, z = (x.n : Int) → Calls Tryz.prog 77 #[.pointer (some ⟨P.pw, 0, none⟩), .int .i64 z] wD fun e w' => e = .returned (.bool (decide ((x.n : Int) ∈ W.map Wh.Tm.id))) ∧ ∃ V', Wh.Wt w' P.pw P.mw s.N s.S (W.filter (fun t => decide (t.id ≠ (x.n : Int)))) V' ∧ Wh.Stp wD w' P.pw P.mw P.V V') := fun z hz => by
  subst hz; exact Wh.stop_t hFD.wh (x.n : Int) HID.out hW
 have HFD : Hid _ := hFD; have HSD : Hid (FStp w wD P _) := (FStp.below hb2 P).trans hSD; have HBX : Hid _ := hboxD; have HRS : Hid _ := hresD; have HSZ : Hid (w.heap.size + 2 ≤ wD.heap.size) := by unfold Hid; have := hgD.size; omega
 have HFT : Hid (∀ b, Wh.footW P.pw P.mw P.V b → b < w.heap.size) := fun b hb => h.wh.lt hb
 have HFF : Hid (∀ b, footF P b → b < w.heap.size) := fun b hb => h.lt hb
 clear h hx hm hW hxn hnu hw1 hb1 hx1 hw2 hsz1 hsz2 hb2 hx2 hbox2 hres2 hsb hseD hgD hFD hSD hms hboxD hresD; go_enter Tryz.func45, Tryz.ntmps45
 (go_wp2_with fail); clear hl1 hc7 hc7' hdel hk0 hk1; refine Calls.mono (HST.out _ (by have h9 := HWR.out; first | exact h9 | (have h8 := HID.out.1; have h7 := HID.out.2; unfold wrap64; omega))) ?_; rintro e9 wF ⟨rfl, V', hwF, hstF⟩; obtain ⟨hFF, hSF⟩ := HFD.out.wheel hwF hstF HFD.out.inv.nc; have hbxF := (hstF.chg.block (w.heap.size + 1) (sI HBX.out).1 (fun e => by have := HFT.out _ e; omega)).trans HBX.out; have hRF := (hstF.chg.block w.heap.size (sI HRS.out).1 (fun e => Nat.lt_irrefl _ (HFT.out _ e))).trans HRS.out; have hq0 : wF.cell? ⟨w.heap.size + 1, 0, none⟩ = some (.int .i64 x.k.1) := by rw [cR hbxF]; rfl
 have hq1 : wF.cell? ⟨w.heap.size + 1, 1, none⟩ = some (.int .u64 (x.k.2 : Int)) := by rw [cR hbxF]; rfl
 have hr0 : wF.cell? ⟨w.heap.size, 0, none⟩ = some (.int .i64 0) := by rw [cR hRF]; rfl
 have hr1 : wF.cell? ⟨w.heap.size, 1, none⟩ = some (.int .u64 0) := by rw [cR hRF]; rfl
 have hf0 : wF.frozen? ⟨w.heap.size, 0, none⟩ = false := by simp [World.frozen?, hRF]
 have hf1 : wF.frozen? ⟨w.heap.size, 1, none⟩ = false := by simp [World.frozen?, hRF]
 have HRF : Hid _ := hRF; have HFX : Hid _ := hFF; have HSX : Hid _ := hSF; have HNW : Hid _ := hstF.new; clear hwF hstF hRF hbxF hFF hSF hc8; go_wp2; have hfin : ((wF.setCell ⟨w.heap.size, 0, none⟩ (.int .i64 x.k.1)).setCell ⟨w.heap.size, 1, none⟩ (.int .u64 (x.k.2 : Int))).heap[w.heap.size]? = some (.cells #[.int .i64 x.k.1, .int .u64 (x.k.2 : Int)] tFk (0, 0)) := heap_setCell_same _ w.heap.size 1 _ tFk _ (heap_setCell_same wF w.heap.size 0 _ tFk _ HRF.out); refine bodyPost_ret (v := fv x.k) (results_cell_row rfl _ _ w.heap.size tFk _ (0, 0) _ rfl hfin Tryz.underlying33 rfl (by kernel_rfl)) rfl ?_; have h1 : FStp w wF P { P with M := P.M.eraseIdx i, V := V' } := HSD.out.trans HSX.out
 have hlo : ∀ b, footF { P with M := P.M.eraseIdx i, V := V' } b → b ≠ w.heap.size := fun b hb e => by
  rcases HSX.out.new b hb with h2 | h2
  · rcases HSD.out.new b h2 with h3 | h3
    · have := HFF.out b h3; omega
    · have h4 : footF P b := by
       rcases h2 with e1 | e1 | e1 | e1 | ⟨m', e1, e2⟩ | e1
       · exact .inl e1
       · exact .inr (.inl e1)
       · exact .inr (.inr (.inl e1))
       · exact .inr (.inr (.inr (.inl e1)))
       · exact .inr (.inr (.inr (.inr (.inl ⟨m', (List.eraseIdx_sublist _ _).mem e1, e2⟩))))
       · exact .inr (.inr (.inr (.inr (.inr e1))))
      have := HFF.out b h4; omega
  · have := HSZ.out; omega
 have hc : Chg (fun b => b = w.heap.size) wF ((wF.setCell ⟨w.heap.size, 0, none⟩ (.int .i64 x.k.1)).setCell ⟨w.heap.size, 1, none⟩ (.int .u64 (x.k.2 : Int))) := Chg.of_grown (grow_trans (gset1 _ _ _ _) (gset1 _ _ _ _)) (fun b e => (Option.some.inj e).symm); exact ⟨rfl, V', HFX.out.chg hc hlo, h1.chg.trans hc (fun b hb => .inr (by omega)), h1.new⟩
end
open Go.RowKit Go.Maps
structure Bf where
 ep : Nat
 n : Nat
 i : Nat
 c : Nat
 d : Dc
abbrev tUf : TypeId := 49
abbrev bfv (u : Bf) : List Value := [.int .i64 1, .int .u64 (u.ep : Int), .int .u64 (u.n : Int), .int .i64 2, .int .i64 (u.i : Int), .int .i64 (u.c : Int), u.d.v, .int .i64 0, .slice none 0 0]
abbrev KBf : Kd Bf := { t := tUf, ts := 39, k := 9, by_ := 104, f := bfv, z := .agg #[.int .i64 0, .int .u64 0, .int .u64 0, .int .i64 0, .int .i64 0, .int .i64 0, .slice none 0 0, .int .i64 0, .slice none 0 0], hk := fun _ => rfl, h1 := (fun d u hu => by simp at hu; rcases hu with rfl | rfl | rfl | rfl | rfl | rfl | rfl | rfl | rfl <;> rfl), hpos := by decide, ht := Tryz.underlying39, hi := by kernel_rfl, hz := rfl }
theorem infoU9f : (Tryz.prog.info? tUf).map (·.size) = some 9 := by kernel_rfl
theorem bfv_one (u : Bf) : (bfv u).toArray.all (·.oneCell') = true := by simp [bfv, Value.oneCell']
theorem rdUf_new (w : World) (u : Bf) (n : Nat) (hn : n = w.heap.size) : RdG KBf (w.alloc (.cells (bfv u).toArray tUf)) (some ⟨n, 0, none⟩) [u] := by
 subst hn; have h9 := heap_alloc_new w (.cells (bfv u).toArray tUf); intro j hj; have hj0 : j = 0 := by simp at hj; omega
 subst hj0; refine ⟨_, _, rfl, fun q v hq => ?_, _, _, h9⟩; rw [cR h9]
 simpa using hq
theorem grown_srF (w : World) (g : Nat) (cs : Array Value) : w.grownBy (w.setRow g cs) (some g) := ⟨rfl, rfl, rfl, by simp, fun k _ h => setRow_other w g k cs (fun e => h (by rw [e]))⟩
section
variable {w w' : World} {P : Fp} {s : Fs} {W W' : List Wh.Tm}
set_option maxRecDepth 20000
set_option maxHeartbeats 3200000
theorem funit_t (h : FSw w P s W) {j : Nat} {x : Fe} {m : Fm} (hx : s.L[j]? = some x) (hm : P.M[j]? = some m) (k : Nat) (t : Seg) (ht : x.T[k]? = some t) :
 Calls Tryz.prog 103 #[.pointer (some ⟨P.p, 0, none⟩), .int .u64 (x.n : Int), .pointer (some ⟨m.g, 0, none⟩), .int .i64 (k : Int)] w fun e w' => ∃ d : Dc, e = .returned (.agg (bfv ⟨s.ep, x.n, k, x.T.length, d⟩).toArray) ∧ Own w' w.heap.size d.v t ∧ Below w.heap.size w w' := by
 have hse := h.se j x m hx hm; have hseg := h.inv.seg x (List.mem_of_getElem? hx); have hkT : k < x.T.length := (List.getElem?_eq_some_iff.1 ht).1; have hEl : m.E.length = x.T.length := hse.seg.len; have hkE : k < m.E.length := by rw [hEl]; exact hkT
 obtain ⟨d0, hd0⟩ : ∃ d0, m.E[k]? = some d0 := ⟨_, List.getElem?_eq_getElem hkE⟩; have hown0 := hse.seg.fml.own k d0 t hd0 ht; obtain ⟨g, c, hv, -, -, -, -⟩ := hse.seg.row.one (by omega); obtain ⟨N, hN⟩ : ∃ N, N = x.T.length := ⟨_, rfl⟩; rw [hEl, ← hN] at hv; have hrow := hse.seg.row; rw [hv] at hrow; have hcg := OwnG.cell hrow (by rw [hEl, ← hN]) k 0 hkE (by decide); have hd0' : m.E[k] = d0 := (List.getElem?_eq_some_iff.1 hd0).2; rw [hd0'] at hcg; have h5 : w.cell? ⟨g, k, none⟩ = some (.slice d0.a d0.n d0.c) := by simpa using hcg
 have h1 : w.cell? ⟨P.p, 4, none⟩ = some (.int .u64 (s.ep : Int)) := h.cell 4; have h3 : w.cell? ⟨m.g, 2, none⟩ = some (.slice (some ⟨g, 0, none⟩) N c) := by rw [cR hse.box, ← hv]; rfl
 obtain ⟨a0, c0, hv0, hlc, -, hnl, hr0, -⟩ := hown0.val; simp only [Dc.v, Value.slice.injEq] at hv0; obtain ⟨e1, e2, e3⟩ := hv0; obtain ⟨w1, hw1⟩ : ∃ w1, w1 = w.alloc (.cells #[.int .i64 0, .int .u64 0, .int .u64 0, .int .i64 0, .int .i64 0, .int .i64 0, .slice none 0 0, .int .i64 0, .slice none 0 0] tUf) := ⟨_, rfl⟩; have hb1 : Below w.heap.size w w1 := by rw [hw1]; exact alw (bR _ _) _
 have hbox : w1.heap[w.heap.size]? = some (.cells #[.int .i64 0, .int .u64 0, .int .u64 0, .int .i64 0, .int .i64 0, .int .i64 0, .slice none 0 0, .int .i64 0, .slice none 0 0] tUf (0, 0)) := by rw [hw1]; exact heap_alloc_new w _
 have hS : ∀ u, Below w.heap.size w u → u.cell? ⟨P.p, 4, none⟩ = some (.int .u64 (s.ep : Int)) ∧ u.cell? ⟨m.g, 2, none⟩ = some (.slice (some ⟨g, 0, none⟩) N c) ∧ u.cell? ⟨g, k, none⟩ = some (.slice d0.a d0.n d0.c) := fun u hb =>
  ⟨(hb.cell (World.block_lt_of_cell? w _ h1)).trans h1, (hb.cell (World.block_lt_of_cell? w _ h3)).trans h3, (hb.cell (World.block_lt_of_cell? w _ h5)).trans h5⟩
 have hki : (k : Int) < (N : Int) := by omega
 have hk0 : (0 : Int) ≤ (k : Int) := by omega
 have hkm : k < 64 := by have := hseg.1.2; omega
 have HCL : Hid (Calls Tryz.prog 38 #[.slice d0.a d0.n d0.c] w1.drew fun e w' => ∃ v, e = .returned v ∧ Own w' w1.drew.heap.size v t ∧ Below w1.drew.heap.size w1.drew w') := clone_n d0.a d0.n d0.c t e2 w1.drew (by rw [e1]; exact Rd.below hr0 hb1.drew) (fun h9 => by rw [e3]; exact hnl (e1 ▸ h9)) (by have := (hseg.2 t (List.mem_of_getElem? ht)).2; omega); have HB1 : Hid _ := hb1; have HBOX : Hid _ := hbox; have HW1 : Hid (w1 = _) := hw1; have HNT : Hid (N = x.T.length) := hN; have HLT : Hid (w.heap.size < w1.heap.size) := (sI hbox).1; rw [← hN]; clear h hse hseg hkT hEl hkE hd0 hown0 hrow hcg hd0' h1 h3 h5 hr0 e1 e2 e3 hlc hnl hw1 hb1 hbox hx hm ht hv hN; go_enter Tryz.func103, Tryz.ntmps103
 go_wp2; rw [← HW1.out]; have HBD : Hid (w1.drew.heap[w.heap.size]? = _) := HBOX.out; refine wp_region_noPanic ?_; refine wp_region_held_drew (S := (fun u => Below w.heap.size w u)) (by kernel_rfl) (by first | exact HB1.out.drew | exact HBF.out | exact HBC.out | assumption) (fun hHeld => ?_); refine tz 0 9 hHeld ?_; simp only [pS]; refine tz 1 10 hHeld ?_; simp only [pS]; refine tz 2 11 hHeld ?_; simp only [pS]; refine tz 3 12 hHeld ?_; simp only [pS]; refine tz 4 13 hHeld ?_; simp only [pS]; refine tz 5 14 hHeld ?_; simp only [pS]; refine tz 6 15 hHeld ?_; simp only [pS]; refine tz 7 16 hHeld ?_; simp only [pS]; refine tz 8 17 hHeld ?_; simp only [pS]; refine tz 9 18 hHeld ?_; simp only [pS]; refine tz 10 19 hHeld ?_; simp only [pS]; refine tz 11 20 hHeld ?_; simp only [pS]; refine tz 12 21 hHeld ?_; simp only [pS]; refine tz 13 22 hHeld ?_; simp only [pS]; refine tz 14 23 hHeld ?_; simp only [pS]; refine tz 15 24 hHeld ?_; simp only [pS]; refine tz 16 25 hHeld ?_; simp only [pS]; refine tz 17 26 hHeld ?_; simp only [pS]; refine run_at (i := 18) rfl (by kernel_rfl) (by rfl) (fun K hK => ?_); simp only [gE]; go_simp
 (go_at_call 38; refine Calls.mono HCL.out ?_; rintro e9 wC ⟨vC, rfl, hownC, hbC⟩; obtain ⟨aC, cC, hvC, -⟩ := hownC.val; obtain ⟨nC, hnC⟩ : ∃ nC, nC = t.length := ⟨_, rfl⟩; rw [← hnC] at hvC; subst hvC; have HBC : Hid (Below w.heap.size w wC) := HB1.out.drew.trans (hbC.mono HB1.out.size); have HOC : Hid (Own wC w1.drew.heap.size (Dc.v ⟨aC, nC, cC⟩) t) := hownC; have HXC : Hid (wC.heap[w.heap.size]? = _) := (hbC.block w.heap.size HLT.out).trans HBD.out; clear hownC hbC hnC)
 (go_wp2_with fail); refine hK.out _ _ (by first | exact HB1.out.drew | exact HBF.out | exact HBC.out | assumption) ?_; clear hK K; clear hHeld; intro hHeld; (try simp only [pS]); refine tz 19 28 hHeld ?_; simp only [pS]; refine run_at (i := 20) rfl (by kernel_rfl) (by rfl) (fun K hK => ?_); simp only [gE]
 (refine wp_store_row tUf _ _ rfl w.heap.size (bfv ⟨s.ep, x.n, k, N, ⟨aC, nC, cC⟩⟩).toArray (by rfl) (by rfl) tUf _ HXC.out infoU9f rfl (bfv_one _) ?_; have HBF : Hid (Below w.heap.size w (wC.setRow w.heap.size (bfv ⟨s.ep, x.n, k, N, ⟨aC, nC, cC⟩⟩).toArray)) := HBC.out.grown (grown_srF wC w.heap.size _) HBC.out.size (fun j hj => by have := Option.some.inj hj; omega); have HHF : Hid _ := setRow_heap wC w.heap.size _ (bfv ⟨s.ep, x.n, k, N, ⟨aC, nC, cC⟩⟩).toArray tUf _ HXC.out; have HKF : Hid (∀ b, b ≠ w.heap.size → (wC.setRow w.heap.size (bfv ⟨s.ep, x.n, k, N, ⟨aC, nC, cC⟩⟩).toArray).heap[b]? = wC.heap[b]?) := fun b hb => setRow_other wC w.heap.size b _ hb)
 refine hK.out _ _ (by first | exact HB1.out.drew | exact HBF.out | exact HBC.out | assumption) ?_; clear hK K; clear hHeld; intro hHeld; (try simp only [pS]); refine wpAnyH_done (by kernel_rfl) ?_ _; refine NoPanic.normal ?_; go_wp2; refine bodyPost_ret (v := .agg (bfv ⟨s.ep, x.n, k, N, ⟨aC, nC, cC⟩⟩).toArray) (results_cell_row rfl _ _ w.heap.size tUf _ (0, 0) _ rfl HHF.out Tryz.underlying49 rfl (by kernel_rfl)) rfl ?_; refine ⟨⟨aC, nC, cC⟩, rfl, ?_, HBF.out⟩; have h9 : Own wC w.heap.size (Dc.v ⟨aC, nC, cC⟩) t := Own.base HOC.out (Nat.le_of_lt HLT.out)
 exact Own.keptb h9 (fun b e => HKF.out b (fun e9 => by
   have h8 := (World.ownsRow.lt HOC.out b e).1; have h7 : w1.heap.size ≤ b := h8; have := HLT.out
   omega))
end
end Go.Proofs.YtpakkpahcpgnnaaGreatDoor
