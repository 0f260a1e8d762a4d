import Derived.Test.YtibepnilhmbpeaaDoorSMg
namespace Go.Proofs.YtibepnilhmbpeaaDoor
set_option linter.unusedVariables false
set_option linter.unusedSimpArgs false
open Go.RowKit
set_option maxRecDepth 20000 in
set_option maxHeartbeats 3200000 in
theorem sapp_full {w : World} {g p n : Nat} {x : Lg} {sa : Option Addr} {sc : Nat} {d : Dst} {F : Nat → Prop} (h : LogM w g p x sa sc d n F) (ra : Option Addr) (rc L : Nat) (hL : L ≤ 8192) (hf : x.fl = false) (ho : d.off = false) (hnx : x.nx + 79 < 9223372036854775808) (hE : x.nx + needS L - 1 < 281474976710656) (hh : x.h.f ≤ 1152921504606846976) (hfn : x.nx ≤ x.h.f + (x.Z - 2)) (hF : x.free < needS L) :
    Calls Tryd.prog 14 #[.pointer (some ⟨g, 0, none⟩), .slice ra L rc] w fun e w' => e = .returned (.tuple #[.int .u64 0, .int .i64 2]) ∧ Below w.heap.size w w' := by
  have HL : Hid (Calls _ _ _ w _) := slook_ok g p x sa sc d n F w h.s.bx h.s.dk hf ho
  obtain ⟨-, -, -, -, -, -, -, c7, -, -⟩ := cells10 h.s.bx
  obtain ⟨M, hM⟩ : ∃ M, M = needS L := ⟨_, rfl⟩
  have hMp := needS_pos hL
  rw [← hM] at hMp
  have HM : Hid (M = needS L) := hM
  have HMP : Hid (1 ≤ M ∧ M ≤ 79) := ⟨hMp.1, hMp.2.1⟩
  have HNE : Hid (∀ u, Calls Tryd.prog 11 #[.int .i64 (L : Int)] u fun er w' => er = .returned (.int .i64 (M : Int)) ∧ w' = u) := fun u => by rw [hM]; exact need_t L (by omega) u
  have h1 : ¬ (8192 : Int) < (L : Int) := by omega
  have hmw : IntKind.u64.wrap (M : Int) = (M : Int) := by rw [IntKind.wrap_u64]; omega
  obtain ⟨en, hen⟩ : ∃ en, en = x.nx + M := ⟨_, rfl⟩
  have HEN : Hid (en = x.nx + M) := hen
  have henw : IntKind.u64.wrap ((x.nx : Int) + (M : Int)) = (en : Int) := by rw [IntKind.wrap_u64]; omega
  obtain ⟨ep, hep⟩ : ∃ ep, ep = en - 1 := ⟨_, rfl⟩
  have HEP : Hid (ep = en - 1) := hep
  have hepw : IntKind.u64.wrap ((en : Int) - 1) = (ep : Int) := by rw [IntKind.wrap_u64]; omega
  rw [← hM] at hE hF
  have hsz := h.s.dk.size
  have hAZ := h.s.AZ
  have HFR : Hid (Calls _ _ _ w _) := sfree_t g p x sa sc w h.s.bx (by have := h.s.Z; omega) (by omega) hh hfn
  obtain ⟨fr, hfr⟩ : ∃ fr, fr = x.free := ⟨_, rfl⟩
  rw [← hfr] at HFR
  have h2 : ¬ (281474976710655 : Int) < (ep : Int) := by omega
  have h3 : (fr : Int) < (M : Int) := by omega
  clear h hf ho hL hM hMp hnx hen hep hE hsz hAZ hfr hF hh hfn
  go_enter Tryd.func14, Tryd.ntmps14
  go_wp2_with first | (go_at_call 35; refine Calls.mono HL.out ?_; rintro e w' ⟨rfl, hq⟩; have hq := hq.symm; subst hq) | (go_at_call 11; refine Calls.mono (HNE.out _) ?_; rintro e w' ⟨rfl, hq⟩; have hq := hq.symm; subst hq) | (go_at_call 12; refine Calls.mono HFR.out ?_; rintro e u1 ⟨rfl, hu1⟩; have HU1 : Hid (Below w.heap.size w u1) := hu1; clear hu1)
  go_ret2
  exact ⟨rfl, HU1.out⟩
set_option maxRecDepth 20000 in
set_option maxHeartbeats 3200000 in
theorem sapp_go {w : World} {g p n : Nat} {x : Lg} {sa : Option Addr} {sc : Nat} {d : Dst} {F : Nat → Prop} (h : LogM w g p x sa sc d n F) (ra : Option Addr) (rc L : Nat) (hL : L ≤ 8192) (hf : x.fl = false) (ho : d.off = false) (hnx : x.nx + 79 < 9223372036854775808) (rec : List UInt8) (hrl : L = rec.length) (hE : x.nx + needS L - 1 < 281474976710656) (hh : x.h.f ≤ 1152921504606846976) (hfn : x.nx ≤ x.h.f + (x.Z - 2)) (hF : needS L ≤ x.free) (hr : Rd w ra rec) (hc : L ≤ rc) (hnil : ra = none → rc = 0) (hrF : 0 < L → ∀ q, ra = some q → ¬ F q.block) (hn : n + 79 < 1099511627776) (he : x.h.e < 9223372036854775808) (hp : (runO d (recO x.A x.Z x.nx x.h.e rec (needS L))).2 = true) (hlt : ∀ s ∈ x.L, s.n < x.nx) (hlen : x.L.length < 1000000) :
    Calls Tryd.prog 14 #[.pointer (some ⟨g, 0, none⟩), .slice ra L rc] w fun e w' => e = .returned (.tuple #[.int .u64 (x.nx : Int), .int .i64 0]) ∧ ∃ sa' sc' F', LogM w' g p (x.app rec) sa' sc' (runO d (recO x.A x.Z x.nx x.h.e rec (needS L))).1 (n + 79) F' ∧ (∀ b, F' b → F b ∨ w.heap.size ≤ b) ∧ (∀ a, sa' = some a → (∃ a0, sa = some a0 ∧ a.block = a0.block) ∨ w.heap.size ≤ a.block) ∧ Chg (fun b => F b ∨ b = g ∨ ∃ a0, sa = some a0 ∧ b = a0.block) w w' := by
  have HL : Hid (Calls _ _ _ w _) := slook_ok g p x sa sc d n F w h.s.bx h.s.dk hf ho
  obtain ⟨-, -, -, -, -, -, -, c7, -, -⟩ := cells10 h.s.bx
  have hwr := fun (u : World) (hu : Below w.heap.size w u) => writeRec_t (h.below hu) ra rc rec (hr.below hu) (by omega) (by omega) hnil (by rw [← hrl]; exact hrF) hn hnx he
  rw [← hrl] at hwr
  have HWR : Hid (∀ u, Below w.heap.size w u → Calls _ _ _ u _) := hwr
  clear hwr
  obtain ⟨M, hM⟩ : ∃ M, M = needS L := ⟨_, rfl⟩
  have hMp := needS_pos hL
  rw [← hM] at hMp
  have HM : Hid (M = needS L) := hM
  have HMP : Hid (1 ≤ M ∧ M ≤ 79) := ⟨hMp.1, hMp.2.1⟩
  have HNE : Hid (∀ u, Calls Tryd.prog 11 #[.int .i64 (L : Int)] u fun er w' => er = .returned (.int .i64 (M : Int)) ∧ w' = u) := fun u => by rw [hM]; exact need_t L (by omega) u
  have h1 : ¬ (8192 : Int) < (L : Int) := by omega
  have hmw : IntKind.u64.wrap (M : Int) = (M : Int) := by rw [IntKind.wrap_u64]; omega
  obtain ⟨en, hen⟩ : ∃ en, en = x.nx + M := ⟨_, rfl⟩
  have HEN : Hid (en = x.nx + M) := hen
  have henw : IntKind.u64.wrap ((x.nx : Int) + (M : Int)) = (en : Int) := by rw [IntKind.wrap_u64]; omega
  obtain ⟨ep, hep⟩ : ∃ ep, ep = en - 1 := ⟨_, rfl⟩
  have HEP : Hid (ep = en - 1) := hep
  have hepw : IntKind.u64.wrap ((en : Int) - 1) = (ep : Int) := by rw [IntKind.wrap_u64]; omega
  rw [← hM] at hE hF
  have hsz := h.s.dk.size
  have hAZ := h.s.AZ
  have HFR : Hid (Calls _ _ _ w _) := sfree_t g p x sa sc w h.s.bx (by have := h.s.Z; omega) (by omega) hh hfn
  obtain ⟨fr, hfr⟩ : ∃ fr, fr = x.free := ⟨_, rfl⟩
  rw [← hfr] at HFR
  have h2 : ¬ (281474976710655 : Int) < (ep : Int) := by omega
  have h3 : ¬ (fr : Int) < (M : Int) := by omega
  rw [hp] at HWR
  have HWR : Hid (∀ u, Below w.heap.size w u → Calls _ _ _ u fun e w' => e = .returned (.int .i64 0) ∧ _) := HWR
  have HLL : Hid (L = rec.length) := hrl
  have HH : Hid (LogM w g p x sa sc d n F) := h
  have HP : Hid ((runO d (recO x.A x.Z x.nx x.h.e rec (needS rec.length))).2 = true) := by unfold Hid; rw [← hrl]; exact hp
  have HLT : Hid ((∀ s ∈ x.L, s.n < x.nx) ∧ x.L.length < 1000000) := ⟨hlt, hlen⟩
  clear h hf ho hL hM hMp hnx hen hep hE hsz hAZ hfr hF hh hfn hr hc hnil hrF hn he hp hrl hlt hlen
  go_enter Tryd.func14, Tryd.ntmps14
  go_upto_region 15 with first | (go_at_call 35; refine Calls.mono HL.out ?_; rintro e w' ⟨rfl, hq⟩; have hq := hq.symm; subst hq) | (go_at_call 11; refine Calls.mono (HNE.out _) ?_; rintro e w' ⟨rfl, hq⟩; have hq := hq.symm; subst hq) | (go_at_call 12; refine Calls.mono HFR.out ?_; rintro e u1 ⟨rfl, hu1⟩; have HU1 : Hid (Below w.heap.size w u1) := hu1; clear hu1) | (go_at_call 36; refine Calls.mono (HWR.out _ HU1.out) ?_; rintro e w2 ⟨rfl, hq⟩; have HQ : Hid _ := hq; clear hq)
  have hs2 := WrOut.st (HH.out.below HU1.out) HP.out HQ.out
  have HS2 : Hid (StA w2 g p x sa sc _ (n + 79) F u1) := hs2
  obtain ⟨-, -, -, -, -, -, -, c7, -, -⟩ := cells10 hs2.bx
  clear hs2
  go_upto_region 16 with fail
  obtain ⟨m, hm⟩ : ∃ m, m = x.L.length := ⟨_, rfl⟩
  have HMM : Hid (m = x.L.length) := hm
  have hm6 : m < 1000000 := by rw [hm]; exact HLT.out.2
  have HC1 : Hid (∀ u, Below w2.heap.size w2 u → u.cell? ⟨g, 8, none⟩ = some (.slice sa m sc) ∧ u.cell? ⟨g, 4, none⟩ = some (.int .u64 (x.h.e : Int))) := fun u hu => by
    have h9 := cells10 (below_blk hu HS2.out.bx)
    rw [hm]
    exact ⟨h9.2.2.2.2.2.2.2.2.1, h9.2.2.2.2.1⟩
  have HOW : Hid (∀ u, Below w2.heap.size w2 u → MidG KS u (.slice sa m sc) x.L) := fun u hu => by rw [hm]; exact HS2.out.mid.below hu
  have HQ8 : Hid (∀ u u', Below w2.heap.size w2 u → u.grownBy u' (Value.slice sa m sc).ownBlock → u'.heap[g]? = some (.cells (x.c p sa sc) tLg (0, 0))) := fun u u' hu hg => by
    have h1 := below_blk hu HS2.out.bx
    exact (hg.block g (Array.getElem?_eq_some_iff.1 h1).1 (fun e => by obtain ⟨a, e1, e2⟩ := SA_blk e.symm; exact (HH.out.s.sF a e1).2 e2)).trans h1
  clear hm
  refine wp_region_noPanic ?_
  refine wp_region_late_drew (S := (fun u => Below w2.heap.size w2 u)) (X := [13, 14, 15, 16]) (by kernel_rfl) (by with_reducible first | exact (Below.refl _ _).drew | exact alS (Below.refl _ _).drew _ | exact alS hHeld _ | exact (alS (Below.refl _ _) _).drew | assumption) (fun hHeld => ?_)
  refine take_atA (i := 0) 46 (v := ?_) rfl rfl (by kernel_rfl) (by kernel_rfl) (by kernel_rfl) (by decide) (fun _ _ _ h => h) (by rfl) ?_ hHeld ?_
  rotate_left
  · (intro w; go_simp; try with_reducible rfl)
  simp only [Act.put, List.setIfInBounds_toArray, List.set_cons_zero, List.set_cons_succ]
  refine take_atA (i := 1) 47 (v := ?_) rfl rfl (by kernel_rfl) (by kernel_rfl) (by kernel_rfl) (by decide) (fun _ _ _ h => h) (by rfl) ?_ hHeld ?_
  rotate_left
  · (intro w; go_simp; try with_reducible rfl)
  simp only [Act.put, List.setIfInBounds_toArray, List.set_cons_zero, List.set_cons_succ]
  refine take_atA (i := 2) 48 (v := ?_) rfl rfl (by kernel_rfl) (by kernel_rfl) (by kernel_rfl) (by decide) (fun _ _ _ h => h) (by rfl) ?_ hHeld ?_
  rotate_left
  · (intro w; go_simp; try with_reducible rfl)
  simp only [Act.put, List.setIfInBounds_toArray, List.set_cons_zero, List.set_cons_succ]
  refine take_atA (i := 3) 49 (v := ?_) rfl rfl (by kernel_rfl) (by kernel_rfl) (by kernel_rfl) (by decide) (fun _ _ _ h => h) (by rfl) ?_ hHeld ?_
  rotate_left
  · (intro w; go_simp; try with_reducible rfl)
  simp only [Act.put, List.setIfInBounds_toArray, List.set_cons_zero, List.set_cons_succ]
  refine take_atL (i := 4) 50 (v := .slice sa m sc) rfl rfl (by kernel_rfl) (by kernel_rfl) (by kernel_rfl) (by kernel_rfl) (fun _ _ _ h => h) (by rfl) ?_ hHeld ?_
  · (intro w hSw; have hc9 := (HC1.out _ hSw).1; go_simp; try with_reducible rfl)
  simp only [Act.put, List.setIfInBounds_toArray, List.set_cons_zero, List.set_cons_succ]
  refine take_atA (i := 5) 51 (v := ?_) rfl rfl (by kernel_rfl) (by kernel_rfl) (by kernel_rfl) (by decide) (fun _ _ _ h => h) (by rfl) ?_ hHeld ?_
  rotate_left
  · (intro w; go_simp; try with_reducible rfl)
  simp only [Act.put, List.setIfInBounds_toArray, List.set_cons_zero, List.set_cons_succ]
  refine take_atA (i := 6) 52 (v := ?_) rfl rfl (by kernel_rfl) (by kernel_rfl) (by kernel_rfl) (by decide) (fun _ _ _ h => h) (by rfl) ?_ hHeld ?_
  rotate_left
  · (intro w; go_simp; try with_reducible rfl)
  simp only [Act.put, List.setIfInBounds_toArray, List.set_cons_zero, List.set_cons_succ]
  refine take_atA (i := 7) 53 (v := ?_) rfl rfl (by kernel_rfl) (by kernel_rfl) (by kernel_rfl) (by decide) (fun _ _ _ h => h) (by rfl) ?_ hHeld ?_
  rotate_left
  · (intro w; go_simp; try with_reducible rfl)
  simp only [Act.put, List.setIfInBounds_toArray, List.set_cons_zero, List.set_cons_succ]
  refine take_atA (i := 8) 54 (v := ?_) rfl rfl (by kernel_rfl) (by kernel_rfl) (by kernel_rfl) (by decide) (fun _ _ _ h => h) (by rfl) ?_ hHeld ?_
  rotate_left
  · (intro w; go_simp; try with_reducible rfl)
  simp only [Act.put, List.setIfInBounds_toArray, List.set_cons_zero, List.set_cons_succ]
  refine take_atA (i := 9) 55 (v := ?_) rfl rfl (by kernel_rfl) (by kernel_rfl) (by kernel_rfl) (by decide) (fun _ _ _ h => h) (by rfl) ?_ hHeld ?_
  rotate_left
  · (intro w; go_simp; try with_reducible rfl)
  simp only [Act.put, List.setIfInBounds_toArray, List.set_cons_zero, List.set_cons_succ]
  refine take_atL (i := 10) 56 (v := .int .u64 (x.h.e : Int)) rfl rfl (by kernel_rfl) (by kernel_rfl) (by kernel_rfl) (by kernel_rfl) (fun _ _ _ h => h) (by rfl) ?_ hHeld ?_
  · (intro w hSw; have hc9 := (HC1.out _ hSw).2; go_simp; try with_reducible rfl)
  simp only [Act.put, List.setIfInBounds_toArray, List.set_cons_zero, List.set_cons_succ]
  refine take_atA (i := 11) 57 (v := ?_) rfl rfl (by kernel_rfl) (by kernel_rfl) (by kernel_rfl) (by decide) (fun _ _ _ h => h) (by rfl) ?_ hHeld ?_
  rotate_left
  · (intro w; go_simp; try with_reducible rfl)
  simp only [Act.put, List.setIfInBounds_toArray, List.set_cons_zero, List.set_cons_succ]
  refine run_atL (i := 12) rfl (by kernel_rfl) (by rfl) (fun K hK => ?_)
  simp only [List.getElem_toArray, List.getElem_cons_zero, List.getElem_cons_succ]
  go_simp
  go_wp2_with fail
  refine hK.out _ _ (by with_reducible first | exact (Below.refl _ _).drew | exact alS (Below.refl _ _).drew _ | exact alS hHeld _ | exact (alS (Below.refl _ _) _).drew | assumption) ?_
  clear hK K
  intro hHeld2
  clear hHeld
  have hHeld := hHeld2
  clear hHeld2
  try simp only [Act.put, List.setIfInBounds_toArray, List.set_cons_zero, List.set_cons_succ]
  refine run_atLate (i := 13) rfl (by kernel_rfl) (by decide) (by rfl) (fun K hK => ?_)
  simp only [List.getElem_toArray, List.getElem_cons_zero, List.getElem_cons_succ]
  (refine wpo_appM1 (K := KS) _ _ rfl (.slice sa m sc) x.L ⟨x.nx, x.h.e⟩ m HMM.out ⟨w2.heap.size, 0, none⟩ 1 rfl (HOW.out _ (alS (Below.refl _ _).drew _)) rfl (rdG_lit (K := KS) (heap_alloc_new _ _) rfl) (by show (m + 1) * 16 ≤ _; omega) (by simp only [maxLen]; omega) ?_; intro v7 w7 hown7 hg7 hat7; have hgx := HQ8.out _ _ (alS (Below.refl _ _).drew _) hg7; have HGX : Hid _ := hgx; have hcq := (cells10 hgx).2.2.2.2.2.2.2.2.1; have hfq := frz hgx 8; obtain ⟨a7, c7', hv7, -⟩ := hown7.val; obtain ⟨n7, hn7⟩ : ∃ n7, n7 = (x.L ++ [(⟨x.nx, x.h.e⟩ : Sta)]).length := ⟨_, rfl⟩; rw [← hn7] at hv7; subst hv7; have HN7 : Hid _ := hn7; have HO7 : Hid _ := hown7; have HG7 : Hid _ := hg7; have HT7 : Hid _ := hat7; clear hown7 hg7 hat7 hn7 hgx)
  refine hK.out _ _ ?_
  clear hK K
  try simp only [Act.put, List.setIfInBounds_toArray, List.set_cons_zero, List.set_cons_succ]
  refine val_atLate (i := 14) 60 (v := ?_) rfl rfl (by kernel_rfl) (by decide) (by rfl) ?_ ?_
  rotate_left
  · (go_simp; try with_reducible rfl)
  simp only [Act.put, List.setIfInBounds_toArray, List.set_cons_zero, List.set_cons_succ]
  refine val_atLate (i := 15) 61 (v := ?_) rfl rfl (by kernel_rfl) (by decide) (by rfl) ?_ ?_
  rotate_left
  · (go_simp; try with_reducible rfl)
  simp only [Act.put, List.setIfInBounds_toArray, List.set_cons_zero, List.set_cons_succ]
  refine run_atLate (i := 16) rfl (by kernel_rfl) (by decide) (by rfl) (fun K hK => ?_)
  simp only [List.getElem_toArray, List.getElem_cons_zero, List.getElem_cons_succ]
  go_simp
  go_wp2_with fail
  refine hK.out _ _ ?_
  clear hK K
  try simp only [Act.put, List.setIfInBounds_toArray, List.set_cons_zero, List.set_cons_succ]
  refine doneL (by kernel_rfl) ?_ _
  refine NoPanic.normal ?_
  have HBX8 : Hid ((w7.setCell ⟨g, 8, none⟩ (.slice a7 n7 c7')).heap[g]? = some (.cells #[.pointer (some ⟨p, 0, none⟩), .int .i64 (x.A : Int), .int .i64 (x.Z : Int), .int .u64 (x.h.g : Int), .int .u64 (x.h.e : Int), .int .u64 (x.h.f : Int), .int .u64 (x.h.l : Int), .int .u64 (x.nx : Int), .slice a7 n7 c7', .bool x.fl] tLg (0, 0))) := heap_setCell_same w7 g 8 _ _ (.slice a7 n7 c7') HGX.out
  have hc77 := (cells10 HBX8.out).2.2.2.2.2.2.2.1
  have hf77 := frz HBX8.out 7
  clear hcq hfq hHeld
  go_wp2_with fail
  go_ret2
  have hen9 : en = x.nx + needS rec.length := by rw [HEN.out, HM.out, HLL.out]
  obtain ⟨sa', sc', F', r1, r2, r3, r4⟩ := StA.fin HH.out HU1.out HS2.out (by rw [runO_len]) HMM.out HG7.out HO7.out HN7.out HT7.out HGX.out hen9 HLT.out.1 HLT.out.2
  rw [HLL.out]
  exact ⟨rfl, sa', sc', F', r1, r2, r3, r4⟩
end Go.Proofs.YtibepnilhmbpeaaDoor
