import Derived.Test.YtdoikcolkbjnfaaGreatLxD
import Derived.Test.YtdoikcolkbjnfaaGreatLDs
import Derived.Test.YtdoikcolkbjnfaaGreatLDa
import Derived.Test.YtdoikcolkbjnfaaGreatHelp
namespace Go.Proofs.YtdoikcolkbjnfaaGreat
set_option linter.unusedVariables false
set_option linter.unusedSimpArgs false
open Go.RowKit Go.Maps
section
set_option maxRecDepth 20000
set_option maxHeartbeats 3200000
theorem shows_t {w : World} {p N : Nat} {I : Ib} {F : Nat → Prop} (h : IbA w p N I F) {q : Nat} {oa : Option Addr} {on oc : Nat} {sa : Option Addr} {sn sc : Nat} {E : List (Ss × Bg)} (hR : Rib none w q oa on oc sa sn sc I E) :
    Calls Tryz.prog 20 #[.pointer (some ⟨p, 0, none⟩), .pointer (some ⟨q, 0, none⟩)] w fun e w' => e = .returned (.bool true) ∧ Below w.heap.size w w' := by
  have HO : Hid _ := open_a h
  have HS : Hid (∀ u, Below w.heap.size w u → Calls _ _ _ u _) := fun u hu => decd_a (h.below hu)
  have HE : Hid (∀ u, Below w.heap.size w u → Calls _ _ _ u _) := fun u hu => epoch_a (h.below hu)
  have HR : Hid _ := hR
  have hon : (ks I.O).length = on := by rw [len_ks]; exact hR.onL.symm
  have hsn : (ks I.H).length = sn := by rw [len_ks]; exact hR.snL.symm
  have hob : on ≤ 64 := by have := hR.onL; have := hR.ok.lo; have := hR.ok.o1; omega
  have hsb : sn ≤ 4096 := by have := hR.snL; have := hR.ok.ls; have := hR.ok.s1; omega
  have HCD : Hid (∀ u, Below w.heap.size w u → u.cell? ⟨q, 2, none⟩ = some (.int .u64 (I.ep : Int)) ∧ u.cell? ⟨q, 3, none⟩ = some (.slice oa on oc) ∧ u.cell? ⟨q, 4, none⟩ = some (.slice sa sn sc)) := fun u hu => ⟨(hR.below hu).cell.2.2.1, (hR.below hu).cell.2.2.2.1, (hR.below hu).cell.2.2.2.2⟩
  have HON : Hid _ := hon
  have HSN : Hid _ := hsn
  obtain ⟨ep, hep⟩ : ∃ ep, ep = I.ep := ⟨_, rfl⟩
  rw [← hep] at HE HCD
  clear h hR hep hon hsn
  go_enter Tryz.func20, Tryz.ntmps20
  go_wp2_with fail
  refine Calls.mono HO.out ?_
  rintro e1 w1 ⟨v1, rfl, hv1, hb1⟩
  obtain ⟨a1, c1, rfl⟩ : ∃ a1 c1, v1 = .slice a1 on c1 := by
    rcases hv1.2 with ⟨rfl, h0⟩ | ⟨g, cap, cur, rfl, -⟩
    · exact ⟨none, 0, by rw [← HON.out, h0]⟩
    · exact ⟨_, _, by rw [HON.out]⟩
  have HV1 : Hid _ := hv1
  have HB1 : Hid _ := hb1
  clear hv1 hb1
  go_wp2_with fail
  refine Calls.mono (HS.out _ HB1.out) ?_
  rintro e2 w2 ⟨v2, rfl, hv2, hb2⟩
  obtain ⟨a2, c2, rfl⟩ : ∃ a2 c2, v2 = .slice a2 sn c2 := by
    rcases hv2.2 with ⟨rfl, h0⟩ | ⟨g, cap, cur, rfl, -⟩
    · exact ⟨none, 0, by rw [← HSN.out, h0]⟩
    · exact ⟨_, _, by rw [HSN.out]⟩
  have HV2 : Hid _ := hv2
  have HB2 : Hid (Below w.heap.size w w2) := below_next HB1.out hb2
  have HV12 : Hid (OwnG KSs w2 w.heap.size (.slice a1 on c1) (ks I.O)) := OwnG.below HV1.out hb2
  clear hv2 hb2
  have hcd : ∀ u, Below w2.heap.size w2 u → u.cell? ⟨q, 2, none⟩ = some (.int .u64 (ep : Int)) ∧ u.cell? ⟨q, 3, none⟩ = some (.slice oa on oc) ∧ u.cell? ⟨q, 4, none⟩ = some (.slice sa sn sc) := fun u hu => HCD.out u (below_next HB2.out hu)
  have HE2 : Hid (Calls _ _ _ w2.drew _) := HE.out w2.drew HB2.out.drew
  have hq1 : ((ep : Int) != (ep : Int)) = false := by simp
  have hq2 : ((on : Int) != (on : Int)) = false := by simp
  have hq3 : ((sn : Int) != (sn : Int)) = false := by simp
  go_wp2
  refine wp_region_noPanic ?_
  refine wp_region_held_drew (S := (fun u => Below w2.heap.size w2 u)) (by kernel_rfl) (by first | exact Below.refl _ _ | exact (Below.refl _ _).drew | assumption) (fun hHeld => ?_)
  refine take_at (i := 0) 13 (v := ?_) rfl rfl (by kernel_rfl) (by kernel_rfl) (by kernel_rfl) (fun _ _ _ h => h) (by rfl) ?_ hHeld ?_
  rotate_left
  · (intro w hSw; (try dsimp only at hSw); go_simp; try with_reducible rfl)
  simp only [Act.put, List.setIfInBounds_toArray, List.set_cons_zero, List.set_cons_succ]
  refine take_at (i := 2) 15 (v := ?_) rfl rfl (by kernel_rfl) (by kernel_rfl) (by kernel_rfl) (fun _ _ _ h => h) (by rfl) ?_ hHeld ?_
  rotate_left
  · (intro w hSw; (try dsimp only at hSw); go_simp; try with_reducible rfl)
  simp only [Act.put, List.setIfInBounds_toArray, List.set_cons_zero, List.set_cons_succ]
  refine take_at (i := 3) 16 (v := ?_) rfl rfl (by kernel_rfl) (by kernel_rfl) (by kernel_rfl) (fun _ _ _ h => h) (by rfl) ?_ hHeld ?_
  rotate_left
  · (intro w hSw; (try dsimp only at hSw); go_simp; try with_reducible rfl)
  simp only [Act.put, List.setIfInBounds_toArray, List.set_cons_zero, List.set_cons_succ]
  refine take_at (i := 4) 17 (v := ?_) rfl rfl (by kernel_rfl) (by kernel_rfl) (by kernel_rfl) (fun _ _ _ h => h) (by rfl) ?_ hHeld ?_
  rotate_left
  · (intro w hSw; (try dsimp only at hSw); go_simp; try with_reducible rfl)
  simp only [Act.put, List.setIfInBounds_toArray, List.set_cons_zero, List.set_cons_succ]
  refine take_at (i := 5) 18 (v := ?_) rfl rfl (by kernel_rfl) (by kernel_rfl) (by kernel_rfl) (fun _ _ _ h => h) (by rfl) ?_ hHeld ?_
  rotate_left
  · (intro w hSw; (try dsimp only at hSw); go_simp; try with_reducible rfl)
  simp only [Act.put, List.setIfInBounds_toArray, List.set_cons_zero, List.set_cons_succ]
  refine run_at (i := 1) rfl (by kernel_rfl) (by rfl) (fun K hK => ?_)
  simp only [List.getElem_toArray, List.getElem_cons_zero, List.getElem_cons_succ]
  go_simp
  (go_at_call 30; refine Calls.mono HE2.out ?_; rintro e u4 ⟨rfl, hq4⟩; have hq4 := hq4.symm; subst hq4)
  go_wp2_with fail
  refine hK.out _ _ (by first | exact Below.refl _ _ | exact (Below.refl _ _).drew | assumption) ?_
  clear hK K
  intro hHeld2
  clear hHeld
  have hHeld := hHeld2
  clear hHeld2
  try simp only [Act.put, List.setIfInBounds_toArray, List.set_cons_zero, List.set_cons_succ]
  refine take_at (i := 6) 19 (v := ?_) rfl rfl (by kernel_rfl) (by kernel_rfl) (by kernel_rfl) (fun _ _ _ h => h) (by rfl) ?_ hHeld ?_
  rotate_left
  · (intro w hSw; (try dsimp only at hSw); go_simp; try with_reducible rfl)
  simp only [Act.put, List.setIfInBounds_toArray, List.set_cons_zero, List.set_cons_succ]
  refine take_at (i := 7) 20 (v := ?_) rfl rfl (by kernel_rfl) (by kernel_rfl) (by kernel_rfl) (fun _ _ _ h => h) (by rfl) ?_ hHeld ?_
  rotate_left
  · (intro w hSw; (try dsimp only at hSw); go_simp; try with_reducible rfl)
  simp only [Act.put, List.setIfInBounds_toArray, List.set_cons_zero, List.set_cons_succ]
  refine take_at (i := 8) 21 (v := ?_) rfl rfl (by kernel_rfl) (by kernel_rfl) (by kernel_rfl) (fun _ _ _ h => h) (by rfl) ?_ hHeld ?_
  rotate_left
  · (intro w hSw; (try dsimp only at hSw); go_simp; try with_reducible rfl)
  simp only [Act.put, List.setIfInBounds_toArray, List.set_cons_zero, List.set_cons_succ]
  refine take_at (i := 9) 22 (v := ?_) rfl rfl (by kernel_rfl) (by kernel_rfl) (by kernel_rfl) (fun _ _ _ h => h) (by rfl) ?_ hHeld ?_
  rotate_left
  · (intro w hSw; (try dsimp only at hSw); go_simp; try with_reducible rfl)
  simp only [Act.put, List.setIfInBounds_toArray, List.set_cons_zero, List.set_cons_succ]
  refine take_at (i := 10) 23 (v := ?_) rfl rfl (by kernel_rfl) (by kernel_rfl) (by kernel_rfl) (fun _ _ _ h => h) (by rfl) ?_ hHeld ?_
  rotate_left
  · (intro w hSw; (try dsimp only at hSw); go_simp; try with_reducible rfl)
  simp only [Act.put, List.setIfInBounds_toArray, List.set_cons_zero, List.set_cons_succ]
  refine take_at (i := 11) 24 (v := ?_) rfl rfl (by kernel_rfl) (by kernel_rfl) (by kernel_rfl) (fun _ _ _ h => h) (by rfl) ?_ hHeld ?_
  rotate_left
  · (intro w hSw; (try dsimp only at hSw); go_simp; try with_reducible rfl)
  simp only [Act.put, List.setIfInBounds_toArray, List.set_cons_zero, List.set_cons_succ]
  refine take_at (i := 12) 25 (v := ?_) rfl rfl (by kernel_rfl) (by kernel_rfl) (by kernel_rfl) (fun _ _ _ h => h) (by rfl) ?_ hHeld ?_
  rotate_left
  · (intro w hSw; (try dsimp only at hSw); go_simp; try with_reducible rfl)
  simp only [Act.put, List.setIfInBounds_toArray, List.set_cons_zero, List.set_cons_succ]
  refine take_at (i := 13) 26 (v := ?_) rfl rfl (by kernel_rfl) (by kernel_rfl) (by kernel_rfl) (fun _ _ _ h => h) (by rfl) ?_ hHeld ?_
  rotate_left
  · (intro w hSw; (try dsimp only at hSw); go_simp; try with_reducible rfl)
  simp only [Act.put, List.setIfInBounds_toArray, List.set_cons_zero, List.set_cons_succ]
  refine take_at (i := 14) 27 (v := ?_) rfl rfl (by kernel_rfl) (by kernel_rfl) (by kernel_rfl) (fun _ _ _ h => h) (by rfl) ?_ hHeld ?_
  rotate_left
  · (intro w hSw; (try dsimp only at hSw); go_simp; try with_reducible rfl)
  simp only [Act.put, List.setIfInBounds_toArray, List.set_cons_zero, List.set_cons_succ]
  refine take_at (i := 15) 28 (v := ?_) rfl rfl (by kernel_rfl) (by kernel_rfl) (by kernel_rfl) (fun _ _ _ h => h) (by rfl) ?_ hHeld ?_
  rotate_left
  · (intro w hSw; (try dsimp only at hSw); go_simp; try with_reducible rfl)
  simp only [Act.put, List.setIfInBounds_toArray, List.set_cons_zero, List.set_cons_succ]
  refine take_at (i := 16) 29 (v := ?_) rfl rfl (by kernel_rfl) (by kernel_rfl) (by kernel_rfl) (fun _ _ _ h => h) (by rfl) ?_ hHeld ?_
  rotate_left
  · (intro w hSw; (try dsimp only at hSw); go_simp; try with_reducible rfl)
  simp only [Act.put, List.setIfInBounds_toArray, List.set_cons_zero, List.set_cons_succ]
  refine take_at (i := 17) 30 (v := ?_) rfl rfl (by kernel_rfl) (by kernel_rfl) (by kernel_rfl) (fun _ _ _ h => h) (by rfl) ?_ hHeld ?_
  rotate_left
  · (intro w hSw; (try dsimp only at hSw); go_simp; try with_reducible rfl)
  simp only [Act.put, List.setIfInBounds_toArray, List.set_cons_zero, List.set_cons_succ]
  refine take_at (i := 18) 31 (v := ?_) rfl rfl (by kernel_rfl) (by kernel_rfl) (by kernel_rfl) (fun _ _ _ h => h) (by rfl) ?_ hHeld ?_
  rotate_left
  · (intro w hSw; (try dsimp only at hSw); go_simp; try with_reducible rfl)
  simp only [Act.put, List.setIfInBounds_toArray, List.set_cons_zero, List.set_cons_succ]
  refine take_at (i := 19) 32 (v := ?_) rfl rfl (by kernel_rfl) (by kernel_rfl) (by kernel_rfl) (fun _ _ _ h => h) (by rfl) ?_ hHeld ?_
  rotate_left
  · (intro w hSw; (try dsimp only at hSw); go_simp; try with_reducible rfl)
  simp only [Act.put, List.setIfInBounds_toArray, List.set_cons_zero, List.set_cons_succ]
  refine take_at (i := 20) 33 (v := ?_) rfl rfl (by kernel_rfl) (by kernel_rfl) (by kernel_rfl) (fun _ _ _ h => h) (by rfl) ?_ hHeld ?_
  rotate_left
  · (intro w hSw; (try dsimp only at hSw); go_simp; try with_reducible rfl)
  simp only [Act.put, List.setIfInBounds_toArray, List.set_cons_zero, List.set_cons_succ]
  refine take_at (i := 21) 34 (v := ?_) rfl rfl (by kernel_rfl) (by kernel_rfl) (by kernel_rfl) (fun _ _ _ h => h) (by rfl) ?_ hHeld ?_
  rotate_left
  · (intro w hSw; (try dsimp only at hSw); go_simp; try with_reducible rfl)
  simp only [Act.put, List.setIfInBounds_toArray, List.set_cons_zero, List.set_cons_succ]
  refine take_at (i := 22) 35 (v := ?_) rfl rfl (by kernel_rfl) (by kernel_rfl) (by kernel_rfl) (fun _ _ _ h => h) (by rfl) ?_ hHeld ?_
  rotate_left
  · (intro w hSw; (try dsimp only at hSw); go_simp; try with_reducible rfl)
  simp only [Act.put, List.setIfInBounds_toArray, List.set_cons_zero, List.set_cons_succ]
  refine take_at (i := 23) 36 (v := ?_) rfl rfl (by kernel_rfl) (by kernel_rfl) (by kernel_rfl) (fun _ _ _ h => h) (by rfl) ?_ hHeld ?_
  rotate_left
  · (intro w hSw; (try dsimp only at hSw); go_simp; try with_reducible rfl)
  simp only [Act.put, List.setIfInBounds_toArray, List.set_cons_zero, List.set_cons_succ]
  refine take_at (i := 24) 37 (v := ?_) rfl rfl (by kernel_rfl) (by kernel_rfl) (by kernel_rfl) (fun _ _ _ h => h) (by rfl) ?_ hHeld ?_
  rotate_left
  · (intro w hSw; (try dsimp only at hSw); go_simp; try with_reducible rfl)
  simp only [Act.put, List.setIfInBounds_toArray, List.set_cons_zero, List.set_cons_succ]
  refine take_at (i := 25) 38 (v := ?_) rfl rfl (by kernel_rfl) (by kernel_rfl) (by kernel_rfl) (fun _ _ _ h => h) (by rfl) ?_ hHeld ?_
  rotate_left
  · (intro w hSw; (try dsimp only at hSw); go_simp; try with_reducible rfl)
  simp only [Act.put, List.setIfInBounds_toArray, List.set_cons_zero, List.set_cons_succ]
  refine take_at (i := 26) 39 (v := ?_) rfl rfl (by kernel_rfl) (by kernel_rfl) (by kernel_rfl) (fun _ _ _ h => h) (by rfl) ?_ hHeld ?_
  rotate_left
  · (intro w hSw; (try dsimp only at hSw); go_simp; try with_reducible rfl)
  simp only [Act.put, List.setIfInBounds_toArray, List.set_cons_zero, List.set_cons_succ]
  refine wpAnyH_done (by kernel_rfl) ?_ _
  refine NoPanic.normal ?_
  go_wp2
  go_loopw [7] (fun j wr => ∃ k : Nat, k ≤ on ∧ j = .int .i64 (k : Int) ∧ Below w2.heap.size w2 wr) (fun j _ => on - (intOf j).toNat)
  case atStart => exact ⟨0, Nat.zero_le _, rfl, (Below.refl _ _).drew⟩
  case round =>
    obtain ⟨k, hk, rfl, hbw⟩ := hrel
    have hkw : IntKind.i64.wrap ((k : Int) + 1) = ((k + 1 : Nat) : Int) := by rw [IntKind.wrap_i64]; omega
    by_cases hlt : k < on
    · have hlti : (k : Int) < (on : Int) := by omega
      have hk0 : (0 : Int) ≤ (k : Int) := by omega
      have hk1 : k < (ks I.O).length := by rw [HON.out]; exact hlt
      obtain ⟨b1, e1, r1⟩ := rdG_at HV12.out k hk1
      have hk2 : k < (mp Bg.q E).length := by have := HON.out; rw [len_ks] at this; rw [len_mp]; have h9 := Rib.eO HR.out; have h8 := congrArg List.length h9; rw [len_mp] at h8; omega
      obtain ⟨b2, e2, r2⟩ := rdG_at (Rib.ro (Rib.below HR.out HB2.out)) k hk2
      subst e1 e2
      obtain ⟨s, hs⟩ : ∃ s : Ss, s = (ks I.O)[k] := ⟨_, rfl⟩
      have hs2 : ((mp Bg.q E)[k]).1 = s := by rw [hs]; have h8 : ks I.O = ks (mp Bg.q E) := (by rw [Rib.eO HR.out, ks_mp, ks_mp]); simp only [h8]; simp [ks]
      have hbl : ∀ u, Below w2.heap.size w2 u → u.cell? ⟨b1, k * 2, none⟩ = some (.int .u64 (s.1 : Int)) ∧ u.cell? ⟨b1, k * 2 + 1, none⟩ = some (.int .u64 (s.2 : Int)) ∧ u.cell? ⟨b2, k * 3, none⟩ = some (.int .u64 (s.1 : Int)) ∧ u.cell? ⟨b2, k * 3 + 1, none⟩ = some (.int .u64 (s.2 : Int)) := fun u hu => by
        have g1 := r1 0 (.int .u64 (s.1 : Int)) (by rw [hs]; rfl)
        have g2 := r1 1 (.int .u64 (s.2 : Int)) (by rw [hs]; rfl)
        have g3 := r2 0 (.int .u64 (s.1 : Int)) (by rw [← hs2]; rfl)
        have g4 := r2 1 (.int .u64 (s.2 : Int)) (by rw [← hs2]; rfl)
        exact ⟨(hu.cell (World.block_lt_of_cell? _ _ g1)).trans g1, (hu.cell (World.block_lt_of_cell? _ _ g2)).trans g2, (hu.cell (World.block_lt_of_cell? _ _ g3)).trans g3, (hu.cell (World.block_lt_of_cell? _ _ g4)).trans g4⟩
      obtain ⟨s1, s2⟩ := s
      have hq1 : ((s1 : Int) != (s1 : Int)) = false := by simp
      have hq2 : ((s2 : Int) != (s2 : Int)) = false := by simp
      have HBW : Hid _ := hbw
      clear r1 r2 hs hs2 hk1 hk2
      go_wp2_with fail
      refine wp_region_noPanic ?_
      refine wp_region_held_drew (S := (fun u => Below w2.heap.size w2 u)) (by kernel_rfl) (by first | exact hbw.drew | assumption) (fun hHeld => ?_)
      refine take_at (i := 0) 46 (v := ?_) rfl rfl (by kernel_rfl) (by kernel_rfl) (by kernel_rfl) (fun _ _ _ h => h) (by rfl) ?_ hHeld ?_
      rotate_left
      · (intro w hSw; (try dsimp only at hSw); go_simp; try with_reducible rfl)
      simp only [Act.put, List.setIfInBounds_toArray, List.set_cons_zero, List.set_cons_succ]
      refine take_at (i := 1) 47 (v := ?_) rfl rfl (by kernel_rfl) (by kernel_rfl) (by kernel_rfl) (fun _ _ _ h => h) (by rfl) ?_ hHeld ?_
      rotate_left
      · (intro w hSw; (try dsimp only at hSw); go_simp; try with_reducible rfl)
      simp only [Act.put, List.setIfInBounds_toArray, List.set_cons_zero, List.set_cons_succ]
      refine take_at (i := 2) 48 (v := ?_) rfl rfl (by kernel_rfl) (by kernel_rfl) (by kernel_rfl) (fun _ _ _ h => h) (by rfl) ?_ hHeld ?_
      rotate_left
      · (intro w hSw; (try dsimp only at hSw); go_simp; try with_reducible rfl)
      simp only [Act.put, List.setIfInBounds_toArray, List.set_cons_zero, List.set_cons_succ]
      refine take_at (i := 3) 49 (v := ?_) rfl rfl (by kernel_rfl) (by kernel_rfl) (by kernel_rfl) (fun _ _ _ h => h) (by rfl) ?_ hHeld ?_
      rotate_left
      · (intro w hSw; (try dsimp only at hSw); go_simp; try with_reducible rfl)
      simp only [Act.put, List.setIfInBounds_toArray, List.set_cons_zero, List.set_cons_succ]
      refine take_at (i := 4) 50 (v := ?_) rfl rfl (by kernel_rfl) (by kernel_rfl) (by kernel_rfl) (fun _ _ _ h => h) (by rfl) ?_ hHeld ?_
      rotate_left
      · (intro w hSw; (try dsimp only at hSw); go_simp; try with_reducible rfl)
      simp only [Act.put, List.setIfInBounds_toArray, List.set_cons_zero, List.set_cons_succ]
      refine take_at (i := 5) 51 (v := ?_) rfl rfl (by kernel_rfl) (by kernel_rfl) (by kernel_rfl) (fun _ _ _ h => h) (by rfl) ?_ hHeld ?_
      rotate_left
      · (intro w hSw; (try dsimp only at hSw); go_simp; try with_reducible rfl)
      simp only [Act.put, List.setIfInBounds_toArray, List.set_cons_zero, List.set_cons_succ]
      refine take_at (i := 6) 52 (v := ?_) rfl rfl (by kernel_rfl) (by kernel_rfl) (by kernel_rfl) (fun _ _ _ h => h) (by rfl) ?_ hHeld ?_
      rotate_left
      · (intro w hSw; (try dsimp only at hSw); go_simp; try with_reducible rfl)
      simp only [Act.put, List.setIfInBounds_toArray, List.set_cons_zero, List.set_cons_succ]
      refine take_at (i := 7) 53 (v := ?_) rfl rfl (by kernel_rfl) (by kernel_rfl) (by kernel_rfl) (fun _ _ _ h => h) (by rfl) ?_ hHeld ?_
      rotate_left
      · (intro w hSw; (try dsimp only at hSw); go_simp; try with_reducible rfl)
      simp only [Act.put, List.setIfInBounds_toArray, List.set_cons_zero, List.set_cons_succ]
      refine take_at (i := 8) 54 (v := ?_) rfl rfl (by kernel_rfl) (by kernel_rfl) (by kernel_rfl) (fun _ _ _ h => h) (by rfl) ?_ hHeld ?_
      rotate_left
      · (intro w hSw; (try dsimp only at hSw); go_simp; try with_reducible rfl)
      simp only [Act.put, List.setIfInBounds_toArray, List.set_cons_zero, List.set_cons_succ]
      refine take_at (i := 9) 55 (v := ?_) rfl rfl (by kernel_rfl) (by kernel_rfl) (by kernel_rfl) (fun _ _ _ h => h) (by rfl) ?_ hHeld ?_
      rotate_left
      · (intro w hSw; (try dsimp only at hSw); go_simp; try with_reducible rfl)
      simp only [Act.put, List.setIfInBounds_toArray, List.set_cons_zero, List.set_cons_succ]
      refine take_at (i := 10) 56 (v := ?_) rfl rfl (by kernel_rfl) (by kernel_rfl) (by kernel_rfl) (fun _ _ _ h => h) (by rfl) ?_ hHeld ?_
      rotate_left
      · (intro w hSw; (try dsimp only at hSw); go_simp; try with_reducible rfl)
      simp only [Act.put, List.setIfInBounds_toArray, List.set_cons_zero, List.set_cons_succ]
      refine take_at (i := 11) 57 (v := ?_) rfl rfl (by kernel_rfl) (by kernel_rfl) (by kernel_rfl) (fun _ _ _ h => h) (by rfl) ?_ hHeld ?_
      rotate_left
      · (intro w hSw; (try dsimp only at hSw); go_simp; try with_reducible rfl)
      simp only [Act.put, List.setIfInBounds_toArray, List.set_cons_zero, List.set_cons_succ]
      refine take_at (i := 12) 58 (v := ?_) rfl rfl (by kernel_rfl) (by kernel_rfl) (by kernel_rfl) (fun _ _ _ h => h) (by rfl) ?_ hHeld ?_
      rotate_left
      · (intro w hSw; (try dsimp only at hSw); go_simp; try with_reducible rfl)
      simp only [Act.put, List.setIfInBounds_toArray, List.set_cons_zero, List.set_cons_succ]
      refine take_at (i := 13) 59 (v := ?_) rfl rfl (by kernel_rfl) (by kernel_rfl) (by kernel_rfl) (fun _ _ _ h => h) (by rfl) ?_ hHeld ?_
      rotate_left
      · (intro w hSw; (try dsimp only at hSw); go_simp; try with_reducible rfl)
      simp only [Act.put, List.setIfInBounds_toArray, List.set_cons_zero, List.set_cons_succ]
      refine take_at (i := 14) 60 (v := ?_) rfl rfl (by kernel_rfl) (by kernel_rfl) (by kernel_rfl) (fun _ _ _ h => h) (by rfl) ?_ hHeld ?_
      rotate_left
      · (intro w hSw; (try dsimp only at hSw); go_simp; try with_reducible rfl)
      simp only [Act.put, List.setIfInBounds_toArray, List.set_cons_zero, List.set_cons_succ]
      refine take_at (i := 15) 61 (v := ?_) rfl rfl (by kernel_rfl) (by kernel_rfl) (by kernel_rfl) (fun _ _ _ h => h) (by rfl) ?_ hHeld ?_
      rotate_left
      · (intro w hSw; (try dsimp only at hSw); go_simp; try with_reducible rfl)
      simp only [Act.put, List.setIfInBounds_toArray, List.set_cons_zero, List.set_cons_succ]
      refine take_at (i := 16) 62 (v := ?_) rfl rfl (by kernel_rfl) (by kernel_rfl) (by kernel_rfl) (fun _ _ _ h => h) (by rfl) ?_ hHeld ?_
      rotate_left
      · (intro w hSw; (try dsimp only at hSw); go_simp; try with_reducible rfl)
      simp only [Act.put, List.setIfInBounds_toArray, List.set_cons_zero, List.set_cons_succ]
      refine take_at (i := 17) 63 (v := ?_) rfl rfl (by kernel_rfl) (by kernel_rfl) (by kernel_rfl) (fun _ _ _ h => h) (by rfl) ?_ hHeld ?_
      rotate_left
      · (intro w hSw; (try dsimp only at hSw); go_simp; try with_reducible rfl)
      simp only [Act.put, List.setIfInBounds_toArray, List.set_cons_zero, List.set_cons_succ]
      refine take_at (i := 18) 64 (v := ?_) rfl rfl (by kernel_rfl) (by kernel_rfl) (by kernel_rfl) (fun _ _ _ h => h) (by rfl) ?_ hHeld ?_
      rotate_left
      · (intro w hSw; (try dsimp only at hSw); go_simp; try with_reducible rfl)
      simp only [Act.put, List.setIfInBounds_toArray, List.set_cons_zero, List.set_cons_succ]
      refine take_at (i := 19) 65 (v := ?_) rfl rfl (by kernel_rfl) (by kernel_rfl) (by kernel_rfl) (fun _ _ _ h => h) (by rfl) ?_ hHeld ?_
      rotate_left
      · (intro w hSw; (try dsimp only at hSw); go_simp; try with_reducible rfl)
      simp only [Act.put, List.setIfInBounds_toArray, List.set_cons_zero, List.set_cons_succ]
      refine take_at (i := 20) 66 (v := ?_) rfl rfl (by kernel_rfl) (by kernel_rfl) (by kernel_rfl) (fun _ _ _ h => h) (by rfl) ?_ hHeld ?_
      rotate_left
      · (intro w hSw; (try dsimp only at hSw); go_simp; try with_reducible rfl)
      simp only [Act.put, List.setIfInBounds_toArray, List.set_cons_zero, List.set_cons_succ]
      refine take_at (i := 21) 67 (v := ?_) rfl rfl (by kernel_rfl) (by kernel_rfl) (by kernel_rfl) (fun _ _ _ h => h) (by rfl) ?_ hHeld ?_
      rotate_left
      · (intro w hSw; (try dsimp only at hSw); go_simp; try with_reducible rfl)
      simp only [Act.put, List.setIfInBounds_toArray, List.set_cons_zero, List.set_cons_succ]
      refine take_at (i := 22) 68 (v := ?_) rfl rfl (by kernel_rfl) (by kernel_rfl) (by kernel_rfl) (fun _ _ _ h => h) (by rfl) ?_ hHeld ?_
      rotate_left
      · (intro w hSw; (try dsimp only at hSw); go_simp; try with_reducible rfl)
      simp only [Act.put, List.setIfInBounds_toArray, List.set_cons_zero, List.set_cons_succ]
      refine take_at (i := 23) 69 (v := ?_) rfl rfl (by kernel_rfl) (by kernel_rfl) (by kernel_rfl) (fun _ _ _ h => h) (by rfl) ?_ hHeld ?_
      rotate_left
      · (intro w hSw; (try dsimp only at hSw); go_simp; try with_reducible rfl)
      simp only [Act.put, List.setIfInBounds_toArray, List.set_cons_zero, List.set_cons_succ]
      refine take_at (i := 24) 70 (v := ?_) rfl rfl (by kernel_rfl) (by kernel_rfl) (by kernel_rfl) (fun _ _ _ h => h) (by rfl) ?_ hHeld ?_
      rotate_left
      · (intro w hSw; (try dsimp only at hSw); go_simp; try with_reducible rfl)
      simp only [Act.put, List.setIfInBounds_toArray, List.set_cons_zero, List.set_cons_succ]
      refine take_at (i := 25) 71 (v := ?_) rfl rfl (by kernel_rfl) (by kernel_rfl) (by kernel_rfl) (fun _ _ _ h => h) (by rfl) ?_ hHeld ?_
      rotate_left
      · (intro w hSw; (try dsimp only at hSw); go_simp; try with_reducible rfl)
      simp only [Act.put, List.setIfInBounds_toArray, List.set_cons_zero, List.set_cons_succ]
      refine take_at (i := 26) 72 (v := ?_) rfl rfl (by kernel_rfl) (by kernel_rfl) (by kernel_rfl) (fun _ _ _ h => h) (by rfl) ?_ hHeld ?_
      rotate_left
      · (intro w hSw; (try dsimp only at hSw); go_simp; try with_reducible rfl)
      simp only [Act.put, List.setIfInBounds_toArray, List.set_cons_zero, List.set_cons_succ]
      refine take_at (i := 27) 73 (v := ?_) rfl rfl (by kernel_rfl) (by kernel_rfl) (by kernel_rfl) (fun _ _ _ h => h) (by rfl) ?_ hHeld ?_
      rotate_left
      · (intro w hSw; (try dsimp only at hSw); go_simp; try with_reducible rfl)
      simp only [Act.put, List.setIfInBounds_toArray, List.set_cons_zero, List.set_cons_succ]
      refine take_at (i := 28) 74 (v := ?_) rfl rfl (by kernel_rfl) (by kernel_rfl) (by kernel_rfl) (fun _ _ _ h => h) (by rfl) ?_ hHeld ?_
      rotate_left
      · (intro w hSw; (try dsimp only at hSw); go_simp; try with_reducible rfl)
      simp only [Act.put, List.setIfInBounds_toArray, List.set_cons_zero, List.set_cons_succ]
      refine take_at (i := 29) 75 (v := ?_) rfl rfl (by kernel_rfl) (by kernel_rfl) (by kernel_rfl) (fun _ _ _ h => h) (by rfl) ?_ hHeld ?_
      rotate_left
      · (intro w hSw; (try dsimp only at hSw); go_simp; try with_reducible rfl)
      simp only [Act.put, List.setIfInBounds_toArray, List.set_cons_zero, List.set_cons_succ]
      refine take_at (i := 30) 76 (v := ?_) rfl rfl (by kernel_rfl) (by kernel_rfl) (by kernel_rfl) (fun _ _ _ h => h) (by rfl) ?_ hHeld ?_
      rotate_left
      · (intro w hSw; (try dsimp only at hSw); go_simp; try with_reducible rfl)
      simp only [Act.put, List.setIfInBounds_toArray, List.set_cons_zero, List.set_cons_succ]
      refine take_at (i := 31) 77 (v := ?_) rfl rfl (by kernel_rfl) (by kernel_rfl) (by kernel_rfl) (fun _ _ _ h => h) (by rfl) ?_ hHeld ?_
      rotate_left
      · (intro w hSw; (try dsimp only at hSw); go_simp; try with_reducible rfl)
      simp only [Act.put, List.setIfInBounds_toArray, List.set_cons_zero, List.set_cons_succ]
      refine wpAnyH_done (by kernel_rfl) ?_ _
      refine NoPanic.normal ?_
      go_wp2
      go_roundw
      case rel => exact ⟨k + 1, by omega, by go_num, HBW.out.drew⟩
      case measure => simp [intOf]; omega
    · have hlti : ¬ (k : Int) < (on : Int) := by omega
      have HBW : Hid _ := hbw
      clear hbw
      go_wp2
      go_loopw [8] (fun j wr => ∃ k : Nat, k ≤ sn ∧ j = .int .i64 (k : Int) ∧ Below w2.heap.size w2 wr) (fun j _ => sn - (intOf j).toNat)
      case atStart => exact ⟨0, Nat.zero_le _, rfl, HBW.out⟩
      case round =>
        obtain ⟨k, hk, rfl, hbw⟩ := hrel
        have hkw : IntKind.i64.wrap ((k : Int) + 1) = ((k + 1 : Nat) : Int) := by rw [IntKind.wrap_i64]; omega
        by_cases hlt : k < sn
        · have hlti : (k : Int) < (sn : Int) := by omega
          have hk0 : (0 : Int) ≤ (k : Int) := by omega
          have hk1 : k < (ks I.H).length := by rw [HSN.out]; exact hlt
          obtain ⟨b1, e1, r1⟩ := rdG_at HV2.out k hk1
          have hk2 : k < I.H.length := by have := HSN.out; rw [len_ks] at this; omega
          obtain ⟨b2, e2, r2⟩ := rdG_at (Rib.rs (Rib.below HR.out HB2.out)) k hk2
          subst e1 e2
          obtain ⟨s, hs⟩ : ∃ s : Ss, s = (ks I.H)[k] := ⟨_, rfl⟩
          have hs2 : (I.H[k]).1 = s := by rw [hs]; simp [ks]
          have hbl : ∀ u, Below w2.heap.size w2 u → u.cell? ⟨b1, k * 2, none⟩ = some (.int .u64 (s.1 : Int)) ∧ u.cell? ⟨b1, k * 2 + 1, none⟩ = some (.int .u64 (s.2 : Int)) ∧ u.cell? ⟨b2, k * 3, none⟩ = some (.int .u64 (s.1 : Int)) ∧ u.cell? ⟨b2, k * 3 + 1, none⟩ = some (.int .u64 (s.2 : Int)) := fun u hu => by
            have g1 := r1 0 (.int .u64 (s.1 : Int)) (by rw [hs]; rfl)
            have g2 := r1 1 (.int .u64 (s.2 : Int)) (by rw [hs]; rfl)
            have g3 := r2 0 (.int .u64 (s.1 : Int)) (by rw [← hs2]; rfl)
            have g4 := r2 1 (.int .u64 (s.2 : Int)) (by rw [← hs2]; rfl)
            exact ⟨(hu.cell (World.block_lt_of_cell? _ _ g1)).trans g1, (hu.cell (World.block_lt_of_cell? _ _ g2)).trans g2, (hu.cell (World.block_lt_of_cell? _ _ g3)).trans g3, (hu.cell (World.block_lt_of_cell? _ _ g4)).trans g4⟩
          obtain ⟨s1, s2⟩ := s
          have hq1 : ((s1 : Int) != (s1 : Int)) = false := by simp
          have hq2 : ((s2 : Int) != (s2 : Int)) = false := by simp
          have HBW : Hid _ := hbw
          clear r1 r2 hs hs2 hk1 hk2
          go_wp2_with fail
          refine wp_region_noPanic ?_
          refine wp_region_held_drew (S := (fun u => Below w2.heap.size w2 u)) (by kernel_rfl) (by first | exact hbw.drew | assumption) (fun hHeld => ?_)
          refine take_at (i := 0) 84 (v := ?_) rfl rfl (by kernel_rfl) (by kernel_rfl) (by kernel_rfl) (fun _ _ _ h => h) (by rfl) ?_ hHeld ?_
          rotate_left
          · (intro w hSw; (try dsimp only at hSw); go_simp; try with_reducible rfl)
          simp only [Act.put, List.setIfInBounds_toArray, List.set_cons_zero, List.set_cons_succ]
          refine take_at (i := 1) 85 (v := ?_) rfl rfl (by kernel_rfl) (by kernel_rfl) (by kernel_rfl) (fun _ _ _ h => h) (by rfl) ?_ hHeld ?_
          rotate_left
          · (intro w hSw; (try dsimp only at hSw); go_simp; try with_reducible rfl)
          simp only [Act.put, List.setIfInBounds_toArray, List.set_cons_zero, List.set_cons_succ]
          refine take_at (i := 2) 86 (v := ?_) rfl rfl (by kernel_rfl) (by kernel_rfl) (by kernel_rfl) (fun _ _ _ h => h) (by rfl) ?_ hHeld ?_
          rotate_left
          · (intro w hSw; (try dsimp only at hSw); go_simp; try with_reducible rfl)
          simp only [Act.put, List.setIfInBounds_toArray, List.set_cons_zero, List.set_cons_succ]
          refine take_at (i := 3) 87 (v := ?_) rfl rfl (by kernel_rfl) (by kernel_rfl) (by kernel_rfl) (fun _ _ _ h => h) (by rfl) ?_ hHeld ?_
          rotate_left
          · (intro w hSw; (try dsimp only at hSw); go_simp; try with_reducible rfl)
          simp only [Act.put, List.setIfInBounds_toArray, List.set_cons_zero, List.set_cons_succ]
          refine take_at (i := 4) 88 (v := ?_) rfl rfl (by kernel_rfl) (by kernel_rfl) (by kernel_rfl) (fun _ _ _ h => h) (by rfl) ?_ hHeld ?_
          rotate_left
          · (intro w hSw; (try dsimp only at hSw); go_simp; try with_reducible rfl)
          simp only [Act.put, List.setIfInBounds_toArray, List.set_cons_zero, List.set_cons_succ]
          refine take_at (i := 5) 89 (v := ?_) rfl rfl (by kernel_rfl) (by kernel_rfl) (by kernel_rfl) (fun _ _ _ h => h) (by rfl) ?_ hHeld ?_
          rotate_left
          · (intro w hSw; (try dsimp only at hSw); go_simp; try with_reducible rfl)
          simp only [Act.put, List.setIfInBounds_toArray, List.set_cons_zero, List.set_cons_succ]
          refine take_at (i := 6) 90 (v := ?_) rfl rfl (by kernel_rfl) (by kernel_rfl) (by kernel_rfl) (fun _ _ _ h => h) (by rfl) ?_ hHeld ?_
          rotate_left
          · (intro w hSw; (try dsimp only at hSw); go_simp; try with_reducible rfl)
          simp only [Act.put, List.setIfInBounds_toArray, List.set_cons_zero, List.set_cons_succ]
          refine take_at (i := 7) 91 (v := ?_) rfl rfl (by kernel_rfl) (by kernel_rfl) (by kernel_rfl) (fun _ _ _ h => h) (by rfl) ?_ hHeld ?_
          rotate_left
          · (intro w hSw; (try dsimp only at hSw); go_simp; try with_reducible rfl)
          simp only [Act.put, List.setIfInBounds_toArray, List.set_cons_zero, List.set_cons_succ]
          refine take_at (i := 8) 92 (v := ?_) rfl rfl (by kernel_rfl) (by kernel_rfl) (by kernel_rfl) (fun _ _ _ h => h) (by rfl) ?_ hHeld ?_
          rotate_left
          · (intro w hSw; (try dsimp only at hSw); go_simp; try with_reducible rfl)
          simp only [Act.put, List.setIfInBounds_toArray, List.set_cons_zero, List.set_cons_succ]
          refine take_at (i := 9) 93 (v := ?_) rfl rfl (by kernel_rfl) (by kernel_rfl) (by kernel_rfl) (fun _ _ _ h => h) (by rfl) ?_ hHeld ?_
          rotate_left
          · (intro w hSw; (try dsimp only at hSw); go_simp; try with_reducible rfl)
          simp only [Act.put, List.setIfInBounds_toArray, List.set_cons_zero, List.set_cons_succ]
          refine take_at (i := 10) 94 (v := ?_) rfl rfl (by kernel_rfl) (by kernel_rfl) (by kernel_rfl) (fun _ _ _ h => h) (by rfl) ?_ hHeld ?_
          rotate_left
          · (intro w hSw; (try dsimp only at hSw); go_simp; try with_reducible rfl)
          simp only [Act.put, List.setIfInBounds_toArray, List.set_cons_zero, List.set_cons_succ]
          refine take_at (i := 11) 95 (v := ?_) rfl rfl (by kernel_rfl) (by kernel_rfl) (by kernel_rfl) (fun _ _ _ h => h) (by rfl) ?_ hHeld ?_
          rotate_left
          · (intro w hSw; (try dsimp only at hSw); go_simp; try with_reducible rfl)
          simp only [Act.put, List.setIfInBounds_toArray, List.set_cons_zero, List.set_cons_succ]
          refine take_at (i := 12) 96 (v := ?_) rfl rfl (by kernel_rfl) (by kernel_rfl) (by kernel_rfl) (fun _ _ _ h => h) (by rfl) ?_ hHeld ?_
          rotate_left
          · (intro w hSw; (try dsimp only at hSw); go_simp; try with_reducible rfl)
          simp only [Act.put, List.setIfInBounds_toArray, List.set_cons_zero, List.set_cons_succ]
          refine take_at (i := 13) 97 (v := ?_) rfl rfl (by kernel_rfl) (by kernel_rfl) (by kernel_rfl) (fun _ _ _ h => h) (by rfl) ?_ hHeld ?_
          rotate_left
          · (intro w hSw; (try dsimp only at hSw); go_simp; try with_reducible rfl)
          simp only [Act.put, List.setIfInBounds_toArray, List.set_cons_zero, List.set_cons_succ]
          refine take_at (i := 14) 98 (v := ?_) rfl rfl (by kernel_rfl) (by kernel_rfl) (by kernel_rfl) (fun _ _ _ h => h) (by rfl) ?_ hHeld ?_
          rotate_left
          · (intro w hSw; (try dsimp only at hSw); go_simp; try with_reducible rfl)
          simp only [Act.put, List.setIfInBounds_toArray, List.set_cons_zero, List.set_cons_succ]
          refine take_at (i := 15) 99 (v := ?_) rfl rfl (by kernel_rfl) (by kernel_rfl) (by kernel_rfl) (fun _ _ _ h => h) (by rfl) ?_ hHeld ?_
          rotate_left
          · (intro w hSw; (try dsimp only at hSw); go_simp; try with_reducible rfl)
          simp only [Act.put, List.setIfInBounds_toArray, List.set_cons_zero, List.set_cons_succ]
          refine take_at (i := 16) 100 (v := ?_) rfl rfl (by kernel_rfl) (by kernel_rfl) (by kernel_rfl) (fun _ _ _ h => h) (by rfl) ?_ hHeld ?_
          rotate_left
          · (intro w hSw; (try dsimp only at hSw); go_simp; try with_reducible rfl)
          simp only [Act.put, List.setIfInBounds_toArray, List.set_cons_zero, List.set_cons_succ]
          refine take_at (i := 17) 101 (v := ?_) rfl rfl (by kernel_rfl) (by kernel_rfl) (by kernel_rfl) (fun _ _ _ h => h) (by rfl) ?_ hHeld ?_
          rotate_left
          · (intro w hSw; (try dsimp only at hSw); go_simp; try with_reducible rfl)
          simp only [Act.put, List.setIfInBounds_toArray, List.set_cons_zero, List.set_cons_succ]
          refine take_at (i := 18) 102 (v := ?_) rfl rfl (by kernel_rfl) (by kernel_rfl) (by kernel_rfl) (fun _ _ _ h => h) (by rfl) ?_ hHeld ?_
          rotate_left
          · (intro w hSw; (try dsimp only at hSw); go_simp; try with_reducible rfl)
          simp only [Act.put, List.setIfInBounds_toArray, List.set_cons_zero, List.set_cons_succ]
          refine take_at (i := 19) 103 (v := ?_) rfl rfl (by kernel_rfl) (by kernel_rfl) (by kernel_rfl) (fun _ _ _ h => h) (by rfl) ?_ hHeld ?_
          rotate_left
          · (intro w hSw; (try dsimp only at hSw); go_simp; try with_reducible rfl)
          simp only [Act.put, List.setIfInBounds_toArray, List.set_cons_zero, List.set_cons_succ]
          refine take_at (i := 20) 104 (v := ?_) rfl rfl (by kernel_rfl) (by kernel_rfl) (by kernel_rfl) (fun _ _ _ h => h) (by rfl) ?_ hHeld ?_
          rotate_left
          · (intro w hSw; (try dsimp only at hSw); go_simp; try with_reducible rfl)
          simp only [Act.put, List.setIfInBounds_toArray, List.set_cons_zero, List.set_cons_succ]
          refine take_at (i := 21) 105 (v := ?_) rfl rfl (by kernel_rfl) (by kernel_rfl) (by kernel_rfl) (fun _ _ _ h => h) (by rfl) ?_ hHeld ?_
          rotate_left
          · (intro w hSw; (try dsimp only at hSw); go_simp; try with_reducible rfl)
          simp only [Act.put, List.setIfInBounds_toArray, List.set_cons_zero, List.set_cons_succ]
          refine take_at (i := 22) 106 (v := ?_) rfl rfl (by kernel_rfl) (by kernel_rfl) (by kernel_rfl) (fun _ _ _ h => h) (by rfl) ?_ hHeld ?_
          rotate_left
          · (intro w hSw; (try dsimp only at hSw); go_simp; try with_reducible rfl)
          simp only [Act.put, List.setIfInBounds_toArray, List.set_cons_zero, List.set_cons_succ]
          refine take_at (i := 23) 107 (v := ?_) rfl rfl (by kernel_rfl) (by kernel_rfl) (by kernel_rfl) (fun _ _ _ h => h) (by rfl) ?_ hHeld ?_
          rotate_left
          · (intro w hSw; (try dsimp only at hSw); go_simp; try with_reducible rfl)
          simp only [Act.put, List.setIfInBounds_toArray, List.set_cons_zero, List.set_cons_succ]
          refine take_at (i := 24) 108 (v := ?_) rfl rfl (by kernel_rfl) (by kernel_rfl) (by kernel_rfl) (fun _ _ _ h => h) (by rfl) ?_ hHeld ?_
          rotate_left
          · (intro w hSw; (try dsimp only at hSw); go_simp; try with_reducible rfl)
          simp only [Act.put, List.setIfInBounds_toArray, List.set_cons_zero, List.set_cons_succ]
          refine take_at (i := 25) 109 (v := ?_) rfl rfl (by kernel_rfl) (by kernel_rfl) (by kernel_rfl) (fun _ _ _ h => h) (by rfl) ?_ hHeld ?_
          rotate_left
          · (intro w hSw; (try dsimp only at hSw); go_simp; try with_reducible rfl)
          simp only [Act.put, List.setIfInBounds_toArray, List.set_cons_zero, List.set_cons_succ]
          refine take_at (i := 26) 110 (v := ?_) rfl rfl (by kernel_rfl) (by kernel_rfl) (by kernel_rfl) (fun _ _ _ h => h) (by rfl) ?_ hHeld ?_
          rotate_left
          · (intro w hSw; (try dsimp only at hSw); go_simp; try with_reducible rfl)
          simp only [Act.put, List.setIfInBounds_toArray, List.set_cons_zero, List.set_cons_succ]
          refine take_at (i := 27) 111 (v := ?_) rfl rfl (by kernel_rfl) (by kernel_rfl) (by kernel_rfl) (fun _ _ _ h => h) (by rfl) ?_ hHeld ?_
          rotate_left
          · (intro w hSw; (try dsimp only at hSw); go_simp; try with_reducible rfl)
          simp only [Act.put, List.setIfInBounds_toArray, List.set_cons_zero, List.set_cons_succ]
          refine take_at (i := 28) 112 (v := ?_) rfl rfl (by kernel_rfl) (by kernel_rfl) (by kernel_rfl) (fun _ _ _ h => h) (by rfl) ?_ hHeld ?_
          rotate_left
          · (intro w hSw; (try dsimp only at hSw); go_simp; try with_reducible rfl)
          simp only [Act.put, List.setIfInBounds_toArray, List.set_cons_zero, List.set_cons_succ]
          refine take_at (i := 29) 113 (v := ?_) rfl rfl (by kernel_rfl) (by kernel_rfl) (by kernel_rfl) (fun _ _ _ h => h) (by rfl) ?_ hHeld ?_
          rotate_left
          · (intro w hSw; (try dsimp only at hSw); go_simp; try with_reducible rfl)
          simp only [Act.put, List.setIfInBounds_toArray, List.set_cons_zero, List.set_cons_succ]
          refine take_at (i := 30) 114 (v := ?_) rfl rfl (by kernel_rfl) (by kernel_rfl) (by kernel_rfl) (fun _ _ _ h => h) (by rfl) ?_ hHeld ?_
          rotate_left
          · (intro w hSw; (try dsimp only at hSw); go_simp; try with_reducible rfl)
          simp only [Act.put, List.setIfInBounds_toArray, List.set_cons_zero, List.set_cons_succ]
          refine take_at (i := 31) 115 (v := ?_) rfl rfl (by kernel_rfl) (by kernel_rfl) (by kernel_rfl) (fun _ _ _ h => h) (by rfl) ?_ hHeld ?_
          rotate_left
          · (intro w hSw; (try dsimp only at hSw); go_simp; try with_reducible rfl)
          simp only [Act.put, List.setIfInBounds_toArray, List.set_cons_zero, List.set_cons_succ]
          refine wpAnyH_done (by kernel_rfl) ?_ _
          refine NoPanic.normal ?_
          go_wp2
          go_roundw
          case rel => exact ⟨k + 1, by omega, by go_num, HBW.out.drew⟩
          case measure => simp [intOf]; omega
        · have hlti : ¬ (k : Int) < (sn : Int) := by omega
          have HBW : Hid _ := hbw
          clear hbw
          go_wp2
          go_ret
          exact ⟨rfl, below_next HB2.out HBW.out⟩
end
end Go.Proofs.YtdoikcolkbjnfaaGreat
namespace Go.Proofs.YtdoikcolkbjnfaaGreat
set_option linter.unusedVariables false
set_option linter.unusedSimpArgs false
open Go.RowKit Go.Maps
def valN (a b : Int) : Prop := (1 ≤ a ∧ a ≤ 64) ∧ (1 ≤ b ∧ b ≤ 4096)
section
set_option maxRecDepth 20000
set_option maxHeartbeats 3200000
theorem both_no (a b : Int) (h : ¬ valN a b) (w : World) : Calls Tryz.prog 18 #[.int .i64 a, .int .i64 b] w fun e w' => e = .returned (.tuple #[.pointer none, .pointer none, .bool true]) ∧ w' = w := by
  have H1 : Hid (Calls _ _ _ w _) := inew_no a b h w
  have H2 : Hid (Calls _ _ _ w _) := rnew_no13 a b h w
  clear h
  go_enter Tryz.func18, Tryz.ntmps18
  go_wp2_with (first | (go_at_call 11; refine Calls.mono H1.out ?_; rintro e w' ⟨rfl, hq⟩; have hq := hq.symm; subst hq) | (go_at_call 42; refine Calls.mono H2.out ?_; rintro e w' ⟨rfl, hq⟩; have hq := hq.symm; subst hq))
  refine bodyPost_ret (results_tmp3 rfl _ _ _) rfl ?_
  exact ⟨rfl, rfl⟩
theorem both_t (a b : Int) (h : valN a b) (w : World) : Calls Tryz.prog 18 #[.int .i64 a, .int .i64 b] w fun e w' => ∃ p q F, e = .returned (.tuple #[.pointer (some ⟨p, 0, none⟩), .pointer (some ⟨q, 0, none⟩), .bool true]) ∧ IbA w' p 0 (newI a.toNat b.toNat) F ∧ Rib none w' q none 0 0 none 0 0 (newI a.toNat b.toNat) [] ∧ (∀ b, F b → w.heap.size ≤ b ∧ b < q) ∧ w.heap.size ≤ q ∧ Below w.heap.size w w' := by
  obtain ⟨⟨h1, h2⟩, h3, h4⟩ := h
  obtain ⟨a, rfl⟩ : ∃ n : Nat, a = (n : Int) := ⟨a.toNat, by omega⟩
  obtain ⟨b, rfl⟩ : ∃ n : Nat, b = (n : Int) := ⟨b.toNat, by omega⟩
  have H1 : Hid (Calls _ _ _ w _) := new_a a b (by omega) (by omega) (by omega) (by omega) w
  have H2 : Hid (∀ u : World, Calls _ _ _ u _) := fun u => rnew_t13 a b (by omega) (by omega) (by omega) (by omega) u
  go_enter Tryz.func18, Tryz.ntmps18
  go_wp2_with fail
  refine Calls.mono H1.out ?_
  rintro e w1 ⟨p, F, rfl, hI, hF, hb1⟩
  have HI : Hid _ := hI
  have HF : Hid _ := hF
  have HB1 : Hid _ := hb1
  clear hI hF hb1
  go_wp2_with fail
  refine Calls.mono (H2.out _) ?_
  rintro e w2 ⟨q, rfl, hR, hq, hb2⟩
  have HR : Hid _ := hR
  have HQ : Hid _ := hq
  have HB2 : Hid _ := hb2
  clear hR hq hb2
  go_wp2
  refine bodyPost_ret (results_tmp3 rfl _ _ _) rfl ?_
  exact ⟨p, q, F, rfl, HI.out.below HB2.out, HR.out, fun b hb => ⟨HF.out b hb, Nat.lt_of_lt_of_le (HI.out.lt b hb) HQ.out⟩, Nat.le_trans HB1.out.size HQ.out, below_next HB1.out HB2.out⟩
end
end Go.Proofs.YtdoikcolkbjnfaaGreat
namespace Go.Proofs.YtdoikcolkbjnfaaGreat
set_option linter.unusedVariables false
set_option linter.unusedSimpArgs false
open Go.RowKit Go.Maps
theorem wp_appR1L {w : World} {ops : Array Oper} {rest : List Oper} {o : Oper} {a : Act} {Q : Exit → Act → World → Prop} (hgd : o.guard = none) (s x : Operand)
    (ho : o.op = .call { callee := .builtin .append, args := #[s, x], argTypes := #[39, 39] }) (B : Nat) (v : Value) (xs : List Rg) (n : Nat) (hn : n = xs.length) (y : Rg) (g : Nat)
    (hs : a.eval s = v) (hown : OwnR w B v xs) (hx : a.eval x = .slice (some ⟨g, 0, none⟩) 1 1) (hg : w.heap[g]? = some (.cells #[.int .i64 y.1, .int .i64 y.2] 71 (0, 0))) (hb : n ≤ 8796093022207) (hbase : B ≤ w.heap.size)
    (h : ∀ g' cap w', OwnR w' B (.slice (some ⟨g', 0, none⟩) (n + 1) cap) (xs ++ [y]) → w.grownBy w' v.ownBlock → (v.ownBlock = some g' ∨ g' = w.heap.size) → wpList Tryz.prog ops Q rest (a.put o.dst (.slice (some ⟨g', 0, none⟩) (n + 1) cap)) w') : wpList Tryz.prog ops Q (o :: rest) a w := by
  subst hn
  obtain ⟨i0, hi, hz0, hz1, hz2⟩ := info_parts infoR
  refine wpList_append_lies w hgd s x 39 ho B 71 i0 _ 2 16 Tryz.underlying39 hi hz0 hz1 hz2 rfl (by decide) v xs.length (flatR xs) hs hown ⟨g, 0, none⟩ 1 1 (rv y) hx rfl (World.news_of_block hg) (by intro u hu; simp at hu; rcases hu with rfl | rfl <;> rfl) (by decide) (by simp only [maxLen]; omega) (by omega) hbase w.heap.size rfl ?_
  intro g' cap w' h1 h2 h3 _
  refine h g' cap w' ?_ h2 h3
  unfold OwnR
  rw [List.length_append, flatR_app, flatR_one]
  exact h1
theorem wp_appRL {w : World} {ops : Array Oper} {rest : List Oper} {o : Oper} {a : Act} {Q : Exit → Act → World → Prop} (hgd : o.guard = none) (s x : Operand)
    (ho : o.op = .call { callee := .builtin .append, args := #[s, x], argTypes := #[39, 39] }) (B : Nat) (v : Value) (xs ys : List Rg) (n : Nat) (ao : Option Addr) (cap : Nat) (hn : n = ys.length)
    (hs : a.eval s = v) (hown : OwnR w B v xs) (hx : a.eval x = .slice ao n cap) (hr : RdR w ao ys) (hnil : ao = none → cap = 0)
    (hb : xs.length + n ≤ 8796093022208) (hbase : B ≤ w.heap.size)
    (h : ∀ v' w', OwnR w' B v' (xs ++ ys) → w.grownBy w' v.ownBlock → wpList Tryz.prog ops Q rest (a.put o.dst v') w') : wpList Tryz.prog ops Q (o :: rest) a w := by
  subst hn
  obtain ⟨i0, hi, hz0, hz1, hz2⟩ := info_parts infoR
  rcases ao with _ | ad
  · have h0 : ys = [] := by
      rcases ys with _ | ⟨y, ys⟩
      · rfl
      · obtain ⟨b, o, h1, _⟩ := hr 0 (by simp); cases h1
    subst h0
    obtain rfl := hnil rfl
    refine wpList_append_own_none hgd s x 39 ho B 71 i0 2 Tryz.underlying39 hi v xs.length (flatR xs) hs hown hx ?_
    exact h v w (by simpa using hown) ⟨rfl, rfl, rfl, Nat.le_refl _, fun _ _ _ => rfl⟩
  · refine wpList_append_own w hgd s x 39 ho B 71 i0 _ 2 16 Tryz.underlying39 hi hz0 hz1 hz2 rfl (by decide) v xs.length (flatR xs) hs hown ad ys.length cap (flatR ys) hx (flatR_len ys) ?_ (flatR_one' ys) (by simp only [maxLen]; omega) (by omega) hbase ?_
    · intro j u hj
      have hlt : j < ys.length * 2 := by
        have := (List.getElem?_eq_some_iff.1 hj).1
        rw [flatR_len] at this
        exact this
      obtain ⟨b, o, h1, h2, h3⟩ := hr (j / 2) (by omega)
      cases h1
      obtain ⟨f1, f2⟩ := flatR_get ys (j / 2) (by omega)
      rw [Go.WideShapes.add_plain]
      by_cases e : j % 2 = 0
      · have ej : j = j / 2 * 2 := by omega
        rw [ej] at hj ⊢
        rw [f1] at hj
        rw [show o + j / 2 * 2 = o + j / 2 * 2 from rfl, h2]
        exact hj
      · have ej : j = j / 2 * 2 + 1 := by omega
        rw [ej] at hj ⊢
        rw [f2] at hj
        rw [← Nat.add_assoc, h3]
        exact hj
    · intro v' w' h1 h2 _
      refine h v' w' ?_ h2
      unfold OwnR
      rw [List.length_append, flatR_app]
      exact h1
theorem own_some {w : World} {B : Nat} {v : Value} {xs : List UInt8} (h : Own w B v xs) (h0 : 0 < xs.length) : ∃ g c, v = .slice (some ⟨g, 0, none⟩) xs.length c ∧ xs.length ≤ c ∧ c ≤ maxLen ∧ B ≤ g ∧ g < w.heap.size := by
  rcases h.2 with ⟨-, h1⟩ | ⟨g, c, cur, e, hB, hg, hnc, hcm, -⟩
  · omega
  · exact ⟨g, c, e, hnc, hcm, hB, (Array.getElem?_eq_some_iff.1 hg).1⟩
/-- a unit that was lent: its lists with marks behind them -/
structure LentAt (B : Nat) (w' : World) (x : UnM) (g c h d : Nat) : Prop where
  bs : Own w' B (.slice (some ⟨g, 0, none⟩) (x.dn + 8) c) (x.u.data ++ marksL)
  rg : OwnR w' B (.slice (some ⟨h, 0, none⟩) (x.gn + 1) d) (x.u.got ++ [(-7, -7)])
  cc : x.dn + 8 ≤ c
  dd : x.gn + 1 ≤ d
  B1 : B ≤ g ∧ g < w'.heap.size
  B2 : B ≤ h ∧ h < w'.heap.size
abbrev lentC (x : UnM) (g c h d : Nat) : Array Value := unC x.u.kind x.u.ep x.u.se x.u.path x.u.idx x.u.cnt (some ⟨g, 0, none⟩) x.dn c x.u.code (some ⟨h, 0, none⟩) x.gn d
section
set_option maxRecDepth 20000
set_option maxHeartbeats 6400000
theorem lent_t (x : UnM) (w : World) (hx : UnOk w x) : Calls Tryz.prog 43 #[.agg x.c] w fun r w' => ∃ g c h d, r = .returned (.agg (lentC x g c h d)) ∧ LentAt (w.heap.size + 2) w' x g c h d ∧ Below w.heap.size w w' := by
  obtain ⟨⟨k, e, se, pa, i, c, xs, cd, l⟩, da, dn, dc, ga, gn, gc⟩ := x
  obtain ⟨hn, hg, hrd, hdl, hdz, hdb, hrg, hgl, hgz, hgb, -, -⟩ := hx
  simp only at hn hg hrd hdl hdz hdb hrg hgl hgz hgb
  obtain ⟨w1, hw1⟩ : ∃ w1, w1 = (w.alloc (.cells (unC k e se pa i c da dn dc cd ga gn gc) tUn)).alloc (.cells (unC 0 0 0 0 0 0 none 0 0 0 none 0 0) tUn) := ⟨_, rfl⟩
  have hb1 : Below w.heap.size w w1 := by rw [hw1]; exact al (al (Below.refl _ _) _) _
  have hz1 : w1.heap.size = w.heap.size + 2 := by rw [hw1]; simp
  have hU1 : w1.heap[w.heap.size]? = some (.cells (unC k e se pa i c da dn dc cd ga gn gc) tUn (0, 0)) := by
    rw [hw1]
    exact ((al (Below.refl _ (w.alloc (.cells (unC k e se pa i c da dn dc cd ga gn gc) tUn))) _).block _ (by simp)).trans (heap_alloc_new _ _)
  have hZ1 : w1.heap[w.heap.size + 1]? = some (.cells (unC 0 0 0 0 0 0 none 0 0 0 none 0 0) tUn (0, 0)) := by
    rw [hw1]
    have h9 := heap_alloc_new (w.alloc (.cells (unC k e se pa i c da dn dc cd ga gn gc) tUn)) (.cells (unC 0 0 0 0 0 0 none 0 0 0 none 0 0) tUn)
    rw [World.size_alloc] at h9
    exact h9
  have HX1 : Hid (Rd w1 da xs) := Rd.below hrd hb1
  have HL0 : Hid (RdR w ga l) := hrg
  have HN : Hid (dn = xs.length) := hn
  have HGN : Hid (gn = l.length) := hg
  have HDZ : Hid (da = none → dc = 0) := hdz
  have HGZ : Hid (ga = none → gc = 0) := hgz
  have hdnb : dn ≤ 140737488351232 := by omega
  have hgnb : gn ≤ 8796093021952 := by omega
  have HB1 : Hid _ := hb1
  have HZ1s : Hid (w1.heap.size = w.heap.size + 2) := hz1
  have HU1 : Hid _ := hU1
  have HZ1 : Hid _ := hZ1
  have HW1 : Hid (w1 = _) := hw1
  obtain ⟨P, hP⟩ : ∃ P, P = w.heap.size := ⟨_, rfl⟩
  have HP : Hid (P = w.heap.size) := hP
  rw [← hP] at HU1 HZ1
  have hu1 := unBox HU1.out
  clear hn hg hrd hdl hdz hdb hrg hgl hgz hgb hb1 hz1 hU1 hZ1 hw1 hP
  go_enter Tryz.func43, Tryz.ntmps43
  go_upto_region 2 with fail
  rw [← HW1.out, ← HP.out]
  go_upto_region 3 with (first | (at_builtin; refine wp_app rfl _ _ rfl w1.heap.size (.slice none 0 0) [] xs _ _ rfl (World.ownsRow_nil _ _ _ _) (by rw [← HN.out]; rfl) HX1.out HDZ.out (by rw [← HN.out]; simp; omega) (Nat.le_refl _) ?_; intro v2 w2 hown2 hg2; have HO2 : Hid (Own w2 w1.heap.size v2 xs) := hown2; have HG2 : Hid _ := hg2; clear hown2 hg2; have HB2 : Hid (Below w1.heap.size w1 w2) := (Below.refl _ w1).grown HG2.out (Nat.le_refl _) (fun k hk => by cases hk)) | (at_builtin; refine wp_app_str rfl _ _ rfl w1.heap.size v2 xs rfl HO2.out rfl (by rw [← HN.out]; omega) HB2.out.size ?_; intro v3 w3 hown3 hg3; obtain ⟨g, c3, hv3, hc3, hcm3, hgB, hgl⟩ := own_some hown3 (by rw [List.length_append]; show 0 < _ + 8; omega); rw [List.length_append, ← HN.out, show marksL.length = 8 from rfl] at hv3 hc3; subst hv3; have HO3 : Hid (Own w3 w1.heap.size (.slice (some ⟨g, 0, none⟩) (dn + 8) c3) (xs ++ marksL)) := hown3; have HG3 : Hid _ := hg3; have hB3 : Below w1.heap.size w1 w3 := HB2.out.grown HG3.out HB2.out.size (fun j hj => (World.ownsRow.lt HO2.out j hj).1); have HB3 : Hid _ := hB3; have HGB : Hid (w1.heap.size ≤ g ∧ g < w3.heap.size) := ⟨hgB, hgl⟩; have HC3 : Hid (dn + 8 ≤ c3) := hc3; have hU3 := (hB3.block P (by have := HZ1s.out; have := HP.out; omega)).trans HU1.out; have HU3 : Hid _ := hU3; have hu3 := unBox hU3; have f36 : w3.frozen? ⟨P, 6, none⟩ = false := (by simp [World.frozen?, hU3]); have hd0 : (0 : Int) ≤ (dn : Int) := (by omega); have hd1 : (dn : Int) ≤ (c3 : Int) := (by omega); have hd2 : dn ≤ c3 := (by omega); clear hown3 hg3 hc3 hcm3 hgB hgl hB3 hU3))
  obtain ⟨x4, hx4⟩ : ∃ x4, x4 = w3.setCell ⟨P, 6, none⟩ (.slice (some ⟨g, 0, none⟩) dn c3) := ⟨_, rfl⟩
  rw [← hx4]
  have hPg : P ≠ g := by have := HGB.out; have := HZ1s.out; have := HP.out; omega
  have HU4 : Hid (x4.heap[P]? = some (.cells (unC k e se pa i c (some ⟨g, 0, none⟩) dn c3 cd ga gn gc) tUn (0, 0))) := by unfold Hid; rw [hx4, heap_setCell_same w3 P 6 _ _ _ HU3.out]; rfl
  have HO4 : Hid (Own x4 w1.heap.size (.slice (some ⟨g, 0, none⟩) (dn + 8) c3) (xs ++ marksL)) := Own.keptb HO3.out (fun b hb => by rw [hx4]; exact Below.heap_setCell _ _ _ _ (fun e9 => hPg (by cases hb; exact e9.symm)))
  have HB4 : Hid (Below P w1 x4) := by have h9 : Below P w1 w3 := HB3.out.mono (by have := HZ1s.out; have := HP.out; omega); unfold Hid; rw [hx4]; exact h9.setCell (p := ⟨P, 6, none⟩) (Nat.le_refl _) _
  have HZ4 : Hid (x4.heap[P + 1]? = some (.cells (unC 0 0 0 0 0 0 none 0 0 0 none 0 0) tUn (0, 0))) := by unfold Hid; rw [hx4]; exact (Below.heap_setCell _ _ _ _ (by show P + 1 ≠ P; omega)).trans ((HB3.out.block (P + 1) (by have := HZ1s.out; have := HP.out; omega)).trans HZ1.out)
  have HS4 : Hid (w1.heap.size ≤ x4.heap.size ∧ g < x4.heap.size) := by unfold Hid; rw [hx4]; have h9 := HB3.out.size; have h8 := HGB.out.2; simp; omega
  have HBW4 : Hid (Below w.heap.size w x4) := HB1.out.trans (by have h9 := HB4.out; rw [HP.out] at h9; exact h9)
  have HL4 : Hid (RdR x4 ga l) := HL0.out.below HBW4.out
  clear hx4 f36 hu3 hu1
  have hu4 := unBox HU4.out
  go_upto_region 5 with (first
    | (at_builtin; refine wp_appRL rfl _ _ rfl x4.heap.size (.slice none 0 0) [] l gn ga gc HGN.out rfl (OwnR.nil _ _) rfl HL4.out HGZ.out (by simp; omega) (Nat.le_refl _) ?_; intro v5 w5 hown5 hg5; have HO5 : Hid (OwnR w5 x4.heap.size v5 l) := hown5; have HG5 : Hid _ := hg5; have HB5 : Hid (Below x4.heap.size x4 w5) := (Below.refl _ x4).grown HG5.out (Nat.le_refl _) (fun k hk => by cases hk); clear hown5 hg5)
    | (at_builtin; go_loud (refine wp_appR1L rfl _ _ rfl x4.heap.size v5 l gn HGN.out (-7, -7) w5.heap.size rfl (OwnR.below HO5.out (al (Below.refl _ _) _)) rfl (heap_alloc_new w5 _) (by omega) (by have := HB5.out.size; simp; omega) ?_; intro h d7 w7 hown7 hg7 hat7; have HO7 : Hid (OwnR w7 x4.heap.size (.slice (some ⟨h, 0, none⟩) (gn + 1) d7) (l ++ [(-7, -7)])) := hown7; have hB7 : Below x4.heap.size x4 w7 := ((HB5.out.trans ((al (Below.refl _ _) _).mono HB5.out.size))).grown hg7 (by have := HB5.out.size; simp; omega) (fun j hj => (World.ownsRow.lt HO5.out j hj).1); have HB7 : Hid _ := hB7; have hlt7 := World.ownsRow.lt HO7.out h rfl; have hd7 : gn + 1 ≤ d7 := (by obtain ⟨a9, c9, e9, h9, -⟩ := OwnR.val HO7.out; simp only [Value.slice.injEq] at e9; obtain ⟨-, e8, e7⟩ := e9; omega); have HD7 : Hid (gn + 1 ≤ d7) := hd7; have HHB : Hid (x4.heap.size ≤ h ∧ h < w7.heap.size) := hlt7; have hU7 := (hB7.block P (Array.getElem?_eq_some_iff.1 HU4.out).1).trans HU4.out; have HU7 : Hid _ := hU7; have hu7 := unBox hU7; have f78 : w7.frozen? ⟨P, 8, none⟩ = false := (by simp [World.frozen?, hU7]); have hg0 : (0 : Int) ≤ (gn : Int) := (by omega); have hg1 : (gn : Int) ≤ (d7 : Int) := (by omega); have hg2 : gn ≤ d7 := (by omega); clear hown7 hg7 hat7 hB7 hlt7 hd7 hU7)))
  obtain ⟨x8, hx8⟩ : ∃ x8, x8 = w7.setCell ⟨P, 8, none⟩ (.slice (some ⟨h, 0, none⟩) gn d7) := ⟨_, rfl⟩
  rw [← hx8]
  have hP4 : P < x4.heap.size := (Array.getElem?_eq_some_iff.1 HU4.out).1
  have hPh : P ≠ h := by have := HHB.out; omega
  have hPg : P ≠ g := by have := HGB.out; have := HZ1s.out; have := HP.out; omega
  have HU8 : Hid (x8.heap[P]? = some (.cells (unC k e se pa i c (some ⟨g, 0, none⟩) dn c3 cd (some ⟨h, 0, none⟩) gn d7) tUn (0, 0))) := by unfold Hid; rw [hx8, heap_setCell_same w7 P 8 _ _ _ HU7.out]; rfl
  have HZ8 : Hid (x8.heap[P + 1]? = some (.cells (unC 0 0 0 0 0 0 none 0 0 0 none 0 0) tUn (0, 0))) := by unfold Hid; rw [hx8]; exact (Below.heap_setCell _ _ _ _ (by show P + 1 ≠ P; omega)).trans ((HB7.out.block (P + 1) (Array.getElem?_eq_some_iff.1 HZ4.out).1).trans HZ4.out)
  have HO8 : Hid (Own x8 w1.heap.size (.slice (some ⟨g, 0, none⟩) (dn + 8) c3) (xs ++ marksL)) := Own.keptb (Own.below HO4.out HB7.out) (fun b hb => by rw [hx8]; exact Below.heap_setCell _ _ _ _ (fun e9 => hPg (by cases hb; exact e9.symm)))
  have HR8 : Hid (OwnR x8 w1.heap.size (.slice (some ⟨h, 0, none⟩) (gn + 1) d7) (l ++ [(-7, -7)])) := OwnR.base (OwnR.keptb HO7.out (fun b hb => by rw [hx8]; exact Below.heap_setCell _ _ _ _ (fun e9 => hPh (by cases hb; exact e9.symm)))) HS4.out.1
  have HB8 : Hid (Below w.heap.size w x8) := by
    unfold Hid
    rw [hx8]
    exact (HBW4.out.trans (HB7.out.mono HBW4.out.size)).setCell (p := ⟨P, 8, none⟩) (Nat.le_of_eq HP.out.symm) _
  have HS8 : Hid (x4.heap.size ≤ x8.heap.size ∧ w7.heap.size ≤ x8.heap.size) := by unfold Hid; rw [hx8]; have := HB7.out.size; simp; omega
  clear hx8 f78 hu7 hu4
  go_wp2_with (first
    | (refine wpList_load_g (by rfl) 41 _ rfl P 0 (by rfl) [.int .i64 k, .int .u64 e, .int .u64 se, .int .i64 pa, .int .i64 i, .int .i64 c, .slice (some ⟨g, 0, none⟩) dn c3, .int .i64 cd, .slice (some ⟨h, 0, none⟩) gn d7] _ (box_range HU8.out) Tryz.underlying41 rfl info_un ?_)
    | (refine wpList_store_mid rfl 41 _ _ rfl (P + 1) 0 #[.int .i64 k, .int .u64 e, .int .u64 se, .int .i64 pa, .int .i64 i, .int .i64 c, .slice (some ⟨g, 0, none⟩) dn c3, .int .i64 cd, .slice (some ⟨h, 0, none⟩) gn d7] rfl rfl (box_there HZ8.out rfl) (by kernel_rfl) (by simp [Value.oneCell']) ?_))
  (try simp only [Exit.inBlock, Exit.then])
  refine bodyPost_ret (results_cell_row Tryz.results43 _ _ (P + 1) 41 #[.int .i64 k, .int .u64 e, .int .u64 se, .int .i64 pa, .int .i64 i, .int .i64 c, .slice (some ⟨g, 0, none⟩) dn c3, .int .i64 cd, .slice (some ⟨h, 0, none⟩) gn d7] (0, 0) _ rfl (box_set HZ8.out rfl) Tryz.underlying41 rfl (by kernel_rfl)) rfl ?_
  have hfin := setCells_grown (P + 1) [.int .i64 k, .int .u64 e, .int .u64 se, .int .i64 pa, .int .i64 i, .int .i64 c, .slice (some ⟨g, 0, none⟩) dn c3, .int .i64 cd, .slice (some ⟨h, 0, none⟩) gn d7] 0 x8
  have hB1 : w1.heap.size = w.heap.size + 2 := HZ1s.out
  have hPP := HP.out
  have hgb := HGB.out
  have hhb := HHB.out
  have hs4 := HS4.out
  have hs8 := HS8.out
  have hfs := hfin.size
  exact ⟨g, c3, h, d7, rfl, ⟨Own.base (Own.keptb HO8.out (fun b hb => hfin.block b (by have h2 : g = b := Option.some.inj hb; omega) (fun e9 => by have h1 : b = P + 1 := Option.some.inj e9; have h2 : g = b := Option.some.inj hb; omega))) (Nat.le_of_eq hB1.symm), OwnR.base (OwnR.keptb HR8.out (fun b hb => hfin.block b (by have h2 : h = b := Option.some.inj hb; omega) (fun e9 => by have h1 : b = P + 1 := Option.some.inj e9; have h2 : h = b := Option.some.inj hb; omega))) (Nat.le_of_eq hB1.symm), HC3.out, HD7.out, ⟨by omega, by omega⟩, ⟨by omega, by omega⟩⟩, HB8.out.grown hfin HB8.out.size (fun j hj => by cases hj; omega)⟩
end
end Go.Proofs.YtdoikcolkbjnfaaGreat
