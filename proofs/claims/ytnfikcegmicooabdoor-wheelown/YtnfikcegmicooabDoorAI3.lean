import Derived.Test.YtnfikcegmicooabDoorAI2
import Derived.Deep.CutRange
namespace Go.Proofs.YtnfikcegmicooabDoor
set_option linter.unusedVariables false
set_option linter.unusedSimpArgs false
open Go.RowKit Go.Maps
section
set_option maxRecDepth 20000
set_option maxHeartbeats 6400000
theorem intMark_t (i : Nat) (hi : i ≤ 4398046511104) (w : World) : Calls Tryd.prog 35 #[.int .i64 (i : Int)] w fun e w' => e = .returned (mkI i) ∧ w' = w := by
  go_enter Tryd.func35, Tryd.ntmps35
  go_wp2
  go_ret
  exact ⟨rfl, rfl⟩
theorem apartInts_t (B : Nat) (v0 : Value) (vs : List Value) (C : Nat → List Value) (w : World) (hrow : w.ownsRow B tIs 1 v0 vs.length vs) (hI : IntsAt w B vs C) (hn : vs.length ≤ 4398046511103) (hc : ∀ j, (C j).length ≤ 4398046511103) (hB : B ≤ w.heap.size) :
    Calls Tryd.prog 14 #[v0] w fun e w' => e = .returned (.bool true) ∧ ChI (fun b => ∃ v ∈ vs, v.ownBlock = some b) w w' := by
  obtain ⟨N, hN⟩ : ∃ N, N = vs.length := ⟨_, rfl⟩
  obtain ⟨FF, hFF⟩ : ∃ FF : Nat → Prop, FF = fun b => ∃ v ∈ vs, v.ownBlock = some b := ⟨_, rfl⟩
  have HFF : Hid (∀ (j b : Nat) (v : Value), vs[j]? = some v → v.ownBlock = some b → FF b) := (fun j b v h1 h2 => by rw [hFF]; exact ⟨v, List.mem_of_getElem? h1, h2⟩)
  rw [← hFF]
  clear hFF
  rw [← hN] at hrow hn
  have HN : Hid (N = vs.length) := hN
  have HRW : Hid (w.ownsRow B tIs 1 v0 N vs) := hrow
  have HI : Hid (IntsAt w B vs C) := hI
  have HC : Hid (∀ j, (C j).length ≤ 4398046511103) := hc
  have HB : Hid (B ≤ w.heap.size) := hB
  obtain ⟨a0, c0, hv0, hc0, -⟩ := rowI_val hrow
  subst hv0
  clear hrow hI hc hB hN
  go_enter Tryd.func14, Tryd.ntmps14
  go_wp2_with fail
  go_loopw [4] (fun i wr => ∃ (k : Nat) (E : Nat → List Value), k ≤ N ∧ i = .int .i64 (k : Int) ∧ wr.ownsRow B tIs 1 (.slice a0 N c0) N vs ∧ IntsAt wr B vs E ∧ (∀ j, (E j).length = (C j).length) ∧ (∀ j, j < k → E j = List.replicate (C j).length (mkI j)) ∧ ChI FF w wr) (fun i _ => N - (intOf i).toNat)
  case atStart => exact ⟨0, C, Nat.zero_le _, rfl, HRW.out, HI.out, fun _ => rfl, (fun j hj => by omega), ChI.refl _ _⟩
  case round =>
    obtain ⟨k, E, hk, rfl, hrw, hix, hel, hem, hbel⟩ := hrel
    have HRK : Hid (wr.ownsRow B tIs 1 (.slice a0 N c0) N vs) := hrw
    have HIX : Hid (IntsAt wr B vs E) := hix
    have HEL : Hid (∀ j, (E j).length = (C j).length) := hel
    have HEM : Hid (∀ j, j < k → E j = List.replicate (C j).length (mkI j)) := hem
    have HBEL : Hid (ChI FF w wr) := hbel
    clear hrw hix hel hem hbel
    by_cases hlt : k < N
    · have hkv : k < vs.length := by have := HN.out; omega
      have hvk : vs[k]? = some vs[k] := List.getElem?_eq_getElem hkv
      obtain ⟨nk, hnk⟩ : ∃ nk, nk = (C k).length := ⟨_, rfl⟩
      have hok := HIX.out.own k _ hvk
      rw [HEL.out k, ← hnk] at hok
      obtain ⟨xa, xc, hx, hxc, -⟩ := rowI_val hok
      rw [hx] at hvk
      have HVK : Hid (vs[k]? = some (.slice xa nk xc)) := hvk
      have HNK : Hid (nk = (C k).length) := hnk
      have hnkb : nk ≤ 4398046511103 := by rw [hnk]; exact HC.out k
      obtain ⟨g0, rfl⟩ : ∃ g0, a0 = some ⟨g0, 0, none⟩ := by
        rcases HRK.out.2 with ⟨e, h0⟩ | ⟨g9, c9, cur, e, -⟩
        · omega
        · cases e; exact ⟨_, rfl⟩
      have HCK : Hid (∀ u : World, u.ownsRow B tIs 1 (.slice (some ⟨g0, 0, none⟩) N c0) N vs → u.cell? ⟨g0, k, none⟩ = some (.slice xa nk xc)) := (fun u hu => by rw [World.ownsRow.cellAt hu k (by omega)]; exact HVK.out)
      have hck := HCK.out wr HRK.out
      have hki : (k : Int) < (N : Int) := by omega
      have hk0 : (0 : Int) ≤ (k : Int) := by omega
      clear hok hx hvk hnk
      go_wp2_with fail
      go_loopw [5] (fun q wr2 => ∃ (m : Nat) (D : List Value), m ≤ nk ∧ q = .int .i64 (m : Int) ∧ D.length = nk ∧ (∀ t, t < m → D[t]? = some (mkI k)) ∧ wr2.ownsRow B tIs 1 (.slice (some ⟨g0, 0, none⟩) N c0) N vs ∧ IntsAt wr2 B vs (fun j => if j = k then D else E j) ∧ ChI FF w wr2) (fun q _ => nk - (intOf q).toNat)
      case atStart => exact ⟨0, E k, Nat.zero_le _, rfl, by rw [HEL.out k, HNK.out], (fun t ht => by omega), HRK.out, HIX.out.congr (fun j _ => by by_cases e : j = k <;> simp [e]), HBEL.out⟩
      case round =>
        obtain ⟨m, D, hm, rfl, hdl, hdm, hrw2, hix2, hb2⟩ := hrel
        rename World => wq
        have HDL : Hid (D.length = nk) := hdl
        have HDM : Hid (∀ t, t < m → D[t]? = some (mkI k)) := hdm
        have HR2 : Hid (wq.ownsRow B tIs 1 (.slice (some ⟨g0, 0, none⟩) N c0) N vs) := hrw2
        have HI2 : Hid (IntsAt wq B vs (fun j => if j = k then D else E j)) := hix2
        have HB2 : Hid (ChI FF w wq) := hb2
        have hck2 := HCK.out wq hrw2
        clear hck hdl hdm hrw2 hix2 hb2
        by_cases hlm : m < nk
        · have hov := HI2.out.own k _ HVK.out
          simp only [if_true] at hov
          rw [HDL.out] at hov
          obtain ⟨xb, rfl⟩ : ∃ xb, xa = some ⟨xb, 0, none⟩ := by
            rcases hov.2 with ⟨e, h0⟩ | ⟨g9, c9, cur, e, -⟩
            · omega
            · cases e; exact ⟨_, rfl⟩
          obtain ⟨xcur, hxb⟩ := rowI_blk hov xb rfl
          obtain ⟨lcur, hgb⟩ := rowI_blk HR2.out g0 rfl
          have hne : g0 ≠ xb := fun e => by
            subst e
            rw [hxb] at hgb
            injection hgb with hgb
            injection hgb with e1 e2
            exact absurd e2 (by decide)
          have hmD : m < D.length := by rw [HDL.out]; exact hlm
          have hcm : wq.drew.cell? ⟨xb, m, none⟩ = some D[m] := by
            have h9 := World.ownsRow.cellAt hov m (by omega)
            rw [List.getElem?_eq_getElem hmD] at h9
            exact h9
          have hfm : wq.drew.frozen? ⟨xb, m, none⟩ = false := (show wq.frozen? ⟨xb, m, none⟩ = false by simp [World.frozen?, hxb])
          have hcD : wq.drew.cell? ⟨g0, k, none⟩ = some (.slice (some ⟨xb, 0, none⟩) nk xc) := hck2
          have hcS : (wq.drew.setCell ⟨xb, m, none⟩ (mkI k)).cell? ⟨g0, k, none⟩ = some (.slice (some ⟨xb, 0, none⟩) nk xc) := by
            rw [World.cell?_of_block (w := wq.drew) (heap_setCell_other _ _ _ _ hne)]
            exact hcD
          have HR3 : Hid ((wq.drew.setCell ⟨xb, m, none⟩ (mkI k)).ownsRow B tIs 1 (.slice (some ⟨g0, 0, none⟩) N c0) N vs) := rowI_kept HR2.out (fun b hb => by cases hb; exact heap_setCell_other _ _ _ _ hne)
          have HI3 : Hid (IntsAt (wq.drew.setCell ⟨xb, m, none⟩ (mkI k)) B vs (fun j => if j = k then D.set m (mkI k) else E j)) := (show IntsAt _ _ _ _ from ((HI2.out.below (Below.refl _ _).drew).set HVK.out m (mkI k)).congr (fun j _ => by by_cases e : j = k <;> simp [e]))
          have HB3 : Hid (ChI FF w (wq.drew.setCell ⟨xb, m, none⟩ (mkI k))) := (HB2.out.below (Below.refl _ _).drew).grown (row := some xb) ⟨rfl, rfl, rfl, by simp, fun k9 _ hk9 => heap_setCell_other _ _ _ _ (fun e => hk9 (by simp at e; rw [e]))⟩ (fun b e => by cases e; exact .inl (HFF.out k _ _ HVK.out rfl))
          have HDL3 : Hid ((D.set m (mkI k)).length = nk) := (show _ = _ by rw [List.length_set]; exact HDL.out)
          have HDM3 : Hid (∀ t, t < m + 1 → (D.set m (mkI k))[t]? = some (mkI k)) := (fun t ht => by
            by_cases e : t = m
            · subst e; rw [List.getElem?_set_self hmD]
            · rw [List.getElem?_set_ne (fun e9 => e e9.symm)]; exact HDM.out t (by omega))
          have hmi : (m : Int) < (nk : Int) := by omega
          have hm0 : (0 : Int) ≤ (m : Int) := by omega
          clear hov hxb hgb
          go_upto_region 8 with fail
          refine wp_region_held_drew (S := (fun u => u.cell? ⟨g0, k, none⟩ = some (.slice (some ⟨xb, 0, none⟩) nk xc))) (by kernel_rfl) (by first | exact hcD | exact hcS | assumption) (fun hHeld => ?_)
          refine take_at (i := 0) 26 (v := ?_) rfl rfl (by kernel_rfl) (by kernel_rfl) (by kernel_rfl) (fun _ _ _ h => h) (by rfl) ?_ hHeld ?_
          rotate_left
          · (intro w hSw; (try dsimp only at hSw); go_simp; try with_reducible rfl)
          simp only [Act.put, List.setIfInBounds_toArray, List.set_cons_zero, List.set_cons_succ]
          refine take_at (i := 1) 27 (v := ?_) rfl rfl (by kernel_rfl) (by kernel_rfl) (by kernel_rfl) (fun _ _ _ h => h) (by rfl) ?_ hHeld ?_
          rotate_left
          · (intro w hSw; (try dsimp only at hSw); go_simp; try with_reducible rfl)
          simp only [Act.put, List.setIfInBounds_toArray, List.set_cons_zero, List.set_cons_succ]
          refine take_at (i := 2) 28 (v := ?_) rfl rfl (by kernel_rfl) (by kernel_rfl) (by kernel_rfl) (fun _ _ _ h => h) (by rfl) ?_ hHeld ?_
          rotate_left
          · (intro w hSw; (try dsimp only at hSw); go_simp; try with_reducible rfl)
          simp only [Act.put, List.setIfInBounds_toArray, List.set_cons_zero, List.set_cons_succ]
          refine take_at (i := 3) 29 (v := ?_) rfl rfl (by kernel_rfl) (by kernel_rfl) (by kernel_rfl) (fun _ _ _ h => h) (by rfl) ?_ hHeld ?_
          rotate_left
          · (intro w hSw; (try dsimp only at hSw); go_simp; try with_reducible rfl)
          simp only [Act.put, List.setIfInBounds_toArray, List.set_cons_zero, List.set_cons_succ]
          refine take_at (i := 4) 30 (v := ?_) rfl rfl (by kernel_rfl) (by kernel_rfl) (by kernel_rfl) (fun _ _ _ h => h) (by rfl) ?_ hHeld ?_
          rotate_left
          · (intro w hSw; (try dsimp only at hSw); go_simp; try with_reducible rfl)
          simp only [Act.put, List.setIfInBounds_toArray, List.set_cons_zero, List.set_cons_succ]
          refine take_at (i := 5) 31 (v := ?_) rfl rfl (by kernel_rfl) (by kernel_rfl) (by kernel_rfl) (fun _ _ _ h => h) (by rfl) ?_ hHeld ?_
          rotate_left
          · (intro w hSw; (try dsimp only at hSw); go_simp; try with_reducible rfl)
          simp only [Act.put, List.setIfInBounds_toArray, List.set_cons_zero, List.set_cons_succ]
          refine run_at (i := 6) rfl (by kernel_rfl) (by rfl) (fun K hK => ?_)
          simp only [List.getElem_toArray, List.getElem_cons_zero, List.getElem_cons_succ]
          go_simp
          first | (go_at_call 35; refine Calls.mono (intMark_t k (by omega) _) ?_; rintro e u2 ⟨rfl, hu2⟩; subst hu2)
          go_wp2_with fail
          refine hK.out _ _ (by first | exact hcD | exact hcS | assumption) ?_
          clear hK K
          intro hHeld2
          clear hHeld
          have hHeld := hHeld2
          clear hHeld2
          try simp only [Act.put, List.setIfInBounds_toArray, List.set_cons_zero, List.set_cons_succ]
          refine take_at (i := 7) 33 (v := ?_) rfl rfl (by kernel_rfl) (by kernel_rfl) (by kernel_rfl) (fun _ _ _ h => h) (by rfl) ?_ hHeld ?_
          rotate_left
          · (intro w hSw; (try dsimp only at hSw); go_simp; try with_reducible rfl)
          simp only [Act.put, List.setIfInBounds_toArray, List.set_cons_zero, List.set_cons_succ]
          refine run_at (i := 8) rfl (by kernel_rfl) (by rfl) (fun K hK => ?_)
          simp only [List.getElem_toArray, List.getElem_cons_zero, List.getElem_cons_succ]
          go_simp
          go_wp2_with fail
          refine hK.out _ _ (by first | exact hcD | exact hcS | assumption) ?_
          clear hK K
          intro hHeld2
          clear hHeld
          have hHeld := hHeld2
          clear hHeld2
          try simp only [Act.put, List.setIfInBounds_toArray, List.set_cons_zero, List.set_cons_succ]
          refine wpAnyH_done (by kernel_rfl) ?_ _
          go_wp2
          go_roundw
          case rel => exact ⟨m + 1, D.set m (mkI k), by omega, by go_num, HDL3.out, HDM3.out, HR3.out, HI3.out, HB3.out⟩
          case measure => simp [intOf]; omega
        · obtain rfl : m = nk := by omega
          have hmI : ¬ ((m : Int) < (m : Int)) := by omega
          have HDR : Hid (D = List.replicate m (mkI k)) := rep_of HDL.out HDM.out
          go_wp2
          go_roundw
          case rel => exact ⟨k + 1, _, by omega, by go_num, HR2.out, HI2.out, (fun j => by by_cases e : j = k; (subst e; simp only [if_true]; rw [HDL.out]; exact HNK.out); (simp only [if_neg e]; exact HEL.out j)), (fun j hj => by by_cases e : j = k; (subst e; simp only [if_true]; rw [HDR.out, ← HNK.out]); (simp only [if_neg e]; exact HEM.out j (by omega))), HB2.out⟩
          case measure => simp [intOf]; omega
    · obtain rfl : k = N := by omega
      have hkI : ¬ ((k : Int) < (k : Int)) := by omega
      have HG : Hid (Gr wr B (.slice a0 k c0) (.slice none 0 0) vs [] (fun j => (C j).length)) := ⟨by rw [← HN.out]; exact HRK.out, World.ownsRow_nil _ _ _ _, (fun b e => by cases e), HIX.out.congr (fun j hj => HEM.out j (by have := HN.out; omega)), (fun j x hx => by simp at hx), (fun i j x y hx => by simp at hx), (fun i j x y hx => by simp at hx)⟩
      go_wp2_with fail
      go_loopw [3, 6] (fun gvv i wr3 => ∃ (p : Nat) (gs : List Value), p ≤ k ∧ i = .int .i64 (p : Int) ∧ gs.length = p ∧ Gr wr3 B (.slice a0 k c0) gvv vs gs (fun j => (C j).length) ∧ (∀ b, gvv.ownBlock = some b → w.heap.size ≤ b) ∧ ChI FF w wr3) (fun _ i _ => k - (intOf i).toNat)
      case atStart => exact ⟨0, [], Nat.zero_le _, rfl, rfl, HG.out, (fun b e => by cases e), HBEL.out⟩
      case round =>
        clear HG HRK HIX HEL HEM
        obtain ⟨p, gs, hp, rfl, hgl, hG, hgv, hb3⟩ := hrel
        rename World => w3
        have HG : Hid (Gr w3 B (.slice a0 k c0) u3 vs gs (fun j => (C j).length)) := hG
        have HGL : Hid (gs.length = p) := hgl
        have HB3 : Hid (ChI FF w w3) := hb3
        obtain ⟨a1, c1, hv1, -⟩ := rowI_val hG.gr
        rw [hgl] at hv1
        subst hv1
        have HGV : Hid (∀ b, (Value.slice a1 p c1).ownBlock = some b → w.heap.size ≤ b) := hgv
        clear hG hgl hb3 hgv
        by_cases hlp : p < k
        · have hpv : p < vs.length := by have := HN.out; omega
          have hvp : vs[p]? = some vs[p] := List.getElem?_eq_getElem hpv
          obtain ⟨np, hnp⟩ : ∃ np, np = (C p).length := ⟨_, rfl⟩
          have hop := HG.out.ix.ofix p _ hvp
          rw [← hnp] at hop
          obtain ⟨xa, xc, hx, hxc, -⟩ := rowI_val hop
          rw [hx] at hvp
          have HVP : Hid (vs[p]? = some (.slice xa np xc)) := hvp
          have HNP : Hid (np = (C p).length) := hnp
          have hnpb : np ≤ 4398046511103 := by rw [hnp]; exact HC.out p
          obtain ⟨g0, rfl⟩ : ∃ g0, a0 = some ⟨g0, 0, none⟩ := by
            rcases HG.out.lr.2 with ⟨e, h0⟩ | ⟨g9, c9, cur, e, -⟩
            · omega
            · cases e; exact ⟨_, rfl⟩
          have hcp : w3.cell? ⟨g0, p, none⟩ = some (.slice xa np xc) := by
            have h9 := HG.out.lr
            rw [← HN.out] at h9
            rw [World.ownsRow.cellAt h9 p (by omega)]; exact HVP.out
          have hpi : (p : Int) < (k : Int) := by omega
          have hp0 : (0 : Int) ≤ (p : Int) := by omega
          have HGI : Hid (Gi w3 B vs gs (fun j => (C j).length) p 0 (.slice xa np xc)) := Gi.start HG.out HGL.out HVP.out
          clear hop hx hvp hnp
          go_wp2_with fail
          go_loopw [7, 8] (fun g q wr4 => ∃ m : Nat, m ≤ 64 ∧ q = .int .i64 (m : Int) ∧ Gr wr4 B (.slice (some ⟨g0, 0, none⟩) k c0) (.slice a1 p c1) vs gs (fun j => (C j).length) ∧ Gi wr4 B vs gs (fun j => (C j).length) p m g ∧ (∀ b, g.ownBlock = some b → FF b ∨ w.heap.size ≤ b) ∧ ChI FF w wr4) (fun _ q _ => 64 - (intOf q).toNat)
          case atStart => exact ⟨0, Nat.zero_le _, rfl, HG.out, HGI.out, (fun b e => .inl (HFF.out p b _ HVP.out e)), HB3.out⟩
          case round =>
            clear HG HGI hcp
            obtain ⟨m, hm, rfl, hG, hGi, hgf, hb4⟩ := hrel
            rename World => w4
            obtain ⟨ga, gc, hg7, -⟩ := rowI_val hGi.own
            rw [← HNP.out] at hg7
            subst hg7
            have HG : Hid (Gr w4 B (.slice (some ⟨g0, 0, none⟩) k c0) (.slice a1 p c1) vs gs (fun j => (C j).length)) := hG
            have HGI : Hid (Gi w4 B vs gs (fun j => (C j).length) p m (.slice ga (np + m) gc)) := hGi
            have HB4 : Hid (ChI FF w w4) := hb4
            have HGF : Hid (∀ b, (Value.slice ga (np + m) gc).ownBlock = some b → FF b ∨ w.heap.size ≤ b) := hgf
            have HBS : Hid (B ≤ w4.heap.size) := (show _ ≤ _ from Nat.le_trans HB.out hb4.size)
            have HAB : Hid (∀ ob, Below w4.heap.size w4 (w4.alloc ob)) := (fun ob => (Below.refl _ _).alloc (Nat.le_refl _) ob)
            have HBA : Hid (∀ ob, B ≤ (w4.alloc ob).heap.size) := (fun ob => Nat.le_trans HBS.out (HAB.out ob).size)
            clear hG hGi hb4 hgf
            by_cases hlm : m < 64
            · have hmi : (m : Int) < 64 := by omega
              have HOW : Hid (∀ ob, (w4.alloc ob).ownsRow B tI 1 (.slice ga (np + m) gc) (List.replicate ((C p).length + m) (mkI p)).length (List.replicate ((C p).length + m) (mkI p))) := (fun ob => by rw [List.length_replicate]; exact rowI_below HGI.out.own (HAB.out ob))
              have HL1 : Hid ((List.replicate ((C p).length + m) (mkI p)).length + 1 ≤ 140737488355328) := (show _ ≤ _ by rw [List.length_replicate, ← HNP.out]; omega)
              have HL2 : Hid (((List.replicate ((C p).length + m) (mkI p)).length + 1) * 8 ≤ 140737488355328) := (show _ ≤ _ by rw [List.length_replicate, ← HNP.out]; omega)
              go_wp2_with fail
              refine Calls.mono (intMark_t p (by omega) w4) ?_
              rintro e w5 ⟨rfl, hw5⟩
              have hw5 := hw5.symm
              subst hw5
              go_wp2_with (first | (at_builtin; refine wp_app1I rfl _ _ tIs tI (.int .i64 0) 8 rfl Tryd.underlying25 info_tI rfl B _ (List.replicate ((C p).length + m) (mkI p)) (by rfl) (HOW.out _) _ 1 (mkI p) (by rfl) (heap_alloc_new w4 _) (by rfl) HL1.out HL2.out (HBA.out _) ?_; intro v6 w6 hown hc; obtain ⟨hG6, hGi6, hg6, hv6⟩ := Gr.app1 (HG.out.below (HAB.out _)) (HGI.out.below (HAB.out _)) (HBA.out _) hown hc; have HG6 : Hid _ := hG6; have HGI6 : Hid _ := hGi6; have HB6 : Hid (ChI FF w w6) := (HB4.out.below (HAB.out _)).grown hg6 HGF.out; have HGF6 : Hid (∀ b, v6.ownBlock = some b → FF b ∨ w.heap.size ≤ b) := (fun b e => by rcases hv6 with h9 | h9; (exact HGF.out b (by rw [← h9]; exact e)); (rw [h9] at e; cases e; exact .inr (Nat.le_trans HB4.out.size (HAB.out _).size))); clear hG6 hGi6 hg6 hv6 hown hc))
              go_roundw
              case rel => exact ⟨m + 1, by omega, by go_num, HG6.out, HGI6.out, HGF6.out, HB6.out⟩
              case measure => simp [intOf]; omega
            · obtain rfl : m = 64 := by omega
              have hmi : ¬ ((64 : Int) < 64) := by omega
              have HOG : Hid (∀ ob, (w4.alloc ob).ownsRow B tIs 1 (.slice a1 p c1) gs.length gs) := (fun ob => rowI_below HG.out.gr (HAB.out ob))
              have HL1 : Hid (gs.length + 1 ≤ 140737488355328) := (show _ ≤ _ by rw [HGL.out]; omega)
              have HL2 : Hid ((gs.length + 1) * 24 ≤ 140737488355328) := (show _ ≤ _ by rw [HGL.out]; omega)
              go_wp2_with (first | (at_builtin; refine wp_app1I rfl _ _ tIss tIs (.slice none 0 0) 24 rfl Tryd.underlying32 info_tIs rfl B _ gs (by rfl) (HOG.out _) _ 1 (.slice ga (np + 64) gc) (by rfl) (heap_alloc_new w4 _) (by rfl) HL1.out HL2.out (HBA.out _) ?_; intro v6 w6 hown hc; obtain ⟨hG6, hg6, hv6⟩ := Gr.push (HG.out.below (HAB.out _)) HGL.out (HGI.out.below (HAB.out _)) (HBA.out _) hown hc; have HG6 : Hid _ := hG6; have HB6 : Hid (ChI FF w w6) := (HB4.out.below (HAB.out _)).grown hg6 (fun b e => .inr (HGV.out b e)); have HGV6 : Hid (∀ b, v6.ownBlock = some b → w.heap.size ≤ b) := (fun b e => by rcases hv6 with h9 | h9; (exact HGV.out b (by rw [← h9]; exact e)); (rw [h9] at e; cases e; exact Nat.le_trans HB4.out.size (HAB.out _).size)); clear hG6 hg6 hv6 hown hc))
              go_roundw
              case rel => exact ⟨p + 1, gs ++ [.slice ga (np + 64) gc], by omega, by go_num, by simp [HGL.out], HG6.out, HGV6.out, HB6.out⟩
              case measure => simp [intOf]; omega
        · obtain rfl : p = k := by omega
          have hpI : ¬ ((p : Int) < (p : Int)) := by omega
          rename World => w9
          go_wp2_with fail
          go_loopw [9] (fun i wr5 => ∃ q : Nat, q ≤ p ∧ i = .int .i64 (q : Int) ∧ Below w9.heap.size w9 wr5) (fun i _ => p - (intOf i).toNat)
          case atStart => exact ⟨0, Nat.zero_le _, rfl, Below.refl _ _⟩
          case round =>
            obtain ⟨q, hq, rfl, hb5⟩ := hrel
            rename World => w5
            have HB5 : Hid (Below w9.heap.size w9 w5) := hb5
            clear hb5
            by_cases hlq : q < p
            · have hqv : q < vs.length := by have := HN.out; omega
              have hqg : q < gs.length := by have := HGL.out; omega
              have hvq : vs[q]? = some vs[q] := List.getElem?_eq_getElem hqv
              have hgq : gs[q]? = some gs[q] := List.getElem?_eq_getElem hqg
              obtain ⟨nq, hnq⟩ : ∃ nq, nq = (C q).length := ⟨_, rfl⟩
              have hoq := HG.out.ix.ofix q _ hvq
              have hog := HG.out.go q _ hgq
              simp only [← hnq] at hoq hog
              have hnqb : nq ≤ 4398046511103 := by rw [hnq]; exact HC.out q
              obtain ⟨xa, xc, hx, hxc, hxr⟩ := rowI_val hoq
              obtain ⟨ya, yc, hy, hyc, hyr⟩ := rowI_val hog
              rw [hx] at hvq hoq
              rw [hy] at hgq hog
              obtain ⟨yb, hyb, -⟩ := hyr 0 (by omega)
              subst hyb
              obtain ⟨g0, rfl⟩ : ∃ g0, a0 = some ⟨g0, 0, none⟩ := by
                rcases HG.out.lr.2 with ⟨e, h0⟩ | ⟨g9, c9, cur, e, -⟩
                · have := HN.out; omega
                · cases e; exact ⟨_, rfl⟩
              obtain ⟨g1, rfl⟩ : ∃ g1, a1 = some ⟨g1, 0, none⟩ := by
                rcases HG.out.gr.2 with ⟨e, h0⟩ | ⟨g9, c9, cur, e, -⟩
                · omega
                · cases e; exact ⟨_, rfl⟩
              have HAA : Hid (∀ u, Below w9.heap.size w9 u → u.cell? ⟨g0, q, none⟩ = some (.slice xa nq xc) ∧ u.cell? ⟨g1, q, none⟩ = some (.slice (some ⟨yb, 0, none⟩) (nq + 64) yc)) := (fun u hu => by
                have h1 := rowI_below HG.out.lr hu
                have h2 := rowI_below HG.out.gr hu
                rw [← HN.out] at h1
                rw [HGL.out] at h2
                exact ⟨by rw [World.ownsRow.cellAt h1 q (by omega)]; exact hvq, by rw [World.ownsRow.cellAt h2 q (by omega)]; exact hgq⟩)
              have HBB : Hid (∀ u, Below w9.heap.size w9 u → ∀ t, t < nq + 64 → u.cell? ⟨yb, t, none⟩ = some (mkI q)) := (fun u hu t ht => by
                rw [World.ownsRow.cellAt (rowI_below hog hu) t (by omega), List.getElem?_replicate, if_pos ht])
              have HCC : Hid (∀ u, Below w9.heap.size w9 u → ∀ t, t < nq → ∃ xb, xa = some ⟨xb, 0, none⟩ ∧ u.cell? ⟨xb, t, none⟩ = some (mkI q)) := (fun u hu t ht => by
                obtain ⟨xb, rfl, -⟩ := hxr t ht
                exact ⟨xb, rfl, by rw [World.ownsRow.cellAt (rowI_below hoq hu) t (by omega), List.getElem?_replicate, if_pos ht]⟩)
              obtain ⟨-, hcg⟩ := HAA.out w5 HB5.out
              have hqi : (q : Int) < (p : Int) := by omega
              have hq0 : (0 : Int) ≤ (q : Int) := by omega
              clear hx hy hvq hgq hoq hog hxr hyr hnq
              go_wp2_with fail
              go_loopw [10] (fun i wr6 => ∃ m : Nat, m ≤ nq + 64 ∧ i = .int .i64 (m : Int) ∧ Below w9.heap.size w9 wr6) (fun i _ => nq + 64 - (intOf i).toNat)
              case atStart => exact ⟨0, Nat.zero_le _, rfl, HB5.out⟩
              case round =>
                clear hcg
                obtain ⟨m, hm, rfl, hb6⟩ := hrel
                rename World => w6
                have HB6 : Hid (Below w9.heap.size w9 w6) := hb6
                obtain ⟨-, hcg⟩ := HAA.out w6 hb6
                by_cases hlm : m < nq + 64
                · have hmi : (m : Int) < (nq : Int) + 64 := by omega
                  have hm0 : (0 : Int) ≤ (m : Int) := by omega
                  have hA : ∀ u, Below w9.heap.size w9 u → u.cell? ⟨g1, q, none⟩ = some (.slice (some ⟨yb, 0, none⟩) (nq + 64) yc) := fun u hu => (HAA.out u hu).2
                  have hL : ∀ u, Below w9.heap.size w9 u → u.cell? ⟨g0, q, none⟩ = some (.slice xa nq xc) := fun u hu => (HAA.out u hu).1
                  have hY : ∀ u, Below w9.heap.size w9 u → u.cell? ⟨yb, m, none⟩ = some (mkI q) := fun u hu => HBB.out u hu m hlm
                  by_cases hln : m < nq
                  · obtain ⟨xb, rfl, -⟩ := HCC.out w6 hb6 m hln
                    have hX : ∀ u, Below w9.heap.size w9 u → u.cell? ⟨xb, m, none⟩ = some (mkI q) := fun u hu => by
                      obtain ⟨xb', e, h9⟩ := HCC.out u hu m hln
                      cases e; exact h9
                    have hni : (m : Int) < (nq : Int) := by omega
                    have hdn : decide ((m : Int) < (nq : Int)) = true := decide_eq_true hni
                    go_upto_region 24 with fail
                    refine wp_region_held_drew (S := (fun u => Below w9.heap.size w9 u)) (by kernel_rfl) (by first | exact hb6.drew | assumption) (fun hHeld => ?_)
                    refine take_at (i := 0) 72 (v := ?_) rfl rfl (by kernel_rfl) (by kernel_rfl) (by kernel_rfl) (fun _ _ _ h => h) (by rfl) ?_ hHeld ?_
                    rotate_left
                    · (intro w hSw; (try dsimp only at hSw); go_simp; try with_reducible rfl)
                    simp only [Act.put, List.setIfInBounds_toArray, List.set_cons_zero, List.set_cons_succ]
                    refine take_at (i := 1) 73 (v := ?_) rfl rfl (by kernel_rfl) (by kernel_rfl) (by kernel_rfl) (fun _ _ _ h => h) (by rfl) ?_ hHeld ?_
                    rotate_left
                    · (intro w hSw; (try dsimp only at hSw); go_simp; try with_reducible rfl)
                    simp only [Act.put, List.setIfInBounds_toArray, List.set_cons_zero, List.set_cons_succ]
                    refine take_at (i := 2) 74 (v := ?_) rfl rfl (by kernel_rfl) (by kernel_rfl) (by kernel_rfl) (fun _ _ _ h => h) (by rfl) ?_ hHeld ?_
                    rotate_left
                    · (intro w hSw; (try dsimp only at hSw); go_simp; try with_reducible rfl)
                    simp only [Act.put, List.setIfInBounds_toArray, List.set_cons_zero, List.set_cons_succ]
                    refine take_at (i := 3) 75 (v := ?_) rfl rfl (by kernel_rfl) (by kernel_rfl) (by kernel_rfl) (fun _ _ _ h => h) (by rfl) ?_ hHeld ?_
                    rotate_left
                    · (intro w hSw; (try dsimp only at hSw); go_simp; try with_reducible rfl)
                    simp only [Act.put, List.setIfInBounds_toArray, List.set_cons_zero, List.set_cons_succ]
                    refine take_at (i := 4) 76 (v := ?_) rfl rfl (by kernel_rfl) (by kernel_rfl) (by kernel_rfl) (fun _ _ _ h => h) (by rfl) ?_ hHeld ?_
                    rotate_left
                    · (intro w hSw; (try dsimp only at hSw); go_simp; try with_reducible rfl)
                    simp only [Act.put, List.setIfInBounds_toArray, List.set_cons_zero, List.set_cons_succ]
                    refine take_at (i := 5) 77 (v := ?_) rfl rfl (by kernel_rfl) (by kernel_rfl) (by kernel_rfl) (fun _ _ _ h => h) (by rfl) ?_ hHeld ?_
                    rotate_left
                    · (intro w hSw; (try dsimp only at hSw); go_simp; try with_reducible rfl)
                    simp only [Act.put, List.setIfInBounds_toArray, List.set_cons_zero, List.set_cons_succ]
                    refine take_at (i := 6) 78 (v := ?_) rfl rfl (by kernel_rfl) (by kernel_rfl) (by kernel_rfl) (fun _ _ _ h => h) (by rfl) ?_ hHeld ?_
                    rotate_left
                    · (intro w hSw; (try dsimp only at hSw); go_simp; try with_reducible rfl)
                    simp only [Act.put, List.setIfInBounds_toArray, List.set_cons_zero, List.set_cons_succ]
                    refine take_at (i := 7) 79 (v := ?_) rfl rfl (by kernel_rfl) (by kernel_rfl) (by kernel_rfl) (fun _ _ _ h => h) (by rfl) ?_ hHeld ?_
                    rotate_left
                    · (intro w hSw; (try dsimp only at hSw); go_simp; try with_reducible rfl)
                    simp only [Act.put, List.setIfInBounds_toArray, List.set_cons_zero, List.set_cons_succ]
                    refine run_at (i := 8) rfl (by kernel_rfl) (by rfl) (fun K hK => ?_)
                    simp only [List.getElem_toArray, List.getElem_cons_zero, List.getElem_cons_succ]
                    go_simp
                    first | (go_at_call 35; refine Calls.mono (intMark_t q (by omega) _) ?_; rintro e u2 ⟨rfl, hu2⟩; subst hu2)
                    go_wp2_with fail
                    refine hK.out _ _ (by first | exact hb6.drew | assumption) ?_
                    clear hK K
                    intro hHeld2
                    clear hHeld
                    have hHeld := hHeld2
                    clear hHeld2
                    try simp only [Act.put, List.setIfInBounds_toArray, List.set_cons_zero, List.set_cons_succ]
                    refine take_at (i := 9) 81 (v := ?_) rfl rfl (by kernel_rfl) (by kernel_rfl) (by kernel_rfl) (fun _ _ _ h => h) (by rfl) ?_ hHeld ?_
                    rotate_left
                    · (intro w hSw; (try dsimp only at hSw); go_simp; try with_reducible rfl)
                    simp only [Act.put, List.setIfInBounds_toArray, List.set_cons_zero, List.set_cons_succ]
                    refine take_at (i := 10) 82 (v := ?_) rfl rfl (by kernel_rfl) (by kernel_rfl) (by kernel_rfl) (fun _ _ _ h => h) (by rfl) ?_ hHeld ?_
                    rotate_left
                    · (intro w hSw; (try dsimp only at hSw); go_simp; try with_reducible rfl)
                    simp only [Act.put, List.setIfInBounds_toArray, List.set_cons_zero, List.set_cons_succ]
                    refine take_at (i := 11) 83 (v := ?_) rfl rfl (by kernel_rfl) (by kernel_rfl) (by kernel_rfl) (fun _ _ _ h => h) (by rfl) ?_ hHeld ?_
                    rotate_left
                    · (intro w hSw; (try dsimp only at hSw); go_simp; try with_reducible rfl)
                    simp only [Act.put, List.setIfInBounds_toArray, List.set_cons_zero, List.set_cons_succ]
                    refine take_at (i := 12) 84 (v := ?_) rfl rfl (by kernel_rfl) (by kernel_rfl) (by kernel_rfl) (fun _ _ _ h => h) (by rfl) ?_ hHeld ?_
                    rotate_left
                    · (intro w hSw; (try dsimp only at hSw); go_simp; try with_reducible rfl)
                    simp only [Act.put, List.setIfInBounds_toArray, List.set_cons_zero, List.set_cons_succ]
                    refine take_at (i := 13) 85 (v := ?_) rfl rfl (by kernel_rfl) (by kernel_rfl) (by kernel_rfl) (fun _ _ _ h => h) (by rfl) ?_ hHeld ?_
                    rotate_left
                    · (intro w hSw; (try dsimp only at hSw); go_simp; try with_reducible rfl)
                    simp only [Act.put, List.setIfInBounds_toArray, List.set_cons_zero, List.set_cons_succ]
                    refine take_at (i := 14) 86 (v := ?_) rfl rfl (by kernel_rfl) (by kernel_rfl) (by kernel_rfl) (fun _ _ _ h => h) (by rfl) ?_ hHeld ?_
                    rotate_left
                    · (intro w hSw; (try dsimp only at hSw); go_simp; try with_reducible rfl)
                    simp only [Act.put, List.setIfInBounds_toArray, List.set_cons_zero, List.set_cons_succ]
                    refine take_at (i := 15) 87 (v := ?_) rfl rfl (by kernel_rfl) (by kernel_rfl) (by kernel_rfl) (fun _ _ _ h => h) (by rfl) ?_ hHeld ?_
                    rotate_left
                    · (intro w hSw; (try dsimp only at hSw); go_simp; try with_reducible rfl)
                    simp only [Act.put, List.setIfInBounds_toArray, List.set_cons_zero, List.set_cons_succ]
                    refine take_at (i := 16) 88 (v := ?_) rfl rfl (by kernel_rfl) (by kernel_rfl) (by kernel_rfl) (fun _ _ _ h => h) (by rfl) ?_ hHeld ?_
                    rotate_left
                    · (intro w hSw; (try dsimp only at hSw); go_simp; try with_reducible rfl)
                    simp only [Act.put, List.setIfInBounds_toArray, List.set_cons_zero, List.set_cons_succ]
                    refine take_at (i := 17) 89 (v := ?_) rfl rfl (by kernel_rfl) (by kernel_rfl) (by kernel_rfl) (fun _ _ _ h => h) (by rfl) ?_ hHeld ?_
                    rotate_left
                    · (intro w hSw; (try dsimp only at hSw); go_simp; try with_reducible rfl)
                    simp only [Act.put, List.setIfInBounds_toArray, List.set_cons_zero, List.set_cons_succ]
                    refine take_at (i := 18) 90 (v := ?_) rfl rfl (by kernel_rfl) (by kernel_rfl) (by kernel_rfl) (fun _ _ _ h => h) (by rfl) ?_ hHeld ?_
                    rotate_left
                    · (intro w hSw; (try dsimp only at hSw); go_simp; try with_reducible rfl)
                    simp only [Act.put, List.setIfInBounds_toArray, List.set_cons_zero, List.set_cons_succ]
                    refine take_at (i := 19) 91 (v := ?_) rfl rfl (by kernel_rfl) (by kernel_rfl) (by kernel_rfl) (fun _ _ _ h => h) (by rfl) ?_ hHeld ?_
                    rotate_left
                    · (intro w hSw; (try dsimp only at hSw); go_simp; try with_reducible rfl)
                    simp only [Act.put, List.setIfInBounds_toArray, List.set_cons_zero, List.set_cons_succ]
                    refine take_at (i := 20) 92 (v := ?_) rfl rfl (by kernel_rfl) (by kernel_rfl) (by kernel_rfl) (fun _ _ _ h => h) (by rfl) ?_ hHeld ?_
                    rotate_left
                    · (intro w hSw; (try dsimp only at hSw); go_simp; try with_reducible rfl)
                    simp only [Act.put, List.setIfInBounds_toArray, List.set_cons_zero, List.set_cons_succ]
                    refine take_at (i := 21) 93 (v := ?_) rfl rfl (by kernel_rfl) (by kernel_rfl) (by kernel_rfl) (fun _ _ _ h => h) (by rfl) ?_ hHeld ?_
                    rotate_left
                    · (intro w hSw; (try dsimp only at hSw); go_simp; try with_reducible rfl)
                    simp only [Act.put, List.setIfInBounds_toArray, List.set_cons_zero, List.set_cons_succ]
                    refine take_at (i := 22) 94 (v := ?_) rfl rfl (by kernel_rfl) (by kernel_rfl) (by kernel_rfl) (fun _ _ _ h => h) (by rfl) ?_ hHeld ?_
                    rotate_left
                    · (intro w hSw; (try dsimp only at hSw); go_simp; try with_reducible rfl)
                    simp only [Act.put, List.setIfInBounds_toArray, List.set_cons_zero, List.set_cons_succ]
                    refine take_at (i := 23) 95 (v := ?_) rfl rfl (by kernel_rfl) (by kernel_rfl) (by kernel_rfl) (fun _ _ _ h => h) (by rfl) ?_ hHeld ?_
                    rotate_left
                    · (intro w hSw; (try dsimp only at hSw); go_simp; try with_reducible rfl)
                    simp only [Act.put, List.setIfInBounds_toArray, List.set_cons_zero, List.set_cons_succ]
                    refine take_at (i := 24) 96 (v := ?_) rfl rfl (by kernel_rfl) (by kernel_rfl) (by kernel_rfl) (fun _ _ _ h => h) (by rfl) ?_ hHeld ?_
                    rotate_left
                    · (intro w hSw; (try dsimp only at hSw); go_simp; try with_reducible rfl)
                    simp only [Act.put, List.setIfInBounds_toArray, List.set_cons_zero, List.set_cons_succ]
                    refine take_at (i := 25) 97 (v := ?_) rfl rfl (by kernel_rfl) (by kernel_rfl) (by kernel_rfl) (fun _ _ _ h => h) (by rfl) ?_ hHeld ?_
                    rotate_left
                    · (intro w hSw; (try dsimp only at hSw); go_simp; try with_reducible rfl)
                    simp only [Act.put, List.setIfInBounds_toArray, List.set_cons_zero, List.set_cons_succ]
                    refine take_at (i := 26) 98 (v := ?_) rfl rfl (by kernel_rfl) (by kernel_rfl) (by kernel_rfl) (fun _ _ _ h => h) (by rfl) ?_ hHeld ?_
                    rotate_left
                    · (intro w hSw; (try dsimp only at hSw); go_simp; try with_reducible rfl)
                    simp only [Act.put, List.setIfInBounds_toArray, List.set_cons_zero, List.set_cons_succ]
                    refine run_at (i := 27) rfl (by kernel_rfl) (by rfl) (fun K hK => ?_)
                    simp only [List.getElem_toArray, List.getElem_cons_zero, List.getElem_cons_succ]
                    go_simp
                    first | (go_at_call 35; refine Calls.mono (intMark_t q (by omega) _) ?_; rintro e u2 ⟨rfl, hu2⟩; subst hu2)
                    go_wp2_with fail
                    refine hK.out _ _ (by first | exact hb6.drew | assumption) ?_
                    clear hK K
                    intro hHeld2
                    clear hHeld
                    have hHeld := hHeld2
                    clear hHeld2
                    try simp only [Act.put, List.setIfInBounds_toArray, List.set_cons_zero, List.set_cons_succ]
                    refine take_at (i := 28) 100 (v := ?_) rfl rfl (by kernel_rfl) (by kernel_rfl) (by kernel_rfl) (fun _ _ _ h => h) (by rfl) ?_ hHeld ?_
                    rotate_left
                    · (intro w hSw; (try dsimp only at hSw); go_simp; try with_reducible rfl)
                    simp only [Act.put, List.setIfInBounds_toArray, List.set_cons_zero, List.set_cons_succ]
                    refine take_at (i := 29) 101 (v := ?_) rfl rfl (by kernel_rfl) (by kernel_rfl) (by kernel_rfl) (fun _ _ _ h => h) (by rfl) ?_ hHeld ?_
                    rotate_left
                    · (intro w hSw; (try dsimp only at hSw); go_simp; try with_reducible rfl)
                    simp only [Act.put, List.setIfInBounds_toArray, List.set_cons_zero, List.set_cons_succ]
                    refine take_at (i := 30) 102 (v := ?_) rfl rfl (by kernel_rfl) (by kernel_rfl) (by kernel_rfl) (fun _ _ _ h => h) (by rfl) ?_ hHeld ?_
                    rotate_left
                    · (intro w hSw; (try dsimp only at hSw); go_simp; try with_reducible rfl)
                    simp only [Act.put, List.setIfInBounds_toArray, List.set_cons_zero, List.set_cons_succ]
                    refine wpAnyH_done (by kernel_rfl) ?_ _
                    go_wp2
                    go_roundw
                    case rel => exact ⟨m + 1, by omega, by go_num, HB6.out.drew⟩
                    case measure => simp [intOf]; omega
                  · have hni : ¬ (m : Int) < (nq : Int) := by omega
                    have hdn : decide ((m : Int) < (nq : Int)) = false := decide_eq_false hni
                    go_upto_region 24 with fail
                    refine wp_region_held_drew (S := (fun u => Below w9.heap.size w9 u)) (by kernel_rfl) (by first | exact hb6.drew | assumption) (fun hHeld => ?_)
                    refine take_at (i := 0) 72 (v := ?_) rfl rfl (by kernel_rfl) (by kernel_rfl) (by kernel_rfl) (fun _ _ _ h => h) (by rfl) ?_ hHeld ?_
                    rotate_left
                    · (intro w hSw; (try dsimp only at hSw); go_simp; try with_reducible rfl)
                    simp only [Act.put, List.setIfInBounds_toArray, List.set_cons_zero, List.set_cons_succ]
                    refine take_at (i := 1) 73 (v := ?_) rfl rfl (by kernel_rfl) (by kernel_rfl) (by kernel_rfl) (fun _ _ _ h => h) (by rfl) ?_ hHeld ?_
                    rotate_left
                    · (intro w hSw; (try dsimp only at hSw); go_simp; try with_reducible rfl)
                    simp only [Act.put, List.setIfInBounds_toArray, List.set_cons_zero, List.set_cons_succ]
                    refine take_at (i := 2) 74 (v := ?_) rfl rfl (by kernel_rfl) (by kernel_rfl) (by kernel_rfl) (fun _ _ _ h => h) (by rfl) ?_ hHeld ?_
                    rotate_left
                    · (intro w hSw; (try dsimp only at hSw); go_simp; try with_reducible rfl)
                    simp only [Act.put, List.setIfInBounds_toArray, List.set_cons_zero, List.set_cons_succ]
                    refine take_at (i := 3) 75 (v := ?_) rfl rfl (by kernel_rfl) (by kernel_rfl) (by kernel_rfl) (fun _ _ _ h => h) (by rfl) ?_ hHeld ?_
                    rotate_left
                    · (intro w hSw; (try dsimp only at hSw); go_simp; try with_reducible rfl)
                    simp only [Act.put, List.setIfInBounds_toArray, List.set_cons_zero, List.set_cons_succ]
                    refine take_at (i := 4) 76 (v := ?_) rfl rfl (by kernel_rfl) (by kernel_rfl) (by kernel_rfl) (fun _ _ _ h => h) (by rfl) ?_ hHeld ?_
                    rotate_left
                    · (intro w hSw; (try dsimp only at hSw); go_simp; try with_reducible rfl)
                    simp only [Act.put, List.setIfInBounds_toArray, List.set_cons_zero, List.set_cons_succ]
                    refine take_at (i := 5) 77 (v := ?_) rfl rfl (by kernel_rfl) (by kernel_rfl) (by kernel_rfl) (fun _ _ _ h => h) (by rfl) ?_ hHeld ?_
                    rotate_left
                    · (intro w hSw; (try dsimp only at hSw); go_simp; try with_reducible rfl)
                    simp only [Act.put, List.setIfInBounds_toArray, List.set_cons_zero, List.set_cons_succ]
                    refine take_at (i := 6) 78 (v := ?_) rfl rfl (by kernel_rfl) (by kernel_rfl) (by kernel_rfl) (fun _ _ _ h => h) (by rfl) ?_ hHeld ?_
                    rotate_left
                    · (intro w hSw; (try dsimp only at hSw); go_simp; try with_reducible rfl)
                    simp only [Act.put, List.setIfInBounds_toArray, List.set_cons_zero, List.set_cons_succ]
                    refine take_at (i := 7) 79 (v := ?_) rfl rfl (by kernel_rfl) (by kernel_rfl) (by kernel_rfl) (fun _ _ _ h => h) (by rfl) ?_ hHeld ?_
                    rotate_left
                    · (intro w hSw; (try dsimp only at hSw); go_simp; try with_reducible rfl)
                    simp only [Act.put, List.setIfInBounds_toArray, List.set_cons_zero, List.set_cons_succ]
                    refine run_at (i := 8) rfl (by kernel_rfl) (by rfl) (fun K hK => ?_)
                    simp only [List.getElem_toArray, List.getElem_cons_zero, List.getElem_cons_succ]
                    go_simp
                    first | (go_at_call 35; refine Calls.mono (intMark_t q (by omega) _) ?_; rintro e u2 ⟨rfl, hu2⟩; subst hu2)
                    go_wp2_with fail
                    refine hK.out _ _ (by first | exact hb6.drew | assumption) ?_
                    clear hK K
                    intro hHeld2
                    clear hHeld
                    have hHeld := hHeld2
                    clear hHeld2
                    try simp only [Act.put, List.setIfInBounds_toArray, List.set_cons_zero, List.set_cons_succ]
                    refine take_at (i := 9) 81 (v := ?_) rfl rfl (by kernel_rfl) (by kernel_rfl) (by kernel_rfl) (fun _ _ _ h => h) (by rfl) ?_ hHeld ?_
                    rotate_left
                    · (intro w hSw; (try dsimp only at hSw); go_simp; try with_reducible rfl)
                    simp only [Act.put, List.setIfInBounds_toArray, List.set_cons_zero, List.set_cons_succ]
                    refine take_at (i := 10) 82 (v := ?_) rfl rfl (by kernel_rfl) (by kernel_rfl) (by kernel_rfl) (fun _ _ _ h => h) (by rfl) ?_ hHeld ?_
                    rotate_left
                    · (intro w hSw; (try dsimp only at hSw); go_simp; try with_reducible rfl)
                    simp only [Act.put, List.setIfInBounds_toArray, List.set_cons_zero, List.set_cons_succ]
                    refine take_at (i := 11) 83 (v := ?_) rfl rfl (by kernel_rfl) (by kernel_rfl) (by kernel_rfl) (fun _ _ _ h => h) (by rfl) ?_ hHeld ?_
                    rotate_left
                    · (intro w hSw; (try dsimp only at hSw); go_simp; try with_reducible rfl)
                    simp only [Act.put, List.setIfInBounds_toArray, List.set_cons_zero, List.set_cons_succ]
                    refine take_at (i := 12) 84 (v := ?_) rfl rfl (by kernel_rfl) (by kernel_rfl) (by kernel_rfl) (fun _ _ _ h => h) (by rfl) ?_ hHeld ?_
                    rotate_left
                    · (intro w hSw; (try dsimp only at hSw); go_simp; try with_reducible rfl)
                    simp only [Act.put, List.setIfInBounds_toArray, List.set_cons_zero, List.set_cons_succ]
                    refine take_at (i := 13) 85 (v := ?_) rfl rfl (by kernel_rfl) (by kernel_rfl) (by kernel_rfl) (fun _ _ _ h => h) (by rfl) ?_ hHeld ?_
                    rotate_left
                    · (intro w hSw; (try dsimp only at hSw); go_simp; try with_reducible rfl)
                    simp only [Act.put, List.setIfInBounds_toArray, List.set_cons_zero, List.set_cons_succ]
                    refine take_at (i := 14) 86 (v := ?_) rfl rfl (by kernel_rfl) (by kernel_rfl) (by kernel_rfl) (fun _ _ _ h => h) (by rfl) ?_ hHeld ?_
                    rotate_left
                    · (intro w hSw; (try dsimp only at hSw); go_simp; try with_reducible rfl)
                    simp only [Act.put, List.setIfInBounds_toArray, List.set_cons_zero, List.set_cons_succ]
                    refine take_at (i := 15) 87 (v := ?_) rfl rfl (by kernel_rfl) (by kernel_rfl) (by kernel_rfl) (fun _ _ _ h => h) (by rfl) ?_ hHeld ?_
                    rotate_left
                    · (intro w hSw; (try dsimp only at hSw); go_simp; try with_reducible rfl)
                    simp only [Act.put, List.setIfInBounds_toArray, List.set_cons_zero, List.set_cons_succ]
                    refine take_at (i := 16) 88 (v := ?_) rfl rfl (by kernel_rfl) (by kernel_rfl) (by kernel_rfl) (fun _ _ _ h => h) (by rfl) ?_ hHeld ?_
                    rotate_left
                    · (intro w hSw; (try dsimp only at hSw); go_simp; try with_reducible rfl)
                    simp only [Act.put, List.setIfInBounds_toArray, List.set_cons_zero, List.set_cons_succ]
                    refine take_at (i := 17) 89 (v := ?_) rfl rfl (by kernel_rfl) (by kernel_rfl) (by kernel_rfl) (fun _ _ _ h => h) (by rfl) ?_ hHeld ?_
                    rotate_left
                    · (intro w hSw; (try dsimp only at hSw); go_simp; try with_reducible rfl)
                    simp only [Act.put, List.setIfInBounds_toArray, List.set_cons_zero, List.set_cons_succ]
                    refine take_at (i := 18) 90 (v := ?_) rfl rfl (by kernel_rfl) (by kernel_rfl) (by kernel_rfl) (fun _ _ _ h => h) (by rfl) ?_ hHeld ?_
                    rotate_left
                    · (intro w hSw; (try dsimp only at hSw); go_simp; try with_reducible rfl)
                    simp only [Act.put, List.setIfInBounds_toArray, List.set_cons_zero, List.set_cons_succ]
                    refine skip_at (i := 19) 91 rfl rfl (by kernel_rfl) (by kernel_rfl) (by kernel_rfl) (fun _ _ _ h => h) (by rfl) hHeld ?_
                    simp only [Act.put, List.setIfInBounds_toArray, List.set_cons_zero, List.set_cons_succ]
                    refine skip_at (i := 20) 92 rfl rfl (by kernel_rfl) (by kernel_rfl) (by kernel_rfl) (fun _ _ _ h => h) (by rfl) hHeld ?_
                    simp only [Act.put, List.setIfInBounds_toArray, List.set_cons_zero, List.set_cons_succ]
                    refine skip_at (i := 21) 93 rfl rfl (by kernel_rfl) (by kernel_rfl) (by kernel_rfl) (fun _ _ _ h => h) (by rfl) hHeld ?_
                    simp only [Act.put, List.setIfInBounds_toArray, List.set_cons_zero, List.set_cons_succ]
                    refine skip_at (i := 22) 94 rfl rfl (by kernel_rfl) (by kernel_rfl) (by kernel_rfl) (fun _ _ _ h => h) (by rfl) hHeld ?_
                    simp only [Act.put, List.setIfInBounds_toArray, List.set_cons_zero, List.set_cons_succ]
                    refine skip_at (i := 23) 95 rfl rfl (by kernel_rfl) (by kernel_rfl) (by kernel_rfl) (fun _ _ _ h => h) (by rfl) hHeld ?_
                    simp only [Act.put, List.setIfInBounds_toArray, List.set_cons_zero, List.set_cons_succ]
                    refine skip_at (i := 24) 96 rfl rfl (by kernel_rfl) (by kernel_rfl) (by kernel_rfl) (fun _ _ _ h => h) (by rfl) hHeld ?_
                    simp only [Act.put, List.setIfInBounds_toArray, List.set_cons_zero, List.set_cons_succ]
                    refine skip_at (i := 25) 97 rfl rfl (by kernel_rfl) (by kernel_rfl) (by kernel_rfl) (fun _ _ _ h => h) (by rfl) hHeld ?_
                    simp only [Act.put, List.setIfInBounds_toArray, List.set_cons_zero, List.set_cons_succ]
                    refine skip_at (i := 26) 98 rfl rfl (by kernel_rfl) (by kernel_rfl) (by kernel_rfl) (fun _ _ _ h => h) (by rfl) hHeld ?_
                    simp only [Act.put, List.setIfInBounds_toArray, List.set_cons_zero, List.set_cons_succ]
                    refine skip_at (i := 27) 99 rfl rfl (by kernel_rfl) (by kernel_rfl) (by kernel_rfl) (fun _ _ _ h => h) (by rfl) hHeld ?_
                    simp only [Act.put, List.setIfInBounds_toArray, List.set_cons_zero, List.set_cons_succ]
                    refine skip_at (i := 28) 100 rfl rfl (by kernel_rfl) (by kernel_rfl) (by kernel_rfl) (fun _ _ _ h => h) (by rfl) hHeld ?_
                    simp only [Act.put, List.setIfInBounds_toArray, List.set_cons_zero, List.set_cons_succ]
                    refine take_at (i := 29) 101 (v := ?_) rfl rfl (by kernel_rfl) (by kernel_rfl) (by kernel_rfl) (fun _ _ _ h => h) (by rfl) ?_ hHeld ?_
                    rotate_left
                    · (intro w hSw; (try dsimp only at hSw); go_simp; try with_reducible rfl)
                    simp only [Act.put, List.setIfInBounds_toArray, List.set_cons_zero, List.set_cons_succ]
                    refine take_at (i := 30) 102 (v := ?_) rfl rfl (by kernel_rfl) (by kernel_rfl) (by kernel_rfl) (fun _ _ _ h => h) (by rfl) ?_ hHeld ?_
                    rotate_left
                    · (intro w hSw; (try dsimp only at hSw); go_simp; try with_reducible rfl)
                    simp only [Act.put, List.setIfInBounds_toArray, List.set_cons_zero, List.set_cons_succ]
                    refine wpAnyH_done (by kernel_rfl) ?_ _
                    go_wp2
                    go_roundw
                    case rel => exact ⟨m + 1, by omega, by go_num, HB6.out.drew⟩
                    case measure => simp [intOf]; omega
                · obtain rfl : m = nq + 64 := by omega
                  have hmi : ¬ (((nq + 64 : Nat) : Int) < ((nq + 64 : Nat) : Int)) := by omega
                  clear hb6
                  go_wp2
                  go_roundw
                  case rel => exact ⟨q + 1, by omega, by go_num, HB6.out⟩
                  case measure => simp [intOf]; omega
            · obtain rfl : q = p := by omega
              have hqI : ¬ ((q : Int) < (q : Int)) := by omega
              go_wp2
              go_ret
              exact ⟨rfl, HB3.out.below HB5.out⟩
end
end Go.Proofs.YtnfikcegmicooabDoor
