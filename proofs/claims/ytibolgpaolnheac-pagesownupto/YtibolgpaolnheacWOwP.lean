import Derived.Test.YtibolgpaolnheacNOw
import Derived.Test.YtibolgpaolnheacQW
import Derived.Test.YtibolgpaolnheacOpenL
namespace Go.Proofs.Ytibolgpaolnheac
set_option linter.unusedVariables false
set_option linter.unusedSimpArgs false
open Go.RowKit Go.Shelf
theorem rowI_base {w : World} {B B' : Nat} {t : TypeId} {sz n : Nat} {x : Value} {cs : List Value} (h : w.ownsRow B t sz x n cs) (hB : B' ≤ B) : w.ownsRow B' t sz x n cs := by
  refine ⟨h.1, ?_⟩
  rcases h.2 with h0 | ⟨g, cap, cur, e, hB2, hg, r⟩
  · exact .inl h0
  · exact .inr ⟨g, cap, cur, e, Nat.le_trans hB hB2, hg, r⟩
theorem IntsAt.push2 {w : World} {B : Nat} {vs : List Value} {C : Nat → List Value} (h : IntsAt w B vs C) {va vb : Value} {L : List Value} (ha : w.ownsRow B tI 1 va L.length L) (hb : w.ownsRow B tI 1 vb L.length L)
    (hav : ∀ v ∈ vs, apI v va) (hbv : ∀ v ∈ vs, apI v vb) (hab : apI va vb) : IntsAt w B (vs ++ [va, vb]) (fun j => if j < vs.length then C j else L) := by
  refine ⟨fun j v hv => ?_, ?_⟩
  · by_cases hj : j < vs.length
    · rw [List.getElem?_append_left hj] at hv
      simp only [if_pos hj]
      exact h.own j v hv
    · rw [List.getElem?_append_right (by omega)] at hv
      simp only [if_neg hj]
      obtain ⟨t, ht⟩ : ∃ t, t = j - vs.length := ⟨_, rfl⟩
      rw [← ht] at hv
      match t, hv with
      | 0, hv => cases hv; exact ha
      | 1, hv => cases hv; exact hb
      | t + 2, hv => simp at hv
  · rw [List.pairwise_append]
    refine ⟨h.ap, ?_, fun v hv y hy => ?_⟩
    · rw [List.pairwise_cons]
      exact ⟨fun y hy => by obtain rfl := List.mem_singleton.1 hy; exact hab, List.pairwise_singleton _ _⟩
    · simp at hy
      rcases hy with rfl | rfl
      · exact hav v hv
      · exact hbv v hv
theorem two_vsI {w : World} {N : Nat} {x y : Value} {t : TypeId} (hN : w.heap[N]? = some (.cells #[x, y] t (0, 0))) : ∀ j u, [x, y][j]? = some u → w.cell? ⟨N, j, none⟩ = some u := fun j u hu => by
  rw [cell_of_row _ _ _ _ _ _ hN]
  simpa using hu
theorem ChI.toBelow {F : Nat → Prop} {w w' : World} {B : Nat} (h : ChI F w w') (hF : ∀ b, F b → B ≤ b) (hB : B ≤ w.heap.size) : Below B w w' := ⟨h.os, h.tape, h.output, h.size, fun k hk => h.block k (by omega) (fun hf => by have := hF k hf; omega)⟩
section
set_option maxRecDepth 20000
set_option maxHeartbeats 6400000
theorem pagesOwn_walk (z : Int) (a : Option Addr) (cap : Nat) (xs : List Stp) (W : World) (hr : RdO W a xs) (hl : xs.length ≤ cap) (hn : a = none → cap = 0) (hc : xs.length ≤ 1048576) :
    Calls Try.prog 4 #[.agg #[.int .i64 z, .slice a xs.length cap]] W fun e W' => e = .returned (.bool true) ∧ Below W.heap.size W W' := by
  obtain ⟨N, hN⟩ : ∃ N, N = xs.length := ⟨_, rfl⟩
  rw [← hN] at hl hc ⊢
  have HR : Hid (RdO W a xs) := hr
  have HN : Hid (N = xs.length) := hN
  obtain ⟨G, hG⟩ : ∃ G, G = W.heap.size := ⟨_, rfl⟩
  obtain ⟨w1, hw1⟩ : ∃ X : World, X = W.alloc (.cells #[.int .i64 z, .slice a N cap] tSc) := ⟨_, rfl⟩
  have HB1 : Hid (Below W.heap.size W w1) := (show Below _ _ _ by rw [hw1]; exact al (Below.refl _ _) _)
  have HX1 : Hid (w1.heap[G]? = some (.cells #[.int .i64 z, .slice a N cap] tSc (0, 0))) := (show _ = _ by rw [hw1, hG]; exact heap_alloc_new W _)
  obtain ⟨B, hB⟩ : ∃ B, B = w1.heap.size := ⟨_, rfl⟩
  have HBB : Hid (B = w1.heap.size) := hB
  have HCL : Hid (∀ u, Below B w1 u → u.cell? ⟨G, 1, none⟩ = some (.slice a N cap)) := (fun u hu => by
    rw [hB] at hu
    have h9 := (hu.block G (Array.getElem?_eq_some_iff.1 HX1.out).1).trans HX1.out
    rw [cell_of_row _ _ _ _ _ _ h9]; rfl)
  have HBL : Hid (∀ u, Below B w1 u → Below w1.heap.size w1 u) := (fun u hu => by rw [← hB]; exact hu)
  clear hr hN hB
  go_enter Try.func4, Try.ntmps4
  go_wp2_with fail
  rw [← hw1]
  simp only [← hG]
  clear hw1 hG
  refine Calls.mono (begin_duo (B := B) z w1 (Nat.le_of_eq HBB.out)) ?_
  rintro e w2 ⟨x, y, F, rfl, hd, -, hb2⟩
  have HD : Hid (Duo B w2 x y F 0) := hd
  have HB2 : Hid (Below B w1 w2) := (show Below _ _ _ by rw [HBB.out]; exact hb2)
  clear hd hb2
  go_wp2_with fail
  go_loopw [6, 7] (fun al9 i wr => ∃ (k : Nat) (F : Nat → Prop) (vs : List Value) (C : Nat → List Value), k ≤ N ∧ i = .int .i64 (k : Int) ∧ vs.length = 2 * k ∧ Duo B wr x y F k ∧ wr.ownsRow B tIs 1 al9 vs.length vs ∧ IntsAt wr B vs C ∧ (∀ j, (C j).length ≤ N) ∧ Below B w1 wr) (fun _ i _ => N - (intOf i).toNat)
  case atStart => exact ⟨0, F, [], (fun _ => []), Nat.zero_le _, rfl, rfl, HD.out, World.ownsRow_nil _ _ _ _, ⟨(fun j v hv => by simp at hv), List.Pairwise.nil⟩, (fun _ => Nat.zero_le _), HB2.out⟩
  case round =>
    clear HD F
    obtain ⟨k, F, vs, C, hk, rfl, hvl, hd, hal, hix, hcl, hbel⟩ := hrel
    have HD : Hid (Duo B wr x y F k) := hd
    have HAL : Hid (wr.ownsRow B tIs 1 u6 vs.length vs) := hal
    have HIX : Hid (IntsAt wr B vs C) := hix
    have HCC : Hid (∀ j, (C j).length ≤ N) := hcl
    have HVL : Hid (vs.length = 2 * k) := hvl
    have HBEL : Hid (Below B w1 wr) := hbel
    have HSZ : Hid (B ≤ wr.heap.size) := (show _ ≤ _ by rw [HBB.out]; exact hbel.size)
    have hce := HCL.out wr hbel
    obtain ⟨a6, c6, hv6, -⟩ := rowI_val hal
    rw [hvl] at hv6
    subst hv6
    clear hvl hd hal hix hcl hbel
    by_cases hlt : k < N
    · have hkx : k < xs.length := by have := HN.out; omega
      obtain ⟨b, o, rfl, hr⟩ := HR.out k hkx
      obtain ⟨kd, t1, t2, tn, hx⟩ : ∃ kd t1 t2 tn, xs[k] = (kd, ⟨(t1, t2), tn⟩) := ⟨_, _, _, _, rfl⟩
      rw [hx] at hr
      have HRX : Hid (∀ u, Below B w1 u → u.rangeAt b (o + k * 4) (opv (kd, ⟨(t1, t2), tn⟩))) := (fun u hu => rangeAt_below hr (below_next HB1.out (HBL.out u hu)))
      have hki : (k : Int) < (N : Int) := by omega
      have hk0 : (0 : Int) ≤ (k : Int) := by omega
      clear hr hx
      go_wp2_with (first | (refine wpList_load_mid rfl tOp _ rfl b (o + k * 4) rfl (opv (kd, ⟨(t1, t2), tn⟩)) _ (HRX.out _ HBEL.out) Try.underlying38 rfl info_op4 ?_))
      refine Calls.mono (ask_duo HD.out (by omega) HSZ.out kd t1 t2 tn) ?_
      rintro e v1 ⟨a1, M1, c1, rfl, hb1, hdoc⟩
      have HDOC : Hid _ := hdoc
      have HBV1 : Hid (Below B w1 v1) := HBEL.out.trans hb1
      have hce1 := HCL.out v1 HBV1.out
      clear hdoc hb1 hce
      go_wp2_with (first | (refine wpList_load_mid rfl tOp _ rfl b (o + k * 4) rfl (opv (kd, ⟨(t1, t2), tn⟩)) _ (HRX.out _ HBV1.out) Try.underlying38 rfl info_op4 ?_))
      refine Calls.mono HDOC.out ?_
      rintro e v2 ⟨a2, M2, c2, rfl, hb2, -, F2, hd2, hF2, hch2⟩
      have HD2 : Hid (Duo B v2 x y F2 (k + 1)) := hd2
      have HBV2 : Hid (Below B w1 v2) := HBEL.out.trans hb2
      have HAL2 : Hid (v2.ownsRow B tIs 1 (.slice a6 (2 * k) c6) vs.length vs) := HD.out.row hch2 (.inr rfl) HAL.out
      have HIX2 : Hid (IntsAt v2 B vs C) := ⟨fun j v hv => HD.out.row hch2 (.inl rfl) (HIX.out.own j v hv), HIX.out.ap⟩
      obtain ⟨L, hL, hLi, hpx, hpy⟩ := duo_pages hd2 (by omega)
      have HPX : Hid _ := hpx
      have HPY : Hid _ := hpy
      have HLI : Hid (∀ (j : Nat) (v : Value), L[j]? = some v → ∃ z : Int, v = .int .i64 z) := hLi
      obtain ⟨M, hM⟩ : ∃ M, M = L.length := ⟨_, rfl⟩
      rw [← hM] at hL
      have HM : Hid (M = L.length) := hM
      clear hd2 hF2 hch2 hb2 hpx hpy hLi hM hce1 HDOC
      go_wp2_with fail
      refine Calls.mono (HPX.out v2 (Below.refl _ _)) ?_
      rintro e v3 ⟨va, rfl, hoa, hb3⟩
      obtain ⟨pa, qa, hva, -⟩ := rowI_val hoa
      rw [← HM.out] at hva
      subst hva
      have HOA : Hid (v3.ownsRow v2.heap.size tI 1 (.slice pa M qa) L.length L) := hoa
      have HB3 : Hid (Below v2.heap.size v2 v3) := hb3
      clear hoa hb3
      go_wp2_with fail
      refine Calls.mono (HPX.out v3 HB3.out) ?_
      rintro e v4 ⟨vb, rfl, hob, hb4⟩
      obtain ⟨pb, qb, hvb, -⟩ := rowI_val hob
      rw [← HM.out] at hvb
      subst hvb
      have HOB : Hid (v4.ownsRow v3.heap.size tI 1 (.slice pb M qb) L.length L) := hob
      have HB4 : Hid (Below v3.heap.size v3 v4) := hb4
      clear hob hb4
      go_wp2_with fail
      refine Calls.mono (HPY.out v4 (below_next HB3.out HB4.out)) ?_
      rintro e v5 ⟨vc, rfl, hoc, hb5⟩
      obtain ⟨pc, qc, hvc, -⟩ := rowI_val hoc
      rw [← HM.out] at hvc
      subst hvc
      have HOC : Hid (v5.ownsRow v4.heap.size tI 1 (.slice pc M qc) L.length L) := hoc
      have HB5 : Hid (Below v4.heap.size v4 v5) := hb5
      clear hoc hb5
      have HCE : Hid (∀ u, Below v5.heap.size v5 u → ∀ m, m < M → ∃ (ga gb gc : Nat) (zz : Int), pa = some ⟨ga, 0, none⟩ ∧ pb = some ⟨gb, 0, none⟩ ∧ pc = some ⟨gc, 0, none⟩ ∧ L[m]? = some (.int .i64 zz) ∧ u.cell? ⟨ga, m, none⟩ = some (.int .i64 zz) ∧ u.cell? ⟨gb, m, none⟩ = some (.int .i64 zz) ∧ u.cell? ⟨gc, m, none⟩ = some (.int .i64 zz)) := (fun u hu m hm => by
        have hmL : m < L.length := by have := HM.out; omega
        obtain ⟨zz, hzz⟩ := HLI.out m L[m] (List.getElem?_eq_getElem hmL)
        have h1 := rowI_below (rowI_below (rowI_below HOA.out HB4.out) HB5.out) hu
        have h2 := rowI_below (rowI_below HOB.out HB5.out) hu
        have h3 := rowI_below HOC.out hu
        obtain ⟨_, _, e1, -, r1⟩ := rowI_val h1
        obtain ⟨_, _, e2, -, r2⟩ := rowI_val h2
        obtain ⟨_, _, e3, -, r3⟩ := rowI_val h3
        cases e1; cases e2; cases e3
        obtain ⟨ga, e4, r4⟩ := r1 m hmL
        obtain ⟨gb, e5, r5⟩ := r2 m hmL
        obtain ⟨gc, e6, r6⟩ := r3 m hmL
        have hz9 : L[m]? = some (.int .i64 zz) := by rw [List.getElem?_eq_getElem hmL, hzz]
        exact ⟨ga, gb, gc, zz, e4, e5, e6, hz9, r4.trans hz9, r5.trans hz9, r6.trans hz9⟩)
      go_wp2_with fail
      go_loopw [11] (fun j wr5 => ∃ m : Nat, m ≤ M ∧ j = .int .i64 (m : Int) ∧ Below v5.heap.size v5 wr5) (fun j _ => M - (intOf j).toNat)
      case atStart => exact ⟨0, Nat.zero_le _, rfl, Below.refl _ _⟩
      case round =>
        obtain ⟨m, hm, rfl, hb6⟩ := hrel
        rename World => v6
        have HB6 : Hid (Below v5.heap.size v5 v6) := hb6
        by_cases hlm : m < M
        · obtain ⟨ga, gb, gc, zz, rfl, rfl, rfl, hzz, -⟩ := HCE.out v6 hb6 m hlm
          have hA : ∀ u, Below v5.heap.size v5 u → u.cell? ⟨ga, m, none⟩ = some (.int .i64 zz) := fun u hu => by
            obtain ⟨_, _, _, z9, e1, e2, e3, h4, h5, h6, h7⟩ := HCE.out u hu m hlm
            cases e1; cases e2; cases e3
            rw [hzz] at h4; cases h4; exact h5
          have hBb : ∀ u, Below v5.heap.size v5 u → u.cell? ⟨gb, m, none⟩ = some (.int .i64 zz) := fun u hu => by
            obtain ⟨_, _, _, z9, e1, e2, e3, h4, h5, h6, h7⟩ := HCE.out u hu m hlm
            cases e1; cases e2; cases e3
            rw [hzz] at h4; cases h4; exact h6
          have hCc : ∀ u, Below v5.heap.size v5 u → u.cell? ⟨gc, m, none⟩ = some (.int .i64 zz) := fun u hu => by
            obtain ⟨_, _, _, z9, e1, e2, e3, h4, h5, h6, h7⟩ := HCE.out u hu m hlm
            cases e1; cases e2; cases e3
            rw [hzz] at h4; cases h4; exact h7
          have hmi : (m : Int) < (M : Int) := by omega
          have hm0 : (0 : Int) ≤ (m : Int) := by omega
          go_upto_region 16 with fail
          refine wp_region_held_drew (S := (fun u => Below v5.heap.size v5 u)) (by kernel_rfl) (by first | exact hb6.drew | assumption) (fun hHeld => ?_)
          refine take_at (i := 0) 66 (v := ?_) rfl rfl (by kernel_rfl) (by kernel_rfl) (by kernel_rfl) (fun _ _ _ h => h) (by rfl) ?_ hHeld ?_
          rotate_left
          · (intro w hSw; (try dsimp only at hSw); go_simp; try with_reducible rfl)
          simp only [Act.put, List.setIfInBounds_toArray, List.set_cons_zero, List.set_cons_succ]
          refine take_at (i := 1) 67 (v := ?_) rfl rfl (by kernel_rfl) (by kernel_rfl) (by kernel_rfl) (fun _ _ _ h => h) (by rfl) ?_ hHeld ?_
          rotate_left
          · (intro w hSw; (try dsimp only at hSw); go_simp; try with_reducible rfl)
          simp only [Act.put, List.setIfInBounds_toArray, List.set_cons_zero, List.set_cons_succ]
          refine take_at (i := 2) 68 (v := ?_) rfl rfl (by kernel_rfl) (by kernel_rfl) (by kernel_rfl) (fun _ _ _ h => h) (by rfl) ?_ hHeld ?_
          rotate_left
          · (intro w hSw; (try dsimp only at hSw); go_simp; try with_reducible rfl)
          simp only [Act.put, List.setIfInBounds_toArray, List.set_cons_zero, List.set_cons_succ]
          refine take_at (i := 3) 69 (v := ?_) rfl rfl (by kernel_rfl) (by kernel_rfl) (by kernel_rfl) (fun _ _ _ h => h) (by rfl) ?_ hHeld ?_
          rotate_left
          · (intro w hSw; (try dsimp only at hSw); go_simp; try with_reducible rfl)
          simp only [Act.put, List.setIfInBounds_toArray, List.set_cons_zero, List.set_cons_succ]
          refine take_at (i := 4) 70 (v := ?_) rfl rfl (by kernel_rfl) (by kernel_rfl) (by kernel_rfl) (fun _ _ _ h => h) (by rfl) ?_ hHeld ?_
          rotate_left
          · (intro w hSw; (try dsimp only at hSw); go_simp; try with_reducible rfl)
          simp only [Act.put, List.setIfInBounds_toArray, List.set_cons_zero, List.set_cons_succ]
          refine take_at (i := 5) 71 (v := ?_) rfl rfl (by kernel_rfl) (by kernel_rfl) (by kernel_rfl) (fun _ _ _ h => h) (by rfl) ?_ hHeld ?_
          rotate_left
          · (intro w hSw; (try dsimp only at hSw); go_simp; try with_reducible rfl)
          simp only [Act.put, List.setIfInBounds_toArray, List.set_cons_zero, List.set_cons_succ]
          refine take_at (i := 6) 72 (v := ?_) rfl rfl (by kernel_rfl) (by kernel_rfl) (by kernel_rfl) (fun _ _ _ h => h) (by rfl) ?_ hHeld ?_
          rotate_left
          · (intro w hSw; (try dsimp only at hSw); go_simp; try with_reducible rfl)
          simp only [Act.put, List.setIfInBounds_toArray, List.set_cons_zero, List.set_cons_succ]
          refine take_at (i := 7) 73 (v := ?_) rfl rfl (by kernel_rfl) (by kernel_rfl) (by kernel_rfl) (fun _ _ _ h => h) (by rfl) ?_ hHeld ?_
          rotate_left
          · (intro w hSw; (try dsimp only at hSw); go_simp; try with_reducible rfl)
          simp only [Act.put, List.setIfInBounds_toArray, List.set_cons_zero, List.set_cons_succ]
          refine take_at (i := 8) 74 (v := ?_) rfl rfl (by kernel_rfl) (by kernel_rfl) (by kernel_rfl) (fun _ _ _ h => h) (by rfl) ?_ hHeld ?_
          rotate_left
          · (intro w hSw; (try dsimp only at hSw); go_simp; try with_reducible rfl)
          simp only [Act.put, List.setIfInBounds_toArray, List.set_cons_zero, List.set_cons_succ]
          refine take_at (i := 9) 75 (v := ?_) rfl rfl (by kernel_rfl) (by kernel_rfl) (by kernel_rfl) (fun _ _ _ h => h) (by rfl) ?_ hHeld ?_
          rotate_left
          · (intro w hSw; (try dsimp only at hSw); go_simp; try with_reducible rfl)
          simp only [Act.put, List.setIfInBounds_toArray, List.set_cons_zero, List.set_cons_succ]
          refine take_at (i := 10) 76 (v := ?_) rfl rfl (by kernel_rfl) (by kernel_rfl) (by kernel_rfl) (fun _ _ _ h => h) (by rfl) ?_ hHeld ?_
          rotate_left
          · (intro w hSw; (try dsimp only at hSw); go_simp; try with_reducible rfl)
          simp only [Act.put, List.setIfInBounds_toArray, List.set_cons_zero, List.set_cons_succ]
          refine take_at (i := 11) 77 (v := ?_) rfl rfl (by kernel_rfl) (by kernel_rfl) (by kernel_rfl) (fun _ _ _ h => h) (by rfl) ?_ hHeld ?_
          rotate_left
          · (intro w hSw; (try dsimp only at hSw); go_simp; try with_reducible rfl)
          simp only [Act.put, List.setIfInBounds_toArray, List.set_cons_zero, List.set_cons_succ]
          refine take_at (i := 12) 78 (v := ?_) rfl rfl (by kernel_rfl) (by kernel_rfl) (by kernel_rfl) (fun _ _ _ h => h) (by rfl) ?_ hHeld ?_
          rotate_left
          · (intro w hSw; (try dsimp only at hSw); go_simp; try with_reducible rfl)
          simp only [Act.put, List.setIfInBounds_toArray, List.set_cons_zero, List.set_cons_succ]
          refine take_at (i := 13) 79 (v := ?_) rfl rfl (by kernel_rfl) (by kernel_rfl) (by kernel_rfl) (fun _ _ _ h => h) (by rfl) ?_ hHeld ?_
          rotate_left
          · (intro w hSw; (try dsimp only at hSw); go_simp; try with_reducible rfl)
          simp only [Act.put, List.setIfInBounds_toArray, List.set_cons_zero, List.set_cons_succ]
          refine take_at (i := 14) 80 (v := ?_) rfl rfl (by kernel_rfl) (by kernel_rfl) (by kernel_rfl) (fun _ _ _ h => h) (by rfl) ?_ hHeld ?_
          rotate_left
          · (intro w hSw; (try dsimp only at hSw); go_simp; try with_reducible rfl)
          simp only [Act.put, List.setIfInBounds_toArray, List.set_cons_zero, List.set_cons_succ]
          refine take_at (i := 15) 81 (v := ?_) rfl rfl (by kernel_rfl) (by kernel_rfl) (by kernel_rfl) (fun _ _ _ h => h) (by rfl) ?_ hHeld ?_
          rotate_left
          · (intro w hSw; (try dsimp only at hSw); go_simp; try with_reducible rfl)
          simp only [Act.put, List.setIfInBounds_toArray, List.set_cons_zero, List.set_cons_succ]
          refine take_at (i := 16) 82 (v := ?_) rfl rfl (by kernel_rfl) (by kernel_rfl) (by kernel_rfl) (fun _ _ _ h => h) (by rfl) ?_ hHeld ?_
          rotate_left
          · (intro w hSw; (try dsimp only at hSw); go_simp; try with_reducible rfl)
          simp only [Act.put, List.setIfInBounds_toArray, List.set_cons_zero, List.set_cons_succ]
          refine take_at (i := 17) 83 (v := ?_) rfl rfl (by kernel_rfl) (by kernel_rfl) (by kernel_rfl) (fun _ _ _ h => h) (by rfl) ?_ hHeld ?_
          rotate_left
          · (intro w hSw; (try dsimp only at hSw); go_simp; try with_reducible rfl)
          simp only [Act.put, List.setIfInBounds_toArray, List.set_cons_zero, List.set_cons_succ]
          refine take_at (i := 18) 84 (v := ?_) rfl rfl (by kernel_rfl) (by kernel_rfl) (by kernel_rfl) (fun _ _ _ h => h) (by rfl) ?_ hHeld ?_
          rotate_left
          · (intro w hSw; (try dsimp only at hSw); go_simp; try with_reducible rfl)
          simp only [Act.put, List.setIfInBounds_toArray, List.set_cons_zero, List.set_cons_succ]
          refine take_at (i := 19) 85 (v := ?_) rfl rfl (by kernel_rfl) (by kernel_rfl) (by kernel_rfl) (fun _ _ _ h => h) (by rfl) ?_ hHeld ?_
          rotate_left
          · (intro w hSw; (try dsimp only at hSw); go_simp; try with_reducible rfl)
          simp only [Act.put, List.setIfInBounds_toArray, List.set_cons_zero, List.set_cons_succ]
          refine wpAnyH_done (by kernel_rfl) ?_ _
          go_wp2
          go_roundw
          case rel => exact ⟨m + 1, by omega, by go_num, HB6.out.drew⟩
          case measure => simp [intOf]; omega
        · obtain rfl : m = M := by omega
          have hmI : ¬ ((m : Int) < (m : Int)) := by omega
          clear hb6
          have HV26 : Hid (Below v2.heap.size v2 v6) := below_next (below_next (below_next HB3.out HB4.out) HB5.out) HB6.out
          have HBS : Hid (B ≤ v6.heap.size) := (show _ ≤ _ by have h8 := HBV2.out.size; have h9 := HV26.out.size; have := HBB.out; omega)
          have HAB : Hid (∀ ob, Below v6.heap.size v6 (v6.alloc ob)) := (fun ob => al (Below.refl _ _) ob)
          have HAL6 : Hid (∀ ob, (v6.alloc ob).ownsRow B tIs 1 (.slice a6 (2 * k) c6) vs.length vs) := (fun ob => rowI_below (rowI_below HAL2.out HV26.out) (HAB.out ob))
          have HLV : Hid (vs.length + [Value.slice pa m qa, Value.slice pb m qb].length ≤ 5000000000000) := (show _ ≤ _ by rw [HVL.out]; simp; omega)
          go_wp2_with (first | (at_builtin; refine wp_appsI rfl _ _ rfl B _ vs [.slice pa m qa, .slice pb m qb] (by rfl) (HAL6.out _) _ 2 2 rfl (by rfl) (two_vsI (heap_alloc_new v6 _)) (by intro u9 hu9; simp at hu9; rcases hu9 with rfl | rfl <;> rfl) HLV.out (Nat.le_trans HBS.out (HAB.out _).size) ?_; intro v7 w7 hown hg; have HO7 : Hid _ := hown; have HG7 : Hid _ := hg; clear hown hg))
          have hB2z : B ≤ v2.heap.size := by have h8 := HBV2.out.size; have := HBB.out; omega
          have hIq := (HIX2.out.below HV26.out).below (HAB.out (.cells #[.slice pa m qa, .slice pb m qb] tIs))
          have hAq := rowI_base (rowI_below (rowI_below (rowI_below (rowI_below HOA.out HB4.out) HB5.out) HB6.out) (HAB.out (.cells #[.slice pa m qa, .slice pb m qb] tIs))) hB2z
          have hBq := rowI_base (rowI_below (rowI_below (rowI_below HOB.out HB5.out) HB6.out) (HAB.out (.cells #[.slice pa m qa, .slice pb m qb] tIs))) (Nat.le_trans hB2z HB3.out.size)
          have hv2 : ∀ v ∈ vs, ∀ b, v.ownBlock = some b → b < v2.heap.size := fun v hv b hb => by
            obtain ⟨t, ht, e⟩ := List.getElem_of_mem hv
            exact (World.ownsRow.lt (HIX2.out.own t v (by rw [List.getElem?_eq_getElem ht, e])) b hb).2
          have hP := hIq.push2 hAq hBq (fun v hv b h1 h2 => by have h8 := hv2 v hv b h1; have h9 := (World.ownsRow.lt HOA.out b h2).1; omega) (fun v hv b h1 h2 => by have h8 := hv2 v hv b h1; have h9 := (World.ownsRow.lt HOB.out b h2).1; have := HB3.out.size; omega) (fun b h1 h2 => by have h8 := (World.ownsRow.lt HOA.out b h1).2; have h9 := (World.ownsRow.lt HOB.out b h2).1; omega)
          have HIX7 : Hid (IntsAt w7 B (vs ++ [.slice pa m qa, .slice pb m qb]) (fun j => if j < vs.length then C j else L)) := ⟨fun j v hv => rowI_grown (v := .slice a6 (2 * k) c6) (hP.own j v hv) HG7.out (rowI_ty (HAL6.out _) (hP.own j v hv) (by decide)), hP.ap⟩
          have HD7 : Hid (Duo B w7 x y F2 (k + 1)) := ((HD2.out.below HV26.out).below (HAB.out (.cells #[.slice pa m qa, .slice pb m qb] tIs))).chI (G := fun b => (Value.slice a6 (2 * k) c6).ownBlock = some b) ((ChI.refl _ _).grown HG7.out (fun b e => .inl e)) (fun b e => by obtain ⟨cur, h9⟩ := rowI_blk (HAL6.out _) b e; exact ⟨_, _, _, h9, .inr rfl⟩)
          have HB7 : Hid (Below B w1 w7) := ((HBV2.out.trans (HV26.out.mono hB2z)).trans ((HAB.out (.cells #[.slice pa m qa, .slice pb m qb] tIs)).mono HBS.out)).grown HG7.out (Nat.le_trans HBS.out (HAB.out _).size) (fun b e => (World.ownsRow.lt (HAL6.out (.cells #[.slice pa m qa, .slice pb m qb] tIs)) b e).1)
          have HC7 : Hid (∀ j, ((fun j => if j < vs.length then C j else L) j).length ≤ N) := (fun j => by
            by_cases hj : j < vs.length
            · simp only [if_pos hj]; exact HCC.out j
            · simp only [if_neg hj]; rw [← HM.out]; omega)
          have HL7 : Hid ((vs ++ [Value.slice pa m qa, Value.slice pb m qb]).length = 2 * (k + 1)) := (show _ = _ by rw [List.length_append, HVL.out]; simp; omega)
          clear hIq hAq hBq hv2 hP hB2z
          go_roundw
          case rel => exact ⟨k + 1, F2, _, _, by omega, by go_num, HL7.out, HD7.out, HO7.out, HIX7.out, HC7.out, HB7.out⟩
          case measure => simp [intOf]; omega
    · obtain rfl : k = N := by omega
      have hkI : ¬ ((k : Int) < (k : Int)) := by omega
      go_wp2_with fail
      refine Calls.mono (apartInts_t B _ vs C wr HAL.out HIX.out (by rw [HVL.out]; omega) (fun j => Nat.le_trans (HCC.out j) (by omega)) HSZ.out) ?_
      rintro e v1 ⟨rfl, hch⟩
      have hge : ∀ b, (∃ v ∈ vs, v.ownBlock = some b) → B ≤ b ∧ ∃ cur t fr, wr.heap[b]? = some (.cells cur t fr) ∧ (t = tI ∨ t = tIs) := fun b ⟨v, hv, hb⟩ => by
        obtain ⟨t, ht, e⟩ := List.getElem_of_mem hv
        have ho := HIX.out.own t v (by rw [List.getElem?_eq_getElem ht, e])
        obtain ⟨cur, h9⟩ := rowI_blk ho b hb
        exact ⟨(World.ownsRow.lt ho b hb).1, _, _, _, h9, .inl rfl⟩
      have HD1 : Hid (Duo B v1 x y F k) := HD.out.chI hch (fun b h9 => (hge b h9).2)
      have HBV1 : Hid (Below B w1 v1) := HBEL.out.trans (hch.toBelow (fun b h9 => (hge b h9).1) HSZ.out)
      have HSZ1 : Hid (B ≤ v1.heap.size) := (show _ ≤ _ from Nat.le_trans HSZ.out hch.size)
      clear hch hge hce
      go_wp2_with fail
      refine Calls.mono (ask_duo HD1.out (by omega) HSZ1.out 5 0 0 0) ?_
      rintro e v2 ⟨a1, M1, c1, rfl, -, hdoc⟩
      have HDOC : Hid _ := hdoc
      clear hdoc
      go_wp2_with fail
      refine Calls.mono HDOC.out ?_
      rintro e v3 ⟨a2, M2, c2, rfl, hb3, hsa, -⟩
      have HSA : Hid _ := hsa
      have HBV3 : Hid (Below B w1 v3) := HBV1.out.trans hb3
      clear hsa hb3 HDOC
      go_wp2_with fail
      refine Calls.mono HSA.out ?_
      rintro e v4 ⟨rfl, hb4⟩
      have HB4 : Hid (Below v3.heap.size v3 v4) := hb4
      clear hb4 HSA
      go_wp2_with fail
      refine Calls.mono (small_t v4) ?_
      rintro e v5 ⟨rfl, hb5⟩
      have HB5 : Hid (Below v3.heap.size v3 v5) := below_next HB4.out hb5
      clear hb5
      go_wp2
      go_ret
      exact ⟨rfl, below_next HB1.out (below_next (HBL.out _ HBV3.out) HB5.out)⟩
end
end Go.Proofs.Ytibolgpaolnheac
