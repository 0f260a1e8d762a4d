import Derived.Test.YtnhjkipaclchiaaQBk
namespace Go.Proofs.Ytnhjkipaclchiaa
set_option linter.unusedVariables false
set_option linter.unusedSimpArgs false
open Go.RowKit
theorem OwnB.base {w : World} {B B' : Nat} {v : Value} {xs : List Ent} (h : OwnB w B v xs) (hB : B' ≤ B) : OwnB w B' v xs := by
  refine ⟨h.1, ?_⟩
  rcases h.2 with h0 | ⟨g, cap, cur, e, hB2, r⟩
  · exact .inl h0
  · exact .inr ⟨g, cap, cur, e, Nat.le_trans hB hB2, r⟩
section
set_option maxRecDepth 20000
set_option maxHeartbeats 3200000
theorem bput_t (vb : Value) (xs : List Ent) (w : World) (hx : OwnB w 0 vb xs) (ho : Ord xs) (s1 s2 n : Nat) (hl : xs.length ≤ 4398046511104) :
    Calls Try.prog 32 #[vb, sv (s1, s2), .int .u64 (n : Int)] w fun e w' => ∃ v', e = .returned v' ∧ OwnB w' w.heap.size v' (insL xs (mkE (s1, s2) n)) ∧ Below w.heap.size w w' := by
  obtain ⟨ao, cap, rfl, hcap, hrd⟩ := OwnB.val hx
  obtain ⟨w0, hw0⟩ : ∃ X : World, X = w.alloc (.cells #[.int .u64 (s1 : Int), .int .u64 (s2 : Int)] tSt) := ⟨_, rfl⟩
  have HB0 : Hid (Below w.heap.size w w0) := (show Below w.heap.size w w0 by rw [hw0]; exact al (Below.refl _ _) _)
  have HL0 : Hid (w0.rangeAt w.heap.size 0 (sc (s1, s2))) := (show w0.rangeAt w.heap.size 0 (sc (s1, s2)) by rw [hw0]; exact box_range (heap_alloc_new w _))
  obtain ⟨N, hN⟩ : ∃ N, N = xs.length := ⟨_, rfl⟩
  rw [← hN] at hcap ⊢
  have HN : Hid (N = xs.length) := hN
  have HRD : Hid (∀ j (hj : j < xs.length), ∃ b o, ao = some ⟨b, o, none⟩ ∧ w.rangeAt b (o + j * 3) (ev xs[j])) := hrd
  have hlN : N ≤ 4398046511104 := by omega
  clear hx hrd hN
  have HORD : Hid (Ord xs) := ho
  clear ho
  go_enter Try.func32, Try.ntmps32
  go_wp2_with fail
  rw [← hw0]
  go_loopw [7, 8, 9] (fun l d i wr => ∃ (k : Nat) (dn : Bool) (ls : List Ent), k ≤ N ∧ i = .int .i64 (k : Int) ∧ d = .bool dn ∧ OwnB wr w0.heap.size l ls ∧ BkInv xs (mkE (s1, s2) n) k dn ls ∧ Below w0.heap.size w0 wr) (fun _ _ i _ => N - (intOf i).toNat)
  case atStart => exact ⟨0, false, [], Nat.zero_le _, rfl, rfl, OwnB.nil _ _, .inl ⟨rfl, rfl, fun x hx => by simp at hx⟩, Below.refl _ _⟩
  case round =>
    obtain ⟨k, dn, ls, hk, rfl, rfl, hown, hinv, hbel⟩ := hrel
    have HINV : Hid (BkInv xs (mkE (s1, s2) n) k dn ls) := hinv
    have HLEN : Hid (ls.length ≤ N + 1) := (show ls.length ≤ N + 1 by rw [HN.out]; exact hinv.len)
    have HOWN : Hid _ := hown
    have HBEL : Hid (Below w0.heap.size w0 wr) := hbel
    have HST : Hid (∀ u, Below wr.heap.size wr u → u.rangeAt w.heap.size 0 (sc (s1, s2))) := fun u hu => rangeAt_below HL0.out (below_next HBEL.out hu)
    clear hown hbel hinv
    by_cases hlt : k < N
    · have hkx : k < xs.length := by have := HN.out; omega
      obtain ⟨b, o, rfl, hr⟩ := HRD.out k hkx
      obtain ⟨t1, t2, tn, ht⟩ : ∃ t1 t2 tn, xs[k] = ⟨(t1, t2), tn⟩ := ⟨_, _, _, rfl⟩
      rw [ht] at hr
      have HR0 : Hid (w.rangeAt b (o + k * 3) (ev ⟨(t1, t2), tn⟩)) := hr
      have HT : Hid (xs[k] = ⟨(t1, t2), tn⟩) := ht
      have HRX : Hid (∀ u, Below wr.heap.size wr u → u.rangeAt b (o + k * 3) (ev ⟨(t1, t2), tn⟩)) := fun u hu => rangeAt_below HR0.out (below_next HB0.out (below_next HBEL.out hu))
      have hl3 : ∀ u, Below wr.heap.size wr u → (Instr.loadAt tSt (.pointer (some ⟨w.heap.size, 0, none⟩))).run Try.prog u = .ok (sv (s1, s2)) u := fun u hu => load_st u _ _ (s1, s2) (HST.out u hu)
      have hl4 : ∀ u, Below wr.heap.size wr u → (Instr.loadAt tSt (.pointer (some ⟨b, o + k * 3, none⟩))).run Try.prog u = .ok (sv (t1, t2)) u := fun u hu => load_st u _ _ (t1, t2) (range_st (e := ⟨(t1, t2), tn⟩) (HRX.out u hu))
      obtain ⟨q, hq⟩ : ∃ q : Bool, q = decide (t1 = s1 ∧ t2 = s2) := ⟨_, rfl⟩
      have HQ : Hid (q = decide (t1 = s1 ∧ t2 = s2)) := hq
      have hki : (k : Int) < (N : Int) := by omega
      have hk0 : (0 : Int) ≤ (k : Int) := by omega
      clear hq hr ht
      go_wp2_with fail
      refine wp_region_noPanic ?_
      refine wp_region_held_drew (S := (fun u => Below wr.heap.size wr u)) (by kernel_rfl) (by first | exact (Below.refl _ _).drew | assumption) (fun hHeld => ?_)
      refine take_at (i := 0) 16 (v := ?_) rfl rfl (by kernel_rfl) (by kernel_rfl) (by kernel_rfl) (fun _ _ _ h => h) (by rfl) ?_ hHeld ?_
      rotate_left
      · (intro w hSw; (try dsimp only at hSw); go_simp; try with_reducible rfl)
      simp only [Act.put, List.setIfInBounds_toArray, List.set_cons_zero, List.set_cons_succ]
      refine take_at (i := 1) 17 (v := ?_) rfl rfl (by kernel_rfl) (by kernel_rfl) (by kernel_rfl) (fun _ _ _ h => h) (by rfl) ?_ hHeld ?_
      rotate_left
      · (intro w hSw; (try dsimp only at hSw); go_simp; try with_reducible rfl)
      simp only [Act.put, List.setIfInBounds_toArray, List.set_cons_zero, List.set_cons_succ]
      refine take_at (i := 2) 18 (v := ?_) rfl rfl (by kernel_rfl) (by kernel_rfl) (by kernel_rfl) (fun _ _ _ h => h) (by rfl) ?_ hHeld ?_
      rotate_left
      · (intro w hSw; (try dsimp only at hSw); go_simp; try with_reducible rfl)
      simp only [Act.put, List.setIfInBounds_toArray, List.set_cons_zero, List.set_cons_succ]
      refine take_at (i := 3) 19 (v := ?_) rfl rfl (by kernel_rfl) (by kernel_rfl) (by kernel_rfl) (fun _ _ _ h => h) (by rfl) ?_ hHeld ?_
      rotate_left
      · (intro w hSw; (try dsimp only at hSw); go_simp; try with_reducible rfl)
      simp only [Act.put, List.setIfInBounds_toArray, List.set_cons_zero, List.set_cons_succ]
      refine take_at (i := 4) 20 (v := sv (t1, t2)) rfl rfl (by kernel_rfl) (by kernel_rfl) (by kernel_rfl) (fun _ _ _ h => h) (by rfl) ?_ hHeld ?_
      · (intro w hSw; refine exec_load (by rfl) ?_; exact hl4 w hSw)
      simp only [Act.put, List.setIfInBounds_toArray, List.set_cons_zero, List.set_cons_succ]
      refine take_at (i := 5) 21 (v := sv (s1, s2)) rfl rfl (by kernel_rfl) (by kernel_rfl) (by kernel_rfl) (fun _ _ _ h => h) (by rfl) ?_ hHeld ?_
      · (intro w hSw; refine exec_load (by rfl) ?_; exact hl3 w hSw)
      simp only [Act.put, List.setIfInBounds_toArray, List.set_cons_zero, List.set_cons_succ]
      refine take_at (i := 6) 22 (v := .bool q) rfl rfl (by kernel_rfl) (by kernel_rfl) (by kernel_rfl) (fun _ _ _ h => h) (by rfl) ?_ hHeld ?_
      · (intro w hSw; (try dsimp only at hSw); go_simp; rw [HQ.out]; by_cases e1 : t1 = s1 <;> by_cases e2 : t2 = s2 <;> simp [e1, e2, Int.natCast_inj])
      simp only [Act.put, List.setIfInBounds_toArray, List.set_cons_zero, List.set_cons_succ]
      refine wpAnyH_done (by kernel_rfl) ?_ _
      refine NoPanic.normal ?_
      cases q
      case true =>
        have he : t1 = s1 ∧ t2 = s2 := of_decide_eq_true HQ.out.symm
        have HRES : Hid (BkInv xs (mkE (s1, s2) n) (k + 1) true (ls ++ [mkE (s1, s2) n])) := HINV.out.same HORD.out hkx (by rw [HT.out, he.1, he.2])
        clear he hl3 hl4
        go_wp2_with (first | (refine wpList_load_mid rfl tSt _ rfl w.heap.size 0 rfl (sc (s1, s2)) _ (HST.out _ (by first | exact (Below.refl _ _).drew | exact (Below.refl _ _) | exact (Below.refl _ _).drew.drew | exact HB9.out)) Try.underlying34 rfl info_st ?_) | (at_builtin; refine wp_appB rfl _ _ rfl w0.heap.size _ (ls) (mkE (s1, s2) n) (by rfl) (OwnB.below HOWN.out (by first | exact (al (Below.refl _ _) _).drew | exact (al (Below.refl _ _) _).drew.drew | exact al (Below.refl _ _).drew _ | exact al (Below.refl _ _) _ | exact al (Below.refl _ _).drew.drew _ | exact al HB9.out _)) _ rfl (by exact heap_alloc_new _ _) (by have := HLEN.out; first | omega | (simp only [List.length_append, List.length_cons, List.length_nil]; omega)) (by first | exact Nat.le_trans HBEL.out.size (al (Below.refl _ _) _).drew.size | exact Nat.le_trans HBEL.out.size (al (Below.refl _ _) _).drew.drew.size | exact Nat.le_trans HBEL.out.size (al (Below.refl _ _).drew _).size | exact Nat.le_trans HBEL.out.size (al (Below.refl _ _) _).size | exact Nat.le_trans HBEL.out.size (al (Below.refl _ _).drew.drew _).size | exact Nat.le_trans HBEL.out.size (al HB9.out _).size) ?_; intro v2 w2 hown hg; have HOWN2 : Hid _ := hown; have HBEL2 : Hid (Below w0.heap.size w0 w2) := app_next HBEL.out HOWN.out hg (by first | exact (al (Below.refl _ _) _).drew | exact (al (Below.refl _ _) _).drew.drew | exact al (Below.refl _ _).drew _ | exact al (Below.refl _ _) _ | exact al (Below.refl _ _).drew.drew _ | exact al HB9.out _) HBEL.out.size; clear hown hg))
        go_roundw
        case rel => exact ⟨k + 1, true, _, by omega, by go_num, rfl, HOWN2.out, HRES.out, HBEL2.out⟩
        case measure => simp [intOf]; omega
      case false =>
        have hne : ¬ (t1 = s1 ∧ t2 = s2) := of_decide_eq_false HQ.out.symm
        have hne2 : ¬ xs[k].st = (mkE (s1, s2) n).st := fun e9 => hne (by rw [HT.out] at e9; exact ⟨congrArg Prod.fst e9, congrArg Prod.snd e9⟩)
        cases dn
        case true =>
          have HRES : Hid (BkInv xs (mkE (s1, s2) n) (k + 1) true (ls ++ [⟨(t1, t2), tn⟩])) := (show BkInv _ _ _ _ _ by have h9 := HINV.out.high HORD.out hkx hne2; rw [HT.out] at h9; exact h9)
          clear hne hne2 hl3 hl4
          go_wp2_with fail
          refine wp_region_noPanic ?_
          refine wp_region_held_drew (S := (fun u => Below wr.heap.size wr u)) (by kernel_rfl) (by first | exact (Below.refl _ _).drew.drew | assumption) (fun hHeld => ?_)
          refine take_at (i := 0) 29 (v := ?_) rfl rfl (by kernel_rfl) (by kernel_rfl) (by kernel_rfl) (fun _ _ _ h => h) (by rfl) ?_ hHeld ?_
          rotate_left
          · (intro w hSw; (try dsimp only at hSw); go_simp; try with_reducible rfl)
          simp only [Act.put, List.setIfInBounds_toArray, List.set_cons_zero, List.set_cons_succ]
          refine take_at (i := 1) 30 (v := ?_) rfl rfl (by kernel_rfl) (by kernel_rfl) (by kernel_rfl) (fun _ _ _ h => h) (by rfl) ?_ hHeld ?_
          rotate_left
          · (intro w hSw; (try dsimp only at hSw); go_simp; try with_reducible rfl)
          simp only [Act.put, List.setIfInBounds_toArray, List.set_cons_zero, List.set_cons_succ]
          refine take_at (i := 2) 31 (v := ?_) rfl rfl (by kernel_rfl) (by kernel_rfl) (by kernel_rfl) (fun _ _ _ h => h) (by rfl) ?_ hHeld ?_
          rotate_left
          · (intro w hSw; (try dsimp only at hSw); go_simp; try with_reducible rfl)
          simp only [Act.put, List.setIfInBounds_toArray, List.set_cons_zero, List.set_cons_succ]
          refine skip_at (i := 3) 32 rfl rfl (by kernel_rfl) (by kernel_rfl) (by kernel_rfl) (fun _ _ _ h => h) (by rfl) hHeld ?_
          simp only [Act.put, List.setIfInBounds_toArray, List.set_cons_zero, List.set_cons_succ]
          refine skip_at (i := 4) 33 rfl rfl (by kernel_rfl) (by kernel_rfl) (by kernel_rfl) (fun _ _ _ h => h) (by rfl) hHeld ?_
          simp only [Act.put, List.setIfInBounds_toArray, List.set_cons_zero, List.set_cons_succ]
          refine skip_at (i := 5) 34 rfl rfl (by kernel_rfl) (by kernel_rfl) (by kernel_rfl) (fun _ _ _ h => h) (by rfl) hHeld ?_
          simp only [Act.put, List.setIfInBounds_toArray, List.set_cons_zero, List.set_cons_succ]
          refine skip_at (i := 6) 35 rfl rfl (by kernel_rfl) (by kernel_rfl) (by kernel_rfl) (fun _ _ _ h => h) (by rfl) hHeld ?_
          simp only [Act.put, List.setIfInBounds_toArray, List.set_cons_zero, List.set_cons_succ]
          refine skip_at (i := 7) 36 rfl rfl (by kernel_rfl) (by kernel_rfl) (by kernel_rfl) (fun _ _ _ h => h) (by rfl) hHeld ?_
          simp only [Act.put, List.setIfInBounds_toArray, List.set_cons_zero, List.set_cons_succ]
          refine skip_at (i := 8) 37 rfl rfl (by kernel_rfl) (by kernel_rfl) (by kernel_rfl) (fun _ _ _ h => h) (by rfl) hHeld ?_
          simp only [Act.put, List.setIfInBounds_toArray, List.set_cons_zero, List.set_cons_succ]
          refine skip_at (i := 9) 38 rfl rfl (by kernel_rfl) (by kernel_rfl) (by kernel_rfl) (fun _ _ _ h => h) (by rfl) hHeld ?_
          simp only [Act.put, List.setIfInBounds_toArray, List.set_cons_zero, List.set_cons_succ]
          refine take_at (i := 10) 39 (v := ?_) rfl rfl (by kernel_rfl) (by kernel_rfl) (by kernel_rfl) (fun _ _ _ h => h) (by rfl) ?_ hHeld ?_
          rotate_left
          · (intro w hSw; (try dsimp only at hSw); go_simp; try with_reducible rfl)
          simp only [Act.put, List.setIfInBounds_toArray, List.set_cons_zero, List.set_cons_succ]
          refine wpAnyH_done (by kernel_rfl) ?_ _
          refine NoPanic.normal ?_
          go_wp2_with (first | (refine wpList_load_mid rfl tRe _ rfl b (o + k * 3) rfl (ev ⟨(t1, t2), tn⟩) _ (HRX.out _ (by first | exact (Below.refl _ _).drew | exact (Below.refl _ _) | exact (Below.refl _ _).drew.drew | exact HB9.out)) Try.underlying60 rfl info_re3 ?_) | (at_builtin; refine wp_appB rfl _ _ rfl w0.heap.size _ (ls) (⟨(t1, t2), tn⟩) (by rfl) (OwnB.below HOWN.out (by first | exact (al (Below.refl _ _) _).drew | exact (al (Below.refl _ _) _).drew.drew | exact al (Below.refl _ _).drew _ | exact al (Below.refl _ _) _ | exact al (Below.refl _ _).drew.drew _ | exact al HB9.out _)) _ rfl (by exact heap_alloc_new _ _) (by have := HLEN.out; first | omega | (simp only [List.length_append, List.length_cons, List.length_nil]; omega)) (by first | exact Nat.le_trans HBEL.out.size (al (Below.refl _ _) _).drew.size | exact Nat.le_trans HBEL.out.size (al (Below.refl _ _) _).drew.drew.size | exact Nat.le_trans HBEL.out.size (al (Below.refl _ _).drew _).size | exact Nat.le_trans HBEL.out.size (al (Below.refl _ _) _).size | exact Nat.le_trans HBEL.out.size (al (Below.refl _ _).drew.drew _).size | exact Nat.le_trans HBEL.out.size (al HB9.out _).size) ?_; intro v2 w2 hown hg; have HOWN2 : Hid _ := hown; have HBEL2 : Hid (Below w0.heap.size w0 w2) := app_next HBEL.out HOWN.out hg (by first | exact (al (Below.refl _ _) _).drew | exact (al (Below.refl _ _) _).drew.drew | exact al (Below.refl _ _).drew _ | exact al (Below.refl _ _) _ | exact al (Below.refl _ _).drew.drew _ | exact al HB9.out _) HBEL.out.size; clear hown hg))
          go_roundw
          case rel => exact ⟨k + 1, true, _, by omega, by go_num, rfl, HOWN2.out, HRES.out, HBEL2.out⟩
          case measure => simp [intOf]; omega
        case false =>
          go_wp2_with fail
          refine wp_region_noPanic ?_
          refine wp_region_held_drew (S := (fun u => Below wr.heap.size wr u)) (by kernel_rfl) (by first | exact (Below.refl _ _).drew.drew | assumption) (fun hHeld => ?_)
          refine take_at (i := 0) 29 (v := ?_) rfl rfl (by kernel_rfl) (by kernel_rfl) (by kernel_rfl) (fun _ _ _ h => h) (by rfl) ?_ hHeld ?_
          rotate_left
          · (intro w hSw; (try dsimp only at hSw); go_simp; try with_reducible rfl)
          simp only [Act.put, List.setIfInBounds_toArray, List.set_cons_zero, List.set_cons_succ]
          refine take_at (i := 1) 30 (v := ?_) rfl rfl (by kernel_rfl) (by kernel_rfl) (by kernel_rfl) (fun _ _ _ h => h) (by rfl) ?_ hHeld ?_
          rotate_left
          · (intro w hSw; (try dsimp only at hSw); go_simp; try with_reducible rfl)
          simp only [Act.put, List.setIfInBounds_toArray, List.set_cons_zero, List.set_cons_succ]
          refine take_at (i := 2) 31 (v := ?_) rfl rfl (by kernel_rfl) (by kernel_rfl) (by kernel_rfl) (fun _ _ _ h => h) (by rfl) ?_ hHeld ?_
          rotate_left
          · (intro w hSw; (try dsimp only at hSw); go_simp; try with_reducible rfl)
          simp only [Act.put, List.setIfInBounds_toArray, List.set_cons_zero, List.set_cons_succ]
          refine take_at (i := 3) 32 (v := sv (s1, s2)) rfl rfl (by kernel_rfl) (by kernel_rfl) (by kernel_rfl) (fun _ _ _ h => h) (by rfl) ?_ hHeld ?_
          · (intro w hSw; refine exec_load (by rfl) ?_; exact hl3 w hSw)
          simp only [Act.put, List.setIfInBounds_toArray, List.set_cons_zero, List.set_cons_succ]
          refine take_at (i := 4) 33 (v := ?_) rfl rfl (by kernel_rfl) (by kernel_rfl) (by kernel_rfl) (fun _ _ _ h => h) (by rfl) ?_ hHeld ?_
          rotate_left
          · (intro w hSw; (try dsimp only at hSw); go_simp; try with_reducible rfl)
          simp only [Act.put, List.setIfInBounds_toArray, List.set_cons_zero, List.set_cons_succ]
          refine take_at (i := 5) 34 (v := ?_) rfl rfl (by kernel_rfl) (by kernel_rfl) (by kernel_rfl) (fun _ _ _ h => h) (by rfl) ?_ hHeld ?_
          rotate_left
          · (intro w hSw; (try dsimp only at hSw); go_simp; try with_reducible rfl)
          simp only [Act.put, List.setIfInBounds_toArray, List.set_cons_zero, List.set_cons_succ]
          refine take_at (i := 6) 35 (v := ?_) rfl rfl (by kernel_rfl) (by kernel_rfl) (by kernel_rfl) (fun _ _ _ h => h) (by rfl) ?_ hHeld ?_
          rotate_left
          · (intro w hSw; (try dsimp only at hSw); go_simp; try with_reducible rfl)
          simp only [Act.put, List.setIfInBounds_toArray, List.set_cons_zero, List.set_cons_succ]
          refine take_at (i := 7) 36 (v := ?_) rfl rfl (by kernel_rfl) (by kernel_rfl) (by kernel_rfl) (fun _ _ _ h => h) (by rfl) ?_ hHeld ?_
          rotate_left
          · (intro w hSw; (try dsimp only at hSw); go_simp; try with_reducible rfl)
          simp only [Act.put, List.setIfInBounds_toArray, List.set_cons_zero, List.set_cons_succ]
          refine take_at (i := 8) 37 (v := sv (t1, t2)) rfl rfl (by kernel_rfl) (by kernel_rfl) (by kernel_rfl) (fun _ _ _ h => h) (by rfl) ?_ hHeld ?_
          · (intro w hSw; refine exec_load (by rfl) ?_; exact hl4 w hSw)
          simp only [Act.put, List.setIfInBounds_toArray, List.set_cons_zero, List.set_cons_succ]
          refine run_at (i := 9) rfl (by kernel_rfl) (by rfl) (fun K hK => ?_)
          simp only [List.getElem_toArray, List.getElem_cons_zero, List.getElem_cons_succ]
          go_simp
          (go_at_call 30; refine Calls.mono (less_t (s1, s2) (t1, t2) _) ?_; rintro e w9 ⟨rfl, hb9⟩; have hb99 : Below wr.heap.size wr w9 := (by first | exact below_next (Below.refl _ _).drew.drew hb9 | exact below_next (Below.refl _ _).drew hb9); clear hb9; obtain ⟨q2, hq2⟩ : ∃ q2 : Bool, q2 = ltS (s1, s2) (t1, t2) := ⟨_, rfl⟩; rw [← hq2]; have HQ2 : Hid _ := hq2; clear hq2)
          go_wp2_with fail
          refine hK.out _ _ (by first | exact (Below.refl _ _).drew.drew | assumption) ?_
          clear hK K
          intro hHeld2
          clear hHeld
          have hHeld := hHeld2
          clear hHeld2
          try simp only [Act.put, List.setIfInBounds_toArray, List.set_cons_zero, List.set_cons_succ]
          refine take_at (i := 10) 39 (v := ?_) rfl rfl (by kernel_rfl) (by kernel_rfl) (by kernel_rfl) (fun _ _ _ h => h) (by rfl) ?_ hHeld ?_
          rotate_left
          · (intro w hSw; (try dsimp only at hSw); go_simp; try with_reducible rfl)
          simp only [Act.put, List.setIfInBounds_toArray, List.set_cons_zero, List.set_cons_succ]
          refine wpAnyH_done (by kernel_rfl) ?_ _
          refine NoPanic.normal ?_
          have HB9 : Hid (Below wr.heap.size wr w9) := hb99
          clear hb99 hl3 hl4
          cases q2
          case true =>
            have HRES : Hid (BkInv xs (mkE (s1, s2) n) (k + 1) true (ls ++ [mkE (s1, s2) n] ++ [⟨(t1, t2), tn⟩])) := (show BkInv _ _ _ _ _ by have h9 := HINV.out.mid hkx (by rw [HT.out]; exact HQ2.out.symm); rw [HT.out] at h9; exact h9)
            clear hne hne2
            go_wp2_with (first | (refine wpList_load_mid rfl tSt _ rfl w.heap.size 0 rfl (sc (s1, s2)) _ (HST.out _ (by first | exact (Below.refl _ _).drew | exact (Below.refl _ _) | exact (Below.refl _ _).drew.drew | exact HB9.out)) Try.underlying34 rfl info_st ?_) | (refine wpList_load_mid rfl tRe _ rfl b (o + k * 3) rfl (ev ⟨(t1, t2), tn⟩) _ (HRX2.out _ (by first | exact (Below.refl _ _).drew | exact (Below.refl _ _) | exact (Below.refl _ _).drew.drew | exact HB9.out)) Try.underlying60 rfl info_re3 ?_) | (at_builtin; refine wp_appB rfl _ _ rfl w0.heap.size _ (ls ++ [mkE (s1, s2) n]) (⟨(t1, t2), tn⟩) (by rfl) (OwnB.below HOWN2.out (by first | exact (al (Below.refl _ _) _).drew | exact (al (Below.refl _ _) _).drew.drew | exact al (Below.refl _ _).drew _ | exact al (Below.refl _ _) _ | exact al (Below.refl _ _).drew.drew _ | exact al HB9.out _)) _ rfl (by exact heap_alloc_new _ _) (by have := HLEN.out; first | omega | (simp only [List.length_append, List.length_cons, List.length_nil]; omega)) (by first | exact Nat.le_trans HBEL2.out.size (al (Below.refl _ _) _).drew.size | exact Nat.le_trans HBEL2.out.size (al (Below.refl _ _) _).drew.drew.size | exact Nat.le_trans HBEL2.out.size (al (Below.refl _ _).drew _).size | exact Nat.le_trans HBEL2.out.size (al (Below.refl _ _) _).size | exact Nat.le_trans HBEL2.out.size (al (Below.refl _ _).drew.drew _).size | exact Nat.le_trans HBEL2.out.size (al HB9.out _).size) ?_; intro v3 w3 hown hg; have HOWN3 : Hid _ := hown; have HBEL3 : Hid (Below w0.heap.size w0 w3) := app_next HBEL2.out HOWN2.out hg (by first | exact (al (Below.refl _ _) _).drew | exact (al (Below.refl _ _) _).drew.drew | exact al (Below.refl _ _).drew _ | exact al (Below.refl _ _) _ | exact al (Below.refl _ _).drew.drew _ | exact al HB9.out _) HBEL2.out.size; clear hown hg) | (at_builtin; refine wp_appB rfl _ _ rfl w0.heap.size _ (ls) (mkE (s1, s2) n) (by rfl) (OwnB.below HOWN.out (by first | exact (al (Below.refl _ _) _).drew | exact (al (Below.refl _ _) _).drew.drew | exact al (Below.refl _ _).drew _ | exact al (Below.refl _ _) _ | exact al (Below.refl _ _).drew.drew _ | exact al HB9.out _)) _ rfl (by exact heap_alloc_new _ _) (by have := HLEN.out; first | omega | (simp only [List.length_append, List.length_cons, List.length_nil]; omega)) (by first | exact Nat.le_trans HBEL.out.size (al (Below.refl _ _) _).drew.size | exact Nat.le_trans HBEL.out.size (al (Below.refl _ _) _).drew.drew.size | exact Nat.le_trans HBEL.out.size (al (Below.refl _ _).drew _).size | exact Nat.le_trans HBEL.out.size (al (Below.refl _ _) _).size | exact Nat.le_trans HBEL.out.size (al (Below.refl _ _).drew.drew _).size | exact Nat.le_trans HBEL.out.size (al HB9.out _).size) ?_; intro v2 w2 hown hg; have HOWN2 : Hid _ := hown; have HBEL2 : Hid (Below w0.heap.size w0 w2) := app_next HBEL.out HOWN.out hg (by first | exact (al (Below.refl _ _) _).drew | exact (al (Below.refl _ _) _).drew.drew | exact al (Below.refl _ _).drew _ | exact al (Below.refl _ _) _ | exact al (Below.refl _ _).drew.drew _ | exact al HB9.out _) HBEL.out.size; clear hown hg; have HRX2 : Hid (∀ u, Below w2.heap.size w2 u → u.rangeAt b (o + k * 3) (ev ⟨(t1, t2), tn⟩)) := (fun u hu => rangeAt_below HR0.out (below_next HB0.out (below_next HBEL2.out hu)))))
            go_roundw
            case rel => exact ⟨k + 1, true, _, by omega, by go_num, rfl, HOWN3.out, HRES.out, HBEL3.out⟩
            case measure => simp [intOf]; omega
          case false =>
            have HRES : Hid (BkInv xs (mkE (s1, s2) n) (k + 1) false (ls ++ [⟨(t1, t2), tn⟩])) := (show BkInv _ _ _ _ _ by have h9 := HINV.out.low hkx (by rw [HT.out]; exact ltS_ge HQ2.out.symm (fun e9 => hne ⟨congrArg Prod.fst e9.symm, congrArg Prod.snd e9.symm⟩)); rw [HT.out] at h9; exact h9)
            clear hne hne2
            go_wp2_with (first | (refine wpList_load_mid rfl tRe _ rfl b (o + k * 3) rfl (ev ⟨(t1, t2), tn⟩) _ (HRX.out _ (by first | exact (Below.refl _ _).drew | exact (Below.refl _ _) | exact (Below.refl _ _).drew.drew | exact HB9.out)) Try.underlying60 rfl info_re3 ?_) | (at_builtin; refine wp_appB rfl _ _ rfl w0.heap.size _ (ls) (⟨(t1, t2), tn⟩) (by rfl) (OwnB.below HOWN.out (by first | exact (al (Below.refl _ _) _).drew | exact (al (Below.refl _ _) _).drew.drew | exact al (Below.refl _ _).drew _ | exact al (Below.refl _ _) _ | exact al (Below.refl _ _).drew.drew _ | exact al HB9.out _)) _ rfl (by exact heap_alloc_new _ _) (by have := HLEN.out; first | omega | (simp only [List.length_append, List.length_cons, List.length_nil]; omega)) (by first | exact Nat.le_trans HBEL.out.size (al (Below.refl _ _) _).drew.size | exact Nat.le_trans HBEL.out.size (al (Below.refl _ _) _).drew.drew.size | exact Nat.le_trans HBEL.out.size (al (Below.refl _ _).drew _).size | exact Nat.le_trans HBEL.out.size (al (Below.refl _ _) _).size | exact Nat.le_trans HBEL.out.size (al (Below.refl _ _).drew.drew _).size | exact Nat.le_trans HBEL.out.size (al HB9.out _).size) ?_; intro v2 w2 hown hg; have HOWN2 : Hid _ := hown; have HBEL2 : Hid (Below w0.heap.size w0 w2) := app_next HBEL.out HOWN.out hg (by first | exact (al (Below.refl _ _) _).drew | exact (al (Below.refl _ _) _).drew.drew | exact al (Below.refl _ _).drew _ | exact al (Below.refl _ _) _ | exact al (Below.refl _ _).drew.drew _ | exact al HB9.out _) HBEL.out.size; clear hown hg))
            go_roundw
            case rel => exact ⟨k + 1, false, _, by omega, by go_num, rfl, HOWN2.out, HRES.out, HBEL2.out⟩
            case measure => simp [intOf]; omega
    · obtain rfl : k = N := by omega
      have hkI : ¬ ((k : Int) < (k : Int)) := by omega
      cases dn
      case true =>
        have HRES : Hid (ls = insL xs (mkE (s1, s2) n)) := (show ls = _ by have h9 := HINV.out; rw [HN.out] at h9; exact h9.end)
        go_wp2
        go_ret
        exact ⟨_, rfl, by rw [← HRES.out]; exact OwnB.base HOWN.out HB0.out.size, below_next HB0.out HBEL.out⟩
      case false =>
        have HRES : Hid (ls ++ [mkE (s1, s2) n] = insL xs (mkE (s1, s2) n)) := (show _ = _ by have h9 := HINV.out; rw [HN.out] at h9; exact h9.end0)
        go_wp2_with (first | (refine wpList_load_mid rfl tSt _ rfl w.heap.size 0 rfl (sc (s1, s2)) _ (HST.out _ (by first | exact (Below.refl _ _).drew | exact (Below.refl _ _) | exact (Below.refl _ _).drew.drew | exact HB9.out)) Try.underlying34 rfl info_st ?_) | (at_builtin; refine wp_appB rfl _ _ rfl w0.heap.size _ (ls) (mkE (s1, s2) n) (by rfl) (OwnB.below HOWN.out (by first | exact (al (Below.refl _ _) _).drew | exact (al (Below.refl _ _) _).drew.drew | exact al (Below.refl _ _).drew _ | exact al (Below.refl _ _) _ | exact al (Below.refl _ _).drew.drew _ | exact al HB9.out _)) _ rfl (by exact heap_alloc_new _ _) (by have := HLEN.out; first | omega | (simp only [List.length_append, List.length_cons, List.length_nil]; omega)) (by first | exact Nat.le_trans HBEL.out.size (al (Below.refl _ _) _).drew.size | exact Nat.le_trans HBEL.out.size (al (Below.refl _ _) _).drew.drew.size | exact Nat.le_trans HBEL.out.size (al (Below.refl _ _).drew _).size | exact Nat.le_trans HBEL.out.size (al (Below.refl _ _) _).size | exact Nat.le_trans HBEL.out.size (al (Below.refl _ _).drew.drew _).size | exact Nat.le_trans HBEL.out.size (al HB9.out _).size) ?_; intro v2 w2 hown hg; have HOWN2 : Hid _ := hown; have HBEL2 : Hid (Below w0.heap.size w0 w2) := app_next HBEL.out HOWN.out hg (by first | exact (al (Below.refl _ _) _).drew | exact (al (Below.refl _ _) _).drew.drew | exact al (Below.refl _ _).drew _ | exact al (Below.refl _ _) _ | exact al (Below.refl _ _).drew.drew _ | exact al HB9.out _) HBEL.out.size; clear hown hg))
        go_ret
        exact ⟨_, rfl, by rw [← HRES.out]; exact OwnB.base HOWN2.out HB0.out.size, below_next HB0.out HBEL2.out⟩
end
end Go.Proofs.Ytnhjkipaclchiaa
