import Derived.Test.YtnhjkipaclchiaaQBk2
namespace Go.Proofs.Ytnhjkipaclchiaa
set_option linter.unusedVariables false
set_option linter.unusedSimpArgs false
open Go.RowKit
theorem delL_snoc {xs : List Ent} {x : Ent} {s : St} : delL (xs ++ [x]) s = delL xs s ++ if x.st = s then [] else [x] := by
  unfold delL
  rw [List.filter_append]
  congr 1
  by_cases h : x.st = s <;> simp [h]
theorem delL_len (xs : List Ent) (s : St) : (delL xs s).length ≤ xs.length := List.length_filter_le _ _
section
set_option maxRecDepth 20000
set_option maxHeartbeats 3200000
theorem bremove_t (vb : Value) (xs : List Ent) (w : World) (hx : OwnB w 0 vb xs) (s1 s2 : Nat) (hl : xs.length ≤ 4398046511104) :
    Calls Try.prog 31 #[vb, sv (s1, s2)] w fun e w' => ∃ v', e = .returned v' ∧ OwnB w' w.heap.size v' (delL xs (s1, s2)) ∧ Below w.heap.size w w' := by
  obtain ⟨ao, cap, rfl, hcap, hrd⟩ := OwnB.val hx
  obtain ⟨w0, hw0⟩ : ∃ X : World, X = w.alloc (.cells #[.int .u64 (s1 : Int), .int .u64 (s2 : Int)] tSt) := ⟨_, rfl⟩
  have HB0 : Hid (Below w.heap.size w w0) := (show Below w.heap.size w w0 by rw [hw0]; exact al (Below.refl _ _) _)
  have HL0 : Hid (w0.rangeAt w.heap.size 0 (sc (s1, s2))) := (show w0.rangeAt w.heap.size 0 (sc (s1, s2)) by rw [hw0]; exact box_range (heap_alloc_new w _))
  obtain ⟨N, hN⟩ : ∃ N, N = xs.length := ⟨_, rfl⟩
  rw [← hN] at hcap ⊢
  have HN : Hid (N = xs.length) := hN
  have HRD : Hid (∀ j (hj : j < xs.length), ∃ b o, ao = some ⟨b, o, none⟩ ∧ w.rangeAt b (o + j * 3) (ev xs[j])) := hrd
  have hlN : N ≤ 4398046511104 := by omega
  clear hx hrd hN
  go_enter Try.func31, Try.ntmps31
  go_wp2_with fail
  rw [← hw0]
  go_loopw [5, 6] (fun l i wr => ∃ (k : Nat) (ls : List Ent), k ≤ N ∧ i = .int .i64 (k : Int) ∧ OwnB wr w0.heap.size l ls ∧ ls = delL (xs.take k) (s1, s2) ∧ Below w0.heap.size w0 wr) (fun _ i _ => N - (intOf i).toNat)
  case atStart => exact ⟨0, [], Nat.zero_le _, rfl, OwnB.nil _ _, rfl, Below.refl _ _⟩
  case round =>
    obtain ⟨k, ls, hk, rfl, hown, hinv, hbel⟩ := hrel
    have HINV : Hid (ls = delL (xs.take k) (s1, s2)) := hinv
    have HLEN : Hid (ls.length ≤ N + 1) := (show ls.length ≤ N + 1 by have h8 := delL_len (xs.take k) (s1, s2); rw [← hinv, List.length_take] at h8; omega)
    have HOWN : Hid _ := hown
    have HBEL : Hid (Below w0.heap.size w0 wr) := hbel
    have HST : Hid (∀ u, Below wr.heap.size wr u → u.rangeAt w.heap.size 0 (sc (s1, s2))) := fun u hu => rangeAt_below HL0.out (below_next HBEL.out hu)
    clear hown hbel hinv
    by_cases hlt : k < N
    · have hkx : k < xs.length := by have := HN.out; omega
      obtain ⟨b, o, rfl, hr⟩ := HRD.out k hkx
      obtain ⟨t1, t2, tn, ht⟩ : ∃ t1 t2 tn, xs[k] = ⟨(t1, t2), tn⟩ := ⟨_, _, _, rfl⟩
      rw [ht] at hr
      have HR0 : Hid (w.rangeAt b (o + k * 3) (ev ⟨(t1, t2), tn⟩)) := hr
      have HT : Hid (xs[k] = ⟨(t1, t2), tn⟩) := ht
      have HRX : Hid (∀ u, Below wr.heap.size wr u → u.rangeAt b (o + k * 3) (ev ⟨(t1, t2), tn⟩)) := fun u hu => rangeAt_below HR0.out (below_next HB0.out (below_next HBEL.out hu))
      have hl3 : ∀ u, Below wr.heap.size wr u → (Instr.loadAt tSt (.pointer (some ⟨w.heap.size, 0, none⟩))).run Try.prog u = .ok (sv (s1, s2)) u := fun u hu => load_st u _ _ (s1, s2) (HST.out u hu)
      have hl4 : ∀ u, Below wr.heap.size wr u → (Instr.loadAt tSt (.pointer (some ⟨b, o + k * 3, none⟩))).run Try.prog u = .ok (sv (t1, t2)) u := fun u hu => load_st u _ _ (t1, t2) (range_st (e := ⟨(t1, t2), tn⟩) (HRX.out u hu))
      obtain ⟨q, hq⟩ : ∃ q : Bool, q = decide (t1 = s1 ∧ t2 = s2) := ⟨_, rfl⟩
      have HQ : Hid (q = decide (t1 = s1 ∧ t2 = s2)) := hq
      have hki : (k : Int) < (N : Int) := by omega
      have hk0 : (0 : Int) ≤ (k : Int) := by omega
      clear hq hr ht
      go_wp2_with fail
      refine wp_region_noPanic ?_
      refine wp_region_held_drew (S := (fun u => Below wr.heap.size wr u)) (by kernel_rfl) (by first | exact (Below.refl _ _).drew | assumption) (fun hHeld => ?_)
      refine take_at (i := 0) 13 (v := ?_) rfl rfl (by kernel_rfl) (by kernel_rfl) (by kernel_rfl) (fun _ _ _ h => h) (by rfl) ?_ hHeld ?_
      rotate_left
      · (intro w hSw; (try dsimp only at hSw); go_simp; try with_reducible rfl)
      simp only [Act.put, List.setIfInBounds_toArray, List.set_cons_zero, List.set_cons_succ]
      refine take_at (i := 1) 14 (v := ?_) rfl rfl (by kernel_rfl) (by kernel_rfl) (by kernel_rfl) (fun _ _ _ h => h) (by rfl) ?_ hHeld ?_
      rotate_left
      · (intro w hSw; (try dsimp only at hSw); go_simp; try with_reducible rfl)
      simp only [Act.put, List.setIfInBounds_toArray, List.set_cons_zero, List.set_cons_succ]
      refine take_at (i := 2) 15 (v := ?_) rfl rfl (by kernel_rfl) (by kernel_rfl) (by kernel_rfl) (fun _ _ _ h => h) (by rfl) ?_ hHeld ?_
      rotate_left
      · (intro w hSw; (try dsimp only at hSw); go_simp; try with_reducible rfl)
      simp only [Act.put, List.setIfInBounds_toArray, List.set_cons_zero, List.set_cons_succ]
      refine take_at (i := 3) 16 (v := ?_) rfl rfl (by kernel_rfl) (by kernel_rfl) (by kernel_rfl) (fun _ _ _ h => h) (by rfl) ?_ hHeld ?_
      rotate_left
      · (intro w hSw; (try dsimp only at hSw); go_simp; try with_reducible rfl)
      simp only [Act.put, List.setIfInBounds_toArray, List.set_cons_zero, List.set_cons_succ]
      refine take_at (i := 4) 17 (v := sv (t1, t2)) rfl rfl (by kernel_rfl) (by kernel_rfl) (by kernel_rfl) (fun _ _ _ h => h) (by rfl) ?_ hHeld ?_
      · (intro w hSw; refine exec_load (by rfl) ?_; exact hl4 w hSw)
      simp only [Act.put, List.setIfInBounds_toArray, List.set_cons_zero, List.set_cons_succ]
      refine take_at (i := 5) 18 (v := sv (s1, s2)) rfl rfl (by kernel_rfl) (by kernel_rfl) (by kernel_rfl) (fun _ _ _ h => h) (by rfl) ?_ hHeld ?_
      · (intro w hSw; refine exec_load (by rfl) ?_; exact hl3 w hSw)
      simp only [Act.put, List.setIfInBounds_toArray, List.set_cons_zero, List.set_cons_succ]
      refine take_at (i := 6) 19 (v := .bool (!q)) rfl rfl (by kernel_rfl) (by kernel_rfl) (by kernel_rfl) (fun _ _ _ h => h) (by rfl) ?_ hHeld ?_
      · (intro w hSw; (try dsimp only at hSw); go_simp; rw [HQ.out]; by_cases e1 : t1 = s1 <;> by_cases e2 : t2 = s2 <;> simp [e1, e2, Int.natCast_inj])
      simp only [Act.put, List.setIfInBounds_toArray, List.set_cons_zero, List.set_cons_succ]
      refine wpAnyH_done (by kernel_rfl) ?_ _
      refine NoPanic.normal ?_
      cases q
      case true =>
        have he : t1 = s1 ∧ t2 = s2 := of_decide_eq_true HQ.out.symm
        have HRES : Hid (ls = delL (xs.take (k + 1)) (s1, s2)) := (show ls = _ by rw [List.take_succ_eq_append_getElem hkx, delL_snoc, if_pos (by rw [HT.out, he.1, he.2]), List.append_nil]; exact HINV.out)
        clear he hl3 hl4
        go_wp2
        go_roundw
        case rel => exact ⟨k + 1, ls, by omega, by go_num, OwnB.below HOWN.out (Below.refl _ _).drew, HRES.out, below_next HBEL.out (Below.refl _ _).drew⟩
        case measure => simp [intOf]; omega
      case false =>
        have hne : ¬ (t1 = s1 ∧ t2 = s2) := of_decide_eq_false HQ.out.symm
        have HRES : Hid (ls ++ [⟨(t1, t2), tn⟩] = delL (xs.take (k + 1)) (s1, s2)) := (show _ = _ by rw [List.take_succ_eq_append_getElem hkx, delL_snoc, if_neg (by rw [HT.out]; exact fun e9 => hne ⟨congrArg Prod.fst e9, congrArg Prod.snd e9⟩), HT.out, ← HINV.out])
        clear hne hl3 hl4
        go_wp2_with (first | (refine wpList_load_mid rfl tRe _ rfl b (o + k * 3) rfl (ev ⟨(t1, t2), tn⟩) _ (HRX.out _ (by first | exact (Below.refl _ _).drew | exact (Below.refl _ _) | exact (Below.refl _ _).drew.drew | exact HB9.out)) Try.underlying60 rfl info_re3 ?_) | (at_builtin; refine wp_appB rfl _ _ rfl w0.heap.size _ (ls) (⟨(t1, t2), tn⟩) (by rfl) (OwnB.below HOWN.out (by first | exact (al (Below.refl _ _) _).drew | exact (al (Below.refl _ _) _).drew.drew | exact al (Below.refl _ _).drew _ | exact al (Below.refl _ _) _ | exact al (Below.refl _ _).drew.drew _ | exact al HB9.out _)) _ rfl (by exact heap_alloc_new _ _) (by have := HLEN.out; first | omega | (simp only [List.length_append, List.length_cons, List.length_nil]; omega)) (by first | exact Nat.le_trans HBEL.out.size (al (Below.refl _ _) _).drew.size | exact Nat.le_trans HBEL.out.size (al (Below.refl _ _) _).drew.drew.size | exact Nat.le_trans HBEL.out.size (al (Below.refl _ _).drew _).size | exact Nat.le_trans HBEL.out.size (al (Below.refl _ _) _).size | exact Nat.le_trans HBEL.out.size (al (Below.refl _ _).drew.drew _).size | exact Nat.le_trans HBEL.out.size (al HB9.out _).size) ?_; intro v2 w2 hown hg; have HOWN2 : Hid _ := hown; have HBEL2 : Hid (Below w0.heap.size w0 w2) := app_next HBEL.out HOWN.out hg (by first | exact (al (Below.refl _ _) _).drew | exact (al (Below.refl _ _) _).drew.drew | exact al (Below.refl _ _).drew _ | exact al (Below.refl _ _) _ | exact al (Below.refl _ _).drew.drew _ | exact al HB9.out _) HBEL.out.size; clear hown hg))
        go_roundw
        case rel => exact ⟨k + 1, _, by omega, by go_num, HOWN2.out, HRES.out, HBEL2.out⟩
        case measure => simp [intOf]; omega
    · obtain rfl : k = N := by omega
      have hkI : ¬ ((k : Int) < (k : Int)) := by omega
      have HRES : Hid (ls = delL xs (s1, s2)) := (show ls = _ by have h9 := HINV.out; rw [HN.out, List.take_length] at h9; exact h9)
      go_wp2
      go_ret
      exact ⟨_, rfl, by rw [← HRES.out]; exact OwnB.base HOWN.out HB0.out.size, below_next HB0.out HBEL.out⟩
end
end Go.Proofs.Ytnhjkipaclchiaa
