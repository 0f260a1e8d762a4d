import Derived.Test.YtinphflminaijabDoorLaid
import Derived.Test.YtinphflminaijabDoorRNew
import Derived.Test.YtinphflminaijabDoorConv
namespace Go.Proofs.YtinphflminaijabDoor
set_option linter.unusedVariables false
set_option linter.unusedSimpArgs false
open Go.RowKit
/-- a Reader of the call's own -/
structure Bk (W w : World) (p : Nat) (ao : Option Addr) (cap : Nat) (xs : List UInt8) (pl : Nat) (f : Int) : Prop where
  r : RdrAt w p ao cap xs pl f
  bel : Below W.heap.size W w
  wp : W.heap.size ≤ p
theorem Bk.step {W w w' : World} {p : Nat} {ao : Option Addr} {cap : Nat} {xs : List UInt8} {pl pl' : Nat} {f f' : Int} (h : Bk W w p ao cap xs pl f) (hg : w.grownBy w' (some p)) (hr : RdrAt w' p ao cap xs pl' f') : Bk W w' p ao cap xs pl' f' :=
  ⟨hr, h.bel.grown hg h.bel.size (fun k hk => by cases hk; exact h.wp), h.wp⟩
theorem Bk.below {W w w' : World} {p : Nat} {ao : Option Addr} {cap : Nat} {xs : List UInt8} {pl : Nat} {f : Int} (h : Bk W w p ao cap xs pl f) (hb : Below w.heap.size w w') : Bk W w' p ao cap xs pl f :=
  ⟨h.r.below hb, below_next h.bel hb, h.wp⟩
theorem Bk.far {W w w' : World} {p q : Nat} {ao : Option Addr} {cap : Nat} {xs : List UInt8} {pl : Nat} {f : Int} (h : Bk W w p ao cap xs pl f) (hg : w.grownBy w' (some q)) (hq : W.heap.size ≤ q) (hne : p ≠ q) (ha : ∀ a, ao = some a → a.block ≠ q) : Bk W w' p ao cap xs pl f :=
  ⟨h.r.grown hg (by simpa using hne) (fun a h1 => by simpa using ha a h1), h.bel.grown hg h.bel.size (fun k hk => by cases hk; exact hq), h.wp⟩
theorem number_k {W w : World} {p : Nat} {ao : Option Addr} {cap : Nat} {xs : List UInt8} {pl : Nat} {f : Int} (m n k : Nat) (f' : Int) (pl' : Nat) (h : Bk W w p ao cap xs pl f) (hr : rNum m (xs.drop pl) f = (n, k, f')) (hp : pl + k = pl') :
    Calls Tryd.prog 22 #[.pointer (some ⟨p, 0, none⟩), .int .u64 m] w fun e w' => e = .returned (.int .u64 n) ∧ Bk W w' p ao cap xs pl' f' ∧ w.grownBy w' (some p) := by
  refine (number_r m w h.r).mono ?_
  rw [hr]
  rintro e w' ⟨he, h1, hg⟩
  exact ⟨he, h.step hg (by simp only at h1; rwa [hp] at h1), hg⟩
theorem bytes_k {W w : World} {p : Nat} {ao : Option Addr} {cap : Nat} {xs : List UInt8} {pl : Nat} {f : Int} (m : Int) (hm : m ≤ 9223372036854775807) (zs : List UInt8) (k : Nat) (f' : Int) (pl' : Nat) (h : Bk W w p ao cap xs pl f) (hr : rBytes m (xs.drop pl) f = (zs, k, f')) (hp : pl + k = pl') :
    Calls Tryd.prog 25 #[.pointer (some ⟨p, 0, none⟩), .int .i64 m] w fun e w' => ∃ a c, e = .returned (.slice a zs.length c) ∧ Rd w' a zs ∧ Bk W w' p ao cap xs pl' f' ∧ w.grownBy w' (some p) := by
  refine (bytes_r m hm w h.r).mono ?_
  rw [hr]
  rintro e w' ⟨v, he, ho, h1, hg⟩
  obtain ⟨a, c, rfl, hz, -, -⟩ := own_sl ho
  exact ⟨a, c, he, hz, h.step hg (by simp only at h1; rwa [hp] at h1), hg⟩
theorem end_k {W w : World} {p : Nat} {ao : Option Addr} {cap : Nat} {xs : List UInt8} {pl : Nat} {f : Int} (f' : Int) (h : Bk W w p ao cap xs pl f) (hr : rEnd (xs.drop pl) f = f') :
    Calls Tryd.prog 29 #[.pointer (some ⟨p, 0, none⟩)] w fun e w' => e = .returned (.int .i64 f') ∧ Bk W w' p ao cap xs pl f' ∧ w.grownBy w' (some p) := by
  refine (end_r w h.r).mono ?_
  rw [hr]
  rintro e w' ⟨he, h1, hg⟩
  exact ⟨he, h.step hg h1, hg⟩
theorem left_k {W w : World} {p : Nat} {ao : Option Addr} {cap : Nat} {xs : List UInt8} {pl : Nat} {f : Int} (n : Nat) (h : Bk W w p ao cap xs pl f) (hr : xs.length - pl = n) :
    Calls Tryd.prog 21 #[.pointer (some ⟨p, 0, none⟩)] w fun e w' => e = .returned (.int .i64 (n : Int)) ∧ Below w.heap.size w w' := by
  refine (left_r w h.r).mono ?_
  rw [hr]
  rintro e w' ⟨he, q, rfl⟩
  exact ⟨he, below_drewN (Below.refl _ _) q⟩
theorem lay_at_t {is : List It} {k n : Nat} {ys : List UInt8} (hk : k < is.length) (he : is[k] = ⟨true, n, ys⟩) : is[k].lay = dg ys.length ++ ys := by rw [he]; simp [It.lay]
theorem lay_at_f {is : List It} {k n : Nat} {ys : List UInt8} (hk : k < is.length) (he : is[k] = ⟨false, n, ys⟩) : is[k].lay = dg n := by rw [he]; simp [It.lay]
theorem read_t (is : List It) (k n : Nat) (ys tl : List UInt8) (hk : k < is.length) (he : is[k] = ⟨true, n, ys⟩) (hy : ys.length ≤ 140737488355328) :
    rBytes (ys.length : Int) ((layAll is ++ tl).drop (layAll (is.take k)).length) 0 = (ys, (dg ys.length ++ ys).length, 0) ∧ (layAll (is.take k)).length + (dg ys.length ++ ys).length = (layAll (is.take (k + 1))).length := by
  rw [ahead_k, layAll_drop is k hk, layAll_snoc is k hk, lay_at_t hk he, List.append_assoc, rBytes_dg ys hy, ← List.length_append]
  exact ⟨rfl, rfl⟩
theorem read_f (is : List It) (k n : Nat) (ys tl : List UInt8) (hk : k < is.length) (he : is[k] = ⟨false, n, ys⟩) (hn : n < 18446744073709551616) :
    rNum n ((layAll is ++ tl).drop (layAll (is.take k)).length) 0 = (n, (dg n).length, 0) ∧ (layAll (is.take k)).length + (dg n).length = (layAll (is.take (k + 1))).length := by
  rw [ahead_k, layAll_drop is k hk, layAll_snoc is k hk, lay_at_f hk he, List.append_assoc, rNum_dg n hn, ← List.length_append]
  exact ⟨rfl, rfl⟩
theorem cut_t (is : List It) (k n : Nat) (ys : List UInt8) (hk : k < is.length) (hok : ∀ i ∈ is, i.ok) (he : is[k] = ⟨true, n, ys⟩) (hy : ys.length ≤ 140737488355328) (zs : List UInt8) (K : Nat) (f : Int) (h : rBytes (ys.length : Int) ((layAll is).dropLast.drop (layAll (is.take k)).length) 0 = (zs, K, f)) :
    (k + 1 < is.length → (layAll (is.take k)).length + K = (layAll (is.take (k + 1))).length ∧ f = 0) ∧ (k + 1 = is.length → f = 10) := by
  refine ⟨fun h1 => ?_, fun h1 => ?_⟩
  · rw [ahead_cut2 is k hok h1, lay_at_t hk he, rBytes_dg ys hy] at h
    simp only [Prod.mk.injEq] at h
    rw [layAll_snoc is k hk, lay_at_t hk he, List.length_append, ← h.2.1]
    exact ⟨rfl, h.2.2.symm⟩
  · rw [ahead_last is k hok h1, lay_at_t hk he, rBytes_cut ys hy] at h
    simp only [Prod.mk.injEq] at h
    exact h.2.2.symm
theorem cut_f (is : List It) (k n : Nat) (ys : List UInt8) (hk : k < is.length) (hok : ∀ i ∈ is, i.ok) (he : is[k] = ⟨false, n, ys⟩) (hn : n < 18446744073709551616) (N K : Nat) (f : Int) (h : rNum n ((layAll is).dropLast.drop (layAll (is.take k)).length) 0 = (N, K, f)) :
    (k + 1 < is.length → (layAll (is.take k)).length + K = (layAll (is.take (k + 1))).length ∧ f = 0) ∧ (k + 1 = is.length → f = 10) := by
  refine ⟨fun h1 => ?_, fun h1 => ?_⟩
  · rw [ahead_cut2 is k hok h1, lay_at_f hk he, rNum_dg n hn] at h
    simp only [Prod.mk.injEq] at h
    rw [layAll_snoc is k hk, lay_at_f hk he, List.length_append, ← h.2.1]
    exact ⟨rfl, h.2.2.symm⟩
  · rw [ahead_last is k hok h1, lay_at_f hk he, rNum_cut n hn] at h
    simp only [Prod.mk.injEq] at h
    exact h.2.2.symm
set_option maxRecDepth 20000 in
set_option maxHeartbeats 6400000 in
theorem octetBack_walk (a0 : Option Addr) (cap0 : Nat) (is : List It) (w : World) (hi : RdIts w a0 is) (hok : ∀ i ∈ is, i.ok) (hb : (layAll is).length ≤ 10485760) (hlen : is.length ≤ 1048576) (hbl : ∀ i ∈ is, i.b.length ≤ 1048576) (ht : TabOk w) :
    Calls Tryd.prog 8 #[.slice a0 is.length cap0] w fun e w' => e = .returned (.bool true) ∧ Below w.heap.size w w' := by
  have HI : Hid (RdIts w a0 is) := hi
  have HOK : Hid (∀ i ∈ is, i.ok) := hok
  have HBL : Hid (∀ i ∈ is, i.b.length ≤ 1048576) := hbl
  clear hi hok hbl
  go_enter Tryd.func8, Tryd.ntmps8
  go_wp2_with fail
  refine (knows_any _ ht).mono ?_
  rintro e w1 ⟨rfl, hb1⟩
  clear ht
  go_wp2_with fail
  refine (laid_any a0 cap0 is w1 (fun h => by obtain ⟨b, o, e, hp⟩ := HI.out h; exact ⟨b, o, e, fun j hj => (hp j hj).below hb1⟩) HOK.out hb hlen HBL.out).mono ?_
  rintro e w2 ⟨v2, rfl, ho2, hb2⟩
  have hbel2 := below_next hb1 hb2
  obtain ⟨a2, c2, hlc2, hcm2, hn2, hr2, hblk2⟩ : ∃ a c, v2 = .slice a (layAll is).length c ∧ ((layAll is).length ≤ c ∧ c ≤ maxLen) ∧ (a = none → c = 0) ∧ Rd w2 a (layAll is) ∧ True := by
    obtain ⟨a, c, hv, h1, h2, h3, h4, -⟩ := ho2.val
    exact ⟨a, c, hv, ⟨h1, h2⟩, h3, h4, trivial⟩
  subst hlc2
  obtain ⟨hcm2, hcM⟩ := hcm2
  simp only [maxLen] at hcM
  have HN2 : Hid (a2 = none → c2 = 0) := hn2
  clear hn2 hblk2 ho2 hb1 hb2
  go_wp2_with fail
  refine (new_r a2 _ c2 (layAll is) rfl w2 hr2 HN2.out (by omega)).mono ?_
  rintro e w3 ⟨p, ao, cap, rfl, hr3, hb3, hp3, -⟩
  have hB3 : Bk w2 w3 p ao cap (layAll is) (layAll (is.take 0)).length 0 := ⟨hr3, hb3, hp3⟩
  clear hr3 hb3 hp3
  go_wp2
  go_loopw [5] (fun i wr => ∃ k : Nat, k ≤ is.length ∧ i = .int .i64 k ∧ Bk w2 wr p ao cap (layAll is) (layAll (is.take k)).length 0) (fun i _ => is.length - (intOf i).toNat)
  case atStart => exact ⟨0, Nat.zero_le _, rfl, hB3⟩
  case round =>
    obtain ⟨k, hk, rfl, hB⟩ := hrel
    clear hB3
    by_cases hlt : k < is.length
    · obtain ⟨b, o, rfl, hat⟩ := HI.out.at k hlt
      obtain ⟨aI, cI, k0, k1, k2, hrI, -, -⟩ := hat.below hbel2
      have hokk := ok_at HOK.out k hlt
      have hblk := HBL.out _ (List.getElem_mem hlt)
      obtain ⟨it, hit⟩ : ∃ it, is[k] = it := ⟨_, rfl⟩
      have HIT : Hid (is[k] = it) := hit
      rw [hit] at k0 k1 k2 hrI hokk hblk
      clear hit
      obtain ⟨l, n, ys⟩ := it
      obtain ⟨hokn, -⟩ := hokk
      simp only at k0 k1 k2 hrI hokn hblk
      have HNN : Hid (n < 18446744073709551616) := hokn
      clear hat hokn
      have hkB : ∀ u, Below w2.heap.size w2 u → u.cell? ⟨b, o + k * 3 + 1, none⟩ = some (.int .u64 n) := fun u hu => (hu.cell (World.block_lt_of_cell? w2 _ k1)).trans k1
      have hkC : ∀ u, Below w2.heap.size w2 u → u.cell? ⟨b, o + k * 3 + 2, none⟩ = some (.slice aI ys.length cI) := fun u hu => (hu.cell (World.block_lt_of_cell? w2 _ k2)).trans k2
      have hcvI : ∀ u, Below w2.heap.size w2 u → (convert 22 9 (.slice aI ys.length cI)).run Tryd.prog u = .ok (.string ⟨ys.toArray⟩) u := fun u hu => conv_rd (hrI.below hu) _ cI rfl
      have kA := (hB.bel.cell (World.block_lt_of_cell? w2 _ k0)).trans k0
      have hBd : Bk w2 wr.drew p ao cap (layAll is) (layAll (is.take k)).length 0 := hB.below (Below.refl _ _).drew
      have hbd := hBd.bel
      clear k0 k1 k2 hrI
      cases l with
      | true =>
        obtain ⟨h1, h2⟩ := read_t is k n ys [] hlt HIT.out (by omega)
        rw [List.append_nil] at h1
        have HR : Hid (rBytes (ys.length : Int) ((layAll is).drop (layAll (is.take k)).length) 0 = (ys, (dg ys.length ++ ys).length, 0)) := h1
        have HP : Hid ((layAll (is.take k)).length + (dg ys.length ++ ys).length = (layAll (is.take (k + 1))).length) := h2
        clear h1 h2 hkB
        go_wp2_with fail
        refine wp_region_noPanic ?_
        refine wp_region_held_drew (S := (fun u => Below w2.heap.size w2 u)) (by kernel_rfl) (by first | exact hbd | assumption) (fun hHeld => ?_)
        refine take_at (i := 0) 26 (v := ?_) rfl rfl (by kernel_rfl) (by kernel_rfl) (by kernel_rfl) (fun _ _ _ h => h) (by rfl) ?_ hHeld ?_
        rotate_left
        · (intro w hSw; (try dsimp only at hSw); go_simp; try with_reducible rfl)
        simp only [Act.put, List.setIfInBounds_toArray, List.set_cons_zero, List.set_cons_succ]
        refine take_at (i := 1) 27 (v := ?_) rfl rfl (by kernel_rfl) (by kernel_rfl) (by kernel_rfl) (fun _ _ _ h => h) (by rfl) ?_ hHeld ?_
        rotate_left
        · (intro w hSw; (try dsimp only at hSw); go_simp; try with_reducible rfl)
        simp only [Act.put, List.setIfInBounds_toArray, List.set_cons_zero, List.set_cons_succ]
        refine take_at (i := 2) 28 (v := ?_) rfl rfl (by kernel_rfl) (by kernel_rfl) (by kernel_rfl) (fun _ _ _ h => h) (by rfl) ?_ hHeld ?_
        rotate_left
        · (intro w hSw; (try dsimp only at hSw); go_simp; try with_reducible rfl)
        simp only [Act.put, List.setIfInBounds_toArray, List.set_cons_zero, List.set_cons_succ]
        refine take_at (i := 3) 29 (v := ?_) rfl rfl (by kernel_rfl) (by kernel_rfl) (by kernel_rfl) (fun _ _ _ h => h) (by rfl) ?_ hHeld ?_
        rotate_left
        · (intro w hSw; (try dsimp only at hSw); go_simp; try with_reducible rfl)
        simp only [Act.put, List.setIfInBounds_toArray, List.set_cons_zero, List.set_cons_succ]
        refine take_at (i := 4) 30 (v := ?_) rfl rfl (by kernel_rfl) (by kernel_rfl) (by kernel_rfl) (fun _ _ _ h => h) (by rfl) ?_ hHeld ?_
        rotate_left
        · (intro w hSw; (try dsimp only at hSw); go_simp; try with_reducible rfl)
        simp only [Act.put, List.setIfInBounds_toArray, List.set_cons_zero, List.set_cons_succ]
        refine take_at (i := 5) 31 (v := ?_) rfl rfl (by kernel_rfl) (by kernel_rfl) (by kernel_rfl) (fun _ _ _ h => h) (by rfl) ?_ hHeld ?_
        rotate_left
        · (intro w hSw; (try dsimp only at hSw); go_simp; try with_reducible rfl)
        simp only [Act.put, List.setIfInBounds_toArray, List.set_cons_zero, List.set_cons_succ]
        refine take_at (i := 6) 32 (v := ?_) rfl rfl (by kernel_rfl) (by kernel_rfl) (by kernel_rfl) (fun _ _ _ h => h) (by rfl) ?_ hHeld ?_
        rotate_left
        · (intro w hSw; (try dsimp only at hSw); go_simp; try with_reducible rfl)
        simp only [Act.put, List.setIfInBounds_toArray, List.set_cons_zero, List.set_cons_succ]
        refine take_at (i := 9) 35 (v := ?_) rfl rfl (by kernel_rfl) (by kernel_rfl) (by kernel_rfl) (fun _ _ _ h => h) (by rfl) ?_ hHeld ?_
        rotate_left
        · (intro w hSw; (try dsimp only at hSw); go_simp; try with_reducible rfl)
        simp only [Act.put, List.setIfInBounds_toArray, List.set_cons_zero, List.set_cons_succ]
        refine take_at (i := 10) 36 (v := ?_) rfl rfl (by kernel_rfl) (by kernel_rfl) (by kernel_rfl) (fun _ _ _ h => h) (by rfl) ?_ hHeld ?_
        rotate_left
        · (intro w hSw; (try dsimp only at hSw); go_simp; try with_reducible rfl)
        simp only [Act.put, List.setIfInBounds_toArray, List.set_cons_zero, List.set_cons_succ]
        refine take_at (i := 11) 37 (v := ?_) rfl rfl (by kernel_rfl) (by kernel_rfl) (by kernel_rfl) (fun _ _ _ h => h) (by rfl) ?_ hHeld ?_
        rotate_left
        · (intro w hSw; (try dsimp only at hSw); go_simp; try with_reducible rfl)
        simp only [Act.put, List.setIfInBounds_toArray, List.set_cons_zero, List.set_cons_succ]
        refine take_at (i := 12) 38 (v := ?_) rfl rfl (by kernel_rfl) (by kernel_rfl) (by kernel_rfl) (fun _ _ _ h => h) (by rfl) ?_ hHeld ?_
        rotate_left
        · (intro w hSw; (try dsimp only at hSw); go_simp; try with_reducible rfl)
        simp only [Act.put, List.setIfInBounds_toArray, List.set_cons_zero, List.set_cons_succ]
        refine take_at (i := 13) 39 (v := ?_) rfl rfl (by kernel_rfl) (by kernel_rfl) (by kernel_rfl) (fun _ _ _ h => h) (by rfl) ?_ hHeld ?_
        rotate_left
        · (intro w hSw; (try dsimp only at hSw); go_simp; try with_reducible rfl)
        simp only [Act.put, List.setIfInBounds_toArray, List.set_cons_zero, List.set_cons_succ]
        refine take_at (i := 14) 40 (v := ?_) rfl rfl (by kernel_rfl) (by kernel_rfl) (by kernel_rfl) (fun _ _ _ h => h) (by rfl) ?_ hHeld ?_
        rotate_left
        · (intro w hSw; (try dsimp only at hSw); go_simp; try with_reducible rfl)
        simp only [Act.put, List.setIfInBounds_toArray, List.set_cons_zero, List.set_cons_succ]
        refine run_at (i := 7) rfl (by kernel_rfl) (by rfl) (fun K hK => ?_)
        simp only [List.getElem_toArray, List.getElem_cons_zero, List.getElem_cons_succ]
        go_simp
        first | (go_at_call 25; refine (bytes_k _ (by omega) ys _ 0 _ hBd HR.out HP.out).mono ?_; rintro e w7 ⟨a7, c7, rfl, hz7, hB7, -⟩; have hb7 := hB7.bel; have hcv7 := conv_rd hz7 _ c7 rfl)
        go_wp2_with fail
        refine hK.out _ _ (by first | exact hbd | assumption) ?_
        clear hK K
        intro hHeld2
        clear hHeld
        have hHeld := hHeld2
        clear hHeld2
        try simp only [Act.put, List.setIfInBounds_toArray, List.set_cons_zero, List.set_cons_succ]
        refine val_at (i := 8) 34 (v := ?_) rfl rfl (by kernel_rfl) (by rfl) ?_ ?_ ?_
        rotate_left
        · (go_simp; try with_reducible rfl)
        · (first | exact hbd | assumption)
        intro hHeld2
        clear hHeld
        have hHeld := hHeld2
        clear hHeld2
        simp only [Act.put, List.setIfInBounds_toArray, List.set_cons_zero, List.set_cons_succ]
        refine take_at (i := 15) 41 (v := ?_) rfl rfl (by kernel_rfl) (by kernel_rfl) (by kernel_rfl) (fun _ _ _ h => h) (by rfl) ?_ hHeld ?_
        rotate_left
        · (intro w hSw; (try dsimp only at hSw); go_simp; try with_reducible rfl)
        simp only [Act.put, List.setIfInBounds_toArray, List.set_cons_zero, List.set_cons_succ]
        refine wpAnyH_done (by kernel_rfl) ?_ _
        refine NoPanic.normal ?_
        all_goals
          go_wp2
          go_roundw
          case rel => exact ⟨k + 1, by omega, by go_num, hB7⟩
          case measure => simp [intOf]; omega
      | false =>
        obtain ⟨h1, h2⟩ := read_f is k n ys [] hlt HIT.out HNN.out
        rw [List.append_nil] at h1
        have HR : Hid (rNum n ((layAll is).drop (layAll (is.take k)).length) 0 = (n, (dg n).length, 0)) := h1
        have HP : Hid ((layAll (is.take k)).length + (dg n).length = (layAll (is.take (k + 1))).length) := h2
        clear h1 h2 hkC hcvI
        go_wp2_with fail
        refine wp_region_noPanic ?_
        refine wp_region_held_drew (S := (fun u => Below w2.heap.size w2 u)) (by kernel_rfl) (by first | exact hbd | assumption) (fun hHeld => ?_)
        refine take_at (i := 0) 42 (v := ?_) rfl rfl (by kernel_rfl) (by kernel_rfl) (by kernel_rfl) (fun _ _ _ h => h) (by rfl) ?_ hHeld ?_
        rotate_left
        · (intro w hSw; (try dsimp only at hSw); go_simp; try with_reducible rfl)
        simp only [Act.put, List.setIfInBounds_toArray, List.set_cons_zero, List.set_cons_succ]
        refine take_at (i := 1) 43 (v := ?_) rfl rfl (by kernel_rfl) (by kernel_rfl) (by kernel_rfl) (fun _ _ _ h => h) (by rfl) ?_ hHeld ?_
        rotate_left
        · (intro w hSw; (try dsimp only at hSw); go_simp; try with_reducible rfl)
        simp only [Act.put, List.setIfInBounds_toArray, List.set_cons_zero, List.set_cons_succ]
        refine take_at (i := 2) 44 (v := ?_) rfl rfl (by kernel_rfl) (by kernel_rfl) (by kernel_rfl) (fun _ _ _ h => h) (by rfl) ?_ hHeld ?_
        rotate_left
        · (intro w hSw; (try dsimp only at hSw); go_simp; try with_reducible rfl)
        simp only [Act.put, List.setIfInBounds_toArray, List.set_cons_zero, List.set_cons_succ]
        refine take_at (i := 3) 45 (v := ?_) rfl rfl (by kernel_rfl) (by kernel_rfl) (by kernel_rfl) (fun _ _ _ h => h) (by rfl) ?_ hHeld ?_
        rotate_left
        · (intro w hSw; (try dsimp only at hSw); go_simp; try with_reducible rfl)
        simp only [Act.put, List.setIfInBounds_toArray, List.set_cons_zero, List.set_cons_succ]
        refine take_at (i := 4) 46 (v := ?_) rfl rfl (by kernel_rfl) (by kernel_rfl) (by kernel_rfl) (fun _ _ _ h => h) (by rfl) ?_ hHeld ?_
        rotate_left
        · (intro w hSw; (try dsimp only at hSw); go_simp; try with_reducible rfl)
        simp only [Act.put, List.setIfInBounds_toArray, List.set_cons_zero, List.set_cons_succ]
        refine take_at (i := 5) 47 (v := ?_) rfl rfl (by kernel_rfl) (by kernel_rfl) (by kernel_rfl) (fun _ _ _ h => h) (by rfl) ?_ hHeld ?_
        rotate_left
        · (intro w hSw; (try dsimp only at hSw); go_simp; try with_reducible rfl)
        simp only [Act.put, List.setIfInBounds_toArray, List.set_cons_zero, List.set_cons_succ]
        refine take_at (i := 7) 49 (v := ?_) rfl rfl (by kernel_rfl) (by kernel_rfl) (by kernel_rfl) (fun _ _ _ h => h) (by rfl) ?_ hHeld ?_
        rotate_left
        · (intro w hSw; (try dsimp only at hSw); go_simp; try with_reducible rfl)
        simp only [Act.put, List.setIfInBounds_toArray, List.set_cons_zero, List.set_cons_succ]
        refine take_at (i := 8) 50 (v := ?_) rfl rfl (by kernel_rfl) (by kernel_rfl) (by kernel_rfl) (fun _ _ _ h => h) (by rfl) ?_ hHeld ?_
        rotate_left
        · (intro w hSw; (try dsimp only at hSw); go_simp; try with_reducible rfl)
        simp only [Act.put, List.setIfInBounds_toArray, List.set_cons_zero, List.set_cons_succ]
        refine take_at (i := 9) 51 (v := ?_) rfl rfl (by kernel_rfl) (by kernel_rfl) (by kernel_rfl) (fun _ _ _ h => h) (by rfl) ?_ hHeld ?_
        rotate_left
        · (intro w hSw; (try dsimp only at hSw); go_simp; try with_reducible rfl)
        simp only [Act.put, List.setIfInBounds_toArray, List.set_cons_zero, List.set_cons_succ]
        refine take_at (i := 10) 52 (v := ?_) rfl rfl (by kernel_rfl) (by kernel_rfl) (by kernel_rfl) (fun _ _ _ h => h) (by rfl) ?_ hHeld ?_
        rotate_left
        · (intro w hSw; (try dsimp only at hSw); go_simp; try with_reducible rfl)
        simp only [Act.put, List.setIfInBounds_toArray, List.set_cons_zero, List.set_cons_succ]
        refine take_at (i := 11) 53 (v := ?_) rfl rfl (by kernel_rfl) (by kernel_rfl) (by kernel_rfl) (fun _ _ _ h => h) (by rfl) ?_ hHeld ?_
        rotate_left
        · (intro w hSw; (try dsimp only at hSw); go_simp; try with_reducible rfl)
        simp only [Act.put, List.setIfInBounds_toArray, List.set_cons_zero, List.set_cons_succ]
        refine run_at (i := 6) rfl (by kernel_rfl) (by rfl) (fun K hK => ?_)
        simp only [List.getElem_toArray, List.getElem_cons_zero, List.getElem_cons_succ]
        go_simp
        first | (go_at_call 22; refine (number_k n n _ 0 _ hBd HR.out HP.out).mono ?_; rintro e w7 ⟨rfl, hB7, -⟩; have hb7 := hB7.bel)
        go_wp2_with fail
        refine hK.out _ _ (by first | exact hbd | assumption) ?_
        clear hK K
        intro hHeld2
        clear hHeld
        have hHeld := hHeld2
        clear hHeld2
        try simp only [Act.put, List.setIfInBounds_toArray, List.set_cons_zero, List.set_cons_succ]
        refine take_at (i := 12) 54 (v := ?_) rfl rfl (by kernel_rfl) (by kernel_rfl) (by kernel_rfl) (fun _ _ _ h => h) (by rfl) ?_ hHeld ?_
        rotate_left
        · (intro w hSw; (try dsimp only at hSw); go_simp; try with_reducible rfl)
        simp only [Act.put, List.setIfInBounds_toArray, List.set_cons_zero, List.set_cons_succ]
        refine wpAnyH_done (by kernel_rfl) ?_ _
        refine NoPanic.normal ?_
        all_goals
          go_wp2
          go_roundw
          case rel => exact ⟨k + 1, by omega, by go_num, hB7⟩
          case measure => simp [intOf]; omega
    · obtain rfl : k = is.length := by omega
      rw [List.take_length] at hB
      go_wp2_with fail
      refine (end_k 0 hB (by simp [rEnd])).mono ?_
      rintro e w4 ⟨rfl, hB4, -⟩
      clear hB
      go_wp2_with fail
      refine (left_k 0 hB4 (Nat.sub_self _)).mono ?_
      rintro e w5 ⟨rfl, hb5⟩
      have hB5 := below_next hB4.bel hb5
      clear hB4 hb5
      have hr5 := hr2.below hB5
      have hsz5 := hB5.size
      have h0 : Own w5 w5.heap.size (.slice none 0 0) [] := World.ownsRow_nil _ _ _ _
      go_wp2_with (at_builtin; first | (refine wp_app rfl _ _ rfl _ _ [] (layAll is) _ _ rfl h0 rfl hr5 HN2.out (by simp; omega) (Nat.le_refl _) ?_; intro v6 w6 ho6 hg6; have hsz6 := hg6.size) | (refine wp_app rfl _ _ rfl _ _ ([] ++ layAll is) [0] _ _ rfl (own_alloc ho6 _) rfl (rd_lit w6 _ rfl _ 5 (0, 0) [0] (by simp [bv])) (fun h => by cases h) (by simp; omega) (by simp; omega) ?_; intro v7 w7 ho7 hg7; obtain ⟨a7, c7, rfl, hr7, hn7, -⟩ := own_sl ho7; have HN7 : Hid (a7 = none → c7 = 0) := hn7; clear hn7))
      have hb6 : Below w2.heap.size w2 w6 := hB5.grown hg6 hsz5 (fun j hj => by cases hj)
      have hb6a := hb6.alloc (by omega) (.cells #[.int .u8 0] 5)
      have hb7 : Below w2.heap.size w2 w7 := hb6a.grown hg7 (by simp; omega) (fun j hj => by have := (World.ownsRow.lt ho6 j hj).1; omega)
      have hsz7 := hb7.size
      refine (new_r a7 _ c7 (layAll is ++ [0]) (by simp) w7 (by simpa using hr7) HN7.out (by omega)).mono ?_
      rintro e w8 ⟨ps, aos, caps, rfl, hr8, hb8, hp8, hao8⟩
      have hp8w : ps < w8.heap.size := World.block_lt_of_cell? w8 _ hr8.c0
      have hB8 : Bk w2 w8 ps aos caps (layAll is ++ [0]) (layAll (is.take 0)).length 0 := ⟨hr8, below_next hb7 hb8, by omega⟩
      clear hr7 HN7 ho7 hg7 hb6 hb6a hg6 ho6 h0 hr5 hb7
      obtain ⟨m, hm⟩ : ∃ m, m = (layAll is).length - 1 := ⟨_, rfl⟩
      have hr8b : Rd w8 a2 ((layAll is).dropLast) := by rw [List.dropLast_eq_take]; exact (hr2.below hB8.bel).take _
      have hml : (layAll is).dropLast.length = m := by rw [List.length_dropLast]; omega
      have hmc : m ≤ c2 := by omega
      have hmci : (m : Int) ≤ (c2 : Int) := by omega
      clear hr2 hm hml hr8 hB5 hsz5 hsz6 hsz7 hk hlt
      go_wp2_with fail
      all_goals
        refine (new_r a2 _ c2 (layAll is).dropLast (by rw [List.length_dropLast] <;> omega) w8 hr8b HN2.out (by omega)).mono ?_
        rintro e w9 ⟨pt, aot, capt, rfl, hr9, hb9, hp9, hao9⟩
        have hS9 := hB8.below hb9
        have hwp8 := hB8.wp
        have hT9 : Bk w2 w9 pt aot capt (layAll is).dropLast 0 0 := ⟨hr9, below_next hB8.bel hb9, by omega⟩
        have HNE : Hid (ps ≠ pt) := by unfold Hid; omega
        have HA1 : Hid (∀ a, aos = some a → a.block ≠ pt) := fun a ha => by have := hao8 a ha; omega
        have HA2 : Hid (∀ a, aot = some a → a.block ≠ ps) := fun a ha => by have := hao9 a ha; omega
        clear hr9 hb9 hp9 hao9 hao8 hB8 hr8b hp8 hp8w hb8 hwp8 hmc hmci
        go_wp2
        go_loopw [8] (fun i wr => ∃ k : Nat, k ≤ is.length ∧ i = .int .i64 k ∧ ∃ plt ft, Bk w2 wr ps aos caps (layAll is ++ [0]) (layAll (is.take k)).length 0 ∧ Bk w2 wr pt aot capt (layAll is).dropLast plt ft ∧ (k < is.length → plt = (layAll (is.take k)).length ∧ ft = 0) ∧ (k = is.length → is.length = 0 ∨ ft = 10)) (fun i _ => is.length - (intOf i).toNat)
        case atStart => exact ⟨0, Nat.zero_le _, rfl, 0, 0, hS9, hT9, fun _ => ⟨rfl, rfl⟩, fun h => .inl h.symm⟩
        case round =>
          obtain ⟨k, hk, rfl, plt, ft, hS, hT, hlt0, hend0⟩ := hrel
          clear hS9 hT9
          by_cases hlt : k < is.length
          · obtain ⟨rfl, rfl⟩ := hlt0 hlt
            clear hlt0 hend0
            obtain ⟨b, o, rfl, hat⟩ := HI.out.at k hlt
            obtain ⟨aI, cI, k0, k1, k2, -, -, -⟩ := hat.below hbel2
            have hokk := ok_at HOK.out k hlt
            have hblk := HBL.out _ (List.getElem_mem hlt)
            obtain ⟨it, hit⟩ : ∃ it, is[k] = it := ⟨_, rfl⟩
            have HIT : Hid (is[k] = it) := hit
            rw [hit] at k0 k1 k2 hokk hblk
            clear hit
            obtain ⟨l, n, ys⟩ := it
            obtain ⟨hokn, -⟩ := hokk
            simp only at k0 k1 k2 hokn hblk
            have HNN : Hid (n < 18446744073709551616) := hokn
            clear hat hokn
            have kA := (hS.bel.cell (World.block_lt_of_cell? w2 _ k0)).trans k0
            cases l with
            | true =>
              obtain ⟨h1, h2⟩ := read_t is k n ys [0] hlt HIT.out (by omega)
              have HR : Hid (rBytes (ys.length : Int) ((layAll is ++ [0]).drop (layAll (is.take k)).length) 0 = (ys, (dg ys.length ++ ys).length, 0)) := h1
              have HP : Hid ((layAll (is.take k)).length + (dg ys.length ++ ys).length = (layAll (is.take (k + 1))).length) := h2
              clear h1 h2
              have kC := (hS.bel.cell (World.block_lt_of_cell? w2 _ k2)).trans k2
              go_wp2_with fail
              refine (bytes_k _ (by omega) ys _ 0 _ hS HR.out HP.out).mono ?_
              rintro e w10 ⟨a10, c10, rfl, -, hS10, hg10⟩
              have hT10 := hT.far hg10 hS.wp (Ne.symm HNE.out) HA2.out
              have kC10 := (hS10.bel.cell (World.block_lt_of_cell? w2 _ k2)).trans k2
              clear kA kC hS hT hg10
              obtain ⟨zs, K, E, hz⟩ : ∃ zs K E, rBytes (ys.length : Int) ((layAll is).dropLast.drop (layAll (is.take k)).length) 0 = (zs, K, E) := ⟨_, _, _, rfl⟩
              have HZ : Hid (rBytes (ys.length : Int) ((layAll is).dropLast.drop (layAll (is.take k)).length) 0 = (zs, K, E)) := hz
              have HCUT : Hid _ := cut_t is k n ys hlt HOK.out HIT.out (by omega) zs K E hz
              clear hz
              go_wp2_with fail
              refine (bytes_k _ (by omega) zs K E _ hT10 HZ.out rfl).mono ?_
              rintro e w11 ⟨a11, c11, rfl, -, hT11, hg11⟩
              have hS11 := hS10.far hg11 hT10.wp HNE.out HA1.out
              clear kC10 hT10 hS10 hg11 HZ HR HP
              go_wp2
              go_roundw
              case rel => exact ⟨k + 1, by omega, by go_num, _, _, hS11, hT11, HCUT.out.1, fun h => .inr (HCUT.out.2 h)⟩
              case measure => simp [intOf]; omega
            | false =>
              obtain ⟨h1, h2⟩ := read_f is k n ys [0] hlt HIT.out HNN.out
              have HR : Hid (rNum n ((layAll is ++ [0]).drop (layAll (is.take k)).length) 0 = (n, (dg n).length, 0)) := h1
              have HP : Hid ((layAll (is.take k)).length + (dg n).length = (layAll (is.take (k + 1))).length) := h2
              clear h1 h2
              have kC := (hS.bel.cell (World.block_lt_of_cell? w2 _ k1)).trans k1
              go_wp2_with fail
              refine (number_k n n _ 0 _ hS HR.out HP.out).mono ?_
              rintro e w10 ⟨rfl, hS10, hg10⟩
              have hT10 := hT.far hg10 hS.wp (Ne.symm HNE.out) HA2.out
              have kC10 := (hS10.bel.cell (World.block_lt_of_cell? w2 _ k1)).trans k1
              clear kA kC hS hT hg10
              obtain ⟨N, K, E, hz⟩ : ∃ N K E, rNum n ((layAll is).dropLast.drop (layAll (is.take k)).length) 0 = (N, K, E) := ⟨_, _, _, rfl⟩
              have HZ : Hid (rNum n ((layAll is).dropLast.drop (layAll (is.take k)).length) 0 = (N, K, E)) := hz
              have HCUT : Hid _ := cut_f is k n ys hlt HOK.out HIT.out HNN.out N K E hz
              clear hz
              go_wp2_with fail
              refine (number_k n N K E _ hT10 HZ.out rfl).mono ?_
              rintro e w11 ⟨rfl, hT11, hg11⟩
              have hS11 := hS10.far hg11 hT10.wp HNE.out HA1.out
              clear kC10 hT10 hS10 hg11 HZ HR HP
              go_wp2
              go_roundw
              case rel => exact ⟨k + 1, by omega, by go_num, _, _, hS11, hT11, HCUT.out.1, fun h => .inr (HCUT.out.2 h)⟩
              case measure => simp [intOf]; omega
          · obtain rfl : k = is.length := by omega
            have HE : Hid (is.length = 0 ∨ ft = 10) := hend0 rfl
            clear hlt0 hend0 hlt hk
            rw [List.take_length] at hS
            go_wp2_with fail
            refine (end_k 11 hS (by simp [rEnd])).mono ?_
            rintro e w10 ⟨rfl, hS10, hg10⟩
            have hT10 := hT.far hg10 hS.wp (Ne.symm HNE.out) HA2.out
            clear hS hT hg10
            go_wp2_with fail
            refine (left_k 1 hS10 (by simp)).mono ?_
            rintro e w11 ⟨rfl, hb11⟩
            have hT11 := hT10.below hb11
            clear hS10 hT10 hb11
            by_cases h0 : is.length = 0
            · have hL0 : (layAll is).length = 0 := by rw [List.length_eq_zero_iff.1 h0]; rfl
              clear HE
              go_wp2
              go_ret
              exact ⟨by simp [hL0], below_next hbel2 hT11.bel⟩
            · have hL0 : ¬ (layAll is).length = 0 := fun e => layAll_ne is HOK.out (fun e2 => h0 (by rw [e2]; rfl)) (List.length_eq_zero_iff.1 e)
              obtain rfl : ft = 10 := HE.out.resolve_left h0
              clear HE
              go_wp2_with fail
              refine (err_r _ hT11.r).mono ?_
              rintro e w12 ⟨rfl, hw12⟩
              have hw12' := hw12.symm
              subst hw12'
              go_wp2
              go_ret
              exact ⟨by simp, below_next hbel2 hT11.bel⟩
end Go.Proofs.YtinphflminaijabDoor
