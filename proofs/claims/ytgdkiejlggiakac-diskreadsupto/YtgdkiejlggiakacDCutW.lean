import Derived.Test.YtgdkiejlggiakacDMore
namespace Go.Proofs.Ytgdkiejlggiakac
set_option linter.unusedVariables false
set_option linter.unusedSimpArgs false
open Go.RowKit Go.Maps
def cutF (off : Bool) (fuse n : Int) : Int := if off then fuse else max n (-1)
set_option maxRecDepth 20000 in
set_option maxHeartbeats 400000 in
theorem cut_t (p : Nat) (a : Option Addr) (k c : Nat) (b : Value) (off : Bool) (fuse n : Int) (w : World) (hk : 0 < k) (h : w.heap[p]? = some (.cells #[.slice a k c, b, .bool off, .int .i64 fuse] 55 (0, 0))) :
    Calls Try.prog 50 #[.pointer (some ⟨p, 0, none⟩), .int .i64 n] w fun e w' => e = .returned (.tuple #[]) ∧ w'.heap[p]? = some (.cells #[.slice a k c, b, .bool off, .int .i64 (cutF off fuse n)] 55 (0, 0)) ∧ w.grownBy w' (some p) := by
  have c0 : w.cell? ⟨p, 0, none⟩ = some (.slice a k c) := by rw [cell_of_row _ _ 0 _ _ _ h]; rfl
  have c2 : w.cell? ⟨p, 2, none⟩ = some (.bool off) := by rw [cell_of_row _ _ 2 _ _ _ h]; rfl
  have c3 : w.cell? ⟨p, 3, none⟩ = some (.int .i64 fuse) := by rw [cell_of_row _ _ 3 _ _ _ h]; rfl
  have f3 := frozen_of_row w p 3 _ _ h
  have HH : Hid _ := h
  clear h
  cases off
  · have e : cutF false fuse n = max n (-1) := by simp [cutF]
    rw [e]
    clear e
    go_enter Try.func50, Try.ntmps50
    go_wp2_with (go_at_call 26; refine (made_t p a k c w c0).mono ?_; rintro e w1 ⟨rfl, hq⟩; have hq := hq.symm; subst hq; rw [decide_eq_true hk])
    go_end0
    exact ⟨rfl, (heap_set4 HH.out _).2, gset1 w p 3 _⟩
  · have e : cutF true fuse n = fuse := by simp [cutF]
    rw [e]
    clear e
    go_enter Try.func50, Try.ntmps50
    go_wp2_with (go_at_call 26; refine (made_t p a k c w c0).mono ?_; rintro e w1 ⟨rfl, hq⟩; have hq := hq.symm; subst hq; rw [decide_eq_true hk])
    go_end0
    exact ⟨rfl, HH.out, World.grownBy.refl _ _⟩
def Dst.cut (d : Dst) (n : Int) : Dst := ⟨d.S, d.C, d.off, cutF d.off d.fuse n⟩
theorem Ap.cut {W w : World} {N : Nat} {R : List (Nat × Obj)} {P : Nat → Nat} {ds : Nat → Dst} {c : Nat} (h : Ap W w N R P ds c) (i : Nat) (hi : i < N) (n : Int) (hn : n ≤ 9223372036854775807) :
    Calls Try.prog 50 #[.pointer (some ⟨P i, 0, none⟩), .int .i64 n] w fun e w' => e = .returned (.tuple #[]) ∧ Ap W w' N R P (updS ds i ((ds i).cut n)) c := by
  obtain ⟨D, h1, h2⟩ := h.ex
  obtain ⟨e1, e2, e3⟩ := h2 i hi
  have hok := h1.ok i hi
  have hr := cut_t (D i).p _ _ _ _ _ _ n w (DK.one hok) (DK.hp hok)
  rw [e1] at hr
  refine hr.mono ?_
  rintro e w' ⟨rfl, hp, hg⟩
  refine ⟨rfl, ?_⟩
  rw [← e1] at hp hg
  have hfu : cutF (D i).d.off (D i).d.fuse n ≤ 9223372036854775807 := by
    unfold cutF
    split
    · exact DK.fu hok
    · omega
  have hs : DS w' (D i).p (D i).g (D i).m ((D i).d.cut n) (D i).V (D i).n := DK.begun hok hp hg hfu
  rw [← e2]
  exact h.step (Nat.le_refl _) h1 h2 hi e3 hs ⟨Chg.of_grown hg (fun b hb => by cases hb; exact .inl rfl), fun b hb => .inl hb⟩
/-- the power is gone: a read -/
theorem Ap.readOff {W w : World} {N : Nat} {R : List (Nat × Obj)} {P : Nat → Nat} {ds : Nat → Dst} {c : Nat} (h : Ap W w N R P ds c) (i : Nat) (hi : i < N) (hoff : (ds i).off = true) :
    Calls Try.prog 15 #[.pointer (some ⟨P i, 0, none⟩), .int .i64 0] w fun e w' => e = .returned (.tuple #[.slice none 0 0, .int .i64 5]) ∧ w' = w := by
  obtain ⟨D, h1, h2⟩ := h.ex
  obtain ⟨e1, e2, e3⟩ := h2 i hi
  have hok := h1.ok i hi
  have hone := DK.one hok
  have hof' : (D i).d.off = true := by rw [e2]; exact hoff
  have hr := read_off (D i).p _ _ _ 0 w (by rw [cell_of_row _ _ 0 _ _ _ (DK.hp hok)]; rfl) (by rw [cell_of_row _ _ 2 _ _ _ (DK.hp hok)]; simp [hof']) (by simp [inB]; omega)
  rw [e1] at hr
  exact hr
/-- a disk without power stays as it is -/
theorem runS_off (most : Int) : ∀ (xs : List Stp) (k done : Nat) (d : Dst), d.off = true → d.fuse ≠ 0 → (∀ s ∈ xs, 0 ≤ s.op ∧ s.op ≤ 2) → (runS most k done d xs).2 = done ∧ (runS most k done d xs).1 = d
  | [], _, _, d, _, _, _ => by unfold runS; exact ⟨rfl, rfl⟩
  | s :: l, k, done, d, h1, h2, h3 => by
    have hc : d.can = false := by unfold Dst.can begE; rw [if_neg h2, if_pos h1]; rfl
    have hbg : d.begun = d := by unfold Dst.begun begO begF; cases d; simp_all
    have hs : d.step k s = d := by
      have h4 := h3 s (by simp)
      unfold Dst.step
      split
      · unfold Dst.write; rw [hc]; exact hbg
      · split
        · unfold Dst.flush; rw [hc]; exact hbg
        · rw [if_neg (by omega)]
    have hd : d.did s = 0 := by unfold Dst.did; rw [hc]; split <;> rfl
    unfold runS
    split
    · rw [hs, hd]
      exact runS_off most l (k + 1) (done + 0) d h1 h2 (fun s hs => h3 s (by simp [hs]))
    · exact ⟨rfl, rfl⟩
/-- two disks with the same sectors and the same cache -/
structure Twin (d t : Dst) : Prop where
  s : d.S = t.S
  c : d.C = t.C
theorem Twin.step {d t : Dst} (h : Twin d t) (hd : d.can = true) (ht : t.can = true) (k : Nat) (s : Stp) : Twin (d.step k s) (t.step k s) := by
  unfold Dst.step
  rw [h.s]
  split
  · unfold Dst.write; rw [hd, ht]; exact ⟨h.s, by simp only [if_true]; rw [h.c]⟩
  · split
    · unfold Dst.flush; rw [hd, ht]; exact ⟨by simp only [if_true]; rw [h.s, h.c], rfl⟩
    · split
      · exact ⟨by unfold Dst.crash; simp only; rw [h.s, h.c], rfl⟩
      · exact h
theorem Dst.step_pow (d : Dst) (k : Nat) (s : Stp) (h : 0 ≤ s.op ∧ s.op ≤ 2) (hc : d.can = true) : (d.step k s).off = begO d.off d.fuse ∧ (d.step k s).fuse = begF d.off d.fuse := by
  unfold Dst.step
  split
  · unfold Dst.write; rw [hc]; exact ⟨rfl, rfl⟩
  · rw [if_pos (by omega)]; unfold Dst.flush; rw [hc]; exact ⟨rfl, rfl⟩
/-- n operations behind a Cut, and as many without one -/
theorem runS_cut (L : Int) : ∀ (xs : List Stp) (k done m : Nat) (d t : Dst), Twin d t → d.off = false → d.fuse = (m : Int) → t.fine → (∀ s ∈ xs, 0 ≤ s.op ∧ s.op ≤ 2) → (done : Int) + xs.length ≤ L →
    (runS L k done d xs).2 = done + min m xs.length ∧ (runS ((done + m : Nat) : Int) k done t xs).2 = done + min m xs.length ∧ Twin (runS L k done d xs).1 (runS ((done + m : Nat) : Int) k done t xs).1 ∧ (runS ((done + m : Nat) : Int) k done t xs).1.fine ∧
    (runS L k done d xs).1.off = decide (m < xs.length) ∧ ((runS L k done d xs).1.off = true → (runS L k done d xs).1.fuse = -1)
  | [], k, done, m, d, t, h, h1, h2, h3, h4, h5 => by
    unfold runS
    exact ⟨by simp, by simp, h, h3, by simp [h1], fun h => by rw [h1] at h; cases h⟩
  | s :: l, k, done, m, d, t, h, h1, h2, h3, h4, h5 => by
    have hs := h4 s (by simp)
    have hop : s.op = 0 ∨ s.op = 1 ∨ s.op = 2 := by omega
    have h5' : (done : Int) + (l.length + 1) ≤ L := by simpa using h5
    have hL : (done : Int) < L := by omega
    cases m with
    | zero =>
      have e1 : runS ((done + 0 : Nat) : Int) k done t (s :: l) = (t, done) := by
        unfold runS
        rw [if_neg (by simp)]
      have hc : d.can = false := by unfold Dst.can begE; rw [h2]; rfl
      have hb : d.begun = ⟨d.S, d.C, true, -1⟩ := by unfold Dst.begun begO begF; rw [h2]; rfl
      have hst : d.step k s = ⟨d.S, d.C, true, -1⟩ := by
        unfold Dst.step
        split
        · unfold Dst.write; rw [hc]; exact hb
        · rw [if_pos (by omega)]; unfold Dst.flush; rw [hc]; exact hb
      have hd : d.did s = 0 := by unfold Dst.did; rw [hc]; split <;> rfl
      have e2 : runS L k done d (s :: l) = runS L (k + 1) (done + 0) ⟨d.S, d.C, true, -1⟩ l := by
        rw [runS]
        rw [if_pos hL, hst, hd]
      obtain ⟨o1, o2⟩ := runS_off L l (k + 1) (done + 0) ⟨d.S, d.C, true, -1⟩ rfl (show (-1 : Int) ≠ 0 by decide) (fun s hs => h4 s (by simp [hs]))
      rw [e1, e2, o1, o2]
      exact ⟨by simp, by simp, ⟨h.s, h.c⟩, h3, by simp, fun _ => rfl⟩
    | succ m =>
      have hc : d.can = true := by unfold Dst.can begE; rw [h2, h1]; rw [if_neg (by omega)]; rfl
      have hdd : d.did s = 1 := by unfold Dst.did; rw [if_pos hop, hc]; rfl
      have htd : t.did s = 1 := by unfold Dst.did; rw [if_pos hop, h3.can]; rfl
      have hp := d.step_pow k s hs hc
      have hof : (d.step k s).off = false := by rw [hp.1]; unfold begO; rw [h2, h1, if_neg (by omega)]
      have hfu : (d.step k s).fuse = (m : Int) := by rw [hp.2]; unfold begF; rw [h2, h1, if_neg (by omega)]; simp <;> omega
      have e1 : runS ((done + (m + 1) : Nat) : Int) k done t (s :: l) = runS (((done + 1) + m : Nat) : Int) (k + 1) (done + 1) (t.step k s) l := by
        rw [runS]
        rw [if_pos (by omega), htd, show done + (m + 1) = done + 1 + m by omega]
      have e2 : runS L k done d (s :: l) = runS L (k + 1) (done + 1) (d.step k s) l := by
        rw [runS]
        rw [if_pos hL, hdd]
      obtain ⟨o1, o2, o3, o4, o5, o6⟩ := runS_cut L l (k + 1) (done + 1) m (d.step k s) (t.step k s) (h.step hc h3.can k s) hof hfu (h3.step k s) (fun s hs => h4 s (by simp [hs])) (by omega)
      rw [e1, e2]
      refine ⟨by rw [o1]; simp; omega, by rw [o2]; simp; omega, o3, o4, by rw [o5]; simp, o6⟩
end Go.Proofs.Ytgdkiejlggiakac
