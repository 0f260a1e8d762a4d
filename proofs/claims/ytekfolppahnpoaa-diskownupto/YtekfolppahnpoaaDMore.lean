import Derived.Test.YtekfolppahnpoaaDMany
namespace Go.Proofs.Ytekfolppahnpoaa
set_option linter.unusedVariables false
set_option linter.unusedSimpArgs false
open Go.RowKit Go.Maps
variable {W w : World} {N : Nat} {R : List (Nat × Obj)} {P : Nat → Nat} {ds : Nat → Dst} {c : Nat}
/-- a disk that was never cut -/
def Dst.fine (d : Dst) : Prop := d.off = false ∧ d.fuse = -1
theorem d0_fine (n : Nat) : (d0 n).fine := ⟨rfl, rfl⟩
theorem Dst.fine.can {d : Dst} (h : d.fine) : d.can = true := by unfold Dst.can begE; rw [h.1, h.2]; decide
theorem Dst.fine.beg {d : Dst} (h : d.fine) : begO d.off d.fuse = false ∧ begF d.off d.fuse = -1 := by unfold begO begF; rw [h.1, h.2]; decide
theorem Dst.fine.step {d : Dst} (h : d.fine) (k : Nat) (s : Stp) : (d.step k s).fine := by
  unfold Dst.step
  split
  · unfold Dst.write; rw [h.can]; exact h.beg
  · split
    · unfold Dst.flush; rw [h.can]; exact h.beg
    · split
      · exact ⟨rfl, rfl⟩
      · exact h
theorem runS_fine (most : Int) : ∀ (xs : List Stp) (k done : Nat) (d : Dst), d.fine → (runS most k done d xs).1.fine
  | [], _, _, d, h => by unfold runS; exact h
  | s :: l, k, done, d, h => by
    unfold runS
    split
    · exact runS_fine most l _ _ _ (h.step k s)
    · exact h
theorem runS_len (most : Int) : ∀ (xs : List Stp) (k done : Nat) (d : Dst), (runS most k done d xs).1.S.length = d.S.length
  | [], _, _, d => by unfold runS; rfl
  | s :: l, k, done, d => by
    unfold runS
    split
    · rw [runS_len most l, Dst.step_len]
    · rfl
/-- a crash that is told nothing: what was durable -/
theorem Dst.crash_none (d : Dst) : d.crash [] = ⟨d.S, fun _ => [], false, -1⟩ := by
  unfold Dst.crash
  congr 1
  unfold crashed
  apply List.ext_getElem
  · simp
  · intro k h1 h2
    simp only [List.getElem_mapIdx]
    split
    · rfl
    · unfold told afterS
      simp
def rdS (d : Dst) (k : Nat) : Sec := presS (d.S.getD k Sec.zero) (d.C k)
theorem Ap.read (h : Ap W w N R P ds c) (i : Nat) (hi : i < N) (hoff : (ds i).off = false) (k : Nat) (hk : k < (ds i).S.length) :
    Calls Try.prog 11 #[.pointer (some ⟨P i, 0, none⟩), .int .i64 (k : Int)] w fun e w' => ∃ v, e = .returned (.tuple #[v, .int .i64 (readE (rdS (ds i) k))]) ∧ Own w' w.heap.size v (readB (rdS (ds i) k)) ∧ Below w.heap.size w w' := by
  obtain ⟨D, h1, h2⟩ := h.ex
  obtain ⟨e1, e2, e3⟩ := h2 i hi
  have hk' : k < (D i).d.S.length := by rw [e2]; exact hk
  have hok := h1.ok i hi
  obtain ⟨a, cc, -, hL⟩ := DK.looks hok k hk'
  have hof' : (D i).d.off = false := by rw [e2]; exact hoff
  have hr := read_t (D i).p (D i).g (D i).m k (D i).d.S a cc ((D i).d.C k) w (DK.secAt hok) hk' (by rw [cell_of_row _ _ 1 _ _ _ (DK.hp hok)]; rfl) (by rw [cell_of_row _ _ 2 _ _ _ (DK.hp hok)]; simp [hof']) hL
  have hg : presS ((D i).d.S[k]) ((D i).d.C k) = rdS (ds i) k := by
    unfold rdS
    rw [← e2]
    simp [hk']
  rw [hg, e1] at hr
  exact hr
theorem Ap.readLen (h : Ap W w N R P ds c) (i : Nat) (hi : i < N) (k : Nat) (hk : k < (ds i).S.length) : (readB (rdS (ds i) k)).length ≤ 128 := by
  obtain ⟨D, h1, h2⟩ := h.ex
  obtain ⟨e1, e2, e3⟩ := h2 i hi
  have hok := h1.ok i hi
  rw [← e2] at hk ⊢
  obtain ⟨a, cc, -, hL⟩ := DK.looks hok k hk
  have hg : rdS (D i).d k = presS ((D i).d.S[k]) ((D i).d.C k) := by unfold rdS; simp [hk]
  have hso := afterS_ok ((DK.secAt hok).ok _ (List.getElem_mem hk)) (((D i).d.C k).length : Int) hL.len
  unfold readB
  rw [hg]
  split
  · simp
  · exact Nat.le_of_eq hso
theorem Ap.crash (h : Ap W w N R P ds c) (i : Nat) (hi : i < N) (ca : Option Addr) (cc : Nat) (chs : List Int) (hch : Ints w ca chs) (hlt : 0 < chs.length → ∀ q, ca = some q → q.block < W.heap.size) :
    Calls Try.prog 20 #[.pointer (some ⟨P i, 0, none⟩), .slice ca chs.length cc] w fun e w' => e = .returned (.tuple #[]) ∧ Ap W w' N R P (updS ds i ((ds i).crash chs)) c := by
  obtain ⟨D, h1, h2⟩ := h.ex
  obtain ⟨e1, e2, e3⟩ := h2 i hi
  have hr := crash_all (D i).p (D i).g (D i).m (D i).d (D i).V (D i).n ca cc chs w (h1.ok i hi) hch (fun h0 q hq => by
    have h3 := hlt h0 q hq
    have a1 := h1.above i hi (D i).p (.inl rfl)
    have a2 := h1.above i hi (D i).g (.inr (.inl rfl))
    have a3 := h1.above i hi (D i).m (.inr (.inr (.inl rfl)))
    omega)
  rw [e1] at hr
  refine hr.mono ?_
  rintro e w' ⟨rfl, V', hs, hst⟩
  refine ⟨rfl, ?_⟩
  rw [← e1] at hs hst
  rw [← e2]
  exact h.step (Nat.le_refl _) h1 h2 hi e3 hs hst
theorem Ap.flush (h : Ap W w N R P ds c) (i : Nat) (hi : i < N) :
    Calls Try.prog 19 #[.pointer (some ⟨P i, 0, none⟩)] w fun e w' => e = .returned (.int .i64 (if (ds i).can then 0 else 5)) ∧ Ap W w' N R P (updS ds i (ds i).flush) c := by
  obtain ⟨D, h1, h2⟩ := h.ex
  obtain ⟨e1, e2, e3⟩ := h2 i hi
  have hr := flush_all (D i).p (D i).g (D i).m (D i).d (D i).V (D i).n w (h1.ok i hi)
  rw [e1, e2] at hr
  refine hr.mono ?_
  rintro e w' ⟨rfl, V', hs, hst⟩
  refine ⟨rfl, ?_⟩
  rw [← e1] at hs hst
  exact h.step (Nat.le_refl _) h1 h2 hi e3 hs hst
theorem Ap.write (h : Ap W w N R P ds c) (hc : c < 1099511627776) (i : Nat) (hi : i < N) (k : Nat) (hk : k < (ds i).S.length) (g1 : Nat) (xs : List UInt8) (hx : w.heap[g1]? = some (.cells (bv xs).toArray 5 (0, 0))) (hl : xs.length = 128) :
    Calls Try.prog 16 #[.pointer (some ⟨P i, 0, none⟩), .int .i64 (k : Int), .slice (some ⟨g1, 0, none⟩) 128 128] w fun e w' => e = .returned (.int .i64 (if (ds i).can then 0 else 5)) ∧ Ap W w' N R P (updS ds i ((ds i).write k xs)) (c + 1) := by
  obtain ⟨D, h1, h2⟩ := h.ex
  obtain ⟨e1, e2, e3⟩ := h2 i hi
  have hr := write_all (D i).p (D i).g (D i).m k (D i).d (D i).V (D i).n (some ⟨g1, 0, none⟩) 128 xs w (h1.ok i hi) (by omega) (by rw [e2]; exact hk) (rd_row hx) hl (fun y hy => by cases hy; exact fun e => DK.not5 (h1.ok i hi) (.inl e) hx)
  rw [e1, e2] at hr
  refine hr.mono ?_
  rintro e w' ⟨rfl, V', hs, hst⟩
  refine ⟨rfl, ?_⟩
  rw [← e1] at hs hst
  exact h.step (Nat.le_succ _) h1 h2 hi (by omega) hs hst
theorem updN_eq (P : Nat → Nat) (i p : Nat) : updN P i p i = p := by simp [updN]
theorem updN_ne (P : Nat → Nat) {i j : Nat} (p : Nat) (h : j ≠ i) : updN P i p j = P j := by simp [updN, h]
def st2 (x y : Dst) : Nat → Dst := fun j => if j = 0 then x else y
theorem st2_0 (x y x' : Dst) : ∀ j, j < 2 → updS (st2 x y) 0 x' j = st2 x' y j := fun j _ => by unfold updS st2; split <;> rfl
theorem st2_1 (x y x' : Dst) : ∀ j, j < 2 → updS (st2 x y) 1 x' j = st2 x x' j := fun j hj => by
  unfold updS st2
  match j, hj with
  | 0, _ => rfl
  | 1, _ => rfl
end Go.Proofs.Ytekfolppahnpoaa
