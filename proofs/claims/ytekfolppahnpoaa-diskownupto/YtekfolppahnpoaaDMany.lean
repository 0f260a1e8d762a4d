import Derived.Test.YtekfolppahnpoaaDRun
import Derived.Test.YtekfolppahnpoaaDInt
namespace Go.Proofs.Ytekfolppahnpoaa
set_option linter.unusedVariables false
set_option linter.unusedSimpArgs false
open Go.RowKit Go.Maps
/-- one disk of several -/
structure DR where
  p : Nat
  g : Nat
  m : Nat
  d : Dst
  V : Nat → Value
  n : Nat
abbrev DR.at (r : DR) (w : World) : Prop := DS w r.p r.g r.m r.d r.V r.n
abbrev DR.foot (r : DR) : Nat → Prop := Go.Proofs.Ytekfolppahnpoaa.foot r.p r.g r.m r.V
/-- disks, no two with a block in common -/
structure Dks (w : World) (B N : Nat) (D : Nat → DR) : Prop where
  ok : ∀ i, i < N → (D i).at w
  apart : ∀ i j, i < N → j < N → i ≠ j → ∀ b, (D i).foot b → (D j).foot b → False
  above : ∀ i, i < N → ∀ b, (D i).foot b → B ≤ b
def updD (D : Nat → DR) (i : Nat) (r : DR) : Nat → DR := fun j => if j = i then r else D j
theorem updD_same (D : Nat → DR) (i : Nat) (r : DR) : updD D i r i = r := by simp [updD]
theorem updD_other (D : Nat → DR) {i j : Nat} (r : DR) (h : j ≠ i) : updD D i r j = D j := by simp [updD, h]
theorem Dks.kept {w w' : World} {B N : Nat} {D : Nat → DR} (h : Dks w B N D) {F : Nat → Prop} (hc : Chg F w w') (hF : ∀ i, i < N → ∀ b, (D i).foot b → ¬ F b) : Dks w' B N D :=
  ⟨fun i hi => (h.ok i hi).kept hc (hF i hi), h.apart, h.above⟩
theorem Dks.below {w w' : World} {B N : Nat} {D : Nat → DR} (h : Dks w B N D) (hb : Below w.heap.size w w') : Dks w' B N D :=
  h.kept (F := fun _ => False) (Chg.of_below hb) (fun _ _ _ _ hf => hf)
theorem Dks.none (w : World) (B : Nat) (D : Nat → DR) : Dks w B 0 D := ⟨fun _ h => absurd h (Nat.not_lt_zero _), fun _ _ h => absurd h (Nat.not_lt_zero _), fun _ h => absurd h (Nat.not_lt_zero _)⟩
theorem Dks.step {w w' : World} {B N : Nat} {D : Nat → DR} (h : Dks w B N D) (hB : B ≤ w.heap.size) {i : Nat} (hi : i < N) {d' : Dst} {V' : Nat → Value} {n' : Nat} (hs : DS w' (D i).p (D i).g (D i).m d' V' n') (hst : Step (D i).p (D i).g (D i).m (D i).V V' w w') :
    Dks w' B N (updD D i ⟨(D i).p, (D i).g, (D i).m, d', V', n'⟩) := by
  refine ⟨fun j hj => ?_, fun j k hj hk hne b h1 h2 => ?_, fun j hj b hb => ?_⟩
  · by_cases e : j = i
    · subst e; rw [updD_same]; exact hs
    · rw [updD_other _ _ e]
      exact (h.ok j hj).kept hst.chg (fun b hb hf => h.apart j i hj hi e b hb hf)
  · by_cases e : j = i
    · subst e
      rw [updD_same] at h1
      rw [updD_other _ _ (fun e => hne e.symm)] at h2
      rcases hst.new b h1 with h3 | h3
      · exact h.apart j k hj hk hne b h3 h2
      · have := DK.lt (h.ok k hk) h2; omega
    · rw [updD_other _ _ e] at h1
      by_cases e2 : k = i
      · subst e2
        rw [updD_same] at h2
        rcases hst.new b h2 with h3 | h3
        · exact h.apart j k hj hk hne b h1 h3
        · have := DK.lt (h.ok j hj) h1; omega
      · rw [updD_other _ _ e2] at h2
        exact h.apart j k hj hk hne b h1 h2
  · by_cases e : j = i
    · subst e
      rw [updD_same] at hb
      rcases hst.new b hb with h3 | h3
      · exact h.above j hj b h3
      · omega
    · rw [updD_other _ _ e] at hb
      exact h.above j hj b hb
/-- a disk more, of new blocks -/
theorem Dks.push {w w' : World} {B N : Nat} {D : Nat → DR} (h : Dks w B N D) (hB : B ≤ w.heap.size) (hb : Below w.heap.size w w') {p g m : Nat} {S : List Sec} (hn : NewAt w' p g m S) (hf : ∀ s ∈ S, s.fit) (hp : w.heap.size ≤ p) (hg : w.heap.size ≤ g) (hm : w.heap.size ≤ m) :
    Dks w' B (N + 1) (updD D N ⟨p, g, m, ⟨S, fun _ => [], false, -1⟩, fun _ => nilS, 0⟩) := by
  have hfo : ∀ b, foot p g m (fun _ => nilS) b → w.heap.size ≤ b := by
    rintro b (rfl | rfl | rfl | ⟨i, e⟩)
    · exact hp
    · exact hg
    · exact hm
    · simp [nilS, Value.ownBlock] at e
  refine ⟨fun j hj => ?_, fun j k hj hk hne b h1 h2 => ?_, fun j hj b hb' => ?_⟩
  · by_cases e : j = N
    · subst e; rw [updD_same]; exact hn.dk hf
    · rw [updD_other _ _ e]; exact DK.below (h.ok j (by omega)) hb
  · by_cases e : j = N
    · subst e
      rw [updD_same] at h1
      rw [updD_other _ _ (fun e => hne e.symm)] at h2
      have := hfo b h1
      have := DK.lt (h.ok k (by omega)) h2
      omega
    · rw [updD_other _ _ e] at h1
      by_cases e2 : k = N
      · subst e2
        rw [updD_same] at h2
        have := hfo b h2
        have := DK.lt (h.ok j (by omega)) h1
        omega
      · rw [updD_other _ _ e2] at h2
        exact h.apart j k (by omega) (by omega) hne b h1 h2
  · by_cases e : j = N
    · subst e
      rw [updD_same] at hb'
      have := hfo b hb'
      omega
    · rw [updD_other _ _ e] at hb'
      exact h.above j (by omega) b hb'
/-- a block of another kind than a disk's -/
def farT (T : TypeId) : Prop := T ≠ 50 ∧ T ≠ 63 ∧ T ≠ 61
theorem DK.notT {w : World} {p g m : Nat} {S : List Sec} {C : Nat → List (List UInt8)} {V : Nat → Value} {off : Bool} {fuse : Int} {n : Nat} (h : DK w p g m S C V off fuse n) {b : Nat} (hb : foot p g m V b) {cs : Array Value} {T : TypeId} {fr : Nat × Nat} (hT : farT T) (h5 : w.heap[b]? = some (.cells cs T fr)) : False := by
  rcases hb with rfl | rfl | rfl | ⟨i, e⟩
  · rw [h.hp] at h5; simp only [Option.some.injEq, Obj.cells.injEq] at h5; exact hT.1 h5.2.1.symm
  · rw [h.hg] at h5; simp only [Option.some.injEq, Obj.cells.injEq] at h5; exact hT.2.1 h5.2.1.symm
  · obtain ⟨es, cl, h1⟩ := h.cache.map_at
    rw [h1] at h5; cases h5
  · obtain ⟨cur, h1⟩ := row_at (h.cache.rows i) e
    rw [h1] at h5; simp only [Option.some.injEq, Obj.cells.injEq] at h5; exact hT.2.2 h5.2.1.symm
/-- a new disk -/
def d0 (N : Nat) : Dst := ⟨List.replicate N Sec.zero, fun _ => [], false, -1⟩
def foldD (d : Dst) (xs : List Stp) : Dst := xs.foldl (fun d s => d.step 0 s) d
theorem foldD_step (d : Dst) (xs : List Stp) (k : Nat) (h : k < xs.length) : foldD d (xs.take (k + 1)) = (foldD d (xs.take k)).step 0 xs[k] := by
  unfold foldD
  rw [List.take_succ_eq_append_getElem h, List.foldl_append]
  rfl
theorem runS_one (d : Dst) (s : Stp) : (runS 1 0 0 d [s]).1 = d.step 0 s := by
  unfold runS
  rw [if_pos (by decide)]
  unfold runS
  rfl
theorem RdSt.one {W : World} {b o : Nat} {xs : List Stp} (h : RdSt W (some ⟨b, o, none⟩) xs) (k : Nat) (hk : k < xs.length) : RdSt W (some ⟨b, o + k * 3, none⟩) [xs[k]] := by
  intro j hj
  obtain rfl : j = 0 := by simpa using hj
  obtain ⟨b', o', ca, cc, e, h1, h2, h3⟩ := h k hk
  cases e
  exact ⟨b, o + k * 3, ca, cc, rfl, by simpa using h1, h2, h3⟩
theorem RdSt.addr {W : World} {a : Option Addr} {xs : List Stp} (h : RdSt W a xs) (h0 : 0 < xs.length) : ∃ b o, a = some ⟨b, o, none⟩ := by
  obtain ⟨b, o, _, _, e, _⟩ := h 0 h0
  exact ⟨b, o, e⟩
/-- disks in their places, with a row of another kind beside them -/
structure Ap (W w : World) (N : Nat) (R : List (Nat × Obj)) (P : Nat → Nat) (ds : Nat → Dst) (c : Nat) : Prop where
  ex : ∃ D, Dks w W.heap.size N D ∧ (∀ j, j < N → (D j).p = P j ∧ (D j).d = ds j ∧ (D j).n ≤ c)
  row : ∀ x ∈ R, w.heap[x.1]? = some x.2
  far : ∀ x ∈ R, ∃ cs T fr, x.2 = .cells cs T fr ∧ farT T
  bel : Below W.heap.size W w
def updS (ds : Nat → Dst) (i : Nat) (d : Dst) : Nat → Dst := fun j => if j = i then d else ds j
theorem Ap.below {W w w' : World} {N : Nat} {R : List (Nat × Obj)} {P : Nat → Nat} {ds : Nat → Dst} {c : Nat} (h : Ap W w N R P ds c) (hb : Below w.heap.size w w') : Ap W w' N R P ds c := by
  obtain ⟨D, h1, h2⟩ := h.ex
  exact ⟨⟨D, h1.below hb, h2⟩, fun x hx => (hb.block x.1 (Array.getElem?_eq_some_iff.1 (h.row x hx)).1).trans (h.row x hx), h.far, h.bel.trans (hb.mono h.bel.size)⟩
theorem Ap.more {W w : World} {N : Nat} {R : List (Nat × Obj)} {P : Nat → Nat} {ds : Nat → Dst} {c c' : Nat} (h : Ap W w N R P ds c) (hc : c ≤ c') : Ap W w N R P ds c' := by
  obtain ⟨D, h1, h2⟩ := h.ex
  exact ⟨⟨D, h1, fun j hj => ⟨(h2 j hj).1, (h2 j hj).2.1, Nat.le_trans (h2 j hj).2.2 hc⟩⟩, h.row, h.far, h.bel⟩
theorem Ap.eq {W w : World} {N : Nat} {R : List (Nat × Obj)} {P : Nat → Nat} {ds ds' : Nat → Dst} {c : Nat} (h : Ap W w N R P ds c) (he : ∀ j, j < N → ds j = ds' j) : Ap W w N R P ds' c := by
  obtain ⟨D, h1, h2⟩ := h.ex
  exact ⟨⟨D, h1, fun j hj => ⟨(h2 j hj).1, (h2 j hj).2.1.trans (he j hj), (h2 j hj).2.2⟩⟩, h.row, h.far, h.bel⟩
/-- one disk takes a step of its own -/
theorem Ap.step {W w w' : World} {N : Nat} {R : List (Nat × Obj)} {P : Nat → Nat} {ds : Nat → Dst} {c c' : Nat} (h : Ap W w N R P ds c) (hcc : c ≤ c') {D : Nat → DR} (h1 : Dks w W.heap.size N D) (h2 : ∀ j, j < N → (D j).p = P j ∧ (D j).d = ds j ∧ (D j).n ≤ c) {i : Nat} (hi : i < N) {d' : Dst} {V' : Nat → Value} {n' : Nat} (hn : n' ≤ c') (hs : DS w' (D i).p (D i).g (D i).m d' V' n') (hst : Step (D i).p (D i).g (D i).m (D i).V V' w w') : Ap W w' N R P (updS ds i d') c' := by
  refine ⟨⟨_, h1.step h.bel.size hi hs hst, fun j hj => ?_⟩, ?_, h.far, h.bel.trans (hst.chg.below (h1.above i hi) h.bel.size)⟩
  · by_cases e : j = i
    · subst e; rw [updD_same]; simp [updS, (h2 j hj).1, hn]
    · rw [updD_other _ _ e]; simp only [updS, if_neg e]; exact ⟨(h2 j hj).1, (h2 j hj).2.1, Nat.le_trans (h2 j hj).2.2 hcc⟩
  · intro x hx
    obtain ⟨cs, T, fr, e, hT⟩ := h.far x hx
    exact (hst.chg.block x.1 (Array.getElem?_eq_some_iff.1 (h.row x hx)).1 (fun hf => DK.notT (h1.ok i hi) hf hT (by rw [h.row x hx, e]))).trans (h.row x hx)
theorem Ap.addRow {W w : World} {N : Nat} {R : List (Nat × Obj)} {P : Nat → Nat} {ds : Nat → Dst} {c : Nat} (h : Ap W w N R P ds c) {gl : Nat} {cs : Array Value} {T : TypeId} {fr : Nat × Nat} (hg : w.heap[gl]? = some (.cells cs T fr)) (hT : farT T) : Ap W w N ((gl, .cells cs T fr) :: R) P ds c := by
  refine ⟨h.ex, fun x hx => ?_, fun x hx => ?_, h.bel⟩
  · rcases List.mem_cons.1 hx with rfl | hx
    · exact hg
    · exact h.row x hx
  · rcases List.mem_cons.1 hx with rfl | hx
    · exact ⟨_, _, _, rfl, hT⟩
    · exact h.far x hx
theorem Ap.noRow {W w : World} {N : Nat} {R : List (Nat × Obj)} {P : Nat → Nat} {ds : Nat → Dst} {c : Nat} (h : Ap W w N R P ds c) : Ap W w N [] P ds c := ⟨h.ex, fun _ hx => absurd hx List.not_mem_nil, fun _ hx => absurd hx List.not_mem_nil, h.bel⟩
theorem Ap.start (W : World) (P : Nat → Nat) (ds : Nat → Dst) : Ap W W 0 [] P ds 0 := ⟨⟨fun _ => ⟨0, 0, 0, d0 0, fun _ => nilS, 0⟩, Dks.none _ _ _, fun j hj => absurd hj (Nat.not_lt_zero _)⟩, fun _ hx => absurd hx List.not_mem_nil, fun _ hx => absurd hx List.not_mem_nil, Below.refl _ _⟩
def updN (P : Nat → Nat) (i p : Nat) : Nat → Nat := fun j => if j = i then p else P j
/-- a new disk more -/
theorem Ap.push {W w w' : World} {N : Nat} {R : List (Nat × Obj)} {P : Nat → Nat} {ds : Nat → Dst} {c : Nat} (h : Ap W w N R P ds c) (hb : Below w.heap.size w w') {p g m : Nat} {S : List Sec} (hn : NewAt w' p g m S) (hf : ∀ s ∈ S, s.fit) (hp : w.heap.size ≤ p) (hg : w.heap.size ≤ g) (hm : w.heap.size ≤ m) : Ap W w' (N + 1) R (updN P N p) (updS ds N ⟨S, fun _ => [], false, -1⟩) c := by
  obtain ⟨D, h1, h2⟩ := h.ex
  have h3 := h.below hb
  refine ⟨⟨_, h1.push h.bel.size hb hn hf hp hg hm, fun j hj => ?_⟩, h3.row, h3.far, h3.bel⟩
  by_cases e : j = N
  · subst e
    rw [updD_same]
    simp [updN, updS]
  · rw [updD_other _ _ e]
    simp only [updN, updS, if_neg e]
    exact h2 j (by omega)
/-- New -/
theorem Ap.new {W w : World} {N : Nat} {R : List (Nat × Obj)} {P : Nat → Nat} {ds : Nat → Dst} {c : Nat} (h : Ap W w N R P ds c) (n : Nat) (h1 : 1 ≤ n) (h2 : n ≤ 65536) :
    Calls Try.prog 5 #[.int .i64 (n : Int)] w fun e w' => ∃ p, e = .returned (.tuple #[.pointer (some ⟨p, 0, none⟩), .int .i64 0]) ∧ Ap W w' (N + 1) R (updN P N p) (updS ds N (d0 n)) c ∧ Below w.heap.size w w' := by
  refine (new_t n h1 h2 w).mono ?_
  rintro e w' ⟨rfl, rfl⟩
  exact ⟨_, rfl, h.push (newW_below w n) (newW_at w n h1 h2) (rep_fit n) (by omega) (by omega) (by omega), newW_below w n⟩
theorem Ap.run1 {W w : World} {N : Nat} {R : List (Nat × Obj)} {P : Nat → Nat} {ds : Nat → Dst} {c : Nat} (h : Ap W w N R P ds c) (hc : c < 1099511627776) (i : Nat) (hi : i < N) (b o : Nat) (xs : List Stp) (hx : RdSt W (some ⟨b, o, none⟩) xs) (k : Nat) (hk : k < xs.length) (cap : Nat) :
    Calls Try.prog 6 #[.pointer (some ⟨P i, 0, none⟩), .slice (some ⟨b, o + k * 3, none⟩) 1 cap, .int .i64 1] w fun e w' => ∃ z, e = .returned (.int .i64 z) ∧ Ap W w' N R P (updS ds i ((ds i).step 0 xs[k])) (c + 1) := by
  obtain ⟨D, h1, h2⟩ := h.ex
  obtain ⟨e1, e2, e3⟩ := h2 i hi
  have hr := run_t (D i).p (D i).g (D i).m (D i).d (D i).V (D i).n (some ⟨b, o + k * 3, none⟩) cap [xs[k]] 1 W w (h1.ok i hi) (by simp; omega) (hx.one k hk) h.bel (h1.above i hi)
  rw [e1] at hr
  refine hr.mono ?_
  rintro e w' ⟨rfl, V', hs, hst⟩
  refine ⟨_, rfl, ?_⟩
  rw [runS_one, ← e1] at hs
  rw [← e1] at hst
  rw [← e2]
  exact h.step (Nat.le_succ _) h1 h2 hi (by simp; omega) hs hst
theorem Ap.runAll {W w : World} {N : Nat} {R : List (Nat × Obj)} {P : Nat → Nat} {ds : Nat → Dst} {c : Nat} (h : Ap W w N R P ds c) (i : Nat) (hi : i < N) (a : Option Addr) (xs : List Stp) (hx : RdSt W a xs) (cap : Nat) (most : Int) (hc : c + xs.length ≤ 1099511627776) :
    Calls Try.prog 6 #[.pointer (some ⟨P i, 0, none⟩), .slice a xs.length cap, .int .i64 most] w fun e w' => e = .returned (.int .i64 ((runS most 0 0 (ds i) xs).2 : Nat)) ∧ Ap W w' N R P (updS ds i (runS most 0 0 (ds i) xs).1) (c + xs.length) := by
  obtain ⟨D, h1, h2⟩ := h.ex
  obtain ⟨e1, e2, e3⟩ := h2 i hi
  have hr := run_t (D i).p (D i).g (D i).m (D i).d (D i).V (D i).n a cap xs most W w (h1.ok i hi) (by omega) hx h.bel (h1.above i hi)
  rw [e1, e2] at hr
  refine hr.mono ?_
  rintro e w' ⟨rfl, V', hs, hst⟩
  refine ⟨rfl, ?_⟩
  rw [← e1] at hs hst
  exact h.step (by omega) h1 h2 hi (by omega) hs hst
/-- its image -/
theorem Ap.image {W w : World} {N : Nat} {R : List (Nat × Obj)} {P : Nat → Nat} {ds : Nat → Dst} {c : Nat} (h : Ap W w N R P ds c) (i : Nat) (hi : i < N) :
    Calls Try.prog 14 #[.pointer (some ⟨P i, 0, none⟩)] w fun e w' => e = .returned (.slice (some ⟨w.heap.size, 0, none⟩) (img (ds i).S).length (img (ds i).S).length) ∧ w'.heap[w.heap.size]? = some (.cells (bv (img (ds i).S)).toArray 5 (0, 0)) ∧ Below w.heap.size w w' := by
  obtain ⟨D, h1, h2⟩ := h.ex
  obtain ⟨e1, e2, e3⟩ := h2 i hi
  have hr := image_r _ _ _ w (DK.secAt (h1.ok i hi))
  rw [e1, e2] at hr
  exact hr
theorem Ap.dirty {W w : World} {N : Nat} {R : List (Nat × Obj)} {P : Nat → Nat} {ds : Nat → Dst} {c : Nat} (h : Ap W w N R P ds c) (i : Nat) (hi : i < N) :
    Calls Try.prog 10 #[.pointer (some ⟨P i, 0, none⟩)] w fun e w' => ∃ v u, e = .returned (.tuple #[v, u]) ∧ OwnI w' w.heap.size v (dirtyL (ds i).S.length (ds i).C) ∧ OwnI w' w.heap.size u (dirtyC (ds i).S.length (ds i).C) ∧ (u.ownBlock = none ∨ v.ownBlock ≠ u.ownBlock) ∧ Below w.heap.size w w' := by
  obtain ⟨D, h1, h2⟩ := h.ex
  obtain ⟨e1, e2, e3⟩ := h2 i hi
  have hr := dirty_t _ _ _ _ _ _ _ _ _ w (h1.ok i hi)
  rw [e1, e2] at hr
  exact hr
theorem Ap.sectors {W w : World} {N : Nat} {R : List (Nat × Obj)} {P : Nat → Nat} {ds : Nat → Dst} {c : Nat} (h : Ap W w N R P ds c) (i : Nat) (hi : i < N) :
    Calls Try.prog 17 #[.pointer (some ⟨P i, 0, none⟩)] w fun e w' => e = .returned (.int .i64 ((ds i).S.length : Nat)) ∧ w' = w := by
  obtain ⟨D, h1, h2⟩ := h.ex
  obtain ⟨e1, e2, e3⟩ := h2 i hi
  have hr := sectors_t (D i).p _ _ _ w (by rw [cell_of_row _ _ 0 _ _ _ (DK.hp (h1.ok i hi))]; rfl)
  rw [e1, e2] at hr
  exact hr
theorem Ap.fit {W w : World} {N : Nat} {R : List (Nat × Obj)} {P : Nat → Nat} {ds : Nat → Dst} {c : Nat} (h : Ap W w N R P ds c) (i : Nat) (hi : i < N) : (∀ s ∈ (ds i).S, s.fit) ∧ 1 ≤ (ds i).S.length ∧ (ds i).S.length ≤ 65536 := by
  obtain ⟨D, h1, h2⟩ := h.ex
  obtain ⟨e1, e2, e3⟩ := h2 i hi
  rw [← e2]
  exact ⟨DK.fit (h1.ok i hi), DK.one (h1.ok i hi), DK.most (h1.ok i hi)⟩
theorem size_step (u : World) : (sizeOf (Try.prog.elem 22)).run Try.prog u = .ok 3 u := by kernel_rfl
/-- one step of a script, as a slice of its own -/
theorem sub_steps (b o L cap k M : Nat) (hM : M = k + 1) (h : M ≤ cap) (u : World) : (Instr.slice 22 (.slice (some ⟨b, o, none⟩) L cap) (some (.int .i64 (k : Int))) (some (.int .i64 (M : Int))) none).run Try.prog u = .ok (.slice (some ⟨b, o + k * 3, none⟩) 1 (cap - k)) u := by
  rw [run_slice_lh u 22 (some ⟨b, o, none⟩) L cap (by kernel_rfl) .i64 .i64 (k : Int) (M : Int) (by omega) (by omega) (by omega), size_step]
  simp only [Result.andThen, sliced, Int.toNat_natCast]
  rw [if_neg (by omega), show M - k = 1 by omega]
  simp [Go.WideShapes.add_plain]
end Go.Proofs.Ytekfolppahnpoaa
