import Derived.Test.YtgdkiejlggiakacDOver
import Derived.Test.YtgdkiejlggiakacClone
import Derived.Test.YtgdkiejlggiakacRegn
import Derived.Test.YtgdkiejlggiakacOpenSt
namespace Go.Proofs.Ytgdkiejlggiakac
set_option linter.unusedVariables false
set_option linter.unusedSimpArgs false
open Go.RowKit
theorem take_eq_stepI {xs ys : List Int} {k : Nat} (h : xs.take k = ys.take k) (h1 : k < xs.length) (h2 : k < ys.length) (e : xs[k] = ys[k]) : xs.take (k + 1) = ys.take (k + 1) := by
  rw [List.take_succ_eq_append_getElem h1, List.take_succ_eq_append_getElem h2, h, e]
set_option maxRecDepth 20000 in
set_option maxHeartbeats 800000 in
theorem ints_t (ao bo : Option Addr) (c d : Nat) (xs ys : List Int) (w : World) (hx : Ints w ao xs) (hy : Ints w bo ys) (hl : xs.length ≤ 140737488355328) (hl2 : ys.length ≤ 140737488355328) :
    Calls Try.prog 17 #[.slice ao xs.length c, .slice bo ys.length d] w fun e w' => e = .returned (.bool (xs == ys)) ∧ Below w.heap.size w w' := by
  by_cases hne : xs.length = ys.length
  case neg =>
    have e : (xs == ys) = false := by rw [beq_eq_false_iff_ne]; intro h; exact hne (by rw [h])
    rw [e]
    clear e
    have hni : ¬ (xs.length : Int) = (ys.length : Int) := by omega
    go_enter Try.func17, Try.ntmps17
    go_wp2
    go_ret
    exact ⟨rfl, Below.refl _ _⟩
  case pos =>
    have HNE : Hid (xs.length = ys.length) := hne
    have hni : (xs.length : Int) = (ys.length : Int) := by omega
    obtain ⟨n, hn⟩ : ∃ n : Nat, n = xs.length := ⟨_, rfl⟩
    rw [← hne, ← hn]
    have HN : Hid (n = xs.length) := hn
    have hnb : n ≤ 140737488355328 := by omega
    clear hne hni hn hl hl2
    go_enter Try.func17, Try.ntmps17
    go_wp2
    go_loopw [5] (fun i wr => ∃ k : Nat, k ≤ n ∧ i = .int .i64 k ∧ xs.take k = ys.take k ∧ Below w.heap.size w wr) (fun i _ => n - (intOf i).toNat)
    case atStart => exact ⟨0, Nat.zero_le _, rfl, rfl, Below.refl _ _⟩
    case round =>
      obtain ⟨k, hk, rfl, htk, hbk⟩ := hrel
      have HTK : Hid _ := htk
      clear htk
      by_cases hlt : k < n
      · have h1 : k < xs.length := by have := HN.out; omega
        have h2 : k < ys.length := by have := HN.out; have := HNE.out; omega
        obtain ⟨b1, o1, rfl, hc1⟩ := hx k h1
        obtain ⟨b2, o2, rfl, hc2⟩ := hy k h2
        have hca : ∀ u, Below wr.heap.size wr u → u.cell? ⟨b1, o1 + k, none⟩ = some (.int .i64 xs[k]) := fun u hu => ((hbk.trans (hu.mono hbk.size)).cell (World.block_lt_of_cell? w _ hc1)).trans hc1
        have hcb : ∀ u, Below wr.heap.size wr u → u.cell? ⟨b2, o2 + k, none⟩ = some (.int .i64 ys[k]) := fun u hu => ((hbk.trans (hu.mono hbk.size)).cell (World.block_lt_of_cell? w _ hc2)).trans hc2
        have hk0 : (0 : Int) ≤ (k : Int) := by omega
        have hk1 : (k : Int) < (n : Int) := by omega
        clear hc1 hc2
        obtain ⟨x, hxx⟩ : ∃ x : Int, x = xs[k] := ⟨_, rfl⟩
        obtain ⟨y, hyy⟩ : ∃ y : Int, y = ys[k] := ⟨_, rfl⟩
        rw [← hxx] at hca
        rw [← hyy] at hcb
        have HXX : Hid _ := hxx
        have HYY : Hid _ := hyy
        clear hxx hyy
        by_cases hxy : x = y
        · subst hxy
          go_wp2_with fail
          refine wp_region_noPanic ?_
          refine wp_region_held_drew (S := (fun u => Below wr.heap.size wr u)) (by kernel_rfl) (by first | exact (Below.refl _ _).drew | assumption) (fun hHeld => ?_)
          refine take_at (i := 0) 17 (v := ?_) rfl rfl (by kernel_rfl) (by kernel_rfl) (by kernel_rfl) (fun _ _ _ h => h) (by rfl) ?_ hHeld ?_
          rotate_left
          · (intro w hSw; (try dsimp only at hSw); go_simp; try with_reducible rfl)
          simp only [Act.put, List.setIfInBounds_toArray, List.set_cons_zero, List.set_cons_succ]
          refine take_at (i := 1) 18 (v := ?_) rfl rfl (by kernel_rfl) (by kernel_rfl) (by kernel_rfl) (fun _ _ _ h => h) (by rfl) ?_ hHeld ?_
          rotate_left
          · (intro w hSw; (try dsimp only at hSw); go_simp; try with_reducible rfl)
          simp only [Act.put, List.setIfInBounds_toArray, List.set_cons_zero, List.set_cons_succ]
          refine take_at (i := 2) 19 (v := ?_) rfl rfl (by kernel_rfl) (by kernel_rfl) (by kernel_rfl) (fun _ _ _ h => h) (by rfl) ?_ hHeld ?_
          rotate_left
          · (intro w hSw; (try dsimp only at hSw); go_simp; try with_reducible rfl)
          simp only [Act.put, List.setIfInBounds_toArray, List.set_cons_zero, List.set_cons_succ]
          refine take_at (i := 3) 20 (v := ?_) rfl rfl (by kernel_rfl) (by kernel_rfl) (by kernel_rfl) (fun _ _ _ h => h) (by rfl) ?_ hHeld ?_
          rotate_left
          · (intro w hSw; (try dsimp only at hSw); go_simp; try with_reducible rfl)
          simp only [Act.put, List.setIfInBounds_toArray, List.set_cons_zero, List.set_cons_succ]
          refine take_at (i := 4) 21 (v := ?_) rfl rfl (by kernel_rfl) (by kernel_rfl) (by kernel_rfl) (fun _ _ _ h => h) (by rfl) ?_ hHeld ?_
          rotate_left
          · (intro w hSw; (try dsimp only at hSw); go_simp; try with_reducible rfl)
          simp only [Act.put, List.setIfInBounds_toArray, List.set_cons_zero, List.set_cons_succ]
          refine take_at (i := 5) 22 (v := ?_) rfl rfl (by kernel_rfl) (by kernel_rfl) (by kernel_rfl) (fun _ _ _ h => h) (by rfl) ?_ hHeld ?_
          rotate_left
          · (intro w hSw; (try dsimp only at hSw); go_simp; try with_reducible rfl)
          simp only [Act.put, List.setIfInBounds_toArray, List.set_cons_zero, List.set_cons_succ]
          refine take_at (i := 6) 23 (v := ?_) rfl rfl (by kernel_rfl) (by kernel_rfl) (by kernel_rfl) (fun _ _ _ h => h) (by rfl) ?_ hHeld ?_
          rotate_left
          · (intro w hSw; (try dsimp only at hSw); go_simp; try with_reducible rfl)
          simp only [Act.put, List.setIfInBounds_toArray, List.set_cons_zero, List.set_cons_succ]
          refine take_at (i := 7) 24 (v := ?_) rfl rfl (by kernel_rfl) (by kernel_rfl) (by kernel_rfl) (fun _ _ _ h => h) (by rfl) ?_ hHeld ?_
          rotate_left
          · (intro w hSw; (try dsimp only at hSw); go_simp; try with_reducible rfl)
          simp only [Act.put, List.setIfInBounds_toArray, List.set_cons_zero, List.set_cons_succ]
          refine take_at (i := 8) 25 (v := ?_) rfl rfl (by kernel_rfl) (by kernel_rfl) (by kernel_rfl) (fun _ _ _ h => h) (by rfl) ?_ hHeld ?_
          rotate_left
          · (intro w hSw; (try dsimp only at hSw); go_simp; try with_reducible rfl)
          simp only [Act.put, List.setIfInBounds_toArray, List.set_cons_zero, List.set_cons_succ]
          refine wpAnyH_done (by kernel_rfl) ?_ _
          refine NoPanic.normal ?_
          go_wp2
          go_roundw
          case rel => exact ⟨k + 1, by omega, by go_num, take_eq_stepI HTK.out h1 h2 (by have := HXX.out; have := HYY.out; omega), hbk.drew⟩
          case measure => simp [intOf]; omega
        · have hb : (x == y) = false := by simpa using hxy
          have e : (xs == ys) = false := by
            rw [beq_eq_false_iff_ne]
            intro h
            subst h
            exact hxy (by rw [HXX.out, HYY.out])
          have HE : Hid _ := e
          clear e
          go_wp2_with fail
          refine wp_region_noPanic ?_
          refine wp_region_held_drew (S := (fun u => Below wr.heap.size wr u)) (by kernel_rfl) (by first | exact (Below.refl _ _).drew | assumption) (fun hHeld => ?_)
          refine take_at (i := 0) 17 (v := ?_) rfl rfl (by kernel_rfl) (by kernel_rfl) (by kernel_rfl) (fun _ _ _ h => h) (by rfl) ?_ hHeld ?_
          rotate_left
          · (intro w hSw; (try dsimp only at hSw); go_simp; try with_reducible rfl)
          simp only [Act.put, List.setIfInBounds_toArray, List.set_cons_zero, List.set_cons_succ]
          refine take_at (i := 1) 18 (v := ?_) rfl rfl (by kernel_rfl) (by kernel_rfl) (by kernel_rfl) (fun _ _ _ h => h) (by rfl) ?_ hHeld ?_
          rotate_left
          · (intro w hSw; (try dsimp only at hSw); go_simp; try with_reducible rfl)
          simp only [Act.put, List.setIfInBounds_toArray, List.set_cons_zero, List.set_cons_succ]
          refine take_at (i := 2) 19 (v := ?_) rfl rfl (by kernel_rfl) (by kernel_rfl) (by kernel_rfl) (fun _ _ _ h => h) (by rfl) ?_ hHeld ?_
          rotate_left
          · (intro w hSw; (try dsimp only at hSw); go_simp; try with_reducible rfl)
          simp only [Act.put, List.setIfInBounds_toArray, List.set_cons_zero, List.set_cons_succ]
          refine take_at (i := 3) 20 (v := ?_) rfl rfl (by kernel_rfl) (by kernel_rfl) (by kernel_rfl) (fun _ _ _ h => h) (by rfl) ?_ hHeld ?_
          rotate_left
          · (intro w hSw; (try dsimp only at hSw); go_simp; try with_reducible rfl)
          simp only [Act.put, List.setIfInBounds_toArray, List.set_cons_zero, List.set_cons_succ]
          refine take_at (i := 4) 21 (v := ?_) rfl rfl (by kernel_rfl) (by kernel_rfl) (by kernel_rfl) (fun _ _ _ h => h) (by rfl) ?_ hHeld ?_
          rotate_left
          · (intro w hSw; (try dsimp only at hSw); go_simp; try with_reducible rfl)
          simp only [Act.put, List.setIfInBounds_toArray, List.set_cons_zero, List.set_cons_succ]
          refine take_at (i := 5) 22 (v := ?_) rfl rfl (by kernel_rfl) (by kernel_rfl) (by kernel_rfl) (fun _ _ _ h => h) (by rfl) ?_ hHeld ?_
          rotate_left
          · (intro w hSw; (try dsimp only at hSw); go_simp; try with_reducible rfl)
          simp only [Act.put, List.setIfInBounds_toArray, List.set_cons_zero, List.set_cons_succ]
          refine take_at (i := 6) 23 (v := ?_) rfl rfl (by kernel_rfl) (by kernel_rfl) (by kernel_rfl) (fun _ _ _ h => h) (by rfl) ?_ hHeld ?_
          rotate_left
          · (intro w hSw; (try dsimp only at hSw); go_simp; try with_reducible rfl)
          simp only [Act.put, List.setIfInBounds_toArray, List.set_cons_zero, List.set_cons_succ]
          refine take_at (i := 7) 24 (v := ?_) rfl rfl (by kernel_rfl) (by kernel_rfl) (by kernel_rfl) (fun _ _ _ h => h) (by rfl) ?_ hHeld ?_
          rotate_left
          · (intro w hSw; (try dsimp only at hSw); go_simp; try with_reducible rfl)
          simp only [Act.put, List.setIfInBounds_toArray, List.set_cons_zero, List.set_cons_succ]
          refine take_at (i := 8) 25 (v := ?_) rfl rfl (by kernel_rfl) (by kernel_rfl) (by kernel_rfl) (fun _ _ _ h => h) (by rfl) ?_ hHeld ?_
          rotate_left
          · (intro w hSw; (try dsimp only at hSw); go_simp; try with_reducible rfl)
          simp only [Act.put, List.setIfInBounds_toArray, List.set_cons_zero, List.set_cons_succ]
          refine wpAnyH_done (by kernel_rfl) ?_ _
          refine NoPanic.normal ?_
          go_wp2
          go_ret
          rw [HE.out]
          exact ⟨rfl, hbk.drew⟩
      · obtain rfl : k = n := by omega
        have e : (xs == ys) = true := by
          have h1 := HTK.out
          rw [List.take_of_length_le (by have := HN.out; omega), List.take_of_length_le (by have := HN.out; have := HNE.out; omega)] at h1
          rw [h1]; simp
        have HE : Hid _ := e
        clear e
        go_wp2
        go_ret
        rw [HE.out]
        exact ⟨rfl, hbk⟩
theorem OwnI.ints {w : World} {B : Nat} {v : Value} {xs : List Int} (h : OwnI w B v xs) : ∃ a c, v = .slice a xs.length c ∧ Ints w a xs := by
  obtain ⟨a, c, rfl, h1⟩ := h.val
  refine ⟨a, c, rfl, fun j hj => ?_⟩
  obtain ⟨g, rfl, -, -, h2⟩ := h1 (by omega)
  exact ⟨g, 0, rfl, by rw [Nat.zero_add]; exact h2 j hj⟩
theorem ints_n (ao bo : Option Addr) (n m c d : Nat) (xs ys : List Int) (w : World) (hn : n = xs.length) (hm : m = ys.length) (hx : Ints w ao xs) (hy : Ints w bo ys) (hl : xs.length ≤ 140737488355328) (hl2 : ys.length ≤ 140737488355328) :
    Calls Try.prog 17 #[.slice ao n c, .slice bo m d] w fun e w' => e = .returned (.bool (xs == ys)) ∧ Below w.heap.size w w' := by subst hn; subst hm; exact ints_t ao bo c d xs ys w hx hy hl hl2
end Go.Proofs.Ytgdkiejlggiakac
namespace Go.Proofs.Ytgdkiejlggiakac
set_option linter.unusedVariables false
set_option linter.unusedSimpArgs false
open Go.RowKit Go.Maps
/-- one disk of several -/
structure DR where
  p : Nat
  g : Nat
  m : Nat
  d : Dst
  V : Nat → Value
  n : Nat
abbrev DR.at (r : DR) (w : World) : Prop := DS w r.p r.g r.m r.d r.V r.n
abbrev DR.foot (r : DR) : Nat → Prop := Go.Proofs.Ytgdkiejlggiakac.foot r.p r.g r.m r.V
/-- disks, no two with a block in common -/
structure Dks (w : World) (B N : Nat) (D : Nat → DR) : Prop where
  ok : ∀ i, i < N → (D i).at w
  apart : ∀ i j, i < N → j < N → i ≠ j → ∀ b, (D i).foot b → (D j).foot b → False
  above : ∀ i, i < N → ∀ b, (D i).foot b → B ≤ b
def updD (D : Nat → DR) (i : Nat) (r : DR) : Nat → DR := fun j => if j = i then r else D j
theorem updD_same (D : Nat → DR) (i : Nat) (r : DR) : updD D i r i = r := by simp [updD]
theorem updD_other (D : Nat → DR) {i j : Nat} (r : DR) (h : j ≠ i) : updD D i r j = D j := by simp [updD, h]
theorem Dks.kept {w w' : World} {B N : Nat} {D : Nat → DR} (h : Dks w B N D) {F : Nat → Prop} (hc : Chg F w w') (hF : ∀ i, i < N → ∀ b, (D i).foot b → ¬ F b) : Dks w' B N D :=
  ⟨fun i hi => (h.ok i hi).kept hc (hF i hi), h.apart, h.above⟩
theorem Dks.below {w w' : World} {B N : Nat} {D : Nat → DR} (h : Dks w B N D) (hb : Below w.heap.size w w') : Dks w' B N D :=
  h.kept (F := fun _ => False) (Chg.of_below hb) (fun _ _ _ _ hf => hf)
theorem Dks.none (w : World) (B : Nat) (D : Nat → DR) : Dks w B 0 D := ⟨fun _ h => absurd h (Nat.not_lt_zero _), fun _ _ h => absurd h (Nat.not_lt_zero _), fun _ h => absurd h (Nat.not_lt_zero _)⟩
theorem Dks.step {w w' : World} {B N : Nat} {D : Nat → DR} (h : Dks w B N D) (hB : B ≤ w.heap.size) {i : Nat} (hi : i < N) {d' : Dst} {V' : Nat → Value} {n' : Nat} (hs : DS w' (D i).p (D i).g (D i).m d' V' n') (hst : Step (D i).p (D i).g (D i).m (D i).V V' w w') :
    Dks w' B N (updD D i ⟨(D i).p, (D i).g, (D i).m, d', V', n'⟩) := by
  refine ⟨fun j hj => ?_, fun j k hj hk hne b h1 h2 => ?_, fun j hj b hb => ?_⟩
  · by_cases e : j = i
    · subst e; rw [updD_same]; exact hs
    · rw [updD_other _ _ e]
      exact (h.ok j hj).kept hst.chg (fun b hb hf => h.apart j i hj hi e b hb hf)
  · by_cases e : j = i
    · subst e
      rw [updD_same] at h1
      rw [updD_other _ _ (fun e => hne e.symm)] at h2
      rcases hst.new b h1 with h3 | h3
      · exact h.apart j k hj hk hne b h3 h2
      · have := DK.lt (h.ok k hk) h2; omega
    · rw [updD_other _ _ e] at h1
      by_cases e2 : k = i
      · subst e2
        rw [updD_same] at h2
        rcases hst.new b h2 with h3 | h3
        · exact h.apart j k hj hk hne b h1 h3
        · have := DK.lt (h.ok j hj) h1; omega
      · rw [updD_other _ _ e2] at h2
        exact h.apart j k hj hk hne b h1 h2
  · by_cases e : j = i
    · subst e
      rw [updD_same] at hb
      rcases hst.new b hb with h3 | h3
      · exact h.above j hj b h3
      · omega
    · rw [updD_other _ _ e] at hb
      exact h.above j hj b hb
/-- a disk more, of new blocks -/
theorem Dks.push {w w' : World} {B N : Nat} {D : Nat → DR} (h : Dks w B N D) (hB : B ≤ w.heap.size) (hb : Below w.heap.size w w') {p g m : Nat} {S : List Sec} (hn : NewAt w' p g m S) (hf : ∀ s ∈ S, s.fit) (hp : w.heap.size ≤ p) (hg : w.heap.size ≤ g) (hm : w.heap.size ≤ m) :
    Dks w' B (N + 1) (updD D N ⟨p, g, m, ⟨S, fun _ => [], false, -1⟩, fun _ => nilS, 0⟩) := by
  have hfo : ∀ b, foot p g m (fun _ => nilS) b → w.heap.size ≤ b := by
    rintro b (rfl | rfl | rfl | ⟨i, e⟩)
    · exact hp
    · exact hg
    · exact hm
    · simp [nilS, Value.ownBlock] at e
  refine ⟨fun j hj => ?_, fun j k hj hk hne b h1 h2 => ?_, fun j hj b hb' => ?_⟩
  · by_cases e : j = N
    · subst e; rw [updD_same]; exact hn.dk hf
    · rw [updD_other _ _ e]; exact DK.below (h.ok j (by omega)) hb
  · by_cases e : j = N
    · subst e
      rw [updD_same] at h1
      rw [updD_other _ _ (fun e => hne e.symm)] at h2
      have := hfo b h1
      have := DK.lt (h.ok k (by omega)) h2
      omega
    · rw [updD_other _ _ e] at h1
      by_cases e2 : k = N
      · subst e2
        rw [updD_same] at h2
        have := hfo b h2
        have := DK.lt (h.ok j (by omega)) h1
        omega
      · rw [updD_other _ _ e2] at h2
        exact h.apart j k (by omega) (by omega) hne b h1 h2
  · by_cases e : j = N
    · subst e
      rw [updD_same] at hb'
      have := hfo b hb'
      omega
    · rw [updD_other _ _ e] at hb'
      exact h.above j (by omega) b hb'
/-- a block of another kind than a disk's -/
def farT (T : TypeId) : Prop := T ≠ 55 ∧ T ≠ 68 ∧ T ≠ 66
theorem DK.notT {w : World} {p g m : Nat} {S : List Sec} {C : Nat → List (List UInt8)} {V : Nat → Value} {off : Bool} {fuse : Int} {n : Nat} (h : DK w p g m S C V off fuse n) {b : Nat} (hb : foot p g m V b) {cs : Array Value} {T : TypeId} {fr : Nat × Nat} (hT : farT T) (h5 : w.heap[b]? = some (.cells cs T fr)) : False := by
  rcases hb with rfl | rfl | rfl | ⟨i, e⟩
  · rw [h.hp] at h5; simp only [Option.some.injEq, Obj.cells.injEq] at h5; exact hT.1 h5.2.1.symm
  · rw [h.hg] at h5; simp only [Option.some.injEq, Obj.cells.injEq] at h5; exact hT.2.1 h5.2.1.symm
  · obtain ⟨es, cl, h1⟩ := h.cache.map_at
    rw [h1] at h5; cases h5
  · obtain ⟨cur, h1⟩ := row_at (h.cache.rows i) e
    rw [h1] at h5; simp only [Option.some.injEq, Obj.cells.injEq] at h5; exact hT.2.2 h5.2.1.symm
/-- a new disk -/
def d0 (N : Nat) : Dst := ⟨List.replicate N Sec.zero, fun _ => [], false, -1⟩
def foldD (d : Dst) (xs : List Stp) : Dst := xs.foldl (fun d s => d.step 0 s) d
theorem foldD_step (d : Dst) (xs : List Stp) (k : Nat) (h : k < xs.length) : foldD d (xs.take (k + 1)) = (foldD d (xs.take k)).step 0 xs[k] := by
  unfold foldD
  rw [List.take_succ_eq_append_getElem h, List.foldl_append]
  rfl
theorem runS_one (d : Dst) (s : Stp) : (runS 1 0 0 d [s]).1 = d.step 0 s := by
  unfold runS
  rw [if_pos (by decide)]
  unfold runS
  rfl
theorem RdSt.one {W : World} {b o : Nat} {xs : List Stp} (h : RdSt W (some ⟨b, o, none⟩) xs) (k : Nat) (hk : k < xs.length) : RdSt W (some ⟨b, o + k * 3, none⟩) [xs[k]] := by
  intro j hj
  obtain rfl : j = 0 := by simpa using hj
  obtain ⟨b', o', ca, cc, e, h1, h2, h3⟩ := h k hk
  cases e
  exact ⟨b, o + k * 3, ca, cc, rfl, by simpa using h1, h2, h3⟩
theorem RdSt.addr {W : World} {a : Option Addr} {xs : List Stp} (h : RdSt W a xs) (h0 : 0 < xs.length) : ∃ b o, a = some ⟨b, o, none⟩ := by
  obtain ⟨b, o, _, _, e, _⟩ := h 0 h0
  exact ⟨b, o, e⟩
/-- disks in their places, with a row of another kind beside them -/
structure Ap (W w : World) (N : Nat) (R : List (Nat × Obj)) (P : Nat → Nat) (ds : Nat → Dst) (c : Nat) : Prop where
  ex : ∃ D, Dks w W.heap.size N D ∧ (∀ j, j < N → (D j).p = P j ∧ (D j).d = ds j ∧ (D j).n ≤ c)
  row : ∀ x ∈ R, w.heap[x.1]? = some x.2
  far : ∀ x ∈ R, ∃ cs T fr, x.2 = .cells cs T fr ∧ farT T
  bel : Below W.heap.size W w
def updS (ds : Nat → Dst) (i : Nat) (d : Dst) : Nat → Dst := fun j => if j = i then d else ds j
theorem Ap.below {W w w' : World} {N : Nat} {R : List (Nat × Obj)} {P : Nat → Nat} {ds : Nat → Dst} {c : Nat} (h : Ap W w N R P ds c) (hb : Below w.heap.size w w') : Ap W w' N R P ds c := by
  obtain ⟨D, h1, h2⟩ := h.ex
  exact ⟨⟨D, h1.below hb, h2⟩, fun x hx => (hb.block x.1 (Array.getElem?_eq_some_iff.1 (h.row x hx)).1).trans (h.row x hx), h.far, h.bel.trans (hb.mono h.bel.size)⟩
theorem Ap.more {W w : World} {N : Nat} {R : List (Nat × Obj)} {P : Nat → Nat} {ds : Nat → Dst} {c c' : Nat} (h : Ap W w N R P ds c) (hc : c ≤ c') : Ap W w N R P ds c' := by
  obtain ⟨D, h1, h2⟩ := h.ex
  exact ⟨⟨D, h1, fun j hj => ⟨(h2 j hj).1, (h2 j hj).2.1, Nat.le_trans (h2 j hj).2.2 hc⟩⟩, h.row, h.far, h.bel⟩
theorem Ap.eq {W w : World} {N : Nat} {R : List (Nat × Obj)} {P : Nat → Nat} {ds ds' : Nat → Dst} {c : Nat} (h : Ap W w N R P ds c) (he : ∀ j, j < N → ds j = ds' j) : Ap W w N R P ds' c := by
  obtain ⟨D, h1, h2⟩ := h.ex
  exact ⟨⟨D, h1, fun j hj => ⟨(h2 j hj).1, (h2 j hj).2.1.trans (he j hj), (h2 j hj).2.2⟩⟩, h.row, h.far, h.bel⟩
/-- one disk takes a step of its own -/
theorem Ap.step {W w w' : World} {N : Nat} {R : List (Nat × Obj)} {P : Nat → Nat} {ds : Nat → Dst} {c c' : Nat} (h : Ap W w N R P ds c) (hcc : c ≤ c') {D : Nat → DR} (h1 : Dks w W.heap.size N D) (h2 : ∀ j, j < N → (D j).p = P j ∧ (D j).d = ds j ∧ (D j).n ≤ c) {i : Nat} (hi : i < N) {d' : Dst} {V' : Nat → Value} {n' : Nat} (hn : n' ≤ c') (hs : DS w' (D i).p (D i).g (D i).m d' V' n') (hst : Step (D i).p (D i).g (D i).m (D i).V V' w w') : Ap W w' N R P (updS ds i d') c' := by
  refine ⟨⟨_, h1.step h.bel.size hi hs hst, fun j hj => ?_⟩, ?_, h.far, h.bel.trans (hst.chg.below (h1.above i hi) h.bel.size)⟩
  · by_cases e : j = i
    · subst e; rw [updD_same]; simp [updS, (h2 j hj).1, hn]
    · rw [updD_other _ _ e]; simp only [updS, if_neg e]; exact ⟨(h2 j hj).1, (h2 j hj).2.1, Nat.le_trans (h2 j hj).2.2 hcc⟩
  · intro x hx
    obtain ⟨cs, T, fr, e, hT⟩ := h.far x hx
    exact (hst.chg.block x.1 (Array.getElem?_eq_some_iff.1 (h.row x hx)).1 (fun hf => DK.notT (h1.ok i hi) hf hT (by rw [h.row x hx, e]))).trans (h.row x hx)
theorem Ap.addRow {W w : World} {N : Nat} {R : List (Nat × Obj)} {P : Nat → Nat} {ds : Nat → Dst} {c : Nat} (h : Ap W w N R P ds c) {gl : Nat} {cs : Array Value} {T : TypeId} {fr : Nat × Nat} (hg : w.heap[gl]? = some (.cells cs T fr)) (hT : farT T) : Ap W w N ((gl, .cells cs T fr) :: R) P ds c := by
  refine ⟨h.ex, fun x hx => ?_, fun x hx => ?_, h.bel⟩
  · rcases List.mem_cons.1 hx with rfl | hx
    · exact hg
    · exact h.row x hx
  · rcases List.mem_cons.1 hx with rfl | hx
    · exact ⟨_, _, _, rfl, hT⟩
    · exact h.far x hx
theorem Ap.noRow {W w : World} {N : Nat} {R : List (Nat × Obj)} {P : Nat → Nat} {ds : Nat → Dst} {c : Nat} (h : Ap W w N R P ds c) : Ap W w N [] P ds c := ⟨h.ex, fun _ hx => absurd hx List.not_mem_nil, fun _ hx => absurd hx List.not_mem_nil, h.bel⟩
theorem Ap.start (W : World) (P : Nat → Nat) (ds : Nat → Dst) : Ap W W 0 [] P ds 0 := ⟨⟨fun _ => ⟨0, 0, 0, d0 0, fun _ => nilS, 0⟩, Dks.none _ _ _, fun j hj => absurd hj (Nat.not_lt_zero _)⟩, fun _ hx => absurd hx List.not_mem_nil, fun _ hx => absurd hx List.not_mem_nil, Below.refl _ _⟩
def updN (P : Nat → Nat) (i p : Nat) : Nat → Nat := fun j => if j = i then p else P j
/-- a new disk more -/
theorem Ap.push {W w w' : World} {N : Nat} {R : List (Nat × Obj)} {P : Nat → Nat} {ds : Nat → Dst} {c : Nat} (h : Ap W w N R P ds c) (hb : Below w.heap.size w w') {p g m : Nat} {S : List Sec} (hn : NewAt w' p g m S) (hf : ∀ s ∈ S, s.fit) (hp : w.heap.size ≤ p) (hg : w.heap.size ≤ g) (hm : w.heap.size ≤ m) : Ap W w' (N + 1) R (updN P N p) (updS ds N ⟨S, fun _ => [], false, -1⟩) c := by
  obtain ⟨D, h1, h2⟩ := h.ex
  have h3 := h.below hb
  refine ⟨⟨_, h1.push h.bel.size hb hn hf hp hg hm, fun j hj => ?_⟩, h3.row, h3.far, h3.bel⟩
  by_cases e : j = N
  · subst e
    rw [updD_same]
    simp [updN, updS]
  · rw [updD_other _ _ e]
    simp only [updN, updS, if_neg e]
    exact h2 j (by omega)
/-- New -/
theorem Ap.new {W w : World} {N : Nat} {R : List (Nat × Obj)} {P : Nat → Nat} {ds : Nat → Dst} {c : Nat} (h : Ap W w N R P ds c) (n : Nat) (h1 : 1 ≤ n) (h2 : n ≤ 65536) :
    Calls Try.prog 9 #[.int .i64 (n : Int)] w fun e w' => ∃ p, e = .returned (.tuple #[.pointer (some ⟨p, 0, none⟩), .int .i64 0]) ∧ Ap W w' (N + 1) R (updN P N p) (updS ds N (d0 n)) c ∧ Below w.heap.size w w' := by
  refine (new_t n h1 h2 w).mono ?_
  rintro e w' ⟨rfl, rfl⟩
  exact ⟨_, rfl, h.push (newW_below w n) (newW_at w n h1 h2) (rep_fit n) (by omega) (by omega) (by omega), newW_below w n⟩
theorem Ap.run1 {W w : World} {N : Nat} {R : List (Nat × Obj)} {P : Nat → Nat} {ds : Nat → Dst} {c : Nat} (h : Ap W w N R P ds c) (hc : c < 1099511627776) (i : Nat) (hi : i < N) (b o : Nat) (xs : List Stp) (hx : RdSt W (some ⟨b, o, none⟩) xs) (k : Nat) (hk : k < xs.length) (cap : Nat) :
    Calls Try.prog 10 #[.pointer (some ⟨P i, 0, none⟩), .slice (some ⟨b, o + k * 3, none⟩) 1 cap, .int .i64 1] w fun e w' => ∃ z, e = .returned (.int .i64 z) ∧ Ap W w' N R P (updS ds i ((ds i).step 0 xs[k])) (c + 1) := by
  obtain ⟨D, h1, h2⟩ := h.ex
  obtain ⟨e1, e2, e3⟩ := h2 i hi
  have hr := run_t (D i).p (D i).g (D i).m (D i).d (D i).V (D i).n (some ⟨b, o + k * 3, none⟩) cap [xs[k]] 1 W w (h1.ok i hi) (by simp; omega) (hx.one k hk) h.bel (h1.above i hi)
  rw [e1] at hr
  refine hr.mono ?_
  rintro e w' ⟨rfl, V', hs, hst⟩
  refine ⟨_, rfl, ?_⟩
  rw [runS_one, ← e1] at hs
  rw [← e1] at hst
  rw [← e2]
  exact h.step (Nat.le_succ _) h1 h2 hi (by simp; omega) hs hst
theorem Ap.runAll {W w : World} {N : Nat} {R : List (Nat × Obj)} {P : Nat → Nat} {ds : Nat → Dst} {c : Nat} (h : Ap W w N R P ds c) (i : Nat) (hi : i < N) (a : Option Addr) (xs : List Stp) (hx : RdSt W a xs) (cap : Nat) (most : Int) (hc : c + xs.length ≤ 1099511627776) :
    Calls Try.prog 10 #[.pointer (some ⟨P i, 0, none⟩), .slice a xs.length cap, .int .i64 most] w fun e w' => e = .returned (.int .i64 ((runS most 0 0 (ds i) xs).2 : Nat)) ∧ Ap W w' N R P (updS ds i (runS most 0 0 (ds i) xs).1) (c + xs.length) := by
  obtain ⟨D, h1, h2⟩ := h.ex
  obtain ⟨e1, e2, e3⟩ := h2 i hi
  have hr := run_t (D i).p (D i).g (D i).m (D i).d (D i).V (D i).n a cap xs most W w (h1.ok i hi) (by omega) hx h.bel (h1.above i hi)
  rw [e1, e2] at hr
  refine hr.mono ?_
  rintro e w' ⟨rfl, V', hs, hst⟩
  refine ⟨rfl, ?_⟩
  rw [← e1] at hs hst
  exact h.step (by omega) h1 h2 hi (by omega) hs hst
/-- its image -/
theorem Ap.image {W w : World} {N : Nat} {R : List (Nat × Obj)} {P : Nat → Nat} {ds : Nat → Dst} {c : Nat} (h : Ap W w N R P ds c) (i : Nat) (hi : i < N) :
    Calls Try.prog 18 #[.pointer (some ⟨P i, 0, none⟩)] w fun e w' => e = .returned (.slice (some ⟨w.heap.size, 0, none⟩) (img (ds i).S).length (img (ds i).S).length) ∧ w'.heap[w.heap.size]? = some (.cells (bv (img (ds i).S)).toArray 5 (0, 0)) ∧ Below w.heap.size w w' := by
  obtain ⟨D, h1, h2⟩ := h.ex
  obtain ⟨e1, e2, e3⟩ := h2 i hi
  have hr := image_r _ _ _ w (DK.secAt (h1.ok i hi))
  rw [e1, e2] at hr
  exact hr
theorem Ap.dirty {W w : World} {N : Nat} {R : List (Nat × Obj)} {P : Nat → Nat} {ds : Nat → Dst} {c : Nat} (h : Ap W w N R P ds c) (i : Nat) (hi : i < N) :
    Calls Try.prog 14 #[.pointer (some ⟨P i, 0, none⟩)] w fun e w' => ∃ v u, e = .returned (.tuple #[v, u]) ∧ OwnI w' w.heap.size v (dirtyL (ds i).S.length (ds i).C) ∧ OwnI w' w.heap.size u (dirtyC (ds i).S.length (ds i).C) ∧ (u.ownBlock = none ∨ v.ownBlock ≠ u.ownBlock) ∧ Below w.heap.size w w' := by
  obtain ⟨D, h1, h2⟩ := h.ex
  obtain ⟨e1, e2, e3⟩ := h2 i hi
  have hr := dirty_t _ _ _ _ _ _ _ _ _ w (h1.ok i hi)
  rw [e1, e2] at hr
  exact hr
theorem Ap.down {W w : World} {N : Nat} {R : List (Nat × Obj)} {P : Nat → Nat} {ds : Nat → Dst} {c : Nat} (h : Ap W w N R P ds c) (i : Nat) (hi : i < N) :
    Calls Try.prog 56 #[.pointer (some ⟨P i, 0, none⟩)] w fun e w' => e = .returned (.bool (ds i).off) ∧ w' = w := by
  obtain ⟨D, h1, h2⟩ := h.ex
  obtain ⟨e1, e2, e3⟩ := h2 i hi
  have hr := down_t (D i).p _ _ _ _ w (DK.one (h1.ok i hi)) (by rw [cell_of_row _ _ 0 _ _ _ (DK.hp (h1.ok i hi))]; rfl) (by rw [cell_of_row _ _ 2 _ _ _ (DK.hp (h1.ok i hi))]; rfl)
  rw [e1, e2] at hr
  exact hr
theorem Ap.sectors {W w : World} {N : Nat} {R : List (Nat × Obj)} {P : Nat → Nat} {ds : Nat → Dst} {c : Nat} (h : Ap W w N R P ds c) (i : Nat) (hi : i < N) :
    Calls Try.prog 22 #[.pointer (some ⟨P i, 0, none⟩)] w fun e w' => e = .returned (.int .i64 ((ds i).S.length : Nat)) ∧ w' = w := by
  obtain ⟨D, h1, h2⟩ := h.ex
  obtain ⟨e1, e2, e3⟩ := h2 i hi
  have hr := sectors_t (D i).p _ _ _ w (by rw [cell_of_row _ _ 0 _ _ _ (DK.hp (h1.ok i hi))]; rfl)
  rw [e1, e2] at hr
  exact hr
theorem Ap.fit {W w : World} {N : Nat} {R : List (Nat × Obj)} {P : Nat → Nat} {ds : Nat → Dst} {c : Nat} (h : Ap W w N R P ds c) (i : Nat) (hi : i < N) : (∀ s ∈ (ds i).S, s.fit) ∧ 1 ≤ (ds i).S.length ∧ (ds i).S.length ≤ 65536 := by
  obtain ⟨D, h1, h2⟩ := h.ex
  obtain ⟨e1, e2, e3⟩ := h2 i hi
  rw [← e2]
  exact ⟨DK.fit (h1.ok i hi), DK.one (h1.ok i hi), DK.most (h1.ok i hi)⟩
theorem size_step (u : World) : (sizeOf (Try.prog.elem 22)).run Try.prog u = .ok 3 u := by kernel_rfl
/-- one step of a script, as a slice of its own -/
theorem sub_steps (b o L cap k M : Nat) (hM : M = k + 1) (h : M ≤ cap) (u : World) : (Instr.slice 22 (.slice (some ⟨b, o, none⟩) L cap) (some (.int .i64 (k : Int))) (some (.int .i64 (M : Int))) none).run Try.prog u = .ok (.slice (some ⟨b, o + k * 3, none⟩) 1 (cap - k)) u := by
  rw [run_slice_lh u 22 (some ⟨b, o, none⟩) L cap (by kernel_rfl) .i64 .i64 (k : Int) (M : Int) (by omega) (by omega) (by omega), size_step]
  simp only [Result.andThen, sliced, Int.toNat_natCast]
  rw [if_neg (by omega), show M - k = 1 by omega]
  simp [Go.WideShapes.add_plain]
end Go.Proofs.Ytgdkiejlggiakac
namespace Go.Proofs.Ytgdkiejlggiakac
set_option linter.unusedVariables false
set_option linter.unusedSimpArgs false
open Go.RowKit Go.Maps
variable {W w : World} {N : Nat} {R : List (Nat × Obj)} {P : Nat → Nat} {ds : Nat → Dst} {c : Nat}
/-- a disk that was never cut -/
def Dst.fine (d : Dst) : Prop := d.off = false ∧ d.fuse = -1
theorem d0_fine (n : Nat) : (d0 n).fine := ⟨rfl, rfl⟩
theorem Dst.fine.can {d : Dst} (h : d.fine) : d.can = true := by unfold Dst.can begE; rw [h.1, h.2]; decide
theorem Dst.fine.beg {d : Dst} (h : d.fine) : begO d.off d.fuse = false ∧ begF d.off d.fuse = -1 := by unfold begO begF; rw [h.1, h.2]; decide
theorem Dst.fine.step {d : Dst} (h : d.fine) (k : Nat) (s : Stp) : (d.step k s).fine := by
  unfold Dst.step
  split
  · unfold Dst.write; rw [h.can]; exact h.beg
  · split
    · unfold Dst.flush; rw [h.can]; exact h.beg
    · split
      · exact ⟨rfl, rfl⟩
      · exact h
theorem runS_fine (most : Int) : ∀ (xs : List Stp) (k done : Nat) (d : Dst), d.fine → (runS most k done d xs).1.fine
  | [], _, _, d, h => by unfold runS; exact h
  | s :: l, k, done, d, h => by
    unfold runS
    split
    · exact runS_fine most l _ _ _ (h.step k s)
    · exact h
theorem runS_len (most : Int) : ∀ (xs : List Stp) (k done : Nat) (d : Dst), (runS most k done d xs).1.S.length = d.S.length
  | [], _, _, d => by unfold runS; rfl
  | s :: l, k, done, d => by
    unfold runS
    split
    · rw [runS_len most l, Dst.step_len]
    · rfl
/-- a crash that is told nothing: what was durable -/
theorem Dst.crash_none (d : Dst) : d.crash [] = ⟨d.S, fun _ => [], false, -1⟩ := by
  unfold Dst.crash
  congr 1
  unfold crashed
  apply List.ext_getElem
  · simp
  · intro k h1 h2
    simp only [List.getElem_mapIdx]
    split
    · rfl
    · unfold told afterS
      simp
def rdS (d : Dst) (k : Nat) : Sec := presS (d.S.getD k Sec.zero) (d.C k)
theorem Ap.read (h : Ap W w N R P ds c) (i : Nat) (hi : i < N) (hoff : (ds i).off = false) (k : Nat) (hk : k < (ds i).S.length) :
    Calls Try.prog 15 #[.pointer (some ⟨P i, 0, none⟩), .int .i64 (k : Int)] w fun e w' => ∃ v, e = .returned (.tuple #[v, .int .i64 (readE (rdS (ds i) k))]) ∧ Own w' w.heap.size v (readB (rdS (ds i) k)) ∧ Below w.heap.size w w' := by
  obtain ⟨D, h1, h2⟩ := h.ex
  obtain ⟨e1, e2, e3⟩ := h2 i hi
  have hk' : k < (D i).d.S.length := by rw [e2]; exact hk
  have hok := h1.ok i hi
  obtain ⟨a, cc, -, hL⟩ := DK.looks hok k hk'
  have hof' : (D i).d.off = false := by rw [e2]; exact hoff
  have hr := read_t (D i).p (D i).g (D i).m k (D i).d.S a cc ((D i).d.C k) w (DK.secAt hok) hk' (by rw [cell_of_row _ _ 1 _ _ _ (DK.hp hok)]; rfl) (by rw [cell_of_row _ _ 2 _ _ _ (DK.hp hok)]; simp [hof']) hL
  have hg : presS ((D i).d.S[k]) ((D i).d.C k) = rdS (ds i) k := by
    unfold rdS
    rw [← e2]
    simp [hk']
  rw [hg, e1] at hr
  exact hr
theorem Ap.readLen (h : Ap W w N R P ds c) (i : Nat) (hi : i < N) (k : Nat) (hk : k < (ds i).S.length) : (readB (rdS (ds i) k)).length ≤ 128 := by
  obtain ⟨D, h1, h2⟩ := h.ex
  obtain ⟨e1, e2, e3⟩ := h2 i hi
  have hok := h1.ok i hi
  rw [← e2] at hk ⊢
  obtain ⟨a, cc, -, hL⟩ := DK.looks hok k hk
  have hg : rdS (D i).d k = presS ((D i).d.S[k]) ((D i).d.C k) := by unfold rdS; simp [hk]
  have hso := afterS_ok ((DK.secAt hok).ok _ (List.getElem_mem hk)) (((D i).d.C k).length : Int) hL.len
  unfold readB
  rw [hg]
  split
  · simp
  · exact Nat.le_of_eq hso
theorem Ap.load (h : Ap W w N R P ds c) (ao : Option Addr) (M cap : Nat) (T : List Sec) (hf : ∀ s ∈ T, s.fit) (h1 : 1 ≤ T.length) (h2 : T.length ≤ 65536) (hM : M = (img T).length) (hr : Rd w ao (img T)) (hc : M ≤ cap) :
    Calls Try.prog 44 #[.slice ao M cap] w fun e w' => ∃ p, e = .returned (.tuple #[.pointer (some ⟨p, 0, none⟩), .int .i64 0]) ∧ Ap W w' (N + 1) R (updN P N p) (updS ds N ⟨T, fun _ => [], false, -1⟩) c ∧ Below w.heap.size w w' := by
  subst hM
  have hl : (img T).length = T.length * 129 := by rw [img_len (fit_ok hf)]
  have h9 := load_t ao cap (img T) w hr hc (by omega)
  rw [img_load hf h1 h2] at h9
  refine h9.mono ?_
  rintro e w' ⟨rfl, h3, h4⟩
  exact ⟨_, rfl, h.push h4 h3 hf (by omega) (by omega) (by omega), h4⟩
theorem Ap.crash (h : Ap W w N R P ds c) (i : Nat) (hi : i < N) (ca : Option Addr) (cc : Nat) (chs : List Int) (hch : Ints w ca chs) (hlt : 0 < chs.length → ∀ q, ca = some q → q.block < W.heap.size) :
    Calls Try.prog 25 #[.pointer (some ⟨P i, 0, none⟩), .slice ca chs.length cc] w fun e w' => e = .returned (.tuple #[]) ∧ Ap W w' N R P (updS ds i ((ds i).crash chs)) c := by
  obtain ⟨D, h1, h2⟩ := h.ex
  obtain ⟨e1, e2, e3⟩ := h2 i hi
  have hr := crash_all (D i).p (D i).g (D i).m (D i).d (D i).V (D i).n ca cc chs w (h1.ok i hi) hch (fun h0 q hq => by
    have h3 := hlt h0 q hq
    have a1 := h1.above i hi (D i).p (.inl rfl)
    have a2 := h1.above i hi (D i).g (.inr (.inl rfl))
    have a3 := h1.above i hi (D i).m (.inr (.inr (.inl rfl)))
    omega)
  rw [e1] at hr
  refine hr.mono ?_
  rintro e w' ⟨rfl, V', hs, hst⟩
  refine ⟨rfl, ?_⟩
  rw [← e1] at hs hst
  rw [← e2]
  exact h.step (Nat.le_refl _) h1 h2 hi e3 hs hst
theorem Ap.flush (h : Ap W w N R P ds c) (i : Nat) (hi : i < N) :
    Calls Try.prog 24 #[.pointer (some ⟨P i, 0, none⟩)] w fun e w' => e = .returned (.int .i64 (if (ds i).can then 0 else 5)) ∧ Ap W w' N R P (updS ds i (ds i).flush) c := by
  obtain ⟨D, h1, h2⟩ := h.ex
  obtain ⟨e1, e2, e3⟩ := h2 i hi
  have hr := flush_all (D i).p (D i).g (D i).m (D i).d (D i).V (D i).n w (h1.ok i hi)
  rw [e1, e2] at hr
  refine hr.mono ?_
  rintro e w' ⟨rfl, V', hs, hst⟩
  refine ⟨rfl, ?_⟩
  rw [← e1] at hs hst
  exact h.step (Nat.le_refl _) h1 h2 hi e3 hs hst
theorem Ap.write (h : Ap W w N R P ds c) (hc : c < 1099511627776) (i : Nat) (hi : i < N) (k : Nat) (hk : k < (ds i).S.length) (g1 : Nat) (xs : List UInt8) (hx : w.heap[g1]? = some (.cells (bv xs).toArray 5 (0, 0))) (hl : xs.length = 128) :
    Calls Try.prog 21 #[.pointer (some ⟨P i, 0, none⟩), .int .i64 (k : Int), .slice (some ⟨g1, 0, none⟩) 128 128] w fun e w' => e = .returned (.int .i64 (if (ds i).can then 0 else 5)) ∧ Ap W w' N R P (updS ds i ((ds i).write k xs)) (c + 1) := by
  obtain ⟨D, h1, h2⟩ := h.ex
  obtain ⟨e1, e2, e3⟩ := h2 i hi
  have hr := write_all (D i).p (D i).g (D i).m k (D i).d (D i).V (D i).n (some ⟨g1, 0, none⟩) 128 xs w (h1.ok i hi) (by omega) (by rw [e2]; exact hk) (rd_row hx) hl (fun y hy => by cases hy; exact fun e => DK.not5 (h1.ok i hi) (.inl e) hx)
  rw [e1, e2] at hr
  refine hr.mono ?_
  rintro e w' ⟨rfl, V', hs, hst⟩
  refine ⟨rfl, ?_⟩
  rw [← e1] at hs hst
  exact h.step (Nat.le_succ _) h1 h2 hi (by omega) hs hst
theorem updN_eq (P : Nat → Nat) (i p : Nat) : updN P i p i = p := by simp [updN]
theorem updN_ne (P : Nat → Nat) {i j : Nat} (p : Nat) (h : j ≠ i) : updN P i p j = P j := by simp [updN, h]
def st2 (x y : Dst) : Nat → Dst := fun j => if j = 0 then x else y
theorem st2_0 (x y x' : Dst) : ∀ j, j < 2 → updS (st2 x y) 0 x' j = st2 x' y j := fun j _ => by unfold updS st2; split <;> rfl
theorem st2_1 (x y x' : Dst) : ∀ j, j < 2 → updS (st2 x y) 1 x' j = st2 x x' j := fun j hj => by
  unfold updS st2
  match j, hj with
  | 0, _ => rfl
  | 1, _ => rfl
end Go.Proofs.Ytgdkiejlggiakac
