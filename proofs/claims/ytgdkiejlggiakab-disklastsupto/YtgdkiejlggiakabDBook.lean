import Derived.Test.YtgdkiejlggiakabDMore
namespace Go.Proofs.Ytgdkiejlggiakab
set_option linter.unusedVariables false
set_option linter.unusedSimpArgs false
open Go.RowKit Go.Maps
/-- the text of a number -/
def fillN (v : Int) : List UInt8 := fillS v.toNat
def secN (n : Int) : Sec := if n < 0 then Sec.bad else if n = 0 then Sec.zero else ⟨fillN n, false⟩
def lastI (l : List Int) : Int := l.getLastD 0
def chosenS (l : List Int) (c : Int) : Int := if c < 0 ∨ (l.length : Int) ≤ c then -1 else l.getD c.toNat 0
/-- what a book knows of a sector -/
structure MayOk (s : Sec) (C : List (List UInt8)) (l : List Int) (nx : Nat) : Prop where
  ex : ∃ m0 vs, l = m0 :: vs ∧ s = secN m0 ∧ C = vs.map fillN ∧ ∀ v ∈ vs, 0 < v
  rng : ∀ v ∈ l, -1 ≤ v ∧ v < (nx : Int)
theorem secN_pos {v : Int} (h : 0 < v) : secN v = ⟨fillN v, false⟩ := by unfold secN; rw [if_neg (by omega), if_neg (by omega)]
theorem MayOk.ne {s : Sec} {C : List (List UInt8)} {l : List Int} {nx : Nat} (h : MayOk s C l nx) : l ≠ [] := by
  obtain ⟨m0, vs, rfl, _⟩ := h.ex
  simp
theorem MayOk.one {s : Sec} {C : List (List UInt8)} {l : List Int} {nx : Nat} (h : MayOk s C l nx) : C = [] ↔ l.length = 1 := by
  obtain ⟨m0, vs, rfl, -, rfl, -⟩ := h.ex
  simp
theorem MayOk.clen {s : Sec} {C : List (List UInt8)} {l : List Int} {nx : Nat} (h : MayOk s C l nx) : C.length + 1 = l.length := by
  obtain ⟨m0, vs, rfl, -, rfl, -⟩ := h.ex
  simp
theorem lastI_cons (m0 v : Int) (vs : List Int) : lastI (m0 :: (vs ++ [v])) = v := by rw [show m0 :: (vs ++ [v]) = (m0 :: vs) ++ [v] from rfl]; unfold lastI; rw [List.getLastD_eq_getLast?, List.getLast?_concat]; rfl
theorem MayOk.pres {s : Sec} {C : List (List UInt8)} {l : List Int} {nx : Nat} (h : MayOk s C l nx) : presS s C = secN (lastI l) := by
  obtain ⟨m0, vs, rfl, rfl, rfl, hp⟩ := h.ex
  rcases List.eq_nil_or_concat vs with rfl | ⟨vs', v, rfl⟩
  · simp [presS, afterS, lastI]
  · simp only [List.concat_eq_append] at hp ⊢
    rw [lastI_cons, secN_pos (hp v (by simp))]
    unfold presS afterS
    rw [if_neg (by simp <;> omega), if_pos ⟨by simp <;> omega, by simp⟩]
    congr 1
    simp
theorem lastI_mem {l : List Int} (h : l ≠ []) : lastI l ∈ l := by
  unfold lastI
  rw [List.getLastD_eq_getLast?, List.getLast?_eq_some_getLast h]
  exact List.getLast_mem h
theorem MayOk.write {s : Sec} {C : List (List UInt8)} {l : List Int} {nx : Nat} (h : MayOk s C l nx) (hx : 0 < nx) : MayOk s (C ++ [fillS nx]) (l ++ [(nx : Int)]) (nx + 1) := by
  obtain ⟨m0, vs, rfl, rfl, rfl, hp⟩ := h.ex
  refine ⟨⟨m0, vs ++ [(nx : Int)], rfl, rfl, by simp [fillN], fun v hv => ?_⟩, fun v hv => ?_⟩
  · rcases List.mem_append.1 hv with h1 | h1
    · exact hp v h1
    · simp at h1; omega
  · rcases List.mem_append.1 hv with h1 | h1
    · have := h.rng v h1; omega
    · simp at h1; omega
theorem MayOk.more {s : Sec} {C : List (List UInt8)} {l : List Int} {nx nx' : Nat} (h : MayOk s C l nx) (hx : nx ≤ nx') : MayOk s C l nx' := ⟨h.ex, fun v hv => by have := h.rng v hv; omega⟩
theorem MayOk.flush {s : Sec} {C : List (List UInt8)} {l : List Int} {nx : Nat} (h : MayOk s C l nx) : MayOk (presS s C) [] [lastI l] nx := by
  refine ⟨⟨lastI l, [], rfl, h.pres, rfl, by simp⟩, fun v hv => ?_⟩
  simp at hv
  subst hv
  exact h.rng _ (lastI_mem h.ne)
theorem MayOk.crash {s : Sec} {C : List (List UInt8)} {l : List Int} {nx : Nat} (h : MayOk s C l nx) (hx : 0 < nx) (c : Int) : MayOk (afterS s c C) [] [chosenS l c] nx := by
  obtain ⟨m0, vs, rfl, rfl, rfl, hp⟩ := h.ex
  refine ⟨⟨_, [], rfl, ?_, rfl, by simp⟩, fun v hv => ?_⟩
  · unfold chosenS afterS
    by_cases h1 : c < 0
    · rw [if_neg (by omega), if_neg (by omega), if_pos (.inl h1)]; rfl
    · by_cases h2 : c = 0
      · subst h2
        rw [if_pos rfl, if_neg (by simp)]; rfl
      · rw [if_neg h2]
        by_cases h3 : c ≤ (vs.length : Int)
        · rw [if_pos ⟨by omega, by simpa using h3⟩, if_neg (by simp; omega)]
          obtain ⟨k, rfl⟩ : ∃ k : Nat, c = (k : Int) + 1 := ⟨(c - 1).toNat, by omega⟩
          have hk : k < vs.length := by omega
          have e1 : (m0 :: vs).getD (((k : Int) + 1).toNat) 0 = vs[k] := by
            rw [show ((k : Int) + 1).toNat = k + 1 by omega]
            simp [hk]
          rw [e1, secN_pos (hp _ (List.getElem_mem hk))]
          congr 1
          rw [show ((k : Int) + 1).toNat - 1 = k by omega]
          simp [hk]
        · rw [if_neg (by simp; omega), if_pos (.inr (by simp; omega))]; rfl
  · simp at hv
    subst hv
    unfold chosenS
    split
    · omega
    · rename_i h9
      have hk : c.toNat < (m0 :: vs).length := by omega
      have e1 : (m0 :: vs).getD c.toNat 0 = (m0 :: vs)[c.toNat] := by simp [List.getD, List.getElem?_eq_getElem hk]
      rw [e1]
      exact h.rng _ (List.getElem_mem hk)
def cntM (M : Nat → List Int) (i : Nat) : Nat := (List.range i).countP fun j => (M j).length != 1
def crM (M : Nat → List Int) (chs : List Int) (i : Nat) : List Int := if (M i).length = 1 then M i else [chosenS (M i) (chs.getD (cntM M i) 0)]
theorem cntM_succ (M : Nat → List Int) (i : Nat) : cntM M (i + 1) = cntM M i + if (M i).length = 1 then 0 else 1 := by
  unfold cntM
  rw [List.range_succ, List.countP_append]
  simp [List.countP_cons]
structure BookRel (d : Dst) (N : Nat) (M : Nat → List Int) (nx : Nat) : Prop where
  len : d.S.length = N
  may : ∀ i, i < N → MayOk (d.S.getD i Sec.zero) (d.C i) (M i) nx
  fine : d.fine
  pos : 0 < nx
theorem BookRel.start (N : Nat) : BookRel (d0 N) N (fun _ => [0]) 1 := by
  refine ⟨by simp [d0], fun i hi => ⟨⟨0, [], rfl, ?_, rfl, by simp⟩, by simp⟩, d0_fine N, by decide⟩
  simp [d0, secN, hi]
theorem BookRel.write {d : Dst} {N : Nat} {M : Nat → List Int} {nx : Nat} (h : BookRel d N M nx) (i : Nat) : BookRel (d.write i (fillS nx)) N (upd M i (M i ++ [(nx : Int)])) (nx + 1) := by
  unfold Dst.write
  rw [h.fine.can]
  refine ⟨h.len, fun j hj => ?_, h.fine.beg, by omega⟩
  by_cases e : j = i
  · subst e
    simp only [if_true, upd_same]
    exact (h.may j hj).write h.pos
  · simp only [if_true]
    rw [upd_other _ e, upd_other _ e]
    exact (h.may j hj).more (by omega)
theorem getD_mapIdx (S : List Sec) (f : Nat → Sec → Sec) (i : Nat) (h : i < S.length) : (S.mapIdx f).getD i Sec.zero = f i (S.getD i Sec.zero) := by simp [h]
theorem BookRel.flush {d : Dst} {N : Nat} {M : Nat → List Int} {nx : Nat} (h : BookRel d N M nx) : BookRel d.flush N (fun i => [lastI (M i)]) nx := by
  unfold Dst.flush
  rw [h.fine.can]
  refine ⟨by simp only [if_true]; rw [flushed_len']; exact h.len, fun j hj => ?_, h.fine.beg, h.pos⟩
  simp only [if_true]
  unfold flushed
  rw [getD_mapIdx _ _ _ (by rw [h.len]; exact hj)]
  exact (h.may j hj).flush
theorem posN_eq {d : Dst} {N : Nat} {M : Nat → List Int} {nx : Nat} (h : BookRel d N M nx) (i : Nat) (hi : i ≤ N) : posN N d.C i = cntM M i := by
  unfold posN dirtyL dirtyN cntM
  rw [List.countP_map, List.countP_filter]
  obtain ⟨k, rfl⟩ : ∃ k, N = i + k := ⟨N - i, by omega⟩
  rw [List.range_add, List.countP_append]
  have h2 : ((List.range k).map (i + ·)).countP (fun a => ((fun x : Int => decide (x < (i : Int))) ∘ fun (k : Nat) => (k : Int)) a && !(d.C a).isEmpty) = 0 := by
    rw [List.countP_eq_zero]
    intro a ha
    obtain ⟨b, -, rfl⟩ := List.mem_map.1 ha
    simp
    omega
  rw [h2, Nat.add_zero]
  apply List.countP_congr
  intro j hj
  have hji := List.mem_range.1 hj
  have h3 := (h.may j (by omega)).one
  simp only [Function.comp, Bool.and_eq_true, decide_eq_true_eq, Bool.not_eq_true', List.isEmpty_eq_false_iff, bne_iff_ne]
  constructor
  · rintro ⟨-, h4⟩; exact fun e => h4 (h3.2 e)
  · intro h4; exact ⟨by omega, fun e => h4 (h3.1 e)⟩
theorem BookRel.crash {d : Dst} {N : Nat} {M : Nat → List Int} {nx : Nat} (h : BookRel d N M nx) (chs : List Int) : BookRel (d.crash chs) N (crM M chs) nx := by
  unfold Dst.crash
  refine ⟨by simp only; rw [crashed_len]; exact h.len, fun j hj => ?_, ⟨rfl, rfl⟩, h.pos⟩
  simp only
  unfold crashed
  rw [getD_mapIdx _ _ _ (by rw [h.len]; exact hj)]
  have h1 := h.may j hj
  unfold crM
  by_cases e : d.C j = []
  · rw [if_pos e, if_pos (h1.one.1 e)]
    rw [e] at h1
    exact h1
  · rw [if_neg e, if_neg (fun h2 => e (h1.one.2 h2))]
    have h9 := h1.crash h.pos (told d.S.length d.C chs j)
    unfold told at h9 ⊢
    rw [h.len, posN_eq h j (by omega)] at h9 ⊢
    exact h9
theorem BookRel.reads {d : Dst} {N : Nat} {M : Nat → List Int} {nx : Nat} (h : BookRel d N M nx) (i : Nat) (hi : i < N) : rdS d i = secN (lastI (M i)) := (h.may i hi).pres
/-- the book in memory -/
structure BookAt (w : World) (B kb gm cap p N : Nat) (M : Nat → List Int) (V : Nat → Value) (nx : Nat) : Prop where
  hk : w.heap[kb]? = some (.cells #[.pointer (some ⟨p, 0, none⟩), .slice (some ⟨gm, 0, none⟩) N cap, .int .i64 (nx : Int)] 62 (0, 0))
  hm : ∃ cur, w.heap[gm]? = some (.cells cur 38 (0, 0)) ∧ ∀ i, i < N → cur[i]? = some (V i)
  rows : ∀ i, i < N → OwnI w B (V i) (M i)
  apart : ∀ i j, i < N → j < N → i ≠ j → (V i).ownBlock ≠ (V j).ownBlock
  ne : ∀ i, i < N → M i ≠ []
  bk : B ≤ kb
  bg : B ≤ gm
theorem farBk : farT 62 := ⟨by decide, by decide, by decide⟩
theorem farSl : farT 38 := ⟨by decide, by decide, by decide⟩
theorem farIn : farT 3 := ⟨by decide, by decide, by decide⟩
theorem OwnI.chg {w w' : World} {B : Nat} {v : Value} {xs : List Int} {F : Nat → Prop} (h : OwnI w B v xs) (hc : Chg F w w') (hne : ∀ b, v.ownBlock = some b → ¬ F b) : OwnI w' B v xs := by
  refine ⟨h.1, ?_⟩
  rcases h.2 with h0 | ⟨g, cap, cur, e, hB, hg, r⟩
  · exact .inl h0
  · exact .inr ⟨g, cap, cur, e, hB, (hc.block g (Array.getElem?_eq_some_iff.1 hg).1 (hne g (by rw [e]; rfl))).trans hg, r⟩
theorem OwnI.at_ {w : World} {B b : Nat} {v : Value} {xs : List Int} (h : OwnI w B v xs) (hb : v.ownBlock = some b) : ∃ cur, w.heap[b]? = some (.cells cur 3 (0, 0)) := by
  rcases h.2 with ⟨rfl, -⟩ | ⟨g, cap, cur, rfl, -, hg, -⟩
  · simp [Value.ownBlock] at hb
  · simp [Value.ownBlock] at hb
    subst hb
    exact ⟨cur, hg⟩
theorem BookAt.kept {w w' : World} {B kb gm cap p N : Nat} {M : Nat → List Int} {V : Nat → Value} {nx : Nat} (h : BookAt w B kb gm cap p N M V nx) {F : Nat → Prop} (hc : Chg F w w') (hF : ∀ b cs T fr, w.heap[b]? = some (.cells cs T fr) → farT T → ¬ F b) : BookAt w' B kb gm cap p N M V nx := by
  obtain ⟨cur, hm, hv⟩ := h.hm
  refine ⟨(hc.block kb (Array.getElem?_eq_some_iff.1 h.hk).1 (hF _ _ _ _ h.hk farBk)).trans h.hk, ⟨cur, (hc.block gm (Array.getElem?_eq_some_iff.1 hm).1 (hF _ _ _ _ hm farSl)).trans hm, hv⟩, fun i hi => (h.rows i hi).chg hc (fun b hb => ?_), h.apart, h.ne, h.bk, h.bg⟩
  obtain ⟨c', h1⟩ := (h.rows i hi).at_ hb
  exact hF _ _ _ _ h1 farIn
theorem BookAt.below {w w' : World} {B kb gm cap p N : Nat} {M : Nat → List Int} {V : Nat → Value} {nx : Nat} (h : BookAt w B kb gm cap p N M V nx) (hb : Below w.heap.size w w') : BookAt w' B kb gm cap p N M V nx :=
  h.kept (F := fun _ => False) (Chg.of_below hb) (fun _ _ _ _ _ _ hf => hf)
theorem BookAt.cell {w : World} {B kb gm cap p N : Nat} {M : Nat → List Int} {V : Nat → Value} {nx : Nat} (h : BookAt w B kb gm cap p N M V nx) (i : Nat) (hi : i < N) : w.cell? ⟨gm, i, none⟩ = some (V i) := by
  obtain ⟨cur, hm, hv⟩ := h.hm
  rw [cell_of_row _ _ i _ _ _ hm, hv i hi]
theorem BookAt.k0 {w : World} {B kb gm cap p N : Nat} {M : Nat → List Int} {V : Nat → Value} {nx : Nat} (h : BookAt w B kb gm cap p N M V nx) : w.cell? ⟨kb, 0, none⟩ = some (.pointer (some ⟨p, 0, none⟩)) := by rw [cell_of_row _ _ 0 _ _ _ h.hk]; rfl
theorem BookAt.k1 {w : World} {B kb gm cap p N : Nat} {M : Nat → List Int} {V : Nat → Value} {nx : Nat} (h : BookAt w B kb gm cap p N M V nx) : w.cell? ⟨kb, 1, none⟩ = some (.slice (some ⟨gm, 0, none⟩) N cap) := by rw [cell_of_row _ _ 1 _ _ _ h.hk]; rfl
theorem BookAt.k2 {w : World} {B kb gm cap p N : Nat} {M : Nat → List Int} {V : Nat → Value} {nx : Nat} (h : BookAt w B kb gm cap p N M V nx) : w.cell? ⟨kb, 2, none⟩ = some (.int .i64 (nx : Int)) := by rw [cell_of_row _ _ 2 _ _ _ h.hk]; rfl
/-- the row of sector i: where it lies -/
theorem BookAt.row {w : World} {B kb gm cap p N : Nat} {M : Nat → List Int} {V : Nat → Value} {nx : Nat} (h : BookAt w B kb gm cap p N M V nx) (i : Nat) (hi : i < N) : ∃ g c, V i = .slice (some ⟨g, 0, none⟩) (M i).length c ∧ B ≤ g ∧ g < w.heap.size ∧ ∀ j (hj : j < (M i).length), w.cell? ⟨g, j, none⟩ = some (.int .i64 (M i)[j]) := by
  obtain ⟨a, c, hv, h1⟩ := (h.rows i hi).val
  obtain ⟨g, rfl, h2, h3, h4⟩ := h1 (List.length_pos_iff.2 (h.ne i hi))
  exact ⟨g, c, hv, h2, h3, h4⟩
theorem last_at {l : List Int} (h : l ≠ []) : l[l.length - 1]'(by have := List.length_pos_iff.2 h; omega) = lastI l := by
  unfold lastI
  rw [List.getLastD_eq_getLast?, List.getLast?_eq_some_getLast h, List.getLast_eq_getElem]
  rfl
/-- a disk and its book -/
structure Bk (W w : World) (kb N : Nat) (d : Dst) (M : Nat → List Int) (nx c : Nat) : Prop where
  ex : ∃ p g m DV gm cap V, DS w p g m d DV c ∧ (∀ b, foot p g m DV b → W.heap.size ≤ b) ∧ BookAt w W.heap.size kb gm cap p N M V nx
  rel : BookRel d N M nx
  bel : Below W.heap.size W w
theorem Bk.below {W w w' : World} {kb N : Nat} {d : Dst} {M : Nat → List Int} {nx c : Nat} (h : Bk W w kb N d M nx c) (hb : Below w.heap.size w w') : Bk W w' kb N d M nx c := by
  obtain ⟨p, g, m, DV, gm, cap, V, h1, h2, h3⟩ := h.ex
  exact ⟨⟨p, g, m, DV, gm, cap, V, DK.below h1 hb, h2, h3.below hb⟩, h.rel, h.bel.trans (hb.mono h.bel.size)⟩
/-- an operation of the disk: the book stays -/
theorem BookAt.disk {w w' : World} {B kb gm cap p g m N : Nat} {d : Dst} {DV DV' : Nat → Value} {c : Nat} {M : Nat → List Int} {V : Nat → Value} {nx : Nat} (h : BookAt w B kb gm cap p N M V nx) (hd : DS w p g m d DV c) (hst : Step p g m DV DV' w w') : BookAt w' B kb gm cap p N M V nx :=
  h.kept hst.chg (fun _ _ _ _ hb hT hf => DK.notT hd hf hT hb)
theorem Bk.disk {W w w' : World} {kb N : Nat} {d d' : Dst} {M M' : Nat → List Int} {nx nx' c' : Nat} {p g m gm cap : Nat} {DV DV' V : Nat → Value} {c : Nat} (hbel : Below W.heap.size W w) (h1 : DS w p g m d DV c) (h2 : ∀ b, foot p g m DV b → W.heap.size ≤ b) (hst : Step p g m DV DV' w w') : (∀ b, foot p g m DV' b → W.heap.size ≤ b) ∧ Below W.heap.size W w' :=
  ⟨fun b hb => by
    rcases hst.new b hb with h4 | h4
    · exact h2 b h4
    · exact Nat.le_trans hbel.size h4, hbel.trans (hst.chg.below h2 hbel.size)⟩
set_option maxRecDepth 20000 in
set_option maxHeartbeats 800000 in
/-- a sector reads as the text of its number -/
theorem reads_t {W w : World} {kb N : Nat} {d : Dst} {M : Nat → List Int} {nx c : Nat} (h : Bk W w kb N d M nx c) (i : Nat) (hi : i < N) (n : Int) (hn : rdS d i = secN n) (hr : -1 ≤ n ∧ n < 140737488355328) :
    Calls Try.prog 40 #[.pointer (some ⟨kb, 0, none⟩), .int .i64 (i : Int), .int .i64 n] w fun e w' => e = .returned (.bool true) ∧ Below w.heap.size w w' := by
  obtain ⟨p, g, m, DV, gm, cap, V, h1, h2, h3⟩ := h.ex
  have hiS : i < d.S.length := by rw [h.rel.len]; exact hi
  obtain ⟨a, cc, -, hL⟩ := DK.looks h1 i hiS
  have hRD0 := read_t p g m i d.S a cc (d.C i) w (DK.secAt h1) hiS (by rw [cell_of_row _ _ 1 _ _ _ (DK.hp h1)]; rfl) (by rw [cell_of_row _ _ 2 _ _ _ (DK.hp h1)]; simp [h.rel.fine.1]) hL
  have hg9 : presS (d.S[i]) (d.C i) = secN n := by
    rw [← hn]
    unfold rdS
    simp [hiS]
  rw [hg9] at hRD0
  have HRD : Hid _ := hRD0
  have c0 := h3.k0
  have hmk : ∀ w, (Instr.makeSlice 27 (.int .i64 128) (.int .i64 128)).run Try.prog w = .ok (.slice (some ⟨w.heap.size, 0, none⟩) 128 128) (w.alloc (.cells (List.replicate 128 (Value.int .u8 0)).toArray 5)) := fun w => make_bytes 128 (by decide) w
  clear h h1 h2 h3 hL hg9 hn hRD0
  by_cases n0 : n < 0
  · have e1 : readE (secN n) = 40 := by unfold secN; rw [if_pos n0]; rfl
    have e2 : readB (secN n) = [] := by unfold secN; rw [if_pos n0]; rfl
    rw [e1, e2] at HRD
    clear e1 e2 hmk
    go_enter Try.func40, Try.ntmps40
    go_wp2_with fail
    refine Calls.mono HRD.out ?_
    rintro e w1 ⟨v, rfl, hown, hb1⟩
    obtain ⟨av, cv, rfl, -⟩ := hown.val
    go_wp2
    go_ret
    exact ⟨rfl, hb1⟩
  · obtain ⟨T, hT⟩ : ∃ T, T = readB (secN n) := ⟨_, rfl⟩
    have e1 : readE (secN n) = 0 := by
      unfold secN
      rw [if_neg n0]
      split <;> rfl
    rw [e1, ← hT] at HRD
    obtain ⟨Z, hZ⟩ : ∃ Z : Array Value, Z = (List.replicate 128 (Value.int .u8 0)).toArray := ⟨_, rfl⟩
    rw [← hZ] at hmk
    by_cases n1 : 0 < n
    · have eT : T = fillN n := by rw [hT, secN_pos n1]; rfl
      obtain ⟨k, rfl⟩ : ∃ k : Nat, n = (k : Int) := ⟨n.toNat, by omega⟩
      have HTL : Hid (T.length = 128) := by unfold Hid; rw [eT]; exact fillS_len _
      have HET : Hid (T = fillS k) := by rw [eT]; simp [fillN, Hid]
      have HFI : Hid (∀ u, _) := fun u => fill_t k u (by omega)
      clear e1 hT eT hZ
      go_enter Try.func40, Try.ntmps40
      go_wp2_with fail
      refine Calls.mono HRD.out ?_
      rintro e w1 ⟨v, rfl, hown, hb1⟩
      obtain ⟨av, cv, rfl, -, -, -, hrd, -⟩ := hown.val
      rw [HTL.out]
      have HR : Hid _ := hrd
      have HB1 : Hid _ := hb1
      clear hown hrd hb1 HRD
      go_wp2_with fail
      refine Calls.mono (HFI.out _) ?_
      rintro e w2 ⟨g2, rfl, -, hr2, hb2⟩
      have hb12 : Below w1.heap.size w1 w2 := below_next (al (Below.refl _ _) _) hb2
      have HBY : Hid (Calls Try.prog 20 #[.slice av 128 cv, .slice (some ⟨g2, 0, none⟩) 128 128] w2 fun e w' => e = .returned (.bool true) ∧ Below w2.heap.size w2 w') := by
        have h9 := byt_n av (some ⟨g2, 0, none⟩) 128 128 cv 128 T T w2 HTL.out.symm HTL.out.symm (Rd.below HR.out hb12) (by rw [HET.out]; exact rd_row hr2) (by rw [HTL.out]; decide) (by rw [HTL.out]; decide)
        rw [beq_self_eq_true] at h9
        exact h9
      have HB2 : Hid (Below w.heap.size w w2) := below_next HB1.out hb12
      clear hr2 hb2 hb12
      go_wp2_with fail
      refine HBY.out.mono ?_
      rintro e w3 ⟨rfl, hb3⟩
      go_wp2
      go_ret
      exact ⟨rfl, below_next HB2.out hb3⟩
    · obtain rfl : n = 0 := by omega
      have eT : T = List.replicate 128 0 := by rw [hT]; rfl
      have HTL : Hid (T.length = 128) := by unfold Hid; rw [eT]; simp
      have HZ : Hid (Z = (bv T).toArray) := by unfold Hid; rw [hZ, eT]; rfl
      clear e1 hT eT hZ
      go_enter Try.func40, Try.ntmps40
      go_wp2_with fail
      refine Calls.mono HRD.out ?_
      rintro e w1 ⟨v, rfl, hown, hb1⟩
      obtain ⟨av, cv, rfl, -, -, -, hrd, -⟩ := hown.val
      rw [HTL.out]
      obtain ⟨w2, hw2⟩ : ∃ w2 : World, w2 = w1.alloc (.cells Z 5) := ⟨_, rfl⟩
      have hb12 : Below w1.heap.size w1 w2 := by rw [hw2]; exact al (Below.refl _ _) _
      have hr2 : w2.heap[w1.heap.size]? = some (.cells (bv T).toArray 5 (0, 0)) := by rw [hw2, ← HZ.out]; exact heap_alloc_new w1 _
      have HBY : Hid (Calls Try.prog 20 #[.slice av 128 cv, .slice (some ⟨w1.heap.size, 0, none⟩) 128 128] w2 fun e w' => e = .returned (.bool true) ∧ Below w2.heap.size w2 w') := by
        have h9 := byt_n av (some ⟨w1.heap.size, 0, none⟩) 128 128 cv 128 T T w2 HTL.out.symm HTL.out.symm (hrd.below hb12) (rd_row hr2) (by rw [HTL.out]; decide) (by rw [HTL.out]; decide)
        rw [beq_self_eq_true] at h9
        exact h9
      have HB2 : Hid (Below w.heap.size w w2) := below_next hb1 hb12
      clear hr2 hb12 hown hrd hb1
      go_wp2_with fail
      rw [← hw2]
      refine HBY.out.mono ?_
      rintro e w3 ⟨rfl, hb3⟩
      clear hw2
      go_wp2
      go_ret
      exact ⟨rfl, below_next HB2.out hb3⟩
set_option maxRecDepth 20000 in
set_option maxHeartbeats 800000 in
theorem bpresent_t {W w : World} {kb N : Nat} {d : Dst} {M : Nat → List Int} {nx c : Nat} (h : Bk W w kb N d M nx c) (hx : nx ≤ 1099511627776) :
    Calls Try.prog 26 #[.pointer (some ⟨kb, 0, none⟩)] w fun e w' => e = .returned (.bool true) ∧ Below w.heap.size w w' := by
  obtain ⟨p, g, m, DV, gm, cap, V, h1, h2, h3⟩ := h.ex
  have hN : N ≤ 65536 := by rw [← h.rel.len]; exact DK.most h1
  have H3 : Hid _ := h3
  have HB : Hid _ := h
  have HX : Hid _ := hx
  clear h h1 h2 h3 hx
  go_enter Try.func26, Try.ntmps26
  go_wp2_with fail
  go_loopw [3, 4] (fun i _ wr => ∃ k : Nat, k ≤ N ∧ i = .int .i64 (k : Int) ∧ Below w.heap.size w wr) (fun i _ _ => N - (intOf i).toNat)
  case atStart => exact ⟨0, Nat.zero_le _, rfl, Below.refl _ _⟩
  case round =>
    obtain ⟨k, hk, rfl, hbw⟩ := hrel
    have HBW : Hid _ := hbw
    have h3w := BookAt.below H3.out hbw
    have c1 := h3w.k1
    have hk0 : (0 : Int) ≤ (k : Int) := by omega
    have hkw : IntKind.i64.wrap ((k : Int) + 1) = ((k + 1 : Nat) : Int) := by rw [IntKind.wrap_i64]; omega
    by_cases hlt : k < N
    · have hlti : (k : Int) < (N : Int) := by omega
      have cv := h3w.cell k hlt
      obtain ⟨gr, cr, hv, -, -, hcl⟩ := h3w.row k hlt
      have hne := h3w.ne k hlt
      obtain ⟨n, hn⟩ : ∃ n, n = (M k).length := ⟨_, rfl⟩
      obtain ⟨z, hz⟩ : ∃ z : Nat, z = n - 1 := ⟨_, rfl⟩
      have hpos := List.length_pos_iff.2 hne
      have hcz := hcl z (by omega)
      have hlz : (M k)[z]'(by omega) = lastI (M k) := by
        rw [← last_at hne]
        congr 1
        omega
      obtain ⟨v, hvv⟩ : ∃ v, v = lastI (M k) := ⟨_, rfl⟩
      rw [hlz, ← hvv] at hcz
      rw [hv, ← hn] at cv
      have hnb : n ≤ 1099511627777 := by
        have := (BookRel.may (Bk.rel HB.out) k hlt).clen
        have h8 := (CacheAt.few (DK.cache (Bk.ex HB.out).choose_spec.choose_spec.choose_spec.choose_spec.choose_spec.choose_spec.choose_spec.1)) k
        have h9 := (DK.few (Bk.ex HB.out).choose_spec.choose_spec.choose_spec.choose_spec.choose_spec.choose_spec.choose_spec.1)
        omega
      have hzw : IntKind.i64.wrap ((n : Int) - 1) = (z : Int) := by rw [IntKind.wrap_i64]; omega
      have hz0 : (0 : Int) ≤ (z : Int) := by omega
      have hzn : (z : Int) < (n : Int) := by omega
      have HRD : Hid (Calls Try.prog 40 #[.pointer (some ⟨kb, 0, none⟩), .int .i64 (k : Int), .int .i64 v] wr fun e w' => e = .returned (.bool true) ∧ Below wr.heap.size wr w') := by
        have hr9 := (BookRel.may (Bk.rel HB.out) k hlt).rng v (by rw [hvv]; exact lastI_mem hne)
        exact reads_t (Bk.below HB.out hbw) k hlt v (by rw [hvv]; exact BookRel.reads (Bk.rel HB.out) k hlt) ⟨hr9.1, by have := HX.out; omega⟩
      clear h3w hcl hne hn hz hv hlz hvv hpos hbw
      go_wp2_with fail
      refine HRD.out.mono ?_
      rintro e w2 ⟨rfl, hb2⟩
      go_wp2
      go_roundw
      case rel => exact ⟨k + 1, by omega, rfl, below_next HBW.out hb2⟩
      case measure => simp [intOf]; omega
    · have hlti : ¬ (k : Int) < (N : Int) := by omega
      clear h3w hbw
      go_wp2
      go_ret
      exact ⟨rfl, HBW.out⟩
end Go.Proofs.Ytgdkiejlggiakab
