import Derived.Test.YtgdkiejlggiakabDBegB
namespace Go.Proofs.Ytgdkiejlggiakab
set_option linter.unusedVariables false
set_option linter.unusedSimpArgs false
open Go.RowKit Go.Maps
theorem BookAt.setAny {w w' : World} {B kb gm cap p N : Nat} {M : Nat → List Int} {V : Nat → Value} {nx : Nat} (h : BookAt w B kb gm cap p N M V nx) (i : Nat) (hi : i < N) (v : Value) (l : List Int) (hne : l ≠ []) (hc : Chg (fun b => b = gm ∨ (V i).ownBlock = some b) w w') {cur : Array Value} (hcur : w.heap[gm]? = some (.cells cur 38 (0, 0))) (hgm : w'.heap[gm]? = some (.cells (cur.setIfInBounds i v) 38 (0, 0))) (ho : OwnI w' B v l) (hv : v.ownBlock = (V i).ownBlock ∨ ∃ b, v.ownBlock = some b ∧ w.heap.size ≤ b) : BookAt w' B kb gm cap p N (upd M i l) (upd V i v) nx := by
  have hrI : ∀ j, j < N → ∀ b, (V j).ownBlock = some b → ∃ c, w.heap[b]? = some (.cells c 3 (0, 0)) := fun j hj b hb => (h.rows j hj).at_ hb
  refine ⟨?_, ?_, fun j hj => ?_, fun j k hj hk hjk => ?_, fun j hj => ?_, h.bk, h.bg⟩
  · refine (hc.block kb (Array.getElem?_eq_some_iff.1 h.hk).1 ?_).trans h.hk
    rintro (e | e)
    · have := h.hk; rw [e, hcur] at this; simp only [Option.some.injEq, Obj.cells.injEq] at this; exact absurd this.2.1 (by decide)
    · obtain ⟨c, h1⟩ := hrI i hi kb e
      rw [h.hk] at h1; simp only [Option.some.injEq, Obj.cells.injEq] at h1; exact absurd h1.2.1 (by decide)
  · obtain ⟨cur', h1, h2⟩ := h.hm
    rw [hcur] at h1
    simp only [Option.some.injEq, Obj.cells.injEq] at h1
    obtain ⟨rfl, -⟩ := h1
    refine ⟨_, hgm, fun j hj => ?_⟩
    have hsz : i < cur.size := (Array.getElem?_eq_some_iff.1 (h2 i hi)).1
    by_cases e : j = i
    · subst e; rw [upd_same, Array.getElem?_setIfInBounds_self_of_lt hsz]
    · rw [upd_other _ e, Array.getElem?_setIfInBounds_ne (fun e' => e e'.symm)]; exact h2 j hj
  · by_cases e : j = i
    · subst e; rw [upd_same, upd_same]; exact ho
    · rw [upd_other _ e, upd_other _ e]
      refine (h.rows j hj).chg hc (fun b hb hf => ?_)
      rcases hf with rfl | hf
      · obtain ⟨c, h1⟩ := hrI j hj b hb
        rw [hcur] at h1; simp only [Option.some.injEq, Obj.cells.injEq] at h1; exact absurd h1.2.1 (by decide)
      · exact h.apart j i hj hi e (hb.trans hf.symm)
  · have hnew : ∀ t, t < N → t ≠ i → v.ownBlock ≠ (V t).ownBlock := fun t ht hti e => by
      rcases hv with h1 | ⟨b, h1, h2⟩
      · exact h.apart t i ht hi hti (e.symm.trans h1)
      · have := (World.ownsRow.lt (h.rows t ht) b (e.symm.trans h1)).2; omega
    by_cases e : j = i
    · subst e
      rw [upd_same, upd_other _ (fun e => hjk e.symm)]
      exact hnew k hk (fun e => hjk e.symm)
    · rw [upd_other _ e]
      by_cases e2 : k = i
      · subst e2
        rw [upd_same]
        exact fun e3 => hnew j hj e e3.symm
      · rw [upd_other _ e2]
        exact h.apart j k hj hk hjk
  · by_cases e : j = i
    · subst e; rw [upd_same]; exact hne
    · rw [upd_other _ e]; exact h.ne j hj
theorem own_oneI {w : World} {B g : Nat} {z : Int} (hB : B ≤ g) (h : w.heap[g]? = some (.cells #[.int .i64 z] 3 (0, 0))) : OwnI w B (.slice (some ⟨g, 0, none⟩) 1 1) [z] := ⟨rfl, .inr ⟨g, 1, _, rfl, hB, h, Nat.le_refl _, by decide, rfl, rfl⟩⟩
/-- a sector has one text alone: a new row -/
theorem BookAt.single {w : World} {B kb gm cap p N : Nat} {M : Nat → List Int} {V : Nat → Value} {nx : Nat} (h : BookAt w B kb gm cap p N M V nx) (hB : B ≤ w.heap.size) (i : Nat) (hi : i < N) (z : Int) :
    BookAt ((w.setCell ⟨gm, i, none⟩ (.slice (some ⟨w.heap.size, 0, none⟩) 1 1)).alloc (.cells #[.int .i64 z] 3)).drew B kb gm cap p N (upd M i [z]) (upd V i (.slice (some ⟨w.heap.size, 0, none⟩) 1 1)) nx ∧ Chg (fun b => b = gm) w ((w.setCell ⟨gm, i, none⟩ (.slice (some ⟨w.heap.size, 0, none⟩) 1 1)).alloc (.cells #[.int .i64 z] 3)).drew := by
  obtain ⟨cur, h1, h2⟩ := h.hm
  have hgl := (Array.getElem?_eq_some_iff.1 h1).1
  have hc := set_chg w gm i (.slice (some ⟨w.heap.size, 0, none⟩) 1 1)
  obtain ⟨Y, hY⟩ : ∃ Y, Y = w.setCell ⟨gm, i, none⟩ (.slice (some ⟨w.heap.size, 0, none⟩) 1 1) := ⟨_, rfl⟩
  have hYs : Y.heap.size = w.heap.size := by rw [hY]; simp
  have hYg : Y.heap[gm]? = some (.cells (cur.setIfInBounds i (.slice (some ⟨w.heap.size, 0, none⟩) 1 1)) 38 (0, 0)) := by rw [hY]; exact heap_setCell_same w gm i _ _ _ h1
  rw [← hY] at hc ⊢
  have hb : Below Y.heap.size Y (Y.alloc (.cells #[.int .i64 z] 3)).drew := (al (Below.refl _ _) _).drew
  have hcw : Chg (fun b => b = gm) w (Y.alloc (.cells #[.int .i64 z] 3)).drew := hc.trans (Chg.of_below (F := fun _ => False) hb) (fun _ hf => hf.elim)
  have hr : (Y.alloc (.cells #[.int .i64 z] 3)).drew.heap[w.heap.size]? = some (.cells #[.int .i64 z] 3 (0, 0)) := by rw [← hYs]; exact heap_alloc_new Y _
  exact ⟨h.setAny i hi _ [z] (by simp) (hcw.mono fun b hb => .inl hb) h1 ((hb.block gm (by omega)).trans hYg) (own_oneI hB hr) (.inr ⟨_, rfl, Nat.le_refl _⟩), hcw⟩
set_option maxRecDepth 20000 in
theorem chosen_t (g n cap : Nat) (l : List Int) (c : Int) (w : World) (hn : n = l.length) (hl : ∀ j (hj : j < l.length), w.cell? ⟨g, j, none⟩ = some (.int .i64 l[j])) :
    Calls Try.prog 46 #[.slice (some ⟨g, 0, none⟩) n cap, .int .i64 c] w fun e w' => e = .returned (.int .i64 (chosenS l c)) ∧ w' = w := by
  by_cases c0 : c < 0
  · have e1 : chosenS l c = -1 := by unfold chosenS; rw [if_pos (.inl c0)]
    rw [e1]
    clear e1 hl hn
    go_enter Try.func46, Try.ntmps46
    go_wp2
    go_ret
    exact ⟨rfl, rfl⟩
  · have c0' : (0 : Int) ≤ c := by omega
    by_cases c1 : (n : Int) ≤ c
    · have e1 : chosenS l c = -1 := by unfold chosenS; rw [if_pos (.inr (by omega))]
      rw [e1]
      clear e1 hl hn
      go_enter Try.func46, Try.ntmps46
      go_wp2
      go_ret
      exact ⟨rfl, rfl⟩
    · obtain ⟨k, rfl⟩ : ∃ k : Nat, c = (k : Int) := ⟨c.toNat, by omega⟩
      have hk : k < l.length := by omega
      have c2 : (k : Int) < (n : Int) := by omega
      have hc := hl k hk
      have e1 : chosenS l (k : Int) = l[k] := by
        unfold chosenS
        rw [if_neg (by omega)]
        simp [hk]
      obtain ⟨v, hv⟩ : ∃ v, v = l[k] := ⟨_, rfl⟩
      rw [← hv] at e1 hc
      rw [e1]
      clear e1 hl hv hn
      go_enter Try.func46, Try.ntmps46
      go_wp2
      go_ret
      exact ⟨rfl, rfl⟩
set_option maxRecDepth 20000 in
set_option maxHeartbeats 800000 in
theorem crashed_t {w : World} {B kb gm cap p N : Nat} {M : Nat → List Int} {V : Nat → Value} {nx : Nat} (h : BookAt w B kb gm cap p N M V nx) (hB : B ≤ w.heap.size) (hN : N ≤ 65536) (hlen : ∀ i, i < N → (M i).length ≤ 1099511627777) (ca : Option Addr) (cc : Nat) (chs : List Int) (hch : Ints w ca chs) (hcb : 0 < chs.length → ∀ q, ca = some q → q.block < B) :
    Calls Try.prog 41 #[.pointer (some ⟨kb, 0, none⟩), .slice ca chs.length cc] w fun e w' => e = .returned (.tuple #[]) ∧ ∃ V', BookAt w' B kb gm cap p N (crM M chs) V' nx ∧ Chg (fun b => b = gm) w w' := by
  have H : Hid _ := h
  have HCH : Hid _ := hch
  have HCB : Hid _ := hcb
  have HLN : Hid _ := hlen
  have HBw : Hid _ := hB
  obtain ⟨Lc, hLc⟩ : ∃ L : Nat, L = chs.length := ⟨_, rfl⟩
  rw [← hLc]
  have HLc : Hid _ := hLc
  clear h hch hcb hlen hB hLc
  go_enter Try.func41, Try.ntmps41
  go_wp2_with fail
  go_loopw [4, 5, 6] (fun a i _ wr => ∃ (k n : Nat) (V' : Nat → Value), k ≤ N ∧ n = cntM M k ∧ n ≤ k ∧ i = .int .i64 (k : Int) ∧ a = .int .i64 (n : Int) ∧ BookAt wr B kb gm cap p N (fun j => if j < k then crM M chs j else M j) V' nx ∧ Chg (fun b => b = gm) w wr) (fun _ i _ _ => N - (intOf i).toNat)
  case atStart => exact ⟨0, 0, V, Nat.zero_le _, rfl, Nat.le_refl _, rfl, rfl, H.out, Chg.refl _ _⟩
  case round =>
    obtain ⟨k, n, V', hk, hn, hnk, rfl, rfl, hbk, hcg⟩ := hrel
    have c1 := hbk.k1
    have hk0 : (0 : Int) ≤ (k : Int) := by omega
    have hkw : IntKind.i64.wrap ((k : Int) + 1) = ((k + 1 : Nat) : Int) := by rw [IntKind.wrap_i64]; omega
    have hnw : IntKind.i64.wrap ((n : Int) + 1) = ((n + 1 : Nat) : Int) := by rw [IntKind.wrap_i64]; omega
    have HCG : Hid _ := hcg
    have HNN : Hid _ := hn
    by_cases hlt : k < N
    · have hlti : (k : Int) < (N : Int) := by omega
      have cv := hbk.cell k hlt
      obtain ⟨gr, cr, hv, hgB, hgs, hcl⟩ := hbk.row k hlt
      have eM : (fun j => if j < k then crM M chs j else M j) k = M k := by simp
      simp only [Nat.lt_irrefl, if_false] at hv hcl
      obtain ⟨ln, hln⟩ : ∃ n, n = (M k).length := ⟨_, rfl⟩
      rw [hv, ← hln] at cv
      have HCL : Hid _ := hcl
      have HBK : Hid _ := hbk
      have HLL : Hid _ := hln
      have hlb : ln ≤ 1099511627777 := by rw [hln]; exact HLN.out k hlt
      clear hv hgB hcl hbk hcg hn hln
      by_cases h1 : ln = 1
      · subst h1
        go_wp2
        go_roundw
        case rel =>
          have e9 : (fun j => if j < k + 1 then crM M chs j else M j) = (fun j => if j < k then crM M chs j else M j) := by
            funext j
            by_cases ej : j = k
            · subst ej
              simp [crM, HLL.out.symm]
            · by_cases e3 : j < k
              · simp [e3, show j < k + 1 by omega]
              · simp [e3, show ¬ j < k + 1 by omega]
          exact ⟨k + 1, n, V', by omega, by rw [cntM_succ, if_pos HLL.out.symm, HNN.out]; rfl, by omega, rfl, rfl, by rw [e9]; exact HBK.out, HCG.out⟩
        case measure => simp [intOf]; omega
      · have h1i : ¬ ((ln : Int) = 1) := by omega
        have h1b : ((ln : Int) == 1) = false := by simpa using h1i
        have hstep : ∀ z, z = chosenS (M k) (chs.getD n 0) → ∃ V'', BookAt ((wr.setCell ⟨gm, k, none⟩ (.slice (some ⟨wr.heap.size, 0, none⟩) 1 1)).alloc (.cells #[.int .i64 z] 3)).drew B kb gm cap p N (fun j => if j < k + 1 then crM M chs j else M j) V'' nx ∧ Chg (fun b => b = gm) w ((wr.setCell ⟨gm, k, none⟩ (.slice (some ⟨wr.heap.size, 0, none⟩) 1 1)).alloc (.cells #[.int .i64 z] 3)).drew := by
          intro z hz
          obtain ⟨h9, h10⟩ := BookAt.single HBK.out (Nat.le_trans HBw.out (Chg.size HCG.out)) k hlt z
          refine ⟨upd V' k (.slice (some ⟨wr.heap.size, 0, none⟩) 1 1), ?_, Chg.trans HCG.out h10 (fun b hb => .inl hb)⟩
          have e9 : (fun j => if j < k + 1 then crM M chs j else M j) = upd (fun j => if j < k then crM M chs j else M j) k [z] := by
            funext j
            by_cases ej : j = k
            · subst ej
              rw [upd_same, if_pos (by omega)]
              unfold crM
              rw [if_neg (by rw [← HLL.out]; exact h1), ← HNN.out, hz]
            · rw [upd_other _ ej]
              by_cases e3 : j < k
              · simp [e3, show j < k + 1 by omega]
              · simp [e3, show ¬ j < k + 1 by omega]
          rw [e9]
          exact h9
        have HST : Hid _ := hstep
        have HCN : Hid (n + 1 = cntM M (k + 1)) := by unfold Hid; rw [cntM_succ, if_neg (by rw [← HLL.out]; exact h1), HNN.out]
        have hg9 : w.heap.size ≤ wr.heap.size := Chg.size HCG.out
        obtain ⟨cur, hcur, -⟩ := BookAt.hm HBK.out
        have hf := frozen_of_row wr gm k _ _ hcur
        have hkbl := (Array.getElem?_eq_some_iff.1 (BookAt.hk HBK.out)).1
        have hkg : kb ≠ gm := fun e => by
          have := BookAt.hk HBK.out
          rw [e, hcur] at this
          simp only [Option.some.injEq, Obj.cells.injEq] at this
          exact absurd this.2.1 (by decide)
        have hgml : gm < wr.heap.size := (Array.getElem?_eq_some_iff.1 hcur).1
        have hgmn : ¬ gm = wr.heap.size := by omega
        have hfA : ∀ o : Obj, (wr.alloc o).frozen? ⟨gm, k, none⟩ = false := fun o => by rw [← hf]; exact World.frozen?_of_block ((al (Below.refl _ _) o).block gm hgml)
        clear hstep eM hcur
        by_cases h2 : n < Lc
        · have h2i : (n : Int) < (Lc : Int) := by omega
          have hn0 : (0 : Int) ≤ (n : Int) := by omega
          obtain ⟨cb, co, rfl, hcell0⟩ := HCH.out n (by rw [← HLc.out]; exact h2)
          have hcell : wr.cell? ⟨cb, co + n, none⟩ = some (.int .i64 (chs[n]'(by rw [← HLc.out]; exact h2))) := by
            rw [← hcell0]
            refine World.cell?_of_block (Chg.block HCG.out cb (World.block_lt_of_cell? w _ hcell0) (fun e => ?_))
            subst e
            have h8 := HCB.out (by rw [← HLc.out]; omega) _ rfl
            have h9 := BookAt.bg H.out
            simp at h8
            omega
          obtain ⟨c, hc⟩ : ∃ c, c = chs[n]'(by rw [← HLc.out]; exact h2) := ⟨_, rfl⟩
          have hgd : chs.getD n 0 = c := by rw [hc]; simp [List.getD, List.getElem?_eq_getElem (show n < chs.length by rw [← HLc.out]; exact h2)]
          rw [← hc] at hcell
          obtain ⟨z, hz⟩ : ∃ z, z = chosenS (M k) c := ⟨_, rfl⟩
          have HCS : Hid (∀ u, Below wr.heap.size wr u → Calls Try.prog 46 #[.slice (some ⟨gr, 0, none⟩) ln cr, .int .i64 c] u fun e w' => e = .returned (.int .i64 z) ∧ w' = u) := fun u hu => by rw [hz]; exact chosen_t gr ln cr (M k) c u HLL.out (fun j hj => (hu.cell (p := ⟨gr, j, none⟩) hgs).trans (HCL.out j hj))
          have HST2 : Hid _ := HST.out z (by rw [hgd]; exact hz)
          clear hc hgd hcell0 hz HST
          have HST : Hid _ := HST2.out
          clear HST2
          go_wp2_with fail
          refine wp_region_noPanic ?_
          refine wp_region_held_drew (S := (fun u => u.cell? ⟨kb, 1, none⟩ = some (.slice (some ⟨gm, 0, none⟩) N cap))) (by kernel_rfl) (by first | exact c1 | (go_simp; exact c1) | (go_simp)) (fun hHeld => ?_)
          refine take_at (i := 0) 35 (v := ?_) rfl rfl (by kernel_rfl) (by kernel_rfl) (by kernel_rfl) (fun _ _ _ h => h) (by rfl) ?_ hHeld ?_
          rotate_left
          · (intro w hSw; (try dsimp only at hSw); go_simp; try with_reducible rfl)
          simp only [Act.put, List.setIfInBounds_toArray, List.set_cons_zero, List.set_cons_succ]
          refine take_at (i := 1) 36 (v := ?_) rfl rfl (by kernel_rfl) (by kernel_rfl) (by kernel_rfl) (fun _ _ _ h => h) (by rfl) ?_ hHeld ?_
          rotate_left
          · (intro w hSw; (try dsimp only at hSw); go_simp; try with_reducible rfl)
          simp only [Act.put, List.setIfInBounds_toArray, List.set_cons_zero, List.set_cons_succ]
          refine take_at (i := 2) 37 (v := ?_) rfl rfl (by kernel_rfl) (by kernel_rfl) (by kernel_rfl) (fun _ _ _ h => h) (by rfl) ?_ hHeld ?_
          rotate_left
          · (intro w hSw; (try dsimp only at hSw); go_simp; try with_reducible rfl)
          simp only [Act.put, List.setIfInBounds_toArray, List.set_cons_zero, List.set_cons_succ]
          refine take_at (i := 3) 38 (v := ?_) rfl rfl (by kernel_rfl) (by kernel_rfl) (by kernel_rfl) (fun _ _ _ h => h) (by rfl) ?_ hHeld ?_
          rotate_left
          · (intro w hSw; (try dsimp only at hSw); go_simp; try with_reducible rfl)
          simp only [Act.put, List.setIfInBounds_toArray, List.set_cons_zero, List.set_cons_succ]
          refine take_at (i := 4) 39 (v := ?_) rfl rfl (by kernel_rfl) (by kernel_rfl) (by kernel_rfl) (fun _ _ _ h => h) (by rfl) ?_ hHeld ?_
          rotate_left
          · (intro w hSw; (try dsimp only at hSw); go_simp; try with_reducible rfl)
          simp only [Act.put, List.setIfInBounds_toArray, List.set_cons_zero, List.set_cons_succ]
          refine take_at (i := 5) 40 (v := ?_) rfl rfl (by kernel_rfl) (by kernel_rfl) (by kernel_rfl) (fun _ _ _ h => h) (by rfl) ?_ hHeld ?_
          rotate_left
          · (intro w hSw; (try dsimp only at hSw); go_simp; try with_reducible rfl)
          simp only [Act.put, List.setIfInBounds_toArray, List.set_cons_zero, List.set_cons_succ]
          refine take_at (i := 6) 41 (v := ?_) rfl rfl (by kernel_rfl) (by kernel_rfl) (by kernel_rfl) (fun _ _ _ h => h) (by rfl) ?_ hHeld ?_
          rotate_left
          · (intro w hSw; (try dsimp only at hSw); go_simp; try with_reducible rfl)
          simp only [Act.put, List.setIfInBounds_toArray, List.set_cons_zero, List.set_cons_succ]
          refine take_at (i := 7) 42 (v := ?_) rfl rfl (by kernel_rfl) (by kernel_rfl) (by kernel_rfl) (fun _ _ _ h => h) (by rfl) ?_ hHeld ?_
          rotate_left
          · (intro w hSw; (try dsimp only at hSw); go_simp; try with_reducible rfl)
          simp only [Act.put, List.setIfInBounds_toArray, List.set_cons_zero, List.set_cons_succ]
          refine take_at (i := 8) 43 (v := ?_) rfl rfl (by kernel_rfl) (by kernel_rfl) (by kernel_rfl) (fun _ _ _ h => h) (by rfl) ?_ hHeld ?_
          rotate_left
          · (intro w hSw; (try dsimp only at hSw); go_simp; try with_reducible rfl)
          simp only [Act.put, List.setIfInBounds_toArray, List.set_cons_zero, List.set_cons_succ]
          refine take_at (i := 9) 44 (v := ?_) rfl rfl (by kernel_rfl) (by kernel_rfl) (by kernel_rfl) (fun _ _ _ h => h) (by rfl) ?_ hHeld ?_
          rotate_left
          · (intro w hSw; (try dsimp only at hSw); go_simp; try with_reducible rfl)
          simp only [Act.put, List.setIfInBounds_toArray, List.set_cons_zero, List.set_cons_succ]
          refine take_at (i := 10) 45 (v := ?_) rfl rfl (by kernel_rfl) (by kernel_rfl) (by kernel_rfl) (fun _ _ _ h => h) (by rfl) ?_ hHeld ?_
          rotate_left
          · (intro w hSw; (try dsimp only at hSw); go_simp; try with_reducible rfl)
          simp only [Act.put, List.setIfInBounds_toArray, List.set_cons_zero, List.set_cons_succ]
          refine take_at (i := 12) 47 (v := ?_) rfl rfl (by kernel_rfl) (by kernel_rfl) (by kernel_rfl) (fun _ _ _ h => h) (by rfl) ?_ hHeld ?_
          rotate_left
          · (intro w hSw; (try dsimp only at hSw); go_simp; try with_reducible rfl)
          simp only [Act.put, List.setIfInBounds_toArray, List.set_cons_zero, List.set_cons_succ]
          refine val_at (i := 11) 46 (v := ?_) rfl rfl (by kernel_rfl) (by rfl) ?_ ?_ ?_
          rotate_left
          · (go_simp; try with_reducible rfl)
          · (first | exact c1 | (go_simp; exact c1) | (go_simp))
          intro hHeld2
          clear hHeld
          have hHeld := hHeld2
          clear hHeld2
          simp only [Act.put, List.setIfInBounds_toArray, List.set_cons_zero, List.set_cons_succ]
          refine run_at (i := 13) rfl (by kernel_rfl) (by rfl) (fun K hK => ?_)
          simp only [List.getElem_toArray, List.getElem_cons_zero, List.getElem_cons_succ]
          go_simp
          (go_at_call 46; refine (HCS.out _ (Below.refl _ _).drew).mono ?_; rintro e w8 ⟨rfl, hq8⟩; have hq8 := hq8.symm; subst hq8)
          go_wp2_with fail
          refine hK.out _ _ (by first | exact c1 | (go_simp; exact c1) | (go_simp)) ?_
          clear hK K
          intro hHeld2
          clear hHeld
          have hHeld := hHeld2
          clear hHeld2
          try simp only [Act.put, List.setIfInBounds_toArray, List.set_cons_zero, List.set_cons_succ]
          refine run_at (i := 14) rfl (by kernel_rfl) (by rfl) (fun K hK => ?_)
          simp only [List.getElem_toArray, List.getElem_cons_zero, List.getElem_cons_succ]
          go_simp
          go_wp2_with fail
          refine hK.out _ _ (by first | exact c1 | (go_simp; exact c1) | (go_simp)) ?_
          clear hK K
          intro hHeld2
          clear hHeld
          have hHeld := hHeld2
          clear hHeld2
          try simp only [Act.put, List.setIfInBounds_toArray, List.set_cons_zero, List.set_cons_succ]
          refine take_at (i := 15) 50 (v := ?_) rfl rfl (by kernel_rfl) (by kernel_rfl) (by kernel_rfl) (fun _ _ _ h => h) (by rfl) ?_ hHeld ?_
          rotate_left
          · (intro w hSw; (try dsimp only at hSw); go_simp; try with_reducible rfl)
          simp only [Act.put, List.setIfInBounds_toArray, List.set_cons_zero, List.set_cons_succ]
          refine run_at (i := 16) rfl (by kernel_rfl) (by rfl) (fun K hK => ?_)
          simp only [List.getElem_toArray, List.getElem_cons_zero, List.getElem_cons_succ]
          go_simp
          go_wp2_with fail
          refine hK.out _ _ (by first | exact c1 | (go_simp; exact c1) | (go_simp)) ?_
          clear hK K
          intro hHeld2
          clear hHeld
          have hHeld := hHeld2
          clear hHeld2
          try simp only [Act.put, List.setIfInBounds_toArray, List.set_cons_zero, List.set_cons_succ]
          refine wpAnyH_done (by kernel_rfl) ?_ _
          refine NoPanic.normal ?_
          go_wp2
          go_roundw
          case rel =>
            obtain ⟨V'', h9, h10⟩ := HST.out
            exact ⟨k + 1, n + 1, V'', by omega, HCN.out, by omega, rfl, rfl, h9, h10⟩
          case measure => simp [intOf]; omega
        · have h2i : ¬ (n : Int) < (Lc : Int) := by omega
          obtain ⟨z, hz⟩ : ∃ z, z = chosenS (M k) 0 := ⟨_, rfl⟩
          have hgd : chs.getD n 0 = 0 := by simp [List.getD, List.getElem?_eq_none (show chs.length ≤ n by rw [← HLc.out]; omega)]
          have HCS : Hid (∀ u, Below wr.heap.size wr u → Calls Try.prog 46 #[.slice (some ⟨gr, 0, none⟩) ln cr, .int .i64 0] u fun e w' => e = .returned (.int .i64 z) ∧ w' = u) := fun u hu => by rw [hz]; exact chosen_t gr ln cr (M k) 0 u HLL.out (fun j hj => (hu.cell (p := ⟨gr, j, none⟩) hgs).trans (HCL.out j hj))
          have HST2 : Hid _ := HST.out z (by rw [hgd]; exact hz)
          clear hgd hz HST
          have HST : Hid _ := HST2.out
          clear HST2
          go_wp2_with fail
          refine wp_region_noPanic ?_
          refine wp_region_held_drew (S := (fun u => u.cell? ⟨kb, 1, none⟩ = some (.slice (some ⟨gm, 0, none⟩) N cap))) (by kernel_rfl) (by first | exact c1 | (go_simp; exact c1) | (go_simp)) (fun hHeld => ?_)
          refine take_at (i := 0) 35 (v := ?_) rfl rfl (by kernel_rfl) (by kernel_rfl) (by kernel_rfl) (fun _ _ _ h => h) (by rfl) ?_ hHeld ?_
          rotate_left
          · (intro w hSw; (try dsimp only at hSw); go_simp; try with_reducible rfl)
          simp only [Act.put, List.setIfInBounds_toArray, List.set_cons_zero, List.set_cons_succ]
          refine take_at (i := 1) 36 (v := ?_) rfl rfl (by kernel_rfl) (by kernel_rfl) (by kernel_rfl) (fun _ _ _ h => h) (by rfl) ?_ hHeld ?_
          rotate_left
          · (intro w hSw; (try dsimp only at hSw); go_simp; try with_reducible rfl)
          simp only [Act.put, List.setIfInBounds_toArray, List.set_cons_zero, List.set_cons_succ]
          refine take_at (i := 2) 37 (v := ?_) rfl rfl (by kernel_rfl) (by kernel_rfl) (by kernel_rfl) (fun _ _ _ h => h) (by rfl) ?_ hHeld ?_
          rotate_left
          · (intro w hSw; (try dsimp only at hSw); go_simp; try with_reducible rfl)
          simp only [Act.put, List.setIfInBounds_toArray, List.set_cons_zero, List.set_cons_succ]
          refine take_at (i := 3) 38 (v := ?_) rfl rfl (by kernel_rfl) (by kernel_rfl) (by kernel_rfl) (fun _ _ _ h => h) (by rfl) ?_ hHeld ?_
          rotate_left
          · (intro w hSw; (try dsimp only at hSw); go_simp; try with_reducible rfl)
          simp only [Act.put, List.setIfInBounds_toArray, List.set_cons_zero, List.set_cons_succ]
          refine take_at (i := 4) 39 (v := ?_) rfl rfl (by kernel_rfl) (by kernel_rfl) (by kernel_rfl) (fun _ _ _ h => h) (by rfl) ?_ hHeld ?_
          rotate_left
          · (intro w hSw; (try dsimp only at hSw); go_simp; try with_reducible rfl)
          simp only [Act.put, List.setIfInBounds_toArray, List.set_cons_zero, List.set_cons_succ]
          refine take_at (i := 5) 40 (v := ?_) rfl rfl (by kernel_rfl) (by kernel_rfl) (by kernel_rfl) (fun _ _ _ h => h) (by rfl) ?_ hHeld ?_
          rotate_left
          · (intro w hSw; (try dsimp only at hSw); go_simp; try with_reducible rfl)
          simp only [Act.put, List.setIfInBounds_toArray, List.set_cons_zero, List.set_cons_succ]
          refine take_at (i := 6) 41 (v := ?_) rfl rfl (by kernel_rfl) (by kernel_rfl) (by kernel_rfl) (fun _ _ _ h => h) (by rfl) ?_ hHeld ?_
          rotate_left
          · (intro w hSw; (try dsimp only at hSw); go_simp; try with_reducible rfl)
          simp only [Act.put, List.setIfInBounds_toArray, List.set_cons_zero, List.set_cons_succ]
          refine take_at (i := 7) 42 (v := ?_) rfl rfl (by kernel_rfl) (by kernel_rfl) (by kernel_rfl) (fun _ _ _ h => h) (by rfl) ?_ hHeld ?_
          rotate_left
          · (intro w hSw; (try dsimp only at hSw); go_simp; try with_reducible rfl)
          simp only [Act.put, List.setIfInBounds_toArray, List.set_cons_zero, List.set_cons_succ]
          refine take_at (i := 8) 43 (v := ?_) rfl rfl (by kernel_rfl) (by kernel_rfl) (by kernel_rfl) (fun _ _ _ h => h) (by rfl) ?_ hHeld ?_
          rotate_left
          · (intro w hSw; (try dsimp only at hSw); go_simp; try with_reducible rfl)
          simp only [Act.put, List.setIfInBounds_toArray, List.set_cons_zero, List.set_cons_succ]
          refine take_at (i := 9) 44 (v := ?_) rfl rfl (by kernel_rfl) (by kernel_rfl) (by kernel_rfl) (fun _ _ _ h => h) (by rfl) ?_ hHeld ?_
          rotate_left
          · (intro w hSw; (try dsimp only at hSw); go_simp; try with_reducible rfl)
          simp only [Act.put, List.setIfInBounds_toArray, List.set_cons_zero, List.set_cons_succ]
          refine take_at (i := 10) 45 (v := ?_) rfl rfl (by kernel_rfl) (by kernel_rfl) (by kernel_rfl) (fun _ _ _ h => h) (by rfl) ?_ hHeld ?_
          rotate_left
          · (intro w hSw; (try dsimp only at hSw); go_simp; try with_reducible rfl)
          simp only [Act.put, List.setIfInBounds_toArray, List.set_cons_zero, List.set_cons_succ]
          refine take_at (i := 12) 47 (v := ?_) rfl rfl (by kernel_rfl) (by kernel_rfl) (by kernel_rfl) (fun _ _ _ h => h) (by rfl) ?_ hHeld ?_
          rotate_left
          · (intro w hSw; (try dsimp only at hSw); go_simp; try with_reducible rfl)
          simp only [Act.put, List.setIfInBounds_toArray, List.set_cons_zero, List.set_cons_succ]
          refine val_at (i := 11) 46 (v := ?_) rfl rfl (by kernel_rfl) (by rfl) ?_ ?_ ?_
          rotate_left
          · (go_simp; try with_reducible rfl)
          · (first | exact c1 | (go_simp; exact c1) | (go_simp))
          intro hHeld2
          clear hHeld
          have hHeld := hHeld2
          clear hHeld2
          simp only [Act.put, List.setIfInBounds_toArray, List.set_cons_zero, List.set_cons_succ]
          refine run_at (i := 13) rfl (by kernel_rfl) (by rfl) (fun K hK => ?_)
          simp only [List.getElem_toArray, List.getElem_cons_zero, List.getElem_cons_succ]
          go_simp
          (go_at_call 46; refine (HCS.out _ (Below.refl _ _).drew).mono ?_; rintro e w8 ⟨rfl, hq8⟩; have hq8 := hq8.symm; subst hq8)
          go_wp2_with fail
          refine hK.out _ _ (by first | exact c1 | (go_simp; exact c1) | (go_simp)) ?_
          clear hK K
          intro hHeld2
          clear hHeld
          have hHeld := hHeld2
          clear hHeld2
          try simp only [Act.put, List.setIfInBounds_toArray, List.set_cons_zero, List.set_cons_succ]
          refine run_at (i := 14) rfl (by kernel_rfl) (by rfl) (fun K hK => ?_)
          simp only [List.getElem_toArray, List.getElem_cons_zero, List.getElem_cons_succ]
          go_simp
          go_wp2_with fail
          refine hK.out _ _ (by first | exact c1 | (go_simp; exact c1) | (go_simp)) ?_
          clear hK K
          intro hHeld2
          clear hHeld
          have hHeld := hHeld2
          clear hHeld2
          try simp only [Act.put, List.setIfInBounds_toArray, List.set_cons_zero, List.set_cons_succ]
          refine take_at (i := 15) 50 (v := ?_) rfl rfl (by kernel_rfl) (by kernel_rfl) (by kernel_rfl) (fun _ _ _ h => h) (by rfl) ?_ hHeld ?_
          rotate_left
          · (intro w hSw; (try dsimp only at hSw); go_simp; try with_reducible rfl)
          simp only [Act.put, List.setIfInBounds_toArray, List.set_cons_zero, List.set_cons_succ]
          refine run_at (i := 16) rfl (by kernel_rfl) (by rfl) (fun K hK => ?_)
          simp only [List.getElem_toArray, List.getElem_cons_zero, List.getElem_cons_succ]
          go_simp
          go_wp2_with fail
          refine hK.out _ _ (by first | exact c1 | (go_simp; exact c1) | (go_simp)) ?_
          clear hK K
          intro hHeld2
          clear hHeld
          have hHeld := hHeld2
          clear hHeld2
          try simp only [Act.put, List.setIfInBounds_toArray, List.set_cons_zero, List.set_cons_succ]
          refine wpAnyH_done (by kernel_rfl) ?_ _
          refine NoPanic.normal ?_
          go_wp2
          go_roundw
          case rel =>
            obtain ⟨V'', h9, h10⟩ := HST.out
            exact ⟨k + 1, n + 1, V'', by omega, HCN.out, by omega, rfl, rfl, h9, h10⟩
          case measure => simp [intOf]; omega
    · have hlti : ¬ (k : Int) < (N : Int) := by omega
      obtain rfl : k = N := by omega
      have HBK : Hid (BookAt wr B kb gm cap p k (crM M chs) V' nx) := by
        refine ⟨hbk.hk, hbk.hm, fun i hi => ?_, hbk.apart, fun i hi => ?_, hbk.bk, hbk.bg⟩
        · have := hbk.rows i hi
          simpa [hi] using this
        · have := hbk.ne i hi
          simpa [hi] using this
      clear hbk
      go_wp2
      go_end0
      exact ⟨rfl, ⟨V', HBK.out⟩, HCG.out⟩
end Go.Proofs.Ytgdkiejlggiakab
