import Derived.Test.YtdoikcolkbjnfaaGreatRBa
import Derived.Test.YtdoikcolkbjnfaaGreatCuP
namespace Go.Proofs.YtdoikcolkbjnfaaGreat
set_option linter.unusedVariables false
set_option linter.unusedSimpArgs false
open Go.RowKit
/-- a box of the document in memory -/
structure Rx (w : World) (q : Nat) (v : Value) (E : List Dc) (S : List Seg) : Prop where
  hp : w.heap[q]? = some (.cells #[v] tRb (0, 0))
  row : OwnG KL w 0 v E
  len : E.length = S.length
  n0 : 1 ≤ S.length
  n1 : S.length ≤ 64
  els : ∀ (i : Nat) d xs, E[i]? = some d → S[i]? = some xs → ByV w d xs ∧ xs.length ≤ 1024
def footR (q : Nat) (v : Value) (E : List Dc) (b : Nat) : Prop := b = q ∨ v.ownBlock = some b ∨ ∃ d ∈ E, ∃ ad, d.a = some ad ∧ ad.block = b
section
variable {w w' : World} {q : Nat} {v : Value} {E : List Dc} {S : List Seg}
theorem Rx.mem (h : Rx w q v E S) {d : Dc} (hd : d ∈ E) : ∃ xs, ByV w d xs := by
  obtain ⟨i, hi, rfl⟩ := List.mem_iff_getElem.1 hd
  have hS : i < S.length := by rw [← h.len]; exact hi
  exact ⟨_, (h.els i E[i] S[i] (List.getElem?_eq_getElem hi) (List.getElem?_eq_getElem hS)).1⟩
theorem Rx.lt (h : Rx w q v E S) {b : Nat} (hb : footR q v E b) : b < w.heap.size := by
  rcases hb with rfl | hb | ⟨d, hd, ad, ha, rfl⟩
  · exact (Array.getElem?_eq_some_iff.1 h.hp).1
  · exact (h.row.lt' hb).2
  · obtain ⟨xs, hx⟩ := h.mem hd
    exact hx.lt ha
theorem Rx.kept (h : Rx w q v E S) (hk : ∀ b, footR q v E b → w'.heap[b]? = w.heap[b]?) : Rx w' q v E S :=
  ⟨(hk q (.inl rfl)).trans h.hp, h.row.kept (fun b e => hk b (.inr (.inl e))), h.len, h.n0, h.n1, fun i d xs hd hx => by
    obtain ⟨h1, h2⟩ := h.els i d xs hd hx
    exact ⟨h1.kept (fun ad ha => hk _ (.inr (.inr ⟨d, List.mem_of_getElem? hd, ad, ha, rfl⟩))), h2⟩⟩
theorem Rx.below (h : Rx w q v E S) (hb : Below w.heap.size w w') : Rx w' q v E S := h.kept (fun b hf => hb.block b (h.lt hf))
theorem Rx.c0 (h : Rx w q v E S) : w.cell? ⟨q, 0, none⟩ = some v := by rw [cell_of_row _ _ _ _ _ _ h.hp]; rfl
theorem Rx.fz (h : Rx w q v E S) (i : Nat) : w.frozen? ⟨q, i, none⟩ = false := by simp [World.frozen?, h.hp]
theorem Rx.val (h : Rx w q v E S) : ∃ g c, v = .slice (some ⟨g, 0, none⟩) S.length c := by
  obtain ⟨g, c, hv, -⟩ := h.row.one (by rw [h.len]; exact h.n0)
  rw [h.len] at hv
  exact ⟨g, c, hv⟩
theorem Rx.rowL {g c : Nat} (h : Rx w q (.slice (some ⟨g, 0, none⟩) S.length c) E S) : RowL w (some ⟨g, 0, none⟩) S.length E S :=
  ⟨rfl, h.len, h.n0, h.n1, h.els, by have h9 := h.row; rw [← h.len] at h9; exact OwnG.rd h9⟩
theorem Rx.at_ {g c : Nat} (h : Rx w q (.slice (some ⟨g, 0, none⟩) S.length c) E S) {k : Nat} (hk : k < S.length) : ∃ d xs, E[k]? = some d ∧ S[k]? = some xs ∧ w.cell? ⟨g, k, none⟩ = some d.v ∧ ByV w d xs ∧ xs.length ≤ 1024 := by
  have := h.rowL.at_ hk
  simpa using this
theorem Rx.small (h : Rx w q v E S) : ∀ xs ∈ S, xs.length ≤ 1024 := fun xs hx => by
  obtain ⟨i, hi, rfl⟩ := List.mem_iff_getElem.1 hx
  have hV : i < E.length := by rw [h.len]; exact hi
  exact (h.els i E[i] S[i] (List.getElem?_eq_getElem hV) (List.getElem?_eq_getElem hi)).2
end
section
variable {w w' : World} {q : Nat} {E : List Dc} {S : List Seg} {g c : Nat}
set_option maxRecDepth 20000 in
set_option maxHeartbeats 1600000 in
theorem rnew_no (r : Int) (hr : ¬ (1 ≤ r ∧ r ≤ 64)) : Calls Tryz.prog 75 #[.int .i64 r] w fun e w' => e = .returned (.tuple #[.pointer none, .int .i64 1]) ∧ w' = w := by
  by_cases h1 : r < 1
  · go_enter Tryz.func75, Tryz.ntmps75
    go_wp2
    go_ret2
    exact ⟨rfl, rfl⟩
  · have h2 : 64 < r := by omega
    go_enter Tryz.func75, Tryz.ntmps75
    go_wp2
    go_ret2
    exact ⟨rfl, rfl⟩
theorem flat_rep (r : Nat) : KL.flat (List.replicate r Dc.z) = List.replicate r (Value.slice none 0 0) := by
  unfold Kd.flat
  induction r with
  | zero => rfl
  | succ r ih => rw [List.replicate_succ, List.flatMap_cons, ih, List.replicate_succ]; rfl
theorem make_lists (n : Nat) (hn : n ≤ 65536) (w : World) : (Instr.makeSlice 22 (.int .i64 (n : Int)) (.int .i64 (n : Int))).run Tryz.prog w = .ok (.slice (some ⟨w.heap.size, 0, none⟩) n n) (w.alloc (.cells (List.replicate n (Value.slice none 0 0)).toArray 34)) := by
  obtain ⟨i0, hi, hz0, hz1, hz2⟩ := info_parts KL.hi
  have hmk := run_make (P := Tryz.prog) w 22 34 i0 (.slice none 0 0) Tryz.underlying22 hi hz0 .i64 .i64 (n : Int) (n : Int) (by omega) (Int.le_refl _) (by rw [hz2]; show ((24 : Nat) : Int) * (n : Int) ≤ _; omega) (by omega)
  rw [hmk, hz1]
  simp only [Int.toNat_natCast]
  have e : madeCells (Value.cells (.slice none 0 0)) (n * 1) = (List.replicate n (Value.slice none 0 0)).toArray := by
    apply Array.ext_getElem?
    intro j
    by_cases hj : j < n
    · simp [madeCells, Value.cells, hj, Nat.mod_one]
    · rw [Array.getElem?_eq_none (by simp [madeCells]; omega), Array.getElem?_eq_none (by simp; omega)]
  first | rw [e] | (rw [show (n * 1) = n by omega] at e; rw [e])
theorem own_rep {w : World} {g B r : Nat} (hB : B ≤ g) (h : w.heap[g]? = some (.cells (List.replicate r (Value.slice none 0 0)).toArray 34 (0, 0))) (hr : r ≤ 65536) : OwnG KL w B (.slice (some ⟨g, 0, none⟩) r r) (List.replicate r Dc.z) := by
  refine ⟨by rw [Kd.flat_len], .inr ⟨g, r, _, by rw [List.length_replicate], hB, h, by simp, by simp only [maxLen]; omega, by simp, ?_⟩⟩
  rw [flat_rep]
  simp
set_option maxRecDepth 20000 in
set_option maxHeartbeats 1600000 in
theorem rnew_t (r : Nat) (h0 : 1 ≤ r) (h1 : r ≤ 64) : Calls Tryz.prog 75 #[.int .i64 (r : Int)] w fun e w' => e = .returned (.tuple #[.pointer (some ⟨w.heap.size + 1, 0, none⟩), .int .i64 0]) ∧ Rx w' (w.heap.size + 1) (.slice (some ⟨w.heap.size, 0, none⟩) r r) (List.replicate r Dc.z) (List.replicate r []) ∧ Below w.heap.size w w' := by
  have h2 : ¬ (r : Int) < 1 := by omega
  have h3 : ¬ 64 < (r : Int) := by omega
  go_enter Tryz.func75, Tryz.ntmps75
  have hmk := fun w => make_lists r (by omega) w
  go_wp2
  go_ret2
  refine ⟨rfl, ⟨?_, (own_rep (Nat.zero_le _) (heap_alloc_new w _) (by omega)).below (al (Below.refl _ _) _), by simp, by simpa using h0, by simpa using h1, fun i d xs hd hx => ?_⟩, al (al (Below.refl _ _) _) _⟩
  · have h9 := heap_alloc_new (w.alloc (.cells (List.replicate r (Value.slice none 0 0)).toArray 34)) (.cells #[.slice (some ⟨w.heap.size, 0, none⟩) r r] tRb)
    rw [show (w.alloc (.cells (List.replicate r (Value.slice none 0 0)).toArray 34)).heap.size = w.heap.size + 1 by simp] at h9
    exact h9
  · rw [List.getElem?_replicate] at hd hx
    split at hd
    · rename_i hi
      rw [if_pos hi] at hx
      cases hd
      cases hx
      exact ⟨ByV.none _, by simp⟩
    · cases hd
theorem foot_new {r a : Nat} {b : Nat} (hb : footR (a + 1) (.slice (some ⟨a, 0, none⟩) r r) (List.replicate r Dc.z) b) : a ≤ b := by
  rcases hb with rfl | hb | ⟨d, hd, ad, ha, -⟩
  · omega
  · cases hb; exact Nat.le_refl _
  · rw [List.eq_of_mem_replicate hd] at ha
    cases ha
set_option maxRecDepth 20000 in
set_option maxHeartbeats 1600000 in
theorem rcount_no : Calls Tryz.prog 76 #[.pointer none] w fun e w' => e = .returned (iv 0) ∧ w' = w := by
  go_enter Tryz.func76, Tryz.ntmps76
  go_wp2
  go_ret
  exact ⟨rfl, rfl⟩
set_option maxRecDepth 20000 in
set_option maxHeartbeats 1600000 in
theorem rcount_t (h : Rx w q (.slice (some ⟨g, 0, none⟩) S.length c) E S) : Calls Tryz.prog 76 #[.pointer (some ⟨q, 0, none⟩)] w fun e w' => e = .returned (iv S.length) ∧ w' = w := by
  have hc := h.c0
  clear h
  go_enter Tryz.func76, Tryz.ntmps76
  go_wp2
  go_ret
  exact ⟨rfl, rfl⟩
set_option maxRecDepth 20000 in
set_option maxHeartbeats 1600000 in
theorem rwhole_no : Calls Tryz.prog 78 #[.pointer none] w fun e w' => e = .returned (.tuple #[.slice none 0 0, .bool false]) ∧ w' = w := by
  go_enter Tryz.func78, Tryz.ntmps78
  go_wp2
  go_ret2
  exact ⟨rfl, rfl⟩
set_option maxRecDepth 20000 in
set_option maxHeartbeats 3200000 in
theorem rwhole_t (h : Rx w q (.slice (some ⟨g, 0, none⟩) S.length c) E S) : Calls Tryz.prog 78 #[.pointer (some ⟨q, 0, none⟩)] w fun e w' => ∃ u, e = .returned (.tuple #[u, .bool (wholeB (some S))]) ∧ Own w' w.heap.size u (wholeX (some S)) ∧ Below w.heap.size w w' := by
  have HW : Hid _ := h
  have hn1 := h.n1
  have hq := (Array.getElem?_eq_some_iff.1 h.hp).1
  have c0 := h.c0
  clear h
  go_enter Tryz.func78, Tryz.ntmps78
  go_wp2
  go_loopw [4, 5] (fun v j wr => WRel S w v j wr) (fun _ j _ => S.length - (intOf j).toNat)
  case atStart => exact ⟨0, Nat.zero_le _, rfl, World.ownsRow_nil _ _ _ _, fun i x hi => absurd hi (Nat.not_lt_zero _), Below.refl _ _⟩
  case round =>
    obtain ⟨k, hk, rfl, hown, hall, hbw⟩ := hrel
    have HO : Hid (Own wr w.heap.size u4 (S.take k).flatten) := hown
    have HB : Hid _ := hbw
    have HALL : Hid _ := hall
    have c1 := (HW.out.below hbw).c0
    clear hown hbw hall
    by_cases hlt : k < S.length
    · obtain ⟨d, xs, hd, hx, hcs, hby, hxl⟩ := (HW.out.below HB.out).at_ hlt
      have hkN : (k : Int) < (S.length : Int) := by omega
      have hk0 : (0 : Int) ≤ (k : Int) := by omega
      have hkw : IntKind.i64.wrap ((k : Int) + 1) = ((k + 1 : Nat) : Int) := by rw [IntKind.wrap_i64]; omega
      obtain ⟨da, dn, dc⟩ := d
      have hdn := hby.n
      simp only at hdn
      have HDN : Hid _ := hdn
      have HBY : Hid _ := hby
      have HX : Hid _ := hx
      by_cases he : dn = 0
      · subst he
        have HA : Hid (allS S = false) := allS_no (k := k) (by rw [hx, List.eq_nil_of_length_eq_zero hdn.symm])
        clear hx hd hby hdn
        go_wp2
        go_ret2
        have e1 : wholeB (some S) = false := HA.out
        have e2 : wholeX (some S) = [] := by show (if allS S = true then S.flatten else []) = []; rw [HA.out]; rfl
        rw [e1, e2]
        exact ⟨_, rfl, World.ownsRow_nil _ _ _ _, HB.out⟩
      · have HT : Hid _ := take_flat S k xs hx
        have heb : ((dn : Int) == 0) = false := by simp; omega
        have HE : Hid (xs ≠ []) := fun e => he (by rw [hdn, e]; rfl)
        have hfl : (S.take k).flatten.length ≤ 65536 := by
          have h1 := flat_le (S := S.take k) (fun y hy => HW.out.small y (List.mem_of_mem_take hy))
          rw [List.length_take] at h1
          have h2 : min k S.length * 1024 ≤ 64 * 1024 := Nat.mul_le_mul_right _ (by omega)
          omega
        have HSZ : Hid _ := HB.out.size
        subst hdn
        clear hx hd hby he
        go_wp2_with (at_builtin; refine wp_app rfl _ _ rfl w.heap.size u4 (S.take k).flatten xs _ _ rfl HO.out rfl HBY.out.rd HBY.out.nil (by omega) HSZ.out ?_; intro v2 w2 hown2 hg2)
        go_roundw
        case rel =>
          refine ⟨k + 1, hlt, by go_num, by rw [HT.out]; exact hown2, fun i x hi hx => ?_, HB.out.grown hg2 HSZ.out (fun j hj => (World.ownsRow.lt HO.out j hj).1)⟩
          by_cases hik : i = k
          · subst hik
            rw [HX.out] at hx
            cases hx
            exact HE.out
          · exact HALL.out i x (by omega) hx
        case measure => simp [intOf]; omega
    · obtain rfl : k = S.length := by omega
      go_wp2
      go_ret2
      have ha : allS S = true := allS_yes (fun j x hj hx => HALL.out j x hj hx)
      have e1 : wholeB (some S) = true := ha
      have e2 : wholeX (some S) = S.flatten := by show (if allS S = true then S.flatten else []) = S.flatten; rw [ha]; rfl
      rw [e1, e2]
      have h9 := HO.out
      rw [List.take_length] at h9
      exact ⟨_, rfl, h9, HB.out⟩
end
end Go.Proofs.YtdoikcolkbjnfaaGreat
namespace Go.Proofs.YtdoikcolkbjnfaaGreat
set_option linter.unusedVariables false
set_option linter.unusedSimpArgs false
open Go.RowKit
section
variable {w w' : World} {q : Nat} {E : List Dc} {S : List Seg} {g c : Nat}
set_option maxRecDepth 20000 in
set_option maxHeartbeats 1600000 in
theorem rput_no (i : Int) (b : Value) : Calls Tryz.prog 77 #[.pointer none, .int .i64 i, b] w fun e w' => e = .returned (.int .i64 1) ∧ w' = w := by
  go_enter Tryz.func77, Tryz.ntmps77
  go_wp2
  go_ret
  exact ⟨rfl, rfl⟩
set_option maxRecDepth 20000 in
set_option maxHeartbeats 1600000 in
theorem rput_arg (h : Rx w q (.slice (some ⟨g, 0, none⟩) S.length c) E S) (i : Int) (ao : Option Addr) (n cap : Nat) (xs : List UInt8) (hn : n = xs.length) (hno : i < 0 ∨ (S.length : Int) ≤ i ∨ xs.length = 0 ∨ 1024 < xs.length) (hl : n ≤ 140737488355328) :
    Calls Tryz.prog 77 #[.pointer (some ⟨q, 0, none⟩), .int .i64 i, .slice ao n cap] w fun e w' => e = .returned (.int .i64 1) ∧ w' = w := by
  have c0 := h.c0
  clear h
  rw [← hn] at hno
  clear hn
  generalize S.length = N at *
  by_cases h1 : i < 0
  · clear hno
    go_enter Tryz.func77, Tryz.ntmps77
    go_wp2
    go_ret
    exact ⟨rfl, rfl⟩
  · by_cases h2 : (N : Int) ≤ i
    · clear hno
      go_enter Tryz.func77, Tryz.ntmps77
      go_wp2
      go_ret
      exact ⟨rfl, rfl⟩
    · by_cases h3 : n = 0
      · have hx : ((n : Int) == 0) = true := by simp; omega
        clear hno h3
        go_enter Tryz.func77, Tryz.ntmps77
        go_wp2
        go_ret
        exact ⟨rfl, rfl⟩
      · have hx : ((n : Int) == 0) = false := by simp; omega
        have h4 : (1024 : Int) < (n : Int) := by omega
        clear hno h3
        go_enter Tryz.func77, Tryz.ntmps77
        go_wp2
        go_ret
        exact ⟨rfl, rfl⟩
set_option maxRecDepth 20000 in
set_option maxHeartbeats 1600000 in
theorem rput_there (h : Rx w q (.slice (some ⟨g, 0, none⟩) S.length c) E S) (k : Nat) (hk : k < S.length) (ys : Seg) (hy : S[k]? = some ys) (hys : 0 < ys.length) (ao : Option Addr) (n cap : Nat) (xs : List UInt8) (hn : n = xs.length) (h0 : 0 < n) (h1 : n ≤ 1024) (hx : Rd w ao xs) :
    Calls Tryz.prog 77 #[.pointer (some ⟨q, 0, none⟩), .int .i64 (k : Int), .slice ao n cap] w fun e w' => e = .returned (.int .i64 (if ys = xs then 3 else 120)) ∧ Below w.heap.size w w' := by
  have c0 := h.c0
  obtain ⟨d, ys2, hd, hy2, hcs, hby, hyl⟩ := h.at_ hk
  obtain rfl : ys2 = ys := by rw [hy] at hy2; cases hy2; rfl
  obtain ⟨da, dn, dc⟩ := d
  have hdn := hby.n
  simp only at hdn
  have cv1 : ∀ n, (convert 34 9 (.slice da dn dc)).run Tryz.prog (w.drewN n) = .ok (.string ⟨ys2.toArray⟩) (w.drewN n) := fun n => conv_rd' (hby.below (below_drewN w n)).rd dn dc hdn
  have cv2 : ∀ m, (convert 34 9 (.slice ao n cap)).run Tryz.prog (w.drewN m) = .ok (.string ⟨xs.toArray⟩) (w.drewN m) := fun m => conv_rd' (Rd.below hx (below_drewN w m)) n cap hn
  have hk0 : (0 : Int) ≤ (k : Int) := by omega
  have hkI : ¬ (S.length : Int) ≤ (k : Int) := by omega
  have hkL : (k : Int) < (S.length : Int) := by omega
  have hxl : ((n : Int) == 0) = false := by simp; omega
  have hx1 : ¬ (1024 : Int) < (n : Int) := by omega
  have hd0 : (0 : Int) < (dn : Int) := by omega
  clear h hby hx hd hy hy2 hn hdn hk hyl
  generalize S.length = N at *
  by_cases he : ys2 = xs
  · rw [if_pos he]
    subst he
    go_enter Tryz.func77, Tryz.ntmps77
    go_wp2
    go_quiet (fail)
    go_wp2
    go_ret
    exact ⟨rfl, below_drewN _ _⟩
  · rw [if_neg he]
    have hYS : (ys2 == xs) = false := by simp [he]
    go_enter Tryz.func77, Tryz.ntmps77
    go_wp2
    go_quiet (fail)
    go_wp2
    go_ret
    exact ⟨rfl, below_drewN _ _⟩
/-- what the copying keeps -/
def PRel (E : List Dc) (w : World) (v j : Value) (wr : World) : Prop := ∃ k : Nat, k ≤ E.length ∧ j = .int .i64 (k : Int) ∧ OwnG KL wr w.heap.size v (E.take k) ∧ Below w.heap.size w wr
theorem Rx.set (h : Rx w q (.slice (some ⟨g, 0, none⟩) S.length c) E S) (hb : Below w.heap.size w w') {k : Nat} {d : Dc} {xs : Seg} (hx1 : xs.length ≤ 1024) (hd : ByV w' d xs) {v : Value} (hr : OwnG KL w' 0 v (E.set k d)) (hvq : v.ownBlock ≠ some q) (hdq : ∀ ad, d.a = some ad → ad.block ≠ q) :
    Rx (w'.setCell ⟨q, 0, none⟩ v) q v (E.set k d) (S.set k xs) := by
  have h' := h.below hb
  have hoth : ∀ b, b ≠ q → (w'.setCell ⟨q, 0, none⟩ v).heap[b]? = w'.heap[b]? := fun b hb => heap_setCell_other _ _ _ _ hb
  refine ⟨(heap_setCell_same _ _ _ _ _ _ h'.hp).trans rfl, hr.kept (fun b e => hoth b (fun e2 => hvq (by rw [← e2]; exact e))), by rw [List.length_set, List.length_set]; exact h.len, by rw [List.length_set]; exact h.n0, by rw [List.length_set]; exact h.n1, fun i e ys he hy => ?_⟩
  by_cases hi : k = i
  · subst hi
    rw [List.getElem?_set] at he hy
    simp only [if_true] at he hy
    split at he
    · rename_i hk
      rw [if_pos (by rw [← h.len]; exact hk)] at hy
      cases he
      cases hy
      exact ⟨hd.kept (fun ad ha => hoth _ (hdq ad ha)), hx1⟩
    · cases he
  · rw [List.getElem?_set_ne hi] at he hy
    obtain ⟨h1, h2⟩ := h'.els i e ys he hy
    refine ⟨h1.kept (fun ad ha => hoth _ (fun e2 => ?_)), h2⟩
    obtain ⟨cur, fr, h3⟩ := h1.ty ad ha
    rw [e2] at h3
    exact absurd (ty_of h'.hp h3) (by decide)
theorem footR_set {v v' : Value} {k : Nat} {d : Dc} {b : Nat} (hb : footR q v' (E.set k d) b) : footR q v E b ∨ v'.ownBlock = some b ∨ ∃ ad, d.a = some ad ∧ ad.block = b := by
  rcases hb with hb | hb | ⟨e, he, ad, ha, hb⟩
  · exact .inl (.inl hb)
  · exact .inr (.inl hb)
  · rcases List.mem_or_eq_of_mem_set he with h1 | rfl
    · exact .inl (.inr (.inr ⟨e, h1, ad, ha, hb⟩))
    · exact .inr (.inr ⟨ad, ha, hb⟩)
theorem row_after {wr w4 : World} {B : Nat} {v : Value} {E : List Dc} (h : OwnG KL wr B v E) (hg : (wr.alloc (.cells #[] 5)).grownBy w4 (some wr.heap.size)) : OwnG KL w4 B v E :=
  h.kept (fun b e => (hg.block b (Nat.lt_of_lt_of_le (h.lt' e).2 (by simp)) (fun e2 => by have := (h.lt' e).2; cases e2; omega)).trans (Below.heap_alloc _ _ _ (h.lt' e).2))
theorem OwnG.cell1 {w : World} {B g n c : Nat} {E : List Dc} (h : OwnG KL w B (.slice (some ⟨g, 0, none⟩) n c) E) (hn : n = E.length) {k : Nat} {d : Dc} (hd : E[k]? = some d) : w.cell? ⟨g, k, none⟩ = some d.v := by
  obtain ⟨hk, e⟩ := List.getElem?_eq_some_iff.1 hd
  have h9 := h.cell hn k 0 hk (by decide)
  rw [e] at h9
  simpa using h9
set_option maxRecDepth 20000 in
set_option maxHeartbeats 3200000 in
theorem rput_nofit (h : Rx w q (.slice (some ⟨g, 0, none⟩) S.length c) E S) (k : Nat) (hk : k < S.length) (hy : S[k]? = some []) (ao : Option Addr) (n cap : Nat) (xs : List UInt8) (hn : n = xs.length) (h0 : 0 < n) (h1 : n ≤ 1024) (hx : Rd w ao xs) (hnil : ao = none → cap = 0) (hft : fitS (S.set k xs) = false) :
    Calls Tryz.prog 77 #[.pointer (some ⟨q, 0, none⟩), .int .i64 (k : Int), .slice ao n cap] w fun e w' => e = .returned (.int .i64 120) ∧ Rx w' q (.slice (some ⟨g, 0, none⟩) S.length c) E S ∧ Below w.heap.size w w' := by
  have HFF : Hid _ := hft
  clear hft
  have HW : Hid _ := h
  have c0 := h.c0
  have hq := (Array.getElem?_eq_some_iff.1 h.hp).1
  have HQ0 : Hid (q < w.heap.size) := hq
  obtain ⟨d, ys2, hd, hy2, hcs, hby, hyl⟩ := h.at_ hk
  obtain rfl : ys2 = [] := by rw [hy] at hy2; cases hy2; rfl
  obtain ⟨da, dn, dc⟩ := d
  have hdn := hby.n
  simp only [List.length_nil] at hdn
  subst hdn
  have hEl := h.len
  have hn1 := h.n1
  have HEL : Hid _ := hEl
  have hk0 : (0 : Int) ≤ (k : Int) := by omega
  have hkI : ¬ (S.length : Int) ≤ (k : Int) := by omega
  have hkL : (k : Int) < (S.length : Int) := by omega
  have hxl : ((n : Int) == 0) = false := by simp; omega
  have hx1 : ¬ (1024 : Int) < (n : Int) := by omega
  have HX : Hid (∀ u, Below w.heap.size w u → Rd u ao xs) := fun u hu => Rd.below hx hu
  have HNL : Hid _ := hnil
  have HNX : Hid _ := hn
  have HC0 : Hid (∀ u, Below w.heap.size w u → u.cell? ⟨q, 0, none⟩ = some (.slice (some ⟨g, 0, none⟩) S.length c)) := fun u hu => (h.below hu).c0
  have HK : Hid _ := hk
  obtain ⟨N, hN⟩ : ∃ N, N = S.length := ⟨_, rfl⟩
  rw [← hN] at c0 hkI hkL HC0 hn1 ⊢
  have HNN : Hid _ := hN
  have hkN : k < N := by omega
  clear h hx hnil hy hy2 hd hn hby hyl hN hk hEl
  go_enter Tryz.func77, Tryz.ntmps77
  go_wp2
  go_loopw [7, 8] (fun v j wr => PRel E w v j wr) (fun _ j _ => N - (intOf j).toNat)
  case atStart => exact ⟨0, Nat.zero_le _, rfl, World.ownsRow_nil _ _ _ _, Below.refl _ _⟩
  case round =>
    obtain ⟨j, hj, rfl, hown, hbw⟩ := hrel
    have HO : Hid (OwnG KL wr w.heap.size u7 (E.take j)) := hown
    have HB : Hid _ := hbw
    have c1 := HC0.out _ hbw
    have hjN : j ≤ N := by have := HEL.out; have := HNN.out; omega
    have HSZ : Hid _ := hbw.size
    clear hown hbw
    by_cases hlt : j < N
    · obtain ⟨e, ys, he, -, hce, hbe, -⟩ := (HW.out.below HB.out).at_ (k := j) (by rw [← HNN.out]; exact hlt)
      have hltI : (j : Int) < (N : Int) := by omega
      have hj0 : (0 : Int) ≤ (j : Int) := by omega
      have hjw : IntKind.i64.wrap ((j : Int) + 1) = ((j + 1 : Nat) : Int) := by rw [IntKind.wrap_i64]; omega
      have HT : Hid (E.take (j + 1) = E.take j ++ [e]) := by unfold Hid; rw [List.take_add_one, he]; rfl
      have HTL : Hid ((E.take j).length = j) := by unfold Hid; rw [List.length_take]; omega
      clear he hbe
      go_wp2_with (at_builtin; refine wp_appG (K := KL) rfl _ _ rfl w.heap.size u7 (E.take j) [e] 1 _ _ rfl rfl (HO.out.below (al (Below.refl _ _) _)) rfl (rdG_lit (heap_alloc_new _ _) rfl) (fun h => by cases h) (by rw [HTL.out]; show (j + 1) * 24 ≤ _; omega) (by rw [HTL.out]; simp only [maxLen]; omega) (by have := HSZ.out; simp; omega) ?_; intro v3 w3 hown3 hg3; have HO3 : Hid _ := hown3; have HG3 : Hid _ := hg3; clear hown3 hg3)
      go_roundw
      case rel =>
        refine ⟨j + 1, by have := HEL.out; have := HNN.out; omega, by go_num, by rw [HT.out]; exact HO3.out, (HB.out.trans ((al (Below.refl _ _) _).mono HB.out.size)).grown HG3.out (by have := HSZ.out; simp; omega) (fun k hk => (HO.out.lt' hk).1)⟩
      case measure => simp [intOf]; omega
    · obtain rfl : j = N := by omega
      have hltI : ¬ (j : Int) < (j : Int) := by omega
      have hoE : OwnG KL wr w.heap.size u7 E := by
        have h9 := HO.out
        rw [List.take_of_length_le (by have := HEL.out; have := HNN.out; omega)] at h9
        exact h9
      obtain ⟨g7, c7, hv7, -, -, hg7, -⟩ := hoE.one (by have := HEL.out; have := HNN.out; omega)
      have hEj : E.length = j := by have := HEL.out; have := HNN.out; omega
      rw [hEj] at hv7
      subst hv7
      have HOE : Hid _ := hoE
      have HG7 : Hid _ := hg7
      have HEJ : Hid _ := hEj
      obtain ⟨e4, he4⟩ : ∃ e4, E[k]? = some e4 := ⟨_, List.getElem?_eq_getElem (by rw [hEj]; exact hkN)⟩
      have HE4 : Hid _ := he4
      clear hoE HO hg7 hEj he4
      go_wp2_with (at_builtin; refine wp_app rfl _ _ rfl w.heap.size _ [] xs _ _ rfl ((own_made0 wr).base HB.out.size) (by rw [← HNX.out]; rfl) (Rd.alloc (HX.out _ HB.out) _) HNL.out (by rw [← HNX.out]; simp; omega) (by have := HSZ.out; simp; omega) ?_; intro v4 w4 hown4 hg4; obtain ⟨a4, c4, hv4, -⟩ := hown4.val; rw [List.nil_append, ← HNX.out] at hv4; subst hv4; have HO4 : Hid (Own w4 w.heap.size (Dc.v ⟨a4, n, c4⟩) xs) := hown4; have HG4 : Hid _ := hg4; have HR4 : Hid (OwnG KL w4 w.heap.size (.slice (some ⟨g7, 0, none⟩) j c7) E) := row_after HOE.out hg4; have hc4 := HR4.out.cell1 HEJ.out.symm HE4.out; have hf4 : w4.frozen? ⟨g7, k, none⟩ = false := HR4.out.fz k; clear hown4 hg4)
      have hb4 : Below w.heap.size w w4 := (HB.out.trans ((al (Below.refl _ _) (.cells #[] 5)).mono HB.out.size)).grown HG4.out (by have := HSZ.out; simp; omega) (fun b hb => by cases hb; exact HSZ.out)
      have hb5 : Below w.heap.size w (w4.setCell ⟨g7, k, none⟩ (.slice a4 n c4)) := hb4.grown (gset1 w4 g7 k _) hb4.size (fun b hb => by cases hb; exact HG7.out)
      have hr5 := OwnG.setc (K := KL) HR4.out HEJ.out.symm k 0 (by rw [HEJ.out]; exact hkN) (by decide) ⟨a4, n, c4⟩ (.slice a4 n c4) rfl
      simp only [Nat.mul_one, Nat.add_zero] at hr5
      have hty7 : ∀ (b : Nat) C fr, w4.heap[b]? = some (.cells C 5 fr) → b ≠ g7 := fun b C fr h9 e => by
        subst e
        obtain ⟨cur, h8⟩ := HR4.out.at_ (b := b) rfl
        exact absurd (ty_of h9 h8) (by decide)
      have hoth : ∀ b, b ≠ g7 → (w4.setCell ⟨g7, k, none⟩ (.slice a4 n c4)).heap[b]? = w4.heap[b]? := fun b hb => heap_setCell_other _ _ _ _ hb
      have hd4 := (ByV.of_own HO4.out).1
      have hd4b := (ByV.of_own HO4.out).2
      have hd5 : ByV (w4.setCell ⟨g7, k, none⟩ (.slice a4 n c4)) ⟨a4, n, c4⟩ xs := hd4.kept (fun ad ha => by
        obtain ⟨cur, fr, h9⟩ := hd4.ty ad ha
        exact hoth _ (hty7 _ _ _ h9))
      have hxw := HW.out.below hb5
      have hrl : RowL (w4.setCell ⟨g7, k, none⟩ (.slice a4 n c4)) (some ⟨g7, 0, none⟩) j (E.set k ⟨a4, n, c4⟩) (S.set k xs) := by
        refine ⟨by rw [List.length_set]; exact HNN.out, by rw [List.length_set, List.length_set]; exact HEL.out, by rw [List.length_set]; exact HW.out.n0, by rw [List.length_set]; exact HW.out.n1, fun i d ys hd hy => ?_, ?_⟩
        · by_cases hi : k = i
          · subst hi
            rw [List.getElem?_set_self (by rw [HEJ.out]; exact hkN)] at hd
            rw [List.getElem?_set_self HK.out] at hy
            cases hd
            cases hy
            exact ⟨hd5, by rw [← HNX.out]; exact h1⟩
          · rw [List.getElem?_set_ne hi] at hd hy
            exact hxw.els i d ys hd hy
        · have h9 := hr5
          have h8 : (E.set k ⟨a4, n, c4⟩).length = j := by rw [List.length_set]; exact HEJ.out
          rw [← h8] at h9
          exact OwnG.rd h9
      have hft9 := rfits_t (c := c7) hrl
      rw [HFF.out] at hft9
      have HFT : Hid _ := hft9
      have HR5 : Hid (OwnG KL (w4.setCell ⟨g7, k, none⟩ (.slice a4 n c4)) w.heap.size (.slice (some ⟨g7, 0, none⟩) j c7) (E.set k ⟨a4, n, c4⟩)) := hr5
      have HD5 : Hid _ := hd5
      have HB5 : Hid _ := hb5
      have HD4 : Hid (∀ ad, a4 = some ad → w.heap.size ≤ ad.block) := hd4b
      have cq := hxw.c0
      have fq := hxw.fz 0
      rw [← HNN.out] at cq
      generalize w4.setCell ⟨g7, k, none⟩ (.slice a4 n c4) = W5 at *
      clear hft9 hb4 hb5 hr5 hty7 hoth hd4 hd4b hd5 hxw hrl hc4 hf4
      refine Calls.mono HFT.out ?_
      rintro e w5 ⟨rfl, hw5⟩
      have hw5 := hw5.symm
      subst hw5
      go_wp2
      go_ret
      exact ⟨rfl, by rw [HNN.out]; exact HW.out.below HB5.out, HB5.out⟩
set_option maxRecDepth 20000 in
set_option maxHeartbeats 3200000 in
theorem rput_fit (h : Rx w q (.slice (some ⟨g, 0, none⟩) S.length c) E S) (k : Nat) (hk : k < S.length) (hy : S[k]? = some []) (ao : Option Addr) (n cap : Nat) (xs : List UInt8) (hn : n = xs.length) (h0 : 0 < n) (h1 : n ≤ 1024) (hx : Rd w ao xs) (hnil : ao = none → cap = 0) (hft : fitS (S.set k xs) = true) :
    Calls Tryz.prog 77 #[.pointer (some ⟨q, 0, none⟩), .int .i64 (k : Int), .slice ao n cap] w fun e w' => e = .returned (.int .i64 0) ∧ ∃ v' E', Rx w' q v' E' (S.set k xs) ∧ Chg (fun b => b = q) w w' ∧ ∀ b, footR q v' E' b → footR q (.slice (some ⟨g, 0, none⟩) S.length c) E b ∨ w.heap.size ≤ b := by
  have HFF : Hid _ := hft
  clear hft
  have HW : Hid _ := h
  have c0 := h.c0
  have hq := (Array.getElem?_eq_some_iff.1 h.hp).1
  have HQ0 : Hid (q < w.heap.size) := hq
  obtain ⟨d, ys2, hd, hy2, hcs, hby, hyl⟩ := h.at_ hk
  obtain rfl : ys2 = [] := by rw [hy] at hy2; cases hy2; rfl
  obtain ⟨da, dn, dc⟩ := d
  have hdn := hby.n
  simp only [List.length_nil] at hdn
  subst hdn
  have hEl := h.len
  have hn1 := h.n1
  have HEL : Hid _ := hEl
  have hk0 : (0 : Int) ≤ (k : Int) := by omega
  have hkI : ¬ (S.length : Int) ≤ (k : Int) := by omega
  have hkL : (k : Int) < (S.length : Int) := by omega
  have hxl : ((n : Int) == 0) = false := by simp; omega
  have hx1 : ¬ (1024 : Int) < (n : Int) := by omega
  have HX : Hid (∀ u, Below w.heap.size w u → Rd u ao xs) := fun u hu => Rd.below hx hu
  have HNL : Hid _ := hnil
  have HNX : Hid _ := hn
  have HC0 : Hid (∀ u, Below w.heap.size w u → u.cell? ⟨q, 0, none⟩ = some (.slice (some ⟨g, 0, none⟩) S.length c)) := fun u hu => (h.below hu).c0
  have HK : Hid _ := hk
  obtain ⟨N, hN⟩ : ∃ N, N = S.length := ⟨_, rfl⟩
  rw [← hN] at c0 hkI hkL HC0 hn1 ⊢
  have HNN : Hid _ := hN
  have hkN : k < N := by omega
  clear h hx hnil hy hy2 hd hn hby hyl hN hk hEl
  go_enter Tryz.func77, Tryz.ntmps77
  go_wp2
  go_loopw [7, 8] (fun v j wr => PRel E w v j wr) (fun _ j _ => N - (intOf j).toNat)
  case atStart => exact ⟨0, Nat.zero_le _, rfl, World.ownsRow_nil _ _ _ _, Below.refl _ _⟩
  case round =>
    obtain ⟨j, hj, rfl, hown, hbw⟩ := hrel
    have HO : Hid (OwnG KL wr w.heap.size u7 (E.take j)) := hown
    have HB : Hid _ := hbw
    have c1 := HC0.out _ hbw
    have hjN : j ≤ N := by have := HEL.out; have := HNN.out; omega
    have HSZ : Hid _ := hbw.size
    clear hown hbw
    by_cases hlt : j < N
    · obtain ⟨e, ys, he, -, hce, hbe, -⟩ := (HW.out.below HB.out).at_ (k := j) (by rw [← HNN.out]; exact hlt)
      have hltI : (j : Int) < (N : Int) := by omega
      have hj0 : (0 : Int) ≤ (j : Int) := by omega
      have hjw : IntKind.i64.wrap ((j : Int) + 1) = ((j + 1 : Nat) : Int) := by rw [IntKind.wrap_i64]; omega
      have HT : Hid (E.take (j + 1) = E.take j ++ [e]) := by unfold Hid; rw [List.take_add_one, he]; rfl
      have HTL : Hid ((E.take j).length = j) := by unfold Hid; rw [List.length_take]; omega
      clear he hbe
      go_wp2_with (at_builtin; refine wp_appG (K := KL) rfl _ _ rfl w.heap.size u7 (E.take j) [e] 1 _ _ rfl rfl (HO.out.below (al (Below.refl _ _) _)) rfl (rdG_lit (heap_alloc_new _ _) rfl) (fun h => by cases h) (by rw [HTL.out]; show (j + 1) * 24 ≤ _; omega) (by rw [HTL.out]; simp only [maxLen]; omega) (by have := HSZ.out; simp; omega) ?_; intro v3 w3 hown3 hg3; have HO3 : Hid _ := hown3; have HG3 : Hid _ := hg3; clear hown3 hg3)
      go_roundw
      case rel =>
        refine ⟨j + 1, by have := HEL.out; have := HNN.out; omega, by go_num, by rw [HT.out]; exact HO3.out, (HB.out.trans ((al (Below.refl _ _) _).mono HB.out.size)).grown HG3.out (by have := HSZ.out; simp; omega) (fun k hk => (HO.out.lt' hk).1)⟩
      case measure => simp [intOf]; omega
    · obtain rfl : j = N := by omega
      have hltI : ¬ (j : Int) < (j : Int) := by omega
      have hoE : OwnG KL wr w.heap.size u7 E := by
        have h9 := HO.out
        rw [List.take_of_length_le (by have := HEL.out; have := HNN.out; omega)] at h9
        exact h9
      obtain ⟨g7, c7, hv7, -, -, hg7, -⟩ := hoE.one (by have := HEL.out; have := HNN.out; omega)
      have hEj : E.length = j := by have := HEL.out; have := HNN.out; omega
      rw [hEj] at hv7
      subst hv7
      have HOE : Hid _ := hoE
      have HG7 : Hid _ := hg7
      have HEJ : Hid _ := hEj
      obtain ⟨e4, he4⟩ : ∃ e4, E[k]? = some e4 := ⟨_, List.getElem?_eq_getElem (by rw [hEj]; exact hkN)⟩
      have HE4 : Hid _ := he4
      clear hoE HO hg7 hEj he4
      go_wp2_with (at_builtin; refine wp_app rfl _ _ rfl w.heap.size _ [] xs _ _ rfl ((own_made0 wr).base HB.out.size) (by rw [← HNX.out]; rfl) (Rd.alloc (HX.out _ HB.out) _) HNL.out (by rw [← HNX.out]; simp; omega) (by have := HSZ.out; simp; omega) ?_; intro v4 w4 hown4 hg4; obtain ⟨a4, c4, hv4, -⟩ := hown4.val; rw [List.nil_append, ← HNX.out] at hv4; subst hv4; have HO4 : Hid (Own w4 w.heap.size (Dc.v ⟨a4, n, c4⟩) xs) := hown4; have HG4 : Hid _ := hg4; have HR4 : Hid (OwnG KL w4 w.heap.size (.slice (some ⟨g7, 0, none⟩) j c7) E) := row_after HOE.out hg4; have hc4 := HR4.out.cell1 HEJ.out.symm HE4.out; have hf4 : w4.frozen? ⟨g7, k, none⟩ = false := HR4.out.fz k; clear hown4 hg4)
      have hb4 : Below w.heap.size w w4 := (HB.out.trans ((al (Below.refl _ _) (.cells #[] 5)).mono HB.out.size)).grown HG4.out (by have := HSZ.out; simp; omega) (fun b hb => by cases hb; exact HSZ.out)
      have hb5 : Below w.heap.size w (w4.setCell ⟨g7, k, none⟩ (.slice a4 n c4)) := hb4.grown (gset1 w4 g7 k _) hb4.size (fun b hb => by cases hb; exact HG7.out)
      have hr5 := OwnG.setc (K := KL) HR4.out HEJ.out.symm k 0 (by rw [HEJ.out]; exact hkN) (by decide) ⟨a4, n, c4⟩ (.slice a4 n c4) rfl
      simp only [Nat.mul_one, Nat.add_zero] at hr5
      have hty7 : ∀ (b : Nat) C fr, w4.heap[b]? = some (.cells C 5 fr) → b ≠ g7 := fun b C fr h9 e => by
        subst e
        obtain ⟨cur, h8⟩ := HR4.out.at_ (b := b) rfl
        exact absurd (ty_of h9 h8) (by decide)
      have hoth : ∀ b, b ≠ g7 → (w4.setCell ⟨g7, k, none⟩ (.slice a4 n c4)).heap[b]? = w4.heap[b]? := fun b hb => heap_setCell_other _ _ _ _ hb
      have hd4 := (ByV.of_own HO4.out).1
      have hd4b := (ByV.of_own HO4.out).2
      have hd5 : ByV (w4.setCell ⟨g7, k, none⟩ (.slice a4 n c4)) ⟨a4, n, c4⟩ xs := hd4.kept (fun ad ha => by
        obtain ⟨cur, fr, h9⟩ := hd4.ty ad ha
        exact hoth _ (hty7 _ _ _ h9))
      have hxw := HW.out.below hb5
      have hrl : RowL (w4.setCell ⟨g7, k, none⟩ (.slice a4 n c4)) (some ⟨g7, 0, none⟩) j (E.set k ⟨a4, n, c4⟩) (S.set k xs) := by
        refine ⟨by rw [List.length_set]; exact HNN.out, by rw [List.length_set, List.length_set]; exact HEL.out, by rw [List.length_set]; exact HW.out.n0, by rw [List.length_set]; exact HW.out.n1, fun i d ys hd hy => ?_, ?_⟩
        · by_cases hi : k = i
          · subst hi
            rw [List.getElem?_set_self (by rw [HEJ.out]; exact hkN)] at hd
            rw [List.getElem?_set_self HK.out] at hy
            cases hd
            cases hy
            exact ⟨hd5, by rw [← HNX.out]; exact h1⟩
          · rw [List.getElem?_set_ne hi] at hd hy
            exact hxw.els i d ys hd hy
        · have h9 := hr5
          have h8 : (E.set k ⟨a4, n, c4⟩).length = j := by rw [List.length_set]; exact HEJ.out
          rw [← h8] at h9
          exact OwnG.rd h9
      have hft9 := rfits_t (c := c7) hrl
      rw [HFF.out] at hft9
      have HFT : Hid _ := hft9
      have HR5 : Hid (OwnG KL (w4.setCell ⟨g7, k, none⟩ (.slice a4 n c4)) w.heap.size (.slice (some ⟨g7, 0, none⟩) j c7) (E.set k ⟨a4, n, c4⟩)) := hr5
      have HD5 : Hid _ := hd5
      have HB5 : Hid _ := hb5
      have HD4 : Hid (∀ ad, a4 = some ad → w.heap.size ≤ ad.block) := hd4b
      have cq := hxw.c0
      have fq := hxw.fz 0
      rw [← HNN.out] at cq
      generalize w4.setCell ⟨g7, k, none⟩ (.slice a4 n c4) = W5 at *
      clear hft9 hb4 hb5 hr5 hty7 hoth hd4 hd4b hd5 hxw hrl hc4 hf4
      refine Calls.mono HFT.out ?_
      rintro e w5 ⟨rfl, hw5⟩
      have hw5 := hw5.symm
      subst hw5
      go_wp2
      go_ret
      refine ⟨rfl, .slice (some ⟨g7, 0, none⟩) j c7, E.set k ⟨a4, n, c4⟩, HW.out.set HB5.out (by rw [← HNX.out]; exact h1) HD5.out (HR5.out.base (Nat.zero_le _)) (fun e => ?_) (fun ad ha e => ?_), ?_, fun b hb => ?_⟩
      · have e2 : g7 = q := Option.some.inj e
        have h7 : w.heap.size ≤ g7 := HG7.out
        have h6 : q < w.heap.size := HQ0.out
        omega
      · have h7 := HD4.out ad ha
        have h6 : q < w.heap.size := HQ0.out
        omega
      · exact (Chg.of_below HB5.out).trans (G := fun b => b = q) (Chg.of_grown (gset1 _ q 0 _) (fun b e => (Option.some.inj e).symm)) (fun b e => .inl e)
      · rcases footR_set (v := .slice (some ⟨g, 0, none⟩) S.length c) hb with h9 | h9 | ⟨ad, ha, rfl⟩
        · exact .inl (by rw [HNN.out]; exact h9)
        · cases h9
          exact .inr HG7.out
        · exact .inr (HD4.out ad ha)
theorem rput_free (h : Rx w q (.slice (some ⟨g, 0, none⟩) S.length c) E S) (k : Nat) (hk : k < S.length) (hy : S[k]? = some []) (ao : Option Addr) (n cap : Nat) (xs : List UInt8) (hn : n = xs.length) (h0 : 0 < n) (h1 : n ≤ 1024) (hx : Rd w ao xs) (hnil : ao = none → cap = 0) :
    Calls Tryz.prog 77 #[.pointer (some ⟨q, 0, none⟩), .int .i64 (k : Int), .slice ao n cap] w fun e w' => e = .returned (.int .i64 (if fitS (S.set k xs) = true then 0 else 120)) ∧ ∃ v' E', Rx w' q v' E' (if fitS (S.set k xs) = true then S.set k xs else S) ∧ Chg (fun b => b = q) w w' ∧ ∀ b, footR q v' E' b → footR q (.slice (some ⟨g, 0, none⟩) S.length c) E b ∨ w.heap.size ≤ b := by
  rcases hft : fitS (S.set k xs) with _ | _
  · simp only [Bool.false_eq_true, if_false]
    refine Calls.mono (rput_nofit h k hk hy ao n cap xs hn h0 h1 hx hnil hft) ?_
    rintro e w' ⟨rfl, h2, h3⟩
    exact ⟨rfl, _, E, h2, Chg.of_below h3, fun b hb => .inl hb⟩
  · simp only [if_true]
    exact rput_fit h k hk hy ao n cap xs hn h0 h1 hx hnil hft
end
end Go.Proofs.YtdoikcolkbjnfaaGreat
namespace Go.Proofs.YtdoikcolkbjnfaaGreat
set_option linter.unusedVariables false
set_option linter.unusedSimpArgs false
/-- the document's ranges of the first k -/
def gS (S : List Seg) : Nat → List Rg
  | 0 => []
  | k + 1 => if (S[k]?.getD []).length = 0 then gS S k else mstep (gS S k) ((k : Int), (k : Int) + 1)
theorem gS_mi (S : List Seg) : ∀ k, MI (gS S k) (ones S k)
  | 0 => MI.nil
  | k + 1 => by
    have ih := gS_mi S k
    unfold gS ones
    by_cases h : (S[k]?.getD []).length = 0
    · rw [if_pos h, if_pos h, List.append_nil]
      exact ih
    · rw [if_neg h, if_neg h]
      exact ih.step (fun z hz => by have := ones_mem S k z hz; omega)
theorem mstep_cases (out : List Rg) (k : Int) : (out = [] ∧ mstep out (k, k + 1) = [(k, k + 1)]) ∨ (∃ o y, out = o ++ [y] ∧ mstep out (k, k + 1) = if k ≤ y.2 then o ++ [(y.1, max y.2 (k + 1))] else o ++ [y] ++ [(k, k + 1)]) := by
  rcases List.eq_nil_or_concat out with h | ⟨o, y, h⟩
  · subst h
    refine .inl ⟨rfl, ?_⟩
    unfold mstep
    rw [if_neg (by omega)]
    rfl
  · rw [List.concat_eq_append] at h
    subst h
    refine .inr ⟨o, y, rfl, ?_⟩
    unfold mstep
    rw [if_neg (by simp only; omega)]
    simp
theorem gS_le (S : List Seg) : ∀ k, ∀ y ∈ gS S k, y.2 ≤ (k : Int)
  | 0, y, h => by cases h
  | k + 1, y, h => by
    have ih := gS_le S k
    unfold gS at h
    by_cases h0 : (S[k]?.getD []).length = 0
    · rw [if_pos h0] at h
      have := ih y h
      omega
    · rw [if_neg h0] at h
      rcases mstep_cases (gS S k) (k : Int) with ⟨-, e⟩ | ⟨o, z, e1, e⟩
      · rw [e] at h
        simp at h
        subst h
        simp
      · have hz := ih z (by rw [e1]; simp)
        rw [e] at h
        split at h
        · rcases List.mem_append.1 h with h1 | h1
          · have := ih y (by rw [e1]; simp [h1])
            omega
          · simp at h1
            subst h1
            simp only
            omega
        · rcases List.mem_append.1 h with h1 | h1
          · have := ih y (by rw [e1]; exact h1)
            omega
          · simp at h1
            subst h1
            simp
theorem gS_empty (S : List Seg) (k : Nat) (h : (S[k]?.getD []).length = 0) : gS S (k + 1) = gS S k := if_pos h
theorem gS_last (S : List Seg) (k : Nat) (h : (S[k]?.getD []).length ≠ 0) : ∃ o a, gS S (k + 1) = o ++ [(a, (k : Int) + 1)] := by
  unfold gS
  rw [if_neg h]
  rcases mstep_cases (gS S k) (k : Int) with ⟨-, e⟩ | ⟨o, z, e1, e⟩
  · exact ⟨[], k, by rw [e]; rfl⟩
  · have hz := gS_le S k z (by rw [e1]; simp)
    rw [e]
    split
    · exact ⟨o, z.1, by rw [show max z.2 ((k : Int) + 1) = (k : Int) + 1 by omega]⟩
    · exact ⟨_, _, rfl⟩
theorem gS_grow (S : List Seg) (k : Nat) (o : List Rg) (a : Int) (h : (S[k]?.getD []).length ≠ 0) (e : gS S k = o ++ [(a, (k : Int))]) : gS S (k + 1) = o ++ [(a, (k : Int) + 1)] := by
  unfold gS
  rw [if_neg h, e]
  unfold mstep
  rw [if_neg (by simp only; omega)]
  simp
  omega
theorem gS_push (S : List Seg) (k : Nat) (h : (S[k]?.getD []).length ≠ 0) (hl : k = 0 ∨ ∃ j, k = j + 1 ∧ (S[j]?.getD []).length = 0) : gS S (k + 1) = gS S k ++ [((k : Int), (k : Int) + 1)] := by
  have hlt : ∀ y ∈ gS S k, y.2 < (k : Int) := fun y hy => by
    rcases hl with rfl | ⟨j, rfl, hj⟩
    · cases hy
    · rw [gS_empty S j hj] at hy
      have := gS_le S j y hy
      push_cast
      omega
  rcases mstep_cases (gS S k) (k : Int) with ⟨e1, e⟩ | ⟨o, z, e1, e⟩
  · conv => lhs; unfold gS
    rw [if_neg h, e, e1]
    rfl
  · have hz := hlt z (by rw [e1]; simp)
    conv => lhs; unfold gS
    rw [if_neg h, e, if_neg (by omega), e1]
theorem gS_len (S : List Seg) : ∀ k, (gS S k).length ≤ k
  | 0 => Nat.le_refl _
  | k + 1 => by
    have ih := gS_len S k
    unfold gS
    split
    · omega
    · rcases mstep_cases (gS S k) (k : Int) with ⟨e1, e⟩ | ⟨o, z, e1, e⟩
      · rw [e]; simp
      · rw [e1] at ih
        rw [e]
        split <;> simp at ih ⊢ <;> omega
theorem gS_got (S : List Seg) : GotIs (gS S S.length) (some S) := ⟨(gS_mi S S.length).lst, (gS_mi S S.length).has⟩
end Go.Proofs.YtdoikcolkbjnfaaGreat
