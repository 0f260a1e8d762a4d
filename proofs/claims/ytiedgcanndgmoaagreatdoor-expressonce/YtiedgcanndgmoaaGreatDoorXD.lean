import Derived.Test.YtiedgcanndgmoaaGreatDoorXS
import Derived.Test.YtiedgcanndgmoaaGreatDoorXNo
namespace Go.Proofs.YtiedgcanndgmoaaGreatDoor
set_option linter.unusedVariables false
set_option linter.unusedSimpArgs false
open Go.RowKit Go.Maps
theorem keyBoxF (w : World) (k : Fk) : ∀ u, Below (w.heap.size + 1) (w.alloc (.cells #[.int .i64 k.1, .int .u64 (k.2 : Int)] tFk)) u → u.cell? ⟨w.heap.size, 0, none⟩ = some (.int .i64 k.1) ∧ u.cell? ⟨w.heap.size, 1, none⟩ = some (.int .u64 (k.2 : Int)) ∧ Below w.heap.size w u := fun u hu => by
  have h9 : u.heap[w.heap.size]? = some (.cells #[.int .i64 k.1, .int .u64 (k.2 : Int)] tFk (0, 0)) := (hu.block w.heap.size (by omega)).trans (heap_alloc_new w _)
  exact ⟨by rw [cell_of_row _ _ _ _ _ _ h9]; rfl, by rw [cell_of_row _ _ _ _ _ _ h9]; rfl, (alx (Below.refl w.heap.size w) (Nat.le_refl _) _).trans (hu.mono (by omega))⟩
section
variable {w w' : World} {p ms mn pw mw : Nat} {V : Nat → Nat → Value} {s : Xs}
set_option maxRecDepth 20000
set_option maxHeartbeats 1600000
theorem xmade_t (h : XSt w p ms mn pw mw V s) : Calls Tryz.prog 26 #[.pointer (some ⟨p, 0, none⟩)] w fun e w' => e = .returned (.bool true) ∧ w' = w := by
  have hc : w.cell? ⟨p, 5, none⟩ = some (.map (some ms)) := h.cell 5
  have hmn : ∀ u : World, (binOp .neq 76 (.map (some ms)) (.map none)).run Tryz.prog u = .ok (.bool true) u := fun u => by rfl
  clear h
  go_enter Tryz.func26, Tryz.ntmps26
  go_wp2
  go_ret
  exact ⟨rfl, rfl⟩
theorem isNumber_t (n : Nat) (w : World) : Calls Tryz.prog 23 #[.int .u64 (n : Int)] w fun e w' => e = .returned (.bool (decide (1 ≤ n ∧ n ≤ mxX))) ∧ w' = w := by
  obtain ⟨d, hd⟩ : ∃ d, d = decide (1 ≤ n ∧ n ≤ mxX) := ⟨_, rfl⟩
  rw [← hd]
  have HE : Hid _ := hd
  clear hd
  by_cases h1 : 1 ≤ n
  · have h2 : (1 : Int) ≤ (n : Int) := by omega
    have HD : Hid (decide ((n : Int) ≤ 281474976710655) = d) := by
      unfold Hid
      rw [HE.out]
      unfold mxX
      apply decide_eq_decide.2
      omega
    go_enter Tryz.func23, Tryz.ntmps23
    go_wp2
    go_ret
    rw [← HD.out]; exact ⟨rfl, rfl⟩
  · have h2 : ¬ (1 : Int) ≤ (n : Int) := by omega
    have HD : Hid (d = false) := HE.out.trans (decide_eq_false (fun h => h1 h.1))
    go_enter Tryz.func23, Tryz.ntmps23
    go_wp2
    go_ret
    rw [HD.out]; exact ⟨rfl, rfl⟩
theorem isGood_t (k : Fk) (w : World) : Calls Tryz.prog 27 #[fv k] w fun e w' => e = .returned (.bool (decide (0 ≤ k.1 ∧ k.1 < 8 ∧ k.2 ≤ mxX))) ∧ Below w.heap.size w w' := by
  obtain ⟨a, b⟩ := k
  have HB : Hid (Below w.heap.size w (w.alloc (.cells #[.int .i64 a, .int .u64 (b : Int)] tFk))) := alx (Below.refl _ _) (Nat.le_refl _) _
  obtain ⟨d, hd⟩ : ∃ d, d = decide (0 ≤ a ∧ a < 8 ∧ b ≤ mxX) := ⟨_, rfl⟩
  show Calls _ _ _ _ fun e w' => e = .returned (.bool (decide (0 ≤ a ∧ a < 8 ∧ b ≤ mxX))) ∧ _
  rw [← hd]
  have HE : Hid _ := hd
  clear hd
  by_cases h1 : 0 ≤ a
  · by_cases h2 : a < 8
    · have HD : Hid (decide ((b : Int) ≤ 281474976710655) = d) := by
        unfold Hid
        rw [HE.out]
        unfold mxX
        apply decide_eq_decide.2
        omega
      go_enter Tryz.func27, Tryz.ntmps27
      go_wp2
      go_ret
      rw [← HD.out]; exact ⟨rfl, HB.out⟩
    · have HD : Hid (d = false) := HE.out.trans <| decide_eq_false (fun h => h2 h.2.1)
      go_enter Tryz.func27, Tryz.ntmps27
      go_wp2
      go_ret
      rw [HD.out]; exact ⟨rfl, HB.out⟩
  · have HD : Hid (d = false) := HE.out.trans <| decide_eq_false (fun h => h1 h.1)
    go_enter Tryz.func27, Tryz.ntmps27
    go_wp2
    go_ret
    rw [HD.out]; exact ⟨rfl, HB.out⟩
theorem goOn_t (h : XSt w p ms mn pw mw V s) (x : Nat) : Calls Tryz.prog 30 #[.pointer (some ⟨p, 0, none⟩), .int .u64 (x : Int)] w fun e w' => e = .returned (.tuple #[]) ∧ XSt w' p ms mn pw mw V { s with clk := max s.clk (min x mxX) } ∧ XStp w w' p ms mn pw mw V V := by
  have hc : w.cell? ⟨p, 3, none⟩ = some (.int .u64 (s.clk : Int)) := h.cell 3
  have hf := h.frz 3
  have HX : Hid (XSt (w.setCell ⟨p, 3, none⟩ (.int .u64 ((max s.clk (min x mxX) : Nat) : Int))) p ms mn pw mw V { s with clk := max s.clk (min x mxX) }) := h.setClk _ (Nat.le_max_left _ _) (by have := h.inv.c; omega)
  have HM : Hid (((max s.clk (min x mxX) : Nat) : Int) = max (s.clk : Int) (min (x : Int) 281474976710655)) := by unfold Hid mxX; omega
  have HS : Hid (∀ v, XStp w (w.setCell ⟨p, 3, none⟩ v) p ms mn pw mw V V) := fun v => (XStp.refl w p ms mn pw mw V).set 3 v
  clear h
  go_enter Tryz.func30, Tryz.ntmps30
  go_wp2
  go_end0
  have h9 := HX.out
  rw [HM.out] at h9
  exact ⟨rfl, h9, HS.out _⟩
theorem lookS {L : List Xe} (h : MapG KSe w ms (ses L)) (n : Nat) (hn : n < 18446744073709551616) : ∃ x : Fk × Nat, ∀ u : World, u.heap[ms]? = w.heap[ms]? → (Instr.lookup tMs (.map (some ms)) (.int .u64 (n : Int)) true).run Tryz.prog u = .ok (.tuple #[.agg #[.int .i64 x.1.1, .int .u64 (x.1.2 : Int), .int .u64 (x.2 : Int)], .bool (decide (n ∈ L.map Xe.n))]) u := by
  cases hg : gl (ses L) n with
  | some x =>
    have h1 : n ∈ L.map Xe.n := by rw [← gk_ses]; exact mem_gk (gl_mem hg)
    exact ⟨x, fun u hu => by rw [decide_eq_true h1]; exact (h.kept hu).look_in uMs zMs (s := n) hn hg⟩
  | none =>
    have h1 : n ∉ L.map Xe.n := by rw [← gk_ses]; exact gl_none.1 hg
    exact ⟨((0, 0), 0), fun u hu => by rw [decide_eq_false h1]; exact (h.kept hu).look_no uMs zMs (s := n) hn hg⟩
theorem lookN {L : List Xe} (h : MapG KNu w mn (nums L)) (k : Fk) (hk : inF k) : ∃ x : Nat, ∀ u : World, u.heap[mn]? = w.heap[mn]? → (Instr.lookup tMn (.map (some mn)) (.agg #[.int .i64 k.1, .int .u64 (k.2 : Int)]) true).run Tryz.prog u = .ok (.tuple #[.int .u64 (x : Int), .bool (decide (k ∈ L.map Xe.k))]) u := by
  cases hg : gl (nums L) k with
  | some x =>
    have h1 : k ∈ L.map Xe.k := by rw [← gk_nums]; exact mem_gk (gl_mem hg)
    exact ⟨x, fun u hu => by rw [decide_eq_true h1]; exact (h.kept hu).look_in uMn zMn (s := k) hk hg⟩
  | none =>
    have h1 : k ∉ L.map Xe.k := by rw [← gk_nums]; exact gl_none.1 hg
    exact ⟨0, fun u hu => by rw [decide_eq_false h1]; exact (h.kept hu).look_no uMn zMn (s := k) hk hg⟩
theorem knows_t (h : XSt w p ms mn pw mw V s) (n : Nat) (hn : n < 18446744073709551616) (k : Fk) (hk : inF k) : Calls Tryz.prog 28 #[.pointer (some ⟨p, 0, none⟩), .int .u64 (n : Int), fv k] w fun e w' => e = .returned (.bool (decide (n ∈ s.L.map Xe.n) || decide (k ∈ s.L.map Xe.k))) ∧ Below w.heap.size w w' := by
  obtain ⟨x1, hx1⟩ := lookS h.se n hn
  obtain ⟨x2, hx2⟩ := lookN h.nu k hk
  obtain ⟨b2, hb2⟩ : ∃ b2, b2 = decide (k ∈ s.L.map Xe.k) := ⟨_, rfl⟩
  obtain ⟨b1, hb1⟩ : ∃ b1, b1 = decide (n ∈ s.L.map Xe.n) := ⟨_, rfl⟩
  rw [← hb1] at hx1
  rw [← hb2] at hx2
  have hl1 := fun u (hu : Below w.heap.size w u) => hx1 u (hu.block ms h.se.lt)
  have hl2 := fun u (hu : Below w.heap.size w u) => hx2 u (hu.block mn h.nu.lt)
  have hc5 : ∀ u, Below w.heap.size w u → u.cell? ⟨p, 5, none⟩ = some (.map (some ms)) := fun u hu => (h.below hu).cell 5
  have hc6 : ∀ u, Below w.heap.size w u → u.cell? ⟨p, 6, none⟩ = some (.map (some mn)) := fun u hu => (h.below hu).cell 6
  rw [← hb1, ← hb2]
  have hkb := keyBoxF w k
  have hb1' := alx (Below.refl w.heap.size w) (Nat.le_refl _) (.cells #[.int .i64 k.1, .int .u64 (k.2 : Int)] tFk)
  have g1 := hl1 _ hb1'
  have g5 := hc5 _ hb1'
  clear h hx1 hx2 hb1 hb2 hl1 hc5 hb1' hn hk
  go_enter Tryz.func28, Tryz.ntmps28
  go_wp2
  clear g1 g5
  refine wp_region_noPanic ?_
  refine wp_region_held_drew (S := (fun u => Below (w.heap.size + 1) (w.alloc (.cells #[.int .i64 k.1, .int .u64 (k.2 : Int)] tFk)) u)) (by kernel_rfl) (by first | exact (Below.alloc (Below.refl _ _) (by simp) _).drew | exact Below.alloc (Below.refl _ _) (by simp) _ | assumption) (fun hHeld => ?_)
  refine tz (i := 0) 21 rfl rfl hHeld ?_
  simp only [pS]
  refine tz (i := 1) 22 rfl rfl hHeld ?_
  simp only [pS]
  refine tz (i := 2) 23 rfl rfl hHeld ?_
  simp only [pS]
  refine tz (i := 3) 24 rfl rfl hHeld ?_
  simp only [pS]
  refine tz (i := 4) 25 rfl rfl hHeld ?_
  simp only [pS]
  refine tz (i := 5) 26 rfl rfl hHeld ?_
  simp only [pS]
  refine tz (i := 6) 20 rfl rfl hHeld ?_
  simp only [pS]
  refine tz (i := 7) 27 rfl rfl hHeld ?_
  simp only [pS]
  refine tz (i := 8) 28 rfl rfl hHeld ?_
  simp only [pS]
  refine tz (i := 9) 9 rfl rfl hHeld ?_
  simp only [pS]
  refine tz (i := 10) 10 rfl rfl hHeld ?_
  simp only [pS]
  refine wpAnyH_done (by kernel_rfl) ?_ _
  refine NoPanic.normal ?_
  cases b1
  · go_wp2
    go_ret
    exact ⟨by simp, (alx (alx (Below.refl _ _) (Nat.le_refl _) _) (by simp) _).drew⟩
  · go_wp2
    go_ret
    exact ⟨by simp, (alx (alx (Below.refl _ _) (Nat.le_refl _) _) (by simp) _).drew⟩
end
end Go.Proofs.YtiedgcanndgmoaaGreatDoor
namespace Go.Proofs.YtiedgcanndgmoaaGreatDoor
set_option linter.unusedVariables false
set_option linter.unusedSimpArgs false
open Go.RowKit Go.Maps
/-- what a sender's struct and a boxed key show -/
structure Shw (u : World) (p ms mn pw K : Nat) (s : Xs) (k : Fk) : Prop where
  blk : u.heap[p]? = some (.cells (cellsX s ms mn pw) tXs (0, 0))
  box : u.heap[K]? = some (.cells #[.int .i64 k.1, .int .u64 (k.2 : Int)] tFk (0, 0))
theorem Shw.cells {u : World} {p ms mn pw K : Nat} {s : Xs} {k : Fk} (h : Shw u p ms mn pw K s k) : u.cell? ⟨p, 1, none⟩ = some (.int .u64 (s.ack : Int)) ∧ u.cell? ⟨p, 3, none⟩ = some (.int .u64 (s.clk : Int)) ∧ u.cell? ⟨p, 4, none⟩ = some (.int .u64 (s.beg : Int)) ∧ u.cell? ⟨p, 5, none⟩ = some (.map (some ms)) ∧ u.cell? ⟨p, 6, none⟩ = some (.map (some mn)) ∧ u.cell? ⟨p, 7, none⟩ = some (.pointer (some ⟨pw, 0, none⟩)) ∧ u.cell? ⟨K, 0, none⟩ = some (.int .i64 k.1) ∧ u.cell? ⟨K, 1, none⟩ = some (.int .u64 (k.2 : Int)) := by
  refine ⟨?_, ?_, ?_, ?_, ?_, ?_, ?_, ?_⟩
  all_goals first | (rw [cell_of_row _ _ _ _ _ _ h.blk]; rfl) | (rw [cell_of_row _ _ _ _ _ _ h.box]; rfl)
theorem Shw.kept {u u' : World} {p ms mn pw K : Nat} {s : Xs} {k : Fk} (h : Shw u p ms mn pw K s k) (h1 : u'.heap[p]? = u.heap[p]?) (h2 : u'.heap[K]? = u.heap[K]?) : Shw u' p ms mn pw K s k := ⟨h1.trans h.blk, h2.trans h.box⟩
section
variable {w w' : World} {p ms mn pw mw : Nat} {V : Nat → Nat → Value} {s : Xs}
theorem tms_begin (s : Xs) (n : Nat) (k : Fk) (h : n ∉ s.L.map Xe.n) : Wh.setL (tms s.L) s.N s.beg (n : Int) (s.clk + s.ack) = tms (s.L ++ [begX s n k]) := by
  unfold Wh.setL
  have h1 : (tms s.L).filter (fun t => decide (t.id ≠ (n : Int))) = tms s.L := by
    rw [List.filter_eq_self]
    intro t ht
    obtain ⟨x, hx, rfl⟩ := List.mem_map.1 ht
    have : x.n ≠ n := fun e => h (List.mem_map.2 ⟨x, hx, e⟩)
    have : ¬ (x.n : Int) = (n : Int) := by omega
    simp [this]
  rw [h1]
  simp [tms, begX]
theorem len_tms (L : List Xe) : (tms L).length = L.length := by simp [tms]
set_option maxRecDepth 20000 in
set_option maxHeartbeats 1600000 in
theorem start_t (h : XSt w p ms mn pw mw V s) (n : Nat) (hn : 1 ≤ n ∧ n ≤ mxX) (k : Fk) (hk : goodK k) (h1 : n ∉ s.L.map Xe.n) (h2 : k ∉ s.L.map Xe.k) (hl : s.L.length < 64) (hbg : s.beg < 9223372036854775807) :
    Calls Tryz.prog 31 #[.pointer (some ⟨p, 0, none⟩), .int .u64 (n : Int), fv k] w fun e w' => e = .returned (.tuple #[]) ∧ ∃ V', XSt w' p ms mn pw mw V' { s with beg := s.beg + 1, L := s.L ++ [begX s n k] } ∧ XStp w w' p ms mn pw mw V V' := by
  obtain ⟨w1, hw1⟩ : ∃ w1, w1 = w.alloc (.cells #[.int .i64 k.1, .int .u64 (k.2 : Int)] tFk) := ⟨_, rfl⟩
  have hb1 : Below w.heap.size w w1 := by rw [hw1]; exact alx (Below.refl _ _) (Nat.le_refl _) _
  have hx1 := h.below hb1
  have hbox1 : w1.heap[w.heap.size]? = some (.cells #[.int .i64 k.1, .int .u64 (k.2 : Int)] tFk (0, 0)) := by rw [hw1]; exact heap_alloc_new w _
  have hpk : w.heap.size ≠ p := fun e => by have := h.pl; omega
  have hsk : w.heap.size ≠ ms := fun e => by have := h.se.lt; omega
  have hnk : w.heap.size ≠ mn := fun e => by have := h.nu.lt; omega
  obtain ⟨w2, hw2⟩ : ∃ w2, w2 = w1.setCell ⟨p, 4, none⟩ (.int .u64 ((s.beg + 1 : Nat) : Int)) := ⟨_, rfl⟩
  have hf2 : ∀ b, b ≠ p → w2.heap[b]? = w1.heap[b]? := fun b hb => by rw [hw2]; exact heap_setCell_other w1 ⟨p, 4, none⟩ b _ hb
  have hs2 : Shw w2 p ms mn pw w.heap.size { s with beg := s.beg + 1 } k := ⟨by rw [hw2]; exact heap_setCell_same w1 p 4 (cellsX s ms mn pw) tXs _ hx1.blk, (hf2 _ hpk).trans hbox1⟩
  have hse2 : MapG KSe w2 ms (ses s.L) := hx1.se.kept (hf2 _ (fun e => h.ps e.symm))
  have hnu2 : MapG KNu w2 mn (nums s.L) := hx1.nu.kept (hf2 _ (fun e => h.pn e.symm))
  have hstp2 : XStp w w2 p ms mn pw mw V V := by rw [hw2]; exact (XStp.below hb1 p ms mn pw mw V).set 4 _
  have hwh2 : Wh.Wt w2 pw mw s.N s.beg (tms s.L) V := hx1.wh.chg (chgV (Chg.of_grown (F := fun b => b = p) (by rw [hw2]; exact gset1 w1 p 4 _) (fun b e => (Option.some.inj e).symm))) (fun b hb e => h.ap (e ▸ hb))
  have hc4 : w1.cell? ⟨p, 4, none⟩ = some (.int .u64 (s.beg : Int)) := hx1.cell 4
  have hf4 := hx1.frz 4
  have hgn : gr (ses s.L) n = ses s.L := gr_no (by rw [gk_ses]; exact h1)
  have hgk : gr (nums s.L) k = nums s.L := gr_no (by rw [gk_nums]; exact h2)
  have HLS : Hid ((ses s.L).length ≤ 8192) := by unfold Hid; rw [len_ses]; omega
  have HLN : Hid ((nums s.L).length ≤ 8192) := by unfold Hid nums; rw [List.length_map]; omega
  have HINV : Hid _ := h.inv.begin n k hn hk h1 h2 hl
  have HSMN : Hid _ := h.smn
  have HLTS : Hid (p < w.heap.size ∧ ms < w.heap.size ∧ mn < w.heap.size) := ⟨h.pl, h.se.lt, h.nu.lt⟩
  have HAP : Hid _ := h.ap
  have HAS : Hid _ := h.as_
  have HAN : Hid _ := h.an
  have HPS : Hid _ := h.ps
  have HPN : Hid _ := h.pn
  have HNU : Hid (n < 18446744073709551616) := by unfold Hid; unfold mxX at hn; omega
  have HKF : Hid _ := hk.inF
  have HPL : Hid (p < w2.heap.size) := (Array.getElem?_eq_some_iff.1 hs2.blk).1
  have HKL : Hid (w.heap.size < w2.heap.size) := (Array.getElem?_eq_some_iff.1 hs2.box).1
  have hclk : s.clk ≤ 281474976710655 := h.inv.c
  have hack : s.ack ≤ 4096 := h.inv.ak.2
  have hni : (n : Int) ≤ 281474976710655 := by have := hn.2; unfold mxX at this; omega
  have hbi : (s.beg : Int) < 9223372036854775807 := by omega
  have HWR1 : Hid (IntKind.i64.wrap (n : Int) = (n : Int)) := by unfold Hid; rw [IntKind.wrap_i64]; omega
  have HWR2 : Hid (IntKind.u64.wrap ((s.clk : Int) + (s.ack : Int)) = ((s.clk + s.ack : Nat) : Int)) := by unfold Hid; rw [IntKind.wrap_u64]; omega
  have HID : Hid (Wh.inI (n : Int)) := ⟨by omega, by omega⟩
  have HFW : Hid (∀ b, Wh.footW pw mw V b → b < w.heap.size) := fun b hb => h.wh.lt hb
  have hci : (s.clk : Int) ≤ 281474976710655 := by omega
  have hai : (s.ack : Int) ≤ 4096 := by omega
  have HT : Hid (Wh.setL (tms s.L) s.N s.beg (n : Int) (s.clk + s.ack) = tms (s.L ++ [begX s n k])) := tms_begin s n k h1
  have HLT : Hid ((tms s.L).length ≤ 4398046511104) := by unfold Hid; rw [len_tms]; omega
  have HWH : Hid _ := hwh2
  have HS2 : Hid _ := hs2
  have HSE : Hid _ := hse2
  have HNUM : Hid _ := hnu2
  have HST : Hid _ := hstp2
  have HW1 : Hid (w1 = _) := hw1
  have HW2 : Hid (w2 = _) := hw2
  have HPK : Hid _ := And.intro hpk (And.intro hsk hnk)
  have HGN : Hid _ := hgn
  have HGK : Hid _ := hgk
  have HBN : Hid (((s.beg + 1 : Nat) : Int) = (s.beg : Int) + 1) := by unfold Hid; omega
  have HBG : Hid (s.beg < 18446744073709551615) := by unfold Hid; omega
  clear h hn hk h1 h2 hl hb1 hx1 hbox1 hpk hsk hnk hf2 hs2 hse2 hnu2 hwh2 hstp2 hgn hgk hw1 hw2 hclk hack hbg
  go_enter Tryz.func31, Tryz.ntmps31
  rw [HW1.out] at hc4 hf4
  go_wp2
  rw [← HW1.out]
  rw [← HBN.out, ← HW2.out]
  clear hc4 hf4
  have hsh := fun u (hu : Shw u p ms mn pw w.heap.size { s with beg := s.beg + 1 } k) => hu.cells
  refine wp_region_noPanic ?_
  refine wp_region_held_drew (S := (fun u => Shw u p ms mn pw w.heap.size { s with beg := s.beg + 1 } k)) (by kernel_rfl) (by first | exact HS2.out.kept rfl rfl | exact HSD.out | assumption) (fun hHeld => ?_)
  refine tz (i := 0) 13 rfl rfl hHeld ?_
  simp only [pS]
  refine tz (i := 1) 14 rfl rfl hHeld ?_
  simp only [pS]
  refine tz (i := 2) 15 rfl rfl hHeld ?_
  simp only [pS]
  refine tz (i := 3) 16 rfl rfl hHeld ?_
  simp only [pS]
  refine tz (i := 4) 17 rfl rfl hHeld ?_
  simp only [pS]
  refine tz (i := 5) 18 rfl rfl hHeld ?_
  simp only [pS]
  refine tz (i := 6) 19 rfl rfl hHeld ?_
  simp only [pS]
  refine tz (i := 7) 20 rfl rfl hHeld ?_
  simp only [pS]
  refine tz (i := 8) 21 rfl rfl hHeld ?_
  simp only [pS]
  refine tz (i := 9) 22 rfl rfl hHeld ?_
  simp only [pS]
  refine tz (i := 10) 23 rfl rfl hHeld ?_
  simp only [pS]
  refine run_at (i := 11) rfl (by kernel_rfl) (by rfl) (fun K hK => ?_)
  simp only [List.getElem_toArray, List.getElem_cons_zero, List.getElem_cons_succ]
  (refine gwpo_upd uMs _ _ _ rfl (MapG.below (w' := w2.drew) HSE.out (Below.refl _ _).drew) HNU.out (k, s.beg + 1) (by rfl) (by rfl) (by rfl) HLS.out ?_; intro wD hrD hgD; have HSD : Hid (Shw wD p ms mn pw w.heap.size { s with beg := s.beg + 1 } k) := HS2.out.kept (hgD.block p HPL.out (fun e => HPS.out (Option.some.inj e))) (hgD.block _ HKL.out (fun e => HPK.out.2.1 (Option.some.inj e))); have HRD : Hid _ := hrD; have HGD : Hid (w2.grownBy wD (some ms)) := ⟨hgD.os, hgD.tape, hgD.output, hgD.size, hgD.block⟩; clear hrD hgD)
  refine hK.out _ _ (by first | exact HS2.out.kept rfl rfl | exact HSD.out | assumption) ?_
  clear hK K
  intro hHeld2
  clear hHeld
  have hHeld := hHeld2
  clear hHeld2
  try simp only [pS]
  refine wpAnyH_done (by kernel_rfl) ?_ _
  refine NoPanic.normal ?_
  go_wp2
  refine wp_region_noPanic ?_
  refine wp_region_held_drew (S := (fun u => Shw u p ms mn pw w.heap.size { s with beg := s.beg + 1 } k)) (by kernel_rfl) (by first | exact HSD.out.kept rfl rfl | exact HSE2.out | assumption) (fun hHeld => ?_)
  refine tz (i := 0) 24 rfl rfl hHeld ?_
  simp only [pS]
  refine tz (i := 1) 25 rfl rfl hHeld ?_
  simp only [pS]
  refine tz (i := 2) 26 rfl rfl hHeld ?_
  simp only [pS]
  refine tz (i := 3) 27 rfl rfl hHeld ?_
  simp only [pS]
  refine tz (i := 4) 28 rfl rfl hHeld ?_
  simp only [pS]
  refine tz (i := 5) 29 rfl rfl hHeld ?_
  simp only [pS]
  refine run_at (i := 6) rfl (by kernel_rfl) (by rfl) (fun K hK => ?_)
  simp only [List.getElem_toArray, List.getElem_cons_zero, List.getElem_cons_succ]
  (refine gwpo_upd uMn _ _ _ rfl (MapG.below (w' := wD.drew) (HNUM.out.kept (HGD.out.block mn HNUM.out.lt (fun e => HSMN.out (Option.some.inj e).symm))) (Below.refl _ _).drew) HKF.out n (by rfl) (by rfl) (by rfl) HLN.out ?_; intro wE hrE hgE; have HSE2 : Hid (Shw wE p ms mn pw w.heap.size { s with beg := s.beg + 1 } k) := HSD.out.kept (hgE.block p (Array.getElem?_eq_some_iff.1 HSD.out.blk).1 (fun e => HPN.out (Option.some.inj e))) (hgE.block _ (Array.getElem?_eq_some_iff.1 HSD.out.box).1 (fun e => HPK.out.2.2 (Option.some.inj e))); have HRE : Hid _ := hrE; have HGE : Hid (wD.grownBy wE (some mn)) := ⟨hgE.os, hgE.tape, hgE.output, hgE.size, hgE.block⟩; clear hrE hgE)
  refine hK.out _ _ (by first | exact HSD.out.kept rfl rfl | exact HSE2.out | assumption) ?_
  clear hK K
  intro hHeld2
  clear hHeld
  have hHeld := hHeld2
  clear hHeld2
  try simp only [pS]
  refine wpAnyH_done (by kernel_rfl) ?_ _
  refine NoPanic.normal ?_
  have hwhE : Wh.Wt wE pw mw s.N s.beg (tms s.L) V := (Wh.Wt.chg (Wh.Wt.chg HWH.out (chgV (Chg.of_grown (F := fun b => b = ms) (w := w2) (w' := wD) HGD.out (fun b e => (Option.some.inj e).symm))) (fun b hb e => HAS.out (e ▸ hb))) (chgV (Chg.of_grown (F := fun b => b = mn) (w := wD) (w' := wE) HGE.out (fun b e => (Option.some.inj e).symm))) (fun b hb e => HAN.out (e ▸ hb)))
  have HWHE : Hid _ := hwhE
  have HSET : Hid (∀ u : World, u = wE.drew → Calls Tryz.prog 49 #[.pointer (some ⟨pw, 0, none⟩), .int .i64 (n : Int), .int .u64 ((s.clk + s.ack : Nat) : Int)] u fun e w' => e = .returned (.int .i64 0) ∧ ∃ V', Wh.Wt w' pw mw s.N (s.beg + 1) (Wh.setL (tms s.L) s.N s.beg (n : Int) (s.clk + s.ack)) V' ∧ Wh.Stp u w' pw mw V V') := fun u hu => by
    subst hu
    exact Wh.set_t (Wh.Wt.below HWHE.out (Below.refl _ _).drew) (n : Int) (s.clk + s.ack) HID.out HLT.out HBG.out
  clear hwhE
  go_wp2
  refine wp_region_noPanic ?_
  refine wp_region_held_drew (S := (fun u => Shw u p ms mn pw w.heap.size { s with beg := s.beg + 1 } k)) (by kernel_rfl) (by first | exact HSE2.out.kept rfl rfl | exact HSF.out | assumption) (fun hHeld => ?_)
  refine tz (i := 0) 30 rfl rfl hHeld ?_
  simp only [pS]
  refine tz (i := 1) 31 rfl rfl hHeld ?_
  simp only [pS]
  refine tz (i := 2) 32 rfl rfl hHeld ?_
  simp only [pS]
  refine tz (i := 3) 33 rfl rfl hHeld ?_
  simp only [pS]
  refine tz (i := 4) 34 rfl rfl hHeld ?_
  simp only [pS]
  refine tz (i := 5) 35 rfl rfl hHeld ?_
  simp only [pS]
  refine tz (i := 6) 36 rfl rfl hHeld ?_
  simp only [pS]
  refine tz (i := 7) 37 rfl rfl hHeld ?_
  simp only [pS]
  refine tz (i := 8) 38 rfl rfl hHeld ?_
  simp only [pS]
  refine tz (i := 9) 39 rfl rfl hHeld ?_
  simp only [pS]
  refine tz (i := 10) 40 rfl rfl hHeld ?_
  simp only [pS]
  refine tz (i := 11) 41 rfl rfl hHeld ?_
  simp only [pS]
  refine tz (i := 12) 42 rfl rfl hHeld ?_
  simp only [pS]
  refine tz (i := 13) 43 rfl rfl hHeld ?_
  simp only [pS]
  refine tz (i := 14) 44 rfl rfl hHeld ?_
  simp only [pS]
  refine run_at (i := 15) rfl (by kernel_rfl) (by rfl) (fun K hK => ?_)
  simp only [List.getElem_toArray, List.getElem_cons_zero, List.getElem_cons_succ]
  go_simp
  (go_at_call 49; rw [HWR1.out, HWR2.out]; refine Calls.mono (HSET.out wE.drew rfl) ?_; rintro e9 wF ⟨rfl, V', hwF, hstF⟩; have HSF : Hid (Shw wF p ms mn pw w.heap.size { s with beg := s.beg + 1 } k) := HSE2.out.kept (hstF.chg.block p (Array.getElem?_eq_some_iff.1 HSE2.out.blk).1 HAP.out) (hstF.chg.block _ (Array.getElem?_eq_some_iff.1 HSE2.out.box).1 (fun e => Nat.lt_irrefl _ (HFW.out _ e))); have HWF : Hid _ := hwF; have HSTF : Hid _ := hstF; clear hwF hstF)
  go_wp2_with fail
  refine hK.out _ _ (by first | exact HSE2.out.kept rfl rfl | exact HSF.out | assumption) ?_
  clear hK K
  intro hHeld2
  clear hHeld
  have hHeld := hHeld2
  clear hHeld2
  try simp only [pS]
  refine wpAnyH_done (by kernel_rfl) ?_ _
  refine NoPanic.normal ?_
  go_wp2
  go_end0
  refine ⟨rfl, V', ?_, ?_⟩
  · have hFp := HSTF.out.new
    have hap : ∀ b, b < w.heap.size → ¬ Wh.footW pw mw V b → ¬ Wh.footW pw mw V' b := fun b hb h1 h2 => by
      rcases hFp b h2 with h3 | h3
      · exact h1 h3
      · have : w2.heap.size ≤ wE.heap.size := Nat.le_trans HGD.out.size HGE.out.size
        have : w.heap.size < w2.heap.size := HKL.out
        have : wE.heap.size ≤ b := h3
        omega
    refine ⟨HSF.out.blk, ?_, ?_, ?_, HINV.out, HSMN.out, hap p HLTS.out.1 HAP.out, hap ms HLTS.out.2.1 HAS.out, hap mn HLTS.out.2.2 HAN.out⟩
    · have h9 := HRD.out
      rw [HGN.out] at h9
      have e9 : ses (s.L ++ [begX s n k]) = ses s.L ++ [(n, (k, s.beg + 1))] := by simp [ses, begX]
      show MapG KSe wF ms (ses (s.L ++ [begX s n k]))
      rw [e9]
      refine (h9.kept (HGE.out.block ms h9.lt (fun e => HSMN.out (Option.some.inj e)))).kept (HSTF.out.chg.block ms ?_ HAS.out)
      exact Nat.lt_of_lt_of_le h9.lt HGE.out.size
    · have h9 := HRE.out
      rw [HGK.out] at h9
      have e9 : nums (s.L ++ [begX s n k]) = nums s.L ++ [(k, n)] := by simp [nums, begX]
      show MapG KNu wF mn (nums (s.L ++ [begX s n k]))
      rw [e9]
      exact h9.kept (HSTF.out.chg.block mn h9.lt HAN.out)
    · have h9 := HWF.out
      rw [HT.out] at h9
      exact h9
  · exact HST.out.trans ((XStp.of_grown (w := w2) (w' := wD) HGD.out (fun b e => .inr (.inl (Option.some.inj e).symm))).trans ((XStp.of_grown (w := wD) (w' := wE) HGE.out (fun b e => .inr (.inr (.inl (Option.some.inj e).symm)))).trans (XStp.of_wh (w := wE) (w' := wF) ⟨⟨HSTF.out.chg.os, HSTF.out.chg.tape, HSTF.out.chg.output, HSTF.out.chg.size, HSTF.out.chg.block⟩, HSTF.out.new⟩)))
end
end Go.Proofs.YtiedgcanndgmoaaGreatDoor
namespace Go.Proofs.YtiedgcanndgmoaaGreatDoor
set_option linter.unusedVariables false
set_option linter.unusedSimpArgs false
open Go.RowKit Go.Maps
section
variable {w w' : World} {p ms mn pw mw : Nat} {V : Nat → Nat → Value} {s : Xs} {W : List Wh.Tm}
theorem getS {L : List Xe} (h : MapG KSe w ms (ses L)) (hn : (L.map Xe.n).Nodup) {x : Xe} (hx : x ∈ L) (hr : x.n < 18446744073709551616) : ∀ u : World, u.heap[ms]? = w.heap[ms]? → (Instr.lookup tMs (.map (some ms)) (.int .u64 (x.n : Int)) false).run Tryz.prog u = .ok (.agg #[.int .i64 x.k.1, .int .u64 (x.k.2 : Int), .int .u64 (x.o : Int)]) u := fun u hu => by
  have h9 := (h.kept hu).get uMs zMs (s := x.n) hr
  rw [gl_ses_in hn hx] at h9
  exact h9
theorem fieldK (a b c : Value) (u : World) : (Instr.field 88 (.agg #[a, b, c]) 0).run Tryz.prog u = .ok (.agg #[a, b]) u := by kernel_rfl
set_option maxRecDepth 20000 in
set_option maxHeartbeats 1600000 in
theorem end_g (h : XSw w p ms mn pw mw V s W) (x : Xe) (hx : x ∈ s.L) (hW : W.length ≤ 64) :
    Calls Tryz.prog 34 #[.pointer (some ⟨p, 0, none⟩), .int .u64 (x.n : Int)] w fun e w' => e = .returned (fv x.k) ∧ ∃ V', XSw w' p ms mn pw mw V' { s with L := dropX s.L x.n } (W.filter (fun t => decide (t.id ≠ (x.n : Int)))) ∧ XStp w w' p ms mn pw mw V V' := by
  have hnn := h.inv.num x hx
  have hgk := h.inv.good x hx
  have hnu : x.n < 18446744073709551616 := by unfold mxX at hnn; omega
  obtain ⟨w1, hw1⟩ : ∃ w1, w1 = w.alloc (.cells #[.int .i64 0, .int .u64 0] tFk) := ⟨_, rfl⟩
  have hb1 : Below w.heap.size w w1 := by rw [hw1]; exact alx (Below.refl _ _) (Nat.le_refl _) _
  have hx1 := h.below hb1
  obtain ⟨w2, hw2⟩ : ∃ w2, w2 = w1.alloc (.cells #[.int .i64 x.k.1, .int .u64 (x.k.2 : Int)] tFk) := ⟨_, rfl⟩
  have hsz1 : w1.heap.size = w.heap.size + 1 := by rw [hw1]; simp
  have hsz2 : w2.heap.size = w.heap.size + 2 := by rw [hw2]; simp [hsz1]
  have hb2 : Below w.heap.size w w2 := by rw [hw2]; exact alx hb1 (by omega) _
  have hx2 := h.below hb2
  have hbox2 : w2.heap[w.heap.size + 1]? = some (.cells #[.int .i64 x.k.1, .int .u64 (x.k.2 : Int)] tFk (0, 0)) := by rw [hw2, ← hsz1]; exact heap_alloc_new w1 _
  have hres2 : w2.heap[w.heap.size]? = some (.cells #[.int .i64 0, .int .u64 0] tFk (0, 0)) := by
    rw [hw2, Below.heap_alloc _ _ _ (by omega), hw1]
    exact heap_alloc_new w _
  have hl1 := getS hx1.se hx1.inv.nn hx hnu w1 rfl
  have hc5 : w1.cell? ⟨p, 5, none⟩ = some (.map (some ms)) := hx1.cell 5
  have hc5' : w2.cell? ⟨p, 5, none⟩ = some (.map (some ms)) := hx2.cell 5
  obtain ⟨wD, hdel0, hseD, hgD⟩ := hx2.se.del uMs (s := x.n) hnu 0
  have hdel : (Builtin.delete_ #[76, 22] 0 #[.map (some ms), .int .u64 (x.n : Int)]).run Tryz.prog w2 = .ok (.tuple #[]) wD := hdel0
  clear hdel0
  rw [← ses_drop] at hseD
  have hpl := h.pl
  have hsl := h.se.lt
  have hnl := h.nu.lt
  have hsD : Shw wD p ms mn pw (w.heap.size + 1) s x.k := ⟨(hgD.block p (by omega) (fun e => h.ps (Option.some.inj e))).trans hx2.blk, (hgD.block _ (by omega) (fun e => by have := Option.some.inj e; omega)).trans hbox2⟩
  have hresD := (hgD.block w.heap.size (by omega) (fun e => by have := Option.some.inj e; omega)).trans hres2
  have hnuD : MapG KNu wD mn (nums s.L) := hx2.nu.kept (hgD.block mn (by omega) (fun e => h.smn (Option.some.inj e).symm))
  have hwhD : Wh.Wt wD pw mw s.N s.beg W V := hx2.wh.chg (chgV (Chg.of_grown (F := fun b => b = ms) hgD (fun b e => (Option.some.inj e).symm))) (fun b hb e => h.as_ (e ▸ hb))
  have hstD : XStp w wD p ms mn pw mw V V := (XStp.below hb2 p ms mn pw mw V).trans (XStp.of_grown hgD (fun b e => .inr (.inl (Option.some.inj e).symm)))
  rw [hw1] at hl1 hc5
  rw [hw2, hw1] at hc5' hdel
  have hfk := fun u => fieldK (.int .i64 x.k.1) (.int .u64 (x.k.2 : Int)) (.int .u64 (x.o : Int)) u
  have HSZD : Hid (w.heap.size + 2 ≤ wD.heap.size) := by unfold Hid; have := hgD.size; omega
  have HSD : Hid _ := hsD
  have HRES : Hid _ := hresD
  have HSE : Hid _ := hseD
  have HNUD : Hid _ := hnuD
  have HWHD : Hid _ := hwhD
  have HSTD : Hid _ := hstD
  have HKF : Hid _ := hgk.inF
  have HLTS : Hid (p < w.heap.size ∧ ms < w.heap.size ∧ mn < w.heap.size) := ⟨hpl, hsl, hnl⟩
  have HPN : Hid _ := h.pn
  have HSMN : Hid _ := h.smn
  have HAP : Hid _ := h.ap
  have HAS : Hid _ := h.as_
  have HAN : Hid _ := h.an
  have HFW : Hid (∀ b, Wh.footW pw mw V b → b < w.heap.size) := fun b hb => h.wh.lt hb
  have HINV : Hid (XInv { s with L := dropX s.L x.n }) := h.inv.drop _
  have HND : Hid _ := nums_drop h.inv.nn h.inv.nk hx
  have HLT : Hid (W.length ≤ 4398046511104) := by unfold Hid; omega
  have HID : Hid (Wh.inI (x.n : Int)) := by unfold mxX at hnn; exact ⟨by omega, by omega⟩
  have hwr : IntKind.i64.wrap (x.n : Int) = (x.n : Int) := by unfold mxX at hnn; rw [IntKind.wrap_i64]; omega
  have HWR : Hid _ := hwr
  clear hw1 hw2 hsz1 hsz2 hnn hgk hb1 hb2 hx1 hx2 hbox2 hres2 hpl hsl hnl hsD hresD hseD hnuD hwhD hstD hgD h hx hnu hwr hW
  go_enter Tryz.func34, Tryz.ntmps34
  go_wp2
  clear hc5 hc5' hl1 hdel hfk
  have hsh := fun u (hu : Shw u p ms mn pw (w.heap.size + 1) s x.k) => hu.cells
  refine wp_region_noPanic ?_
  refine wp_region_held_drew (S := (fun u => Shw u p ms mn pw (w.heap.size + 1) s x.k)) (by kernel_rfl) (by first | exact HSD.out.kept rfl rfl | exact HSE2.out | assumption) (fun hHeld => ?_)
  refine tz (i := 0) 18 rfl rfl hHeld ?_
  simp only [pS]
  refine tz (i := 1) 19 rfl rfl hHeld ?_
  simp only [pS]
  refine tz (i := 2) 20 rfl rfl hHeld ?_
  simp only [pS]
  refine tz (i := 3) 21 rfl rfl hHeld ?_
  simp only [pS]
  refine tz (i := 4) 22 rfl rfl hHeld ?_
  simp only [pS]
  refine run_at (i := 5) rfl (by kernel_rfl) (by rfl) (fun K hK => ?_)
  simp only [List.getElem_toArray, List.getElem_cons_zero, List.getElem_cons_succ]
  (refine gwpo_del uMn _ _ rfl (MapG.below (w' := wD.drew) HNUD.out (Below.refl _ _).drew) HKF.out (by rfl) (by rfl) ?_; intro wE hrE hgE; have HSE2 : Hid (Shw wE p ms mn pw (w.heap.size + 1) s x.k) := HSD.out.kept (hgE.block p (Array.getElem?_eq_some_iff.1 HSD.out.blk).1 (fun e => HPN.out (Option.some.inj e))) (hgE.block _ (Array.getElem?_eq_some_iff.1 HSD.out.box).1 (fun e => by have := Option.some.inj e; have := HLTS.out.2.2; omega)); have HRESE : Hid _ := (hgE.block w.heap.size (Array.getElem?_eq_some_iff.1 HRES.out).1 (fun e => by have := Option.some.inj e; have := HLTS.out.2.2; omega)).trans HRES.out; have HRE : Hid _ := hrE; have HGE : Hid (wD.grownBy wE (some mn)) := ⟨hgE.os, hgE.tape, hgE.output, hgE.size, hgE.block⟩; clear hrE hgE)
  refine hK.out _ _ (by first | exact HSD.out.kept rfl rfl | exact HSE2.out | assumption) ?_
  clear hK K
  intro hHeld2
  clear hHeld
  have hHeld := hHeld2
  clear hHeld2
  try simp only [pS]
  refine wpAnyH_done (by kernel_rfl) ?_ _
  refine NoPanic.normal ?_
  have hc7 := (HSE2.out.cells).2.2.2.2.2.1
  have HSTOP : Hid (∀ z, z = (x.n : Int) → Calls Tryz.prog 53 #[.pointer (some ⟨pw, 0, none⟩), .int .i64 z] wE fun e w' => e = .returned (.bool (decide ((x.n : Int) ∈ W.map Wh.Tm.id))) ∧ ∃ V', Wh.Wt w' pw mw s.N s.beg (W.filter (fun t => decide (t.id ≠ (x.n : Int)))) V' ∧ Wh.Stp wE w' pw mw V V') := fun z hz => by
    subst hz
    exact Wh.stop_t (Wh.Wt.chg HWHD.out (chgV (Chg.of_grown (F := fun b => b = mn) (w := wD) (w' := wE) HGE.out (fun b e => (Option.some.inj e).symm))) (fun b hb e => HAN.out (e ▸ hb))) (x.n : Int) HID.out HLT.out
  clear hsh
  go_wp2_with fail
  refine Calls.mono (HSTOP.out _ (by have h9 := HWR.out; first | exact h9 | (have h8 := HID.out.1; have h7 := HID.out.2; unfold wrap64; omega))) ?_
  rintro e9 wF ⟨rfl, V', hwF, hstF⟩
  have HSF : Hid (Shw wF p ms mn pw (w.heap.size + 1) s x.k) := HSE2.out.kept (hstF.chg.block p (Array.getElem?_eq_some_iff.1 HSE2.out.blk).1 HAP.out) (hstF.chg.block _ (Array.getElem?_eq_some_iff.1 HSE2.out.box).1 (fun e => by have := HFW.out _ e; omega))
  have hRF := (hstF.chg.block w.heap.size (Array.getElem?_eq_some_iff.1 HRESE.out).1 (fun e => Nat.lt_irrefl _ (HFW.out _ e))).trans HRESE.out
  have hk1 := HSF.out.cells.2.2.2.2.2.2.1
  have hk2 := HSF.out.cells.2.2.2.2.2.2.2
  have hr0 : wF.cell? ⟨w.heap.size, 0, none⟩ = some (.int .i64 0) := (by rw [cell_of_row _ _ _ _ _ _ hRF]; rfl)
  have hr1 : wF.cell? ⟨w.heap.size, 1, none⟩ = some (.int .u64 0) := (by rw [cell_of_row _ _ _ _ _ _ hRF]; rfl)
  have hf0 : wF.frozen? ⟨w.heap.size, 0, none⟩ = false := (by simp [World.frozen?, hRF])
  have hf1 : wF.frozen? ⟨w.heap.size, 1, none⟩ = false := (by simp [World.frozen?, hRF])
  have HRF : Hid _ := hRF
  have HWF : Hid _ := hwF
  have HSTF : Hid _ := hstF
  clear hwF hstF hRF
  go_wp2
  have hfin : ((wF.setCell ⟨w.heap.size, 0, none⟩ (.int .i64 x.k.1)).setCell ⟨w.heap.size, 1, none⟩ (.int .u64 (x.k.2 : Int))).heap[w.heap.size]? = some (.cells #[.int .i64 x.k.1, .int .u64 (x.k.2 : Int)] tFk (0, 0)) := heap_setCell_same _ w.heap.size 1 _ tFk _ (heap_setCell_same wF w.heap.size 0 _ tFk _ HRF.out)
  refine bodyPost_ret (v := fv x.k) (results_cell_row rfl _ _ w.heap.size tFk _ (0, 0) _ rfl hfin Tryz.underlying37 rfl (by kernel_rfl)) rfl ?_
  have hszE : w.heap.size + 2 ≤ wE.heap.size := Nat.le_trans HSZD.out HGE.out.size
  have hFp := HSTF.out.new
  have hap : ∀ b, b < w.heap.size → ¬ Wh.footW pw mw V b → ¬ Wh.footW pw mw V' b := fun b hb h1 h2 => by
    rcases hFp b h2 with h3 | h3
    · exact h1 h3
    · omega
  have hlo : ∀ b, footX p ms mn pw mw V' b → b ≠ w.heap.size := fun b hb e => by
    rcases hb with h3 | h3 | h3 | h3
    · have := HLTS.out.1; omega
    · have := HLTS.out.2.1; omega
    · have := HLTS.out.2.2; omega
    · rcases hFp b h3 with h4 | h4
      · have := HFW.out _ h4; omega
      · omega
  have hxF : XSw wF p ms mn pw mw V' { s with L := dropX s.L x.n } (W.filter (fun t => decide (t.id ≠ (x.n : Int)))) := by
    refine ⟨HSF.out.blk, ?_, ?_, ?_, HINV.out, HSMN.out, hap p HLTS.out.1 HAP.out, hap ms HLTS.out.2.1 HAS.out, hap mn HLTS.out.2.2 HAN.out⟩
    · have h9 := HSE.out
      exact (h9.kept (HGE.out.block ms h9.lt (fun e => HSMN.out (Option.some.inj e)))).kept (HSTF.out.chg.block ms (Nat.lt_of_lt_of_le h9.lt HGE.out.size) HAS.out)
    · have h9 := HRE.out
      rw [← HND.out] at h9
      exact h9.kept (HSTF.out.chg.block mn h9.lt HAN.out)
    · exact HWF.out
  refine ⟨rfl, V', hxF.chg (Chg.of_grown (F := fun b => b = w.heap.size) (grow_trans (gset1 _ _ _ _) (gset1 _ _ _ _)) (fun b e => (Option.some.inj e).symm)) hlo, ?_⟩
  have h1 : XStp w wF p ms mn pw mw V V' := HSTD.out.trans ((XStp.of_grown (w := wD) (w' := wE) HGE.out (fun b e => .inr (.inr (.inl (Option.some.inj e).symm)))).trans (XStp.of_wh (w := wE) (w' := wF) HSTF.out))
  refine ⟨?_, h1.new⟩
  refine h1.chg.trans (Chg.of_grown (F := fun b => b = w.heap.size) (grow_trans (gset1 _ _ _ _) (gset1 _ _ _ _)) (fun b e => (Option.some.inj e).symm)) (fun b hb => .inr (by omega))
theorem end_t (h : XSt w p ms mn pw mw V s) (x : Xe) (hx : x ∈ s.L) :
    Calls Tryz.prog 34 #[.pointer (some ⟨p, 0, none⟩), .int .u64 (x.n : Int)] w fun e w' => e = .returned (fv x.k) ∧ ∃ V', XSt w' p ms mn pw mw V' { s with L := dropX s.L x.n } ∧ XStp w w' p ms mn pw mw V V' := by
  refine (end_g h x hx (by rw [len_tms]; exact h.inv.len)).mono ?_
  rintro e w' ⟨he, V', h1, h2⟩
  rw [← tms_drop] at h1
  exact ⟨he, V', h1, h2⟩
end
end Go.Proofs.YtiedgcanndgmoaaGreatDoor
namespace Go.Proofs.YtiedgcanndgmoaaGreatDoor
set_option linter.unusedVariables false
set_option linter.unusedSimpArgs false
open Go.RowKit Go.Maps
section
variable {w w' : World} {p ms mn pw mw : Nat} {V : Nat → Nat → Value} {s : Xs}
theorem lookN_in {L : List Xe} (h : MapG KNu w mn (nums L)) (hn : (L.map Xe.k).Nodup) {x : Xe} (hx : x ∈ L) (hk : inF x.k) : ∀ u : World, u.heap[mn]? = w.heap[mn]? → (Instr.lookup tMn (.map (some mn)) (.agg #[.int .i64 x.k.1, .int .u64 (x.k.2 : Int)]) true).run Tryz.prog u = .ok (.tuple #[.int .u64 (x.n : Int), .bool true]) u := fun u hu => (h.kept hu).look_in uMn zMn (s := x.k) hk (gl_nums_in hn hx)
theorem lookN_no {L : List Xe} (h : MapG KNu w mn (nums L)) {k : Fk} (hx : k ∉ L.map Xe.k) (hk : inF k) : ∀ u : World, u.heap[mn]? = w.heap[mn]? → (Instr.lookup tMn (.map (some mn)) (.agg #[.int .i64 k.1, .int .u64 (k.2 : Int)]) true).run Tryz.prog u = .ok (.tuple #[.int .u64 0, .bool false]) u := fun u hu => (h.kept hu).look_no uMn zMn (s := k) hk (gl_nums_no hx)
set_option maxRecDepth 20000 in
set_option maxHeartbeats 1600000 in
theorem xstop_in (h : XSt w p ms mn pw mw V s) (x : Xe) (hx : x ∈ s.L) :
    Calls Tryz.prog 17 #[.pointer (some ⟨p, 0, none⟩), fv x.k] w fun e w' => e = .returned (.tuple #[.int .u64 (x.n : Int), .bool true]) ∧ ∃ V', XSt w' p ms mn pw mw V' { s with L := dropX s.L x.n } ∧ XStp w w' p ms mn pw mw V V' := by
  have hkf := (h.inv.good x hx).inF
  obtain ⟨w1, hw1⟩ : ∃ w1, w1 = w.alloc (.cells #[.int .i64 x.k.1, .int .u64 (x.k.2 : Int)] tFk) := ⟨_, rfl⟩
  have hb1 : Below w.heap.size w w1 := by rw [hw1]; exact alx (Below.refl _ _) (Nat.le_refl _) _
  have hx1 := h.below hb1
  have hs1 : Shw w1 p ms mn pw w.heap.size s x.k := ⟨hx1.blk, by rw [hw1]; exact heap_alloc_new w _⟩
  have hsh := fun u (hu : Shw u p ms mn pw w.heap.size s x.k ∧ u.heap[mn]? = w1.heap[mn]?) => And.intro hu.1.cells (lookN_in hx1.nu h.inv.nk hx hkf u hu.2)
  have HM : Hid _ := xmade_t hx1
  have HW1 : Hid (w1 = _) := hw1
  have HS1 : Hid _ := hs1
  have HB1 : Hid _ := hb1
  have HE : Hid _ := end_t (hx1.below (Below.refl _ _).drew) x hx
  clear h hx hb1 hx1 hs1 hkf hw1
  go_enter Tryz.func17, Tryz.ntmps17
  go_wp2_with fail
  rw [← HW1.out]
  refine Calls.mono HM.out ?_
  rintro e w2 ⟨rfl, hq⟩
  have hq := hq.symm
  subst hq
  go_wp2
  refine wp_region_noPanic ?_
  refine wp_region_held_drew (S := (fun u => Shw u p ms mn pw w.heap.size s x.k ∧ u.heap[mn]? = w1.heap[mn]?)) (by kernel_rfl) (by first | exact ⟨HS1.out.kept rfl rfl, rfl⟩ | assumption) (fun hHeld => ?_)
  refine tz (i := 0) 12 rfl rfl hHeld ?_
  simp only [pS]
  refine tz (i := 1) 13 rfl rfl hHeld ?_
  simp only [pS]
  refine tz (i := 2) 14 rfl rfl hHeld ?_
  simp only [pS]
  refine tz (i := 3) 15 rfl rfl hHeld ?_
  simp only [pS]
  refine tz (i := 4) 16 rfl rfl hHeld ?_
  simp only [pS]
  refine tz (i := 5) 17 rfl rfl hHeld ?_
  simp only [pS]
  refine tz (i := 6) 11 rfl rfl hHeld ?_
  simp only [pS]
  refine tz (i := 7) 18 rfl rfl hHeld ?_
  simp only [pS]
  refine tz (i := 8) 19 rfl rfl hHeld ?_
  simp only [pS]
  refine tz (i := 9) 6 rfl rfl hHeld ?_
  simp only [pS]
  refine tz (i := 10) 7 rfl rfl hHeld ?_
  simp only [pS]
  refine wpAnyH_done (by kernel_rfl) ?_ _
  refine NoPanic.normal ?_
  go_wp2_with fail
  refine Calls.mono HE.out ?_
  rintro e w2 ⟨rfl, V', h1, h2⟩
  have H1 : Hid _ := h1
  have H2 : Hid _ := h2
  clear h1 h2
  go_wp2
  go_ret2
  exact ⟨rfl, V', H1.out, (XStp.below HB1.out.drew p ms mn pw mw V).trans H2.out⟩
set_option maxRecDepth 20000 in
set_option maxHeartbeats 1600000 in
theorem xstop_out (h : XSt w p ms mn pw mw V s) (k : Fk) (hkf : inF k) (hx : k ∉ s.L.map Xe.k) :
    Calls Tryz.prog 17 #[.pointer (some ⟨p, 0, none⟩), fv k] w fun e w' => e = .returned (.tuple #[.int .u64 0, .bool false]) ∧ Below w.heap.size w w' := by
  obtain ⟨w1, hw1⟩ : ∃ w1, w1 = w.alloc (.cells #[.int .i64 k.1, .int .u64 (k.2 : Int)] tFk) := ⟨_, rfl⟩
  have hb1 : Below w.heap.size w w1 := by rw [hw1]; exact alx (Below.refl _ _) (Nat.le_refl _) _
  have hx1 := h.below hb1
  have hs1 : Shw w1 p ms mn pw w.heap.size s k := ⟨hx1.blk, by rw [hw1]; exact heap_alloc_new w _⟩
  have hsh := fun u (hu : Shw u p ms mn pw w.heap.size s k ∧ u.heap[mn]? = w1.heap[mn]?) => And.intro hu.1.cells (lookN_no hx1.nu hx hkf u hu.2)
  have HM : Hid _ := xmade_t hx1
  have HW1 : Hid (w1 = _) := hw1
  have HS1 : Hid _ := hs1
  have HB1 : Hid _ := hb1
  clear h hx hb1 hx1 hs1 hkf hw1
  go_enter Tryz.func17, Tryz.ntmps17
  go_wp2_with fail
  rw [← HW1.out]
  refine Calls.mono HM.out ?_
  rintro e w2 ⟨rfl, hq⟩
  have hq := hq.symm
  subst hq
  go_wp2
  refine wp_region_noPanic ?_
  refine wp_region_held_drew (S := (fun u => Shw u p ms mn pw w.heap.size s k ∧ u.heap[mn]? = w1.heap[mn]?)) (by kernel_rfl) (by first | exact ⟨HS1.out.kept rfl rfl, rfl⟩ | assumption) (fun hHeld => ?_)
  refine tz (i := 0) 12 rfl rfl hHeld ?_
  simp only [pS]
  refine tz (i := 1) 13 rfl rfl hHeld ?_
  simp only [pS]
  refine tz (i := 2) 14 rfl rfl hHeld ?_
  simp only [pS]
  refine tz (i := 3) 15 rfl rfl hHeld ?_
  simp only [pS]
  refine tz (i := 4) 16 rfl rfl hHeld ?_
  simp only [pS]
  refine tz (i := 5) 17 rfl rfl hHeld ?_
  simp only [pS]
  refine tz (i := 6) 11 rfl rfl hHeld ?_
  simp only [pS]
  refine tz (i := 7) 18 rfl rfl hHeld ?_
  simp only [pS]
  refine tz (i := 8) 19 rfl rfl hHeld ?_
  simp only [pS]
  refine tz (i := 9) 6 rfl rfl hHeld ?_
  simp only [pS]
  refine tz (i := 10) 7 rfl rfl hHeld ?_
  simp only [pS]
  refine wpAnyH_done (by kernel_rfl) ?_ _
  refine NoPanic.normal ?_
  go_wp2
  go_ret2
  exact ⟨rfl, HB1.out.drew⟩
end
end Go.Proofs.YtiedgcanndgmoaaGreatDoor
