import Derived.Test.YtiedgcanndgmoaaGreatDoorXK
import Derived.Test.YtiedgcanndgmoaaGreatDoorCA
import Derived.Test.YtiedgcanndgmoaaGreatDoorVWhZ
namespace Go.Proofs.YtiedgcanndgmoaaGreatDoor
set_option linter.unusedVariables false
set_option linter.unusedSimpArgs false
open Go.RowKit Go.Maps
abbrev mxX : Nat := 281474976710655
/-- a session: number, key, order, when it is over, when its timer rings -/
structure Xe where
  n : Nat
  k : Fk
  o : Nat
  ov : Nat
  at_ : Nat
def ses (L : List Xe) : List (Nat × (Fk × Nat)) := L.map (fun x => (x.n, (x.k, x.o)))
def nums (L : List Xe) : List (Fk × Nat) := L.map (fun x => (x.k, x.n))
def tms (L : List Xe) : List Wh.Tm := L.map (fun x => ⟨(x.n : Int), x.at_, x.o⟩)
/-- a sender as a value -/
structure Xs where
  mtu : Nat
  ack : Nat
  ep : Nat
  clk : Nat
  beg : Nat
  N : Nat
  L : List Xe
def goodK (k : Fk) : Prop := 0 ≤ k.1 ∧ k.1 < 8 ∧ k.2 ≤ mxX
theorem goodK.inF {k : Fk} (h : goodK k) : inF k := by
  obtain ⟨h1, h2, h3⟩ := h
  exact ⟨by omega, by omega, by unfold mxX at h3; omega⟩
structure XInv (s : Xs) : Prop where
  mt : 16 ≤ s.mtu ∧ s.mtu ≤ 1024
  ak : 1 ≤ s.ack ∧ s.ack ≤ 4096
  e : 1 ≤ s.ep ∧ s.ep ≤ mxX
  c : s.clk ≤ mxX
  nc : s.N ≤ s.clk
  len : s.L.length ≤ 64
  num : ∀ x, x ∈ s.L → 1 ≤ x.n ∧ x.n ≤ mxX
  good : ∀ x, x ∈ s.L → goodK x.k
  nn : (s.L.map Xe.n).Nodup
  nk : (s.L.map Xe.k).Nodup
  od : s.L.Pairwise (fun a b => a.o < b.o)
  le : ∀ x, x ∈ s.L → x.o ≤ s.beg
  op : s.L.Pairwise (fun a b => a.ov ≤ b.ov)
  ov : ∀ x, x ∈ s.L → x.ov ≤ min (s.clk + s.ack) mxX
  at_ : ∀ x, x ∈ s.L → x.at_ = x.ov ∨ (x.at_ = mxX + 1 ∧ x.ov = mxX)
abbrev tXs : TypeId := 79
abbrev cellsX (s : Xs) (ms mn pw : Nat) : Array Value := #[.int .i64 (s.mtu : Int), .int .u64 (s.ack : Int), .int .u64 (s.ep : Int), .int .u64 (s.clk : Int), .int .u64 (s.beg : Int), .map (some ms), .map (some mn), .pointer (some ⟨pw, 0, none⟩)]
def footX (p ms mn pw mw : Nat) (V : Nat → Nat → Value) (b : Nat) : Prop := b = p ∨ b = ms ∨ b = mn ∨ Wh.footW pw mw V b
/-- a sender in memory -/
structure XSw (w : World) (p ms mn pw mw : Nat) (V : Nat → Nat → Value) (s : Xs) (W : List Wh.Tm) : Prop where
  blk : w.heap[p]? = some (.cells (cellsX s ms mn pw) tXs (0, 0))
  se : MapG KSe w ms (ses s.L)
  nu : MapG KNu w mn (nums s.L)
  wh : Wh.Wt w pw mw s.N s.beg W V
  inv : XInv s
  smn : ms ≠ mn
  ap : ¬ Wh.footW pw mw V p
  as_ : ¬ Wh.footW pw mw V ms
  an : ¬ Wh.footW pw mw V mn
/-- .. whose wheel has a timer of each session -/
abbrev XSt (w : World) (p ms mn pw mw : Nat) (V : Nat → Nat → Value) (s : Xs) : Prop := XSw w p ms mn pw mw V s (tms s.L)
/-- what a call on a sender may change -/
structure XStp (w w' : World) (p ms mn pw mw : Nat) (V V' : Nat → Nat → Value) : Prop where
  chg : Chg (footX p ms mn pw mw V) w w'
  new : ∀ b, footX p ms mn pw mw V' b → footX p ms mn pw mw V b ∨ w.heap.size ≤ b
theorem chgW {F : Nat → Prop} {w w' : World} (h : Wh.Chg F w w') : Chg F w w' := ⟨h.os, h.tape, h.output, h.size, h.block⟩
theorem chgV {F : Nat → Prop} {w w' : World} (h : Chg F w w') : Wh.Chg F w w' := ⟨h.os, h.tape, h.output, h.size, h.block⟩
section
variable {w w' : World} {p ms mn pw mw : Nat} {V V' V'' : Nat → Nat → Value} {s : Xs} {W : List Wh.Tm}
theorem XStp.refl (w : World) (p ms mn pw mw : Nat) (V : Nat → Nat → Value) : XStp w w p ms mn pw mw V V := ⟨Chg.refl _ _, fun _ h => .inl h⟩
theorem XStp.below (h : Below w.heap.size w w') (p ms mn pw mw : Nat) (V : Nat → Nat → Value) : XStp w w' p ms mn pw mw V V := ⟨Chg.of_below h, fun _ h => .inl h⟩
theorem XStp.trans {a b c : World} (h : XStp a b p ms mn pw mw V V') (k : XStp b c p ms mn pw mw V' V'') : XStp a c p ms mn pw mw V V'' :=
  ⟨h.chg.trans k.chg h.new, fun i hi => by
    rcases k.new i hi with h1 | h1
    · exact h.new i h1
    · exact .inr (Nat.le_trans h.chg.size h1)⟩
theorem XStp.of_wh (h : Wh.Stp w w' pw mw V V') : XStp w w' p ms mn pw mw V V' :=
  ⟨(chgW h.chg).mono (fun i hi => .inr (.inr (.inr hi))), fun b hb => by
    rcases hb with h1 | h1 | h1 | h1
    · exact .inl (.inl h1)
    · exact .inl (.inr (.inl h1))
    · exact .inl (.inr (.inr (.inl h1)))
    · rcases h.new b h1 with h2 | h2
      · exact .inl (.inr (.inr (.inr h2)))
      · exact .inr h2⟩
theorem XStp.of_grown {row : Option Nat} (h : w.grownBy w' row) (hr : ∀ b, row = some b → footX p ms mn pw mw V b) : XStp w w' p ms mn pw mw V V := ⟨Chg.of_grown h hr, fun _ h => .inl h⟩
theorem XSw.pl (h : XSw w p ms mn pw mw V s W) : p < w.heap.size := (Array.getElem?_eq_some_iff.1 h.blk).1
theorem XSw.lt (h : XSw w p ms mn pw mw V s W) {b : Nat} (hb : footX p ms mn pw mw V b) : b < w.heap.size := by
  rcases hb with rfl | rfl | rfl | hb
  · exact h.pl
  · exact h.se.lt
  · exact h.nu.lt
  · exact h.wh.lt hb
theorem XSw.ps (h : XSw w p ms mn pw mw V s W) : p ≠ ms := fun e => by
  obtain ⟨es, cl, h9⟩ := h.se.at_
  rw [← e, h.blk] at h9
  cases h9
theorem XSw.pn (h : XSw w p ms mn pw mw V s W) : p ≠ mn := fun e => by
  obtain ⟨es, cl, h9⟩ := h.nu.at_
  rw [← e, h.blk] at h9
  cases h9
theorem XSw.chg {G : Nat → Prop} (h : XSw w p ms mn pw mw V s W) (hc : Chg G w w') (hG : ∀ b, footX p ms mn pw mw V b → ¬ G b) : XSw w' p ms mn pw mw V s W :=
  ⟨(hc.block p h.pl (hG p (.inl rfl))).trans h.blk, h.se.kept (hc.block ms h.se.lt (hG ms (.inr (.inl rfl)))), h.nu.kept (hc.block mn h.nu.lt (hG mn (.inr (.inr (.inl rfl))))), h.wh.chg (chgV hc) (fun b hb => hG b (.inr (.inr (.inr hb)))), h.inv, h.smn, h.ap, h.as_, h.an⟩
theorem XSw.below (h : XSw w p ms mn pw mw V s W) (hb : Below w.heap.size w w') : XSw w' p ms mn pw mw V s W := h.chg (Chg.of_below (F := fun _ => False) hb) (fun _ _ h => h)
theorem XSw.cell (h : XSw w p ms mn pw mw V s W) (i : Nat) : w.cell? ⟨p, i, none⟩ = (cellsX s ms mn pw)[i]? := by rw [cell_of_row _ _ _ _ _ _ h.blk]
theorem XSw.frz (h : XSw w p ms mn pw mw V s W) (i : Nat) : w.frozen? ⟨p, i, none⟩ = false := by simp [World.frozen?, h.blk]
/-- a cell of the sender's own is written -/
theorem XSw.setClk (h : XSw w p ms mn pw mw V s W) (c : Nat) (hc : s.clk ≤ c) (hm : c ≤ mxX) : XSw (w.setCell ⟨p, 3, none⟩ (.int .u64 (c : Int))) p ms mn pw mw V { s with clk := c } W := by
  have hg := gset1 w p 3 (.int .u64 (c : Int))
  have hf : ∀ b, b ≠ p → (w.setCell ⟨p, 3, none⟩ (.int .u64 (c : Int))).heap[b]? = w.heap[b]? := fun b hb => heap_setCell_other w ⟨p, 3, none⟩ b _ hb
  refine ⟨?_, h.se.kept (hf _ (fun e => h.ps e.symm)), h.nu.kept (hf _ (fun e => h.pn e.symm)), h.wh.chg (chgV (Chg.of_grown (F := fun b => b = p) hg (fun b e => (Option.some.inj e).symm))) (fun b hb e => h.ap (e ▸ hb)), ?_, h.smn, h.ap, h.as_, h.an⟩
  · exact heap_setCell_same w p 3 (cellsX s ms mn pw) tXs _ h.blk
  · have i := h.inv
    exact ⟨i.mt, i.ak, i.e, hm, Nat.le_trans i.nc hc, i.len, i.num, i.good, i.nn, i.nk, i.od, i.le, i.op, fun x hx => by have := i.ov x hx; show x.ov ≤ min (c + s.ack) mxX; omega, i.at_⟩
theorem XStp.set (h : XStp w w' p ms mn pw mw V V') (i : Nat) (v : Value) : XStp w (w'.setCell ⟨p, i, none⟩ v) p ms mn pw mw V V' := h.trans (XStp.of_grown (gset1 w' p i v) (fun b e => .inl (Option.some.inj e).symm))
theorem gk_ses (L : List Xe) : gk (ses L) = L.map Xe.n := by simp [gk, ses, Function.comp_def]
theorem gk_nums (L : List Xe) : gk (nums L) = L.map Xe.k := by simp [gk, nums, Function.comp_def]
theorem len_ses (L : List Xe) : (ses L).length = L.length := by simp [ses]
theorem gl_ses_in {L : List Xe} (hn : (L.map Xe.n).Nodup) {x : Xe} (hx : x ∈ L) : gl (ses L) x.n = some (x.k, x.o) := by
  have h1 : (x.n, (x.k, x.o)) ∈ ses L := List.mem_map.2 ⟨x, hx, rfl⟩
  exact gl_of (x := (x.n, (x.k, x.o))) (by rw [gk_ses]; exact hn) h1
theorem gl_nums_in {L : List Xe} (hn : (L.map Xe.k).Nodup) {x : Xe} (hx : x ∈ L) : gl (nums L) x.k = some x.n := by
  have h1 : (x.k, x.n) ∈ nums L := List.mem_map.2 ⟨x, hx, rfl⟩
  exact gl_of (x := (x.k, x.n)) (by rw [gk_nums]; exact hn) h1
theorem gl_ses_no {L : List Xe} {n : Nat} (h : n ∉ L.map Xe.n) : gl (ses L) n = none := gl_none.2 (by rw [gk_ses]; exact h)
theorem gl_nums_no {L : List Xe} {k : Fk} (h : k ∉ L.map Xe.k) : gl (nums L) k = none := gl_none.2 (by rw [gk_nums]; exact h)
theorem gr_no {κ α : Type} [DecidableEq κ] {L : List (κ × α)} {s : κ} (h : s ∉ gk L) : gr L s = L := by
  unfold gr
  rw [List.filter_eq_self]
  intro x hx
  have : x.1 ≠ s := fun e => h (e ▸ mem_gk hx)
  simp [this]
/-- the sessions but one -/
def dropX (L : List Xe) (n : Nat) : List Xe := L.filter (fun x => decide (x.n ≠ n))
theorem ses_drop (L : List Xe) (n : Nat) : ses (dropX L n) = gr (ses L) n := by simp [ses, dropX, gr, List.filter_map, Function.comp_def]
theorem tms_drop (L : List Xe) (n : Nat) : tms (dropX L n) = (tms L).filter (fun t => decide (t.id ≠ (n : Int))) := by
  simp only [tms, dropX, List.filter_map, Function.comp_def]
  congr 1
  apply List.filter_congr
  intro x _
  by_cases h : x.n = n
  · simp [h]
  · have : ¬ (x.n : Int) = (n : Int) := by omega
    simp [h, this]
theorem key_inj : ∀ {L : List Xe}, (L.map Xe.k).Nodup → ∀ {x y : Xe}, x ∈ L → y ∈ L → x.k = y.k → x = y
  | [], _, x, y, hx, _, _ => by cases hx
  | a :: r, h, x, y, hx, hy, e => by
    rw [List.map_cons, List.nodup_cons] at h
    rcases List.mem_cons.1 hx with e1 | hx1
    · subst e1
      rcases List.mem_cons.1 hy with e2 | hy1
      · exact e2.symm
      · exact absurd (List.mem_map.2 ⟨y, hy1, e.symm⟩) h.1
    · rcases List.mem_cons.1 hy with e2 | hy1
      · subst e2
        exact absurd (List.mem_map.2 ⟨x, hx1, e⟩) h.1
      · exact key_inj h.2 hx1 hy1 e
theorem num_inj : ∀ {L : List Xe}, (L.map Xe.n).Nodup → ∀ {x y : Xe}, x ∈ L → y ∈ L → x.n = y.n → x = y
  | [], _, x, y, hx, _, _ => by cases hx
  | a :: r, h, x, y, hx, hy, e => by
    rw [List.map_cons, List.nodup_cons] at h
    rcases List.mem_cons.1 hx with e1 | hx1
    · subst e1
      rcases List.mem_cons.1 hy with e2 | hy1
      · exact e2.symm
      · exact absurd (List.mem_map.2 ⟨y, hy1, e.symm⟩) h.1
    · rcases List.mem_cons.1 hy with e2 | hy1
      · subst e2
        exact absurd (List.mem_map.2 ⟨x, hx1, e⟩) h.1
      · exact num_inj h.2 hx1 hy1 e
theorem nums_drop {L : List Xe} (hn : (L.map Xe.n).Nodup) (hk : (L.map Xe.k).Nodup) {x : Xe} (hx : x ∈ L) : nums (dropX L x.n) = gr (nums L) x.k := by
  simp only [nums, dropX, gr, List.filter_map, Function.comp_def]
  congr 1
  apply List.filter_congr
  intro y hy
  by_cases h : y.n = x.n
  · have := num_inj hn hy hx h
    subst this
    simp
  · have : y.k ≠ x.k := fun e => h (by rw [key_inj hk hy hx e])
    simp [h, this]
theorem XInv.drop {s : Xs} (i : XInv s) (q : Xe → Bool) : XInv { s with L := s.L.filter q } :=
  ⟨i.mt, i.ak, i.e, i.c, i.nc, Nat.le_trans (List.length_filter_le _ _) i.len, fun x hx => i.num x (List.mem_filter.1 hx).1, fun x hx => i.good x (List.mem_filter.1 hx).1, i.nn.sublist (List.filter_sublist.map _), i.nk.sublist (List.filter_sublist.map _), i.od.sublist List.filter_sublist, fun x hx => i.le x (List.mem_filter.1 hx).1, i.op.sublist List.filter_sublist, fun x hx => i.ov x (List.mem_filter.1 hx).1, fun x hx => i.at_ x (List.mem_filter.1 hx).1⟩
/-- a session that begins -/
def begX (s : Xs) (n : Nat) (k : Fk) : Xe := ⟨n, k, s.beg + 1, min (s.clk + s.ack) mxX, max (min (s.clk + s.ack) mxX) (s.N + 1)⟩
theorem XInv.begin {s : Xs} (i : XInv s) (n : Nat) (k : Fk) (hn : 1 ≤ n ∧ n ≤ mxX) (hk : goodK k) (h1 : n ∉ s.L.map Xe.n) (h2 : k ∉ s.L.map Xe.k) (hl : s.L.length < 64) : XInv { s with beg := s.beg + 1, L := s.L ++ [begX s n k] } := by
  have hmem : ∀ {x}, x ∈ s.L ++ [begX s n k] → x ∈ s.L ∨ x = begX s n k := fun h => by simpa using h
  refine ⟨i.mt, i.ak, i.e, i.c, i.nc, by simp; omega, ?_, ?_, ?_, ?_, ?_, ?_, ?_, ?_, ?_⟩
  · intro x hx
    rcases hmem hx with hx | rfl
    · exact i.num x hx
    · exact hn
  · intro x hx
    rcases hmem hx with hx | rfl
    · exact i.good x hx
    · exact hk
  · show ((s.L ++ [begX s n k]).map Xe.n).Nodup
    rw [List.map_append, List.nodup_append]
    refine ⟨i.nn, by simp, fun a ha b hb => ?_⟩
    simp [begX] at hb
    subst hb
    intro e
    exact h1 (e ▸ ha)
  · show ((s.L ++ [begX s n k]).map Xe.k).Nodup
    rw [List.map_append, List.nodup_append]
    refine ⟨i.nk, by simp, fun a ha b hb => ?_⟩
    simp [begX] at hb
    subst hb
    intro e
    exact h2 (e ▸ ha)
  · show (s.L ++ [begX s n k]).Pairwise _
    rw [List.pairwise_append]
    refine ⟨i.od, by simp, fun a ha b hb => ?_⟩
    simp at hb
    subst hb
    have := i.le a ha
    show a.o < s.beg + 1
    omega
  · intro x hx
    rcases hmem hx with hx | rfl
    · have := i.le x hx
      show x.o ≤ s.beg + 1
      omega
    · exact Nat.le_refl _
  · show (s.L ++ [begX s n k]).Pairwise _
    rw [List.pairwise_append]
    refine ⟨i.op, by simp, fun a ha b hb => ?_⟩
    simp at hb
    subst hb
    exact i.ov a ha
  · intro x hx
    rcases hmem hx with hx | rfl
    · exact i.ov x hx
    · exact Nat.le_refl _
  · intro x hx
    rcases hmem hx with hx | rfl
    · exact i.at_ x hx
    · show max (min (s.clk + s.ack) mxX) (s.N + 1) = min (s.clk + s.ack) mxX ∨ (max (min (s.clk + s.ack) mxX) (s.N + 1) = mxX + 1 ∧ min (s.clk + s.ack) mxX = mxX)
      have := i.ak
      have := i.c
      have := i.nc
      unfold mxX at *
      omega
end
end Go.Proofs.YtiedgcanndgmoaaGreatDoor
