import Derived.Test.YtiedgcanndgmoaaGreatDoorXG
namespace Go.Proofs.YtiedgcanndgmoaaGreatDoor
set_option linter.unusedVariables false
set_option linter.unusedSimpArgs false
open Go.RowKit Go.Maps
/-- rows of ints -/
abbrev KZr : Kd Int := { t := 3, ts := 123, k := 1, by_ := 8, f := fun z => [.int .i64 z], z := .int .i64 0, hk := fun _ => rfl, h1 := (fun d u hu => by simp at hu; subst hu; rfl), hpos := by decide, ht := Tryz.underlying123, hi := by kernel_rfl, hz := rfl }
theorem flatZ (zs : List Int) : KZr.flat zs = zs.map (fun z => .int .i64 z) := by
  unfold Kd.flat
  induction zs with
  | nil => rfl
  | cons a r ih => rw [List.flatMap_cons, ih]; rfl
theorem ownZ_G {w : World} {B : Nat} {v : Value} {zs : List Int} (h : Wh.OwnZ w B v zs) : OwnG KZr w B v zs := by
  unfold OwnG
  rw [flatZ]
  exact h
theorem rdZ_at {w : World} {ao : Option Addr} {xs : List Int} (h : RdG KZr w ao xs) {j : Nat} (hj : j < xs.length) : ∃ b o, ao = some ⟨b, o, none⟩ ∧ b < w.heap.size ∧ w.cell? ⟨b, o + j, none⟩ = some (.int .i64 xs[j]) := by
  obtain ⟨b, o, h1, h2, cur, fr, h3⟩ := h j hj
  have h9 := h2 0 (.int .i64 xs[j]) rfl
  simp only [Nat.mul_one, Nat.add_zero] at h9
  exact ⟨b, o, h1, (Array.getElem?_eq_some_iff.1 h3).1, h9⟩
/-- the sessions whose time is over -/
def dueX (s : Xs) : List Xe := s.L.filter (fun x => decide (x.ov ≤ s.clk))
theorem due_all {s : Xs} (h : XInv s) (hc : s.clk = mxX) : dueX s = s.L := by
  unfold dueX
  rw [List.filter_eq_self]
  intro x hx
  have := h.ov x hx
  simp only [decide_eq_true_eq]
  omega
theorem due_none {s : Xs} (h : XInv s) (hn : ∀ x, x ∈ s.L → s.clk < x.at_) (hc : s.clk ≠ mxX) : dueX s = [] := by
  unfold dueX
  rw [List.filter_eq_nil_iff]
  intro x hx
  have h1 := hn x hx
  have h2 := h.at_ x hx
  have h3 := h.c
  simp only [decide_eq_true_eq]
  omega
theorem due_wh {s : Xs} (h : XInv s) (hc : s.clk ≠ mxX) {D : List Wh.Tm} (hD : Wh.AdvIs (tms s.L) s.clk D) : D = tms (dueX s) := by
  have h3 := h.c
  have hat : ∀ x, x ∈ s.L → x.ov ≤ s.clk → x.at_ = x.ov := fun x hx h9 => by
    have := h.at_ x hx
    omega
  refine Wh.sorted_uniq hD.1 ?_ ?_
  · unfold tms dueX
    rw [List.pairwise_map]
    refine List.Pairwise.imp_of_mem ?_ ((h.op.and h.od).sublist List.filter_sublist)
    intro a b ha hb hab
    obtain ⟨ha1, ha2⟩ := List.mem_filter.1 ha
    obtain ⟨hb1, hb2⟩ := List.mem_filter.1 hb
    have e1 := hat a ha1 (by simpa using ha2)
    have e2 := hat b hb1 (by simpa using hb2)
    have := hab.1
    have := hab.2
    show a.at_ < b.at_ ∨ (a.at_ = b.at_ ∧ a.o < b.o)
    omega
  · intro t
    rw [hD.2]
    unfold tms dueX
    simp only [List.mem_map, List.mem_filter, decide_eq_true_eq]
    constructor
    · rintro ⟨⟨x, hx, rfl⟩, h9⟩
      have := h.at_ x hx
      refine ⟨x, ⟨hx, ?_⟩, rfl⟩
      have h9 : x.at_ ≤ s.clk := h9
      omega
    · rintro ⟨x, ⟨hx, h9⟩, rfl⟩
      refine ⟨⟨x, hx, rfl⟩, ?_⟩
      show x.at_ ≤ s.clk
      rw [hat x hx h9]
      exact h9
end Go.Proofs.YtiedgcanndgmoaaGreatDoor
namespace Go.Proofs.YtiedgcanndgmoaaGreatDoor
set_option linter.unusedVariables false
set_option linter.unusedSimpArgs false
open Go.RowKit Go.Maps
/-- what due leaves -/
structure DueOut (w w' : World) (p ms mn pw mw : Nat) (V V' : Nat → Nat → Value) (s : Xs) (v : Value) (B : Nat) (W : List Wh.Tm) : Prop where
  row : OwnG KNr w' B v ((dueX s).map Xe.n)
  base : w.heap.size ≤ B
  low : ∀ b, footX p ms mn pw mw V' b → b < B
  st : XSw w' p ms mn pw mw V' { s with N := s.clk } W
  wt : W = (tms s.L).filter (fun t => decide (s.clk < t.at_))
  stp : XStp w w' p ms mn pw mw V V'
section
variable {w w' : World} {p ms mn pw mw : Nat} {V V' : Nat → Nat → Value} {s : Xs} {W : List Wh.Tm}
theorem XSw.ats (h : XSw w p ms mn pw mw V s W) {t : Wh.Tm} (ht : t ∈ W) : s.N < t.at_ := by
  obtain ⟨F, X, -, -, ho⟩ := h.wh
  exact (ho.ats t ht).1
/-- the wheel of a sender goes on -/
theorem XSw.adv (h : XSw w p ms mn pw mw V s W) {N' : Nat} {W' : List Wh.Tm} (hN : N' = s.clk) (hw : Wh.Wt w' pw mw N' s.beg W' V') (hs : Wh.Stp w w' pw mw V V') : XSw w' p ms mn pw mw V' { s with N := s.clk } W' := by
  have hap : ∀ b, b < w.heap.size → ¬ Wh.footW pw mw V b → ¬ Wh.footW pw mw V' b := fun b hb h1 h2 => by
    rcases hs.new b h2 with h3 | h3
    · exact h1 h3
    · omega
  have i := h.inv
  exact ⟨(hs.chg.block p h.pl h.ap).trans h.blk, h.se.kept (hs.chg.block ms h.se.lt h.as_), h.nu.kept (hs.chg.block mn h.nu.lt h.an), by rw [hN] at hw; exact hw, ⟨i.mt, i.ak, i.e, i.c, Nat.le_refl _, i.len, i.num, i.good, i.nn, i.nk, i.od, i.le, i.op, i.ov, i.at_⟩, h.smn, hap p h.pl h.ap, hap ms h.se.lt h.as_, hap mn h.nu.lt h.an⟩
set_option maxRecDepth 20000 in
set_option maxHeartbeats 3200000 in
theorem due_t (h : XSt w p ms mn pw mw V s) (ht : Wh.TabZ w) : Calls Tryz.prog 35 #[.pointer (some ⟨p, 0, none⟩)] w fun e w' => ∃ v V' B W, e = .returned v ∧ DueOut w w' p ms mn pw mw V V' s v B W := by
  have hclk : s.clk ≤ mxX := h.inv.c
  have HADV : Hid (∀ u, u = w.drew → Calls Tryz.prog 54 #[.pointer (some ⟨pw, 0, none⟩), .int .u64 (s.clk : Int)] u fun e w' => ∃ (a : Option Addr) (n c : Nat) (D : List Wh.Tm) (V' : Nat → Nat → Value) (W : List Wh.Tm), e = .returned (.slice a n c) ∧ n = D.length ∧ RdG KZr w' a (D.map Wh.Tm.id) ∧ (s.clk ≠ mxX → D = tms (dueX s)) ∧ XSw w' p ms mn pw mw V' { s with N := s.clk } W ∧ W = (tms s.L).filter (fun t => decide (s.clk < t.at_)) ∧ XStp w w' p ms mn pw mw V V' ∧ n ≤ 64) := fun u hu => by
    subst hu
    have hd := h.below (Below.refl _ _).drew
    by_cases hc : s.N < s.clk
    · have hm : min s.clk Wh.mxN = s.clk := Nat.min_eq_left hclk
      refine (Wh.advance_t hd.wh s.clk (by rw [hm]; exact hc) (by rw [len_tms]; have := h.inv.len; omega) (fun j hj => ht j hj)).mono ?_
      rintro e w' ⟨v, D, V', rfl, hD, hown, hwt, hst⟩
      rw [hm] at hD hwt
      obtain ⟨a, c, hv, -, -, -, hrd⟩ := (ownZ_G hown).val
      rw [List.length_map] at hv
      have hDL : D.length ≤ 64 := by
        refine Nat.le_trans (Wh.sub_len (Wh.sorted_nd hD.1) (L := tms s.L) (fun t h9 => ((hD.2 t).1 h9).1)) ?_
        rw [len_tms]; exact h.inv.len
      refine ⟨a, D.length, c, D, V', _, by rw [hv], rfl, hrd, fun hx => due_wh h.inv hx hD, hd.adv rfl hwt hst, rfl, ?_, hDL⟩
      exact (XStp.below (Below.refl w.heap.size w).drew p ms mn pw mw V).trans (XStp.of_wh hst)
    · have hN : s.N = s.clk := Nat.le_antisymm h.inv.nc (Nat.le_of_not_lt hc)
      refine (Wh.advance_no hd.wh s.clk (by have := Nat.min_le_left s.clk Wh.mxN; omega)).mono ?_
      rintro e w' ⟨rfl, rfl⟩
      have hat : ∀ x, x ∈ s.L → s.clk < x.at_ := fun x hx => by
        have := h.ats (t := ⟨(x.n : Int), x.at_, x.o⟩) (List.mem_map.2 ⟨x, hx, rfl⟩)
        rw [hN] at this
        exact this
      have hW : tms s.L = (tms s.L).filter (fun t => decide (s.clk < t.at_)) := by
        symm
        rw [List.filter_eq_self]
        intro t h9
        obtain ⟨x, hx, rfl⟩ := List.mem_map.1 h9
        simpa using hat x hx
      refine ⟨none, 0, 0, [], V, tms s.L, rfl, rfl, RdG.nil _ _, fun hx => by rw [due_none h.inv hat hx]; rfl, ?_, hW, XStp.below (Below.refl w.heap.size w).drew p ms mn pw mw V, by omega⟩
      have e9 : ({ s with N := s.clk } : Xs) = s := congrArg (fun z => ({ s with N := z } : Xs)) hN.symm
      show XSw _ p ms mn pw mw V { s with N := s.clk } (tms s.L)
      rw [e9]
      exact hd
  have hcl : ∀ u, Below w.heap.size w u → u.cell? ⟨p, 7, none⟩ = some (.pointer (some ⟨pw, 0, none⟩)) ∧ u.cell? ⟨p, 3, none⟩ = some (.int .u64 (s.clk : Int)) := fun u hu => ⟨(h.below hu).cell 7, (h.below hu).cell 3⟩
  have HINV : Hid _ := h.inv
  clear h ht
  go_enter Tryz.func35, Tryz.ntmps35
  go_wp2
  refine wp_region_noPanic ?_
  refine wp_region_held_drew (S := (fun u => u.cell? ⟨p, 7, none⟩ = some (.pointer (some ⟨pw, 0, none⟩)) ∧ u.cell? ⟨p, 3, none⟩ = some (.int .u64 (s.clk : Int)))) (by kernel_rfl) (by first | exact hcl _ (Below.refl _ _).drew | exact HC1.out | assumption) (fun hHeld => ?_)
  refine tz (i := 0) 7 rfl rfl hHeld ?_
  simp only [pS]
  refine tz (i := 1) 8 rfl rfl hHeld ?_
  simp only [pS]
  refine tz (i := 2) 9 rfl rfl hHeld ?_
  simp only [pS]
  refine tz (i := 3) 10 rfl rfl hHeld ?_
  simp only [pS]
  refine tz (i := 4) 11 rfl rfl hHeld ?_
  simp only [pS]
  refine tz (i := 5) 12 rfl rfl hHeld ?_
  simp only [pS]
  refine tz (i := 6) 13 rfl rfl hHeld ?_
  simp only [pS]
  refine tz (i := 7) 14 rfl rfl hHeld ?_
  simp only [pS]
  refine run_at (i := 8) rfl (by kernel_rfl) (by rfl) (fun K hK => ?_)
  simp only [List.getElem_toArray, List.getElem_cons_zero, List.getElem_cons_succ]
  go_simp
  (go_at_call 54; refine Calls.mono (HADV.out _ rfl) ?_; rintro e9 w1 ⟨a, n, c, D, V', W, rfl, hnD, hrd, hDd, hxs, hW, hstp, hn64⟩; have HND : Hid _ := hnD; have HRD : Hid _ := hrd; have HDD : Hid _ := hDd; have HXS : Hid _ := hxs; have HW : Hid _ := hW; have HSTP : Hid _ := hstp; have HC1 : Hid (w1.cell? ⟨p, 7, none⟩ = some (.pointer (some ⟨pw, 0, none⟩)) ∧ w1.cell? ⟨p, 3, none⟩ = some (.int .u64 (s.clk : Int))) := ⟨hxs.cell 7, hxs.cell 3⟩; clear hnD hrd hDd hxs hW hstp)
  go_wp2_with fail
  refine hK.out _ _ (by first | exact hcl _ (Below.refl _ _).drew | exact HC1.out | assumption) ?_
  clear hK K
  intro hHeld2
  clear hHeld
  have hHeld := hHeld2
  clear hHeld2
  try simp only [pS]
  refine tz (i := 9) 3 rfl rfl hHeld ?_
  simp only [pS]
  refine wpAnyH_done (by kernel_rfl) ?_ _
  refine NoPanic.normal ?_
  have HSZ : Hid (w.heap.size ≤ w1.heap.size) := HSTP.out.chg.size
  have hc3 : w1.cell? ⟨p, 3, none⟩ = some (.int .u64 (s.clk : Int)) := HC1.out.2
  clear hcl HADV
  by_cases hmx : s.clk = mxX
  · have hbq : ((s.clk : Int) == 281474976710655) = true := by rw [hmx]; rfl
    have HI : Hid _ := inOrder_t (HXS.out.cell 5) HXS.out.se HXS.out.inv.len HXS.out.inv.nn HXS.out.inv.od
    have HDA : Hid _ := due_all HINV.out hmx
    clear hmx
    go_wp2_with fail
    refine Calls.mono HI.out ?_
    rintro e w2 ⟨v, rfl, hown, hb2⟩
    have HO : Hid _ := hown
    have HB2 : Hid _ := hb2
    clear hown hb2
    go_wp2
    go_ret
    refine ⟨_, V', w1.heap.size, W, rfl, ⟨?_, HSZ.out, fun b hb => HXS.out.lt hb, HXS.out.below HB2.out, HW.out, HSTP.out.trans (XStp.below HB2.out p ms mn pw mw V')⟩⟩
    rw [HDA.out]
    exact HO.out
  · have hbq : ((s.clk : Int) == 281474976710655) = false := by
      simp only [beq_eq_false_iff_ne]
      intro e
      apply hmx
      unfold mxX
      omega
    have hDe : D = tms (dueX s) := HDD.out hmx
    have HLN : Hid (n = (dueX s).length) := by unfold Hid; rw [HND.out, hDe, len_tms]
    have HRN : Hid (RdG KZr w1 a ((dueX s).map (fun x => (x.n : Int)))) := by
      unfold Hid
      have h9 := HRD.out
      have e8 : (tms (dueX s)).map Wh.Tm.id = (dueX s).map (fun x => (x.n : Int)) := by simp [tms, Function.comp_def]
      rw [hDe, e8] at h9
      exact h9
    have HNUM : Hid (∀ x, x ∈ dueX s → x.n ≤ mxX) := fun x hx => (HINV.out.num x (List.mem_filter.1 hx).1).2
    clear hDe hmx
    go_wp2
    go_loopw [4, 25] (fun u j wr => ∃ k : Nat, k ≤ n ∧ j = .int .i64 (k : Int) ∧ OwnG KNr wr w1.heap.size u (((dueX s).map Xe.n).take k) ∧ Below w1.heap.size w1 wr) (fun _ j _ => n - (intOf j).toNat)
    case atStart => exact ⟨0, Nat.zero_le _, rfl, World.ownsRow_nil _ _ _ _, Below.refl _ _⟩
    case round =>
      obtain ⟨k, hk, rfl, hown, hbw⟩ := hrel
      by_cases hlt : k < n
      · have hltI : (k : Int) < (n : Int) := by omega
        have hk0 : (0 : Int) ≤ (k : Int) := by omega
        have hkL : k < (dueX s).length := by rw [← HLN.out]; exact hlt
        obtain ⟨x, hx⟩ : ∃ x, x = (dueX s)[k] := ⟨_, rfl⟩
        have hxn : x.n ≤ mxX := HNUM.out x (by rw [hx]; exact List.getElem_mem hkL)
        obtain ⟨b, o, rfl, hbl, hcx⟩ := rdZ_at (RdG.below HRN.out hbw) (j := k) (by rw [List.length_map]; exact hkL)
        have hcx' : wr.cell? ⟨b, o + k, none⟩ = some (.int .i64 (x.n : Int)) := by rw [hcx, List.getElem_map, ← hx]
        have hwr : IntKind.u64.wrap (x.n : Int) = (x.n : Int) := by unfold mxX at hxn; rw [IntKind.wrap_u64]; omega
        have HO : Hid (OwnG KNr (wr.alloc (.cells #[.int .u64 (x.n : Int)] 22)) w1.heap.size u4 (((dueX s).map Xe.n).take k)) := hown.below (alw (Below.refl _ _) _)
        have HTK : Hid (((dueX s).map Xe.n).take k ++ [x.n] = ((dueX s).map Xe.n).take (k + 1)) := by
          unfold Hid
          rw [List.take_succ_eq_append_getElem (by simpa using hkL), List.getElem_map, ← hx]
        have HLK : Hid (k = (((dueX s).map Xe.n).take k).length) := by unfold Hid; rw [List.length_take, List.length_map]; omega
        have HBW : Hid _ := hbw
        have HSZ2 : Hid (w1.heap.size ≤ wr.heap.size) := hbw.size
        have HLT3 : Hid (∀ b, u4.ownBlock = some b → w1.heap.size ≤ b) := fun b hb => (hown.lt' hb).1
        clear hx hcx hown hkL hbw hbl hxn
        go_wp2_with (at_builtin; refine wp_appG1 (K := KNr) rfl _ _ rfl w1.heap.size u4 (((dueX s).map Xe.n).take k) x.n k HLK.out ⟨wr.heap.size, 0, none⟩ 1 rfl HO.out rfl (rdN_new _ x.n _ rfl) (by show (k + 1) * 8 ≤ _; omega) (by simp only [maxLen]; omega) (by have := HSZ2.out; simp; omega) ?_; intro g7 c7 w7 hown7 hg7 hlie7; rw [HTK.out] at hown7; have HO7 : Hid _ := hown7; have HG7 : Hid _ := hg7; clear hown7 hg7 hlie7)
        go_roundw
        case rel =>
          refine ⟨k + 1, hlt, by go_num, HO7.out, (alw HBW.out _).grown HG7.out (by have := HSZ2.out; simp; omega) (fun j hj => HLT3.out j hj)⟩
        case measure => simp [intOf]; omega
      · have hltI : ¬ (k : Int) < (n : Int) := by omega
        have hkn : k = n := by omega
        have HO : Hid (OwnG KNr wr w1.heap.size u4 ((dueX s).map Xe.n)) := by
          unfold Hid
          have h9 := hown
          rw [hkn, HLN.out, List.take_of_length_le (by simp)] at h9
          exact h9
        have HBW : Hid _ := hbw
        clear hown hbw
        go_wp2
        go_ret
        exact ⟨_, rfl, V', w1.heap.size, W, ⟨HO.out, HSZ.out, fun b hb => HXS.out.lt hb, HXS.out.below HBW.out, HW.out, HSTP.out.trans (XStp.below HBW.out p ms mn pw mw V')⟩⟩
end
end Go.Proofs.YtiedgcanndgmoaaGreatDoor
namespace Go.Proofs.YtiedgcanndgmoaaGreatDoor
set_option linter.unusedVariables false
set_option linter.unusedSimpArgs false
open Go.RowKit Go.Maps
/-- what is left of the sessions, of the timers, when some are over -/
def remX (L : List Xe) (ns : List Nat) : List Xe := L.filter (fun x => decide (x.n ∉ ns))
def remW (W : List Wh.Tm) (ns : List Nat) : List Wh.Tm := W.filter (fun t => decide (t.id ∉ ns.map (fun n : Nat => (n : Int))))
theorem remX_nil (L : List Xe) : remX L [] = L := by simp [remX]
theorem remW_nil (W : List Wh.Tm) : remW W [] = W := by simp [remW]
theorem remX_snoc (L : List Xe) (ns : List Nat) (n : Nat) : dropX (remX L ns) n = remX L (ns ++ [n]) := by
  unfold dropX remX
  rw [List.filter_filter]
  apply List.filter_congr
  intro x _
  by_cases h1 : x.n = n <;> by_cases h2 : x.n ∈ ns <;> simp [h1, h2]
theorem remW_snoc (W : List Wh.Tm) (ns : List Nat) (n : Nat) : (remW W ns).filter (fun t => decide (t.id ≠ (n : Int))) = remW W (ns ++ [n]) := by
  unfold remW
  rw [List.filter_filter, List.map_append]
  apply List.filter_congr
  intro t _
  by_cases h1 : t.id = (n : Int) <;> by_cases h2 : t.id ∈ ns.map (fun n : Nat => (n : Int)) <;> simp [h1, h2]
/-- a sender at whose clock the sessions that are over are so -/
def tickX (s : Xs) : Xs := { s with N := s.clk, L := s.L.filter (fun x => decide (s.clk < x.ov)) }
theorem mem_due {s : Xs} (i : XInv s) {x : Xe} (hx : x ∈ s.L) : x.n ∈ (dueX s).map Xe.n ↔ x.ov ≤ s.clk := by
  rw [List.mem_map]
  constructor
  · rintro ⟨y, hy, e⟩
    obtain ⟨hy1, hy2⟩ := List.mem_filter.1 hy
    rw [← num_inj i.nn hy1 hx e]
    simpa using hy2
  · intro h
    exact ⟨x, List.mem_filter.2 ⟨hx, by simpa using h⟩, rfl⟩
theorem rem_due {s : Xs} (i : XInv s) : remX s.L ((dueX s).map Xe.n) = (tickX s).L := by
  unfold remX tickX
  apply List.filter_congr
  intro x hx
  have := mem_due i hx
  by_cases h : x.ov ≤ s.clk
  · rw [decide_eq_false (fun h9 => h9 (this.2 h)), decide_eq_false (by omega)]
  · have h8 : x.n ∉ (dueX s).map Xe.n := fun h9 => h (this.1 h9)
    rw [decide_eq_true h8, decide_eq_true (by omega)]
theorem remW_due {s : Xs} (i : XInv s) : remW ((tms s.L).filter (fun t => decide (s.clk < t.at_))) ((dueX s).map Xe.n) = tms (tickX s).L := by
  unfold remW tickX tms
  rw [List.filter_filter, List.filter_map]
  congr 1
  apply List.filter_congr
  intro x hx
  have h1 := mem_due i hx
  have h2 := i.at_ x hx
  have h3 := i.c
  have h4 : (x.n : Int) ∈ ((dueX s).map Xe.n).map (fun n : Nat => (n : Int)) ↔ x.n ∈ (dueX s).map Xe.n := by
    rw [List.mem_map]
    constructor
    · rintro ⟨y, hy, e⟩
      have : y = x.n := by omega
      rw [← this]; exact hy
    · intro h; exact ⟨_, h, rfl⟩
  show (decide ((x.n : Int) ∉ ((dueX s).map Xe.n).map (fun n : Nat => (n : Int))) && decide (s.clk < x.at_)) = decide (s.clk < x.ov)
  by_cases h : x.ov ≤ s.clk
  · rw [decide_eq_false (fun h9 => h9 (h4.2 (h1.2 h))), decide_eq_false (show ¬ s.clk < x.ov by omega)]; rfl
  · have h8 : (x.n : Int) ∉ ((dueX s).map Xe.n).map (fun n : Nat => (n : Int)) := fun h9 => h (h1.1 (h4.1 h9))
    rw [decide_eq_true h8, decide_eq_true (show s.clk < x.ov by omega), decide_eq_true (show s.clk < x.at_ by omega)]; rfl
/-- amid the ends of a Tick: k of them are done -/
structure TkAt (w1 wr : World) (p ms mn pw mw B : Nat) (V1 Vr : Nat → Nat → Value) (s : Xs) (W : List Wh.Tm) (vn u : Value) (k : Nat) : Prop where
  st : XSw wr p ms mn pw mw Vr { s with N := s.clk, L := remX s.L (((dueX s).map Xe.n).take k) } (remW W (((dueX s).map Xe.n).take k))
  row : OwnG KNr wr B vn ((dueX s).map Xe.n)
  keys : OwnG KKy wr w1.heap.size u (((dueX s).map Xe.k).take k)
  stp : XStp w1 wr p ms mn pw mw V1 Vr
  far : ∀ b, u.ownBlock = some b → ¬ footX p ms mn pw mw Vr b
theorem TkAt.lows {w1 wr : World} {p ms mn pw mw B : Nat} {V1 Vr : Nat → Nat → Value} {s : Xs} {W : List Wh.Tm} {vn u : Value} {k : Nat} (h : TkAt w1 wr p ms mn pw mw B V1 Vr s W vn u k) (hl : ∀ b, footX p ms mn pw mw V1 b → b < B) (hv : ∀ b, vn.ownBlock = some b → b < w1.heap.size) : ∀ b, vn.ownBlock = some b → ¬ footX p ms mn pw mw Vr b := fun b hb hf => by
  have h1 := (h.row.lt' hb).1
  have h2 := hv b hb
  rcases h.stp.new b hf with h3 | h3
  · have := hl b h3; omega
  · omega
section
variable {w w' : World} {p ms mn pw mw : Nat} {V V' : Nat → Nat → Value} {s : Xs} {W : List Wh.Tm}
set_option maxRecDepth 20000 in
set_option maxHeartbeats 3200000 in
theorem xtick_t (h : XSt w p ms mn pw mw V s) (ht : Wh.TabZ w) (x : Nat) : Calls Tryz.prog 16 #[.pointer (some ⟨p, 0, none⟩), .int .u64 (x : Int)] w fun e w' => ∃ v V', e = .returned v ∧ OwnG KKy w' w.heap.size v ((dueX { s with clk := max s.clk (min x mxX) }).map Xe.k) ∧ XSt w' p ms mn pw mw V' (tickX { s with clk := max s.clk (min x mxX) }) ∧ XStp w w' p ms mn pw mw V V' ∧ ∀ b, v.ownBlock = some b → ¬ footX p ms mn pw mw V' b := by
  have HM : Hid _ := xmade_t h
  have hg := goOn_t h x
  have hz : ¬ footX p ms mn pw mw V 0 := fun h0 => by
    have h1 := ht 0 (by decide)
    rcases h0 with h0 | h0 | h0 | h0
    · have := h.cell 0; rw [← h0] at this; rw [this] at h1; cases h1
    · obtain ⟨es, cl, h9⟩ := h.se.at_; rw [← h0] at h9; simp [World.cell?, h9] at h1
    · obtain ⟨es, cl, h9⟩ := h.nu.at_; rw [← h0] at h9; simp [World.cell?, h9] at h1
    · exact h.wh.z h0
  have hz0 : 0 < w.heap.size := World.block_lt_of_cell? w _ (ht 0 (by decide))
  have HT : Hid (∀ u, XStp w u p ms mn pw mw V V → Wh.TabZ u) := fun u hu j hj => (World.cell?_of_block (hu.chg.block 0 hz0 hz)).trans (ht j hj)
  obtain ⟨s1, hs1⟩ : ∃ s1 : Xs, s1 = { s with clk := max s.clk (min x mxX) } := ⟨_, rfl⟩
  rw [← hs1] at hg ⊢
  have HG : Hid _ := hg
  clear h ht hz hz0 hs1 hg
  go_enter Tryz.func16, Tryz.ntmps16
  go_wp2_with fail
  refine Calls.mono HM.out ?_
  rintro e w2 ⟨rfl, hq⟩
  have hq := hq.symm
  subst hq
  go_wp2_with fail
  refine Calls.mono HG.out ?_
  rintro e w0 ⟨rfl, hx0, hst0⟩
  have HX0 : Hid _ := hx0
  have HST0 : Hid _ := hst0
  have HD : Hid _ := due_t hx0 (HT.out _ hst0)
  clear hx0 hst0
  go_wp2_with fail
  refine Calls.mono HD.out ?_
  rintro e w1 ⟨vn, V1, B, W, rfl, hdo⟩
  obtain ⟨a, c, hv, hlc, -, -, -⟩ := hdo.row.val
  rw [List.length_map] at hv hlc
  obtain ⟨n, hn⟩ : ∃ n, n = (dueX s1).length := ⟨_, rfl⟩
  have hn64 : n ≤ 64 := by rw [hn]; exact Nat.le_trans (List.length_filter_le _ _) HX0.out.inv.len
  rw [← hn] at hv hlc
  subst hv
  have HN : Hid _ := hn
  have HDO : Hid _ := hdo
  have HINV : Hid _ := HX0.out.inv
  have HVL : Hid (∀ b, (Value.slice a n c).ownBlock = some b → b < w1.heap.size) := fun b hb => (hdo.row.lt' hb).2
  clear hn hdo
  go_wp2
  go_loopw [5, 17] (fun u j wr => ∃ (k : Nat) (Vr : Nat → Nat → Value), k ≤ n ∧ j = .int .i64 (k : Int) ∧ TkAt w1 wr p ms mn pw mw B V1 Vr s1 W (.slice a n c) u k) (fun _ j _ => n - (intOf j).toNat)
  case atStart =>
    refine ⟨0, V1, Nat.zero_le _, rfl, ⟨?_, HDO.out.row, World.ownsRow_nil _ _ _ _, XStp.refl _ _ _ _ _ _ _, fun b hb => by cases hb⟩⟩
    rw [List.take_zero, remX_nil, remW_nil]
    exact HDO.out.st
  case round =>
    obtain ⟨k, Vr, hk, rfl, htk⟩ := hrel
    by_cases hlt : k < n
    · have hltI : (k : Int) < (n : Int) := by omega
      have hk0 : (0 : Int) ≤ (k : Int) := by omega
      have hkL : k < (dueX s1).length := by rw [← HN.out]; exact hlt
      obtain ⟨y, hy⟩ : ∃ y, y = (dueX s1)[k] := ⟨_, rfl⟩
      have hyD : y ∈ dueX s1 := by rw [hy]; exact List.getElem_mem hkL
      have hyL := (List.mem_filter.1 hyD).1
      have hnd : ((dueX s1).map Xe.n).Nodup := HINV.out.nn.sublist (List.filter_sublist.map _)
      have htn : ((dueX s1).map Xe.n).take k ++ [y.n] = ((dueX s1).map Xe.n).take (k + 1) := by
        rw [List.take_succ_eq_append_getElem (by simpa using hkL), List.getElem_map, ← hy]
      have htkk : ((dueX s1).map Xe.k).take k ++ [y.k] = ((dueX s1).map Xe.k).take (k + 1) := by
        rw [List.take_succ_eq_append_getElem (by simpa using hkL), List.getElem_map, ← hy]
      have hyR : y ∈ remX s1.L (((dueX s1).map Xe.n).take k) := by
        refine List.mem_filter.2 ⟨hyL, ?_⟩
        simp only [decide_eq_true_eq]
        intro h9
        have h8 : (((dueX s1).map Xe.n).take (k + 1)).Nodup := hnd.sublist (List.take_sublist _ _)
        rw [← htn, List.nodup_append] at h8
        exact h8.2.2 _ h9 _ (by simp) rfl
      have hvfar := htk.lows HDO.out.low HVL.out
      obtain ⟨a9, c9, hv9, -, -, -, hrd9⟩ := htk.row.val
      simp only [Value.slice.injEq] at hv9
      obtain ⟨rfl, -, rfl⟩ := hv9
      obtain ⟨b, o, rfl, hbl, hcx⟩ := rdN_at hrd9 (j := k) (by rw [List.length_map]; exact hkL)
      have hcx' : wr.cell? ⟨b, o + k, none⟩ = some (.int .u64 (y.n : Int)) := by rw [hcx, List.getElem_map, ← hy]
      have HEND : Hid _ := end_g htk.st y hyR (Nat.le_trans (List.length_filter_le _ _) (by rw [HDO.out.wt]; exact Nat.le_trans (List.length_filter_le _ _) (by rw [len_tms]; exact HINV.out.len)))
      have HTK : Hid _ := htk
      have HVF : Hid _ := hvfar
      have HTN : Hid _ := htn
      have HTKK : Hid _ := htkk
      have HLK : Hid (k = (((dueX s1).map Xe.k).take k).length) := by unfold Hid; rw [List.length_take, List.length_map]; omega
      clear hy hyD hyL hnd htn htkk hyR hvfar hcx hbl hrd9 htk hkL
      go_wp2_with fail
      refine Calls.mono HEND.out ?_
      rintro e w3 ⟨rfl, V3, hx3, hst3⟩
      have hx3 : XSw w3 p ms mn pw mw V3 { s1 with N := s1.clk, L := remX s1.L (((dueX s1).map Xe.n).take (k + 1)) } (remW W (((dueX s1).map Xe.n).take (k + 1))) := by
        rw [remW_snoc, HTN.out] at hx3
        have e9 : dropX (remX s1.L (((dueX s1).map Xe.n).take k)) y.n = remX s1.L (((dueX s1).map Xe.n).take (k + 1)) := by rw [remX_snoc, HTN.out]
        rw [← e9]
        exact hx3
      have hrow3 := HTK.out.row.kept (fun b hb => hst3.chg.block b (HTK.out.row.lt' hb).2 (HVF.out b hb))
      have hkey3 := HTK.out.keys.kept (fun b hb => hst3.chg.block b (HTK.out.keys.lt' hb).2 (HTK.out.far b hb))
      have HO : Hid (OwnG KKy (w3.alloc (.cells #[.int .i64 y.k.1, .int .u64 (y.k.2 : Int)] tFk)) w1.heap.size u5 (((dueX s1).map Xe.k).take k)) := hkey3.below (alw (Below.refl _ _) _)
      have HX3 : Hid _ := hx3
      have HROW3 : Hid _ := hrow3
      have HST3 : Hid _ := hst3
      have HKL3 : Hid (∀ b, u5.ownBlock = some b → w1.heap.size ≤ b ∧ b < wr.heap.size) := fun b hb => HTK.out.keys.lt' hb
      have HSZ3 : Hid (w1.heap.size ≤ w3.heap.size) := Nat.le_trans HTK.out.stp.chg.size hst3.chg.size
      clear hx3 hrow3 hkey3 hst3
      go_wp2_with (at_builtin; refine wp_appG1 (K := KKy) rfl _ _ rfl w1.heap.size u5 (((dueX s1).map Xe.k).take k) y.k k HLK.out ⟨w3.heap.size, 0, none⟩ 1 rfl HO.out rfl (rdF_new _ y.k _ rfl) (by show (k + 1) * 16 ≤ _; omega) (by simp only [maxLen]; omega) (by have := HSZ3.out; simp; omega) ?_; intro g7 c7 w7 hown7 hg7 hlie7; rw [HTKK.out] at hown7; have HO7 : Hid _ := hown7; have HG7 : Hid _ := hg7; have HL7 : Hid _ := hlie7; clear hown7 hg7 hlie7)
      go_roundw
      case rel =>
        have hb4 : Below w3.heap.size w3 (w3.alloc (.cells #[.int .i64 y.k.1, .int .u64 (y.k.2 : Int)] tFk)) := alw (Below.refl _ _) _
        have hfar3 : ∀ b, u5.ownBlock = some b → ¬ footX p ms mn pw mw V3 b := fun b hb hf => by
          rcases HST3.out.new b hf with h3 | h3
          · exact HTK.out.far b hb h3
          · have := (HKL3.out b hb).2; omega
        have hc7 : Chg (fun b => u5.ownBlock = some b) (w3.alloc (.cells #[.int .i64 y.k.1, .int .u64 (y.k.2 : Int)] tFk)) w7 := Chg.of_grown HG7.out (fun b e => e)
        have hr4 := OwnG.below (K := KNr) HROW3.out hb4
        refine ⟨k + 1, V3, hlt, by go_num, ⟨(HX3.out.below hb4).chg hc7 (fun b hb h9 => hfar3 b h9 hb), hr4.kept (fun b hb => hc7.block b (hr4.lt' hb).2 (fun h9 => ?_)), HO7.out, ⟨((HTK.out.stp.trans HST3.out).chg.trans (Chg.of_below (F := fun _ => False) hb4) (fun _ h => h.elim)).trans hc7 (fun b hb => .inr (HKL3.out b hb).1), (HTK.out.stp.trans HST3.out).new⟩, fun b hb hf => ?_⟩⟩
        · have h1 := (HKL3.out b h9).1
          have h2 := HVL.out b hb
          omega
        · have e : g7 = b := Option.some.inj hb
          subst e
          rcases HL7.out with h9 | h9
          · exact hfar3 _ h9 hf
          · have := HX3.out.lt hf
            simp at h9
            omega
      case measure => simp [intOf]; omega
    · have hltI : ¬ (k : Int) < (n : Int) := by omega
      have hkn : k = n := by omega
      have HTK : Hid _ := htk
      have HKN : Hid (k = (dueX s1).length) := hkn.trans HN.out
      clear htk hkn
      go_wp2
      go_ret
      have e1 : ((dueX s1).map Xe.k).take k = (dueX s1).map Xe.k := List.take_of_length_le (by rw [List.length_map, HKN.out]; exact Nat.le_refl _)
      have e2 : ((dueX s1).map Xe.n).take k = (dueX s1).map Xe.n := List.take_of_length_le (by rw [List.length_map, HKN.out]; exact Nat.le_refl _)
      have hk9 := HTK.out.keys
      have hs9 := HTK.out.st
      rw [e1] at hk9
      rw [e2, HDO.out.wt, remW_due HINV.out, rem_due HINV.out] at hs9
      have hst9 := HST0.out.trans (HDO.out.stp.trans HTK.out.stp)
      have hsz9 : w.heap.size ≤ w1.heap.size := (HST0.out.trans HDO.out.stp).chg.size
      first
        | exact ⟨_, Vr, rfl, OwnG.base hk9 hsz9, hs9, hst9, HTK.out.far⟩
        | exact ⟨_, rfl, OwnG.base hk9 hsz9, Vr, hs9, hst9, HTK.out.far⟩
        | exact ⟨_, rfl, Vr, OwnG.base hk9 hsz9, hs9, hst9, HTK.out.far⟩
end
end Go.Proofs.YtiedgcanndgmoaaGreatDoor
