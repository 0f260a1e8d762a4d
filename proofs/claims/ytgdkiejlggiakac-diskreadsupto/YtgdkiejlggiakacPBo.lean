import Derived.Test.YtgdkiejlggiakacROps6
import Derived.Test.YtgdkiejlggiakacRBoth
namespace Go.Proofs.Ytgdkiejlggiakac
set_option linter.unusedVariables false
set_option linter.unusedSimpArgs false
open Go.RowKit Go.Maps
/-- both disks: the program's is d, the document's is r; all their blocks are Q's -/
def Bo (w : World) (p rp : Nat) (d r : Dst) (c : Nat) (Q : Nat → Prop) : Prop := ∃ g m DV gs N VT VV vs Fp, DS w p g m d DV c ∧ RDk w rp gs N r VT VV vs Fp ∧ (∀ b, foot p g m DV b → Q b) ∧ (∀ b, Fp b → Q b) ∧ (∀ b, foot p g m DV b → ¬ Fp b)
def Qn (Q : Nat → Prop) (n : Nat) : Nat → Prop := fun b => Q b ∨ n ≤ b
variable {w w' : World} {p rp c : Nat} {d r : Dst} {Q : Nat → Prop}
theorem Bo.kept (h : Bo w p rp d r c Q) {F : Nat → Prop} (hc : Chg F w w') (hF : ∀ b, Q b → ¬ F b) : Bo w' p rp d r c Q := by
  obtain ⟨g, m, DV, gs, N, VT, VV, vs, Fp, hd, hr, q1, q2, q3⟩ := h
  exact ⟨g, m, DV, gs, N, VT, VV, vs, Fp, DK.kept hd hc (fun b hb => hF b (q1 b hb)), hr.kept hc (fun b hb => hF b (q2 b hb)), q1, q2, q3⟩
theorem Bo.below (h : Bo w p rp d r c Q) (hb : Below w.heap.size w w') : Bo w' p rp d r c Q := h.kept (F := fun _ => False) (Chg.of_below hb) (fun _ _ hf => hf)
theorem Bo.mono (h : Bo w p rp d r c Q) {Q' : Nat → Prop} (hQ : ∀ b, Q b → Q' b) : Bo w p rp d r c Q' := by
  obtain ⟨g, m, DV, gs, N, VT, VV, vs, Fp, hd, hr, q1, q2, q3⟩ := h
  exact ⟨g, m, DV, gs, N, VT, VV, vs, Fp, hd, hr, fun b hb => hQ b (q1 b hb), fun b hb => hQ b (q2 b hb), q3⟩
theorem Bo.here (h : Bo w p rp d r c Q) : Bo w p rp d r c (fun b => Q b ∧ b < w.heap.size) := by
  obtain ⟨g, m, DV, gs, N, VT, VV, vs, Fp, hd, hr, q1, q2, q3⟩ := h
  exact ⟨g, m, DV, gs, N, VT, VV, vs, Fp, hd, hr, fun b hb => ⟨q1 b hb, DK.lt hd hb⟩, fun b hb => ⟨q2 b hb, hr.flt b hb⟩, q3⟩
theorem Bo.more (h : Bo w p rp d r c Q) {c' : Nat} (hc : c ≤ c') (hm : c' ≤ 1099511627776) : Bo w p rp d r c' Q := by
  obtain ⟨g, m, DV, gs, N, VT, VV, vs, Fp, hd, hr, q1, q2, q3⟩ := h
  exact ⟨g, m, DV, gs, N, VT, VV, vs, Fp, DK.more hd hc hm, hr, q1, q2, q3⟩
theorem Bo.few (h : Bo w p rp d r c Q) : c ≤ 1099511627776 ∧ (∀ i, (d.C i).length ≤ 1099511627776) ∧ d.S.length ≤ 65536 ∧ 1 ≤ d.S.length := by
  obtain ⟨g, m, DV, gs, N, VT, VV, vs, Fp, hd, hr, q1, q2, q3⟩ := h
  exact ⟨DK.few hd, fun i => Nat.le_trans ((DK.cache hd).few i) (DK.few hd), DK.most hd, DK.one hd⟩
/-- a call's frame -/
theorem boD {g m gs N c' : Nat} {DV V' VT VV : Nat → Value} {vs : Nat → List Value} {Fp : Nat → Prop} {d' : Dst} (hr : RDk w rp gs N r VT VV vs Fp) (q1 : ∀ b, foot p g m DV b → Q b) (q2 : ∀ b, Fp b → Q b) (q3 : ∀ b, foot p g m DV b → ¬ Fp b) (hd' : DS w' p g m d' V' c') (hs : Step p g m DV V' w w') : Bo w' p rp d' r c' (Qn Q w.heap.size) ∧ Chg Q w w' := by
  refine ⟨⟨g, m, V', gs, N, VT, VV, vs, Fp, hd', hr.kept hs.chg (fun b hb hf => q3 b hf hb), fun b hb => ?_, fun b hb => .inl (q2 b hb), fun b hb hf => ?_⟩, hs.chg.mono q1⟩
  · rcases hs.new b hb with h | h
    · exact .inl (q1 b h)
    · exact .inr h
  · rcases hs.new b hb with h | h
    · exact q3 b h hf
    · have := hr.flt b hf; omega
theorem boR {g m gs N : Nat} {DV VT' VV' : Nat → Value} {vs' : Nat → List Value} {Fp Fp' : Nat → Prop} {r' : Dst} (hd : DS w p g m d DV c) (q1 : ∀ b, foot p g m DV b → Q b) (q2 : ∀ b, Fp b → Q b) (q3 : ∀ b, foot p g m DV b → ¬ Fp b) (hr' : RDk w' rp gs N r' VT' VV' vs' Fp') (hs : RStep Fp Fp' w w') : Bo w' p rp d r' c (Qn Q w.heap.size) ∧ Chg Q w w' := by
  refine ⟨⟨g, m, DV, gs, N, VT', VV', vs', Fp', DK.kept hd hs.chg (fun b hb hf => q3 b hb hf), hr', fun b hb => .inl (q1 b hb), fun b hb => ?_, fun b hb hf => ?_⟩, hs.chg.mono q2⟩
  · rcases hs.new b hb with h | h
    · exact .inl (q2 b h)
    · exact .inr h
  · rcases hs.new b hf with h | h
    · exact q3 b hb h
    · have := DK.lt hd hb; omega
theorem bo0 (h : Bo w p rp d r c Q) : Bo w p rp d r c (Qn Q w.heap.size) ∧ Chg Q w w := ⟨h.mono fun _ hb => .inl hb, Chg.refl _ _⟩
/-- a write of any number, any text -/
def wrOk (d : Dst) (i : Int) (L : Nat) : Bool := inB i d.S.length && L == 128
def Dst.wrE (d : Dst) (i : Int) (L : Nat) : Int := if wrOk d i L then (if d.can then 0 else 5) else 1
def Dst.wr (d : Dst) (i : Int) (x : List UInt8) : Dst := if wrOk d i x.length then d.write i.toNat x else d
theorem wrOk_yes {d : Dst} {i : Int} {L : Nat} (h : wrOk d i L = true) : ∃ k : Nat, i = (k : Int) ∧ k < d.S.length ∧ L = 128 := by
  unfold wrOk inB at h
  simp at h
  exact ⟨i.toNat, by omega, by omega, h.2⟩
theorem wrOk_no {d : Dst} {i : Int} {L : Nat} (h : wrOk d i L = false) : inB i d.S.length = false ∨ L ≠ 128 := by
  unfold wrOk at h
  cases hb : inB i d.S.length
  · exact .inl rfl
  · rw [hb] at h; simp at h; exact .inr h
theorem Bo.write (h : Bo w p rp d r c Q) (hc : c < 1099511627776) (i : Int) (ba : Option Addr) (L bc : Nat) (xs : List UInt8) (hx : Rd w ba xs) (hL : L = xs.length) (hq : ∀ a, ba = some a → ¬ Q a.block) :
    Calls Try.prog 21 #[.pointer (some ⟨p, 0, none⟩), .int .i64 i, .slice ba L bc] w fun e w' => e = .returned (.int .i64 (d.wrE i L)) ∧ Bo w' p rp (d.wr i xs) r (c + 1) (Qn Q w.heap.size) ∧ Chg Q w w' := by
  subst hL
  obtain ⟨g, m, DV, gs, N, VT, VV, vs, Fp, hd, hr, q1, q2, q3⟩ := h
  have c0 : w.cell? ⟨p, 0, none⟩ = some (.slice (some ⟨g, 0, none⟩) d.S.length d.S.length) := by rw [cell_of_row _ _ 0 _ _ _ (DK.hp hd)]; rfl
  cases hok : wrOk d i xs.length
  · have e1 : d.wrE i xs.length = 1 := by unfold Dst.wrE; rw [hok]; rfl
    have e2 : d.wr i xs = d := by unfold Dst.wr; rw [hok]; rfl
    rw [e1, e2]
    have hb : Bo w p rp d r (c + 1) Q := ⟨g, m, DV, gs, N, VT, VV, vs, Fp, DK.more hd (Nat.le_succ _) hc, hr, q1, q2, q3⟩
    rcases wrOk_no hok with h9 | h9
    · refine (write_out p _ _ _ i ba xs.length bc w c0 h9).mono ?_
      rintro e w' ⟨rfl, rfl⟩
      exact ⟨rfl, bo0 hb⟩
    · refine (write_len p _ _ _ i ba xs.length bc w c0 h9).mono ?_
      rintro e w' ⟨rfl, rfl⟩
      exact ⟨rfl, bo0 hb⟩
  · obtain ⟨k, rfl, hk, hl⟩ := wrOk_yes hok
    have e1 : d.wrE (k : Int) xs.length = if d.can then 0 else 5 := by unfold Dst.wrE; rw [hok]; rfl
    have e2 : d.wr (k : Int) xs = d.write k xs := by unfold Dst.wr; rw [hok]; simp
    rw [e1, e2]
    have hw := write_all p g m k d DV c ba bc xs w hd hc hk hx hl (fun a ha e => hq a ha (q1 _ (.inl e)))
    rw [← hl] at hw
    refine hw.mono ?_
    rintro e w' ⟨rfl, V', hd', hs⟩
    exact ⟨rfl, boD hr q1 q2 q3 hd' hs⟩
section
set_option maxRecDepth 20000
theorem rwrite_out {w : World} {rp gs N : Nat} {d : Dst} {VT VV : Nat → Value} {vs : Nat → List Value} {Fp : Nat → Prop} (h : RDk w rp gs N d VT VV vs Fp) (i : Int) (hi : inB i N = false) (ao : Option Addr) (L cap : Nat) :
    Calls Try.prog 48 #[.pointer (some ⟨rp, 0, none⟩), .int .i64 i, .slice ao L cap] w fun e w' => e = .returned (.int .i64 1) ∧ w' = w := by
  have hth := rthere_t h i
  rw [show decide (0 ≤ i ∧ i < (N : Int)) = false from hi] at hth
  have HTH : Hid _ := hth
  clear hth h
  go_enter Try.func48, Try.ntmps48
  go_wp2_with fail
  refine Calls.mono HTH.out ?_
  rintro e w1 ⟨rfl, hq⟩
  have hq := hq.symm
  subst hq
  go_wp2
  go_ret
  exact ⟨rfl, rfl⟩
theorem rwrite_len {w : World} {rp gs N : Nat} {d : Dst} {VT VV : Nat → Value} {vs : Nat → List Value} {Fp : Nat → Prop} (h : RDk w rp gs N d VT VV vs Fp) (i : Int) (hi : inB i N = true) (ao : Option Addr) (L cap : Nat) (hL : L ≠ 128) :
    Calls Try.prog 48 #[.pointer (some ⟨rp, 0, none⟩), .int .i64 i, .slice ao L cap] w fun e w' => e = .returned (.int .i64 1) ∧ w' = w := by
  have hth := rthere_t h i
  rw [show decide (0 ≤ i ∧ i < (N : Int)) = true from hi] at hth
  have HTH : Hid _ := hth
  have hLi : ¬ (L : Int) = 128 := by omega
  clear hth h
  go_enter Try.func48, Try.ntmps48
  go_wp2_with fail
  refine Calls.mono HTH.out ?_
  rintro e w1 ⟨rfl, hq⟩
  have hq := hq.symm
  subst hq
  go_wp2
  go_ret
  exact ⟨rfl, rfl⟩
theorem rread_out {w : World} {rp gs N : Nat} {d : Dst} {VT VV : Nat → Value} {vs : Nat → List Value} {Fp : Nat → Prop} (h : RDk w rp gs N d VT VV vs Fp) (i : Int) (hi : inB i N = false) :
    Calls Try.prog 53 #[.pointer (some ⟨rp, 0, none⟩), .int .i64 i] w fun e w' => e = .returned (.tuple #[.slice none 0 0, .int .i64 1]) ∧ w' = w := by
  have hth := rthere_t h i
  rw [show decide (0 ≤ i ∧ i < (N : Int)) = false from hi] at hth
  have HTH : Hid _ := hth
  clear hth h
  go_enter Try.func53, Try.ntmps53
  go_wp2_with fail
  refine Calls.mono HTH.out ?_
  rintro e w1 ⟨rfl, hq⟩
  have hq := hq.symm
  subst hq
  go_wp2
  go_ret2
  exact ⟨rfl, rfl⟩
theorem rread_off {w : World} {rp gs N : Nat} {d : Dst} {VT VV : Nat → Value} {vs : Nat → List Value} {Fp : Nat → Prop} (h : RDk w rp gs N d VT VV vs Fp) (i : Int) (hi : inB i N = true) (hoff : d.off = true) :
    Calls Try.prog 53 #[.pointer (some ⟨rp, 0, none⟩), .int .i64 i] w fun e w' => e = .returned (.tuple #[.slice none 0 0, .int .i64 5]) ∧ w' = w := by
  have hth := rthere_t h i
  rw [show decide (0 ≤ i ∧ i < (N : Int)) = true from hi] at hth
  have HTH : Hid _ := hth
  have c1 := h.c1
  rw [hoff] at c1
  clear hth h
  go_enter Try.func53, Try.ntmps53
  go_wp2_with fail
  refine Calls.mono HTH.out ?_
  rintro e w1 ⟨rfl, hq⟩
  have hq := hq.symm
  subst hq
  go_wp2
  go_ret2
  exact ⟨rfl, rfl⟩
end
theorem Bo.rwrite (h : Bo w p rp d r c Q) (hfew : ∀ i, (r.C i).length ≤ 1099511627776) (i : Int) (ba : Option Addr) (L bc : Nat) (xs : List UInt8) (hx : Rd w ba xs) (hL : L = xs.length) (hnil : ba = none → bc = 0) (hq : ∀ a, ba = some a → ¬ Q a.block) :
    Calls Try.prog 48 #[.pointer (some ⟨rp, 0, none⟩), .int .i64 i, .slice ba L bc] w fun e w' => e = .returned (.int .i64 (r.wrE i L)) ∧ Bo w' p rp d (r.wr i xs) c (Qn Q w.heap.size) ∧ Chg Q w w' := by
  subst hL
  have hb := h
  obtain ⟨g, m, DV, gs, N, VT, VV, vs, Fp, hd, hr, q1, q2, q3⟩ := h
  have hN : r.S.length = N := hr.len
  cases hok : wrOk r i xs.length
  · have e1 : r.wrE i xs.length = 1 := by unfold Dst.wrE; rw [hok]; rfl
    have e2 : r.wr i xs = r := by unfold Dst.wr; rw [hok]; rfl
    rw [e1, e2]
    cases h9 : inB i N
    · refine (rwrite_out hr i h9 ba xs.length bc).mono ?_
      rintro e w' ⟨rfl, rfl⟩
      exact ⟨rfl, bo0 hb⟩
    · have h10 : xs.length ≠ 128 := by
        rcases wrOk_no hok with h10 | h10
        · rw [hN, h9] at h10; cases h10
        · exact h10
      refine (rwrite_len hr i h9 ba xs.length bc h10).mono ?_
      rintro e w' ⟨rfl, rfl⟩
      exact ⟨rfl, bo0 hb⟩
  · obtain ⟨k, rfl, hk, hl⟩ := wrOk_yes hok
    have e1 : r.wrE (k : Int) xs.length = if r.can then 0 else 5 := by unfold Dst.wrE; rw [hok]; rfl
    have e2 : r.wr (k : Int) xs = r.write k xs := by unfold Dst.wr; rw [hok]; simp
    rw [e1, e2]
    have hw := rwrite_t hr k (by omega) ba bc xs hx hl hnil (fun a ha e => hq a ha (by rw [e]; exact q2 _ hr.frp)) (hfew k)
    rw [← hl] at hw
    refine hw.mono ?_
    rintro e w' ⟨rfl, VV', vs', Fp', hr', hs⟩
    exact ⟨rfl, boR hd q1 q2 q3 hr' hs⟩
theorem Bo.flush (h : Bo w p rp d r c Q) : Calls Try.prog 24 #[.pointer (some ⟨p, 0, none⟩)] w fun e w' => e = .returned (.int .i64 (if d.can then 0 else 5)) ∧ Bo w' p rp d.flush r c (Qn Q w.heap.size) ∧ Chg Q w w' := by
  obtain ⟨g, m, DV, gs, N, VT, VV, vs, Fp, hd, hr, q1, q2, q3⟩ := h
  refine (flush_all p g m d DV c w hd).mono ?_
  rintro e w' ⟨rfl, V', hd', hs⟩
  exact ⟨rfl, boD hr q1 q2 q3 hd' hs⟩
theorem Bo.rflush (h : Bo w p rp d r c Q) (hfew : ∀ i, (r.C i).length ≤ 1099511627776) : Calls Try.prog 49 #[.pointer (some ⟨rp, 0, none⟩)] w fun e w' => e = .returned (.int .i64 (if r.can then 0 else 5)) ∧ Bo w' p rp d r.flush c (Qn Q w.heap.size) ∧ Chg Q w w' := by
  obtain ⟨g, m, DV, gs, N, VT, VV, vs, Fp, hd, hr, q1, q2, q3⟩ := h
  refine (rflush_t hr (fun i _ => hfew i)).mono ?_
  rintro e w' ⟨rfl, VT', VV', vs', hr', hc⟩
  exact ⟨rfl, boR hd q1 q2 q3 hr' ⟨hc, fun b hb => .inl hb⟩⟩
theorem Bo.cut (h : Bo w p rp d r c Q) (n : Int) (hn : n ≤ 9223372036854775807) : Calls Try.prog 50 #[.pointer (some ⟨p, 0, none⟩), .int .i64 n] w fun e w' => e = .returned (.tuple #[]) ∧ Bo w' p rp (d.cut n) r c (Qn Q w.heap.size) ∧ Chg Q w w' := by
  obtain ⟨g, m, DV, gs, N, VT, VV, vs, Fp, hd, hr, q1, q2, q3⟩ := h
  refine (cut_t p _ _ _ _ _ _ n w (DK.one hd) (DK.hp hd)).mono ?_
  rintro e w' ⟨rfl, hp, hg⟩
  have hfu : cutF d.off d.fuse n ≤ 9223372036854775807 := by
    unfold cutF
    split
    · exact DK.fu hd
    · omega
  have hs : DS w' p g m (d.cut n) DV c := DK.begun hd hp hg hfu
  exact ⟨rfl, boD hr q1 q2 q3 hs ⟨Chg.of_grown hg (fun b hb => by cases hb; exact .inl rfl), fun b hb => .inl hb⟩⟩
theorem Bo.rcut (h : Bo w p rp d r c Q) (n : Int) (hn : n ≤ 9223372036854775807) : Calls Try.prog 51 #[.pointer (some ⟨rp, 0, none⟩), .int .i64 n] w fun e w' => e = .returned (.tuple #[]) ∧ Bo w' p rp d (r.cut n) c (Qn Q w.heap.size) ∧ Chg Q w w' := by
  obtain ⟨g, m, DV, gs, N, VT, VV, vs, Fp, hd, hr, q1, q2, q3⟩ := h
  refine (rcut_t hr n hn).mono ?_
  rintro e w' ⟨rfl, hr', hg⟩
  exact ⟨rfl, boR hd q1 q2 q3 hr' ⟨Chg.of_grown hg (fun b hb => by cases hb; exact hr.frp), fun b hb => .inl hb⟩⟩
theorem Bo.crash (h : Bo w p rp d r c Q) (ca : Option Addr) (L cc : Nat) (chs : List Int) (hL : L = chs.length) (hch : Ints w ca chs) (hq : 0 < chs.length → ∀ a, ca = some a → ¬ Q a.block) :
    Calls Try.prog 25 #[.pointer (some ⟨p, 0, none⟩), .slice ca L cc] w fun e w' => e = .returned (.tuple #[]) ∧ Bo w' p rp (d.crash chs) r c (Qn Q w.heap.size) ∧ Chg Q w w' := by
  subst hL
  obtain ⟨g, m, DV, gs, N, VT, VV, vs, Fp, hd, hr, q1, q2, q3⟩ := h
  refine (crash_all p g m d DV c ca cc chs w hd hch (fun h0 q hq' => ⟨fun e => hq h0 q hq' (q1 _ (.inl e)), fun e => hq h0 q hq' (q1 _ (.inr (.inl e))), fun e => hq h0 q hq' (q1 _ (.inr (.inr (.inl e))))⟩)).mono ?_
  rintro e w' ⟨rfl, V', hd', hs⟩
  exact ⟨rfl, boD hr q1 q2 q3 hd' hs⟩
theorem Bo.rcrash (h : Bo w p rp d r c Q) (hfew : ∀ i, (r.C i).length ≤ 1099511627776) (ca : Option Addr) (L cc : Nat) (chs : List Int) (hL : L = chs.length) (hch : Ints w ca chs) (hq : 0 < chs.length → ∀ a, ca = some a → ¬ Q a.block) :
    Calls Try.prog 52 #[.pointer (some ⟨rp, 0, none⟩), .slice ca L cc] w fun e w' => e = .returned (.tuple #[]) ∧ Bo w' p rp d (r.crash chs) c (Qn Q w.heap.size) ∧ Chg Q w w' := by
  subst hL
  obtain ⟨g, m, DV, gs, N, VT, VV, vs, Fp, hd, hr, q1, q2, q3⟩ := h
  refine (rcrash_t hr (fun i _ => hfew i) ca cc chs hch (fun h0 q hq' hf => hq h0 q hq' (q2 _ hf))).mono ?_
  rintro e w' ⟨rfl, VT', VV', vs', hr', hc⟩
  exact ⟨rfl, boR hd q1 q2 q3 hr' ⟨hc, fun b hb => .inl hb⟩⟩
/-- what a read tells -/
def Dst.rdE (d : Dst) (i : Int) : Int := if inB i d.S.length then (if d.off then 5 else readE (rdS d i.toNat)) else 1
def Dst.rdB (d : Dst) (i : Int) : List UInt8 := if inB i d.S.length then (if d.off then [] else readB (rdS d i.toNat)) else []
theorem inB_yes {i : Int} {n : Nat} (h : inB i n = true) : ∃ k : Nat, i = (k : Int) ∧ k < n := by
  unfold inB at h
  simp at h
  exact ⟨i.toNat, by omega, by omega⟩
theorem Bo.read (h : Bo w p rp d r c Q) (i : Int) : Calls Try.prog 15 #[.pointer (some ⟨p, 0, none⟩), .int .i64 i] w fun e w' => ∃ v, e = .returned (.tuple #[v, .int .i64 (d.rdE i)]) ∧ Own w' w.heap.size v (d.rdB i) ∧ Below w.heap.size w w' := by
  obtain ⟨g, m, DV, gs, N, VT, VV, vs, Fp, hd, hr, q1, q2, q3⟩ := h
  have c0 : w.cell? ⟨p, 0, none⟩ = some (.slice (some ⟨g, 0, none⟩) d.S.length d.S.length) := by rw [cell_of_row _ _ 0 _ _ _ (DK.hp hd)]; rfl
  have c2 : w.cell? ⟨p, 2, none⟩ = some (.bool d.off) := by rw [cell_of_row _ _ 2 _ _ _ (DK.hp hd)]; rfl
  unfold Dst.rdE Dst.rdB
  cases hi : inB i d.S.length
  · refine (read_out p _ _ _ i w c0 hi).mono ?_
    rintro e w' ⟨rfl, rfl⟩
    exact ⟨_, rfl, World.ownsRow_nil _ _ _ _, Below.refl _ _⟩
  · cases ho : d.off
    · obtain ⟨k, rfl, hk⟩ := inB_yes hi
      obtain ⟨a, cc, -, hL⟩ := DK.looks hd k hk
      have hr9 := read_t p g m k d.S a cc (d.C k) w (DK.secAt hd) hk (by rw [cell_of_row _ _ 1 _ _ _ (DK.hp hd)]; rfl) (by rw [c2, ho]) hL
      have hg : presS (d.S[k]) (d.C k) = rdS d k := by unfold rdS; simp [hk]
      rw [hg] at hr9
      exact hr9
    · rw [ho] at c2
      refine (read_off p _ _ _ i w c0 c2 hi).mono ?_
      rintro e w' ⟨rfl, rfl⟩
      exact ⟨_, rfl, World.ownsRow_nil _ _ _ _, Below.refl _ _⟩
theorem Bo.rread (h : Bo w p rp d r c Q) (hfew : ∀ i, (r.C i).length ≤ 1099511627776) (i : Int) : Calls Try.prog 53 #[.pointer (some ⟨rp, 0, none⟩), .int .i64 i] w fun e w' => ∃ v, e = .returned (.tuple #[v, .int .i64 (r.rdE i)]) ∧ Own w' w.heap.size v (r.rdB i) ∧ Below w.heap.size w w' := by
  obtain ⟨g, m, DV, gs, N, VT, VV, vs, Fp, hd, hr, q1, q2, q3⟩ := h
  unfold Dst.rdE Dst.rdB
  rw [hr.len]
  cases hi : inB i N
  · refine (rread_out hr i hi).mono ?_
    rintro e w' ⟨rfl, rfl⟩
    exact ⟨_, rfl, World.ownsRow_nil _ _ _ _, Below.refl _ _⟩
  · cases ho : r.off
    · obtain ⟨k, rfl, hk⟩ := inB_yes hi
      exact rread_t hr k hk ho (hfew k)
    · refine (rread_off hr i hi ho).mono ?_
      rintro e w' ⟨rfl, rfl⟩
      exact ⟨_, rfl, World.ownsRow_nil _ _ _ _, Below.refl _ _⟩
theorem Bo.rdLen (h : Bo w p rp d r c Q) (i : Int) : (d.rdB i).length ≤ 128 := by
  obtain ⟨g, m, DV, gs, N, VT, VV, vs, Fp, hd, hr, q1, q2, q3⟩ := h
  unfold Dst.rdB
  split
  · next hi =>
    split
    · simp
    · obtain ⟨k, rfl, hk⟩ := inB_yes hi
      obtain ⟨a, cc, -, hL⟩ := DK.looks hd k hk
      have hg : rdS d k = presS (d.S[k]) (d.C k) := by unfold rdS; simp [hk]
      have hso := afterS_ok ((DK.secAt hd).ok _ (List.getElem_mem hk)) ((d.C k).length : Int) hL.len
      unfold readB
      simp only [Int.toNat_natCast]
      rw [hg]
      split
      · simp
      · exact Nat.le_of_eq hso
  · simp
theorem Bo.image (h : Bo w p rp d r c Q) : Calls Try.prog 18 #[.pointer (some ⟨p, 0, none⟩)] w fun e w' => ∃ v, e = .returned v ∧ Own w' w.heap.size v (img d.S) ∧ Below w.heap.size w w' := by
  obtain ⟨g, m, DV, gs, N, VT, VV, vs, Fp, hd, hr, q1, q2, q3⟩ := h
  exact image_t p g d.S w (DK.secAt hd)
theorem Bo.rimage (h : Bo w p rp d r c Q) : Calls Try.prog 37 #[.pointer (some ⟨rp, 0, none⟩)] w fun e w' => ∃ v, e = .returned v ∧ Own w' w.heap.size v (img r.S) ∧ Below w.heap.size w w' := by
  obtain ⟨g, m, DV, gs, N, VT, VV, vs, Fp, hd, hr, q1, q2, q3⟩ := h
  exact rimage_t hr
theorem Bo.imgLen (h : Bo w p rp d r c Q) : (img d.S).length ≤ 65536 * 129 := by
  obtain ⟨g, m, DV, gs, N, VT, VV, vs, Fp, hd, hr, q1, q2, q3⟩ := h
  rw [img_len (fit_ok (DK.fit hd))]
  have := DK.most hd
  omega
theorem Bo.dirty (h : Bo w p rp d r c Q) : Calls Try.prog 14 #[.pointer (some ⟨p, 0, none⟩)] w fun e w' => ∃ v u, e = .returned (.tuple #[v, u]) ∧ OwnI w' w.heap.size v (dirtyL d.S.length d.C) ∧ OwnI w' w.heap.size u (dirtyC d.S.length d.C) ∧ Below w.heap.size w w' := by
  obtain ⟨g, m, DV, gs, N, VT, VV, vs, Fp, hd, hr, q1, q2, q3⟩ := h
  refine (dirty_t p g m d.S d.C DV d.off d.fuse c w hd).mono ?_
  rintro e w' ⟨v, u, rfl, h1, h2, -, h3⟩
  exact ⟨v, u, rfl, h1, h2, h3⟩
theorem Bo.rdirty (h : Bo w p rp d r c Q) (hfew : ∀ i, (r.C i).length ≤ 1099511627776) : Calls Try.prog 54 #[.pointer (some ⟨rp, 0, none⟩)] w fun e w' => ∃ v u, e = .returned (.tuple #[v, u]) ∧ OwnI w' w.heap.size v (dirtyL r.S.length r.C) ∧ OwnI w' w.heap.size u (dirtyC r.S.length r.C) ∧ Below w.heap.size w w' := by
  obtain ⟨g, m, DV, gs, N, VT, VV, vs, Fp, hd, hr, q1, q2, q3⟩ := h
  rw [hr.len]
  exact rdirty_t hr (fun i _ => hfew i)
theorem Bo.sectors (h : Bo w p rp d r c Q) : Calls Try.prog 22 #[.pointer (some ⟨p, 0, none⟩)] w fun e w' => e = .returned (.int .i64 (d.S.length : Nat)) ∧ w' = w := by
  obtain ⟨g, m, DV, gs, N, VT, VV, vs, Fp, hd, hr, q1, q2, q3⟩ := h
  exact sectors_t p _ _ _ w (by rw [cell_of_row _ _ 0 _ _ _ (DK.hp hd)]; rfl)
theorem Bo.rsectors (h : Bo w p rp d r c Q) : Calls Try.prog 55 #[.pointer (some ⟨rp, 0, none⟩)] w fun e w' => e = .returned (.int .i64 (r.S.length : Nat)) ∧ w' = w := by
  obtain ⟨g, m, DV, gs, N, VT, VV, vs, Fp, hd, hr, q1, q2, q3⟩ := h
  rw [hr.len]
  exact rsectors_t hr
theorem Bo.down (h : Bo w p rp d r c Q) : Calls Try.prog 56 #[.pointer (some ⟨p, 0, none⟩)] w fun e w' => e = .returned (.bool d.off) ∧ w' = w := by
  obtain ⟨g, m, DV, gs, N, VT, VV, vs, Fp, hd, hr, q1, q2, q3⟩ := h
  exact down_t p _ _ _ d.off w (DK.one hd) (by rw [cell_of_row _ _ 0 _ _ _ (DK.hp hd)]; rfl) (by rw [cell_of_row _ _ 2 _ _ _ (DK.hp hd)]; rfl)
theorem Bo.rdown (h : Bo w p rp d r c Q) : Calls Try.prog 57 #[.pointer (some ⟨rp, 0, none⟩)] w fun e w' => e = .returned (.bool r.off) ∧ w' = w := by
  obtain ⟨g, m, DV, gs, N, VT, VV, vs, Fp, hd, hr, q1, q2, q3⟩ := h
  exact rdown_t hr
theorem BothAt.bo {w0 : World} (h : BothAt w0 w p rp d c) : Bo w p rp d d c (fun b => w0.heap.size ≤ b) := h
end Go.Proofs.Ytgdkiejlggiakac
