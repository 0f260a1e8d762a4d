import Derived.Test.YtibepnilhmbpeaaDoorSMb
import Derived.Test.YtibepnilhmbpeaaDoorRL
namespace Go.Proofs.YtibepnilhmbpeaaDoor
set_option linter.unusedVariables false
set_option linter.unusedSimpArgs false
open Go.RowKit
section
variable {w w' : World} {g p n : Nat} {x : Lg} {sa : Option Addr} {sc : Nat} {d : Dst} {F O : Nat → Prop}
theorem LogM.below (h : LogM w g p x sa sc d n F) (hb : Below w.heap.size w w') : LogM w' g p x sa sc d n F := ⟨h.s.below hb, h.mid.below hb, h.sums, h.sumsS⟩
theorem LogA.below (h : LogA w g p x d n F O) (hb : Below w.heap.size w w') : LogA w' g p x d n F O := by
  obtain ⟨⟨sa, sc, h1, h2, h3⟩, h4⟩ := h
  exact ⟨⟨sa, sc, h1.below hb, h2, h3⟩, fun b hO => ⟨Nat.lt_of_lt_of_le (h4 b hO).1 hb.size, (h4 b hO).2⟩⟩
/-- nothing was done but what is new -/
theorem LogL.of_below (h : LogA w g p x d n F O) (hb : Below w.heap.size w w') : LogL w g p n F O x d n w' :=
  ⟨⟨F, O, h.below hb, fun _ h => .inl h, fun _ h => .inl h⟩, Chg.of_below hb⟩
/-- the row of starts has an own block -/
theorem SA_blk {sa : Option Addr} {m c b : Nat} (h : (Value.slice sa m c).ownBlock = some b) : ∃ a, sa = some a ∧ a.block = b := by
  cases sa with
  | none => cases h
  | some a => cases h; exact ⟨a, rfl, rfl⟩
theorem LogM.slt (h : LogM w g p x sa sc d n F) : ∀ a, sa = some a → a.block < w.heap.size := fun a e => by
  subst e
  exact h.mid.lt (b := a.block) (by cases a; rfl)
def Lg.app (x : Lg) (rec : List UInt8) : Lg := { x with L := x.L ++ [⟨x.nx, x.h.e⟩], nx := x.nx + needS rec.length }
/-- amid Append: the record is written -/
structure StA (w2 : World) (g p : Nat) (x : Lg) (sa : Option Addr) (sc : Nat) (d2 : Dst) (n2 : Nat) (F : Nat → Prop) (u : World) : Prop where
  bx : w2.heap[g]? = some (.cells (x.c p sa sc) tLg (0, 0))
  mid : MidG KS w2 (.slice sa x.L.length sc) x.L
  dk : ∃ F', Dsk w2 p d2 n2 F' ∧ ∀ b, F' b → F b ∨ u.heap.size ≤ b
  chg : Chg (fun b => F b ∨ b = g) u w2
theorem WrOut.st {u w2 : World} {rec : List UInt8} (h : LogM u g p x sa sc d n F) (hp : (runO d (recO x.A x.Z x.nx x.h.e rec (needS rec.length))).2 = true) (hq : WrOut u g p x sa sc rec d n F w2) : StA w2 g p x sa sc (runO d (recO x.A x.Z x.nx x.h.e rec (needS rec.length))).1 (n + 79) F u := by
  have h1 := hq.lg
  rw [hp] at h1
  refine ⟨h1, h.mid.kept (fun b hb => ?_), hq.dk, hq.chg⟩
  obtain ⟨a, e1, rfl⟩ := SA_blk hb
  exact hq.chg.block _ (h.slt a e1) (fun h9 => h9.elim (h.s.sF a e1).1 (h.s.sF a e1).2)
theorem LogM.sg (h : LogM w g p x sa sc d n F) : g ≠ 0 := fun e => by
  have h1 := h.s.tab 0
  have h2 := (cells10 h.s.bx).1
  subst e
  have h1 : w.cell? ⟨0, 0, none⟩ = _ := h1
  rw [h2] at h1
  cases h1
theorem LogM.sz (h : LogM w g p x sa sc d n F) : 0 < w.heap.size := World.block_lt_of_cell? w _ (h.s.tab 0)
/-- the log behind Append -/
theorem StA.fin {u1 w2 w7 : World} {d2 : Dst} {n2 m n7 c7 en : Nat} {a7 : Option Addr} {o : Obj} {rec : List UInt8} (hH : LogM w g p x sa sc d n F) (hu : Below w.heap.size w u1) (hs : StA w2 g p x sa sc d2 n2 F u1) (hd2 : d2.S.length = d.S.length) (hm : m = x.L.length) (hg7 : (w2.alloc o).drew.grownBy w7 (Value.slice sa m sc).ownBlock) (hmid : MidG KS w7 (.slice a7 n7 c7) (x.L ++ [⟨x.nx, x.h.e⟩])) (hn7 : n7 = (x.L ++ [(⟨x.nx, x.h.e⟩ : Sta)]).length)
    (ht7 : ∀ b, (Value.slice a7 n7 c7).ownBlock = some b → (Value.slice sa m sc).ownBlock = some b ∨ (w2.alloc o).drew.heap.size ≤ b) (hx7 : w7.heap[g]? = some (.cells (x.c p sa sc) tLg (0, 0))) (hen : en = x.nx + needS rec.length) (hlt : ∀ s ∈ x.L, s.n < x.nx) (hlen : x.L.length < 1000000) :
    ∃ sa' sc' F', LogM ((w7.setCell ⟨g, 8, none⟩ (.slice a7 n7 c7)).setCell ⟨g, 7, none⟩ (.int .u64 (en : Int))) g p (x.app rec) sa' sc' d2 n2 F' ∧ (∀ b, F' b → F b ∨ w.heap.size ≤ b) ∧ (∀ a, sa' = some a → (∃ a0, sa = some a0 ∧ a.block = a0.block) ∨ w.heap.size ≤ a.block) ∧ Chg (fun b => F b ∨ b = g ∨ ∃ a0, sa = some a0 ∧ b = a0.block) w ((w7.setCell ⟨g, 8, none⟩ (.slice a7 n7 c7)).setCell ⟨g, 7, none⟩ (.int .u64 (en : Int))) := by
  have hgw := (Array.getElem?_eq_some_iff.1 hH.s.bx).1
  have hsz : w.heap.size ≤ w2.heap.size := Nat.le_trans hu.size hs.chg.size
  have hb5 : Below w2.heap.size w2 (w2.alloc o).drew := (alS (Below.refl _ _) _).drew
  obtain ⟨F2, hd, hF2⟩ := hs.dk
  have c1 : Chg (fun b => ∃ a0, sa = some a0 ∧ b = a0.block) (w2.alloc o).drew w7 := Chg.of_grown hg7 (fun b e => by obtain ⟨a, e1, e2⟩ := SA_blk e; exact ⟨a, e1, e2.symm⟩)
  have c2 : Chg (fun b => b = g) w7 ((w7.setCell ⟨g, 8, none⟩ (.slice a7 n7 c7)).setCell ⟨g, 7, none⟩ (.int .u64 (en : Int))) := (Chg.of_grown (gset1 w7 g 8 _) (fun b e => by cases e; rfl)).trans (Chg.of_grown (gset1 _ g 7 _) (fun b e => by cases e; rfl)) (fun i h => .inl h)
  have hbox : ((w7.setCell ⟨g, 8, none⟩ (.slice a7 n7 c7)).setCell ⟨g, 7, none⟩ (.int .u64 (en : Int))).heap[g]? = some (.cells ((x.app rec).c p a7 c7) tLg (0, 0)) := by
    have h1 := heap_setCell_same w7 g 8 _ _ (.slice a7 n7 c7) hx7
    have h2 := heap_setCell_same _ g 7 _ _ (.int .u64 (en : Int)) h1
    rw [h2, hn7, hen]
    rfl
  generalize ((w7.setCell ⟨g, 8, none⟩ (.slice a7 n7 c7)).setCell ⟨g, 7, none⟩ (.int .u64 (en : Int))) = w9 at *
  have hF2' : ∀ b, F2 b → F b ∨ w.heap.size ≤ b := fun b h9 => (hF2 b h9).imp id (fun h => Nat.le_trans hu.size h)
  have nS : ∀ b, F2 b → ¬ ∃ a0, sa = some a0 ∧ b = a0.block := by
    rintro b h9 ⟨a0, e, rfl⟩
    rcases hF2' _ h9 with h8 | h8
    · exact (hH.s.sF a0 e).1 h8
    · have := hH.slt a0 e; omega
  have nG : ∀ b, F2 b → ¬ b = g := by
    rintro b h9 rfl
    rcases hF2' _ h9 with h8 | h8
    · exact hH.s.gF h8
    · omega
  have hd9 : Dsk w9 p d2 n2 F2 := ((hd.below hb5).kept c1 nS).kept c2 nG
  have hcw : Chg (fun b => F b ∨ b = g ∨ ∃ a0, sa = some a0 ∧ b = a0.block) w w9 := by
    refine ((((Chg.of_below hu).trans (hs.chg.mono ?_) (fun i h => .inl h)).trans (Chg.of_below hb5 : Chg (fun b => F b ∨ b = g ∨ ∃ a0, sa = some a0 ∧ b = a0.block) _ _) (fun i h => .inl h)).trans (c1.mono ?_) (fun i h => .inl h)).trans (c2.mono ?_) (fun i h => .inl h)
    · rintro b (h | h)
      · exact .inl h
      · exact .inr (.inl h)
    · rintro b h; exact .inr (.inr h)
    · rintro b h; exact .inr (.inl h)
  have hsa7 : ∀ a, a7 = some a → (∃ a0, sa = some a0 ∧ a.block = a0.block) ∨ w2.heap.size ≤ a.block := fun a e => by
    subst e
    rcases ht7 a.block (by cases a; rfl) with h9 | h9
    · obtain ⟨a0, e1, e2⟩ := SA_blk h9
      exact .inl ⟨a0, e1, e2.symm⟩
    · exact .inr (Nat.le_trans hb5.size h9)
  have hgne : ∀ a, a7 = some a → a.block ≠ g := fun a e => by
    rcases hsa7 a e with ⟨a0, e1, e2⟩ | h9
    · rw [e2]; exact (hH.s.sF a0 e1).2
    · omega
  have hmid9 : MidG KS w9 (.slice a7 n7 c7) (x.L ++ [⟨x.nx, x.h.e⟩]) := hmid.kept (fun b hb => by
    obtain ⟨a, e1, rfl⟩ := SA_blk hb
    exact c2.block _ (hmid.lt hb) (hgne a e1))
  rw [hn7] at hmid9
  obtain ⟨a8, c8, e8, h81, h82, h83⟩ := hmid9.val
  injection e8 with e81 e82 e83
  subst e81; subst e83
  refine ⟨a7, c7, F2, ⟨⟨hbox, h83, ?_, ?_, hd9, fun h9 => nG g h9 rfl, fun a e => ⟨fun h9 => ?_, hgne a e⟩, h81, hH.s.Z, by rw [hd2]; exact hH.s.AZ, ?_⟩, hmid9, ?_, ?_⟩, hF2', fun a e => (hsa7 a e).imp id (fun h => Nat.le_trans hsz h), hcw⟩
  · refine List.pairwise_append.2 ⟨hH.s.ris, List.pairwise_singleton _ _, fun a ha b hb => ?_⟩
    obtain rfl := List.mem_singleton.1 hb
    exact hlt a ha
  · show (x.L ++ [_]).length ≤ _
    rw [List.length_append]; show x.L.length + 1 ≤ _; omega
  · rcases hsa7 a e with ⟨a0, e1, e2⟩ | h8
    · rw [e2] at h9; exact nS _ h9 ⟨a0, e1, rfl⟩
    · have := hd.lt _ h9; omega
  · refine hH.s.tab.chg hcw ?_
    rintro (h9 | h9 | ⟨a0, e1, h9⟩)
    · exact hH.sums h9
    · exact hH.sg h9.symm
    · exact hH.sumsS a0 e1 h9.symm
  · intro h9
    rcases hF2' _ h9 with h8 | h8
    · exact hH.sums h8
    · have := hH.sz; omega
  · intro a e e9
    rcases hsa7 a e with ⟨a0, e1, e2⟩ | h8
    · exact hH.sumsS a0 e1 (e2.symm.trans e9)
    · have := hH.sz; omega
end
end Go.Proofs.YtibepnilhmbpeaaDoor
namespace Go.Proofs.YtibepnilhmbpeaaDoor
set_option linter.unusedVariables false
set_option linter.unusedSimpArgs false
open Go.RowKit
section
variable {w w' v : World} {g p n n' : Nat} {x : Lg} {sa : Option Addr} {sc : Nat} {d d' : Dst} {F O : Nat → Prop}
/-- the disk has gone on -/
theorem LogM.disk (h : LogM w g p x sa sc d n F) (hl : DLft w p d' n' F v) (hd : d'.S.length = d.S.length) : ∃ F', LogM v g p x sa sc d' n' F' ∧ ∀ b, F' b → F b ∨ w.heap.size ≤ b := by
  obtain ⟨F', h1, h2⟩ := hl.ex
  have hgw := (Array.getElem?_eq_some_iff.1 h.s.bx).1
  have nG : ¬ F' g := fun h9 => by
    rcases h2 g h9 with h8 | h8
    · exact h.s.gF h8
    · omega
  have nS : ∀ a, sa = some a → ¬ F' a.block := fun a e h9 => by
    rcases h2 _ h9 with h8 | h8
    · exact (h.s.sF a e).1 h8
    · have := h.slt a e; omega
  refine ⟨F', ⟨⟨(hl.chg.block _ hgw h.s.gF).trans h.s.bx, ?_, h.s.ris, h.s.len, h1, nG, fun a e => ⟨nS a e, (h.s.sF a e).2⟩, h.s.cap, h.s.Z, by rw [hd]; exact h.s.AZ, h.s.tab.chg hl.chg h.sums⟩, ?_, ?_, h.sumsS⟩, h2⟩
  · exact RdG.chg h.s.rd hl.chg (fun a e => (h.s.sF a e).1)
  · exact h.mid.kept (fun b hb => by
      obtain ⟨a, e1, rfl⟩ := SA_blk hb
      exact hl.chg.block _ (h.slt a e1) (h.s.sF a e1).1)
  · intro h9
    rcases h2 _ h9 with h8 | h8
    · exact h.sums h8
    · have := h.sz; omega
/-- the record's writing has been broken off -/
theorem WrOut.no {rec : List UInt8} (h : LogM w g p x sa sc d n F) (hp : (runO d (recO x.A x.Z x.nx x.h.e rec (needS rec.length))).2 = false) (hq : WrOut w g p x sa sc rec d n F w') : ∃ F', LogM w' g p (x.hear 5) sa sc (runO d (recO x.A x.Z x.nx x.h.e rec (needS rec.length))).1 (n + 79) F' ∧ ∀ b, F' b → F b ∨ w.heap.size ≤ b := by
  have h1 := hq.lg
  rw [hp] at h1
  obtain ⟨F', hd, h2⟩ := hq.dk
  have hgw := (Array.getElem?_eq_some_iff.1 h.s.bx).1
  have nG : ¬ F' g := fun h9 => by
    rcases h2 g h9 with h8 | h8
    · exact h.s.gF h8
    · omega
  have nS : ∀ a, sa = some a → ¬ F' a.block := fun a e h9 => by
    rcases h2 _ h9 with h8 | h8
    · exact (h.s.sF a e).1 h8
    · have := h.slt a e; omega
  refine ⟨F', ⟨⟨h1, ?_, h.s.ris, h.s.len, hd, nG, fun a e => ⟨nS a e, (h.s.sF a e).2⟩, h.s.cap, h.s.Z, by rw [runO_len]; exact h.s.AZ, h.s.tab.chg hq.chg (fun h9 => h9.elim h.sums (fun e => h.sg e.symm))⟩, ?_, ?_, h.sumsS⟩, h2⟩
  · exact RdG.chg h.s.rd hq.chg (fun a e h9 => h9.elim (h.s.sF a e).1 (h.s.sF a e).2)
  · exact h.mid.kept (fun b hb => by
      obtain ⟨a, e1, rfl⟩ := SA_blk hb
      exact hq.chg.block _ (h.slt a e1) (fun h9 => h9.elim (h.s.sF a e1).1 (h.s.sF a e1).2))
  · intro h9
    rcases h2 _ h9 with h8 | h8
    · exact h.sums h8
    · have := h.sz; omega
end
end Go.Proofs.YtibepnilhmbpeaaDoor
namespace Go.Proofs.YtibepnilhmbpeaaDoor
set_option linter.unusedVariables false
set_option linter.unusedSimpArgs false
open Go.RowKit
section
variable {w w' v : World} {g p n n' : Nat} {x : Lg} {sa : Option Addr} {sc : Nat} {d d' : Dst} {F O : Nat → Prop}
theorem SB_blk {sa : Option Addr} {sc i : Nat} {w : World} {L : List Sta} (h : MidG KS w (.slice sa L.length sc) L) {a : Addr} (e : SB sa sc i = some a) : ∃ a0, sa = some a0 ∧ a.block = a0.block := by
  unfold SB at e
  split at e
  · exact ⟨a, e, rfl⟩
  · rename_i hne
    rcases h.ex with ⟨a0, e9, hL⟩ | ⟨g, o, c, cur, e9, -⟩
    · injection e9 with e1 e2 e3
      clear e1
      cases sa with
      | none => cases e
      | some a0 =>
        cases e
        refine ⟨a0, rfl, ?_⟩
        have hb := h.blk
        cases a0 with
        | mk b o s =>
          cases s with
          | none => show (Addr.add ⟨b, o, none⟩ (i * 2)).block = b; rw [Addr.add_mid]
          | some s => show (Addr.add _ _).block = b; unfold Addr.add; first | rfl | (split <;> rfl) | simp
    · injection e9 with e1 e2 e3
      subst e1
      cases e
      refine ⟨_, rfl, ?_⟩
      show (Addr.add ⟨g, o, none⟩ (i * 2)).block = g
      rw [Addr.add_mid]
/-- the log behind begin -/
theorem BgOut.logm {ep f : Nat} (h : LogM w g p x sa sc d n F) (hq : BgOut w g p x sa sc ep f d n F w') : ∃ sa' sc' F', LogM w' g p (x.bgn d ep f) sa' sc' (runO d (hdO x.A x.Z (x.newH ep f))).1 (n + 1) F' ∧ (∀ b, F' b → F b ∨ w.heap.size ≤ b) ∧ (∀ a, sa' = some a → ∃ a0, sa = some a0 ∧ a.block = a0.block) ∧ Chg (fun b => F b ∨ b = g) w w' := by
  obtain ⟨⟨sa', sc', hbx, hrd, hcs⟩, ⟨F', hd, h2⟩, hc⟩ := hq
  have hgw := (Array.getElem?_eq_some_iff.1 h.s.bx).1
  have nG : ¬ F' g := fun h9 => by
    rcases h2 g h9 with h8 | h8
    · exact h.s.gF h8
    · omega
  have nS : ∀ a, sa = some a → ¬ F' a.block := fun a e h9 => by
    rcases h2 _ h9 with h8 | h8
    · exact (h.s.sF a e).1 h8
    · have := h.slt a e; omega
  have hm := h.mid.kept (w' := w') (fun b hb => by
      obtain ⟨a, e1, rfl⟩ := SA_blk hb
      exact hc.block _ (h.slt a e1) (fun h9 => h9.elim (h.s.sF a e1).1 (h.s.sF a e1).2))
  have htab := h.s.tab.chg hc (fun h9 => h9.elim h.sums (fun e => h.sg e.symm))
  have hsm : ¬ F' 0 := by
    intro h9
    rcases h2 _ h9 with h8 | h8
    · exact h.sums h8
    · have := h.sz; omega
  refine ⟨sa', sc', F', ?_, h2, ?_, hc⟩
  · rcases hcs with ⟨rfl, rfl, hr⟩ | ⟨rfl, rfl, hr⟩
    · have e : x.bgn d ep f = x.hear 5 := by unfold Lg.bgn; rw [hr]; rfl
      rw [e] at hbx hrd ⊢
      exact ⟨⟨hbx, hrd, h.s.ris, h.s.len, hd, nG, fun a e => ⟨nS a e, (h.s.sF a e).2⟩, h.s.cap, h.s.Z, by rw [runO_len]; exact h.s.AZ, htab⟩, hm, hsm, h.sumsS⟩
    · have e : x.bgn d ep f = x.begun ep f := by unfold Lg.bgn; rw [hr]; rfl
      rw [e] at hbx hrd ⊢
      have hk : cntB x.L f ≤ x.L.length := by unfold cntB; exact (List.takeWhile_sublist _).length_le
      have hm2 := hm.drop hk
      obtain ⟨a8, c8, e8, h81, -⟩ := hm2.val
      injection e8 with e81 e82 e83
      refine ⟨⟨hbx, hrd, h.s.ris.sublist (List.drop_sublist _ _), ?_, hd, nG, fun a e => ?_, ?_, h.s.Z, by rw [runO_len]; exact h.s.AZ, htab⟩, hm2, hsm, fun a e => ?_⟩
      · show (x.L.drop _).length ≤ _
        rw [List.length_drop]; have := h.s.len; omega
      · obtain ⟨a0, e1, e2⟩ := SB_blk hm e
        rw [e2]
        exact ⟨nS a0 e1, (h.s.sF a0 e1).2⟩
      · show (x.L.drop _).length ≤ _
        rw [e83]; exact h81
      · obtain ⟨a0, e1, e2⟩ := SB_blk hm e
        rw [e2]
        exact h.sumsS a0 e1
  · intro a e
    rcases hcs with ⟨rfl, rfl, hr⟩ | ⟨rfl, rfl, hr⟩
    · exact ⟨a, e, rfl⟩
    · exact SB_blk hm e
end
end Go.Proofs.YtibepnilhmbpeaaDoor
