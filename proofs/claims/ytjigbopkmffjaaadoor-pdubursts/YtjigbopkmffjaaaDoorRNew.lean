import Derived.Test.YtjigbopkmffjaaaDoorRdr5
import Derived.Test.YtjigbopkmffjaaaDoorRefNum
namespace Go.Proofs.YtjigbopkmffjaaaDoor
set_option linter.unusedVariables false
set_option linter.unusedSimpArgs false
open Go.RowKit
/-- the document's Reader: what is left, the fault; D: where its bytes lie -/
structure RefAt (w : World) (q : Nat) (D : Option Nat) (ao : Option Addr) (cap : Nat) (ys : List UInt8) (f : Int) : Prop where
  c0 : w.cell? ⟨q, 0, none⟩ = some (.slice ao ys.length cap)
  c1 : w.cell? ⟨q, 1, none⟩ = some (.int .i64 f)
  f0 : w.frozen? ⟨q, 0, none⟩ = false
  f1 : w.frozen? ⟨q, 1, none⟩ = false
  rd : Rd w ao ys
  blk : ∀ a, ao = some a → D = some a.block
  dq : D ≠ some q
  hl : ys.length ≤ 140737488355328
  hc : ys.length ≤ cap
  hn : ao = none → cap = 0
  sp : ao = none ∨ ∃ b o, ao = some ⟨b, o, none⟩
theorem RefAt.grown {w w' : World} {q : Nat} {D : Option Nat} {ao : Option Addr} {cap : Nat} {ys : List UInt8} {f : Int} {row : Option Nat} (h : RefAt w q D ao cap ys f) (hg : w.grownBy w' row) (h1 : some q ≠ row) (h2 : ∀ d, D = some d → some d ≠ row) : RefAt w' q D ao cap ys f :=
  ⟨hg.cell h.c0 h1, hg.cell h.c1 h1, (hg.frozen_far ⟨q, 0, none⟩ (World.block_lt_of_cell? w _ h.c0) h1).trans h.f0, (hg.frozen_far ⟨q, 1, none⟩ (World.block_lt_of_cell? w _ h.c1) h1).trans h.f1, h.rd.grown hg (fun a ha => h2 _ (h.blk a ha)), h.blk, h.dq, h.hl, h.hc, h.hn, h.sp⟩
theorem RefAt.below {w w' : World} {q : Nat} {D : Option Nat} {ao : Option Addr} {cap : Nat} {ys : List UInt8} {f : Int} (h : RefAt w q D ao cap ys f) (hb : Below w.heap.size w w') : RefAt w' q D ao cap ys f :=
  h.grown (gr_below (World.grownBy.refl w none) hb) (by simp) (fun _ _ => by simp)
theorem RefAt.setF {w : World} {q : Nat} {D : Option Nat} {ao : Option Addr} {cap : Nat} {ys : List UInt8} {f : Int} (h : RefAt w q D ao cap ys f) (g : Int) : RefAt (w.setCell ⟨q, 1, none⟩ (.int .i64 g)) q D ao cap ys g :=
  ⟨by rw [World.cell?_setCell_other _ _ _ _ (by simp)]; exact h.c0, World.cell?_setCell_same _ _ _ (by rw [h.c1]), by simpa using h.f0, by simpa using h.f1, h.rd.setCell _ _ (fun a ha e => h.dq (by rw [h.blk a ha, e])), h.blk, h.dq, h.hl, h.hc, h.hn, h.sp⟩
theorem RefAt.setR {w : World} {q : Nat} {D : Option Nat} {ao : Option Addr} {cap : Nat} {ys : List UInt8} {f : Int} (h : RefAt w q D ao cap ys f) (ao' : Option Addr) (n' cap' k : Nat) (hn' : n' = (ys.drop k).length) (hrd : Rd w ao' (ys.drop k)) (hb : ∀ a, ao' = some a → D = some a.block) (hc' : n' ≤ cap') (hnil : ao' = none → cap' = 0) (hsp : ao' = none ∨ ∃ b o, ao' = some ⟨b, o, none⟩) :
    RefAt (w.setCell ⟨q, 0, none⟩ (.slice ao' n' cap')) q D ao' cap' (ys.drop k) f := by
  subst hn'
  have hl := h.hl
  exact ⟨World.cell?_setCell_same _ _ _ (by rw [h.c0]), by rw [World.cell?_setCell_other _ _ _ _ (by simp)]; exact h.c1, by simpa using h.f0, by simpa using h.f1, hrd.setCell _ _ (fun a ha e => h.dq (by rw [hb a ha, e])), hb, h.dq, by simp; omega, hc', hnil, hsp⟩
theorem fail_d {q : Nat} {D : Option Nat} {ao : Option Addr} {cap : Nat} {ys : List UInt8} {f : Int} (g : Int) (w : World) (h : RefAt w q D ao cap ys f) :
    Calls Tryd.prog 53 #[.pointer (some ⟨q, 0, none⟩), .int .i64 g] w fun e w' => e = .returned (.tuple #[]) ∧ RefAt w' q D ao cap ys (if f = 0 then g else f) ∧ w.grownBy w' (some q) := by
  have k1 := h.c1
  have k2 := h.f1
  by_cases hf : f = 0
  · rw [if_pos hf]
    subst hf
    go_enter Tryd.func53, Tryd.ntmps53
    go_wp2
    go_end0
    exact ⟨rfl, h.setF _, gr_set (World.grownBy.refl _ _) _ _⟩
  · rw [if_neg hf]
    go_enter Tryd.func53, Tryd.ntmps53
    go_wp2
    go_end0
    exact ⟨rfl, h, World.grownBy.refl _ _⟩
set_option maxRecDepth 20000 in
set_option maxHeartbeats 1600000 in
theorem number_d {q : Nat} {D : Option Nat} {ao : Option Addr} {cap : Nat} {ys : List UInt8} {f : Int} (m : Nat) (w : World) (h : RefAt w q D ao cap ys f) :
    Calls Tryd.prog 49 #[.pointer (some ⟨q, 0, none⟩), .int .u64 m] w fun e w' => e = .returned (.int .u64 ((rNum m ys f).1 : Nat)) ∧ (∃ ao' cap', RefAt w' q D ao' cap' (ys.drop (rNum m ys f).2.1) (rNum m ys f).2.2) ∧ w.grownBy w' (some q) := by
  have k0 := h.c0
  have k1 := h.c1
  have k2 := h.f0
  by_cases hf : f = 0
  · subst hf
    obtain ⟨N, K, E, hN⟩ : ∃ N K E : Nat, numS ys = (N, K, E) := ⟨_, _, _, rfl⟩
    have hnv : numV ys = .tuple #[.int .u64 N, .int .i64 K, .int .i64 E] := by unfold numV; rw [hN]
    have hK := (numS_lt ys).2
    rw [hN] at hK
    have hK2 : K ≤ ys.length := by have : K ≤ min ys.length 10 := hK; omega
    clear hK
    have hcase : (E = 0 ∧ m < N ∧ Hid (rNum m ys 0 = (0, 0, 12))) ∨ (E = 0 ∧ ¬ m < N ∧ Hid (rNum m ys 0 = (N, K, 0))) ∨ (¬ E = 0 ∧ Hid (rNum m ys 0 = (0, 0, (E : Int)))) := by
      unfold rNum ahS Hid
      rw [hN]
      by_cases hE : E = 0
      · by_cases hm : m < N
        · refine .inl ⟨hE, hm, ?_⟩
          rw [if_pos rfl, if_pos (show (N, K, E).2.2 = 0 ∧ m < (N, K, E).1 from ⟨hE, hm⟩)]; rfl
        · refine .inr (.inl ⟨hE, hm, ?_⟩)
          rw [if_pos rfl, if_neg (show ¬ ((N, K, E).2.2 = 0 ∧ m < (N, K, E).1) from fun h => hm h.2), if_pos (show (N, K, E).2.2 = 0 from hE)]
      · refine .inr (.inr ⟨hE, ?_⟩)
        rw [if_pos rfl, if_neg (show ¬ ((N, K, E).2.2 = 0 ∧ m < (N, K, E).1) from fun h => hE h.1), if_neg (show ¬ (N, K, E).2.2 = 0 from hE)]
    clear hN
    have hc := h.hc
    have hl := h.hl
    have hr := h.rd
    go_enter Tryd.func49, Tryd.ntmps49
    go_wp2_with fail
    refine (refNumber_n ao _ cap ys rfl w hr h.hl).mono ?_
    rintro e w1 ⟨rfl, hw1⟩
    subst hw1
    rw [hnv]
    clear hnv
    rcases hcase with ⟨rfl, hlt, HAV⟩ | ⟨rfl, hlt, HAV⟩ | ⟨hlt, HAV⟩
    · go_wp2_with fail
      refine (fail_d 12 w1 h).mono ?_
      rintro e w2 ⟨rfl, h2, hg2⟩
      go_wp2
      go_ret
      rw [HAV.out]
      exact ⟨rfl, ⟨_, _, h2⟩, hg2⟩
    · rcases h.sp with hao | ⟨b, o, hao⟩
      · have hcap := h.hn hao
        subst hao
        subst hcap
        obtain rfl : ys = [] := List.eq_nil_of_length_eq_zero (by omega)
        obtain rfl : K = 0 := by simpa using hK2
        go_wp2
        go_ret
        rw [HAV.out]
        exact ⟨rfl, ⟨_, _, h.setR none 0 0 0 rfl (Rd.nil _ _) (fun a ha => by cases ha) (Nat.le_refl _) (fun _ => rfl) (.inl rfl)⟩, gr_set (World.grownBy.refl _ _) _ _⟩
      · subst hao
        have HB : Hid (D = some b) := h.blk _ rfl
        by_cases hcp : cap = K
        · have HYL : Hid (ys.length = K) := by unfold Hid; omega
          rw [HYL.out, hcp] at k0
          clear hcp hK2 hc hl
          go_wp2
          go_ret
          rw [HAV.out]
          refine ⟨rfl, ⟨_, _, h.setR (some ⟨b, o, none⟩) 0 0 K (by simp [HYL.out]) ?_ (fun a ha => by cases ha; exact HB.out) (Nat.le_refl _) (fun h => by cases h) (.inr ⟨_, _, rfl⟩)⟩, gr_set (World.grownBy.refl _ _) _ _⟩
          intro h0
          simp [HYL.out] at h0
        · have hc' : K ≤ cap := by omega
          go_wp2
          go_ret
          rw [HAV.out]
          exact ⟨rfl, ⟨_, _, h.setR (some ⟨b, o + K, none⟩) (ys.length - K) (cap - K) K (by simp) (hr.drop K) (fun a ha => by cases ha; exact HB.out) (by omega) (fun h => by cases h) (.inr ⟨_, _, rfl⟩)⟩, gr_set (World.grownBy.refl _ _) _ _⟩
    · go_wp2_with fail
      refine (fail_d E w1 h).mono ?_
      rintro e w2 ⟨rfl, h2, hg2⟩
      go_wp2
      go_ret
      rw [HAV.out]
      exact ⟨rfl, ⟨_, _, h2⟩, hg2⟩
  · have HV : Hid (rNum m ys f = (0, 0, f)) := by unfold Hid rNum; rw [if_neg hf]
    go_enter Tryd.func49, Tryd.ntmps49
    go_wp2
    go_ret
    rw [HV.out]
    exact ⟨rfl, ⟨_, _, h⟩, World.grownBy.refl _ _⟩
end Go.Proofs.YtjigbopkmffjaaaDoor
namespace Go.Proofs.YtjigbopkmffjaaaDoor
set_option linter.unusedVariables false
set_option linter.unusedSimpArgs false
open Go.RowKit
set_option maxRecDepth 20000 in
set_option maxHeartbeats 800000 in
theorem new_r (ao : Option Addr) (n cap : Nat) (xs : List UInt8) (hn : n = xs.length) (w : World) (hx : Rd w ao xs) (hnil : ao = none → cap = 0) (hl : n ≤ 140737488355328) :
    Calls Tryd.prog 34 #[.slice ao n cap] w fun e w' => ∃ p ao' cap', e = .returned (.pointer (some ⟨p, 0, none⟩)) ∧ RdrAt w' p ao' cap' xs 0 0 ∧ Below w.heap.size w w' ∧ w.heap.size ≤ p ∧ (∀ a, ao' = some a → w.heap.size ≤ a.block ∧ a.block < p) := by
  subst hn
  have HN : Hid (ao = none → cap = 0) := hnil
  clear hnil
  go_enter Tryd.func34, Tryd.ntmps34
  go_wp2_with fail
  refine (clone_any ao cap xs w hx HN.out hl).mono ?_
  rintro e w1 ⟨v1, rfl, hown1, hb1⟩
  obtain ⟨a1, c1, rfl, hlc, -, hnil1, hr1, hblk1⟩ := hown1.val
  have HSP : Hid (a1 = none ∨ ∃ b o, a1 = some ⟨b, o, none⟩) := by
    rcases hown1.2 with ⟨h0, -⟩ | ⟨g, c, cur, h0, -⟩
    · simp only [Value.slice.injEq] at h0; exact .inl h0.1
    · simp only [Value.slice.injEq] at h0; exact .inr ⟨_, _, h0.1⟩
  have HN1 : Hid (a1 = none → c1 = 0) := hnil1
  have HBK : Hid (∀ a, a1 = some a → w.heap.size ≤ a.block ∧ a.block < w1.heap.size) := hblk1
  clear hnil1 hblk1
  go_wp2
  go_ret
  refine ⟨_, a1, c1, rfl, ⟨by simp, by simp, by simp, by simp, by simp, by simp, hr1.alloc _, fun a ha => ?_, Nat.zero_le _, hl, hlc, HN1.out, HSP.out⟩, hb1.alloc hb1.size _, hb1.size, HBK.out⟩
  have := HBK.out a ha
  omega
set_option maxRecDepth 20000 in
set_option maxHeartbeats 800000 in
theorem new_d (ao : Option Addr) (cap : Nat) (xs : List UInt8) (w : World) (hx : Rd w ao xs) (hnil : ao = none → cap = 0) (hl : xs.length ≤ 140737488355328) :
    Calls Tryd.prog 47 #[.slice ao xs.length cap] w fun e w' => ∃ q D ao' cap', e = .returned (.pointer (some ⟨q, 0, none⟩)) ∧ RefAt w' q D ao' cap' xs 0 ∧ Below w.heap.size w w' ∧ w.heap.size ≤ q ∧ (∀ d, D = some d → w.heap.size ≤ d ∧ d < w'.heap.size) := by
  have HN : Hid (ao = none → cap = 0) := hnil
  clear hnil
  have h0 : Own w w.heap.size (.slice none 0 0) [] := World.ownsRow_nil _ _ _ _
  go_enter Tryd.func47, Tryd.ntmps47
  go_wp2_with (at_builtin; refine wp_app rfl _ _ rfl w.heap.size (.slice none 0 0) [] xs _ _ rfl h0 rfl hx HN.out (by simp; omega) (Nat.le_refl _) ?_; intro v1 w1 hown1 hg1; rw [List.nil_append] at hown1; have hb1 : Below w.heap.size w w1 := (Below.refl _ w).grown hg1 (Nat.le_refl _) (fun k hk => by cases hk); obtain ⟨a1, c1, hv1, hlc, -, hnil1, hr1, hblk1⟩ := hown1.val; subst hv1; have HSP : Hid (a1 = none ∨ ∃ b o, a1 = some ⟨b, o, none⟩) := (by
    rcases hown1.2 with ⟨h0, -⟩ | ⟨g, c, cur, h0, -⟩
    · simp only [Value.slice.injEq] at h0; exact .inl h0.1
    · simp only [Value.slice.injEq] at h0; exact .inr ⟨_, _, h0.1⟩); have HN1 : Hid (a1 = none → c1 = 0) := hnil1; have HBK : Hid (∀ a, a1 = some a → w.heap.size ≤ a.block ∧ a.block < w1.heap.size) := hblk1; clear hnil1 hblk1)
  go_ret
  have hs1 := hb1.size
  rcases HSP.out with hao | ⟨b, o, hao⟩
  · refine ⟨_, none, a1, c1, rfl, ⟨by simp, by simp, by simp, by simp, hr1.alloc _, fun a ha => ?_, by simp, hl, hlc, HN1.out, HSP.out⟩, hb1.alloc hb1.size _, hb1.size, fun _ h => by cases h⟩
    rw [hao] at ha; cases ha
  · have hb := HBK.out _ hao
    simp only at hb
    refine ⟨_, some b, a1, c1, rfl, ⟨by simp, by simp, by simp, by simp, hr1.alloc _, fun a ha => ?_, by simp; omega, hl, hlc, HN1.out, HSP.out⟩, hb1.alloc hb1.size _, hb1.size, fun d hd => by cases hd; exact ⟨hb.1, by simp; omega⟩⟩
    rw [hao] at ha; cases ha; rfl
end Go.Proofs.YtjigbopkmffjaaaDoor
