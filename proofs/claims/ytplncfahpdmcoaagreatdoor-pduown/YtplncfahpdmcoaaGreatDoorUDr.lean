import Derived.Test.YtplncfahpdmcoaaGreatDoorUK
import Derived.Test.YtplncfahpdmcoaaGreatDoorAppB
import Derived.Test.YtplncfahpdmcoaaGreatDoorRNew
import Derived.Test.YtplncfahpdmcoaaGreatDoorRdr5
namespace Go.Proofs.YtplncfahpdmcoaaGreatDoor
set_option linter.unusedVariables false
set_option linter.unusedSimpArgs false
open Go.RowKit
/-- a Reader: all its memory lies from block B on; what it has ahead, its fault -/
def RS (w : World) (p B : Nat) (ys : List UInt8) (f : Int) : Prop :=
  ∃ ao cap xs pl, RdrAt w p ao cap xs pl f ∧ xs.drop pl = ys ∧ B ≤ p ∧ ∀ a, ao = some a → B ≤ a.block ∧ a.block < p
theorem RS.grown {w w' : World} {p B : Nat} {ys : List UInt8} {f : Int} {r : Nat} (h : RS w p B ys f) (hg : w.grownBy w' (some r)) (hr : r < B ∨ p < r) : RS w' p B ys f := by
  obtain ⟨ao, cap, xs, pl, h1, h2, h3, h4⟩ := h
  exact ⟨ao, cap, xs, pl, h1.grown hg (by simp; omega) (fun a ha => by have := h4 a ha; simp; omega), h2, h3, h4⟩
theorem RS.below {w w' : World} {p B : Nat} {ys : List UInt8} {f : Int} (h : RS w p B ys f) (hb : Below w.heap.size w w') : RS w' p B ys f := by
  obtain ⟨ao, cap, xs, pl, h1, h2, h3, h4⟩ := h
  exact ⟨ao, cap, xs, pl, h1.below hb, h2, h3, h4⟩
theorem RS.set {w : World} {p B : Nat} {ys : List UInt8} {f : Int} (h : RS w p B ys f) (r i : Nat) (v : Value) (hr : r < B ∨ p < r) : RS (w.setCell ⟨r, i, none⟩ v) p B ys f := h.grown (gr_set (World.grownBy.refl _ _) _ _) hr
theorem RS.ge {w : World} {p B : Nat} {ys : List UInt8} {f : Int} (h : RS w p B ys f) : B ≤ p := by obtain ⟨_, _, _, _, _, _, h3, _⟩ := h; exact h3
theorem RS.len {w : World} {p B : Nat} {ys : List UInt8} {f : Int} (h : RS w p B ys f) : ys.length ≤ 140737488355328 := by
  obtain ⟨_, _, xs, pl, h1, h2, h3, _⟩ := h
  have := h1.hl
  rw [← h2, List.length_drop]
  omega
theorem RS.lt {w : World} {p B : Nat} {ys : List UInt8} {f : Int} (h : RS w p B ys f) : p < w.heap.size := by
  obtain ⟨_, _, _, _, h1, _, _, _⟩ := h
  exact World.block_lt_of_cell? w _ h1.c0
theorem gr_box {w w' : World} {p g : Nat} {c : Obj} (hg : w.grownBy w' (some p)) (hne : g ≠ p) (h : w.heap[g]? = some c) : w'.heap[g]? = some c :=
  (hg.block g (Array.getElem?_eq_some_iff.1 h).1 (by simp; omega)).trans h
theorem new_s (ao : Option Addr) (cap : Nat) (xs : List UInt8) (w : World) (hx : Rd w ao xs) (hnil : ao = none → cap = 0) (hl : xs.length ≤ 140737488355328) :
    Calls Tryz.prog 28 #[.slice ao xs.length cap] w fun e w' => ∃ p, e = .returned (.pointer (some ⟨p, 0, none⟩)) ∧ RS w' p w.heap.size xs 0 ∧ Below w.heap.size w w' := by
  refine (new_r ao _ cap xs rfl w hx hnil hl).mono ?_
  rintro e w' ⟨p, ao', cap', rfl, h1, h2, h3, h4⟩
  exact ⟨p, rfl, ⟨ao', cap', xs, 0, h1, rfl, h3, fun a ha => h4 a ha⟩, h2⟩
theorem number_s {p B : Nat} {ys : List UInt8} {f : Int} (m : Nat) (w : World) (h : RS w p B ys f) :
    Calls Tryz.prog 54 #[.pointer (some ⟨p, 0, none⟩), .int .u64 m] w fun e w' => e = .returned (.int .u64 ((rNum m ys f).1 : Nat)) ∧ RS w' p B (ys.drop (rNum m ys f).2.1) (rNum m ys f).2.2 ∧ w.grownBy w' (some p) := by
  obtain ⟨ao, cap, xs, pl, h1, rfl, h3, h4⟩ := h
  refine (number_r m w h1).mono ?_
  rintro e w' ⟨rfl, k1, k2⟩
  exact ⟨rfl, ⟨ao, cap, xs, _, k1, by rw [List.drop_drop], h3, h4⟩, k2⟩
theorem end_s {p B : Nat} {ys : List UInt8} {f : Int} (w : World) (h : RS w p B ys f) :
    Calls Tryz.prog 30 #[.pointer (some ⟨p, 0, none⟩)] w fun e w' => e = .returned (.int .i64 (rEnd ys f)) ∧ RS w' p B ys (rEnd ys f) ∧ w.grownBy w' (some p) := by
  obtain ⟨ao, cap, xs, pl, h1, rfl, h3, h4⟩ := h
  refine (end_r w h1).mono ?_
  rintro e w' ⟨rfl, k1, k2⟩
  exact ⟨rfl, ⟨ao, cap, xs, _, k1, rfl, h3, h4⟩, k2⟩
def mustF (r : Bool) (f : Int) : Int := if r = true then f else if f = 0 then 30 else f
theorem must_s {p B : Nat} {ys : List UInt8} {f : Int} (r : Bool) (w : World) (h : RS w p B ys f) :
    Calls Tryz.prog 53 #[.pointer (some ⟨p, 0, none⟩), .bool r] w fun e w' => e = .returned (.tuple #[]) ∧ RS w' p B ys (mustF r f) ∧ w.grownBy w' (some p) := by
  obtain ⟨ao, cap, xs, pl, h1, h2, h3, h4⟩ := h
  cases r
  · go_enter Tryz.func53, Tryz.ntmps53
    go_wp2_with fail
    refine (fail_r 30 w h1).mono ?_
    rintro e w' ⟨rfl, k1, k2⟩
    go_wp2
    go_end0
    exact ⟨rfl, ⟨ao, cap, xs, pl, by unfold mustF; simpa using k1, h2, h3, h4⟩, k2⟩
  · go_enter Tryz.func53, Tryz.ntmps53
    go_wp2
    go_end0
    exact ⟨rfl, ⟨ao, cap, xs, pl, by unfold mustF; simpa using h1, h2, h3, h4⟩, World.grownBy.refl _ _⟩
def nmS (m : Nat) (s : List UInt8 × Int) : Nat × List UInt8 × Int := ((rNum m s.1 s.2).1, s.1.drop (rNum m s.1 s.2).2.1, (rNum m s.1 s.2).2.2)
def byS (n : Int) (s : List UInt8 × Int) : List UInt8 × List UInt8 × Int := ((rBytes n s.1 s.2).1, s.1.drop (rBytes n s.1 s.2).2.1, (rBytes n s.1 s.2).2.2)
def muS (r : Bool) (s : List UInt8 × Int) : List UInt8 × Int := (s.1, mustF r s.2)
theorem rNum_ok {m : Nat} {ys : List UInt8} (he : (numS ys).2.2 = 0) (hm : (numS ys).1 ≤ m) : rNum m ys 0 = ((numS ys).1, (numS ys).2.1, 0) := by
  have ha : ahS m ys = numS ys := by unfold ahS; rw [if_neg (by omega)]
  unfold rNum
  rw [if_pos rfl, ha, if_pos he]
theorem rNum_big {m : Nat} {ys : List UInt8} (he : (numS ys).2.2 = 0) (hm : ¬ (numS ys).1 ≤ m) : rNum m ys 0 = (0, 0, 12) := by
  have ha : ahS m ys = (0, 0, 12) := by unfold ahS; rw [if_pos ⟨he, by omega⟩]
  unfold rNum
  rw [if_pos rfl, ha, if_neg (by simp)]
  rfl
theorem rNum_bad {m : Nat} {ys : List UInt8} (he : ¬ (numS ys).2.2 = 0) : rNum m ys 0 = (0, 0, (((numS ys).2.2 : Nat) : Int)) := by
  have ha : ahS m ys = numS ys := by unfold ahS; rw [if_neg (fun h => he h.1)]
  unfold rNum
  rw [if_pos rfl, ha, if_neg he]
theorem rNum_f {m : Nat} {ys : List UInt8} {f : Int} (hf : ¬ f = 0) : rNum m ys f = (0, 0, f) := by unfold rNum; rw [if_neg hf]
theorem rNum_lem (m : Nat) (ys : List UInt8) (f : Int) : (rNum m ys f).1 ≤ m := by
  by_cases hf : f = 0
  · subst hf
    by_cases he : (numS ys).2.2 = 0
    · by_cases hm : (numS ys).1 ≤ m
      · rw [rNum_ok he hm]; exact hm
      · rw [rNum_big he hm]; exact Nat.zero_le _
    · rw [rNum_bad he]; exact Nat.zero_le _
  · rw [rNum_f hf]; exact Nat.zero_le _
theorem nmS_le {m : Nat} {s : List UInt8 × Int} {n : Nat} {t : List UInt8 × Int} (h : nmS m s = (n, t)) : n ≤ m := by
  unfold nmS at h
  simp only [Prod.mk.injEq] at h
  rw [← h.1]
  exact rNum_lem _ _ _
theorem rBytes_lem (n : Int) (ys : List UInt8) (f : Int) : (rBytes n ys f).1.length ≤ n.toNat := by
  unfold rBytes
  by_cases hf : f = 0
  · rw [if_pos hf]
    by_cases hn : n < 0
    · rw [if_pos hn]; simp
    · rw [if_neg hn]
      by_cases he : (ahS n.toNat ys).2.2 = 0
      · rw [if_pos he]
        split
        · simp
        · have h1 : (ahS n.toNat ys).1 ≤ n.toNat := by
            unfold ahS at he ⊢
            split
            · simp
            · rename_i hh
              rw [if_neg hh] at he
              omega
          simp only [List.length_take]
          omega
      · rw [if_neg he]; simp
  · rw [if_neg hf]; simp
theorem byS_le {n : Int} {s : List UInt8 × Int} {d : List UInt8} {t : List UInt8 × Int} (h : byS n s = (d, t)) : d.length ≤ n.toNat := by
  unfold byS at h
  simp only [Prod.mk.injEq] at h
  rw [← h.1]
  exact rBytes_lem _ _ _
theorem number_t {p B m n1 : Nat} {ys ys1 : List UInt8} {f f1 : Int} (w : World) (h : RS w p B ys f) (hn : nmS m (ys, f) = (n1, ys1, f1)) :
    Calls Tryz.prog 54 #[.pointer (some ⟨p, 0, none⟩), .int .u64 m] w fun e w' => e = .returned (.int .u64 (n1 : Nat)) ∧ RS w' p B ys1 f1 ∧ w.grownBy w' (some p) := by
  refine (number_s m w h).mono ?_
  rintro e w' ⟨rfl, h1, h2⟩
  unfold nmS at hn
  simp only [Prod.mk.injEq] at hn
  obtain ⟨rfl, rfl, rfl⟩ := hn
  exact ⟨rfl, h1, h2⟩
theorem must_t {p B : Nat} {ys : List UInt8} {f : Int} (r : Bool) (w : World) (h : RS w p B ys f) :
    Calls Tryz.prog 53 #[.pointer (some ⟨p, 0, none⟩), .bool r] w fun e w' => e = .returned (.tuple #[]) ∧ RS w' p B ys (mustF r f) ∧ w.grownBy w' (some p) := must_s r w h
theorem bytes_t {p B : Nat} {ys ys1 d : List UInt8} {f f1 : Int} (n : Int) (hn64 : n ≤ 9223372036854775807) (w : World) (h : RS w p B ys f) (hn : byS n (ys, f) = (d, ys1, f1)) :
    Calls Tryz.prog 94 #[.pointer (some ⟨p, 0, none⟩), .int .i64 n] w fun e w' => ∃ a c, e = .returned (.slice a d.length c) ∧ Own w' w.heap.size (.slice a d.length c) d ∧ RS w' p B ys1 f1 ∧ w.grownBy w' (some p) := by
  obtain ⟨ao, cap, xs, pl, h1, rfl, h3, h4⟩ := h
  refine (bytes_r n hn64 w h1).mono ?_
  rintro e w' ⟨v, rfl, k0, k1, k2⟩
  unfold byS at hn
  simp only [Prod.mk.injEq] at hn
  obtain ⟨rfl, rfl, rfl⟩ := hn
  obtain ⟨a, c, rfl, -⟩ := k0.val
  exact ⟨a, c, rfl, k0, ⟨ao, cap, xs, _, k1, by rw [List.drop_drop], h3, h4⟩, k2⟩
theorem err_t {p B : Nat} {ys : List UInt8} {f : Int} (w : World) (h : RS w p B ys f) :
    Calls Tryz.prog 55 #[.pointer (some ⟨p, 0, none⟩)] w fun e w' => e = .returned (.int .i64 f) ∧ w' = w := by
  obtain ⟨ao, cap, xs, pl, h1, -⟩ := h
  exact err_r w h1
end Go.Proofs.YtplncfahpdmcoaaGreatDoor
namespace Go.Proofs.YtplncfahpdmcoaaGreatDoor
set_option linter.unusedVariables false
set_option linter.unusedSimpArgs false
open Go.RowKit
theorem gotF_cnU : ∀ (l : List Rg) (f : Int), gotF f l → l = [] ∨ f + 2 * (l.length : Int) ≤ 66
  | [], _, _ => .inl rfl
  | x :: l, f, h => by
    have h1 := h.1
    right
    rcases gotF_cnU l (x.2 + 1) h.2 with h2 | h2
    · subst h2; simp; omega
    · simp only [List.length_cons]; omega
theorem gotOk_cnU {l : List Rg} (h : gotOk l) : l.length ≤ 33 := by
  rcases gotF_cnU l 0 h with h1 | h1
  · subst h1; simp
  · omega
abbrev mxU : Nat := 281474976710655
section
set_option maxRecDepth 20000
set_option maxHeartbeats 1600000
theorem small_t {p B n1 : Nat} {ys ys1 : List UInt8} {f f1 : Int} (w : World) (h : RS w p B ys f) (hn : nmS mxU (ys, f) = (n1, ys1, f1)) :
    Calls Tryz.prog 52 #[.pointer (some ⟨p, 0, none⟩)] w fun e w' => e = .returned (.int .i64 (n1 : Nat)) ∧ RS w' p B ys1 f1 ∧ w.grownBy w' (some p) := by
  have hle : n1 ≤ 281474976710655 := nmS_le hn
  have hw : IntKind.i64.wrap (n1 : Int) = (n1 : Int) := by rw [IntKind.wrap_i64]; omega
  have HC : Hid _ := number_t (m := mxU) w h hn
  clear h hn hle
  go_enter Tryz.func52, Tryz.ntmps52
  go_wp2_with (go_at_call 54; refine Calls.mono HC.out ?_; rintro e1 w1 ⟨rfl, h1, h2⟩; have HR1 : Hid _ := h1; have HG1 : Hid _ := h2; clear h1 h2)
  go_ret
  exact ⟨rfl, HR1.out, HG1.out⟩
end
/-- a range at the Reader's place, behind those that are there -/
def rangeS (l : List Rg) (s : List UInt8 × Int) : Rg × List UInt8 × Int :=
  let a := nmS mxU s
  let b := nmS mxU a.2
  let x : Rg := (endR l + (a.1 : Nat), endR l + (a.1 : Nat) + (b.1 : Nat))
  (x, b.2.1, if freeR l ≤ x.1 ∧ x.1 < x.2 ∧ x.2 ≤ 64 then b.2.2 else mustF false b.2.2)
end Go.Proofs.YtplncfahpdmcoaaGreatDoor
namespace Go.Proofs.YtplncfahpdmcoaaGreatDoor
set_option linter.unusedVariables false
set_option linter.unusedSimpArgs false
open Go.RowKit
section
set_option maxRecDepth 20000
set_option maxHeartbeats 3200000
theorem readRange_t {p B n1 n2 : Nat} {ys y1 y2 : List UInt8} {f f1 f2 : Int} (ao : Option Addr) (n cap : Nat) (l : List Rg) (g : Bool) (w : World) (h : RS w p B ys f) (hn : n = l.length) (hx : RdR w ao l) (hne : ∀ a, ao = some a → a.block ≠ p) (hok : gotOk l) (e1 : nmS mxU (ys, f) = (n1, y1, f1)) (e2 : nmS mxU (y1, f1) = (n2, y2, f2))
    (hg : g = true ↔ (freeR l ≤ endR l + (n1 : Int) ∧ endR l + (n1 : Int) < endR l + (n1 : Int) + (n2 : Int) ∧ endR l + (n1 : Int) + (n2 : Int) ≤ 64)) :
    Calls Tryz.prog 99 #[.pointer (some ⟨p, 0, none⟩), .slice ao n cap] w fun er w' => er = .returned (.agg #[.int .i64 (endR l + (n1 : Int)), .int .i64 (endR l + (n1 : Int) + (n2 : Int))]) ∧ RS w' p B y2 (mustF g f2) ∧ w.grownBy w' (some p) := by
  have hp := h.lt
  have HE : Hid (0 ≤ endR l ∧ endR l ≤ 64) := gotOk_end hok
  have hb1 : n1 ≤ 281474976710655 := nmS_le e1
  have hb2 : n2 ≤ 281474976710655 := nmS_le e2
  have hl : n ≤ 33 := by rw [hn]; exact gotOk_cnU hok
  obtain ⟨E, hE⟩ : ∃ E : Int, E = endR l := ⟨_, rfl⟩
  rw [← hE] at hg HE ⊢
  obtain ⟨A1, hA1⟩ : ∃ A : Int, A = E + (n1 : Int) := ⟨_, rfl⟩
  rw [← hA1] at hg ⊢
  obtain ⟨A2, hA2⟩ : ∃ A : Int, A = A1 + (n2 : Int) := ⟨_, rfl⟩
  rw [← hA2] at hg ⊢
  have hw1 : IntKind.i64.wrap (E + (n1 : Int)) = A1 := by rw [IntKind.wrap_i64]; have := HE.out; omega
  have hw2 : IntKind.i64.wrap (A1 + (n2 : Int)) = A2 := by rw [IntKind.wrap_i64]; have := HE.out; omega
  have HX : Hid (∀ u, w.grownBy u (some p) → RdR u ao l) := fun u hu => by
    intro j hj
    obtain ⟨b, o, h1, h2, h3⟩ := hx j hj
    have h9 : (some b : Option Nat) ≠ some p := fun e => hne _ h1 (by cases e; rfl)
    exact ⟨b, o, h1, hu.cell h2 h9, hu.cell h3 h9⟩
  have HEN : Hid (∀ u, w.grownBy u (some p) → Calls Tryz.prog 98 #[.slice ao n cap] u fun e w' => e = .returned (.int .i64 E) ∧ w' = u) := fun u hu => by rw [hE]; exact pend_t ao n cap l u hn (HX.out u hu) (by omega)
  have HGR : Hid (∀ u, w.grownBy u (some p) → Calls Tryz.prog 107 #[.slice ao n cap, .agg #[.int .i64 A1, .int .i64 A2]] u fun e w' => e = .returned (.bool g) ∧ Below u.heap.size u w') := fun u hu => goodRange_b ao n cap l A1 A2 g hg u hn (HX.out u hu) (by omega) (by rw [← hE]; exact HE.out)
  have HSM : Hid (∀ u, RS u p B ys f → Calls Tryz.prog 52 #[.pointer (some ⟨p, 0, none⟩)] u fun e w' => e = .returned (.int .i64 (n1 : Nat)) ∧ RS w' p B y1 f1 ∧ u.grownBy w' (some p)) := fun u hu => small_t u hu e1
  have HSM2 : Hid (∀ u, RS u p B y1 f1 → Calls Tryz.prog 52 #[.pointer (some ⟨p, 0, none⟩)] u fun e w' => e = .returned (.int .i64 (n2 : Nat)) ∧ RS w' p B y2 f2 ∧ u.grownBy w' (some p)) := fun u hu => small_t u hu e2
  have HR : Hid (RS w p B ys f) := h
  have HP : Hid (p < w.heap.size) := hp
  clear h hx hne hok e1 e2 hg hn hb1 hb2 hl hE hA1 hA2 hp
  go_enter Tryz.func99, Tryz.ntmps99
  go_wp2_with fail
  refine Calls.mono (HSM.out _ (RS.below HR.out (al (Below.refl _ _) _))) ?_
  rintro e1 w1 ⟨rfl, hr1, hg1⟩
  have HG1 : Hid (w.grownBy w1 (some p)) := grown_step ((World.grownBy_alloc w _ none).any _) hg1 (.inl rfl)
  have HB1 : Hid (w1.heap[w.heap.size]? = some (.cells #[.int .i64 0, .int .i64 0] 43 (0, 0))) := gr_box hg1 (by have := HP.out; omega) (heap_alloc_new w _)
  have HR1 : Hid (RS w1 p B y1 f1) := hr1
  have hc10 : w1.cell? ⟨w.heap.size, 0, none⟩ = some (.int .i64 0) := by rw [cell_of_row _ _ _ _ _ _ HB1.out]; rfl
  have hf10 : w1.frozen? ⟨w.heap.size, 0, none⟩ = false := by simp [World.frozen?, HB1.out]
  clear hr1 hg1
  go_wp2_with (go_at_call 98; refine Calls.mono (HEN.out _ HG1.out) ?_; rintro e1 w1b ⟨rfl, hq⟩; have hq := hq.symm; subst hq)
  obtain ⟨x1, hx1⟩ : ∃ x1 : World, x1 = w1.setCell ⟨w.heap.size, 0, none⟩ (.int .i64 A1) := ⟨_, rfl⟩
  rw [← hx1]
  have HGx : Hid (w1.grownBy x1 (some w.heap.size)) := by unfold Hid; rw [hx1]; exact gset1 _ _ _ _
  have HBx : Hid (x1.heap[w.heap.size]? = some (.cells #[.int .i64 A1, .int .i64 0] 43 (0, 0))) := by unfold Hid; rw [hx1, heap_setCell_same w1 w.heap.size 0 _ _ _ HB1.out]; rfl
  have HRx : Hid (RS x1 p B y1 f1) := RS.grown HR1.out HGx.out (.inr HP.out)
  have HGx2 : Hid (w.grownBy x1 (some p)) := grown_step HG1.out HGx.out (.inr fun j hj => by cases hj; exact Nat.le_refl _)
  clear hx1 hc10 hf10
  refine Calls.mono (HSM2.out _ HRx.out) ?_
  rintro e1 w2 ⟨rfl, hr2, hg2⟩
  have HG2 : Hid (w.grownBy w2 (some p)) := grown_step HGx2.out hg2 (.inl rfl)
  have HB2 : Hid (w2.heap[w.heap.size]? = some (.cells #[.int .i64 A1, .int .i64 0] 43 (0, 0))) := gr_box hg2 (by have := HP.out; omega) HBx.out
  have HR2 : Hid (RS w2 p B y2 f2) := hr2
  have hc20 : w2.cell? ⟨w.heap.size, 0, none⟩ = some (.int .i64 A1) := by rw [cell_of_row _ _ _ _ _ _ HB2.out]; rfl
  have hc21 : w2.cell? ⟨w.heap.size, 1, none⟩ = some (.int .i64 0) := by rw [cell_of_row _ _ _ _ _ _ HB2.out]; rfl
  have hf21 : w2.frozen? ⟨w.heap.size, 1, none⟩ = false := by simp [World.frozen?, HB2.out]
  obtain ⟨x2, hx2⟩ : ∃ x2 : World, x2 = w2.setCell ⟨w.heap.size, 1, none⟩ (.int .i64 A2) := ⟨_, rfl⟩
  have HGy : Hid (w2.grownBy x2 (some w.heap.size)) := by unfold Hid; rw [hx2]; exact gset1 _ _ _ _
  have HBy : Hid (x2.heap[w.heap.size]? = some (.cells #[.int .i64 A1, .int .i64 A2] 43 (0, 0))) := by unfold Hid; rw [hx2, heap_setCell_same w2 w.heap.size 1 _ _ _ HB2.out]; rfl
  have HRy : Hid (RS x2 p B y2 f2) := RS.grown HR2.out HGy.out (.inr HP.out)
  have HGy2 : Hid (w.grownBy x2 (some p)) := grown_step HG2.out HGy.out (.inr fun j hj => by cases hj; exact Nat.le_refl _)
  rw [hx2] at HBy HRy HGy2
  clear hr2 hg2 hx2 HGy
  go_wp2_with (first
    | (refine wpList_load_g (by rfl) 43 _ rfl w.heap.size 0 (by rfl) [.int .i64 A1, .int .i64 A2] _ (by first | exact box_range HB4.out | exact box_range HBy.out) Tryz.underlying43 rfl (by rw [(zero_of_info info_rg).2]; rfl) ?_)
    | (go_at_call 107; refine Calls.mono (HGR.out _ HGy2.out) ?_; rintro e1 w3 ⟨rfl, hb3⟩; have HR3 : Hid (RS w3 p B y2 f2) := RS.below HRy.out hb3; have HG3 : Hid (w.grownBy w3 (some p)) := gr_below HGy2.out hb3; have HB3 : Hid (w3.heap[w.heap.size]? = some (.cells #[.int .i64 A1, .int .i64 A2] 43 (0, 0))) := (hb3.block w.heap.size (Array.getElem?_eq_some_iff.1 HBy.out).1).trans HBy.out; clear hb3)
    | (go_at_call 53; refine Calls.mono (must_t g w3 HR3.out) ?_; rintro e1 w4 ⟨rfl, hr4, hg4⟩; have HR4 : Hid (RS w4 p B y2 (mustF g f2)) := hr4; have HG4 : Hid (w.grownBy w4 (some p)) := grown_step HG3.out hg4 (.inl rfl); have HB4 : Hid (w4.heap[w.heap.size]? = some (.cells #[.int .i64 A1, .int .i64 A2] 43 (0, 0))) := gr_box hg4 (by have := HP.out; omega) HB3.out; clear hr4 hg4)
    | (refine wpList_store_mid rfl 43 _ _ rfl w.heap.size 0 #[.int .i64 A1, .int .i64 A2] rfl rfl (box_there HB4.out rfl) (by kernel_rfl) (by simp [Value.oneCell']) ?_))
  (try simp only [Exit.inBlock, Exit.then])
  refine bodyPost_ret (results_cell_row Tryz.results99 _ _ w.heap.size 43 #[.int .i64 A1, .int .i64 A2] (0, 0) _ rfl (box_set HB4.out rfl) Tryz.underlying43 rfl (by kernel_rfl)) rfl ?_
  have hfin := setCells_grown w.heap.size [.int .i64 A1, .int .i64 A2] 0 w4
  exact ⟨rfl, RS.grown HR4.out hfin (.inr HP.out), grown_step HG4.out hfin (.inr fun j hj => by cases hj; exact Nat.le_refl _)⟩
end
end Go.Proofs.YtplncfahpdmcoaaGreatDoor
