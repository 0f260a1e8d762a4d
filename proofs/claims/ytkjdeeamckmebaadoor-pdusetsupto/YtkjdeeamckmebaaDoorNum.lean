import Derived.Test.YtkjdeeamckmebaaDoorUG3
import Derived.Laws.Rows
import Derived.Laws.ResultCell
import Derived.Test.YtkjdeeamckmebaaDoorBase
namespace Go.Proofs.YtkjdeeamckmebaaDoor
set_option linter.unusedVariables false
set_option linter.unusedSimpArgs false
open Go.RowKit
theorem splice_step {α : Type} (L : List α) (k : Nat) (v : α) (r : List α) (h : k < L.length) : splice (L.set k v) (k + 1) r = splice L k (v :: r) := by
  unfold splice
  rw [List.take_set, List.drop_set_of_lt (by omega), List.take_succ_eq_append_getElem h]
  rw [List.set_append_right _ _ (by simp; omega)]
  simp only [List.length_take, Nat.min_eq_left (Nat.le_of_lt h), Nat.sub_self, List.set_cons_zero, List.append_assoc, List.cons_append, List.nil_append, List.length_cons]
  rw [show k + 1 + r.length = k + (r.length + 1) from by omega]
/-- behind a store of cells in the midst of a row -/
theorem heap_setCells (g : Nat) (t : TypeId) : ∀ (cs : List Value) (o : Nat) (L : List Value) (w : World), w.heap[g]? = some (.cells L.toArray t (0, 0)) → o + cs.length ≤ L.length → (w.setCells g o cs).heap[g]? = some (.cells (splice L o cs).toArray t (0, 0))
  | [], o, L, w, h, _ => by simpa [splice, World.setCells] using h
  | v :: r, o, L, w, h, hl => by
    rw [World.setCells, heap_setCells g t r (o + 1) (L.set o v) _ (by rw [heap_setCell_same w g o _ t v h]; simp) (by simp at hl ⊢; omega), splice_step _ _ _ _ (by simp at hl; omega)]
theorem heap_setCells_far (g : Nat) : ∀ (cs : List Value) (o : Nat) (w : World) (k : Nat), k ≠ g → (w.setCells g o cs).heap[k]? = w.heap[k]?
  | [], _, _, _, _ => rfl
  | v :: r, o, w, k, hk => by
    rw [World.setCells, heap_setCells_far g r (o + 1) _ k hk, heap_setCell_other _ _ _ _ hk]
theorem gset1 (w : World) (g i : Nat) (v : Value) : w.grownBy (w.setCell ⟨g, i, none⟩ v) (some g) :=
  ⟨rfl, rfl, rfl, by simp, fun k _ hne => heap_setCell_other _ _ _ _ (fun e => hne (by rw [e]))⟩
theorem setCells_grown (g : Nat) : ∀ (cs : List Value) (o : Nat) (w : World), w.grownBy (w.setCells g o cs) (some g)
  | [], _, w => World.grownBy.refl _ _
  | v :: r, o, w => by
    rw [World.setCells]
    exact (gset1 w g o v).trans' (setCells_grown g r (o + 1) _)
theorem results_ct {P : Program} {fn : Func} {p u : Tmp} {ty : TypeId} (h : fn.results = #[.cell p ty, .tmp u]) (tmps : Array Value) (w : World) (g : Nat) (t : TypeId) (cs : Array Value) (fr : Nat × Nat) (d : TypeDesc)
    (hp : tmps.getD p undef = .pointer (some ⟨g, 0, none⟩)) (hg : w.heap[g]? = some (.cells cs t fr))
    (hu : P.underlying ty = some d) (hd : (match d with | .struct _ | .array _ _ => true | _ => false) = true) (hi : (P.info? ty).map (·.size) = some cs.size) :
    (results fn tmps).run P w = .ok (.tuple #[.agg cs, tmps.getD u undef]) w := by
  rw [results_cell_tmp h]
  rw [hp]
  simp [asAddr, run_loadVar_row w g t ty cs fr d hg hu hd hi, Result.andThen]
theorem splice_all {L cs : List Value} (h : L.length = cs.length) : splice L 0 cs = cs := by unfold splice; simp; omega
theorem box_set {w : World} {g : Nat} {t : TypeId} {C : Array Value} {cs : List Value} (h : w.heap[g]? = some (.cells C t (0, 0))) (hl : C.size = cs.length) : (w.setCells g 0 cs).heap[g]? = some (.cells cs.toArray t (0, 0)) := by
  have h2 := heap_setCells g t cs 0 C.toList w (by simpa using h) (by simp; omega)
  rw [splice_all (by simpa using hl)] at h2
  exact h2
theorem box_there {w : World} {g n : Nat} {t : TypeId} {C : Array Value} (h : w.heap[g]? = some (.cells C t (0, 0))) (hl : C.size = n) : w.there g 0 n := fun i hi => by
  refine ⟨?_, by simp [World.frozen?, h]⟩
  rw [Nat.zero_add, cell_of_row _ _ _ _ _ _ h]
  simp [hl, hi]
theorem box_range {w : World} {g : Nat} {t : TypeId} {cs : List Value} (h : w.heap[g]? = some (.cells cs.toArray t (0, 0))) : w.rangeAt g 0 cs := fun j v hv => by
  rw [Nat.zero_add, cell_of_row _ _ _ _ _ _ h]
  simpa using hv
theorem heap_alloc_size1' (w : World) (o : Obj) : (w.alloc o).heap.size = w.heap.size + 1 := by simp
theorem Below.getB {B : Nat} {w w' : World} (h : Below B w w') {g : Nat} (hg : g < B) : w'.heap[g]? = w.heap[g]? := h.block g hg
end Go.Proofs.YtkjdeeamckmebaaDoor
namespace Go.Proofs.YtkjdeeamckmebaaDoor
set_option linter.unusedVariables false
set_option linter.unusedSimpArgs false
open Go.RowKit
abbrev kd1 : List Value := [.int .i64 1, .func (.func 58) #[] #[], .func (.func 59) #[] #[], .func (.func 60) #[] #[]]
abbrev kd2 : List Value := [.int .i64 2, .func (.func 61) #[] #[], .func (.func 62) #[] #[], .func (.func 63) #[] #[]]
abbrev kd3 : List Value := [.int .i64 3, .func (.func 64) #[] #[], .func (.func 65) #[] #[], .func (.func 66) #[] #[]]
abbrev kd0 : List Value := [.int .i64 0, .nilFunc, .nilFunc, .nilFunc]
abbrev kdAll : Array Value := #[.int .i64 1, .func (.func 58) #[] #[], .func (.func 59) #[] #[], .func (.func 60) #[] #[], .int .i64 2, .func (.func 61) #[] #[], .func (.func 62) #[] #[], .func (.func 63) #[] #[], .int .i64 3, .func (.func 64) #[] #[], .func (.func 65) #[] #[], .func (.func 66) #[] #[]]
theorem info_kd : (Tryd.prog.info? 56).map (·.size) = some 4 := by kernel_rfl
theorem kd_one : ∀ cs : List Value, (cs = kd1 ∨ cs = kd2 ∨ cs = kd3 ∨ cs = kd0) → cs.toArray.all (·.oneCell') = true := by
  rintro cs (rfl | rfl | rfl | rfl) <;> simp [Value.oneCell']
/-- which kind it is -/
def KindIs (n : Int) (cs : List Value) (kn : Bool) : Prop := (n = 1 ∧ cs = kd1 ∧ kn = true) ∨ (n = 2 ∧ cs = kd2 ∧ kn = true) ∨ (n = 3 ∧ cs = kd3 ∧ kn = true) ∨ ((n ≠ 1 ∧ n ≠ 2 ∧ n ≠ 3) ∧ cs = kd0 ∧ kn = false)
theorem KindIs.ex (n : Int) : ∃ cs kn, KindIs n cs kn := by
  by_cases h1 : n = 1
  · exact ⟨kd1, true, .inl ⟨h1, rfl, rfl⟩⟩
  · by_cases h2 : n = 2
    · exact ⟨kd2, true, .inr (.inl ⟨h2, rfl, rfl⟩)⟩
    · by_cases h3 : n = 3
      · exact ⟨kd3, true, .inr (.inr (.inl ⟨h3, rfl, rfl⟩))⟩
      · exact ⟨kd0, false, .inr (.inr (.inr ⟨⟨h1, h2, h3⟩, rfl, rfl⟩))⟩
section
set_option maxRecDepth 20000
set_option maxHeartbeats 3200000
theorem kinds_t (w : World) : Calls Tryd.prog 38 #[] w fun e w' => e = .returned (.slice (some ⟨w.heap.size, 0, none⟩) 3 3) ∧ w' = w.alloc (.cells kdAll 56 (0, 0)) := by
  go_enter Tryd.func38, Tryd.ntmps38
  go_wp2
  go_ret
  exact ⟨rfl, rfl⟩
/-- the kind at a place -/
def kdAt : Nat → List Value
  | 0 => kd1
  | 1 => kd2
  | 2 => kd3
  | _ => kd0
theorem kdAt_range {w : World} {g : Nat} (h : w.heap[g]? = some (.cells kdAll 56 (0, 0))) : ∀ j, j < 3 → w.rangeAt g (j * 4) (kdAt j) := fun j hj i v hv => by
  rw [cell_of_row _ _ _ _ _ _ h]
  match j, hj with
  | 0, _ => (match i with
    | 0 => exact hv | 1 => exact hv | 2 => exact hv | 3 => exact hv | i + 4 => simp [kdAt] at hv)
  | 1, _ => (match i with
    | 0 => exact hv | 1 => exact hv | 2 => exact hv | 3 => exact hv | i + 4 => simp [kdAt] at hv)
  | 2, _ => (match i with
    | 0 => exact hv | 1 => exact hv | 2 => exact hv | 3 => exact hv | i + 4 => simp [kdAt] at hv)
def KRel (n : Int) (W : World) (j : Value) (wr : World) : Prop := ∃ k : Nat, k ≤ 3 ∧ j = .int .i64 (k : Int) ∧ (∀ t : Nat, t < k → n ≠ (t : Int) + 1) ∧ Below W.heap.size W wr
theorem kindOf_t (n : Int) (cs : List Value) (kn : Bool) (hk : KindIs n cs kn) (w : World) :
    Calls Tryd.prog 24 #[.int .i64 n] w fun e w' => e = .returned (.tuple #[.agg cs.toArray, .bool kn]) ∧ Below w.heap.size w w' := by
  have HK : Hid (KindIs n cs kn) := hk
  clear hk
  go_enter Tryd.func24, Tryd.ntmps24
  go_wp2_with (go_at_call 38; refine (kinds_t _).mono ?_; rintro e w1 ⟨rfl, hw1⟩; have HW1 : Hid _ := hw1; clear hw1)
  have hw1 := HW1.out
  have hg0 : w1.heap[w.heap.size]? = some (.cells #[.int .i64 0, .nilFunc, .nilFunc, .nilFunc] 56 (0, 0)) := by
    rw [hw1]
    exact ((al (Below.refl _ _) _).block w.heap.size (by simp)).trans (heap_alloc_new w _)
  have hg1 : w1.heap[w.heap.size + 1]? = some (.cells kdAll 56 (0, 0)) := by
    rw [hw1]
    have h9 := heap_alloc_new (w.alloc (.cells #[.int .i64 0, .nilFunc, .nilFunc, .nilFunc] 56 (0, 0))) (.cells kdAll 56 (0, 0))
    rw [heap_alloc_size1'] at h9
    exact h9
  have hb1 : Below w.heap.size w w1 := by rw [hw1]; exact al (al (Below.refl _ _) _) _
  have HG0 : Hid _ := hg0
  have HG1 : Hid _ := hg1
  have HB1 : Hid _ := hb1
  have hs1 : w1.heap.size = w.heap.size + 2 := by rw [hw1]; simp
  have HS1 : Hid _ := hs1
  clear hw1 HW1 hg0 hg1 hb1 hs1
  go_loopw [8] (fun j wr => KRel n w1 j wr) (fun j _ => 3 - (intOf j).toNat)
  case atStart => exact ⟨0, by omega, rfl, fun t ht => by omega, Below.refl _ _⟩
  case round =>
    obtain ⟨k, hk3, rfl, hno, hbw⟩ := hrel
    have HNO : Hid (∀ t : Nat, t < k → n ≠ (t : Int) + 1) := hno
    have HB : Hid (Below w1.heap.size w1 wr) := hbw
    have hsz : w.heap.size + 2 ≤ wr.heap.size := by have := hbw.size; have := HS1.out; omega
    have HR0 : Hid (wr.heap[w.heap.size]? = some (.cells #[.int .i64 0, .nilFunc, .nilFunc, .nilFunc] 56 (0, 0))) := (hbw.block w.heap.size (by have := HS1.out; omega)).trans HG0.out
    have HR1 : Hid (wr.heap[w.heap.size + 1]? = some (.cells kdAll 56 (0, 0))) := (hbw.block (w.heap.size + 1) (by have := HS1.out; omega)).trans HG1.out
    have HBW : Hid (Below w.heap.size w wr) := below_next HB1.out hbw
    have hsf := fun (u : World) (a : Addr) (n : Nat) => run_store Tryd.prog u a (.func (.func n) #[] #[]) .plain rfl
    clear hno hbw
    by_cases e0 : k = 0
    · subst e0
      by_cases hn : n = 1
      · subst hn
        have HKK : Hid (cs = kd1 ∧ kn = true) := by
          rcases HK.out with h | h | h | h
          · exact ⟨h.2.1, h.2.2⟩
          · exact absurd h.1 (by decide)
          · exact absurd h.1 (by decide)
          · exact absurd rfl h.1.1
        obtain ⟨rfl, rfl⟩ := HKK.out
        clear HK HNO
        go_wp2_with (first
          | (refine wpList_load_mid rfl 56 _ rfl (w.heap.size + 1) (0 * 4) (by rfl) [.int .i64 1, .func (.func 58) #[] #[], .func (.func 59) #[] #[], .func (.func 60) #[] #[]] _ (kdAt_range HR1.out 0 (by decide)) Tryd.underlying56 rfl info_kd ?_)
          | (refine wpList_store_mid rfl 56 _ _ rfl w.heap.size 0 #[.int .i64 1, .func (.func 58) #[] #[], .func (.func 59) #[] #[], .func (.func 60) #[] #[]] rfl rfl (box_there (C := #[.int .i64 0, .nilFunc, .nilFunc, .nilFunc]) (((al (Below.refl _ wr) _).block w.heap.size (by omega)).trans HR0.out) rfl) (by kernel_rfl) (kd_one kd1 (by simp)) ?_))
        (try simp only [Exit.inBlock, Exit.then])
        refine bodyPost_ret (results_ct Tryd.results24 _ _ w.heap.size 56 kd1.toArray (0, 0) _ rfl (box_set (C := #[.int .i64 0, .nilFunc, .nilFunc, .nilFunc]) (((al (Below.refl _ wr) _).block w.heap.size (by omega)).trans HR0.out) rfl) Tryd.underlying56 rfl (by kernel_rfl)) rfl ?_
        exact ⟨rfl, (al HBW.out _).grown (setCells_grown _ _ _ _) (by have := HBW.out.size; simp; omega) (fun j hj => by cases hj; exact Nat.le_refl _)⟩
      · have hne : ¬ (1 : Int) = n := fun h => hn h.symm
        have hnb : ((1 : Int) == n) = false := by simpa using hne
        go_wp2_with (refine wpList_load_mid rfl 56 _ rfl (w.heap.size + 1) (0 * 4) (by rfl) [.int .i64 1, .func (.func 58) #[] #[], .func (.func 59) #[] #[], .func (.func 60) #[] #[]] _ (kdAt_range HR1.out 0 (by decide)) Tryd.underlying56 rfl info_kd ?_)
        go_roundw
        case rel => exact ⟨1, by omega, rfl, fun t ht => (by rcases (show t < 0 ∨ t = 0 by omega) with h | h; (· exact HNO.out t h); (· subst h; intro h9; exact hn (by simpa using h9))), below_next HB.out (al (Below.refl _ _) _)⟩
        case measure => simp [intOf]
    · skip
      by_cases e1 : k = 1
      · subst e1
        by_cases hn : n = 2
        · subst hn
          have HKK : Hid (cs = kd2 ∧ kn = true) := by
            rcases HK.out with h | h | h | h
            · exact absurd h.1 (by decide)
            · exact ⟨h.2.1, h.2.2⟩
            · exact absurd h.1 (by decide)
            · exact absurd rfl h.1.2.1
          obtain ⟨rfl, rfl⟩ := HKK.out
          clear HK HNO
          go_wp2_with (first
            | (refine wpList_load_mid rfl 56 _ rfl (w.heap.size + 1) (1 * 4) (by rfl) [.int .i64 2, .func (.func 61) #[] #[], .func (.func 62) #[] #[], .func (.func 63) #[] #[]] _ (kdAt_range HR1.out 1 (by decide)) Tryd.underlying56 rfl info_kd ?_)
            | (refine wpList_store_mid rfl 56 _ _ rfl w.heap.size 0 #[.int .i64 2, .func (.func 61) #[] #[], .func (.func 62) #[] #[], .func (.func 63) #[] #[]] rfl rfl (box_there (C := #[.int .i64 0, .nilFunc, .nilFunc, .nilFunc]) (((al (Below.refl _ wr) _).block w.heap.size (by omega)).trans HR0.out) rfl) (by kernel_rfl) (kd_one kd2 (by simp)) ?_))
          (try simp only [Exit.inBlock, Exit.then])
          refine bodyPost_ret (results_ct Tryd.results24 _ _ w.heap.size 56 kd2.toArray (0, 0) _ rfl (box_set (C := #[.int .i64 0, .nilFunc, .nilFunc, .nilFunc]) (((al (Below.refl _ wr) _).block w.heap.size (by omega)).trans HR0.out) rfl) Tryd.underlying56 rfl (by kernel_rfl)) rfl ?_
          exact ⟨rfl, (al HBW.out _).grown (setCells_grown _ _ _ _) (by have := HBW.out.size; simp; omega) (fun j hj => by cases hj; exact Nat.le_refl _)⟩
        · have hne : ¬ (2 : Int) = n := fun h => hn h.symm
          have hnb : ((2 : Int) == n) = false := by simpa using hne
          go_wp2_with (refine wpList_load_mid rfl 56 _ rfl (w.heap.size + 1) (1 * 4) (by rfl) [.int .i64 2, .func (.func 61) #[] #[], .func (.func 62) #[] #[], .func (.func 63) #[] #[]] _ (kdAt_range HR1.out 1 (by decide)) Tryd.underlying56 rfl info_kd ?_)
          go_roundw
          case rel => exact ⟨2, by omega, rfl, fun t ht => (by rcases (show t < 1 ∨ t = 1 by omega) with h | h; (· exact HNO.out t h); (· subst h; intro h9; exact hn (by simpa using h9))), below_next HB.out (al (Below.refl _ _) _)⟩
          case measure => simp [intOf]
      · skip
        by_cases e2 : k = 2
        · subst e2
          by_cases hn : n = 3
          · subst hn
            have HKK : Hid (cs = kd3 ∧ kn = true) := by
              rcases HK.out with h | h | h | h
              · exact absurd h.1 (by decide)
              · exact absurd h.1 (by decide)
              · exact ⟨h.2.1, h.2.2⟩
              · exact absurd rfl h.1.2.2
            obtain ⟨rfl, rfl⟩ := HKK.out
            clear HK HNO
            go_wp2_with (first
              | (refine wpList_load_mid rfl 56 _ rfl (w.heap.size + 1) (2 * 4) (by rfl) [.int .i64 3, .func (.func 64) #[] #[], .func (.func 65) #[] #[], .func (.func 66) #[] #[]] _ (kdAt_range HR1.out 2 (by decide)) Tryd.underlying56 rfl info_kd ?_)
              | (refine wpList_store_mid rfl 56 _ _ rfl w.heap.size 0 #[.int .i64 3, .func (.func 64) #[] #[], .func (.func 65) #[] #[], .func (.func 66) #[] #[]] rfl rfl (box_there (C := #[.int .i64 0, .nilFunc, .nilFunc, .nilFunc]) (((al (Below.refl _ wr) _).block w.heap.size (by omega)).trans HR0.out) rfl) (by kernel_rfl) (kd_one kd3 (by simp)) ?_))
            (try simp only [Exit.inBlock, Exit.then])
            refine bodyPost_ret (results_ct Tryd.results24 _ _ w.heap.size 56 kd3.toArray (0, 0) _ rfl (box_set (C := #[.int .i64 0, .nilFunc, .nilFunc, .nilFunc]) (((al (Below.refl _ wr) _).block w.heap.size (by omega)).trans HR0.out) rfl) Tryd.underlying56 rfl (by kernel_rfl)) rfl ?_
            exact ⟨rfl, (al HBW.out _).grown (setCells_grown _ _ _ _) (by have := HBW.out.size; simp; omega) (fun j hj => by cases hj; exact Nat.le_refl _)⟩
          · have hne : ¬ (3 : Int) = n := fun h => hn h.symm
            have hnb : ((3 : Int) == n) = false := by simpa using hne
            go_wp2_with (refine wpList_load_mid rfl 56 _ rfl (w.heap.size + 1) (2 * 4) (by rfl) [.int .i64 3, .func (.func 64) #[] #[], .func (.func 65) #[] #[], .func (.func 66) #[] #[]] _ (kdAt_range HR1.out 2 (by decide)) Tryd.underlying56 rfl info_kd ?_)
            go_roundw
            case rel => exact ⟨3, by omega, rfl, fun t ht => (by rcases (show t < 2 ∨ t = 2 by omega) with h | h; (· exact HNO.out t h); (· subst h; intro h9; exact hn (by simpa using h9))), below_next HB.out (al (Below.refl _ _) _)⟩
            case measure => simp [intOf]
        · skip
          obtain rfl : k = 3 := by omega
          have HKK : Hid (cs = kd0 ∧ kn = false) := by
            have n1 := HNO.out 0 (by omega)
            have n2 := HNO.out 1 (by omega)
            have n3 := HNO.out 2 (by omega)
            rcases HK.out with h | h | h | h
            · exact absurd (by rw [h.1]; rfl) n1
            · exact absurd (by rw [h.1]; rfl) n2
            · exact absurd (by rw [h.1]; rfl) n3
            · exact ⟨h.2.1, h.2.2⟩
          obtain ⟨rfl, rfl⟩ := HKK.out
          clear HK HNO e0 e1 e2
          go_wp2_with (refine wpList_store_mid rfl 56 _ _ rfl w.heap.size 0 kd0.toArray rfl rfl (box_there (C := #[.int .i64 0, .nilFunc, .nilFunc, .nilFunc]) HR0.out rfl) (by kernel_rfl) (kd_one kd0 (by simp)) ?_)
          (try simp only [Exit.inBlock, Exit.then])
          refine bodyPost_ret (results_ct Tryd.results24 _ _ w.heap.size 56 kd0.toArray (0, 0) _ rfl (box_set (C := #[.int .i64 0, .nilFunc, .nilFunc, .nilFunc]) HR0.out rfl) Tryd.underlying56 rfl (by kernel_rfl)) rfl ?_
          exact ⟨rfl, HBW.out.grown (setCells_grown _ _ _ _) HBW.out.size (fun j hj => by cases hj; exact Nat.le_refl _)⟩
end
end Go.Proofs.YtkjdeeamckmebaaDoor
namespace Go.Proofs.YtkjdeeamckmebaaDoor
set_option linter.unusedVariables false
set_option linter.unusedSimpArgs false
open Go.RowKit

/-- the digits above the last one -/
def hiF : Nat → Nat → List UInt8
  | 0, _ => []
  | f + 1, n => if n = 0 then [] else hiF f (n / 128) ++ [UInt8.ofNat (n % 128 + 128)]
def hiD (n : Nat) : List UInt8 := hiF n n
/-- the bytes of a number -/
def dg (n : Nat) : List UInt8 := hiD (n / 128) ++ [UInt8.ofNat (n % 128)]
theorem hiF_zero (f : Nat) : hiF f 0 = [] := by cases f <;> simp [hiF]
theorem hiF_same : ∀ (f g n : Nat), n ≤ f → n ≤ g → hiF f n = hiF g n
  | 0, g, n, hf, _ => by obtain rfl : n = 0 := by omega
                         rw [hiF_zero, hiF_zero]
  | f + 1, 0, n, _, hg => by obtain rfl : n = 0 := by omega
                             rw [hiF_zero, hiF_zero]
  | f + 1, g + 1, n, hf, hg => by
    simp only [hiF]
    by_cases h : n = 0
    · rw [if_pos h, if_pos h]
    · rw [if_neg h, if_neg h, hiF_same f g (n / 128) (by omega) (by omega)]
theorem hiD_zero : hiD 0 = [] := hiF_zero 0
theorem hiD_pos (n : Nat) (h : n ≠ 0) : hiD n = hiD (n / 128) ++ [UInt8.ofNat (n % 128 + 128)] := by
  obtain ⟨m, rfl⟩ : ∃ m, n = m + 1 := ⟨n - 1, by omega⟩
  unfold hiD
  rw [hiF, if_neg h, hiF_same m ((m + 1) / 128) _ (by omega) (Nat.le_refl _)]
theorem hiD_len (k : Nat) : ∀ n, n < 128 ^ k → (hiD n).length ≤ k := by
  induction k with
  | zero => intro n h; have : n = 0 := by simp at h; exact h
            subst this; simp [hiD_zero]
  | succ k ih =>
    intro n h
    by_cases h0 : n = 0
    · subst h0; simp [hiD_zero]
    · rw [hiD_pos n h0, List.length_append]
      have := ih (n / 128) (by rw [Nat.pow_succ] at h; omega)
      simp only [List.length_cons, List.length_nil]; omega
theorem dg_len (n : Nat) (h : n < 18446744073709551616) : 1 ≤ (dg n).length ∧ (dg n).length ≤ 10 := by
  unfold dg
  have := hiD_len 9 (n / 128) (by omega)
  simp only [List.length_append, List.length_cons, List.length_nil]; omega

theorem pow_lim (m k : Nat) (h : m < 128 ^ (k + 1)) (h' : 128 ≤ m) : 1 ≤ k ∧ m / 128 < 128 ^ k := by
  rw [Nat.pow_succ] at h
  refine ⟨?_, by omega⟩
  rcases k with _ | k
  · simp at h; omega
  · omega
theorem u8_lo (m : Nat) : ((UInt8.ofNat (m % 128)).toNat : Int) = ((m % 128 : Nat) : Int) := by
  rw [UInt8.toNat_ofNat']; omega
theorem u8_hi (m : Nat) : ((UInt8.ofNat (m % 128 + 128)).toNat : Int) = ((m % 128 + 128 : Nat) : Int) := by
  rw [UInt8.toNat_ofNat']; omega

set_option maxRecDepth 20000 in
set_option maxHeartbeats 400000 in
theorem digits_any (n : Nat) (w : World) (hn : n < 18446744073709551616) :
    Calls Tryd.prog 67 #[.int .u64 n] w fun e w' => ∃ k : Nat, k + (dg n).length = 10 ∧ e = .returned (.slice (some ⟨w.heap.size, k, none⟩) (dg n).length (dg n).length) ∧ Rd w' (some ⟨w.heap.size, k, none⟩) (dg n) ∧ Below w.heap.size w w' ∧ w.heap.size < w'.heap.size := by
  have hmk : ∀ u : World, (Instr.makeSlice 36 (.int .i64 10) (.int .i64 10)).run Tryd.prog u =
      .ok (.slice (some ⟨u.heap.size, 0, none⟩) 10 10) (u.alloc (.cells #[.int .u8 0, .int .u8 0, .int .u8 0, .int .u8 0, .int .u8 0, .int .u8 0, .int .u8 0, .int .u8 0, .int .u8 0, .int .u8 0] 5)) := fun _ => by kernel_rfl
  go_enter Tryd.func67, Tryd.ntmps67
  go_wp2
  go_loopw [0, 4] (fun v i wr => ∃ (m k : Nat) (C : Array Value) (suf : List UInt8), v = .int .u64 m ∧ i = .int .i64 k ∧ k ≤ 9 ∧ m ≤ n ∧ m < 128 ^ (k + 1) ∧ wr = w.alloc (.cells C 5) ∧ C.size = 10 ∧ k + suf.length = 10 ∧
      dg n = hiD (m / 128) ++ suf ∧ ∀ j (h : j < suf.length), C[k + j]? = some (.int .u8 (suf[j].toNat : Int))) (fun v _ _ => (intOf v).toNat)
  case atStart =>
    refine ⟨n, 9, _, [UInt8.ofNat (n % 128)], rfl, rfl, by omega, by omega, by omega, rfl, rfl, rfl, rfl, ?_⟩
    intro j hj
    simp at hj
    subst hj
    simp
    omega
  case round =>
    obtain ⟨m, k, C, suf, rfl, rfl, hk, hmn, hm, rfl, hC, hs, hd, hc⟩ := hrel
    have hm64 : m < 18446744073709551616 := by omega
    have HD : Hid (dg n = hiD (m / 128) ++ suf) := hd
    have HS : Hid (k + suf.length = 10) := hs
    have HM : Hid (m < 128 ^ (k + 1)) := hm
    have HC : Hid (∀ j (h : j < suf.length), C[k + j]? = some (.int .u8 (suf[j].toNat : Int))) := hc
    clear hd hs hm hc hmk hn
    by_cases hlt : 128 ≤ m
    · obtain ⟨hk1, hm1⟩ := pow_lim m k HM.out hlt
      have HM1 : Hid (m / 128 < 128 ^ k) := hm1
      clear hm1
      obtain ⟨old, hold⟩ : ∃ old, C[k - 1]? = some old := ⟨C[k - 1]'(by omega), by rw [Array.getElem?_eq_getElem]⟩
      have hwr : IntKind.u64.wrap ((m : Int) / 128) = ((m / 128 : Nat) : Int) := by rw [IntKind.wrap_u64]; omega
      generalize hq : m / 128 = q at *
      have HQ : Hid (m / 128 = q) := hq
      have hqm : q < m := by omega
      have HCs : Hid (C.size = 10) := hC
      clear hq hC
      go_wp2
      go_roundw
      case rel =>
        refine ⟨q, k - 1, _, UInt8.ofNat (q % 128 + 128) :: suf, rfl, by go_num, by omega, by omega, ?_, rfl, ?_, ?_, ?_, ?_⟩
        · rw [show k - 1 + 1 = k from by omega]; exact HM1.out
        · simpa using HCs.out
        · have := HS.out; simp only [List.length_cons]; omega
        · have h1 := HD.out; rw [hiD_pos q (by have := HQ.out; omega)] at h1; rw [h1]; simp
        · intro j hj
          have hsz := HCs.out
          rcases j with _ | j
          · simp only [Nat.add_zero, List.getElem_cons_zero]
            rw [Array.getElem?_setIfInBounds_self_of_lt (by omega), u8_hi]
            simp
          · have h2 := HC.out j (by simpa using hj)
            simp only [List.getElem_cons_succ]
            rw [Array.getElem?_setIfInBounds_ne (by omega), show k - 1 + (j + 1) = k + j from by omega]
            exact h2
      case measure => simp [intOf]; omega
    · go_wp2
      have h0 : m / 128 = 0 := by omega
      have hd := HD.out
      rw [h0, hiD_zero, List.nil_append] at hd
      have hs := HS.out
      go_ret
      refine ⟨k, by rw [hd]; omega, ?_, ?_, ?_, ?_⟩
      · rw [hd]
        simp
        omega
      · rw [hd]
        intro _
        refine ⟨_, _, rfl, fun i hi => ?_⟩
        have h1 := HC.out i hi
        simpa [World.cell?_alloc_at] using h1
      · exact (Below.refl _ _).alloc (Nat.le_refl _) _
      · simp
end Go.Proofs.YtkjdeeamckmebaaDoor
