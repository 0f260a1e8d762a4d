import Derived.Test.YtkjdeeamckmebaaDoorGLeast
import Derived.Lib.AppendZeros
import Derived.Test.YtkjdeeamckmebaaDoorRgP
import Derived.Test.YtkjdeeamckmebaaDoorGNext
namespace Go.Proofs.YtkjdeeamckmebaaDoor
set_option linter.unusedVariables false
set_option linter.unusedSimpArgs false
open Go.RowKit
set_option maxRecDepth 20000 in
set_option maxHeartbeats 1600000 in
theorem growR_nil (n : Nat) (w : World) (hn : n ≤ 1099511627776) :
    Calls Tryd.prog 33 #[.slice none 0 0, .int .i64 n] w fun e w' => ∃ v, e = .returned v ∧ OwnR w' w.heap.size v [] ∧ Below w.heap.size w w' := by
  obtain ⟨i0, hi, hz0, hz1, hz2⟩ := info_parts infoR
  by_cases h0 : n = 0
  · subst h0
    go_enter Tryd.func33, Tryd.ntmps33
    go_wp2
    go_ret
    exact ⟨_, rfl, World.ownsRow_nil _ _ _ _, Below.refl _ _⟩
  · have hpos : (0 : Int) < n := by omega
    have hap := fun (u : World) (ty : TypeId) => Go.Lib.run_append_nil_zeros (P := Tryd.prog) u 22 3 ty 28 i0 (.agg #[.int .i64 0, .int .i64 0]) .i64 .i64 Tryd.underlying22 Tryd.underlying3 hi hz0 n (by omega) (by omega) (by omega) (by rw [hz2]; omega)
    have HAP : Hid _ := hap
    clear hap
    go_enter Tryd.func33, Tryd.ntmps33
    go_wp2_with (at_builtin; refine Go.Lib.wpList_append_run _ rfl _ _ _ _ rfl _ _ rfl rfl _ _ (HAP.out _ _) ?_)
    go_ret
    refine ⟨_, rfl, World.ownsRow.drew (World.ownsRow_made w _ _ (Nat.le_refl _) (grownCap_le_maxLen w n 0 28 (by simp only [maxLen]; omega)) ?_), ((Below.refl _ _).alloc (Nat.le_refl _) _).drew⟩
    have := grownCap_ge w n 0 28
    simp [size_zeroCells, Value.cells]
    omega

/-- a slice value handed in: its address, its capacity, its bytes -/
structure PartR where
  ao : Option Addr
  cap : Nat
  xs : List Rg
def PartR.v (p : PartR) : Value := .slice p.ao p.xs.length p.cap
def PartR.ok (w : World) (p : PartR) : Prop := RdR w p.ao p.xs ∧ (p.ao = none → p.cap = 0)
def catR (ps : List PartR) : List Rg := ps.flatMap (·.xs)
theorem catR_snoc (ps : List PartR) (k : Nat) (h : k < ps.length) : catR (ps.take (k + 1)) = catR (ps.take k) ++ ps[k].xs := by
  unfold catR
  rw [List.take_succ_eq_append_getElem h, List.flatMap_append]
  simp
theorem catR_le (ps : List PartR) (k : Nat) : (catR (ps.take k)).length ≤ (catR ps).length := by
  have h : catR ps = catR (ps.take k) ++ catR (ps.drop k) := by
    conv => lhs; rw [← List.take_append_drop k ps]
    unfold catR
    rw [List.flatMap_append]
  rw [h, List.length_append]
  omega

set_option maxRecDepth 20000 in
set_option maxHeartbeats 400000 in
theorem concat_t (b o c : Nat) (ps : List PartR) (w : World) (hn : ps.length ≤ 1000) (hp : ∀ j (h : j < ps.length), w.cell? ⟨b, o + j, none⟩ = some ps[j].v ∧ ps[j].ok w) (hb : (catR ps).length ≤ 1099511627776) :
    Calls Tryd.prog 17 #[.slice (some ⟨b, o, none⟩) ps.length c] w fun e w' => ∃ v, e = .returned v ∧ OwnR w' w.heap.size v (catR ps) ∧ Below w.heap.size w w' := by
  go_enter Tryd.func17, Tryd.ntmps17
  go_wp2
  go_loop [3, 11] (fun s i => ∃ k : Nat, k ≤ ps.length ∧ i = .int .i64 k ∧ s = .int .i64 ((catR (ps.take k)).length : Nat)) (fun _ i => ps.length - (intOf i).toNat)
  case atStart => exact ⟨0, Nat.zero_le _, rfl, rfl⟩
  case round =>
    obtain ⟨k, hk, rfl, rfl⟩ := hrel
    have hcl := catR_le ps k
    by_cases hlt : k < ps.length
    · have hc1 := (hp k hlt).1
      unfold PartR.v at hc1
      have hcl1 := catR_le ps (k + 1)
      have HS : Hid ((catR (ps.take (k + 1))).length = (catR (ps.take k)).length + ps[k].xs.length) := by unfold Hid; rw [catR_snoc ps k hlt, List.length_append]
      have hcl2 : (catR (ps.take k)).length + ps[k].xs.length ≤ 1099511627776 := by have := HS.out; omega
      clear hp hcl1
      go_wp2
      go_round
      case rel => exact ⟨k + 1, by omega, by go_num, by rw [HS.out]; go_num⟩
      case measure => simp [intOf]; omega
    · obtain rfl : k = ps.length := by omega
      rw [List.take_length]
      clear hcl
      go_wp2_with fail
      refine (growR_nil _ _ hb).mono ?_
      rintro e w1 ⟨v0, rfl, hown0, hb0⟩
      go_wp2
      go_loopw [6, 27] (fun v i wr => ∃ k : Nat, k ≤ ps.length ∧ i = .int .i64 k ∧ OwnR wr w.heap.size v (catR (ps.take k)) ∧ Below w.heap.size w wr) (fun _ i _ => ps.length - (intOf i).toNat)
      case atStart => exact ⟨0, Nat.zero_le _, rfl, hown0, hb0⟩
      case round =>
        obtain ⟨k, hk, rfl, hown, hbel⟩ := hrel
        by_cases hlt : k < ps.length
        · obtain ⟨hc1, hr1, hn1⟩ := hp k hlt
          unfold PartR.v at hc1
          have hc2 := (hbel.cell (World.block_lt_of_cell? w _ hc1)).trans hc1
          have hr2 := hr1.below hbel
          have hsz := hbel.size
          have HS : Hid (catR (ps.take (k + 1)) = catR (ps.take k) ++ ps[k].xs) := catR_snoc ps k hlt
          have hle : (catR (ps.take k)).length + ps[k].xs.length ≤ 1099511627776 := by
            have h1 := catR_le ps (k + 1)
            rw [HS.out, List.length_append] at h1
            omega
          have HR : Hid _ := hr2
          have HN : Hid _ := hn1
          clear hp hc1 hr1 hr2 hn1 hown0 hb0
          go_wp2_with (at_builtin; refine wp_appR rfl _ _ rfl _ _ _ _ _ _ _ rfl rfl hown rfl HR.out HN.out hle hsz ?_; intro v2 w2 hown2 hg2)
          go_roundw
          case rel => exact ⟨k + 1, by omega, by go_num, by rw [HS.out]; exact hown2, hbel.grown hg2 hsz (fun j hj => (World.ownsRow.lt hown j hj).1)⟩
          case measure => simp [intOf]; omega
        · obtain rfl : k = ps.length := by omega
          rw [List.take_length] at hown
          go_wp2
          go_ret
          exact ⟨_, rfl, hown, hbel⟩

section
set_option maxRecDepth 20000
set_option maxHeartbeats 1600000
theorem union_t (ao bo : Option Addr) (n m c1 c2 : Nat) (xs ys : List Rg) (w : World) (hn : n = xs.length) (hm : m = ys.length) (hx : RdR w ao xs) (hy : RdR w bo ys) (hl : n + m ≤ 1099511627776) (ha : ao = none → c1 = 0) (hb : bo = none → c2 = 0) :
    Calls Tryd.prog 5 #[.slice ao n c1, .slice bo m c2] w fun e w' => LeastOut (xs ++ ys) w e w' := by
  have hcat : catR [⟨ao, c1, xs⟩, ⟨bo, c2, ys⟩] = xs ++ ys := by simp [catR]
  have HC : Hid _ := concat_t w.heap.size 0 2 [⟨ao, c1, xs⟩, ⟨bo, c2, ys⟩] (w.alloc (.cells #[.slice ao xs.length c1, .slice bo ys.length c2] 22 (0, 0))) (by simp) (fun j hj => by
    match j, hj with
    | 0, _ => exact ⟨by rw [cell_of_row _ _ _ _ _ _ (heap_alloc_new w _)]; rfl, hx.below (al (Below.refl _ _) _), ha⟩
    | 1, _ => exact ⟨by rw [cell_of_row _ _ _ _ _ _ (heap_alloc_new w _)]; rfl, hy.below (al (Below.refl _ _) _), hb⟩) (by rw [hcat, List.length_append]; omega)
  rw [hcat, ← hn, ← hm] at HC
  have hl2 : (xs ++ ys).length ≤ 1099511627776 := by rw [List.length_append]; omega
  have HL2 : Hid _ := hl2
  clear hn hm hcat hl2
  go_enter Tryd.func5, Tryd.ntmps5
  go_wp2_with fail
  refine Calls.mono HC.out ?_
  rintro e w1 ⟨v1, rfl, hown1, hb1⟩
  have hb1' : Below w.heap.size w w1 := below_next (al (Below.refl _ _) _) hb1
  obtain ⟨a, c, hv, -, -, hc3, hrd, -⟩ := hown1.val
  obtain ⟨L, hL⟩ : ∃ L : Nat, L = (xs ++ ys).length := ⟨_, rfl⟩
  rw [← hL] at hv
  subst hv
  have HR : Hid _ := least_t a L c (xs ++ ys) w1 hL hrd hc3 (by rw [hL]; exact HL2.out)
  have HB1 : Hid (Below w.heap.size w w1) := hb1'
  clear hown1 hb1 hb1' hc3 hrd hL HC
  go_wp2_with fail
  refine Calls.mono HR.out ?_
  rintro e w3 ⟨v3, out, rfl, h1, h2, h3, h4, h5⟩
  go_wp2
  go_ret
  exact LeastOut.base ⟨v3, out, rfl, h1, h2, h3, h4, h5⟩ HB1.out
end
end Go.Proofs.YtkjdeeamckmebaaDoor
namespace Go.Proofs.YtkjdeeamckmebaaDoor
set_option linter.unusedVariables false
set_option linter.unusedSimpArgs false
/-- a unit -/
structure Un where
  kind : Int
  ep : Int
  se : Int
  path : Int
  idx : Int
  cnt : Int
  data : List UInt8
  code : Int
  got : List Rg
def nameOk (n : Int) : Prop := 1 ≤ n ∧ n ≤ 281474976710655
def gotF : Int → List Rg → Prop
  | _, [] => True
  | f, x :: l => (f ≤ x.1 ∧ x.1 < x.2 ∧ x.2 ≤ 64) ∧ gotF (x.2 + 1) l
def gotOk (l : List Rg) : Prop := gotF 0 l
def dataless (u : Un) : Prop := u.path = 0 ∧ u.idx = 0 ∧ u.cnt = 0 ∧ u.data.length = 0
def reportless (u : Un) : Prop := u.code = 0 ∧ u.got.length = 0
def dataOk (u : Un) : Prop := (u.path = 1 ∨ u.path = 2) ∧ (0 ≤ u.idx ∧ u.idx < 64) ∧ (u.idx < u.cnt ∧ u.cnt ≤ 64) ∧ (1 ≤ u.data.length ∧ u.data.length ≤ 1024) ∧ reportless u
def reportOk (u : Un) : Prop := dataless u ∧ (0 ≤ u.code ∧ u.code ≤ 7) ∧ gotOk u.got ∧ (u.code = 0 ∨ u.got.length = 0)
def cancelOk (u : Un) : Prop := dataless u ∧ reportless u
def validU (u : Un) : Prop := (nameOk u.ep ∧ nameOk u.se) ∧ ((u.kind = 1 ∧ dataOk u) ∨ (u.kind = 2 ∧ reportOk u) ∨ (u.kind = 3 ∧ cancelOk u))
/-- the last end of the ranges that stand ahead -/
def freeR (l : List Rg) : Int := match l.getLast? with
  | none => 0
  | some y => y.2 + 1
theorem gotF_snoc : ∀ (l : List Rg) (f : Int) (x : Rg), gotF f (l ++ [x]) ↔ gotF f l ∧ (match l.getLast? with | none => f | some y => y.2 + 1) ≤ x.1 ∧ x.1 < x.2 ∧ x.2 ≤ 64
  | [], f, x => by simp [gotF]
  | y :: l, f, x => by
    have h := gotF_snoc l (y.2 + 1) x
    show (_ ∧ gotF (y.2 + 1) (l ++ [x])) ↔ (_ ∧ gotF (y.2 + 1) l) ∧ _
    rw [h]
    rcases List.eq_nil_or_concat l with h0 | ⟨q, z, h0⟩
    · subst h0
      simp [gotF, and_assoc]
    · rw [List.concat_eq_append] at h0
      subst h0
      have e1 : (q ++ [z]).getLast? = some z := by simp
      have e2 : (y :: (q ++ [z])).getLast? = some z := by rw [List.getLast?_cons, e1]; rfl
      rw [e1, e2]
      simp only [and_assoc]
theorem gotOk_snoc (l : List Rg) (x : Rg) : gotOk (l ++ [x]) ↔ gotOk l ∧ freeR l ≤ x.1 ∧ x.1 < x.2 ∧ x.2 ≤ 64 := gotF_snoc l 0 x
theorem gotF_pre : ∀ (l m : List Rg) (f : Int), gotF f (l ++ m) → gotF f l
  | [], _, _, _ => trivial
  | x :: l, m, f, h => ⟨h.1, gotF_pre l m _ h.2⟩
theorem gotOk_pre {l m : List Rg} (h : gotOk (l ++ m)) : gotOk l := gotF_pre l m 0 h
end Go.Proofs.YtkjdeeamckmebaaDoor
namespace Go.Proofs.YtkjdeeamckmebaaDoor
set_option linter.unusedVariables false
set_option linter.unusedSimpArgs false
open Go.RowKit
theorem bF {b : Bool} {p : Prop} (h : b = true ↔ p) (n : ¬ p) : b = false := by
  cases b
  · rfl
  · exact absurd (h.1 rfl) n
theorem bT {b : Bool} {p : Prop} (h : b = true ↔ p) (y : p) : b = true := h.2 y
/-- a unit's value -/
abbrev unA (u : Un) (da : Option Addr) (dn dc : Nat) (ga : Option Addr) (gn gc : Nat) : List Value := [.int .i64 u.kind, .int .u64 u.ep, .int .u64 u.se, .int .i64 u.path, .int .i64 u.idx, .int .i64 u.cnt, .slice da dn dc, .int .i64 u.code, .slice ga gn gc]
theorem range_box (w : World) (cs : List Value) (t : TypeId) : (w.alloc (.cells cs.toArray t (0, 0))).rangeAt w.heap.size 0 cs := fun j v hv => by
  rw [Nat.zero_add, cell_of_row _ _ _ _ _ _ (heap_alloc_new w _)]
  simpa using hv
theorem range_below {w w' : World} {b o : Nat} {cs : List Value} (h : w.rangeAt b o cs) (hb : Below w.heap.size w w') : w'.rangeAt b o cs := rangeAt_below h hb
theorem info_un : (Tryd.prog.info? 38).map (·.size) = some 9 := by kernel_rfl
section
set_option maxRecDepth 20000
set_option maxHeartbeats 1600000

theorem goodName_b (n : Int) (b : Bool) (hb : b = true ↔ nameOk n) (w : World) : Calls Tryd.prog 37 #[.int .u64 n] w fun e w' => e = .returned (.bool b) ∧ w' = w := by
  unfold nameOk at hb
  by_cases h0 : 1 ≤ n
  · skip
    by_cases h1 : n ≤ 281474976710655
    · skip
      obtain rfl : b = true := bT hb ⟨h0, h1⟩
      clear hb
      go_enter Tryd.func37, Tryd.ntmps37
      go_wp2
      go_ret
      exact ⟨by first | rfl | (simp; done) | (simp; omega) | simp_all, rfl⟩
    · obtain rfl : b = false := bF hb (fun h => h1 h.2)
      clear hb
      go_enter Tryd.func37, Tryd.ntmps37
      go_wp2
      go_ret
      exact ⟨by first | rfl | (simp; done) | (simp; omega) | simp_all, rfl⟩
  · obtain rfl : b = false := bF hb (fun h => h0 h.1)
    clear hb
    go_enter Tryd.func37, Tryd.ntmps37
    go_wp2
    go_ret
    exact ⟨by first | rfl | (simp; done) | (simp; omega) | simp_all, rfl⟩
theorem goodIndex_b (i : Int) (b : Bool) (hb : b = true ↔ 0 ≤ i ∧ i < 64) (w : World) : Calls Tryd.prog 76 #[.int .i64 i] w fun e w' => e = .returned (.bool b) ∧ w' = w := by
  by_cases h0 : 0 ≤ i
  · skip
    by_cases h1 : i < 64
    · skip
      obtain rfl : b = true := bT hb ⟨h0, h1⟩
      clear hb
      go_enter Tryd.func76, Tryd.ntmps76
      go_wp2
      go_ret
      exact ⟨by first | rfl | (simp; done) | (simp; omega) | simp_all, rfl⟩
    · obtain rfl : b = false := bF hb (fun h => h1 h.2)
      clear hb
      go_enter Tryd.func76, Tryd.ntmps76
      go_wp2
      go_ret
      exact ⟨by first | rfl | (simp; done) | (simp; omega) | simp_all, rfl⟩
  · obtain rfl : b = false := bF hb (fun h => h0 h.1)
    clear hb
    go_enter Tryd.func76, Tryd.ntmps76
    go_wp2
    go_ret
    exact ⟨by first | rfl | (simp; done) | (simp; omega) | simp_all, rfl⟩
theorem goodCount_b (i c : Int) (b : Bool) (hb : b = true ↔ i < c ∧ c ≤ 64) (w : World) : Calls Tryd.prog 77 #[.int .i64 i, .int .i64 c] w fun e w' => e = .returned (.bool b) ∧ w' = w := by
  by_cases h0 : i < c
  · skip
    by_cases h1 : c ≤ 64
    · skip
      obtain rfl : b = true := bT hb ⟨h0, h1⟩
      clear hb
      go_enter Tryd.func77, Tryd.ntmps77
      go_wp2
      go_ret
      exact ⟨by first | rfl | (simp; done) | (simp; omega) | simp_all, rfl⟩
    · obtain rfl : b = false := bF hb (fun h => h1 h.2)
      clear hb
      go_enter Tryd.func77, Tryd.ntmps77
      go_wp2
      go_ret
      exact ⟨by first | rfl | (simp; done) | (simp; omega) | simp_all, rfl⟩
  · obtain rfl : b = false := bF hb (fun h => h0 h.1)
    clear hb
    go_enter Tryd.func77, Tryd.ntmps77
    go_wp2
    go_ret
    exact ⟨by first | rfl | (simp; done) | (simp; omega) | simp_all, rfl⟩
theorem goodCode_b (c : Int) (b : Bool) (hb : b = true ↔ 0 ≤ c ∧ c ≤ 7) (w : World) : Calls Tryd.prog 83 #[.int .i64 c] w fun e w' => e = .returned (.bool b) ∧ w' = w := by
  by_cases h0 : 0 ≤ c
  · skip
    by_cases h1 : c ≤ 7
    · skip
      obtain rfl : b = true := bT hb ⟨h0, h1⟩
      clear hb
      go_enter Tryd.func83, Tryd.ntmps83
      go_wp2
      go_ret
      exact ⟨by first | rfl | (simp; done) | (simp; omega) | simp_all, rfl⟩
    · obtain rfl : b = false := bF hb (fun h => h1 h.2)
      clear hb
      go_enter Tryd.func83, Tryd.ntmps83
      go_wp2
      go_ret
      exact ⟨by first | rfl | (simp; done) | (simp; omega) | simp_all, rfl⟩
  · obtain rfl : b = false := bF hb (fun h => h0 h.1)
    clear hb
    go_enter Tryd.func83, Tryd.ntmps83
    go_wp2
    go_ret
    exact ⟨by first | rfl | (simp; done) | (simp; omega) | simp_all, rfl⟩
theorem goodBytes_b (a : Option Addr) (n c : Nat) (b : Bool) (hb : b = true ↔ 1 ≤ n ∧ n ≤ 1024) (w : World) : Calls Tryd.prog 78 #[.slice a n c] w fun e w' => e = .returned (.bool b) ∧ w' = w := by
  by_cases h0 : 1 ≤ n
  · skip
    by_cases h1 : n ≤ 1024
    · skip
      obtain rfl : b = true := bT hb ⟨h0, h1⟩
      clear hb
      go_enter Tryd.func78, Tryd.ntmps78
      go_wp2
      go_ret
      exact ⟨by first | rfl | (simp; done) | (simp; omega) | simp_all, rfl⟩
    · obtain rfl : b = false := bF hb (fun h => h1 h.2)
      clear hb
      go_enter Tryd.func78, Tryd.ntmps78
      go_wp2
      go_ret
      exact ⟨by first | rfl | (simp; done) | (simp; omega) | simp_all, rfl⟩
  · obtain rfl : b = false := bF hb (fun h => h0 h.1)
    clear hb
    go_enter Tryd.func78, Tryd.ntmps78
    go_wp2
    go_ret
    exact ⟨by first | rfl | (simp; done) | (simp; omega) | simp_all, rfl⟩
theorem goodPath_b (p : Int) (b : Bool) (hb : b = true ↔ (p = 1 ∨ p = 2)) (w : World) : Calls Tryd.prog 75 #[.int .i64 p] w fun e w' => e = .returned (.bool b) ∧ w' = w := by
  by_cases h0 : p = 1
  · obtain rfl : b = true := bT hb (.inl h0)
    clear hb
    subst h0
    go_enter Tryd.func75, Tryd.ntmps75
    go_wp2
    go_ret
    exact ⟨by first | rfl | (simp; done) | (simp; omega) | simp_all, rfl⟩
  · by_cases h1 : p = 2
    · obtain rfl : b = true := bT hb (.inr h1)
      clear hb
      subst h1
      go_enter Tryd.func75, Tryd.ntmps75
      go_wp2
      go_ret
      exact ⟨by first | rfl | (simp; done) | (simp; omega) | simp_all, rfl⟩
    · obtain rfl : b = false := bF hb (fun h => by omega)
      clear hb
      go_enter Tryd.func75, Tryd.ntmps75
      go_wp2
      go_ret
      exact ⟨by first | rfl | (simp; done) | (simp; omega) | simp_all, rfl⟩
theorem dataless_b (k e s p i c : Int) (da : Option Addr) (dn dc : Nat) (cd : Int) (ga : Option Addr) (gn gc : Nat) (b : Bool) (hb : b = true ↔ (p = 0 ∧ i = 0 ∧ c = 0 ∧ dn = 0)) (w : World) : Calls Tryd.prog 82 #[.agg #[.int .i64 k, .int .u64 e, .int .u64 s, .int .i64 p, .int .i64 i, .int .i64 c, .slice da dn dc, .int .i64 cd, .slice ga gn gc]] w fun e w' => e = .returned (.bool b) ∧ Below w.heap.size w w' := by
  by_cases h0 : p = 0
  · skip
    by_cases h1 : i = 0
    · skip
      by_cases h2 : c = 0
      · skip
        by_cases h3 : dn = 0
        · skip
          obtain rfl : b = true := bT hb ⟨h0, h1, h2, h3⟩
          clear hb
          go_enter Tryd.func82, Tryd.ntmps82
          go_wp2
          go_ret
          exact ⟨by first | rfl | (simp; done) | (simp; omega) | simp_all, al (Below.refl _ _) _⟩
        · obtain rfl : b = false := bF hb (fun h => h3 h.2.2.2)
          clear hb
          go_enter Tryd.func82, Tryd.ntmps82
          go_wp2
          go_ret
          exact ⟨by first | rfl | (simp; done) | (simp; omega) | simp_all, al (Below.refl _ _) _⟩
      · obtain rfl : b = false := bF hb (fun h => h2 h.2.2.1)
        clear hb
        go_enter Tryd.func82, Tryd.ntmps82
        go_wp2
        go_ret
        exact ⟨by first | rfl | (simp; done) | (simp; omega) | simp_all, al (Below.refl _ _) _⟩
    · obtain rfl : b = false := bF hb (fun h => h1 h.2.1)
      clear hb
      go_enter Tryd.func82, Tryd.ntmps82
      go_wp2
      go_ret
      exact ⟨by first | rfl | (simp; done) | (simp; omega) | simp_all, al (Below.refl _ _) _⟩
  · obtain rfl : b = false := bF hb (fun h => h0 h.1)
    clear hb
    go_enter Tryd.func82, Tryd.ntmps82
    go_wp2
    go_ret
    exact ⟨by first | rfl | (simp; done) | (simp; omega) | simp_all, al (Below.refl _ _) _⟩
theorem reportless_b (k e s p i c : Int) (da : Option Addr) (dn dc : Nat) (cd : Int) (ga : Option Addr) (gn gc : Nat) (b : Bool) (hb : b = true ↔ (cd = 0 ∧ gn = 0)) (w : World) : Calls Tryd.prog 79 #[.agg #[.int .i64 k, .int .u64 e, .int .u64 s, .int .i64 p, .int .i64 i, .int .i64 c, .slice da dn dc, .int .i64 cd, .slice ga gn gc]] w fun e w' => e = .returned (.bool b) ∧ Below w.heap.size w w' := by
  by_cases h0 : cd = 0
  · skip
    by_cases h1 : gn = 0
    · skip
      obtain rfl : b = true := bT hb ⟨h0, h1⟩
      clear hb
      go_enter Tryd.func79, Tryd.ntmps79
      go_wp2
      go_ret
      exact ⟨by first | rfl | (simp; done) | (simp; omega) | simp_all, al (Below.refl _ _) _⟩
    · obtain rfl : b = false := bF hb (fun h => h1 h.2)
      clear hb
      go_enter Tryd.func79, Tryd.ntmps79
      go_wp2
      go_ret
      exact ⟨by first | rfl | (simp; done) | (simp; omega) | simp_all, al (Below.refl _ _) _⟩
  · obtain rfl : b = false := bF hb (fun h => h0 h.1)
    clear hb
    go_enter Tryd.func79, Tryd.ntmps79
    go_wp2
    go_ret
    exact ⟨by first | rfl | (simp; done) | (simp; omega) | simp_all, al (Below.refl _ _) _⟩
end
end Go.Proofs.YtkjdeeamckmebaaDoor
