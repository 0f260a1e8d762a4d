import Derived.Test.YtplncfahpdmcoaaGreatDoorUnseal
import Derived.Test.YtplncfahpdmcoaaGreatDoorClone
import Derived.RegionTactic
import Derived.ChangeAlike
namespace Go.Proofs.YtplncfahpdmcoaaGreatDoor
set_option linter.unusedVariables false
set_option linter.unusedSimpArgs false
open Go.RowKit
def kdB (n : Nat) : Bool := decide (n = 1 ∨ n = 2 ∨ n = 3)
def nmB (n : Nat) : Bool := decide (1 ≤ n ∧ n ≤ 281474976710655)
theorem nmB_iff (n : Nat) : nmB n = true ↔ nameOk (n : Int) := by unfold nmB nameOk; rw [decide_eq_true_iff]; omega
/-- a segment's own part -/
def dataS (e s : Nat) (z : List UInt8 × Int) : Un × List UInt8 × Int :=
  let a := nmS mxU z
  let b := nmS mxU (a.2.1, mustF (decide ((a.1 : Int) = 1 ∨ (a.1 : Int) = 2)) a.2.2)
  let c := nmS mxU (b.2.1, mustF (decide (0 ≤ (b.1 : Int) ∧ (b.1 : Int) < 64)) b.2.2)
  let d := byS 1024 (c.2.1, mustF (decide ((b.1 : Int) < (c.1 : Int) ∧ (c.1 : Int) ≤ 64)) c.2.2)
  (⟨1, (e : Nat), (s : Nat), (a.1 : Nat), (b.1 : Nat), (c.1 : Nat), d.1, 0, []⟩, d.2.1, mustF (decide (1 ≤ d.1.length ∧ d.1.length ≤ 1024)) d.2.2)
/-- a report's -/
def repS (e s : Nat) (z : List UInt8 × Int) : Un × List UInt8 × Int :=
  let a := nmS mxU z
  let f := mustF (decide (0 ≤ (a.1 : Int) ∧ (a.1 : Int) ≤ 7)) a.2.2
  if a.1 = 0 then
    let b := nmS mxU (a.2.1, f)
    let r := rgsS b.1 [] (b.2.1, mustF (decide (b.1 ≤ 32)) b.2.2)
    (⟨2, (e : Nat), (s : Nat), 0, 0, 0, [], 0, r.1⟩, r.2)
  else (⟨2, (e : Nat), (s : Nat), 0, 0, 0, [], (a.1 : Nat), []⟩, a.2.1, f)
/-- what is read -/
def readU (z : List UInt8 × Int) : Un × List UInt8 × Int :=
  let a := nmS mxU z
  let b := nmS mxU (a.2.1, mustF (kdB a.1) a.2.2)
  let c := nmS mxU (b.2.1, mustF (nmB b.1) b.2.2)
  let f := mustF (nmB c.1) c.2.2
  if f = 0 then
    if a.1 = 1 then dataS b.1 c.1 (c.2.1, f) else if a.1 = 2 then repS b.1 c.1 (c.2.1, f)
    else (⟨(a.1 : Nat), (b.1 : Nat), (c.1 : Nat), 0, 0, 0, [], 0, []⟩, c.2.1, f)
  else (⟨(a.1 : Nat), (b.1 : Nat), (c.1 : Nat), 0, 0, 0, [], 0, []⟩, c.2.1, f)
def zeroU : Un := ⟨0, 0, 0, 0, 0, 0, [], 0, []⟩
/-- what Decode answers -/
def decU (xs : List UInt8) : Un × Int :=
  if (unS xs).2 = 0 then
    if rEnd (readU ((unS xs).1, 0)).2.1 (readU ((unS xs).1, 0)).2.2 = 0 then ((readU ((unS xs).1, 0)).1, 0)
    else (zeroU, rEnd (readU ((unS xs).1, 0)).2.1 (readU ((unS xs).1, 0)).2.2)
  else (zeroU, ((unS xs).2 : Nat))
theorem nmS_ff {m : Nat} {ys : List UInt8} {f : Int} (hf : ¬ f = 0) : nmS m (ys, f) = (0, ys, f) := by
  unfold nmS
  simp only [rNum_f hf, List.drop_zero]
theorem mustF_ff {b : Bool} {f : Int} (hf : ¬ f = 0) : mustF b f = f := by
  unfold mustF
  rw [if_neg hf]
  split <;> rfl
theorem read_t {p B : Nat} {ys y' : List UInt8} {f f' : Int} {u : Un} (W w : World) (h : RS w p B ys f) (hW : Below W.heap.size W w) (hpW : W.heap.size ≤ p) (hx : readU (ys, f) = (u, y', f')) :
    Calls Tryz.prog 29 #[.pointer (some ⟨p, 0, none⟩)] w fun er w' => RdOut W p B w.heap.size u y' f' er w' := by
  obtain ⟨n1, y1, f1, e1⟩ : ∃ n1 y1 f1, nmS mxU (ys, f) = (n1, y1, f1) := ⟨_, _, _, rfl⟩
  obtain ⟨n2, y2, f2, e2⟩ : ∃ q1 q2 q3, nmS mxU (y1, mustF (kdB n1) f1) = (q1, q2, q3) := ⟨_, _, _, rfl⟩
  obtain ⟨n3, y3, f3, e3⟩ : ∃ q1 q2 q3, nmS mxU (y2, mustF (nmB n2) f2) = (q1, q2, q3) := ⟨_, _, _, rfl⟩
  have hx' : (if mustF (nmB n3) f3 = 0 then (if n1 = 1 then dataS n2 n3 (y3, mustF (nmB n3) f3) else if n1 = 2 then repS n2 n3 (y3, mustF (nmB n3) f3) else ((⟨(n1 : Nat), (n2 : Nat), (n3 : Nat), 0, 0, 0, [], 0, []⟩ : Un), y3, mustF (nmB n3) f3)) else ((⟨(n1 : Nat), (n2 : Nat), (n3 : Nat), 0, 0, 0, [], 0, []⟩ : Un), y3, mustF (nmB n3) f3)) = (u, y', f') := by
    rw [← hx]
    unfold readU
    simp only [e1, e2, e3]
  clear hx
  by_cases h1 : n1 = 1
  · subst h1
    have e2' : nmS mxU (y1, mustF true f1) = (n2, y2, f2) := e2
    by_cases hf : mustF (nmB n3) f3 = 0
    · rw [if_pos hf, if_pos rfl, hf] at hx'
      obtain ⟨m1, v1, t1, E1⟩ : ∃ n1 y1 f1, nmS mxU (y3, 0) = (n1, y1, f1) := ⟨_, _, _, rfl⟩
      obtain ⟨m2, v2, t2, E2⟩ : ∃ n1 y1 f1, nmS mxU (v1, mustF (decide ((m1 : Int) = 1 ∨ (m1 : Int) = 2)) t1) = (n1, y1, f1) := ⟨_, _, _, rfl⟩
      obtain ⟨m3, v3, t3, E3⟩ : ∃ n1 y1 f1, nmS mxU (v2, mustF (decide (0 ≤ (m2 : Int) ∧ (m2 : Int) < 64)) t2) = (n1, y1, f1) := ⟨_, _, _, rfl⟩
      obtain ⟨d, v4, t4, E4⟩ : ∃ n1 y1 f1, byS 1024 (v3, mustF (decide ((m2 : Int) < (m3 : Int) ∧ (m3 : Int) ≤ 64)) t3) = (n1, y1, f1) := ⟨_, _, _, rfl⟩
      unfold dataS at hx'
      simp only [E1, E2, E3, E4, Prod.mk.injEq] at hx'
      obtain ⟨rfl, rfl, rfl⟩ := hx'
      exact read_1b (n1 := 0) _ _ W w h hW hpW e1 e2' (nmB_iff _) e3 (nmB_iff _) hf _ _ _ _ E1 decide_eq_true_iff E2 decide_eq_true_iff E3 decide_eq_true_iff E4 decide_eq_true_iff
    · rw [if_neg hf] at hx'
      simp only [Prod.mk.injEq] at hx'
      obtain ⟨rfl, rfl, rfl⟩ := hx'
      exact read_1a (n1 := 0) _ _ W w h hW hpW e1 e2' (nmB_iff _) e3 (nmB_iff _) hf
  · by_cases h2 : n1 = 2
    · subst h2
      have e2' : nmS mxU (y1, mustF true f1) = (n2, y2, f2) := e2
      by_cases hf : mustF (nmB n3) f3 = 0
      · rw [if_pos hf, if_neg h1, if_pos rfl, hf] at hx'
        obtain ⟨m1, v1, t1, E1⟩ : ∃ n1 y1 f1, nmS mxU (y3, 0) = (n1, y1, f1) := ⟨_, _, _, rfl⟩
        unfold repS at hx'
        simp only [E1] at hx'
        by_cases hm : m1 = 0
        · subst hm
          rw [if_pos rfl] at hx'
          obtain ⟨m2, v2, t2, E2⟩ : ∃ n1 y1 f1, nmS mxU (v1, mustF (decide (0 ≤ ((0 : Nat) : Int) ∧ ((0 : Nat) : Int) ≤ 7)) t1) = (n1, y1, f1) := ⟨_, _, _, rfl⟩
          obtain ⟨L, v3, t3, E3⟩ : ∃ n1 y1 f1, rgsS m2 [] (v2, mustF (decide (m2 ≤ 32)) t2) = (n1, y1, f1) := ⟨_, _, _, rfl⟩
          simp only [E2, E3, Prod.mk.injEq] at hx'
          obtain ⟨rfl, rfl, rfl⟩ := hx'
          exact read_2c (n1 := 0) _ _ W w h hW hpW e1 e2' (nmB_iff _) e3 (nmB_iff _) hf _ _ E1 decide_eq_true_iff E2 decide_eq_true_iff E3
        · rw [if_neg hm] at hx'
          simp only [Prod.mk.injEq] at hx'
          obtain ⟨rfl, rfl, rfl⟩ := hx'
          exact read_2b (n1 := 0) _ _ W w h hW hpW e1 e2' (nmB_iff _) e3 (nmB_iff _) hf _ E1 decide_eq_true_iff hm
      · rw [if_neg hf] at hx'
        simp only [Prod.mk.injEq] at hx'
        obtain ⟨rfl, rfl, rfl⟩ := hx'
        exact read_2a (n1 := 0) _ _ W w h hW hpW e1 e2' (nmB_iff _) e3 (nmB_iff _) hf
    · by_cases h3 : n1 = 3
      · subst h3
        have e2' : nmS mxU (y1, mustF true f1) = (n2, y2, f2) := e2
        by_cases hf : mustF (nmB n3) f3 = 0
        · rw [if_pos hf, if_neg h1, if_neg h2, hf] at hx'
          simp only [Prod.mk.injEq] at hx'
          obtain ⟨rfl, rfl, rfl⟩ := hx'
          exact read_3b (n1 := 0) _ _ W w h hW hpW e1 e2' (nmB_iff _) e3 (nmB_iff _) hf
        · rw [if_neg hf] at hx'
          simp only [Prod.mk.injEq] at hx'
          obtain ⟨rfl, rfl, rfl⟩ := hx'
          exact read_3a (n1 := 0) _ _ W w h hW hpW e1 e2' (nmB_iff _) e3 (nmB_iff _) hf
      · have hkb : kdB n1 = false := by unfold kdB; rw [decide_eq_false_iff_not]; omega
        rw [hkb] at e2
        have hf1 : ¬ mustF false f1 = 0 := mustF_bad rfl
        have e2' := e2
        rw [nmS_ff hf1] at e2'
        simp only [Prod.mk.injEq] at e2'
        obtain ⟨q1, q2, q3⟩ := e2'
        have hf2 : ¬ mustF (nmB n2) f2 = 0 := by rw [← q3, mustF_ff hf1]; exact hf1
        have e3' := e3
        rw [nmS_ff hf2] at e3'
        simp only [Prod.mk.injEq] at e3'
        have hf3 : ¬ mustF (nmB n3) f3 = 0 := by rw [← e3'.2.2, mustF_ff hf2]; exact hf2
        rw [if_neg hf3] at hx'
        simp only [Prod.mk.injEq] at hx'
        obtain ⟨rfl, rfl, rfl⟩ := hx'
        exact read_0a _ _ W w h hW hpW e1 ⟨h1, h2, h3⟩ e2 (nmB_iff _) e3 (nmB_iff _) hf3
/-- what Decode leaves -/
def DecOut (u : Un) (r : Int) (w : World) (er : Ending) (w' : World) : Prop := ∃ da dc ga gc, er = .returned (.tuple #[unV u da dc ga gc, .int .i64 r]) ∧ Own w' w.heap.size (.slice da u.data.length dc) u.data ∧ OwnR w' w.heap.size (.slice ga u.got.length gc) u.got ∧ Below w.heap.size w w'
theorem DecOut.zero {r : Int} {w w' : World} (h : Below w.heap.size w w') : DecOut zeroU r w (.returned (.tuple #[.agg #[.int .i64 0, .int .u64 0, .int .u64 0, .int .i64 0, .int .i64 0, .int .i64 0, .slice none 0 0, .int .i64 0, .slice none 0 0], .int .i64 r])) w' := ⟨none, 0, none, 0, rfl, World.ownsRow_nil _ _ _ _, OwnR.nil _ _, h⟩
theorem unseal_b (ao : Option Addr) (n cap : Nat) (xs : List UInt8) (hn : n = xs.length) (w : World) (hx : Rd w ao xs) (hlc : n ≤ cap) (hcm : cap ≤ 9223372036854775807) (hl : n ≤ 140737488355328) (ht : TabOk w) {X : List UInt8} {E : Nat} (hu : unS xs = (X, E)) :
    Calls Tryz.prog 27 #[.slice ao n cap] w fun e w' => ∃ a L c, e = .returned (.tuple #[.slice a L c, .int .i64 (E : Nat)]) ∧ L = X.length ∧ Rd w' a X ∧ (a = none → c = 0) ∧ Below w.heap.size w w' := by
  subst hn
  refine (unseal_any ao cap xs w hx hlc hcm hl ht).mono ?_
  rintro e w' ⟨v, rfl, h1, h2⟩
  rw [hu] at h1 ⊢
  obtain ⟨a, c, rfl, -, -, hn9, hrd9, -⟩ := h1.val
  exact ⟨a, X.length, c, rfl, rfl, hrd9, hn9, h2⟩
theorem new_b (ao : Option Addr) (n cap : Nat) (xs : List UInt8) (hn : n = xs.length) (w : World) (hx : Rd w ao xs) (hnil : ao = none → cap = 0) (hl : n ≤ 140737488355328) :
    Calls Tryz.prog 28 #[.slice ao n cap] w fun e w' => ∃ p, e = .returned (.pointer (some ⟨p, 0, none⟩)) ∧ RS w' p w.heap.size xs 0 ∧ Below w.heap.size w w' := by
  subst hn
  exact new_s ao cap xs w hx hnil hl
theorem unS_len (xs : List UInt8) : (unS xs).1.length ≤ xs.length := by
  unfold unS
  split
  · simp
  · split
    · simp
    · simp
section
set_option maxRecDepth 20000
set_option maxHeartbeats 3200000
theorem decode_a (ao : Option Addr) (n cap : Nat) (xs : List UInt8) (hn : n = xs.length) (w : World) (hx : Rd w ao xs) (hlc : n ≤ cap) (hcm : cap ≤ 9223372036854775807) (hl : n ≤ 140737488355328) (ht : TabOk w) {X : List UInt8} {E : Nat} (hun : unS xs = (X, E)) (hE : ¬ E = 0) :
    Calls Tryz.prog 7 #[.slice ao n cap] w fun er w' => DecOut zeroU (E : Nat) w er w' := by
  have HUN : Hid _ := fun (u : World) (hu : Below w.heap.size w u) => unseal_b ao n cap xs hn u (hx.below hu) hlc hcm hl (ht.below hu) hun
  have heI : ¬ (E : Int) = 0 := by omega
  have heb : ((E : Int) == 0) = false := by simpa using heI
  clear hE
  clear hx hn hlc hcm hl ht hun
  go_enter Tryz.func7, Tryz.ntmps7
  go_wp2_with fail
  refine Calls.mono (HUN.out _ (al (Below.refl _ _) _)) ?_
  rintro er1 w1 ⟨a1, L1, c1, rfl, hL1, hr1, hn1, hb1⟩
  have HL1 : Hid (L1 = X.length) := hL1
  have HR1 : Hid (Rd w1 a1 X) := hr1
  have HN1 : Hid (a1 = none → c1 = 0) := hn1
  have HB1 : Hid (Below w.heap.size w w1) := below_next (al (Below.refl _ _) _) hb1
  obtain ⟨g, hg⟩ : ∃ g, g = w.heap.size := ⟨_, rfl⟩
  have HG : Hid (g = w.heap.size) := hg
  have HZ1 : Hid (w1.heap[g]? = some (.cells #[.int .i64 0, .int .u64 0, .int .u64 0, .int .i64 0, .int .i64 0, .int .i64 0, .slice none 0 0, .int .i64 0, .slice none 0 0] 26 (0, 0))) := by unfold Hid; rw [hg]; exact (hb1.block w.heap.size (by simp)).trans (heap_alloc_new w _)
  rw [← hg]
  clear hL1 hr1 hn1 hb1 hg
  go_wp2_with (first
    | (refine wpList_store_mid rfl 26 _ _ rfl g 0 #[.int .i64 0, .int .u64 0, .int .u64 0, .int .i64 0, .int .i64 0, .int .i64 0, .slice none 0 0, .int .i64 0, .slice none 0 0] rfl rfl (box_there HZ1.out rfl) (by kernel_rfl) (by simp [Value.oneCell']) ?_))
  (try simp only [Exit.inBlock, Exit.then])
  refine bodyPost_ret (results_ct Tryz.results7 _ _ g 26 #[.int .i64 0, .int .u64 0, .int .u64 0, .int .i64 0, .int .i64 0, .int .i64 0, .slice none 0 0, .int .i64 0, .slice none 0 0] (0, 0) _ rfl (box_set HZ1.out rfl) Tryz.underlying26 rfl (by kernel_rfl)) rfl ?_
  have hfin := setCells_grown g [.int .i64 0, .int .u64 0, .int .u64 0, .int .i64 0, .int .i64 0, .int .i64 0, .slice none 0 0, .int .i64 0, .slice none 0 0] 0 w1
  exact DecOut.zero (HB1.out.grown hfin HB1.out.size (fun j hj => by cases hj; exact Nat.le_of_eq HG.out.symm))
theorem decode_b (ao : Option Addr) (n cap : Nat) (xs : List UInt8) (hn : n = xs.length) (w : World) (hx : Rd w ao xs) (hlc : n ≤ cap) (hcm : cap ≤ 9223372036854775807) (hl : n ≤ 140737488355328) (ht : TabOk w) {X : List UInt8} (hun : unS xs = (X, 0)) {u : Un} {y : List UInt8} {f : Int} (hru : readU (X, 0) = (u, y, f)) (hfe : ¬ rEnd y f = 0) :
    Calls Tryz.prog 7 #[.slice ao n cap] w fun er w' => DecOut zeroU (rEnd y f) w er w' := by
  have HUN : Hid _ := fun (u : World) (hu : Below w.heap.size w u) => unseal_b ao n cap xs hn u (hx.below hu) hlc hcm hl (ht.below hu) hun
  have HRU : Hid _ := hru
  have HFE : Hid _ := hfe
  have HXL : Hid (X.length ≤ 140737488355328) := by
    have h9 := unS_len xs
    rw [hun] at h9
    unfold Hid
    simp only at h9
    omega
  clear hru hfe
  clear hx hn hlc hcm hl ht hun
  go_enter Tryz.func7, Tryz.ntmps7
  go_wp2_with fail
  refine Calls.mono (HUN.out _ (al (Below.refl _ _) _)) ?_
  rintro er1 w1 ⟨a1, L1, c1, rfl, hL1, hr1, hn1, hb1⟩
  have HL1 : Hid (L1 = X.length) := hL1
  have HR1 : Hid (Rd w1 a1 X) := hr1
  have HN1 : Hid (a1 = none → c1 = 0) := hn1
  have HB1 : Hid (Below w.heap.size w w1) := below_next (al (Below.refl _ _) _) hb1
  obtain ⟨g, hg⟩ : ∃ g, g = w.heap.size := ⟨_, rfl⟩
  have HG : Hid (g = w.heap.size) := hg
  have HZ1 : Hid (w1.heap[g]? = some (.cells #[.int .i64 0, .int .u64 0, .int .u64 0, .int .i64 0, .int .i64 0, .int .i64 0, .slice none 0 0, .int .i64 0, .slice none 0 0] 26 (0, 0))) := by unfold Hid; rw [hg]; exact (hb1.block w.heap.size (by simp)).trans (heap_alloc_new w _)
  rw [← hg]
  clear hL1 hr1 hn1 hb1 hg
  go_wp2_with fail
  refine Calls.mono (new_b a1 L1 c1 X HL1.out w1 HR1.out HN1.out (by rw [HL1.out]; exact HXL.out)) ?_
  rintro er1 w2 ⟨p, rfl, hr2, hb2⟩
  have HR2 : Hid (RS w2 p w1.heap.size X 0) := hr2
  have HB2 : Hid (Below w.heap.size w w2) := below_next HB1.out hb2
  have HZ2 : Hid (w2.heap[g]? = some (.cells #[.int .i64 0, .int .u64 0, .int .u64 0, .int .i64 0, .int .i64 0, .int .i64 0, .slice none 0 0, .int .i64 0, .slice none 0 0] 26 (0, 0))) := (hb2.block g (Array.getElem?_eq_some_iff.1 HZ1.out).1).trans HZ1.out
  have HPG : Hid (g < p ∧ w.heap.size ≤ p ∧ p < w2.heap.size ∧ g < w1.heap.size) := by
    have h1 := hr2.ge
    have h2 := (Array.getElem?_eq_some_iff.1 HZ1.out).1
    have h3 := hr2.lt
    have h4 := HG.out
    exact ⟨by omega, by omega, h3, h2⟩
  have HW1 : Hid (Below w1.heap.size w1 w2) := hb2
  clear hr2 hb2
  go_wp2_with fail
  refine Calls.mono (read_t w1 w2 HR2.out HW1.out HR2.out.ge HRU.out) ?_
  rintro er1 w3 ⟨da, dc, ga, gc, rfl, ho3, hq3, hr3, hb3⟩
  have HR3 : Hid (RS w3 p w1.heap.size y f) := hr3
  have HB3 : Hid (Below w.heap.size w w3) := below_next HB1.out hb3
  have HZ3 : Hid (w3.heap[g]? = some (.cells #[.int .i64 0, .int .u64 0, .int .u64 0, .int .i64 0, .int .i64 0, .int .i64 0, .slice none 0 0, .int .i64 0, .slice none 0 0] 26 (0, 0))) := (hb3.block g HPG.out.2.2.2).trans HZ1.out
  have HO3 : Hid (Own w3 (w2.heap.size + 1) (.slice da u.data.length dc) u.data) := ho3
  have HQ3 : Hid (OwnR w3 (w2.heap.size + 1) (.slice ga u.got.length gc) u.got) := hq3
  clear ho3 hq3 hr3 hb3
  obtain ⟨k1, hk1⟩ : ∃ k, k = u.kind := ⟨_, rfl⟩
  obtain ⟨k2, hk2⟩ : ∃ k, k = u.ep := ⟨_, rfl⟩
  obtain ⟨k3, hk3⟩ : ∃ k, k = u.se := ⟨_, rfl⟩
  obtain ⟨k4, hk4⟩ : ∃ k, k = u.path := ⟨_, rfl⟩
  obtain ⟨k5, hk5⟩ : ∃ k, k = u.idx := ⟨_, rfl⟩
  obtain ⟨k6, hk6⟩ : ∃ k, k = u.cnt := ⟨_, rfl⟩
  obtain ⟨k7, hk7⟩ : ∃ k, k = u.data.length := ⟨_, rfl⟩
  obtain ⟨k8, hk8⟩ : ∃ k, k = u.code := ⟨_, rfl⟩
  obtain ⟨k9, hk9⟩ : ∃ k, k = u.got.length := ⟨_, rfl⟩
  have HKS : Hid (unV u da dc ga gc = .agg #[.int .i64 k1, .int .u64 k2, .int .u64 k3, .int .i64 k4, .int .i64 k5, .int .i64 k6, .slice da k7 dc, .int .i64 k8, .slice ga k9 gc]) := by unfold Hid; rw [hk1, hk2, hk3, hk4, hk5, hk6, hk7, hk8, hk9]
  rw [HKS.out]
  clear hk1 hk2 hk3 hk4 hk5 hk6 hk7 hk8 hk9
  have hss := fun (u : World) (a : Addr) (o : Option Addr) (n c : Nat) => run_store Tryz.prog u a (.slice o n c) .plain rfl
  go_wp2_with fail
  clear hss
  refine Calls.mono (end_s _ (RS.below HR3.out (al (Below.refl _ _) _))) ?_
  rintro er1 w4 ⟨rfl, hr4, hg4⟩
  have HR4 : Hid (RS w4 p w1.heap.size y (rEnd y f)) := hr4
  have HB4 : Hid (Below w.heap.size w w4) := (HB3.out.alloc HB3.out.size _).grown hg4 (HB3.out.alloc HB3.out.size _).size (fun j hj => by cases hj; exact HPG.out.2.1)
  have HZ4 : Hid (w4.heap[g]? = some (.cells #[.int .i64 0, .int .u64 0, .int .u64 0, .int .i64 0, .int .i64 0, .int .i64 0, .slice none 0 0, .int .i64 0, .slice none 0 0] 26 (0, 0))) := gr_box hg4 (by have := HPG.out; omega) (((al (Below.refl _ _) _).block g (Array.getElem?_eq_some_iff.1 HZ3.out).1).trans HZ3.out)
  have HV4 : Hid (w4.heap[w3.heap.size]? = some (.cells #[.int .i64 k1, .int .u64 k2, .int .u64 k3, .int .i64 k4, .int .i64 k5, .int .i64 k6, .slice da k7 dc, .int .i64 k8, .slice ga k9 gc] 26 (0, 0))) := gr_box hg4 (by have h1 := HPG.out; have h2 := HR3.out.lt; omega) (heap_alloc_new w3 _)
  have HO4 : Hid (Own w4 (w2.heap.size + 1) (.slice da u.data.length dc) u.data) := own_lo (Own.below HO3.out (al (Below.refl _ _) _)) hg4 (by have := HPG.out; omega)
  have HQ4 : Hid (OwnR w4 (w2.heap.size + 1) (.slice ga u.got.length gc) u.got) := OwnR.grown (OwnR.below HQ3.out (al (Below.refl _ _) _)) hg4 (by have := HPG.out; omega)
  have HS3 : Hid (g < w3.heap.size) := (Array.getElem?_eq_some_iff.1 HZ3.out).1
  clear hr4 hg4
  obtain ⟨κ, hκ⟩ : ∃ κ, κ = w3.heap.size := ⟨_, rfl⟩
  rw [← hκ] at HV4 ⊢
  clear hκ
  obtain ⟨F, hF⟩ : ∃ F, F = rEnd y f := ⟨_, rfl⟩
  rw [← hF] at HFE ⊢
  have HFF : Hid (F = rEnd y f) := hF
  clear hF
  have hfe := HFE.out
  have hfb : (F == 0) = false := by simpa using hfe
  go_wp2_with (first
    | (refine wpList_store_mid rfl 26 _ _ rfl g 0 #[.int .i64 0, .int .u64 0, .int .u64 0, .int .i64 0, .int .i64 0, .int .i64 0, .slice none 0 0, .int .i64 0, .slice none 0 0] rfl rfl (box_there HZ4.out rfl) (by kernel_rfl) (by simp [Value.oneCell']) ?_))
  (try simp only [Exit.inBlock, Exit.then])
  refine bodyPost_ret (results_ct Tryz.results7 _ _ g 26 #[.int .i64 0, .int .u64 0, .int .u64 0, .int .i64 0, .int .i64 0, .int .i64 0, .slice none 0 0, .int .i64 0, .slice none 0 0] (0, 0) _ rfl (box_set HZ4.out rfl) Tryz.underlying26 rfl (by kernel_rfl)) rfl ?_
  have hfin := setCells_grown g [.int .i64 0, .int .u64 0, .int .u64 0, .int .i64 0, .int .i64 0, .int .i64 0, .slice none 0 0, .int .i64 0, .slice none 0 0] 0 w4
  rw [← HFF.out]
  exact DecOut.zero (HB4.out.grown hfin HB4.out.size (fun j hj => by cases hj; exact Nat.le_of_eq HG.out.symm))
theorem decode_c (ao : Option Addr) (n cap : Nat) (xs : List UInt8) (hn : n = xs.length) (w : World) (hx : Rd w ao xs) (hlc : n ≤ cap) (hcm : cap ≤ 9223372036854775807) (hl : n ≤ 140737488355328) (ht : TabOk w) {X : List UInt8} (hun : unS xs = (X, 0)) {u : Un} {y : List UInt8} {f : Int} (hru : readU (X, 0) = (u, y, f)) (hfe : rEnd y f = 0) :
    Calls Tryz.prog 7 #[.slice ao n cap] w fun er w' => DecOut u 0 w er w' := by
  have HUN : Hid _ := fun (u : World) (hu : Below w.heap.size w u) => unseal_b ao n cap xs hn u (hx.below hu) hlc hcm hl (ht.below hu) hun
  have HRU : Hid _ := hru
  have HFE : Hid _ := hfe
  have HXL : Hid (X.length ≤ 140737488355328) := by
    have h9 := unS_len xs
    rw [hun] at h9
    unfold Hid
    simp only at h9
    omega
  clear hru hfe
  clear hx hn hlc hcm hl ht hun
  go_enter Tryz.func7, Tryz.ntmps7
  go_wp2_with fail
  refine Calls.mono (HUN.out _ (al (Below.refl _ _) _)) ?_
  rintro er1 w1 ⟨a1, L1, c1, rfl, hL1, hr1, hn1, hb1⟩
  have HL1 : Hid (L1 = X.length) := hL1
  have HR1 : Hid (Rd w1 a1 X) := hr1
  have HN1 : Hid (a1 = none → c1 = 0) := hn1
  have HB1 : Hid (Below w.heap.size w w1) := below_next (al (Below.refl _ _) _) hb1
  obtain ⟨g, hg⟩ : ∃ g, g = w.heap.size := ⟨_, rfl⟩
  have HG : Hid (g = w.heap.size) := hg
  have HZ1 : Hid (w1.heap[g]? = some (.cells #[.int .i64 0, .int .u64 0, .int .u64 0, .int .i64 0, .int .i64 0, .int .i64 0, .slice none 0 0, .int .i64 0, .slice none 0 0] 26 (0, 0))) := by unfold Hid; rw [hg]; exact (hb1.block w.heap.size (by simp)).trans (heap_alloc_new w _)
  rw [← hg]
  clear hL1 hr1 hn1 hb1 hg
  go_wp2_with fail
  refine Calls.mono (new_b a1 L1 c1 X HL1.out w1 HR1.out HN1.out (by rw [HL1.out]; exact HXL.out)) ?_
  rintro er1 w2 ⟨p, rfl, hr2, hb2⟩
  have HR2 : Hid (RS w2 p w1.heap.size X 0) := hr2
  have HB2 : Hid (Below w.heap.size w w2) := below_next HB1.out hb2
  have HZ2 : Hid (w2.heap[g]? = some (.cells #[.int .i64 0, .int .u64 0, .int .u64 0, .int .i64 0, .int .i64 0, .int .i64 0, .slice none 0 0, .int .i64 0, .slice none 0 0] 26 (0, 0))) := (hb2.block g (Array.getElem?_eq_some_iff.1 HZ1.out).1).trans HZ1.out
  have HPG : Hid (g < p ∧ w.heap.size ≤ p ∧ p < w2.heap.size ∧ g < w1.heap.size) := by
    have h1 := hr2.ge
    have h2 := (Array.getElem?_eq_some_iff.1 HZ1.out).1
    have h3 := hr2.lt
    have h4 := HG.out
    exact ⟨by omega, by omega, h3, h2⟩
  have HW1 : Hid (Below w1.heap.size w1 w2) := hb2
  clear hr2 hb2
  go_wp2_with fail
  refine Calls.mono (read_t w1 w2 HR2.out HW1.out HR2.out.ge HRU.out) ?_
  rintro er1 w3 ⟨da, dc, ga, gc, rfl, ho3, hq3, hr3, hb3⟩
  have HR3 : Hid (RS w3 p w1.heap.size y f) := hr3
  have HB3 : Hid (Below w.heap.size w w3) := below_next HB1.out hb3
  have HZ3 : Hid (w3.heap[g]? = some (.cells #[.int .i64 0, .int .u64 0, .int .u64 0, .int .i64 0, .int .i64 0, .int .i64 0, .slice none 0 0, .int .i64 0, .slice none 0 0] 26 (0, 0))) := (hb3.block g HPG.out.2.2.2).trans HZ1.out
  have HO3 : Hid (Own w3 (w2.heap.size + 1) (.slice da u.data.length dc) u.data) := ho3
  have HQ3 : Hid (OwnR w3 (w2.heap.size + 1) (.slice ga u.got.length gc) u.got) := hq3
  clear ho3 hq3 hr3 hb3
  obtain ⟨k1, hk1⟩ : ∃ k, k = u.kind := ⟨_, rfl⟩
  obtain ⟨k2, hk2⟩ : ∃ k, k = u.ep := ⟨_, rfl⟩
  obtain ⟨k3, hk3⟩ : ∃ k, k = u.se := ⟨_, rfl⟩
  obtain ⟨k4, hk4⟩ : ∃ k, k = u.path := ⟨_, rfl⟩
  obtain ⟨k5, hk5⟩ : ∃ k, k = u.idx := ⟨_, rfl⟩
  obtain ⟨k6, hk6⟩ : ∃ k, k = u.cnt := ⟨_, rfl⟩
  obtain ⟨k7, hk7⟩ : ∃ k, k = u.data.length := ⟨_, rfl⟩
  obtain ⟨k8, hk8⟩ : ∃ k, k = u.code := ⟨_, rfl⟩
  obtain ⟨k9, hk9⟩ : ∃ k, k = u.got.length := ⟨_, rfl⟩
  have HKS : Hid (unV u da dc ga gc = .agg #[.int .i64 k1, .int .u64 k2, .int .u64 k3, .int .i64 k4, .int .i64 k5, .int .i64 k6, .slice da k7 dc, .int .i64 k8, .slice ga k9 gc]) := by unfold Hid; rw [hk1, hk2, hk3, hk4, hk5, hk6, hk7, hk8, hk9]
  rw [HKS.out]
  clear hk1 hk2 hk3 hk4 hk5 hk6 hk7 hk8 hk9
  have hss := fun (u : World) (a : Addr) (o : Option Addr) (n c : Nat) => run_store Tryz.prog u a (.slice o n c) .plain rfl
  go_wp2_with fail
  clear hss
  refine Calls.mono (end_s _ (RS.below HR3.out (al (Below.refl _ _) _))) ?_
  rintro er1 w4 ⟨rfl, hr4, hg4⟩
  have HR4 : Hid (RS w4 p w1.heap.size y (rEnd y f)) := hr4
  have HB4 : Hid (Below w.heap.size w w4) := (HB3.out.alloc HB3.out.size _).grown hg4 (HB3.out.alloc HB3.out.size _).size (fun j hj => by cases hj; exact HPG.out.2.1)
  have HZ4 : Hid (w4.heap[g]? = some (.cells #[.int .i64 0, .int .u64 0, .int .u64 0, .int .i64 0, .int .i64 0, .int .i64 0, .slice none 0 0, .int .i64 0, .slice none 0 0] 26 (0, 0))) := gr_box hg4 (by have := HPG.out; omega) (((al (Below.refl _ _) _).block g (Array.getElem?_eq_some_iff.1 HZ3.out).1).trans HZ3.out)
  have HV4 : Hid (w4.heap[w3.heap.size]? = some (.cells #[.int .i64 k1, .int .u64 k2, .int .u64 k3, .int .i64 k4, .int .i64 k5, .int .i64 k6, .slice da k7 dc, .int .i64 k8, .slice ga k9 gc] 26 (0, 0))) := gr_box hg4 (by have h1 := HPG.out; have h2 := HR3.out.lt; omega) (heap_alloc_new w3 _)
  have HO4 : Hid (Own w4 (w2.heap.size + 1) (.slice da u.data.length dc) u.data) := own_lo (Own.below HO3.out (al (Below.refl _ _) _)) hg4 (by have := HPG.out; omega)
  have HQ4 : Hid (OwnR w4 (w2.heap.size + 1) (.slice ga u.got.length gc) u.got) := OwnR.grown (OwnR.below HQ3.out (al (Below.refl _ _) _)) hg4 (by have := HPG.out; omega)
  have HS3 : Hid (g < w3.heap.size) := (Array.getElem?_eq_some_iff.1 HZ3.out).1
  clear hr4 hg4
  obtain ⟨κ, hκ⟩ : ∃ κ, κ = w3.heap.size := ⟨_, rfl⟩
  rw [← hκ] at HV4 ⊢
  clear hκ
  obtain ⟨F, hF⟩ : ∃ F, F = rEnd y f := ⟨_, rfl⟩
  rw [← hF] at HFE ⊢
  have HFF : Hid (F = rEnd y f) := hF
  clear hF
  have hfe := HFE.out
  subst hfe
  go_wp2_with (first
    | (refine wpList_load_g (by rfl) 26 _ rfl κ 0 (by rfl) [.int .i64 k1, .int .u64 k2, .int .u64 k3, .int .i64 k4, .int .i64 k5, .int .i64 k6, .slice da k7 dc, .int .i64 k8, .slice ga k9 gc] _ (box_range HV4.out) Tryz.underlying26 rfl info_un ?_)
    | (refine wpList_store_mid rfl 26 _ _ rfl g 0 #[.int .i64 k1, .int .u64 k2, .int .u64 k3, .int .i64 k4, .int .i64 k5, .int .i64 k6, .slice da k7 dc, .int .i64 k8, .slice ga k9 gc] rfl rfl (box_there HZ4.out rfl) (by kernel_rfl) (by simp [Value.oneCell']) ?_))
  (try simp only [Exit.inBlock, Exit.then])
  refine bodyPost_ret (results_ct Tryz.results7 _ _ g 26 #[.int .i64 k1, .int .u64 k2, .int .u64 k3, .int .i64 k4, .int .i64 k5, .int .i64 k6, .slice da k7 dc, .int .i64 k8, .slice ga k9 gc] (0, 0) _ rfl (box_set HZ4.out rfl) Tryz.underlying26 rfl (by kernel_rfl)) rfl ?_
  have hfin := setCells_grown g [.int .i64 k1, .int .u64 k2, .int .u64 k3, .int .i64 k4, .int .i64 k5, .int .i64 k6, .slice da k7 dc, .int .i64 k8, .slice ga k9 gc] 0 w4
  refine ⟨da, dc, ga, gc, by rw [HKS.out]; rfl, ?_, ?_, HB4.out.grown hfin HB4.out.size (fun j hj => by cases hj; exact Nat.le_of_eq HG.out.symm)⟩
  · exact Own.base (own_lo HO4.out hfin (by have := HPG.out; omega)) (by have := HPG.out; omega)
  · exact OwnR.base (OwnR.grown HQ4.out hfin (by have := HPG.out; omega)) (by have := HPG.out; omega)
end
theorem decode_t (ao : Option Addr) (n cap : Nat) (xs : List UInt8) (hn : n = xs.length) (w : World) (hx : Rd w ao xs) (hlc : n ≤ cap) (hcm : cap ≤ 9223372036854775807) (hl : n ≤ 140737488355328) (ht : TabOk w) :
    Calls Tryz.prog 7 #[.slice ao n cap] w fun er w' => DecOut (decU xs).1 (decU xs).2 w er w' := by
  obtain ⟨X, E, hun⟩ : ∃ X E, unS xs = (X, E) := ⟨_, _, rfl⟩
  obtain ⟨u, y, f, hru⟩ : ∃ u y f, readU (X, 0) = (u, y, f) := ⟨_, _, _, rfl⟩
  have hd : decU xs = if E = 0 then (if rEnd y f = 0 then (u, 0) else (zeroU, rEnd y f)) else (zeroU, ((E : Nat) : Int)) := by
    unfold decU
    rw [hun]
    simp only [hru]
  rw [hd]
  by_cases hE : E = 0
  · subst hE
    rw [if_pos rfl]
    by_cases hfe : rEnd y f = 0
    · rw [if_pos hfe]
      exact decode_c ao n cap xs hn w hx hlc hcm hl ht hun hru hfe
    · rw [if_neg hfe]
      exact decode_b ao n cap xs hn w hx hlc hcm hl ht hun hru hfe
  · rw [if_neg hE]
    exact decode_a ao n cap xs hn w hx hlc hcm hl ht hun hE
end Go.Proofs.YtplncfahpdmcoaaGreatDoor
namespace Go.Proofs.YtplncfahpdmcoaaGreatDoor
set_option linter.unusedVariables false
set_option linter.unusedSimpArgs false
open Go.RowKit
/-- bit k of the string turned -/
def turnB (xs : List UInt8) (k : Nat) : List UInt8 := xs.set (k / 8) (xs.getD (k / 8) 0 ^^^ UInt8.ofNat (2 ^ (k % 8)))
def bstep (at_ : Int) (mask : Nat) (xs : List UInt8) (j : Nat) : List UInt8 :=
  if mask / 2 ^ j % 2 = 1 ∧ 0 ≤ at_ + j ∧ at_ + j < 8 * xs.length then turnB xs (at_ + j).toNat else xs
def bst (at_ : Int) (mask : Nat) (xs : List UInt8) : Nat → List UInt8
  | 0 => xs
  | k + 1 => bstep at_ mask (bst at_ mask xs k) k
theorem turnB_len (xs : List UInt8) (k : Nat) : (turnB xs k).length = xs.length := by simp [turnB]
theorem bstep_len (at_ : Int) (mask : Nat) (xs : List UInt8) (j : Nat) : (bstep at_ mask xs j).length = xs.length := by
  unfold bstep; split <;> simp [turnB_len]
theorem bst_len (at_ : Int) (mask : Nat) (xs : List UInt8) (k : Nat) : (bst at_ mask xs k).length = xs.length := by
  induction k with
  | zero => rfl
  | succ k ih => rw [bst, bstep_len, ih]

end Go.Proofs.YtplncfahpdmcoaaGreatDoor
namespace Go.Proofs.YtplncfahpdmcoaaGreatDoor
set_option linter.unusedVariables false
set_option linter.unusedSimpArgs false
open Go.RowKit
theorem turnB_get (xs : List UInt8) (k i : Nat) (h : i < xs.length) : (turnB xs k)[i]'(by rw [turnB_len]; exact h) = if k / 8 = i then xs[i] ^^^ UInt8.ofNat (2 ^ (k % 8)) else xs[i] := by
  unfold turnB
  rw [List.getElem_set]
  split
  · rename_i e; subst e; simp [List.getD, h]
  · rfl
theorem turnB_comm (xs : List UInt8) (a b : Nat) : turnB (turnB xs a) b = turnB (turnB xs b) a := by
  apply List.ext_getElem
  · simp [turnB_len]
  · intro i h1 h2
    have h : i < xs.length := by simpa [turnB_len] using h1
    rw [turnB_get (turnB xs a) b i (by rw [turnB_len]; exact h), turnB_get (turnB xs b) a i (by rw [turnB_len]; exact h), turnB_get xs a i h, turnB_get xs b i h]
    split <;> split <;> first | rfl | (rw [UInt8.xor_assoc, UInt8.xor_assoc, UInt8.xor_comm (UInt8.ofNat (2 ^ (a % 8)))])
theorem turnB_twice (xs : List UInt8) (a : Nat) : turnB (turnB xs a) a = xs := by
  apply List.ext_getElem
  · simp [turnB_len]
  · intro i h1 h
    rw [turnB_get (turnB xs a) a i (by rw [turnB_len]; exact h), turnB_get xs a i h]
    split
    · rw [UInt8.xor_assoc, UInt8.xor_self, UInt8.xor_zero]
    · rfl
theorem bstep_comm (at_ : Int) (mask : Nat) (xs : List UInt8) (i j : Nat) : bstep at_ mask (bstep at_ mask xs i) j = bstep at_ mask (bstep at_ mask xs j) i := by
  by_cases hi : mask / 2 ^ i % 2 = 1 ∧ 0 ≤ at_ + i ∧ at_ + i < 8 * xs.length
  · by_cases hj : mask / 2 ^ j % 2 = 1 ∧ 0 ≤ at_ + j ∧ at_ + j < 8 * xs.length
    · simp only [bstep, if_pos hi, if_pos hj, turnB_len]
      exact turnB_comm _ _ _
    · simp only [bstep, if_pos hi, if_neg hj, turnB_len]
  · by_cases hj : mask / 2 ^ j % 2 = 1 ∧ 0 ≤ at_ + j ∧ at_ + j < 8 * xs.length
    · simp only [bstep, if_neg hi, if_pos hj, turnB_len]
    · simp only [bstep, if_neg hi, if_neg hj]
theorem bstep_twice (at_ : Int) (mask : Nat) (xs : List UInt8) (i : Nat) : bstep at_ mask (bstep at_ mask xs i) i = xs := by
  by_cases hi : mask / 2 ^ i % 2 = 1 ∧ 0 ≤ at_ + i ∧ at_ + i < 8 * xs.length
  · simp only [bstep, if_pos hi, turnB_len]
    exact turnB_twice _ _
  · simp only [bstep, if_neg hi]
theorem bst_bstep (at_ : Int) (mask : Nat) (xs : List UInt8) (i k : Nat) : bst at_ mask (bstep at_ mask xs i) k = bstep at_ mask (bst at_ mask xs k) i := by
  induction k with
  | zero => rfl
  | succ k ih => rw [bst, bst, ih, bstep_comm]
theorem bst_twice (at_ : Int) (mask : Nat) (xs : List UInt8) (k : Nat) : bst at_ mask (bst at_ mask xs k) k = xs := by
  induction k with
  | zero => rfl
  | succ k ih => rw [bst, bst, bst_bstep, ih, bstep_twice]
end Go.Proofs.YtplncfahpdmcoaaGreatDoor
