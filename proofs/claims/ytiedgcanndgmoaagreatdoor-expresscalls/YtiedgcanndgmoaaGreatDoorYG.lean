import Derived.Test.YtiedgcanndgmoaaGreatDoorYC
import Derived.Test.YtiedgcanndgmoaaGreatDoorXT
import Derived.Test.YtiedgcanndgmoaaGreatDoorXM
import Derived.Test.YtiedgcanndgmoaaGreatDoorRCu
import Derived.Test.YtiedgcanndgmoaaGreatDoorRL
namespace Go.Proofs.YtiedgcanndgmoaaGreatDoor
set_option linter.unusedVariables false
set_option linter.unusedSimpArgs false
open Go.RowKit Go.Maps
section
variable {w w' : World} {q : Nat} {v : Value} {X : Value × Value × Value × Value} {s : Xs}
set_option maxRecDepth 20000
set_option maxHeartbeats 3200000
theorem rgood_t (k : Fk) (w : World) : Calls Tryz.prog 11 #[fv k] w fun e w' => e = .returned (.bool (decide (0 ≤ k.1 ∧ k.1 < 8 ∧ k.2 ≤ mxX))) ∧ Below w.heap.size w w' := by
  obtain ⟨a, b⟩ := k
  have HB : Hid (Below w.heap.size w (w.alloc (.cells #[.int .i64 a, .int .u64 (b : Int)] tFk))) := alx (Below.refl _ _) (Nat.le_refl _) _
  obtain ⟨d, hd⟩ : ∃ d, d = decide (0 ≤ a ∧ a < 8 ∧ b ≤ mxX) := ⟨_, rfl⟩
  show Calls _ _ _ _ fun e w' => e = .returned (.bool (decide (0 ≤ a ∧ a < 8 ∧ b ≤ mxX))) ∧ _
  rw [← hd]
  have HE : Hid _ := hd
  clear hd
  by_cases h1 : 0 ≤ a
  · by_cases h2 : a < 8
    · have HD : Hid (decide ((b : Int) ≤ 281474976710655) = d) := by
        unfold Hid
        rw [HE.out]
        unfold mxX
        apply decide_eq_decide.2
        omega
      go_enter Tryz.func11, Tryz.ntmps11
      go_wp2
      go_ret
      rw [← HD.out]; exact ⟨rfl, HB.out⟩
    · have HD : Hid (d = false) := HE.out.trans <| decide_eq_false (fun h => h2 h.2.1)
      go_enter Tryz.func11, Tryz.ntmps11
      go_wp2
      go_ret
      rw [HD.out]; exact ⟨rfl, HB.out⟩
  · have HD : Hid (d = false) := HE.out.trans <| decide_eq_false (fun h => h1 h.1)
    go_enter Tryz.func11, Tryz.ntmps11
    go_wp2
    go_ret
    rw [HD.out]; exact ⟨rfl, HB.out⟩

theorem rlater_t (a b : Nat) (ha : a ≤ mxX) (hb : b ≤ 4096) (w : World) : Calls Tryz.prog 62 #[.int .u64 (a : Int), .int .u64 (b : Int)] w fun e w' => e = .returned (.int .u64 ((min (a + b) mxX : Nat) : Int)) ∧ w' = w := by
  have hw : IntKind.u64.wrap ((a : Int) + (b : Int)) = (a : Int) + (b : Int) := by unfold mxX at ha; rw [IntKind.wrap_u64]; omega
  have HM : Hid (((min (a + b) mxX : Nat) : Int) = min ((a : Int) + (b : Int)) 281474976710655) := by unfold Hid mxX; omega
  rw [HM.out]
  go_enter Tryz.func62, Tryz.ntmps62
  go_wp2
  go_ret
  first | exact ⟨rfl, rfl⟩ | exact ⟨by simp [hw], rfl⟩
theorem runits_t (ep nm g m c B : Nat) (E : List Dc) (hm : m = E.length) (hm64 : m ≤ 64) (hE : OwnG KL w B (.slice (some ⟨g, 0, none⟩) m c) E) :
    Calls Tryz.prog 63 #[.int .u64 (ep : Int), .int .u64 (nm : Int), .int .i64 1, .slice (some ⟨g, 0, none⟩) m c] w fun e w' => ∃ v, e = .returned v ∧ OwnG KBu w' w.heap.size v (uns ep nm m E) ∧ Below w.heap.size w w' := by
  have HE : Hid _ := hE
  have HM : Hid _ := hm
  have hmi : (m : Int) ≤ 64 := by omega
  clear hE hm
  go_enter Tryz.func63, Tryz.ntmps63
  go_wp2
  go_loopw [9, 10] (fun u j wr => ∃ k : Nat, k ≤ m ∧ j = .int .i64 (k : Int) ∧ OwnG KBu wr w.heap.size u ((uns ep nm m E).take k) ∧ Below w.heap.size w wr) (fun _ j _ => m - (intOf j).toNat)
  case atStart => exact ⟨0, Nat.zero_le _, rfl, World.ownsRow_nil _ _ _ _, Below.refl _ _⟩
  case round =>
    obtain ⟨k, hk, rfl, hown, hbw⟩ := hrel
    have hkw : IntKind.i64.wrap ((k : Int) + 1) = ((k + 1 : Nat) : Int) := by rw [IntKind.wrap_i64]; omega
    by_cases hlt : k < m
    · have hltI : (k : Int) < (m : Int) := by omega
      have hk0 : (0 : Int) ≤ (k : Int) := by omega
      have hkL : k < E.length := by rw [← HM.out]; exact hlt
      obtain ⟨d, hd⟩ : ∃ d, d = E[k] := ⟨_, rfl⟩
      have hrow := (OwnG.below HE.out hbw).cell HM.out k 0 hkL (by decide)
      rw [← hd] at hrow
      have hcell : wr.cell? ⟨g, k, none⟩ = some (.slice d.a d.n d.c) := by simpa using hrow
      have HTK : Hid ((uns ep nm m E).take k ++ [⟨ep, nm, k, m, d⟩] = (uns ep nm m E).take (k + 1)) := by
        unfold Hid
        rw [List.take_succ_eq_append_getElem (by rw [uns_len]; exact hkL), uns_get ep nm m E k hkL, ← hd]
      have HLK : Hid (k = ((uns ep nm m E).take k).length) := by unfold Hid; rw [List.length_take, uns_len]; omega
      have HO : Hid (OwnG KBu (wr.alloc (.cells (buv ⟨ep, nm, k, m, d⟩).toArray tUni)) w.heap.size u9 ((uns ep nm m E).take k)) := hown.below (alw (Below.refl _ _) _)
      have HBW : Hid _ := hbw
      have HSZ : Hid (w.heap.size ≤ wr.heap.size) := hbw.size
      have HLT3 : Hid (∀ b, u9.ownBlock = some b → w.heap.size ≤ b) := fun b hb => (hown.lt' hb).1
      clear hown hbw hkL hd hrow
      go_wp2_with (at_builtin; refine wp_appG1 (K := KBu) rfl _ _ rfl w.heap.size u9 ((uns ep nm m E).take k) ⟨ep, nm, k, m, d⟩ k HLK.out ⟨wr.heap.size, 0, none⟩ 1 rfl HO.out rfl (rdU_new _ _ _ rfl) (by show (k + 1) * 104 ≤ _; omega) (by simp only [maxLen]; omega) (by have := HSZ.out; simp; omega) ?_; intro g7 c7 w7 hown7 hg7 hlie7; rw [HTK.out] at hown7; have HO7 : Hid _ := hown7; have HG7 : Hid _ := hg7; clear hown7 hg7 hlie7)
      go_roundw
      case rel =>
        refine ⟨k + 1, hlt, by go_num, HO7.out, (alw HBW.out _).grown HG7.out (by have := HSZ.out; simp; omega) (fun j hj => HLT3.out j hj)⟩
      case measure => simp [intOf]; omega
    · have hltI : ¬ (k : Int) < (m : Int) := by omega
      have hkn : k = m := by omega
      have HO : Hid (OwnG KBu wr w.heap.size u9 (uns ep nm m E)) := by
        unfold Hid
        have h9 := hown
        rw [hkn, HM.out, List.take_of_length_le (by rw [uns_len]; exact Nat.le_refl _)] at h9
        rw [HM.out]
        exact h9
      have HBW : Hid _ := hbw
      clear hown hbw
      go_wp2
      go_ret
      exact ⟨_, rfl, HO.out, HBW.out⟩
theorem rnew_t (m a r : Nat) (t vw i : Int) (ep now : Nat) (hc : CfgOk m a r t vw i) (he : 1 ≤ ep ∧ ep ≤ mxX) :
    Calls Tryz.prog 19 #[cfgv m a r t vw i, .int .u64 (ep : Int), .int .u64 (now : Int)] w fun e w' => ∃ q, e = .returned (.tuple #[.pointer (some ⟨q, 0, none⟩), .int .i64 0]) ∧ Rx w' q (.slice none 0 0) (.int .u64 (r : Int), .int .i64 t, .int .i64 vw, .int .i64 i) (newX m a ep now) ∧ Below w.heap.size w w' ∧ w.heap.size ≤ q := by
  obtain ⟨w1, hw1⟩ : ∃ w1, w1 = w.alloc (.cells #[.int .i64 (m : Int), .int .u64 (a : Int), .int .u64 (r : Int), .int .i64 t, .int .i64 vw, .int .i64 i] 25) := ⟨_, rfl⟩
  have hb1 : Below w.heap.size w w1 := by rw [hw1]; exact alw (Below.refl _ _) _
  have hbox : w1.heap[w.heap.size]? = some (.cells #[.int .i64 (m : Int), .int .u64 (a : Int), .int .u64 (r : Int), .int .i64 t, .int .i64 vw, .int .i64 i] 25 (0, 0)) := by rw [hw1]; exact heap_alloc_new w _
  have hcb : ∀ u, Below w1.heap.size w1 u → u.cell? ⟨w.heap.size, 0, none⟩ = some (.int .i64 (m : Int)) ∧ u.cell? ⟨w.heap.size, 1, none⟩ = some (.int .u64 (a : Int)) ∧ u.cell? ⟨w.heap.size, 2, none⟩ = some (.int .u64 (r : Int)) ∧ u.cell? ⟨w.heap.size, 3, none⟩ = some (.int .i64 t) ∧ u.cell? ⟨w.heap.size, 4, none⟩ = some (.int .i64 vw) ∧ u.cell? ⟨w.heap.size, 5, none⟩ = some (.int .i64 i) := fun u hu => by
    have h9 := (hu.block _ (Array.getElem?_eq_some_iff.1 hbox).1).trans hbox
    refine ⟨?_, ?_, ?_, ?_, ?_, ?_⟩
    all_goals (rw [cell_of_row _ _ _ _ _ _ h9]; rfl)
  haveI := Classical.propDecidable (CfgOk m a r t vw i)
  have HC : Hid (∀ u, Calls Tryz.prog 22 #[cfgv m a r t vw i] u fun e w' => e = .returned (.bool true) ∧ Below u.heap.size u w') := fun u => by
    have h9 := cfg_t m a r t vw i u
    rw [decide_eq_true hc] at h9
    exact h9
  have hc1 := hcb w1 (Below.refl _ _)
  have he1 : ((ep : Int) == 0) = false := by simp; omega
  have he2 : ¬ 281474976710655 < (ep : Int) := by have := he.2; unfold mxX at this; omega
  have HM : Hid (((min now mxX : Nat) : Int) = min (now : Int) 281474976710655) := by unfold Hid mxX; omega
  have HW1 : Hid (w1 = _) := hw1
  have HB1 : Hid _ := hb1
  have HCF : Hid _ := hc
  have HEP : Hid _ := he
  clear hw1 hb1 hbox hc he
  go_enter Tryz.func19, Tryz.ntmps19
  go_wp2_with fail
  rw [← HW1.out]
  refine Calls.mono (HC.out _) ?_
  rintro e w2 ⟨rfl, hb2⟩
  have hc2 := hcb w2 hb2
  have HB2 : Hid _ := hb2
  clear hb2 hcb hc1
  go_wp2
  go_ret2
  obtain ⟨h1, h2, h3, h4, h5, h6, h7, h8, h9, h10, h11, h12⟩ := HCF.out
  have hb3 := below_next HB1.out HB2.out
  refine ⟨_, rfl, ⟨?_, World.ownsRow_nil _ _ _ _, newX_inv ⟨by omega, by omega⟩ ⟨by omega, by omega⟩ HEP.out⟩, alw hb3 _, hb3.size⟩
  have h0 := heap_alloc_new w2 (.cells (cellsR (newX m a ep now) (.int .u64 (r : Int), .int .i64 t, .int .i64 vw, .int .i64 i) (.slice none 0 0)) tRx)
  rw [← h0]
  simp only [newX, cellsR, HM.out]
theorem rnew_no (m : Int) (a r : Nat) (t vw i : Int) (ep now : Nat) (hc : ¬ (CfgOk m a r t vw i ∧ 1 ≤ ep ∧ ep ≤ mxX)) :
    Calls Tryz.prog 19 #[cfgv m a r t vw i, .int .u64 (ep : Int), .int .u64 (now : Int)] w fun e w' => e = .returned (.tuple #[.pointer none, .int .i64 1]) ∧ Below w.heap.size w w' := by
  obtain ⟨w1, hw1⟩ : ∃ w1, w1 = w.alloc (.cells #[.int .i64 m, .int .u64 (a : Int), .int .u64 (r : Int), .int .i64 t, .int .i64 vw, .int .i64 i] 25) := ⟨_, rfl⟩
  have hb1 : Below w.heap.size w w1 := by rw [hw1]; exact alw (Below.refl _ _) _
  have hbox : w1.heap[w.heap.size]? = some (.cells #[.int .i64 m, .int .u64 (a : Int), .int .u64 (r : Int), .int .i64 t, .int .i64 vw, .int .i64 i] 25 (0, 0)) := by rw [hw1]; exact heap_alloc_new w _
  have hc1 : w1.cell? ⟨w.heap.size, 0, none⟩ = some (.int .i64 m) ∧ w1.cell? ⟨w.heap.size, 1, none⟩ = some (.int .u64 (a : Int)) ∧ w1.cell? ⟨w.heap.size, 2, none⟩ = some (.int .u64 (r : Int)) ∧ w1.cell? ⟨w.heap.size, 3, none⟩ = some (.int .i64 t) ∧ w1.cell? ⟨w.heap.size, 4, none⟩ = some (.int .i64 vw) ∧ w1.cell? ⟨w.heap.size, 5, none⟩ = some (.int .i64 i) := by
    refine ⟨?_, ?_, ?_, ?_, ?_, ?_⟩
    all_goals (rw [cell_of_row _ _ _ _ _ _ hbox]; rfl)
  haveI := Classical.propDecidable (CfgOk m a r t vw i)
  have HW1 : Hid (w1 = _) := hw1
  have HB1 : Hid _ := hb1
  by_cases hk : CfgOk m a r t vw i
  · have HC : Hid (Calls Tryz.prog 22 #[cfgv m a r t vw i] w1 fun e w' => e = .returned (.bool true) ∧ Below w1.heap.size w1 w') := by
      have h9 := cfg_t m a r t vw i w1
      rw [decide_eq_true hk] at h9
      exact h9
    by_cases h0 : ep = 0
    · subst h0
      clear hw1 hb1 hbox hc hk
      go_enter Tryz.func19, Tryz.ntmps19
      go_wp2_with fail
      rw [← HW1.out]
      refine Calls.mono HC.out ?_
      rintro e w2 ⟨rfl, hb2⟩
      have HB2 : Hid _ := hb2
      clear hb2
      go_wp2
      go_ret2
      exact ⟨rfl, below_next HB1.out HB2.out⟩
    · have he2 : 281474976710655 < (ep : Int) := by
        have h9 : ¬ ep ≤ mxX := fun h9 => hc ⟨hk, by omega, h9⟩
        unfold mxX at h9
        omega
      have he1 : ((ep : Int) == 0) = false := by simp; omega
      clear hw1 hb1 hbox hc hk h0
      go_enter Tryz.func19, Tryz.ntmps19
      go_wp2_with fail
      rw [← HW1.out]
      refine Calls.mono HC.out ?_
      rintro e w2 ⟨rfl, hb2⟩
      have HB2 : Hid _ := hb2
      clear hb2
      go_wp2
      go_ret2
      exact ⟨rfl, below_next HB1.out HB2.out⟩
  · have HC : Hid (Calls Tryz.prog 22 #[cfgv m a r t vw i] w1 fun e w' => e = .returned (.bool false) ∧ Below w1.heap.size w1 w') := by
      have h9 := cfg_t m a r t vw i w1
      rw [decide_eq_false hk] at h9
      exact h9
    clear hw1 hb1 hbox hc hk
    go_enter Tryz.func19, Tryz.ntmps19
    go_wp2_with fail
    rw [← HW1.out]
    refine Calls.mono HC.out ?_
    rintro e w2 ⟨rfl, hb2⟩
    have HB2 : Hid _ := hb2
    clear hb2
    go_wp2
    go_ret2
    exact ⟨rfl, below_next HB1.out HB2.out⟩
end
end Go.Proofs.YtiedgcanndgmoaaGreatDoor
namespace Go.Proofs.YtiedgcanndgmoaaGreatDoor
set_option linter.unusedVariables false
set_option linter.unusedSimpArgs false
open Go.RowKit Go.Maps
section
variable {w w' : World} {q : Nat} {v : Value} {X : Value × Value × Value × Value} {s : Xs}
set_option maxRecDepth 20000
set_option maxHeartbeats 3200000
theorem rof_no (h : Rx w q v X s) (k : Fk) (hno : k ∉ s.L.map Xe.k) : Calls Tryz.prog 59 #[.pointer (some ⟨q, 0, none⟩), fv k] w fun e w' => e = .returned (.int .i64 (-1)) ∧ Below w.heap.size w w' := by
  refine (rof_t h k).mono ?_
  rintro e w' ⟨⟨j, hj, hje, -⟩ | ⟨-, he⟩, hb⟩
  · exact absurd (List.mem_map.2 ⟨_, List.getElem_mem hj, hje⟩) hno
  · exact ⟨he, hb⟩
theorem rof_in (h : Rx w q v X s) (k : Fk) (hin : k ∈ s.L.map Xe.k) : Calls Tryz.prog 59 #[.pointer (some ⟨q, 0, none⟩), fv k] w fun e w' => ∃ j : Nat, e = .returned (.int .i64 (j : Int)) ∧ Below w.heap.size w w' := by
  refine (rof_t h k).mono ?_
  rintro e w' ⟨⟨j, hj, hje, he⟩ | ⟨hno, -⟩, hb⟩
  · exact ⟨j, he, hb⟩
  · exact absurd hin hno
theorem rnum_no (h : Rx w q v X s) (k : Nat) (hno : k ∉ s.L.map Xe.n) : Calls Tryz.prog 60 #[.pointer (some ⟨q, 0, none⟩), .int .u64 (k : Int)] w fun e w' => e = .returned (.int .i64 (-1)) ∧ w' = w := by
  refine (rnumbered_t h k).mono ?_
  rintro e w' ⟨⟨j, hj, hje, -⟩ | ⟨-, he⟩, hb⟩
  · exact absurd (List.mem_map.2 ⟨_, List.getElem_mem hj, hje⟩) hno
  · exact ⟨he, hb⟩
theorem rnum_in (h : Rx w q v X s) (k : Nat) (hin : k ∈ s.L.map Xe.n) : Calls Tryz.prog 60 #[.pointer (some ⟨q, 0, none⟩), .int .u64 (k : Int)] w fun e w' => ∃ j : Nat, e = .returned (.int .i64 (j : Int)) ∧ w' = w := by
  refine (rnumbered_t h k).mono ?_
  rintro e w' ⟨⟨j, hj, hje, he⟩ | ⟨hno, -⟩, hb⟩
  · exact ⟨j, he, hb⟩
  · exact absurd hin hno
/-- Cut, of whatever block -/
theorem rcut_any (ao : Option Addr) (n cap : Nat) (xs : Seg) (m : Nat) (hn : n = xs.length) (hx : Rd w ao xs) (hle : n ≤ cap) (h1 : 16 ≤ m) (h2 : m ≤ 1024) (hb : n ≤ 140737488355328) : ∃ ce : Int, (ce = 0 ↔ 1 ≤ n ∧ n ≤ 1024) ∧ Calls Tryz.prog 58 #[.slice ao n cap, .int .i64 (m : Int)] w fun e w' => ∃ u, e = .returned (.tuple #[u, .int .i64 ce]) ∧ Below w.heap.size w w' := by
  by_cases h : 1 ≤ n ∧ n ≤ 1024
  · refine ⟨0, ⟨fun _ => h, fun _ => rfl⟩, (rcut_t ao n cap xs m hn hx hle (by omega) h2 h.1 h.2 (by omega)).mono ?_⟩
    rintro e w' ⟨u, E, he, -, hb⟩
    exact ⟨u, he, hb⟩
  · have hc : cutE n (m : Int) ≠ 0 := by
      unfold cutE
      by_cases h0 : n = 0
      · rw [if_pos (.inr (.inr h0))]; decide
      · rw [if_neg (by omega), if_pos (by omega)]; decide
    refine ⟨cutE n (m : Int), ⟨fun h9 => absurd h9 hc, fun h9 => absurd h9 h⟩, (rcut_no ao n cap (m : Int) ⟨by omega, by omega⟩ hb hc).mono ?_⟩
    rintro e w' ⟨he, rfl⟩
    exact ⟨_, he, Below.refl _ _⟩
theorem rbegin_arg (h : Rx w q v X s) (n : Nat) (k : Fk) (ao : Option Addr) (l c now : Nat) (xs : Seg) (hlx : l = xs.length) (hrd : Rd w ao xs) (hlc : l ≤ c) (hlb : l ≤ 140737488355328) (hbad : ¬ ((1 ≤ n ∧ n ≤ mxX) ∧ goodK k ∧ (1 ≤ l ∧ l ≤ 1024))) :
    Calls Tryz.prog 38 #[.pointer (some ⟨q, 0, none⟩), .int .u64 (n : Int), fv k, .slice ao l c, .int .u64 (now : Int)] w fun e w' => e = .returned (.tuple #[.slice none 0 0, .int .i64 1]) ∧ Below w.heap.size w w' := by
  obtain ⟨w1, hw1⟩ : ∃ w1, w1 = w.alloc (.cells #[.int .i64 k.1, .int .u64 (k.2 : Int)] tFk) := ⟨_, rfl⟩
  have hb1 : Below w.heap.size w w1 := by rw [hw1]; exact alw (Below.refl _ _) _
  have hkb : ∀ u, Below w1.heap.size w1 u → u.cell? ⟨w.heap.size, 0, none⟩ = some (.int .i64 k.1) ∧ u.cell? ⟨w.heap.size, 1, none⟩ = some (.int .u64 (k.2 : Int)) := fun u hu => by
    have h9 := keyBoxF w k u (by rw [← hw1]; have z : w1.heap.size = w.heap.size + 1 := (by rw [hw1]; simp); rw [← z]; exact hu)
    exact ⟨h9.1, h9.2.1⟩
  have hc0 : w1.cell? ⟨q, 0, none⟩ = some (.int .i64 (s.mtu : Int)) := (h.below hb1).cell 0
  obtain ⟨ce, hce, hcut⟩ := rcut_any ao l c xs s.mtu hlx (hrd.below hb1) hlc h.inv.mt.1 h.inv.mt.2 hlb
  have HCUT : Hid _ := hcut
  have HG : Hid (∀ u, Calls Tryz.prog 11 #[.agg #[.int .i64 k.1, .int .u64 (k.2 : Int)]] u fun e w' => e = .returned (.bool (decide (0 ≤ k.1 ∧ k.1 < 8 ∧ k.2 ≤ mxX))) ∧ Below u.heap.size u w') := fun u => rgood_t k u
  have HH : Hid _ := h
  have HB1 : Hid _ := hb1
  have HW1 : Hid (w1 = _) := hw1
  rw [hw1] at hc0
  by_cases h0 : n = 0
  · subst h0
    clear h hw1 hb1 hrd hlx hlc hlb hce hcut hbad
    go_enter Tryz.func38, Tryz.ntmps38
    go_wp2_with fail
    rw [← HW1.out]
    refine Calls.mono HCUT.out ?_
    rintro e w2 ⟨u2, rfl, hb2⟩
    have hkb2 := hkb w2 hb2
    have HB2 : Hid (Below w.heap.size w w2) := below_next HB1.out hb2
    have HB2' : Hid _ := hb2
    clear hb2
    go_wp2
    go_ret2
    exact ⟨rfl, HB2.out⟩
  · have hn0 : ((n : Int) == 0) = false := by simp; omega
    by_cases h1 : n ≤ mxX
    · have hn1 : ¬ 281474976710655 < (n : Int) := by unfold mxX at h1; omega
      by_cases h2 : goodK k
      · have hce0 : ¬ ce = 0 := fun h9 => hbad ⟨⟨by omega, h1⟩, h2, hce.1 h9⟩
        have hce1 : (ce == 0) = false := by simp [hce0]
        have hce2 : (ce != 0) = true := by simp [hce0]
        have HGK : Hid (decide (0 ≤ k.1 ∧ k.1 < 8 ∧ k.2 ≤ mxX) = true) := decide_eq_true h2
        clear h hw1 hb1 hrd hlx hlc hlb hce hcut hbad h0 h1 h2
        go_enter Tryz.func38, Tryz.ntmps38
        go_wp2_with fail
        rw [← HW1.out]
        refine Calls.mono HCUT.out ?_
        rintro e w2 ⟨u2, rfl, hb2⟩
        have hkb2 := hkb w2 hb2
        have HB2 : Hid (Below w.heap.size w w2) := below_next HB1.out hb2
        have HB2' : Hid _ := hb2
        clear hb2
        go_wp2_with (go_at_call 11; refine Calls.mono (HG.out _) ?_; rintro e w3 ⟨rfl, hb3⟩; have HB3 : Hid (Below w.heap.size w w3) := below_next HB2.out hb3; have HB3' : Hid (Below w1.heap.size w1 w3) := below_next HB2'.out hb3; have hkb3 := hkb w3 HB3'.out; rw [HGK.out]; have HB23 : Hid _ := hb3; clear hb3)
        go_ret2
        exact ⟨rfl, HB3.out⟩
      · have HGK : Hid (decide (0 ≤ k.1 ∧ k.1 < 8 ∧ k.2 ≤ mxX) = false) := decide_eq_false h2
        clear h hw1 hb1 hrd hlx hlc hlb hce hcut hbad h0 h1 h2
        go_enter Tryz.func38, Tryz.ntmps38
        go_wp2_with fail
        rw [← HW1.out]
        refine Calls.mono HCUT.out ?_
        rintro e w2 ⟨u2, rfl, hb2⟩
        have hkb2 := hkb w2 hb2
        have HB2 : Hid (Below w.heap.size w w2) := below_next HB1.out hb2
        have HB2' : Hid _ := hb2
        clear hb2
        go_wp2_with (go_at_call 11; refine Calls.mono (HG.out _) ?_; rintro e w3 ⟨rfl, hb3⟩; have HB3 : Hid (Below w.heap.size w w3) := below_next HB2.out hb3; have HB3' : Hid (Below w1.heap.size w1 w3) := below_next HB2'.out hb3; have hkb3 := hkb w3 HB3'.out; rw [HGK.out]; have HB23 : Hid _ := hb3; clear hb3)
        go_ret2
        exact ⟨rfl, HB3.out⟩
    · have hn1 : 281474976710655 < (n : Int) := by unfold mxX at h1; omega
      clear h hw1 hb1 hrd hlx hlc hlb hce hcut hbad h0 h1
      go_enter Tryz.func38, Tryz.ntmps38
      go_wp2_with fail
      rw [← HW1.out]
      refine Calls.mono HCUT.out ?_
      rintro e w2 ⟨u2, rfl, hb2⟩
      have hkb2 := hkb w2 hb2
      have HB2 : Hid (Below w.heap.size w w2) := below_next HB1.out hb2
      have HB2' : Hid _ := hb2
      clear hb2
      go_wp2
      go_ret2
      exact ⟨rfl, HB2.out⟩
theorem rbegin_twice (h : Rx w q v X s) (n : Nat) (k : Fk) (ao : Option Addr) (l c now : Nat) (xs : Seg) (hlx : l = xs.length) (hrd : Rd w ao xs) (hlc : l ≤ c) (hlb : l ≤ 140737488355328) (hn : 1 ≤ n ∧ n ≤ mxX) (hk : goodK k) (hl : 1 ≤ l ∧ l ≤ 1024) (ht : n ∈ s.L.map Xe.n ∨ k ∈ s.L.map Xe.k) :
    Calls Tryz.prog 38 #[.pointer (some ⟨q, 0, none⟩), .int .u64 (n : Int), fv k, .slice ao l c, .int .u64 (now : Int)] w fun e w' => e = .returned (.tuple #[.slice none 0 0, .int .i64 3]) ∧ Below w.heap.size w w' := by
  obtain ⟨w1, hw1⟩ : ∃ w1, w1 = w.alloc (.cells #[.int .i64 k.1, .int .u64 (k.2 : Int)] tFk) := ⟨_, rfl⟩
  have hb1 : Below w.heap.size w w1 := by rw [hw1]; exact alw (Below.refl _ _) _
  have hkb : ∀ u, Below w1.heap.size w1 u → u.cell? ⟨w.heap.size, 0, none⟩ = some (.int .i64 k.1) ∧ u.cell? ⟨w.heap.size, 1, none⟩ = some (.int .u64 (k.2 : Int)) := fun u hu => by
    have h9 := keyBoxF w k u (by rw [← hw1]; have z : w1.heap.size = w.heap.size + 1 := (by rw [hw1]; simp); rw [← z]; exact hu)
    exact ⟨h9.1, h9.2.1⟩
  have hc0 : w1.cell? ⟨q, 0, none⟩ = some (.int .i64 (s.mtu : Int)) := (h.below hb1).cell 0
  obtain ⟨ce, hce, hcut⟩ := rcut_any ao l c xs s.mtu hlx (hrd.below hb1) hlc h.inv.mt.1 h.inv.mt.2 hlb
  have HCUT : Hid _ := hcut
  have HG : Hid (∀ u, Calls Tryz.prog 11 #[.agg #[.int .i64 k.1, .int .u64 (k.2 : Int)]] u fun e w' => e = .returned (.bool (decide (0 ≤ k.1 ∧ k.1 < 8 ∧ k.2 ≤ mxX))) ∧ Below u.heap.size u w') := fun u => rgood_t k u
  have HH : Hid _ := h
  have HB1 : Hid _ := hb1
  have HW1 : Hid (w1 = _) := hw1
  rw [hw1] at hc0
  have hce0 : ce = 0 := hce.2 hl
  subst hce0
  have hn0 : ((n : Int) == 0) = false := by simp; omega
  have hn1 : ¬ 281474976710655 < (n : Int) := by have := hn.2; unfold mxX at this; omega
  have HGK : Hid (decide (0 ≤ k.1 ∧ k.1 < 8 ∧ k.2 ≤ mxX) = true) := decide_eq_true hk
  by_cases hk2 : k ∈ s.L.map Xe.k
  · have HT : Hid _ := hk2
    clear h hw1 hb1 hrd hlx hlc hlb hce hcut hn hk hl ht hk2
    go_enter Tryz.func38, Tryz.ntmps38
    go_wp2_with fail
    rw [← HW1.out]
    refine Calls.mono HCUT.out ?_
    rintro e w2 ⟨u2, rfl, hb2⟩
    have hkb2 := hkb w2 hb2
    have HB2 : Hid (Below w.heap.size w w2) := below_next HB1.out hb2
    have HB2' : Hid _ := hb2
    clear hb2
    go_wp2_with (first | (go_at_call 11; refine Calls.mono (HG.out _) ?_; rintro e w3 ⟨rfl, hb3⟩; have HB3 : Hid (Below w.heap.size w w3) := below_next HB2.out hb3; have HB3' : Hid (Below w1.heap.size w1 w3) := below_next HB2'.out hb3; have hkb3 := hkb w3 HB3'.out; rw [HGK.out]; have HB23 : Hid _ := hb3; clear hb3) | (go_at_call 59; refine Calls.mono (rof_in (HH.out.below HB3.out) k HT.out) ?_; rintro e w4 ⟨j, rfl, hb4⟩; have hj0 : (0 : Int) ≤ (j : Int) := (by omega); have HB4 : Hid (Below w.heap.size w w4) := below_next HB3.out hb4; clear hb4))
    go_ret2
    exact ⟨rfl, HB4.out⟩
  · have HT : Hid (n ∈ s.L.map Xe.n) := ht.elim id (fun h9 => absurd h9 hk2)
    have HNO : Hid _ := hk2
    clear h hw1 hb1 hrd hlx hlc hlb hce hcut hn hk hl ht hk2
    go_enter Tryz.func38, Tryz.ntmps38
    go_wp2_with fail
    rw [← HW1.out]
    refine Calls.mono HCUT.out ?_
    rintro e w2 ⟨u2, rfl, hb2⟩
    have hkb2 := hkb w2 hb2
    have HB2 : Hid (Below w.heap.size w w2) := below_next HB1.out hb2
    have HB2' : Hid _ := hb2
    clear hb2
    go_wp2_with (first | (go_at_call 11; refine Calls.mono (HG.out _) ?_; rintro e w3 ⟨rfl, hb3⟩; have HB3 : Hid (Below w.heap.size w w3) := below_next HB2.out hb3; have HB3' : Hid (Below w1.heap.size w1 w3) := below_next HB2'.out hb3; have hkb3 := hkb w3 HB3'.out; rw [HGK.out]; have HB23 : Hid _ := hb3; clear hb3) | (go_at_call 59; refine Calls.mono (rof_no (HH.out.below HB3.out) k HNO.out) ?_; rintro e w4 ⟨rfl, hb4⟩; have HB4 : Hid (Below w.heap.size w w4) := below_next HB3.out hb4; have HB4' : Hid (Below w1.heap.size w1 w4) := below_next HB3'.out hb4; have HB24 : Hid (Below w2.heap.size w2 w4) := below_next HB23.out hb4; clear hb4) | (go_at_call 60; refine Calls.mono (rnum_in (HH.out.below HB4.out) n HT.out) ?_; rintro e w5 ⟨j, rfl, hq⟩; have hq := hq.symm; subst hq; have hj0 : (0 : Int) ≤ (j : Int) := (by omega)))
    go_ret2
    exact ⟨rfl, HB4.out⟩
theorem rbegin_full (h : Rx w q v X s) (n : Nat) (k : Fk) (ao : Option Addr) (l c now : Nat) (xs : Seg) (hlx : l = xs.length) (hrd : Rd w ao xs) (hlc : l ≤ c) (hlb : l ≤ 140737488355328) (hn : 1 ≤ n ∧ n ≤ mxX) (hk : goodK k) (hl : 1 ≤ l ∧ l ≤ 1024) (ht : n ∉ s.L.map Xe.n ∧ k ∉ s.L.map Xe.k) (hf : 64 ≤ s.L.length) :
    Calls Tryz.prog 38 #[.pointer (some ⟨q, 0, none⟩), .int .u64 (n : Int), fv k, .slice ao l c, .int .u64 (now : Int)] w fun e w' => e = .returned (.tuple #[.slice none 0 0, .int .i64 2]) ∧ Below w.heap.size w w' := by
  obtain ⟨w1, hw1⟩ : ∃ w1, w1 = w.alloc (.cells #[.int .i64 k.1, .int .u64 (k.2 : Int)] tFk) := ⟨_, rfl⟩
  have hb1 : Below w.heap.size w w1 := by rw [hw1]; exact alw (Below.refl _ _) _
  have hkb : ∀ u, Below w1.heap.size w1 u → u.cell? ⟨w.heap.size, 0, none⟩ = some (.int .i64 k.1) ∧ u.cell? ⟨w.heap.size, 1, none⟩ = some (.int .u64 (k.2 : Int)) := fun u hu => by
    have h9 := keyBoxF w k u (by rw [← hw1]; have z : w1.heap.size = w.heap.size + 1 := (by rw [hw1]; simp); rw [← z]; exact hu)
    exact ⟨h9.1, h9.2.1⟩
  have hc0 : w1.cell? ⟨q, 0, none⟩ = some (.int .i64 (s.mtu : Int)) := (h.below hb1).cell 0
  obtain ⟨ce, hce, hcut⟩ := rcut_any ao l c xs s.mtu hlx (hrd.below hb1) hlc h.inv.mt.1 h.inv.mt.2 hlb
  have HCUT : Hid _ := hcut
  have HG : Hid (∀ u, Calls Tryz.prog 11 #[.agg #[.int .i64 k.1, .int .u64 (k.2 : Int)]] u fun e w' => e = .returned (.bool (decide (0 ≤ k.1 ∧ k.1 < 8 ∧ k.2 ≤ mxX))) ∧ Below u.heap.size u w') := fun u => rgood_t k u
  have HH : Hid _ := h
  have HB1 : Hid _ := hb1
  have HW1 : Hid (w1 = _) := hw1
  rw [hw1] at hc0
  have hce0 : ce = 0 := hce.2 hl
  subst hce0
  have hn0 : ((n : Int) == 0) = false := by simp; omega
  have hn1 : ¬ 281474976710655 < (n : Int) := by have := hn.2; unfold mxX at this; omega
  have HGK : Hid (decide (0 ≤ k.1 ∧ k.1 < 8 ∧ k.2 ≤ mxX) = true) := decide_eq_true hk
  have HT : Hid _ := ht
  have HF0 : Hid (s.L.length = 64) := by have := h.inv.len; unfold Hid; omega
  obtain ⟨a1, c1, hv1, -⟩ := OwnG.val h.row
  obtain ⟨n1, hn1'⟩ : ∃ n1, n1 = s.L.length := ⟨_, rfl⟩
  rw [← hn1'] at hv1
  have HV1 : Hid _ := hv1
  have HN1 : Hid _ := hn1'
  have HNO : Hid _ := ht.2
  have hn64 : n1 = 64 := by rw [hn1']; exact HF0.out
  subst hn64
  clear h hw1 hb1 hrd hlx hlc hlb hce hcut hn hk hl ht hf hv1 hn1'
  go_enter Tryz.func38, Tryz.ntmps38
  go_wp2_with fail
  rw [← HW1.out]
  refine Calls.mono HCUT.out ?_
  rintro e w2 ⟨u2, rfl, hb2⟩
  have hkb2 := hkb w2 hb2
  have HB2 : Hid (Below w.heap.size w w2) := below_next HB1.out hb2
  have HB2' : Hid _ := hb2
  clear hb2
  go_wp2_with (first | (go_at_call 11; refine Calls.mono (HG.out _) ?_; rintro e w3 ⟨rfl, hb3⟩; have HB3 : Hid (Below w.heap.size w w3) := below_next HB2.out hb3; have HB3' : Hid (Below w1.heap.size w1 w3) := below_next HB2'.out hb3; have hkb3 := hkb w3 HB3'.out; rw [HGK.out]; have HB23 : Hid _ := hb3; clear hb3) | (go_at_call 59; refine Calls.mono (rof_no (HH.out.below HB3.out) k HNO.out) ?_; rintro e w4 ⟨rfl, hb4⟩; have HB4 : Hid (Below w.heap.size w w4) := below_next HB3.out hb4; have HB4' : Hid (Below w1.heap.size w1 w4) := below_next HB3'.out hb4; have HB24 : Hid (Below w2.heap.size w2 w4) := below_next HB23.out hb4; clear hb4) | (go_at_call 60; refine Calls.mono (rnum_no (HH.out.below HB4.out) n HT.out.1) ?_; rintro e w5 ⟨rfl, hq⟩; have hq := hq.symm; subst hq; have hc8 : w4.cell? ⟨q, 8, none⟩ = some v := (HH.out.below HB4.out).cell 8; rw [HV1.out] at hc8) )
  go_ret2
  exact ⟨rfl, HB4.out⟩
end
end Go.Proofs.YtiedgcanndgmoaaGreatDoor
namespace Go.Proofs.YtiedgcanndgmoaaGreatDoor
set_option linter.unusedVariables false
set_option linter.unusedSimpArgs false
open Go.RowKit Go.Maps
section
variable {w w' : World} {q : Nat} {v : Value} {X : Value × Value × Value × Value} {s : Xs}
set_option maxRecDepth 20000
set_option maxHeartbeats 3200000
theorem Rx.setRowT (h : Rx w q v X s) (hc : Chg (fun b => v.ownBlock = some b) w w') {t : Xs} (e1 : t.mtu = s.mtu) (e2 : t.ack = s.ack) (e3 : t.ep = s.ep) (e4 : t.clk = s.clk) {v' : Value} (hr : OwnG KRe w' 0 v' t.L) (hv : ∀ b, v'.ownBlock = some b → v.ownBlock = some b ∨ w.heap.size ≤ b) (hi : XInv t) : Rx (w'.setCell ⟨q, 8, none⟩ v') q v' X t ∧ RxStp w (w'.setCell ⟨q, 8, none⟩ v') q v v' := by
  have hb := (hc.block q h.ql (fun e => h.qv q e rfl)).trans h.blk
  have hq : ∀ b, v'.ownBlock = some b → b ≠ q := fun b hb e => by
    rcases hv b hb with h1 | h1
    · exact h.qv b h1 e
    · have := h.ql; omega
  refine ⟨⟨?_, hr.kept (fun b hb => heap_setCell_other w' ⟨q, 8, none⟩ b _ (hq b hb)), hi⟩, ?_, ?_⟩
  · have h9 := heap_setCell_same w' q 8 (cellsR s X v) tRx v' hb
    unfold cellsR
    rw [e1, e2, e3, e4]
    exact h9
  · exact (hc.mono (fun b e => .inr e)).trans (Chg.of_grown (F := fun b => b = q) (gset1 w' q 8 v') (fun b e => (Option.some.inj e).symm)) (fun i e => .inl (.inl e))
  · rintro b (rfl | hb)
    · exact .inl (.inl rfl)
    · rcases hv b hb with h1 | h1
      · exact .inl (.inr h1)
      · exact .inr h1
/-- what a Begin that is not refused leaves -/
structure RBeg (w w' : World) (q : Nat) (v v' : Value) (X : Value × Value × Value × Value) (s : Xs) (n : Nat) (k : Fk) (now : Nat) (xs : Seg) (u : Value) (E : List Dc) : Prop where
  row : OwnG KBu w' w.heap.size u (uns s.ep n E.length E)
  txt : Fml w' w.heap.size E (segN xs s.mtu (cutN xs.length s.mtu))
  st : Rx w' q v' X { s with clk := max s.clk (min now mxX), beg := s.beg + 1, L := s.L ++ [begX { s with clk := max s.clk (min now mxX) } n k] }
  stp : RxStp w w' q v v'
theorem rbegin_t (h : Rx w q v X s) (n : Nat) (k : Fk) (ao : Option Addr) (l c now : Nat) (xs : Seg) (hlx : l = xs.length) (hrd : Rd w ao xs) (hlc : l ≤ c) (hlb : l ≤ 140737488355328) (hn : 1 ≤ n ∧ n ≤ mxX) (hk : goodK k) (hl : 1 ≤ l ∧ l ≤ 1024) (ht : n ∉ s.L.map Xe.n ∧ k ∉ s.L.map Xe.k) (hf : s.L.length < 64) :
    Calls Tryz.prog 38 #[.pointer (some ⟨q, 0, none⟩), .int .u64 (n : Int), fv k, .slice ao l c, .int .u64 (now : Int)] w fun e w' => ∃ u v' E, e = .returned (.tuple #[u, .int .i64 0]) ∧ RBeg w w' q v v' X s n k now xs u E := by
  obtain ⟨w1, hw1⟩ : ∃ w1, w1 = w.alloc (.cells #[.int .i64 k.1, .int .u64 (k.2 : Int)] tFk) := ⟨_, rfl⟩
  have hb1 : Below w.heap.size w w1 := by rw [hw1]; exact alw (Below.refl _ _) _
  have hkb : ∀ u, Below w1.heap.size w1 u → u.cell? ⟨w.heap.size, 0, none⟩ = some (.int .i64 k.1) ∧ u.cell? ⟨w.heap.size, 1, none⟩ = some (.int .u64 (k.2 : Int)) := fun u hu => by
    have h9 := keyBoxF w k u (by rw [← hw1]; have z : w1.heap.size = w.heap.size + 1 := (by rw [hw1]; simp); rw [← z]; exact hu)
    exact ⟨h9.1, h9.2.1⟩
  have hc0 : w1.cell? ⟨q, 0, none⟩ = some (.int .i64 (s.mtu : Int)) := (h.below hb1).cell 0
  have hmt := h.inv.mt
  have hcut := rcut_t ao l c xs s.mtu hlx (hrd.below hb1) hlc (by omega) hmt.2 hl.1 hl.2 (by omega)
  have HCUT : Hid _ := hcut
  have HG : Hid (∀ u, Calls Tryz.prog 11 #[.agg #[.int .i64 k.1, .int .u64 (k.2 : Int)]] u fun e w' => e = .returned (.bool (decide (0 ≤ k.1 ∧ k.1 < 8 ∧ k.2 ≤ mxX))) ∧ Below u.heap.size u w') := fun u => rgood_t k u
  have HH : Hid _ := h
  have HB1 : Hid _ := hb1
  have HW1 : Hid (w1 = _) := hw1
  rw [hw1] at hc0
  have hn0 : ((n : Int) == 0) = false := by simp; omega
  have hn1 : ¬ 281474976710655 < (n : Int) := by have := hn.2; unfold mxX at this; omega
  have HGK : Hid (decide (0 ≤ k.1 ∧ k.1 < 8 ∧ k.2 ≤ mxX) = true) := decide_eq_true hk
  have HT : Hid _ := ht
  have HF0 : Hid (s.L.length < 64) := hf
  have HLX : Hid _ := hlx
  have HMT : Hid _ := hmt
  have HL : Hid _ := hl
  have HNN : Hid _ := hn
  have HK : Hid _ := hk
  obtain ⟨a1, c1, hv1, -⟩ := OwnG.val h.row
  obtain ⟨n1, hn1'⟩ : ∃ n1, n1 = s.L.length := ⟨_, rfl⟩
  rw [← hn1'] at hv1
  have HV1 : Hid _ := hv1
  have HN1 : Hid _ := hn1'
  have HNO : Hid _ := ht.2
  have hn64 : ((n1 : Int) == 64) = false := by simp; omega
  clear h hw1 hb1 hrd hlx hlc hlb hcut hn hk hl ht hf hmt hv1 hn1'
  go_enter Tryz.func38, Tryz.ntmps38
  go_wp2_with fail
  rw [← HW1.out]
  refine Calls.mono HCUT.out ?_
  rintro e w2 ⟨u2, E, rfl, hls, hb2⟩
  have HLS : Hid _ := hls
  clear hls
  have hkb2 := hkb w2 hb2
  have HB2 : Hid (Below w.heap.size w w2) := below_next HB1.out hb2
  have HB2' : Hid _ := hb2
  clear hb2
  go_wp2_with (first | (go_at_call 11; refine Calls.mono (HG.out _) ?_; rintro e w3 ⟨rfl, hb3⟩; have HB3 : Hid (Below w.heap.size w w3) := below_next HB2.out hb3; have HB3' : Hid (Below w1.heap.size w1 w3) := below_next HB2'.out hb3; have hkb3 := hkb w3 HB3'.out; rw [HGK.out]; have HB23 : Hid _ := hb3; clear hb3) | (go_at_call 59; refine Calls.mono (rof_no (HH.out.below HB3.out) k HNO.out) ?_; rintro e w4 ⟨rfl, hb4⟩; have HB4 : Hid (Below w.heap.size w w4) := below_next HB3.out hb4; have HB4' : Hid (Below w1.heap.size w1 w4) := below_next HB3'.out hb4; have HB24 : Hid (Below w2.heap.size w2 w4) := below_next HB23.out hb4; clear hb4) | (go_at_call 60; refine Calls.mono (rnum_no (HH.out.below HB4.out) n HT.out.1) ?_; rintro e w5 ⟨rfl, hq⟩; have hq := hq.symm; subst hq; have hc8 : w4.cell? ⟨q, 8, none⟩ = some v := (HH.out.below HB4.out).cell 8; rw [HV1.out] at hc8) | (go_at_call 61; refine Calls.mono (ron_t (HH.out.below HB4.out) now) ?_; rintro e w5 ⟨rfl, hR5, hst5⟩; have HR5a : Hid _ := hR5; have HST5a : Hid _ := hst5; clear hR5 hst5))
  have hR5 := HR5a.out
  have hst5 := HST5a.out
  clear HR5a HST5a hc8
  obtain ⟨C, hC⟩ : ∃ C, C = max s.clk (min now mxX) := ⟨_, rfl⟩
  rw [← hC] at hR5
  have hcl : C ≤ mxX := hR5.inv.c
  have hak := hR5.inv.ak
  have hsz4 := HB4'.out.size
  have hkb4 := hkb w4 HB4'.out
  have hfo : ∀ b, w.heap.size ≤ b → ¬ footR q v b := fun b hb hf => by have := HH.out.lt hf; omega
  have hz1 : w1.heap.size = w.heap.size + 1 := by rw [HW1.out]; simp
  have hkx5 : w5.heap[w.heap.size]? = w4.heap[w.heap.size]? := hst5.chg.block w.heap.size (by omega) (hfo _ (Nat.le_refl _))
  have hk5 : ∀ u, Below w5.heap.size w5 u → (u.cell? ⟨w.heap.size, 0, none⟩ = some (.int .i64 k.1) ∧ u.cell? ⟨w.heap.size, 1, none⟩ = some (.int .u64 (k.2 : Int)) ∧ u.cell? ⟨q, 7, none⟩ = some (.int .u64 (C : Int)) ∧ u.cell? ⟨q, 1, none⟩ = some (.int .u64 (s.ack : Int))) := fun u hu => by
    have h9 : u.heap[w.heap.size]? = w4.heap[w.heap.size]? := (hu.block _ (by have := hst5.chg.size; omega)).trans hkx5
    exact ⟨(World.cell?_of_block h9).trans hkb4.1, (World.cell?_of_block h9).trans hkb4.2, (hR5.below hu).cell 7, (hR5.below hu).cell 1⟩
  have HLT : Hid (∀ u, Calls Tryz.prog 62 #[.int .u64 (C : Int), .int .u64 (s.ack : Int)] u fun e w' => e = .returned (.int .u64 ((min (C + s.ack) mxX : Nat) : Int)) ∧ w' = u) := fun u => rlater_t C s.ack hcl hak.2 u
  have HC1 : Hid (∀ u, Below w5.heap.size w5 u → u.cell? ⟨q, 8, none⟩ = some (.slice a1 n1 c1)) := fun u hu => by
    have h9 := (hR5.below hu).cell 8
    rw [HV1.out] at h9
    exact h9
  have HOW : Hid (∀ u, Below w5.heap.size w5 u → OwnG KRe u 0 (.slice a1 n1 c1) s.L) := fun u hu => by
    have h9 := (hR5.below hu).row
    rw [HV1.out] at h9
    exact h9
  have HQ : Hid (∀ u u', Below w5.heap.size w5 u → u.grownBy u' (Value.slice a1 n1 c1).ownBlock → u'.cell? ⟨q, 8, none⟩ = some (.slice a1 n1 c1) ∧ u'.frozen? ⟨q, 8, none⟩ = false) := fun u u' hu hg => by
    have h9 := hR5.below hu
    rw [HV1.out] at h9
    have h8 : u'.heap[q]? = u.heap[q]? := hg.block q h9.ql (fun e => h9.qv q e.symm rfl)
    exact ⟨(World.cell?_of_block h8).trans (h9.cell 8), (World.frozen?_of_block h8).trans (h9.frz 8)⟩
  obtain ⟨ov, hov⟩ : ∃ ov, ov = min (C + s.ack) mxX := ⟨_, rfl⟩
  rw [← hov] at HLT
  have HOV : Hid _ := hov
  have HR5 : Hid _ := hR5
  have HST5 : Hid (RxStp w w5 q v v) := (RxStp.below HB4.out q v).trans hst5
  have HCC : Hid _ := hC
  have HB25 : Hid (∀ b, w.heap.size ≤ b → b < w4.heap.size → w5.heap[b]? = w4.heap[b]?) := fun b h1 h2 => hst5.chg.block b h2 (hfo b h1)
  have HXN : Hid (∀ y : Xe, y.n = n → y.k = k → y.ov = ov → xev y = [.int .u64 (n : Int), .int .i64 k.1, .int .u64 (k.2 : Int), .int .u64 (ov : Int)]) := fun y h1 h2 h3 => by simp [xev, h1, h2, h3]
  obtain ⟨y, hy1, hy2, hy3, hy⟩ : ∃ y : Xe, y.n = n ∧ y.k = k ∧ y.ov = ov ∧ y = begX { s with clk := C } n k := ⟨begX { s with clk := C } n k, rfl, rfl, by rw [hov]; rfl, rfl⟩
  have HY : Hid (xev y = _) := HXN.out y hy1 hy2 hy3
  have HYE : Hid _ := hy
  have HSZ45 : Hid (w4.heap.size ≤ w5.heap.size) := hst5.chg.size
  have hn63 : n1 ≤ 63 := by have := HF0.out; have := HN1.out; omega
  have HK5 : Hid _ := hk5
  clear hk5 hkb hkb2 hkb3 hc0 hC hcl hak hsz4 hkb4 hfo hz1 hkx5 hR5 hst5 hov hy1 hy2 hy3 hy HXN
  refine wp_region_noPanic ?_
  refine wp_region_late_drew (S := (fun u => Below w5.heap.size w5 u)) (X := [19, 20, 21, 22]) (by kernel_rfl) (by with_reducible first | exact (Below.refl _ _).drew | exact alw (Below.refl _ _).drew _ | exact alw hHeld _ | exact (alw (Below.refl _ _) _).drew | assumption) (fun hHeld => ?_)
  refine take_atA (i := 0) 58 (v := ?_) rfl rfl (by kernel_rfl) (by kernel_rfl) (by kernel_rfl) (by decide) (fun _ _ _ h => h) (by rfl) ?_ hHeld ?_
  rotate_left
  · (intro w; go_simp; try with_reducible rfl)
  simp only [pS]
  refine take_atA (i := 1) 59 (v := ?_) rfl rfl (by kernel_rfl) (by kernel_rfl) (by kernel_rfl) (by decide) (fun _ _ _ h => h) (by rfl) ?_ hHeld ?_
  rotate_left
  · (intro w; go_simp; try with_reducible rfl)
  simp only [pS]
  refine take_atA (i := 2) 60 (v := ?_) rfl rfl (by kernel_rfl) (by kernel_rfl) (by kernel_rfl) (by decide) (fun _ _ _ h => h) (by rfl) ?_ hHeld ?_
  rotate_left
  · (intro w; go_simp; try with_reducible rfl)
  simp only [pS]
  refine take_atA (i := 3) 61 (v := ?_) rfl rfl (by kernel_rfl) (by kernel_rfl) (by kernel_rfl) (by decide) (fun _ _ _ h => h) (by rfl) ?_ hHeld ?_
  rotate_left
  · (intro w; go_simp; try with_reducible rfl)
  simp only [pS]
  refine take_atL (i := 4) 62 (v := .slice a1 n1 c1) rfl rfl (by kernel_rfl) (by kernel_rfl) (by kernel_rfl) (by kernel_rfl) (fun _ _ _ h => h) (by rfl) ?_ hHeld ?_
  · (intro w hSw; have hc9 := HC1.out _ hSw; go_simp; try with_reducible rfl)
  simp only [pS]
  refine take_atA (i := 5) 63 (v := ?_) rfl rfl (by kernel_rfl) (by kernel_rfl) (by kernel_rfl) (by decide) (fun _ _ _ h => h) (by rfl) ?_ hHeld ?_
  rotate_left
  · (intro w; go_simp; try with_reducible rfl)
  simp only [pS]
  refine take_atL (i := 6) 64 (v := .agg #[.int .i64 k.1, .int .u64 (k.2 : Int)]) rfl rfl (by kernel_rfl) (by kernel_rfl) (by kernel_rfl) (by kernel_rfl) (fun _ _ _ h => h) (by rfl) ?_ hHeld ?_
  · (intro w hSw; have hc9 := HK5.out _ hSw; go_simp; try with_reducible rfl)
  simp only [pS]
  refine take_atA (i := 7) 65 (v := ?_) rfl rfl (by kernel_rfl) (by kernel_rfl) (by kernel_rfl) (by decide) (fun _ _ _ h => h) (by rfl) ?_ hHeld ?_
  rotate_left
  · (intro w; go_simp; try with_reducible rfl)
  simp only [pS]
  refine take_atA (i := 8) 66 (v := ?_) rfl rfl (by kernel_rfl) (by kernel_rfl) (by kernel_rfl) (by decide) (fun _ _ _ h => h) (by rfl) ?_ hHeld ?_
  rotate_left
  · (intro w; go_simp; try with_reducible rfl)
  simp only [pS]
  refine take_atA (i := 9) 67 (v := ?_) rfl rfl (by kernel_rfl) (by kernel_rfl) (by kernel_rfl) (by decide) (fun _ _ _ h => h) (by rfl) ?_ hHeld ?_
  rotate_left
  · (intro w; go_simp; try with_reducible rfl)
  simp only [pS]
  refine take_atL (i := 10) 68 (v := .int .u64 (C : Int)) rfl rfl (by kernel_rfl) (by kernel_rfl) (by kernel_rfl) (by kernel_rfl) (fun _ _ _ h => h) (by rfl) ?_ hHeld ?_
  · (intro w hSw; have hc9 := HK5.out _ hSw; go_simp; try with_reducible rfl)
  simp only [pS]
  refine take_atA (i := 11) 69 (v := ?_) rfl rfl (by kernel_rfl) (by kernel_rfl) (by kernel_rfl) (by decide) (fun _ _ _ h => h) (by rfl) ?_ hHeld ?_
  rotate_left
  · (intro w; go_simp; try with_reducible rfl)
  simp only [pS]
  refine take_atA (i := 12) 70 (v := ?_) rfl rfl (by kernel_rfl) (by kernel_rfl) (by kernel_rfl) (by decide) (fun _ _ _ h => h) (by rfl) ?_ hHeld ?_
  rotate_left
  · (intro w; go_simp; try with_reducible rfl)
  simp only [pS]
  refine take_atA (i := 13) 71 (v := ?_) rfl rfl (by kernel_rfl) (by kernel_rfl) (by kernel_rfl) (by decide) (fun _ _ _ h => h) (by rfl) ?_ hHeld ?_
  rotate_left
  · (intro w; go_simp; try with_reducible rfl)
  simp only [pS]
  refine take_atA (i := 14) 72 (v := ?_) rfl rfl (by kernel_rfl) (by kernel_rfl) (by kernel_rfl) (by decide) (fun _ _ _ h => h) (by rfl) ?_ hHeld ?_
  rotate_left
  · (intro w; go_simp; try with_reducible rfl)
  simp only [pS]
  refine take_atL (i := 15) 73 (v := .int .u64 (s.ack : Int)) rfl rfl (by kernel_rfl) (by kernel_rfl) (by kernel_rfl) (by kernel_rfl) (fun _ _ _ h => h) (by rfl) ?_ hHeld ?_
  · (intro w hSw; have hc9 := HK5.out _ hSw; go_simp; try with_reducible rfl)
  simp only [pS]
  refine run_atL (i := 16) rfl (by kernel_rfl) (by rfl) (fun K hK => ?_)
  simp only [List.getElem_toArray, List.getElem_cons_zero, List.getElem_cons_succ]
  go_simp
  first | (go_at_call 62; refine Calls.mono (HLT.out _) ?_; rintro e9 u9 ⟨rfl, hq⟩; have hq := hq.symm; subst hq) | (refine wpo_appG1 (K := KRe) _ _ rfl 0 (.slice a1 n1 c1) s.L y n1 HN1.out ⟨w5.heap.size, 0, none⟩ 1 rfl (HOW.out _ (alw (Below.refl _ _).drew _)) rfl (rdG_lit (K := KRe) (heap_alloc_new _ _) (by simp [Kd.flat, HY.out])) (by show (n1 + 1) * 32 ≤ _; omega) (by simp only [maxLen]; omega) (Nat.zero_le _) ?_; intro g6 c6 w6 hown6 hg6 hat6; obtain ⟨hcq, hfq⟩ := HQ.out _ _ (alw (Below.refl _ _).drew _) hg6; have HO6 : Hid _ := hown6; have HG6 : Hid _ := hg6; have HT6 : Hid _ := hat6; clear hown6 hg6 hat6)
  go_wp2_with fail
  refine hK.out _ _ (by with_reducible first | exact (Below.refl _ _).drew | exact alw (Below.refl _ _).drew _ | exact alw hHeld _ | exact (alw (Below.refl _ _) _).drew | assumption) ?_
  clear hK K
  intro hHeld2
  clear hHeld
  have hHeld := hHeld2
  clear hHeld2
  try simp only [pS]
  refine take_atA (i := 17) 75 (v := ?_) rfl rfl (by kernel_rfl) (by kernel_rfl) (by kernel_rfl) (by decide) (fun _ _ _ h => h) (by rfl) ?_ hHeld ?_
  rotate_left
  · (intro w; go_simp; try with_reducible rfl)
  simp only [pS]
  refine run_atL (i := 18) rfl (by kernel_rfl) (by rfl) (fun K hK => ?_)
  simp only [List.getElem_toArray, List.getElem_cons_zero, List.getElem_cons_succ]
  go_simp
  go_wp2_with fail
  refine hK.out _ _ (by with_reducible first | exact (Below.refl _ _).drew | exact alw (Below.refl _ _).drew _ | exact alw hHeld _ | exact (alw (Below.refl _ _) _).drew | assumption) ?_
  clear hK K
  intro hHeld2
  clear hHeld
  have hHeld := hHeld2
  clear hHeld2
  try simp only [pS]
  refine run_atLate (i := 19) rfl (by kernel_rfl) (by decide) (by rfl) (fun K hK => ?_)
  simp only [List.getElem_toArray, List.getElem_cons_zero, List.getElem_cons_succ]
  first | (go_at_call 62; refine Calls.mono (HLT.out _) ?_; rintro e9 u9 ⟨rfl, hq⟩; have hq := hq.symm; subst hq) | (refine wpo_appG1 (K := KRe) _ _ rfl 0 (.slice a1 n1 c1) s.L y n1 HN1.out ⟨w5.heap.size, 0, none⟩ 1 rfl (HOW.out _ (alw (Below.refl _ _).drew _)) rfl (rdG_lit (K := KRe) (heap_alloc_new _ _) (by simp [Kd.flat, HY.out])) (by show (n1 + 1) * 32 ≤ _; omega) (by simp only [maxLen]; omega) (Nat.zero_le _) ?_; intro g6 c6 w6 hown6 hg6 hat6; obtain ⟨hcq, hfq⟩ := HQ.out _ _ (alw (Below.refl _ _).drew _) hg6; have HO6 : Hid _ := hown6; have HG6 : Hid _ := hg6; have HT6 : Hid _ := hat6; clear hown6 hg6 hat6)
  refine hK.out _ _ ?_
  clear hK K
  try simp only [pS]
  refine val_atLate (i := 20) 78 (v := ?_) rfl rfl (by kernel_rfl) (by decide) (by rfl) ?_ ?_
  rotate_left
  · (go_simp; try with_reducible rfl)
  simp only [pS]
  refine val_atLate (i := 21) 79 (v := ?_) rfl rfl (by kernel_rfl) (by decide) (by rfl) ?_ ?_
  rotate_left
  · (go_simp; try with_reducible rfl)
  simp only [pS]
  refine run_atLate (i := 22) rfl (by kernel_rfl) (by decide) (by rfl) (fun K hK => ?_)
  simp only [List.getElem_toArray, List.getElem_cons_zero, List.getElem_cons_succ]
  go_simp
  go_wp2_with fail
  refine hK.out _ _ ?_
  clear hK K
  try simp only [pS]
  refine doneL (by kernel_rfl) ?_ _
  refine NoPanic.normal ?_
  have hO6 := HO6.out
  have hcw : Chg (fun b => v.ownBlock = some b) w5 w6 := by
    rw [HV1.out]
    exact (Chg.of_below (alw (Below.refl _ _).drew _)).trans (Chg.of_grown HG6.out (F := fun b => (Value.slice a1 n1 c1).ownBlock = some b) (fun b e => e)) (fun b e => .inl e)
  have hinv : XInv { s with clk := C, beg := s.beg + 1, L := s.L ++ [y] } := by
    have h9 := XInv.begin HR5.out.inv n k HNN.out HK.out HT.out.1 HT.out.2 HF0.out
    rw [HYE.out]
    exact h9
  obtain ⟨hR7, hst7⟩ := HR5.out.setRowT hcw (t := { s with clk := C, beg := s.beg + 1, L := s.L ++ [y] }) rfl rfl rfl rfl (v' := .slice (some ⟨g6, 0, none⟩) (n1 + 1) c6) hO6 (fun b e => by
    cases e
    rw [HV1.out]
    rcases HT6.out with h9 | h9
    · exact .inl h9
    · exact .inr (Nat.le_trans (alw (Below.refl _ _).drew _).size h9)) hinv
  obtain ⟨w7, hw7⟩ : ∃ w7, w7 = w6.setCell ⟨q, 8, none⟩ (.slice (some ⟨g6, 0, none⟩) (n1 + 1) c6) := ⟨_, rfl⟩
  rw [← hw7] at hR7 hst7
  have hep : w7.cell? ⟨q, 6, none⟩ = some (.int .u64 (s.ep : Int)) := hR7.cell 6
  have hfo : ∀ b, w.heap.size ≤ b → ¬ footR q v b := fun b hb hf => by have := HH.out.lt hf; omega
  have hls7 := HLS.out.kept (w' := w7) (fun b hb => by
    have h1 := HLS.out.lt hb
    have h0 := HB1.out.size
    have h2 := HB24.out.block b h1.2
    have h3 := HB25.out b (by omega) (Nat.lt_of_lt_of_le h1.2 HB24.out.size)
    have h4 := hst7.chg.block b (Nat.lt_of_lt_of_le h1.2 (Nat.le_trans HB24.out.size HSZ45.out)) (hfo b (by omega))
    exact h4.trans (h3.trans h2))
  have hEl : E.length = cutN l s.mtu := by have h9 := HLS.out.len; rw [segN_len] at h9; exact h9
  have hm0 : 0 < s.mtu := by have := HMT.out.1; omega
  have hE1 : 0 < E.length := by
    rw [hEl]
    unfold cutN
    have := HL.out.1
    exact Nat.div_pos (by omega) hm0
  have hE64 : E.length ≤ 64 := by
    rw [hEl]
    unfold cutN
    have h1 := HMT.out.1
    have h2 := HL.out.2
    refine Nat.le_of_lt_succ ((Nat.div_lt_iff_lt_mul hm0).2 ?_)
    omega
  obtain ⟨g, cs, hvs, -, -, -, -⟩ := HLS.out.row.one hE1
  obtain ⟨m, hm⟩ : ∃ m, m = E.length := ⟨_, rfl⟩
  rw [← hm] at hvs
  subst hvs
  have HUN : Hid _ := runits_t s.ep n g m cs w1.heap.size E hm (by omega) hls7.row
  have HLS7 : Hid _ := hls7
  have HR7 : Hid _ := hR7
  have HST7 : Hid (RxStp w w7 q v _) := HST5.out.trans hst7
  have HME : Hid _ := hm
  have HSZ1 : Hid (w.heap.size ≤ w1.heap.size) := HB1.out.size
  rw [← hw7]
  have HW7 : Hid _ := hw7
  clear hO6 hcw hinv hR7 hst7 hfo hls7 hEl hm0 hE1 hE64 hm hw7
  go_wp2_with (go_at_call 63; refine Calls.mono HUN.out ?_; rintro e w8 ⟨u8, rfl, hown8, hb8⟩; have HO8 : Hid _ := hown8; have HB8 : Hid _ := hb8; clear hown8 hb8)
  go_ret2
  have hsz7 : w.heap.size ≤ w7.heap.size := HST7.out.chg.size
  refine ⟨u8, _, E, rfl, ⟨?_, ?_, ?_, HST7.out.trans (RxStp.below HB8.out q _)⟩⟩
  · rw [← HME.out]
    exact OwnG.base HO8.out hsz7
  · rw [← HLX.out]
    exact ((HLS7.out.below HB8.out).base HSZ1.out).fml
  · have h9 := HR7.out.below HB8.out
    rw [HYE.out, HCC.out] at h9
    rw [← HCC.out]
    rw [← HCC.out] at h9
    exact h9
end
end Go.Proofs.YtiedgcanndgmoaaGreatDoor
