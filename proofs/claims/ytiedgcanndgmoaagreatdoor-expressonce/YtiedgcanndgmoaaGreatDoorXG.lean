import Derived.Test.YtiedgcanndgmoaaGreatDoorYA
namespace Go.Proofs.YtiedgcanndgmoaaGreatDoor
set_option linter.unusedVariables false
set_option linter.unusedSimpArgs false
open Go.RowKit Go.Maps
/-- rows of keys -/
abbrev KKy : Kd Fk := { t := tFk, ts := 59, k := 2, by_ := 16, f := fun s => [.int .i64 s.1, .int .u64 (s.2 : Int)], z := .agg #[.int .i64 0, .int .u64 0], hk := fun _ => rfl, h1 := (fun d u hu => by simp at hu; rcases hu with rfl | rfl <;> rfl), hpos := by decide, ht := Tryz.underlying59, hi := by kernel_rfl, hz := rfl }
theorem rdF_new (u : World) (s : Fk) (n : Nat) (hn : n = u.heap.size) : RdG KKy (u.alloc (.cells #[.int .i64 s.1, .int .u64 (s.2 : Int)] tFk)) (some ⟨n, 0, none⟩) [s] := by
  subst hn
  have h9 := heap_alloc_new u (.cells #[.int .i64 s.1, .int .u64 (s.2 : Int)] tFk)
  intro j hj
  have hj0 : j = 0 := by simp at hj; omega
  subst hj0
  refine ⟨_, _, rfl, fun q v hq => ?_, _, _, h9⟩
  rw [cell_of_row _ _ _ _ _ _ h9]
  match q, hq with
  | 0, hq => exact hq
  | 1, hq => exact hq
  | q + 2, hq => simp at hq
theorem rdN_at {w : World} {ao : Option Addr} {xs : List Nat} (h : RdG KNr w ao xs) {j : Nat} (hj : j < xs.length) : ∃ b o, ao = some ⟨b, o, none⟩ ∧ b < w.heap.size ∧ w.cell? ⟨b, o + j, none⟩ = some (.int .u64 (xs[j] : Int)) := by
  obtain ⟨b, o, h1, h2, cur, fr, h3⟩ := h j hj
  have h9 := h2 0 (.int .u64 (xs[j] : Int)) rfl
  simp only [Nat.mul_one, Nat.add_zero] at h9
  exact ⟨b, o, h1, (Array.getElem?_eq_some_iff.1 h3).1, h9⟩
section
variable {w w' : World} {p ms mn pw mw : Nat} {V : Nat → Nat → Value} {s : Xs}
set_option maxRecDepth 20000 in
set_option maxHeartbeats 1600000 in
theorem xbusy_t (h : XSt w p ms mn pw mw V s) : Calls Tryz.prog 18 #[.pointer (some ⟨p, 0, none⟩)] w fun e w' => ∃ v, e = .returned v ∧ OwnG KKy w' w.heap.size v (s.L.map Xe.k) ∧ Below w.heap.size w w' := by
  have HM : Hid _ := xmade_t h
  have HI : Hid _ := inOrder_t (h.cell 5) h.se h.inv.len h.inv.nn h.inv.od
  have HX : Hid _ := h
  have hfk := fieldK
  clear h
  go_enter Tryz.func18, Tryz.ntmps18
  go_wp2_with fail
  refine Calls.mono HM.out ?_
  rintro e w2 ⟨rfl, hq⟩
  have hq := hq.symm
  subst hq
  go_wp2_with fail
  refine Calls.mono HI.out ?_
  rintro e w1 ⟨v, rfl, hown, hb1⟩
  obtain ⟨a, c, hv, hlc, hcm, hnil, hrd⟩ := hown.val
  rw [List.length_map] at hv hlc
  obtain ⟨n, hn⟩ : ∃ n, n = s.L.length := ⟨_, rfl⟩
  have hn64 : n ≤ 64 := by rw [hn]; exact HX.out.inv.len
  rw [← hn] at hv hlc
  subst hv
  have HN : Hid _ := hn
  have HRD : Hid _ := hrd
  have HB1 : Hid _ := hb1
  clear hown hrd hn hb1 hnil
  go_wp2
  go_loopw [3, 12] (fun u j wr => ∃ k : Nat, k ≤ n ∧ j = .int .i64 (k : Int) ∧ OwnG KKy wr w1.heap.size u ((s.L.map Xe.k).take k) ∧ Below w1.heap.size w1 wr) (fun _ j _ => n - (intOf j).toNat)
  case atStart => exact ⟨0, Nat.zero_le _, rfl, World.ownsRow_nil _ _ _ _, Below.refl _ _⟩
  case round =>
    obtain ⟨k, hk, rfl, hown, hbw⟩ := hrel
    by_cases hlt : k < n
    · have hltI : (k : Int) < (n : Int) := by omega
      have hk0 : (0 : Int) ≤ (k : Int) := by omega
      have hkL : k < s.L.length := by rw [← HN.out]; exact hlt
      obtain ⟨x, hx⟩ : ∃ x, x = s.L[k] := ⟨_, rfl⟩
      have hxm : x ∈ s.L := by rw [hx]; exact List.getElem_mem hkL
      obtain ⟨b, o, rfl, hbl, hcx⟩ := rdN_at (RdG.below HRD.out hbw) (j := k) (by rw [List.length_map]; exact hkL)
      have hcx' : wr.cell? ⟨b, o + k, none⟩ = some (.int .u64 (x.n : Int)) := by rw [hcx, List.getElem_map, ← hx]
      have hbW := HB1.out.trans (hbw.mono HB1.out.size)
      have hXr := HX.out.below hbW
      have hc5 : wr.cell? ⟨p, 5, none⟩ = some (.map (some ms)) := hXr.cell 5
      have hlk := getS hXr.se hXr.inv.nn hxm (by have := hXr.inv.num x hxm; unfold mxX at this; omega) wr rfl
      have HO : Hid (OwnG KKy (wr.alloc (.cells #[.int .i64 x.k.1, .int .u64 (x.k.2 : Int)] tFk)) w1.heap.size u3 ((s.L.map Xe.k).take k)) := hown.below (alw (Below.refl _ _) _)
      have HTK : Hid ((s.L.map Xe.k).take k ++ [x.k] = (s.L.map Xe.k).take (k + 1)) := by
        unfold Hid
        rw [List.take_succ_eq_append_getElem (by simpa using hkL), List.getElem_map, ← hx]
      have HLK : Hid (k = ((s.L.map Xe.k).take k).length) := by unfold Hid; rw [List.length_take, List.length_map]; omega
      have HBW : Hid _ := hbw
      have HSZ : Hid (w1.heap.size ≤ wr.heap.size) := hbw.size
      have HLT3 : Hid (∀ b, u3.ownBlock = some b → w1.heap.size ≤ b) := fun b hb => (hown.lt' hb).1
      clear hx hxm hcx hbW hXr hown hkL hbw hbl
      go_wp2_with (at_builtin; refine wp_appG1 (K := KKy) rfl _ _ rfl w1.heap.size u3 ((s.L.map Xe.k).take k) x.k k HLK.out ⟨wr.heap.size, 0, none⟩ 1 rfl HO.out rfl (rdF_new _ x.k _ rfl) (by show (k + 1) * 16 ≤ _; omega) (by simp only [maxLen]; omega) (by have := HSZ.out; simp; omega) ?_; intro g7 c7 w7 hown7 hg7 hlie7; rw [HTK.out] at hown7; have HO7 : Hid _ := hown7; have HG7 : Hid _ := hg7; clear hown7 hg7 hlie7)
      go_roundw
      case rel =>
        refine ⟨k + 1, hlt, by go_num, HO7.out, (alw HBW.out _).grown HG7.out (by have := HSZ.out; simp; omega) (fun j hj => HLT3.out j hj)⟩
      case measure => simp [intOf]; omega
    · have hltI : ¬ (k : Int) < (n : Int) := by omega
      have hkn : k = n := by omega
      have HO : Hid (OwnG KKy wr w1.heap.size u3 (s.L.map Xe.k)) := by
        unfold Hid
        have h9 := hown
        rw [hkn, HN.out, List.take_of_length_le (by simp)] at h9
        exact h9
      have HBW : Hid _ := hbw
      clear hown hbw
      go_wp2
      go_ret
      exact ⟨_, rfl, OwnG.base HO.out HB1.out.size, HB1.out.trans (HBW.out.mono HB1.out.size)⟩
end
end Go.Proofs.YtiedgcanndgmoaaGreatDoor
