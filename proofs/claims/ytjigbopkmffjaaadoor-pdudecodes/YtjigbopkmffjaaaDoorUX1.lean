import Derived.Test.YtjigbopkmffjaaaDoorUXg
namespace Go.Proofs.YtjigbopkmffjaaaDoor
set_option linter.unusedVariables false
set_option linter.unusedSimpArgs false
open Go.RowKit
/-- what the document reads -/
def readD (z : List UInt8 × Int) : Un × List UInt8 × Int :=
  let a := smD 1 3 z
  let b := nmS mxU a.2
  let c := nmS mxU (b.2.1, mustF (decide (0 < b.1)) b.2.2)
  let f := mustF (decide (0 < c.1)) c.2.2
  if a.1 = 1 then
    let p := smD 1 2 (c.2.1, f)
    let i := smD 0 63 p.2
    let t := smD (i.1 + 1) 64 i.2
    let d := byS 1024 t.2
    (⟨1, (b.1 : Nat), (c.1 : Nat), (p.1 : Nat), (i.1 : Nat), (t.1 : Nat), d.1, 0, []⟩, d.2.1, mustF (decide (0 < d.1.length)) d.2.2)
  else if a.1 = 2 then
    let p := smD 0 7 (c.2.1, f)
    if p.1 = 0 ∧ p.2.2 = 0 then
      let n := smD 0 32 p.2
      let r := rgsS n.1 [] n.2
      (⟨2, (b.1 : Nat), (c.1 : Nat), 0, 0, 0, [], 0, r.1⟩, r.2)
    else (⟨2, (b.1 : Nat), (c.1 : Nat), 0, 0, 0, [], (p.1 : Nat), []⟩, p.2)
  else (⟨(a.1 : Nat), (b.1 : Nat), (c.1 : Nat), 0, 0, 0, [], 0, []⟩, c.2.1, f)
theorem rgsS_ff {n : Nat} {l : List Rg} {ys : List UInt8} {f : Int} (hf : ¬ f = 0) : rgsS n l (ys, f) = (l, ys, f) := rgsS_bad n l (ys, f) hf
theorem byS_ff {n : Int} {ys : List UInt8} {f : Int} (hf : ¬ f = 0) : byS n (ys, f) = ([], ys, f) := by
  unfold byS rBytes
  simp only [if_neg hf, List.drop_zero]
theorem smD_ok {lo hi n : Nat} {z : List UInt8 × Int} {y : List UInt8} {f : Int} (h : nmS mxU z = (n, y, f)) (h0 : mustF (decide (lo ≤ n ∧ n ≤ hi)) f = 0) : smD lo hi z = (n, y, 0) := by
  unfold smD
  rw [h]
  simp only
  rw [h0, if_pos rfl]
theorem smD_no {lo hi n : Nat} {z : List UInt8 × Int} {y : List UInt8} {f : Int} (h : nmS mxU z = (n, y, f)) (h0 : ¬ mustF (decide (lo ≤ n ∧ n ≤ hi)) f = 0) : smD lo hi z = (0, y, mustF (decide (lo ≤ n ∧ n ≤ hi)) f) := by
  unfold smD
  rw [h]
  simp only
  rw [if_neg h0]
theorem dec_eq {p q : Prop} [Decidable p] [Decidable q] (h : p ↔ q) : decide p = decide q := decide_eq_decide.2 h
theorem nmB_eq {n : Nat} (h : n ≤ 281474976710655) : nmB n = decide (0 < n) := dec_eq (by omega)
/-- both read the same, or find the same fault -/
theorem readD_eq (z : List UInt8 × Int) : (readD z).2.2 = (readU z).2.2 ∧ ((readU z).2.2 = 0 → readD z = readU z) := by
  obtain ⟨n1, y1, f1, e1⟩ : ∃ n y g, nmS mxU z = (n, y, g) := ⟨_, _, _, rfl⟩
  have hk : kdB n1 = decide (1 ≤ n1 ∧ n1 ≤ 3) := dec_eq (by omega)
  by_cases hg1 : mustF (decide (1 ≤ n1 ∧ n1 ≤ 3)) f1 = 0
  · have s1 := smD_ok e1 hg1
    obtain ⟨n2, y2, f2, e2⟩ : ∃ n y g, nmS mxU (y1, 0) = (n, y, g) := ⟨_, _, _, rfl⟩
    have b2 := nmB_eq (nmS_le e2)
    obtain ⟨n3, y3, f3, e3⟩ : ∃ n y g, nmS mxU (y2, mustF (decide (0 < n2)) f2) = (n, y, g) := ⟨_, _, _, rfl⟩
    have b3 := nmB_eq (nmS_le e3)
    have hk3 : n1 = 1 ∨ n1 = 2 ∨ n1 = 3 := by have := decide_eq_true_iff.1 (mustF_inv hg1).1; omega
    unfold readD readU
    simp only [s1, e1, hk, hg1, e2, b2, e3, b3]
    generalize hF : mustF (decide (0 < n3)) f3 = F
    clear hF e3 b3 e2 b2 s1 hg1 hk
    by_cases hF0 : F = 0
    · subst hF0
      simp only [if_true]
      rcases hk3 with rfl | rfl | rfl
      · simp only [if_true]
        unfold dataS
        obtain ⟨m1, v1, t1, E1⟩ : ∃ n y g, nmS mxU (y3, 0) = (n, y, g) := ⟨_, _, _, rfl⟩
        have c1 : decide ((m1 : Int) = 1 ∨ (m1 : Int) = 2) = decide (1 ≤ m1 ∧ m1 ≤ 2) := dec_eq (by omega)
        simp only [E1, c1]
        by_cases hP : mustF (decide (1 ≤ m1 ∧ m1 ≤ 2)) t1 = 0
        · rw [smD_ok E1 hP, hP]
          simp only
          obtain ⟨m2, v2, t2, E2⟩ : ∃ n y g, nmS mxU (v1, 0) = (n, y, g) := ⟨_, _, _, rfl⟩
          have c2 : decide (0 ≤ (m2 : Int) ∧ (m2 : Int) < 64) = decide (0 ≤ m2 ∧ m2 ≤ 63) := dec_eq (by omega)
          simp only [E2, c2]
          by_cases hQ : mustF (decide (0 ≤ m2 ∧ m2 ≤ 63)) t2 = 0
          · rw [smD_ok E2 hQ, hQ]
            simp only
            obtain ⟨m3, v3, t3, E3⟩ : ∃ n y g, nmS mxU (v2, 0) = (n, y, g) := ⟨_, _, _, rfl⟩
            have c3 : decide ((m2 : Int) < (m3 : Int) ∧ (m3 : Int) ≤ 64) = decide (m2 + 1 ≤ m3 ∧ m3 ≤ 64) := dec_eq (by omega)
            simp only [E3, c3]
            by_cases hR : mustF (decide (m2 + 1 ≤ m3 ∧ m3 ≤ 64)) t3 = 0
            · rw [smD_ok E3 hR, hR]
              simp only
              obtain ⟨d, v4, t4, E4⟩ : ∃ n y g, byS 1024 (v3, 0) = (n, y, g) := ⟨_, _, _, rfl⟩
              have h4 : d.length ≤ 1024 := byS_le E4
              have c4 : decide (1 ≤ d.length ∧ d.length ≤ 1024) = decide (0 < d.length) := dec_eq (by omega)
              simp only [E4, c4]
              refine ⟨?_, fun _ => ?_⟩ <;> first | rfl | trivial
            · rw [smD_no E3 hR]
              simp only [byS_ff hR, mustF_ff hR]
              refine ⟨?_, fun h => absurd h hR⟩; first | rfl | trivial
          · rw [smD_no E2 hQ]
            simp only [smD_f hQ, nmS_ff hQ, mustF_ff hQ, byS_ff hQ]
            refine ⟨?_, fun h => absurd h hQ⟩; first | rfl | trivial
        · rw [smD_no E1 hP]
          simp only [smD_f hP, nmS_ff hP, mustF_ff hP, byS_ff hP]
          refine ⟨?_, fun h => absurd h hP⟩; first | rfl | trivial
      · simp only [show ¬ (2 : Nat) = 1 by decide, if_false, if_true]
        unfold repS
        obtain ⟨m1, v1, t1, E1⟩ : ∃ n y g, nmS mxU (y3, 0) = (n, y, g) := ⟨_, _, _, rfl⟩
        have c1 : decide (0 ≤ (m1 : Int) ∧ (m1 : Int) ≤ 7) = decide (0 ≤ m1 ∧ m1 ≤ 7) := dec_eq (by omega)
        simp only [E1, c1]
        by_cases hP : mustF (decide (0 ≤ m1 ∧ m1 ≤ 7)) t1 = 0
        · rw [smD_ok E1 hP, hP]
          simp only [and_true]
          by_cases hm : m1 = 0
          · subst hm
            simp only [if_true]
            obtain ⟨m2, v2, t2, E2⟩ : ∃ n y g, nmS mxU (v1, 0) = (n, y, g) := ⟨_, _, _, rfl⟩
            have c2 : decide (m2 ≤ 32) = decide (0 ≤ m2 ∧ m2 ≤ 32) := dec_eq (by omega)
            simp only [E2, c2]
            by_cases hQ : mustF (decide (0 ≤ m2 ∧ m2 ≤ 32)) t2 = 0
            · rw [smD_ok E2 hQ, hQ]
              refine ⟨?_, fun _ => ?_⟩ <;> first | rfl | trivial
            · rw [smD_no E2 hQ]
              simp only [rgsS_ff hQ]
              refine ⟨?_, fun h => absurd h hQ⟩; first | rfl | trivial
          · simp only [if_neg hm]
            refine ⟨?_, fun _ => ?_⟩ <;> first | rfl | trivial
        · rw [smD_no E1 hP]
          generalize mustF (decide (0 ≤ m1 ∧ m1 ≤ 7)) t1 = P at *
          simp only [hP, and_false, if_false]
          by_cases hm : m1 = 0
          · simp only [hm, if_true, nmS_ff hP, mustF_ff hP, rgsS_ff hP]
            refine ⟨?_, fun h => absurd h hP⟩; first | rfl | trivial
          · simp only [if_neg hm]
            refine ⟨?_, fun h => absurd h hP⟩; first | rfl | trivial
      · simp only [show ¬ (3 : Nat) = 1 by decide, show ¬ (3 : Nat) = 2 by decide, if_false]
        refine ⟨?_, fun _ => ?_⟩ <;> first | rfl | trivial
    · simp only [if_neg hF0]
      rcases hk3 with rfl | rfl | rfl
      · simp only [if_true, smD_f hF0, byS_ff hF0, mustF_ff hF0]
        refine ⟨?_, fun h => absurd h hF0⟩; first | rfl | trivial
      · simp only [show ¬ (2 : Nat) = 1 by decide, if_false, if_true, smD_f hF0, hF0, and_false]
        refine ⟨?_, fun h => ?_⟩
        · first | rfl | trivial
        · first | exact absurd h hF0 | exact h.elim
      · simp only [show ¬ (3 : Nat) = 1 by decide, show ¬ (3 : Nat) = 2 by decide, if_false]
        refine ⟨?_, fun h => absurd h hF0⟩; first | rfl | trivial
  · have s1 := smD_no e1 hg1
    unfold readD readU
    simp only [s1, e1, hk, nmS_ff hg1, mustF_ff hg1, if_neg hg1, show ¬ (0 : Nat) = 1 by decide, show ¬ (0 : Nat) = 2 by decide, if_false]
    refine ⟨?_, fun h => absurd h hg1⟩; first | rfl | trivial
/-- what the document's Decode answers -/
def decD (xs : List UInt8) : Un × Int :=
  if (unS xs).2 = 0 then
    if rEnd (readD ((unS xs).1, 0)).2.1 (readD ((unS xs).1, 0)).2.2 = 0 then ((readD ((unS xs).1, 0)).1, 0)
    else (zeroU, rEnd (readD ((unS xs).1, 0)).2.1 (readD ((unS xs).1, 0)).2.2)
  else (zeroU, ((unS xs).2 : Nat))
theorem decD_eq (xs : List UInt8) : decD xs = decU xs := by
  obtain ⟨h1, h2⟩ := readD_eq ((unS xs).1, 0)
  unfold decD decU
  by_cases hf : (readU ((unS xs).1, 0)).2.2 = 0
  · rw [h2 hf]
  · have e1 : rEnd (readU ((unS xs).1, 0)).2.1 (readU ((unS xs).1, 0)).2.2 = (readU ((unS xs).1, 0)).2.2 := by unfold rEnd; rw [if_neg hf]
    have e2 : rEnd (readD ((unS xs).1, 0)).2.1 (readD ((unS xs).1, 0)).2.2 = (readU ((unS xs).1, 0)).2.2 := by rw [h1]; unfold rEnd; rw [if_neg hf]
    rw [e1, e2, if_neg hf, if_neg hf]
end Go.Proofs.YtjigbopkmffjaaaDoor
namespace Go.Proofs.YtjigbopkmffjaaaDoor
set_option linter.unusedVariables false
set_option linter.unusedSimpArgs false
open Go.RowKit
theorem refUns_b (ao : Option Addr) (n cap : Nat) (xs : List UInt8) (hn : n = xs.length) (w : World) (hx : Rd w ao xs) (hlc : n ≤ cap) (hcm : cap ≤ 9223372036854775807) (hl : n ≤ 140737488355328) {X : List UInt8} {E : Nat} (hu : unS xs = (X, E)) :
    Calls Tryd.prog 46 #[.slice ao n cap] w fun e w' => ∃ a L c, e = .returned (.tuple #[.slice a L c, .int .i64 (E : Nat)]) ∧ L = X.length ∧ Rd w' a X ∧ (a = none → c = 0) ∧ Below w.heap.size w w' := by
  refine (refUnseal_n ao n cap xs hn w hx hlc hcm hl).mono ?_
  rintro e w' ⟨v, rfl, h1, h2⟩
  rw [hu] at h1 ⊢
  obtain ⟨a, c, rfl, -, -, hn9, hrd9, -⟩ := h1.val
  exact ⟨a, X.length, c, rfl, rfl, hrd9, hn9, h2⟩
theorem DX.rest {w : World} {q B N : Nat} {ys : List UInt8} {f : Int} (h : DX w q B N ys f) : ∃ ao cap, w.cell? ⟨q, 0, none⟩ = some (.slice ao ys.length cap) := h.c0
/-- by what was read -/
def DecR (u : Un) (y : List UInt8) (f : Int) (w : World) (er : Ending) (w' : World) : Prop := DecOut (if rEnd y f = 0 then (u, (0 : Int)) else (zeroU, rEnd y f)).1 (if rEnd y f = 0 then (u, (0 : Int)) else (zeroU, rEnd y f)).2 w er w'
theorem gr_cellU {w w' : World} {r q i : Nat} {v : Value} (hg : w.grownBy w' (some r)) (h : w.cell? ⟨q, i, none⟩ = some v) (hne : q ≠ r) : w'.cell? ⟨q, i, none⟩ = some v := hg.cell h (by simpa using hne)
section
set_option maxRecDepth 20000
set_option maxHeartbeats 6400000
theorem rdec_a (ao : Option Addr) (n cap : Nat) (xs : List UInt8) (hn : n = xs.length) (w : World) (hx : Rd w ao xs) (hlc : n ≤ cap) (hcm : cap ≤ 9223372036854775807) (hl : n ≤ 140737488355328) {X : List UInt8} {E : Nat} (hun : unS xs = (X, E)) (hE : ¬ E = 0) :
    Calls Tryd.prog 20 #[.slice ao n cap] w fun er w' => DecOut zeroU (E : Nat) w er w' := by
  have HUN : Hid _ := fun (u : World) (hu : Below w.heap.size w u) => refUns_b ao n cap xs hn u (hx.below hu) hlc hcm hl hun
  have heI : ¬ (E : Int) = 0 := by omega
  have heb : ((E : Int) == 0) = false := by simpa using heI
  clear hE
  clear hx hn hlc hcm hl hun
  go_enter Tryd.func20, Tryd.ntmps20
  go_wp2_with fail
  refine Calls.mono (HUN.out _ (al (Below.refl _ _) _)) ?_
  rintro er1 w1 ⟨a1, L1, c1, rfl, hL1, hr1, hn1, hb1⟩
  have HL1 : Hid (L1 = X.length) := hL1
  have HR1 : Hid (Rd w1 a1 X) := hr1
  have HN1 : Hid (a1 = none → c1 = 0) := hn1
  have HB1 : Hid (Below w.heap.size w w1) := below_next (al (Below.refl _ _) _) hb1
  obtain ⟨G0, hG0⟩ : ∃ g, g = w.heap.size := ⟨_, rfl⟩
  have HG0 : Hid (G0 = w.heap.size) := hG0
  have HZ1 : Hid (w1.heap[G0]? = some (.cells #[.int .i64 0, .int .u64 0, .int .u64 0, .int .i64 0, .int .i64 0, .int .i64 0, .slice none 0 0, .int .i64 0, .slice none 0 0] 26 (0, 0))) := by unfold Hid; rw [hG0]; exact (hb1.block w.heap.size (by simp)).trans (heap_alloc_new w _)
  rw [← hG0]
  clear hL1 hr1 hn1 hb1 hG0
  go_wp2_with (refine wpList_store_mid rfl 26 _ _ rfl G0 0 #[.int .i64 0, .int .u64 0, .int .u64 0, .int .i64 0, .int .i64 0, .int .i64 0, .slice none 0 0, .int .i64 0, .slice none 0 0] rfl rfl (box_there HZ1.out rfl) (by kernel_rfl) (by simp [Value.oneCell']) ?_)
  (try simp only [Exit.inBlock, Exit.then])
  refine bodyPost_ret (results_ct Tryd.results20 _ _ G0 26 #[.int .i64 0, .int .u64 0, .int .u64 0, .int .i64 0, .int .i64 0, .int .i64 0, .slice none 0 0, .int .i64 0, .slice none 0 0] (0, 0) _ rfl (box_set HZ1.out rfl) Tryd.underlying26 rfl (by kernel_rfl)) rfl ?_
  have hfin := setCells_grown G0 [.int .i64 0, .int .u64 0, .int .u64 0, .int .i64 0, .int .i64 0, .int .i64 0, .slice none 0 0, .int .i64 0, .slice none 0 0] 0 w1
  exact DecOut.zero (HB1.out.grown hfin HB1.out.size (fun j hj => by cases hj; exact Nat.le_of_eq HG0.out.symm))
theorem rdec_3 (ao : Option Addr) (n cap : Nat) (xs : List UInt8) (hn : n = xs.length) (w : World) (hx : Rd w ao xs) (hlc : n ≤ cap) (hcm : cap ≤ 9223372036854775807) (hl : n ≤ 140737488355328) {X : List UInt8} (hun : unS xs = (X, 0)) {n1 n2 n3 : Nat} {y1 y2 y3 : List UInt8} {f1 f2 f3 : Int} (b2 b3 : Bool) (e1 : smD 1 3 (X, 0) = (n1, y1, f1)) (e2 : nmS mxU (y1, f1) = (n2, y2, f2)) (hb2 : b2 = decide (0 < n2)) (e3 : nmS mxU (y2, mustF b2 f2) = (n3, y3, f3)) (hb3 : b3 = decide (0 < n3)) (hk : n1 ≠ 1 ∧ n1 ≠ 2)  :
    Calls Tryd.prog 20 #[.slice ao n cap] w fun er w' => DecR (⟨(n1 : Nat), (n2 : Nat), (n3 : Nat), 0, 0, 0, [], 0, []⟩) y3 (mustF b3 f3) w er w' := by
  have HUN : Hid _ := fun (u : World) (hu : Below w.heap.size w u) => refUns_b ao n cap xs hn u (hx.below hu) hlc hcm hl hun
  have hk1 : ¬ (n1 : Int) = 1 := by omega
  have hk2 : ¬ (n1 : Int) = 2 := by omega
  have hk1b : ((n1 : Int) == 1) = false := by simpa using hk1
  have hk2b : ((n1 : Int) == 2) = false := by simpa using hk2
  have hk1n : ¬ n1 = 1 := hk.1
  have hk2n : ¬ n1 = 2 := hk.2
  clear hk
  have HQ2 : Hid (b2 = decide (0 < n2)) := hb2
  have HQ3 : Hid (b3 = decide (0 < n3)) := hb3
  clear hb2 hb3
  have HXL : Hid (X.length ≤ 140737488355328) := by
    have h9 := unS_len xs
    rw [hun] at h9
    unfold Hid
    simp only at h9
    omega
  have HE1 : Hid _ := e1
  have HE2 : Hid _ := e2
  have HE3 : Hid _ := e3
  clear e1 e2 e3
  clear hx hn hlc hcm hl hun
  go_enter Tryd.func20, Tryd.ntmps20
  go_wp2_with fail
  refine Calls.mono (HUN.out _ (al (Below.refl _ _) _)) ?_
  rintro er1 w1 ⟨a1, L1, c1, rfl, hL1, hr1, hn1, hb1⟩
  have HL1 : Hid (L1 = X.length) := hL1
  have HR1 : Hid (Rd w1 a1 X) := hr1
  have HN1 : Hid (a1 = none → c1 = 0) := hn1
  have HB1 : Hid (Below w.heap.size w w1) := below_next (al (Below.refl _ _) _) hb1
  obtain ⟨G0, hG0⟩ : ∃ g, g = w.heap.size := ⟨_, rfl⟩
  have HG0 : Hid (G0 = w.heap.size) := hG0
  have HZ1 : Hid (w1.heap[G0]? = some (.cells #[.int .i64 0, .int .u64 0, .int .u64 0, .int .i64 0, .int .i64 0, .int .i64 0, .slice none 0 0, .int .i64 0, .slice none 0 0] 26 (0, 0))) := by unfold Hid; rw [hG0]; exact (hb1.block w.heap.size (by simp)).trans (heap_alloc_new w _)
  rw [← hG0]
  clear hL1 hr1 hn1 hb1 hG0
  go_wp2_with fail
  refine Calls.mono (new_x a1 L1 c1 X HL1.out w1 HR1.out HN1.out (by rw [HL1.out]; exact HXL.out)) ?_
  rintro er1 w2 ⟨q, rfl, hd2, hb2⟩
  obtain ⟨B, hB⟩ : ∃ B, B = w1.heap.size := ⟨_, rfl⟩
  obtain ⟨N, hN⟩ : ∃ N, N = w2.heap.size := ⟨_, rfl⟩
  rw [← hB, ← hN] at hd2
  have HD2 : Hid (DX w2 q B N X 0) := hd2
  have HB2 : Hid (Below w.heap.size w w2) := below_next HB1.out hb2
  have HZ2 : Hid (w2.heap[G0]? = some (.cells #[.int .i64 0, .int .u64 0, .int .u64 0, .int .i64 0, .int .i64 0, .int .i64 0, .slice none 0 0, .int .i64 0, .slice none 0 0] 26 (0, 0))) := (hb2.block G0 (Array.getElem?_eq_some_iff.1 HZ1.out).1).trans HZ1.out
  have HQ : Hid (G0 < q ∧ w.heap.size ≤ q ∧ q < N ∧ G0 = w.heap.size) := by
    have h1 := hd2.lt
    have h2 := (Array.getElem?_eq_some_iff.1 HZ1.out).1
    have h4 := HG0.out
    exact ⟨by omega, by omega, h1.2, h4⟩
  have HNN : Hid (N = w2.heap.size) := hN
  clear hd2 hb2 hB hN
  go_wp2_with fail
  refine Calls.mono (small_x 1 3 (by decide) (by decide) _ HD2.out HE1.out) ?_
  rintro er1 w3 ⟨rfl, hd, hg⟩
  have HD3 : Hid (DX w3 q B N y1 f1) := hd
  have HW3 : Hid (Below w.heap.size w w3) := HB2.out.grown hg HB2.out.size (fun j hj => by cases hj; exact HQ.out.2.1)
  have HZ3 : Hid (w3.heap[G0]? = some (.cells #[.int .i64 0, .int .u64 0, .int .u64 0, .int .i64 0, .int .i64 0, .int .i64 0, .slice none 0 0, .int .i64 0, .slice none 0 0] 26 (0, 0))) := gr_box hg (by have := HQ.out; omega) HZ2.out
  obtain ⟨g, hgg⟩ : ∃ g, g = w3.heap.size := ⟨_, rfl⟩
  have HGE : Hid (g = w3.heap.size) := hgg
  have HGN : Hid (N ≤ g) := by have h1 := hg.size; have h2 := HNN.out; unfold Hid; omega
  have hss := fun (u : World) (a : Addr) (o : Option Addr) (n c : Nat) => run_store Tryd.prog u a (.slice o n c) .plain rfl
  clear hd hg
  go_wp2_with fail
  rw [← hgg]
  clear hgg hss
  refine Calls.mono (number_x (m := mxU) _ (HD3.out.below (al (Below.refl _ _) _)) HE2.out) ?_
  rintro er1 w4 ⟨rfl, hd, hg⟩
  have HD4 : Hid (DX w4 q B N y2 f2) := hd
  have HU4 : Hid (UBx w4 g #[.int .i64 (n1 : Nat), .int .u64 0, .int .u64 0, .int .i64 0, .int .i64 0, .int .i64 0, .slice none 0 0, .int .i64 0, .slice none 0 0]) := gr_box hg (by have := HQ.out; have := HGN.out; omega) (by rw [HGE.out]; exact heap_alloc_new w3 _)
  have HW4 : Hid (Below w.heap.size w w4) := (HW3.out.alloc HW3.out.size _).grown hg (HW3.out.alloc HW3.out.size _).size (fun j hj => by cases hj; exact HQ.out.2.1)
  have HZ4 : Hid (w4.heap[G0]? = some (.cells #[.int .i64 0, .int .u64 0, .int .u64 0, .int .i64 0, .int .i64 0, .int .i64 0, .slice none 0 0, .int .i64 0, .slice none 0 0] 26 (0, 0))) := gr_box hg (by have := HQ.out; omega) (((al (Below.refl _ _) _).block G0 (Array.getElem?_eq_some_iff.1 HZ3.out).1).trans HZ3.out)
  clear hd hg
  have cs5 : w4.cell? ⟨g, 1, none⟩ = some (.int .u64 0) := by rw [cell_of_row _ _ _ _ _ _ HU4.out]; rfl
  have zs5 : w4.frozen? ⟨g, 1, none⟩ = false := by simp [World.frozen?, HU4.out]
  obtain ⟨w5, hx5⟩ : ∃ x : World, x = w4.setCell ⟨g, 1, none⟩ (.int .u64 (n2 : Nat)) := ⟨_, rfl⟩
  have HX5 : Hid (w4.grownBy w5 (some g)) := by unfold Hid; rw [hx5]; exact gset1 _ _ _ _
  have HU5 : Hid (UBx w5 g #[.int .i64 (n1 : Nat), .int .u64 (n2 : Nat), .int .u64 0, .int .i64 0, .int .i64 0, .int .i64 0, .slice none 0 0, .int .i64 0, .slice none 0 0]) := by unfold Hid UBx; rw [hx5, heap_setCell_same w4 g 1 _ _ _ HU4.out]; rfl
  have HD5 : Hid (DX w5 q B N y2 f2) := DX.grown HD4.out HX5.out (.inr HGN.out)
  have HW5 : Hid (Below w.heap.size w w5) := HW4.out.grown HX5.out HW4.out.size (fun j hj => by cases hj; have := HQ.out; have := HGN.out; omega)
  have HZ5 : Hid (w5.heap[G0]? = some (.cells #[.int .i64 0, .int .u64 0, .int .u64 0, .int .i64 0, .int .i64 0, .int .i64 0, .slice none 0 0, .int .i64 0, .slice none 0 0] 26 (0, 0))) := gr_box HX5.out (by have := HQ.out; have := HGN.out; omega) HZ4.out
  have hbb : b2 = decide ((0 : Int) < (n2 : Int)) := by rw [HQ2.out]; exact decide_eq_decide.2 (by omega)
  go_wp2_with fail
  first | rw [← hbb] | (have hbb' : b2 = decide (0 < n2) := HQ2.out; rw [← hbb']; clear hbb')
  clear hbb
  rw [← hx5]
  clear hx5 cs5 zs5
  refine Calls.mono (want_x b2 _ HD5.out) ?_
  rintro er1 w6 ⟨rfl, hd, hg⟩
  have HD6 : Hid (DX w6 q B N y2 (mustF b2 f2)) := hd
  have HU6 : Hid (UBx w6 g #[.int .i64 (n1 : Nat), .int .u64 (n2 : Nat), .int .u64 0, .int .i64 0, .int .i64 0, .int .i64 0, .slice none 0 0, .int .i64 0, .slice none 0 0]) := gr_box hg (by have := HQ.out; have := HGN.out; omega) HU5.out
  have HW6 : Hid (Below w.heap.size w w6) := HW5.out.grown hg HW5.out.size (fun j hj => by cases hj; exact HQ.out.2.1)
  have HZ6 : Hid (w6.heap[G0]? = some (.cells #[.int .i64 0, .int .u64 0, .int .u64 0, .int .i64 0, .int .i64 0, .int .i64 0, .slice none 0 0, .int .i64 0, .slice none 0 0] 26 (0, 0))) := gr_box hg (by have := HQ.out; omega) HZ5.out
  clear hd hg
  go_wp2_with fail
  refine Calls.mono (number_x (m := mxU) _ HD6.out HE3.out) ?_
  rintro er1 w7 ⟨rfl, hd, hg⟩
  have HD7 : Hid (DX w7 q B N y3 f3) := hd
  have HU7 : Hid (UBx w7 g #[.int .i64 (n1 : Nat), .int .u64 (n2 : Nat), .int .u64 0, .int .i64 0, .int .i64 0, .int .i64 0, .slice none 0 0, .int .i64 0, .slice none 0 0]) := gr_box hg (by have := HQ.out; have := HGN.out; omega) HU6.out
  have HW7 : Hid (Below w.heap.size w w7) := HW6.out.grown hg HW6.out.size (fun j hj => by cases hj; exact HQ.out.2.1)
  have HZ7 : Hid (w7.heap[G0]? = some (.cells #[.int .i64 0, .int .u64 0, .int .u64 0, .int .i64 0, .int .i64 0, .int .i64 0, .slice none 0 0, .int .i64 0, .slice none 0 0] 26 (0, 0))) := gr_box hg (by have := HQ.out; omega) HZ6.out
  clear hd hg
  have cs8 : w7.cell? ⟨g, 2, none⟩ = some (.int .u64 0) := by rw [cell_of_row _ _ _ _ _ _ HU7.out]; rfl
  have zs8 : w7.frozen? ⟨g, 2, none⟩ = false := by simp [World.frozen?, HU7.out]
  obtain ⟨w8, hx8⟩ : ∃ x : World, x = w7.setCell ⟨g, 2, none⟩ (.int .u64 (n3 : Nat)) := ⟨_, rfl⟩
  have HX8 : Hid (w7.grownBy w8 (some g)) := by unfold Hid; rw [hx8]; exact gset1 _ _ _ _
  have HU8 : Hid (UBx w8 g #[.int .i64 (n1 : Nat), .int .u64 (n2 : Nat), .int .u64 (n3 : Nat), .int .i64 0, .int .i64 0, .int .i64 0, .slice none 0 0, .int .i64 0, .slice none 0 0]) := by unfold Hid UBx; rw [hx8, heap_setCell_same w7 g 2 _ _ _ HU7.out]; rfl
  have HD8 : Hid (DX w8 q B N y3 f3) := DX.grown HD7.out HX8.out (.inr HGN.out)
  have HW8 : Hid (Below w.heap.size w w8) := HW7.out.grown HX8.out HW7.out.size (fun j hj => by cases hj; have := HQ.out; have := HGN.out; omega)
  have HZ8 : Hid (w8.heap[G0]? = some (.cells #[.int .i64 0, .int .u64 0, .int .u64 0, .int .i64 0, .int .i64 0, .int .i64 0, .slice none 0 0, .int .i64 0, .slice none 0 0] 26 (0, 0))) := gr_box HX8.out (by have := HQ.out; have := HGN.out; omega) HZ7.out
  have hbb : b3 = decide ((0 : Int) < (n3 : Int)) := by rw [HQ3.out]; exact decide_eq_decide.2 (by omega)
  go_wp2_with fail
  first | rw [← hbb] | (have hbb' : b3 = decide (0 < n3) := HQ3.out; rw [← hbb']; clear hbb')
  clear hbb
  rw [← hx8]
  clear hx8 cs8 zs8
  refine Calls.mono (want_x b3 _ HD8.out) ?_
  rintro er1 w9 ⟨rfl, hd, hg⟩
  have HD9 : Hid (DX w9 q B N y3 (mustF b3 f3)) := hd
  have HU9 : Hid (UBx w9 g #[.int .i64 (n1 : Nat), .int .u64 (n2 : Nat), .int .u64 (n3 : Nat), .int .i64 0, .int .i64 0, .int .i64 0, .slice none 0 0, .int .i64 0, .slice none 0 0]) := gr_box hg (by have := HQ.out; have := HGN.out; omega) HU8.out
  have HW9 : Hid (Below w.heap.size w w9) := HW8.out.grown hg HW8.out.size (fun j hj => by cases hj; exact HQ.out.2.1)
  have HZ9 : Hid (w9.heap[G0]? = some (.cells #[.int .i64 0, .int .u64 0, .int .u64 0, .int .i64 0, .int .i64 0, .int .i64 0, .slice none 0 0, .int .i64 0, .slice none 0 0] 26 (0, 0))) := gr_box hg (by have := HQ.out; omega) HZ8.out
  clear hd hg
  have ck9 : w9.cell? ⟨g, 0, none⟩ = some (.int .i64 (n1 : Nat)) := by rw [cell_of_row _ _ _ _ _ _ HU9.out]; rfl
  obtain ⟨Y, hY⟩ : ∃ Y, Y = y3 := ⟨_, rfl⟩
  have HYY : Hid (Y = y3) := hY
  obtain ⟨F, hF⟩ : ∃ F, F = (mustF b3 f3) := ⟨_, rfl⟩
  have HFF : Hid (F = (mustF b3 f3)) := hF
  have HDE : Hid (DX w9 q B N Y F) := by rw [hY, hF]; exact HD9.out
  clear hY hF
  have c1 := HDE.out.c1
  obtain ⟨ra, rc, c0⟩ := HDE.out.c0
  by_cases hF : F = 0
  · by_cases hY : Y = []
    · -- all is well
      have HY0 : Hid (Y = [] ∧ F = 0) := ⟨hY, hF⟩
      subst hF
      subst hY
      go_wp2_with (first
        | (refine wpList_load_g (by rfl) 26 _ rfl g 0 (by rfl) [.int .i64 (n1 : Nat), .int .u64 (n2 : Nat), .int .u64 (n3 : Nat), .int .i64 0, .int .i64 0, .int .i64 0, .slice none 0 0, .int .i64 0, .slice none 0 0] _ (box_range HU9.out) Tryd.underlying26 rfl info_un ?_)
        | (refine wpList_store_mid rfl 26 _ _ rfl G0 0 #[.int .i64 (n1 : Nat), .int .u64 (n2 : Nat), .int .u64 (n3 : Nat), .int .i64 0, .int .i64 0, .int .i64 0, .slice none 0 0, .int .i64 0, .slice none 0 0] rfl rfl (box_there HZ9.out rfl) (by kernel_rfl) (by simp [Value.oneCell']) ?_))
      (try simp only [Exit.inBlock, Exit.then])
      refine bodyPost_ret (results_ct Tryd.results20 _ _ G0 26 #[.int .i64 (n1 : Nat), .int .u64 (n2 : Nat), .int .u64 (n3 : Nat), .int .i64 0, .int .i64 0, .int .i64 0, .slice none 0 0, .int .i64 0, .slice none 0 0] (0, 0) _ rfl (box_set HZ9.out rfl) Tryd.underlying26 rfl (by kernel_rfl)) rfl ?_
      have hfin := setCells_grown G0 [.int .i64 (n1 : Nat), .int .u64 (n2 : Nat), .int .u64 (n3 : Nat), .int .i64 0, .int .i64 0, .int .i64 0, .slice none 0 0, .int .i64 0, .slice none 0 0] 0 w9
      have hbel : Below w.heap.size w (w9.setCells G0 0 [.int .i64 (n1 : Nat), .int .u64 (n2 : Nat), .int .u64 (n3 : Nat), .int .i64 0, .int .i64 0, .int .i64 0, .slice none 0 0, .int .i64 0, .slice none 0 0]) := HW9.out.grown hfin HW9.out.size (fun j hj => by cases hj; exact Nat.le_of_eq HG0.out.symm)
      have hr : rEnd y3 (mustF b3 f3) = 0 := by rw [← HYY.out, ← HFF.out]; rfl
      unfold DecR
      rw [if_pos hr]
      exact ⟨none, 0, none, 0, rfl, World.ownsRow_nil _ _ _ _, OwnR.nil _ _, hbel⟩
    · -- a rest
      subst hF
      obtain ⟨yl, hyl⟩ : ∃ m, m = Y.length := ⟨_, rfl⟩
      have hyp : 0 < yl := by rw [hyl]; exact List.length_pos_iff.2 hY
      have hypI : (0 : Int) < (yl : Int) := by omega
      rw [← hyl] at c0
      have HY1 : Hid (rEnd y3 (mustF b3 f3) = 11) := by unfold Hid rEnd; rw [← HYY.out, ← HFF.out, if_pos rfl, if_pos (by omega)]
      clear hyl hY
      go_wp2_with fail
      refine Calls.mono (fail_x 11 _ HDE.out) ?_
      rintro er1 wf ⟨rfl, hd, hg⟩
      have HWf : Hid (Below w.heap.size w wf) := HW9.out.grown hg HW9.out.size (fun j hj => by cases hj; exact HQ.out.2.1)
      have HZf : Hid (wf.heap[G0]? = some (.cells #[.int .i64 0, .int .u64 0, .int .u64 0, .int .i64 0, .int .i64 0, .int .i64 0, .slice none 0 0, .int .i64 0, .slice none 0 0] 26 (0, 0))) := gr_box hg (by have := HQ.out; omega) HZ9.out
      rw [if_pos rfl] at hd
      clear c1
      have c1 := hd.c1
      have c1d : wf.drew.cell? ⟨q, 1, none⟩ = some (.int .i64 11) := c1
      have c1s : ∀ cs, (wf.drew.setCells G0 0 cs).cell? ⟨q, 1, none⟩ = some (.int .i64 11) := fun cs => gr_cellU (setCells_grown _ _ _ _) c1d (by have := HQ.out; omega)
      clear hd hg c0
      go_wp2_with fail
      refine wp_region_noPanic ?_
      refine wp_region_held_drew (S := (fun u => u.cell? ⟨q, 1, none⟩ = some (.int .i64 11))) (by kernel_rfl) (by with_reducible first | exact c1 | exact c1d | exact c1s _) (fun hHeld => ?_)
      refine take_at (i := 0) 101 (v := ?_) rfl rfl (by kernel_rfl) (by kernel_rfl) (by kernel_rfl) (fun _ _ _ h => h) (by rfl) ?_ hHeld ?_
      rotate_left
      · (intro w hSw; (try dsimp only at hSw); go_simp; try with_reducible rfl)
      simp only [Act.put, List.setIfInBounds_toArray, List.set_cons_zero, List.set_cons_succ]
      refine take_at (i := 1) 102 (v := ?_) rfl rfl (by kernel_rfl) (by kernel_rfl) (by kernel_rfl) (fun _ _ _ h => h) (by rfl) ?_ hHeld ?_
      rotate_left
      · (intro w hSw; (try dsimp only at hSw); go_simp; try with_reducible rfl)
      simp only [Act.put, List.setIfInBounds_toArray, List.set_cons_zero, List.set_cons_succ]
      refine take_at (i := 2) 103 (v := ?_) rfl rfl (by kernel_rfl) (by kernel_rfl) (by kernel_rfl) (fun _ _ _ h => h) (by rfl) ?_ hHeld ?_
      rotate_left
      · (intro w hSw; (try dsimp only at hSw); go_simp; try with_reducible rfl)
      simp only [Act.put, List.setIfInBounds_toArray, List.set_cons_zero, List.set_cons_succ]
      refine take_at (i := 3) 104 (v := ?_) rfl rfl (by kernel_rfl) (by kernel_rfl) (by kernel_rfl) (fun _ _ _ h => h) (by rfl) ?_ hHeld ?_
      rotate_left
      · (intro w hSw; (try dsimp only at hSw); go_simp; try with_reducible rfl)
      simp only [Act.put, List.setIfInBounds_toArray, List.set_cons_zero, List.set_cons_succ]
      refine take_at (i := 4) 105 (v := ?_) rfl rfl (by kernel_rfl) (by kernel_rfl) (by kernel_rfl) (fun _ _ _ h => h) (by rfl) ?_ hHeld ?_
      rotate_left
      · (intro w hSw; (try dsimp only at hSw); go_simp; try with_reducible rfl)
      simp only [Act.put, List.setIfInBounds_toArray, List.set_cons_zero, List.set_cons_succ]
      refine run_at (i := 5) rfl (by kernel_rfl) (by rfl) (fun K hK => ?_)
      simp only [List.getElem_toArray, List.getElem_cons_zero, List.getElem_cons_succ]
      refine wp_store_mid 26 _ _ rfl G0 0 #[.int .i64 0, .int .u64 0, .int .u64 0, .int .i64 0, .int .i64 0, .int .i64 0, .slice none 0 0, .int .i64 0, .slice none 0 0] rfl rfl (box_there (w := wf.drew) HZf.out rfl) (by kernel_rfl) (by simp [Value.oneCell']) ?_
      refine hK.out _ _ (by with_reducible first | exact c1 | exact c1d | exact c1s _) ?_
      clear hK K
      intro hHeld2
      clear hHeld
      have hHeld := hHeld2
      clear hHeld2
      try simp only [Act.put, List.setIfInBounds_toArray, List.set_cons_zero, List.set_cons_succ]
      refine take_at (i := 6) 3 (v := ?_) rfl rfl (by kernel_rfl) (by kernel_rfl) (by kernel_rfl) (fun _ _ _ h => h) (by rfl) ?_ hHeld ?_
      rotate_left
      · (intro w hSw; (try dsimp only at hSw); go_simp; try with_reducible rfl)
      simp only [Act.put, List.setIfInBounds_toArray, List.set_cons_zero, List.set_cons_succ]
      refine wpAnyH_done (by kernel_rfl) ?_ _
      refine NoPanic.normal ?_
      go_wp2
      (try simp only [Exit.inBlock, Exit.then])
      refine bodyPost_ret (results_ct Tryd.results20 _ _ G0 26 #[.int .i64 0, .int .u64 0, .int .u64 0, .int .i64 0, .int .i64 0, .int .i64 0, .slice none 0 0, .int .i64 0, .slice none 0 0] (0, 0) _ rfl (box_set (w := wf.drew) HZf.out rfl) Tryd.underlying26 rfl (by kernel_rfl)) rfl ?_
      have hfin := setCells_grown G0 [.int .i64 0, .int .u64 0, .int .u64 0, .int .i64 0, .int .i64 0, .int .i64 0, .slice none 0 0, .int .i64 0, .slice none 0 0] 0 wf.drew
      unfold DecR
      rw [if_neg (by rw [HY1.out]; decide), HY1.out]
      exact DecOut.zero (HWf.out.drew.grown hfin HWf.out.drew.size (fun j hj => by cases hj; exact Nat.le_of_eq HG0.out.symm))
  · have hFb : (F == 0) = false := by simpa using hF
    have HY1 : Hid (rEnd y3 (mustF b3 f3) = F) := by unfold Hid rEnd; rw [← HYY.out, ← HFF.out, if_neg hF]
    have HNF : Hid (¬ F = 0) := hF
    have c1d : w9.drew.cell? ⟨q, 1, none⟩ = some (.int .i64 F) := c1
    have c1s : ∀ cs, (w9.drew.setCells G0 0 cs).cell? ⟨q, 1, none⟩ = some (.int .i64 F) := fun cs => gr_cellU (setCells_grown _ _ _ _) c1d (by have := HQ.out; omega)
    go_wp2_with fail
    refine wp_region_noPanic ?_
    refine wp_region_held_drew (S := (fun u => u.cell? ⟨q, 1, none⟩ = some (.int .i64 F))) (by kernel_rfl) (by with_reducible first | exact c1 | exact c1d | exact c1s _) (fun hHeld => ?_)
    refine take_at (i := 0) 101 (v := ?_) rfl rfl (by kernel_rfl) (by kernel_rfl) (by kernel_rfl) (fun _ _ _ h => h) (by rfl) ?_ hHeld ?_
    rotate_left
    · (intro w hSw; (try dsimp only at hSw); go_simp; try with_reducible rfl)
    simp only [Act.put, List.setIfInBounds_toArray, List.set_cons_zero, List.set_cons_succ]
    refine take_at (i := 1) 102 (v := ?_) rfl rfl (by kernel_rfl) (by kernel_rfl) (by kernel_rfl) (fun _ _ _ h => h) (by rfl) ?_ hHeld ?_
    rotate_left
    · (intro w hSw; (try dsimp only at hSw); go_simp; try with_reducible rfl)
    simp only [Act.put, List.setIfInBounds_toArray, List.set_cons_zero, List.set_cons_succ]
    refine take_at (i := 2) 103 (v := ?_) rfl rfl (by kernel_rfl) (by kernel_rfl) (by kernel_rfl) (fun _ _ _ h => h) (by rfl) ?_ hHeld ?_
    rotate_left
    · (intro w hSw; (try dsimp only at hSw); go_simp; try with_reducible rfl)
    simp only [Act.put, List.setIfInBounds_toArray, List.set_cons_zero, List.set_cons_succ]
    refine take_at (i := 3) 104 (v := ?_) rfl rfl (by kernel_rfl) (by kernel_rfl) (by kernel_rfl) (fun _ _ _ h => h) (by rfl) ?_ hHeld ?_
    rotate_left
    · (intro w hSw; (try dsimp only at hSw); go_simp; try with_reducible rfl)
    simp only [Act.put, List.setIfInBounds_toArray, List.set_cons_zero, List.set_cons_succ]
    refine take_at (i := 4) 105 (v := ?_) rfl rfl (by kernel_rfl) (by kernel_rfl) (by kernel_rfl) (fun _ _ _ h => h) (by rfl) ?_ hHeld ?_
    rotate_left
    · (intro w hSw; (try dsimp only at hSw); go_simp; try with_reducible rfl)
    simp only [Act.put, List.setIfInBounds_toArray, List.set_cons_zero, List.set_cons_succ]
    refine run_at (i := 5) rfl (by kernel_rfl) (by rfl) (fun K hK => ?_)
    simp only [List.getElem_toArray, List.getElem_cons_zero, List.getElem_cons_succ]
    refine wp_store_mid 26 _ _ rfl G0 0 #[.int .i64 0, .int .u64 0, .int .u64 0, .int .i64 0, .int .i64 0, .int .i64 0, .slice none 0 0, .int .i64 0, .slice none 0 0] rfl rfl (box_there (w := w9.drew) HZ9.out rfl) (by kernel_rfl) (by simp [Value.oneCell']) ?_
    refine hK.out _ _ (by with_reducible first | exact c1 | exact c1d | exact c1s _) ?_
    clear hK K
    intro hHeld2
    clear hHeld
    have hHeld := hHeld2
    clear hHeld2
    try simp only [Act.put, List.setIfInBounds_toArray, List.set_cons_zero, List.set_cons_succ]
    refine take_at (i := 6) 3 (v := ?_) rfl rfl (by kernel_rfl) (by kernel_rfl) (by kernel_rfl) (fun _ _ _ h => h) (by rfl) ?_ hHeld ?_
    rotate_left
    · (intro w hSw; (try dsimp only at hSw); go_simp; try with_reducible rfl)
    simp only [Act.put, List.setIfInBounds_toArray, List.set_cons_zero, List.set_cons_succ]
    refine wpAnyH_done (by kernel_rfl) ?_ _
    refine NoPanic.normal ?_
    go_wp2
    (try simp only [Exit.inBlock, Exit.then])
    refine bodyPost_ret (results_ct Tryd.results20 _ _ G0 26 #[.int .i64 0, .int .u64 0, .int .u64 0, .int .i64 0, .int .i64 0, .int .i64 0, .slice none 0 0, .int .i64 0, .slice none 0 0] (0, 0) _ rfl (box_set (w := w9.drew) HZ9.out rfl) Tryd.underlying26 rfl (by kernel_rfl)) rfl ?_
    have hfin := setCells_grown G0 [.int .i64 0, .int .u64 0, .int .u64 0, .int .i64 0, .int .i64 0, .int .i64 0, .slice none 0 0, .int .i64 0, .slice none 0 0] 0 w9.drew
    unfold DecR
    rw [if_neg (by rw [HY1.out]; exact HNF.out), HY1.out]
    exact DecOut.zero (HW9.out.drew.grown hfin HW9.out.drew.size (fun j hj => by cases hj; exact Nat.le_of_eq HG0.out.symm))
end
end Go.Proofs.YtjigbopkmffjaaaDoor
namespace Go.Proofs.YtjigbopkmffjaaaDoor
set_option linter.unusedVariables false
set_option linter.unusedSimpArgs false
open Go.RowKit
section
set_option maxRecDepth 20000
set_option maxHeartbeats 6400000
theorem rdec_1 (ao : Option Addr) (n cap : Nat) (xs : List UInt8) (hn : n = xs.length) (w : World) (hx : Rd w ao xs) (hlc : n ≤ cap) (hcm : cap ≤ 9223372036854775807) (hl : n ≤ 140737488355328) {X : List UInt8} (hun : unS xs = (X, 0)) {n1 n2 n3 : Nat} {y1 y2 y3 : List UInt8} {f1 f2 f3 : Int} (b2 b3 : Bool) (e1 : smD 1 3 (X, 0) = (1, y1, f1)) (e2 : nmS mxU (y1, f1) = (n2, y2, f2)) (hb2 : b2 = decide (0 < n2)) (e3 : nmS mxU (y2, mustF b2 f2) = (n3, y3, f3)) (hb3 : b3 = decide (0 < n3)) {p1 i1 t1 : Nat} {v1 v2 v3 v4 d : List UInt8} {g1 g2 g3 g4 : Int} (b4 : Bool) (s1 : smD 1 2 (y3, mustF b3 f3) = (p1, v1, g1)) (s2 : smD 0 63 (v1, g1) = (i1, v2, g2)) (s3 : smD (i1 + 1) 64 (v2, g2) = (t1, v3, g3)) (s4 : byS 1024 (v3, g3) = (d, v4, g4)) (hb4 : b4 = decide (0 < d.length))  :
    Calls Tryd.prog 20 #[.slice ao n cap] w fun er w' => DecR (⟨1, (n2 : Nat), (n3 : Nat), (p1 : Nat), (i1 : Nat), (t1 : Nat), d, 0, []⟩) v4 (mustF b4 g4) w er w' := by
  have HUN : Hid _ := fun (u : World) (hu : Below w.heap.size w u) => refUns_b ao n cap xs hn u (hx.below hu) hlc hcm hl hun
  have HS1 : Hid _ := s1
  have HS2 : Hid _ := s2
  have HS4 : Hid _ := s4
  have hi1 := (smD_le s2).1
  have hwi : IntKind.i64.wrap ((i1 : Int) + 1) = (i1 : Int) + 1 := by rw [IntKind.wrap_i64]; omega
  have HS3 : Hid (∀ (q B N : Nat) (u : World), DX u q B N v2 g2 → Calls Tryd.prog 48 #[.pointer (some ⟨q, 0, none⟩), .int .i64 ((i1 : Int) + 1), .int .i64 64] u fun e w' => e = .returned (.int .i64 (t1 : Nat)) ∧ DX w' q B N v3 g3 ∧ u.grownBy w' (some q)) := fun q B N u hu => by
    have h9 := small_x (i1 + 1) 64 (by omega) (by decide) u hu s3
    rw [show (((i1 + 1 : Nat)) : Int) = (i1 : Int) + 1 by omega] at h9
    exact h9
  obtain ⟨D, hD⟩ : ∃ D, D = d.length := ⟨_, rfl⟩
  have HDD : Hid (D = d.length) := hD
  have HQ4 : Hid (b4 = decide (0 < D)) := by unfold Hid; rw [hb4, hD]
  clear s1 s2 s3 s4 hb4 hi1 hD
  have HQ2 : Hid (b2 = decide (0 < n2)) := hb2
  have HQ3 : Hid (b3 = decide (0 < n3)) := hb3
  clear hb2 hb3
  have HXL : Hid (X.length ≤ 140737488355328) := by
    have h9 := unS_len xs
    rw [hun] at h9
    unfold Hid
    simp only at h9
    omega
  have HE1 : Hid _ := e1
  have HE2 : Hid _ := e2
  have HE3 : Hid _ := e3
  clear e1 e2 e3
  clear hx hn hlc hcm hl hun
  go_enter Tryd.func20, Tryd.ntmps20
  go_wp2_with fail
  refine Calls.mono (HUN.out _ (al (Below.refl _ _) _)) ?_
  rintro er1 w1 ⟨a1, L1, c1, rfl, hL1, hr1, hn1, hb1⟩
  have HL1 : Hid (L1 = X.length) := hL1
  have HR1 : Hid (Rd w1 a1 X) := hr1
  have HN1 : Hid (a1 = none → c1 = 0) := hn1
  have HB1 : Hid (Below w.heap.size w w1) := below_next (al (Below.refl _ _) _) hb1
  obtain ⟨G0, hG0⟩ : ∃ g, g = w.heap.size := ⟨_, rfl⟩
  have HG0 : Hid (G0 = w.heap.size) := hG0
  have HZ1 : Hid (w1.heap[G0]? = some (.cells #[.int .i64 0, .int .u64 0, .int .u64 0, .int .i64 0, .int .i64 0, .int .i64 0, .slice none 0 0, .int .i64 0, .slice none 0 0] 26 (0, 0))) := by unfold Hid; rw [hG0]; exact (hb1.block w.heap.size (by simp)).trans (heap_alloc_new w _)
  rw [← hG0]
  clear hL1 hr1 hn1 hb1 hG0
  go_wp2_with fail
  refine Calls.mono (new_x a1 L1 c1 X HL1.out w1 HR1.out HN1.out (by rw [HL1.out]; exact HXL.out)) ?_
  rintro er1 w2 ⟨q, rfl, hd2, hb2⟩
  obtain ⟨B, hB⟩ : ∃ B, B = w1.heap.size := ⟨_, rfl⟩
  obtain ⟨N, hN⟩ : ∃ N, N = w2.heap.size := ⟨_, rfl⟩
  rw [← hB, ← hN] at hd2
  have HD2 : Hid (DX w2 q B N X 0) := hd2
  have HB2 : Hid (Below w.heap.size w w2) := below_next HB1.out hb2
  have HZ2 : Hid (w2.heap[G0]? = some (.cells #[.int .i64 0, .int .u64 0, .int .u64 0, .int .i64 0, .int .i64 0, .int .i64 0, .slice none 0 0, .int .i64 0, .slice none 0 0] 26 (0, 0))) := (hb2.block G0 (Array.getElem?_eq_some_iff.1 HZ1.out).1).trans HZ1.out
  have HQ : Hid (G0 < q ∧ w.heap.size ≤ q ∧ q < N ∧ G0 = w.heap.size) := by
    have h1 := hd2.lt
    have h2 := (Array.getElem?_eq_some_iff.1 HZ1.out).1
    have h4 := HG0.out
    exact ⟨by omega, by omega, h1.2, h4⟩
  have HNN : Hid (N = w2.heap.size) := hN
  clear hd2 hb2 hB hN
  go_wp2_with fail
  refine Calls.mono (small_x 1 3 (by decide) (by decide) _ HD2.out HE1.out) ?_
  rintro er1 w3 ⟨rfl, hd, hg⟩
  have HD3 : Hid (DX w3 q B N y1 f1) := hd
  have HW3 : Hid (Below w.heap.size w w3) := HB2.out.grown hg HB2.out.size (fun j hj => by cases hj; exact HQ.out.2.1)
  have HZ3 : Hid (w3.heap[G0]? = some (.cells #[.int .i64 0, .int .u64 0, .int .u64 0, .int .i64 0, .int .i64 0, .int .i64 0, .slice none 0 0, .int .i64 0, .slice none 0 0] 26 (0, 0))) := gr_box hg (by have := HQ.out; omega) HZ2.out
  obtain ⟨g, hgg⟩ : ∃ g, g = w3.heap.size := ⟨_, rfl⟩
  have HGE : Hid (g = w3.heap.size) := hgg
  have HGN : Hid (N ≤ g) := by have h1 := hg.size; have h2 := HNN.out; unfold Hid; omega
  have hss := fun (u : World) (a : Addr) (o : Option Addr) (n c : Nat) => run_store Tryd.prog u a (.slice o n c) .plain rfl
  clear hd hg
  go_wp2_with fail
  rw [← hgg]
  clear hgg hss
  refine Calls.mono (number_x (m := mxU) _ (HD3.out.below (al (Below.refl _ _) _)) HE2.out) ?_
  rintro er1 w4 ⟨rfl, hd, hg⟩
  have HD4 : Hid (DX w4 q B N y2 f2) := hd
  have HU4 : Hid (UBx w4 g #[.int .i64 1, .int .u64 0, .int .u64 0, .int .i64 0, .int .i64 0, .int .i64 0, .slice none 0 0, .int .i64 0, .slice none 0 0]) := gr_box hg (by have := HQ.out; have := HGN.out; omega) (by rw [HGE.out]; exact heap_alloc_new w3 _)
  have HW4 : Hid (Below w.heap.size w w4) := (HW3.out.alloc HW3.out.size _).grown hg (HW3.out.alloc HW3.out.size _).size (fun j hj => by cases hj; exact HQ.out.2.1)
  have HZ4 : Hid (w4.heap[G0]? = some (.cells #[.int .i64 0, .int .u64 0, .int .u64 0, .int .i64 0, .int .i64 0, .int .i64 0, .slice none 0 0, .int .i64 0, .slice none 0 0] 26 (0, 0))) := gr_box hg (by have := HQ.out; omega) (((al (Below.refl _ _) _).block G0 (Array.getElem?_eq_some_iff.1 HZ3.out).1).trans HZ3.out)
  clear hd hg
  have cs5 : w4.cell? ⟨g, 1, none⟩ = some (.int .u64 0) := by rw [cell_of_row _ _ _ _ _ _ HU4.out]; rfl
  have zs5 : w4.frozen? ⟨g, 1, none⟩ = false := by simp [World.frozen?, HU4.out]
  obtain ⟨w5, hx5⟩ : ∃ x : World, x = w4.setCell ⟨g, 1, none⟩ (.int .u64 (n2 : Nat)) := ⟨_, rfl⟩
  have HX5 : Hid (w4.grownBy w5 (some g)) := by unfold Hid; rw [hx5]; exact gset1 _ _ _ _
  have HU5 : Hid (UBx w5 g #[.int .i64 1, .int .u64 (n2 : Nat), .int .u64 0, .int .i64 0, .int .i64 0, .int .i64 0, .slice none 0 0, .int .i64 0, .slice none 0 0]) := by unfold Hid UBx; rw [hx5, heap_setCell_same w4 g 1 _ _ _ HU4.out]; rfl
  have HD5 : Hid (DX w5 q B N y2 f2) := DX.grown HD4.out HX5.out (.inr HGN.out)
  have HW5 : Hid (Below w.heap.size w w5) := HW4.out.grown HX5.out HW4.out.size (fun j hj => by cases hj; have := HQ.out; have := HGN.out; omega)
  have HZ5 : Hid (w5.heap[G0]? = some (.cells #[.int .i64 0, .int .u64 0, .int .u64 0, .int .i64 0, .int .i64 0, .int .i64 0, .slice none 0 0, .int .i64 0, .slice none 0 0] 26 (0, 0))) := gr_box HX5.out (by have := HQ.out; have := HGN.out; omega) HZ4.out
  have hbb : b2 = decide ((0 : Int) < (n2 : Int)) := by rw [HQ2.out]; exact decide_eq_decide.2 (by omega)
  go_wp2_with fail
  first | rw [← hbb] | (have hbb' : b2 = decide (0 < n2) := HQ2.out; rw [← hbb']; clear hbb')
  clear hbb
  rw [← hx5]
  clear hx5 cs5 zs5
  refine Calls.mono (want_x b2 _ HD5.out) ?_
  rintro er1 w6 ⟨rfl, hd, hg⟩
  have HD6 : Hid (DX w6 q B N y2 (mustF b2 f2)) := hd
  have HU6 : Hid (UBx w6 g #[.int .i64 1, .int .u64 (n2 : Nat), .int .u64 0, .int .i64 0, .int .i64 0, .int .i64 0, .slice none 0 0, .int .i64 0, .slice none 0 0]) := gr_box hg (by have := HQ.out; have := HGN.out; omega) HU5.out
  have HW6 : Hid (Below w.heap.size w w6) := HW5.out.grown hg HW5.out.size (fun j hj => by cases hj; exact HQ.out.2.1)
  have HZ6 : Hid (w6.heap[G0]? = some (.cells #[.int .i64 0, .int .u64 0, .int .u64 0, .int .i64 0, .int .i64 0, .int .i64 0, .slice none 0 0, .int .i64 0, .slice none 0 0] 26 (0, 0))) := gr_box hg (by have := HQ.out; omega) HZ5.out
  clear hd hg
  go_wp2_with fail
  refine Calls.mono (number_x (m := mxU) _ HD6.out HE3.out) ?_
  rintro er1 w7 ⟨rfl, hd, hg⟩
  have HD7 : Hid (DX w7 q B N y3 f3) := hd
  have HU7 : Hid (UBx w7 g #[.int .i64 1, .int .u64 (n2 : Nat), .int .u64 0, .int .i64 0, .int .i64 0, .int .i64 0, .slice none 0 0, .int .i64 0, .slice none 0 0]) := gr_box hg (by have := HQ.out; have := HGN.out; omega) HU6.out
  have HW7 : Hid (Below w.heap.size w w7) := HW6.out.grown hg HW6.out.size (fun j hj => by cases hj; exact HQ.out.2.1)
  have HZ7 : Hid (w7.heap[G0]? = some (.cells #[.int .i64 0, .int .u64 0, .int .u64 0, .int .i64 0, .int .i64 0, .int .i64 0, .slice none 0 0, .int .i64 0, .slice none 0 0] 26 (0, 0))) := gr_box hg (by have := HQ.out; omega) HZ6.out
  clear hd hg
  have cs8 : w7.cell? ⟨g, 2, none⟩ = some (.int .u64 0) := by rw [cell_of_row _ _ _ _ _ _ HU7.out]; rfl
  have zs8 : w7.frozen? ⟨g, 2, none⟩ = false := by simp [World.frozen?, HU7.out]
  obtain ⟨w8, hx8⟩ : ∃ x : World, x = w7.setCell ⟨g, 2, none⟩ (.int .u64 (n3 : Nat)) := ⟨_, rfl⟩
  have HX8 : Hid (w7.grownBy w8 (some g)) := by unfold Hid; rw [hx8]; exact gset1 _ _ _ _
  have HU8 : Hid (UBx w8 g #[.int .i64 1, .int .u64 (n2 : Nat), .int .u64 (n3 : Nat), .int .i64 0, .int .i64 0, .int .i64 0, .slice none 0 0, .int .i64 0, .slice none 0 0]) := by unfold Hid UBx; rw [hx8, heap_setCell_same w7 g 2 _ _ _ HU7.out]; rfl
  have HD8 : Hid (DX w8 q B N y3 f3) := DX.grown HD7.out HX8.out (.inr HGN.out)
  have HW8 : Hid (Below w.heap.size w w8) := HW7.out.grown HX8.out HW7.out.size (fun j hj => by cases hj; have := HQ.out; have := HGN.out; omega)
  have HZ8 : Hid (w8.heap[G0]? = some (.cells #[.int .i64 0, .int .u64 0, .int .u64 0, .int .i64 0, .int .i64 0, .int .i64 0, .slice none 0 0, .int .i64 0, .slice none 0 0] 26 (0, 0))) := gr_box HX8.out (by have := HQ.out; have := HGN.out; omega) HZ7.out
  have hbb : b3 = decide ((0 : Int) < (n3 : Int)) := by rw [HQ3.out]; exact decide_eq_decide.2 (by omega)
  go_wp2_with fail
  first | rw [← hbb] | (have hbb' : b3 = decide (0 < n3) := HQ3.out; rw [← hbb']; clear hbb')
  clear hbb
  rw [← hx8]
  clear hx8 cs8 zs8
  refine Calls.mono (want_x b3 _ HD8.out) ?_
  rintro er1 w9 ⟨rfl, hd, hg⟩
  have HD9 : Hid (DX w9 q B N y3 (mustF b3 f3)) := hd
  have HU9 : Hid (UBx w9 g #[.int .i64 1, .int .u64 (n2 : Nat), .int .u64 (n3 : Nat), .int .i64 0, .int .i64 0, .int .i64 0, .slice none 0 0, .int .i64 0, .slice none 0 0]) := gr_box hg (by have := HQ.out; have := HGN.out; omega) HU8.out
  have HW9 : Hid (Below w.heap.size w w9) := HW8.out.grown hg HW8.out.size (fun j hj => by cases hj; exact HQ.out.2.1)
  have HZ9 : Hid (w9.heap[G0]? = some (.cells #[.int .i64 0, .int .u64 0, .int .u64 0, .int .i64 0, .int .i64 0, .int .i64 0, .slice none 0 0, .int .i64 0, .slice none 0 0] 26 (0, 0))) := gr_box hg (by have := HQ.out; omega) HZ8.out
  clear hd hg
  have ck9 : w9.cell? ⟨g, 0, none⟩ = some (.int .i64 1) := by rw [cell_of_row _ _ _ _ _ _ HU9.out]; rfl
  go_wp2_with fail
  refine Calls.mono (small_x 1 2 (by decide) (by decide) _ HD9.out HS1.out) ?_
  rintro er1 w10 ⟨rfl, hd, hg⟩
  have HD10 : Hid (DX w10 q B N v1 g1) := hd
  have HU10 : Hid (UBx w10 g #[.int .i64 1, .int .u64 (n2 : Nat), .int .u64 (n3 : Nat), .int .i64 0, .int .i64 0, .int .i64 0, .slice none 0 0, .int .i64 0, .slice none 0 0]) := gr_box hg (by have := HQ.out; have := HGN.out; omega) HU9.out
  have HW10 : Hid (Below w.heap.size w w10) := HW9.out.grown hg HW9.out.size (fun j hj => by cases hj; exact HQ.out.2.1)
  have HZ10 : Hid (w10.heap[G0]? = some (.cells #[.int .i64 0, .int .u64 0, .int .u64 0, .int .i64 0, .int .i64 0, .int .i64 0, .slice none 0 0, .int .i64 0, .slice none 0 0] 26 (0, 0))) := gr_box hg (by have := HQ.out; omega) HZ9.out
  clear hd hg
  clear ck9
  have cs11 : w10.cell? ⟨g, 3, none⟩ = some (.int .i64 0) := by rw [cell_of_row _ _ _ _ _ _ HU10.out]; rfl
  have zs11 : w10.frozen? ⟨g, 3, none⟩ = false := by simp [World.frozen?, HU10.out]
  obtain ⟨w11, hx11⟩ : ∃ x : World, x = w10.setCell ⟨g, 3, none⟩ (.int .i64 (p1 : Nat)) := ⟨_, rfl⟩
  have HX11 : Hid (w10.grownBy w11 (some g)) := by unfold Hid; rw [hx11]; exact gset1 _ _ _ _
  have HU11 : Hid (UBx w11 g #[.int .i64 1, .int .u64 (n2 : Nat), .int .u64 (n3 : Nat), .int .i64 (p1 : Nat), .int .i64 0, .int .i64 0, .slice none 0 0, .int .i64 0, .slice none 0 0]) := by unfold Hid UBx; rw [hx11, heap_setCell_same w10 g 3 _ _ _ HU10.out]; rfl
  have HD11 : Hid (DX w11 q B N v1 g1) := DX.grown HD10.out HX11.out (.inr HGN.out)
  have HW11 : Hid (Below w.heap.size w w11) := HW10.out.grown HX11.out HW10.out.size (fun j hj => by cases hj; have := HQ.out; have := HGN.out; omega)
  have HZ11 : Hid (w11.heap[G0]? = some (.cells #[.int .i64 0, .int .u64 0, .int .u64 0, .int .i64 0, .int .i64 0, .int .i64 0, .slice none 0 0, .int .i64 0, .slice none 0 0] 26 (0, 0))) := gr_box HX11.out (by have := HQ.out; have := HGN.out; omega) HZ10.out
  go_wp2_with fail
  rw [← hx11]
  clear hx11 cs11 zs11
  refine Calls.mono (small_x 0 63 (by decide) (by decide) _ HD11.out HS2.out) ?_
  rintro er1 w12 ⟨rfl, hd, hg⟩
  have HD12 : Hid (DX w12 q B N v2 g2) := hd
  have HU12 : Hid (UBx w12 g #[.int .i64 1, .int .u64 (n2 : Nat), .int .u64 (n3 : Nat), .int .i64 (p1 : Nat), .int .i64 0, .int .i64 0, .slice none 0 0, .int .i64 0, .slice none 0 0]) := gr_box hg (by have := HQ.out; have := HGN.out; omega) HU11.out
  have HW12 : Hid (Below w.heap.size w w12) := HW11.out.grown hg HW11.out.size (fun j hj => by cases hj; exact HQ.out.2.1)
  have HZ12 : Hid (w12.heap[G0]? = some (.cells #[.int .i64 0, .int .u64 0, .int .u64 0, .int .i64 0, .int .i64 0, .int .i64 0, .slice none 0 0, .int .i64 0, .slice none 0 0] 26 (0, 0))) := gr_box hg (by have := HQ.out; omega) HZ11.out
  clear hd hg
  have cs13 : w12.cell? ⟨g, 4, none⟩ = some (.int .i64 0) := by rw [cell_of_row _ _ _ _ _ _ HU12.out]; rfl
  have zs13 : w12.frozen? ⟨g, 4, none⟩ = false := by simp [World.frozen?, HU12.out]
  obtain ⟨w13, hx13⟩ : ∃ x : World, x = w12.setCell ⟨g, 4, none⟩ (.int .i64 (i1 : Nat)) := ⟨_, rfl⟩
  have HX13 : Hid (w12.grownBy w13 (some g)) := by unfold Hid; rw [hx13]; exact gset1 _ _ _ _
  have HU13 : Hid (UBx w13 g #[.int .i64 1, .int .u64 (n2 : Nat), .int .u64 (n3 : Nat), .int .i64 (p1 : Nat), .int .i64 (i1 : Nat), .int .i64 0, .slice none 0 0, .int .i64 0, .slice none 0 0]) := by unfold Hid UBx; rw [hx13, heap_setCell_same w12 g 4 _ _ _ HU12.out]; rfl
  have HD13 : Hid (DX w13 q B N v2 g2) := DX.grown HD12.out HX13.out (.inr HGN.out)
  have HW13 : Hid (Below w.heap.size w w13) := HW12.out.grown HX13.out HW12.out.size (fun j hj => by cases hj; have := HQ.out; have := HGN.out; omega)
  have HZ13 : Hid (w13.heap[G0]? = some (.cells #[.int .i64 0, .int .u64 0, .int .u64 0, .int .i64 0, .int .i64 0, .int .i64 0, .slice none 0 0, .int .i64 0, .slice none 0 0] 26 (0, 0))) := gr_box HX13.out (by have := HQ.out; have := HGN.out; omega) HZ12.out
  go_wp2_with fail
  rw [← hx13]
  clear hx13 cs13 zs13
  refine Calls.mono (HS3.out q B N _ HD13.out) ?_
  rintro er1 w14 ⟨rfl, hd, hg⟩
  have HD14 : Hid (DX w14 q B N v3 g3) := hd
  have HU14 : Hid (UBx w14 g #[.int .i64 1, .int .u64 (n2 : Nat), .int .u64 (n3 : Nat), .int .i64 (p1 : Nat), .int .i64 (i1 : Nat), .int .i64 0, .slice none 0 0, .int .i64 0, .slice none 0 0]) := gr_box hg (by have := HQ.out; have := HGN.out; omega) HU13.out
  have HW14 : Hid (Below w.heap.size w w14) := HW13.out.grown hg HW13.out.size (fun j hj => by cases hj; exact HQ.out.2.1)
  have HZ14 : Hid (w14.heap[G0]? = some (.cells #[.int .i64 0, .int .u64 0, .int .u64 0, .int .i64 0, .int .i64 0, .int .i64 0, .slice none 0 0, .int .i64 0, .slice none 0 0] 26 (0, 0))) := gr_box hg (by have := HQ.out; omega) HZ13.out
  clear hd hg
  have cs15 : w14.cell? ⟨g, 5, none⟩ = some (.int .i64 0) := by rw [cell_of_row _ _ _ _ _ _ HU14.out]; rfl
  have zs15 : w14.frozen? ⟨g, 5, none⟩ = false := by simp [World.frozen?, HU14.out]
  obtain ⟨w15, hx15⟩ : ∃ x : World, x = w14.setCell ⟨g, 5, none⟩ (.int .i64 (t1 : Nat)) := ⟨_, rfl⟩
  have HX15 : Hid (w14.grownBy w15 (some g)) := by unfold Hid; rw [hx15]; exact gset1 _ _ _ _
  have HU15 : Hid (UBx w15 g #[.int .i64 1, .int .u64 (n2 : Nat), .int .u64 (n3 : Nat), .int .i64 (p1 : Nat), .int .i64 (i1 : Nat), .int .i64 (t1 : Nat), .slice none 0 0, .int .i64 0, .slice none 0 0]) := by unfold Hid UBx; rw [hx15, heap_setCell_same w14 g 5 _ _ _ HU14.out]; rfl
  have HD15 : Hid (DX w15 q B N v3 g3) := DX.grown HD14.out HX15.out (.inr HGN.out)
  have HW15 : Hid (Below w.heap.size w w15) := HW14.out.grown HX15.out HW14.out.size (fun j hj => by cases hj; have := HQ.out; have := HGN.out; omega)
  have HZ15 : Hid (w15.heap[G0]? = some (.cells #[.int .i64 0, .int .u64 0, .int .u64 0, .int .i64 0, .int .i64 0, .int .i64 0, .slice none 0 0, .int .i64 0, .slice none 0 0] 26 (0, 0))) := gr_box HX15.out (by have := HQ.out; have := HGN.out; omega) HZ14.out
  go_wp2_with fail
  rw [← hx15]
  clear hx15 cs15 zs15
  refine Calls.mono (bytes_x 1024 (by decide) _ HD15.out HS4.out) ?_
  rintro er1 w16 ⟨a8, c8, rfl, ho8, hd, hg⟩
  have HD16 : Hid (DX w16 q B N v4 g4) := hd
  have HU16 : Hid (UBx w16 g #[.int .i64 1, .int .u64 (n2 : Nat), .int .u64 (n3 : Nat), .int .i64 (p1 : Nat), .int .i64 (i1 : Nat), .int .i64 (t1 : Nat), .slice none 0 0, .int .i64 0, .slice none 0 0]) := gr_box hg (by have := HQ.out; have := HGN.out; omega) HU15.out
  have HW16 : Hid (Below w.heap.size w w16) := HW15.out.grown hg HW15.out.size (fun j hj => by cases hj; exact HQ.out.2.1)
  have HZ16 : Hid (w16.heap[G0]? = some (.cells #[.int .i64 0, .int .u64 0, .int .u64 0, .int .i64 0, .int .i64 0, .int .i64 0, .slice none 0 0, .int .i64 0, .slice none 0 0] 26 (0, 0))) := gr_box hg (by have := HQ.out; omega) HZ15.out
  have HO16 : Hid (Own w16 (g + 1) (.slice a8 D c8) d) := Own.base (by rw [HDD.out]; exact ho8) (Array.getElem?_eq_some_iff.1 HU15.out).1
  rw [← HDD.out]
  clear ho8
  clear hd hg
  have cs17 : w16.cell? ⟨g, 6, none⟩ = some (.slice none 0 0) := by rw [cell_of_row _ _ _ _ _ _ HU16.out]; rfl
  have zs17 : w16.frozen? ⟨g, 6, none⟩ = false := by simp [World.frozen?, HU16.out]
  obtain ⟨w17, hx17⟩ : ∃ x : World, x = w16.setCell ⟨g, 6, none⟩ (.slice a8 D c8) := ⟨_, rfl⟩
  have HX17 : Hid (w16.grownBy w17 (some g)) := by unfold Hid; rw [hx17]; exact gset1 _ _ _ _
  have HU17 : Hid (UBx w17 g #[.int .i64 1, .int .u64 (n2 : Nat), .int .u64 (n3 : Nat), .int .i64 (p1 : Nat), .int .i64 (i1 : Nat), .int .i64 (t1 : Nat), .slice a8 D c8, .int .i64 0, .slice none 0 0]) := by unfold Hid UBx; rw [hx17, heap_setCell_same w16 g 6 _ _ _ HU16.out]; rfl
  have HD17 : Hid (DX w17 q B N v4 g4) := DX.grown HD16.out HX17.out (.inr HGN.out)
  have HW17 : Hid (Below w.heap.size w w17) := HW16.out.grown HX17.out HW16.out.size (fun j hj => by cases hj; have := HQ.out; have := HGN.out; omega)
  have HZ17 : Hid (w17.heap[G0]? = some (.cells #[.int .i64 0, .int .u64 0, .int .u64 0, .int .i64 0, .int .i64 0, .int .i64 0, .slice none 0 0, .int .i64 0, .slice none 0 0] 26 (0, 0))) := gr_box HX17.out (by have := HQ.out; have := HGN.out; omega) HZ16.out
  have HO17 : Hid (Own w17 (g + 1) (.slice a8 D c8) d) := own_lo HO16.out HX17.out (Nat.lt_succ_self _)
  have hbb : b4 = decide ((0 : Int) < (D : Int)) := by rw [HQ4.out]; exact decide_eq_decide.2 (by omega)
  go_wp2_with fail
  first | rw [← hbb] | (have hbb' : b4 = decide (0 < D) := HQ4.out; rw [← hbb']; clear hbb')
  clear hbb
  rw [← hx17]
  clear hx17 cs17 zs17
  refine Calls.mono (want_x b4 _ HD17.out) ?_
  rintro er1 w18 ⟨rfl, hd, hg⟩
  have HD18 : Hid (DX w18 q B N v4 (mustF b4 g4)) := hd
  have HU18 : Hid (UBx w18 g #[.int .i64 1, .int .u64 (n2 : Nat), .int .u64 (n3 : Nat), .int .i64 (p1 : Nat), .int .i64 (i1 : Nat), .int .i64 (t1 : Nat), .slice a8 D c8, .int .i64 0, .slice none 0 0]) := gr_box hg (by have := HQ.out; have := HGN.out; omega) HU17.out
  have HW18 : Hid (Below w.heap.size w w18) := HW17.out.grown hg HW17.out.size (fun j hj => by cases hj; exact HQ.out.2.1)
  have HZ18 : Hid (w18.heap[G0]? = some (.cells #[.int .i64 0, .int .u64 0, .int .u64 0, .int .i64 0, .int .i64 0, .int .i64 0, .slice none 0 0, .int .i64 0, .slice none 0 0] 26 (0, 0))) := gr_box hg (by have := HQ.out; omega) HZ17.out
  have HO18 : Hid (Own w18 (g + 1) (.slice a8 D c8) d) := own_lo HO17.out hg (by have := HQ.out; have := HGN.out; omega)
  clear hd hg
  obtain ⟨Y, hY⟩ : ∃ Y, Y = v4 := ⟨_, rfl⟩
  have HYY : Hid (Y = v4) := hY
  obtain ⟨F, hF⟩ : ∃ F, F = (mustF b4 g4) := ⟨_, rfl⟩
  have HFF : Hid (F = (mustF b4 g4)) := hF
  have HDE : Hid (DX w18 q B N Y F) := by rw [hY, hF]; exact HD18.out
  clear hY hF
  have c1 := HDE.out.c1
  obtain ⟨ra, rc, c0⟩ := HDE.out.c0
  by_cases hF : F = 0
  · by_cases hY : Y = []
    · -- all is well
      have HY0 : Hid (Y = [] ∧ F = 0) := ⟨hY, hF⟩
      subst hF
      subst hY
      go_wp2_with (first
        | (refine wpList_load_g (by rfl) 26 _ rfl g 0 (by rfl) [.int .i64 1, .int .u64 (n2 : Nat), .int .u64 (n3 : Nat), .int .i64 (p1 : Nat), .int .i64 (i1 : Nat), .int .i64 (t1 : Nat), .slice a8 D c8, .int .i64 0, .slice none 0 0] _ (box_range HU18.out) Tryd.underlying26 rfl info_un ?_)
        | (refine wpList_store_mid rfl 26 _ _ rfl G0 0 #[.int .i64 1, .int .u64 (n2 : Nat), .int .u64 (n3 : Nat), .int .i64 (p1 : Nat), .int .i64 (i1 : Nat), .int .i64 (t1 : Nat), .slice a8 D c8, .int .i64 0, .slice none 0 0] rfl rfl (box_there HZ18.out rfl) (by kernel_rfl) (by simp [Value.oneCell']) ?_))
      (try simp only [Exit.inBlock, Exit.then])
      refine bodyPost_ret (results_ct Tryd.results20 _ _ G0 26 #[.int .i64 1, .int .u64 (n2 : Nat), .int .u64 (n3 : Nat), .int .i64 (p1 : Nat), .int .i64 (i1 : Nat), .int .i64 (t1 : Nat), .slice a8 D c8, .int .i64 0, .slice none 0 0] (0, 0) _ rfl (box_set HZ18.out rfl) Tryd.underlying26 rfl (by kernel_rfl)) rfl ?_
      have hfin := setCells_grown G0 [.int .i64 1, .int .u64 (n2 : Nat), .int .u64 (n3 : Nat), .int .i64 (p1 : Nat), .int .i64 (i1 : Nat), .int .i64 (t1 : Nat), .slice a8 D c8, .int .i64 0, .slice none 0 0] 0 w18
      have hbel : Below w.heap.size w (w18.setCells G0 0 [.int .i64 1, .int .u64 (n2 : Nat), .int .u64 (n3 : Nat), .int .i64 (p1 : Nat), .int .i64 (i1 : Nat), .int .i64 (t1 : Nat), .slice a8 D c8, .int .i64 0, .slice none 0 0]) := HW18.out.grown hfin HW18.out.size (fun j hj => by cases hj; exact Nat.le_of_eq HG0.out.symm)
      have hr : rEnd v4 (mustF b4 g4) = 0 := by rw [← HYY.out, ← HFF.out]; rfl
      unfold DecR
      rw [if_pos hr]
      exact ⟨a8, c8, none, 0, by rw [HDD.out]; rfl, Own.base (by rw [← HDD.out]; exact own_lo HO18.out hfin (by have := HQ.out; have := HGN.out; omega)) (by have := HQ.out; have := HGN.out; omega), OwnR.nil _ _, hbel⟩
    · -- a rest
      subst hF
      obtain ⟨yl, hyl⟩ : ∃ m, m = Y.length := ⟨_, rfl⟩
      have hyp : 0 < yl := by rw [hyl]; exact List.length_pos_iff.2 hY
      have hypI : (0 : Int) < (yl : Int) := by omega
      rw [← hyl] at c0
      have HY1 : Hid (rEnd v4 (mustF b4 g4) = 11) := by unfold Hid rEnd; rw [← HYY.out, ← HFF.out, if_pos rfl, if_pos (by omega)]
      clear hyl hY
      go_wp2_with fail
      refine Calls.mono (fail_x 11 _ HDE.out) ?_
      rintro er1 wf ⟨rfl, hd, hg⟩
      have HWf : Hid (Below w.heap.size w wf) := HW18.out.grown hg HW18.out.size (fun j hj => by cases hj; exact HQ.out.2.1)
      have HZf : Hid (wf.heap[G0]? = some (.cells #[.int .i64 0, .int .u64 0, .int .u64 0, .int .i64 0, .int .i64 0, .int .i64 0, .slice none 0 0, .int .i64 0, .slice none 0 0] 26 (0, 0))) := gr_box hg (by have := HQ.out; omega) HZ18.out
      rw [if_pos rfl] at hd
      clear c1
      have c1 := hd.c1
      have c1d : wf.drew.cell? ⟨q, 1, none⟩ = some (.int .i64 11) := c1
      have c1s : ∀ cs, (wf.drew.setCells G0 0 cs).cell? ⟨q, 1, none⟩ = some (.int .i64 11) := fun cs => gr_cellU (setCells_grown _ _ _ _) c1d (by have := HQ.out; omega)
      clear hd hg c0
      go_wp2_with fail
      refine wp_region_noPanic ?_
      refine wp_region_held_drew (S := (fun u => u.cell? ⟨q, 1, none⟩ = some (.int .i64 11))) (by kernel_rfl) (by with_reducible first | exact c1 | exact c1d | exact c1s _) (fun hHeld => ?_)
      refine take_at (i := 0) 101 (v := ?_) rfl rfl (by kernel_rfl) (by kernel_rfl) (by kernel_rfl) (fun _ _ _ h => h) (by rfl) ?_ hHeld ?_
      rotate_left
      · (intro w hSw; (try dsimp only at hSw); go_simp; try with_reducible rfl)
      simp only [Act.put, List.setIfInBounds_toArray, List.set_cons_zero, List.set_cons_succ]
      refine take_at (i := 1) 102 (v := ?_) rfl rfl (by kernel_rfl) (by kernel_rfl) (by kernel_rfl) (fun _ _ _ h => h) (by rfl) ?_ hHeld ?_
      rotate_left
      · (intro w hSw; (try dsimp only at hSw); go_simp; try with_reducible rfl)
      simp only [Act.put, List.setIfInBounds_toArray, List.set_cons_zero, List.set_cons_succ]
      refine take_at (i := 2) 103 (v := ?_) rfl rfl (by kernel_rfl) (by kernel_rfl) (by kernel_rfl) (fun _ _ _ h => h) (by rfl) ?_ hHeld ?_
      rotate_left
      · (intro w hSw; (try dsimp only at hSw); go_simp; try with_reducible rfl)
      simp only [Act.put, List.setIfInBounds_toArray, List.set_cons_zero, List.set_cons_succ]
      refine take_at (i := 3) 104 (v := ?_) rfl rfl (by kernel_rfl) (by kernel_rfl) (by kernel_rfl) (fun _ _ _ h => h) (by rfl) ?_ hHeld ?_
      rotate_left
      · (intro w hSw; (try dsimp only at hSw); go_simp; try with_reducible rfl)
      simp only [Act.put, List.setIfInBounds_toArray, List.set_cons_zero, List.set_cons_succ]
      refine take_at (i := 4) 105 (v := ?_) rfl rfl (by kernel_rfl) (by kernel_rfl) (by kernel_rfl) (fun _ _ _ h => h) (by rfl) ?_ hHeld ?_
      rotate_left
      · (intro w hSw; (try dsimp only at hSw); go_simp; try with_reducible rfl)
      simp only [Act.put, List.setIfInBounds_toArray, List.set_cons_zero, List.set_cons_succ]
      refine run_at (i := 5) rfl (by kernel_rfl) (by rfl) (fun K hK => ?_)
      simp only [List.getElem_toArray, List.getElem_cons_zero, List.getElem_cons_succ]
      refine wp_store_mid 26 _ _ rfl G0 0 #[.int .i64 0, .int .u64 0, .int .u64 0, .int .i64 0, .int .i64 0, .int .i64 0, .slice none 0 0, .int .i64 0, .slice none 0 0] rfl rfl (box_there (w := wf.drew) HZf.out rfl) (by kernel_rfl) (by simp [Value.oneCell']) ?_
      refine hK.out _ _ (by with_reducible first | exact c1 | exact c1d | exact c1s _) ?_
      clear hK K
      intro hHeld2
      clear hHeld
      have hHeld := hHeld2
      clear hHeld2
      try simp only [Act.put, List.setIfInBounds_toArray, List.set_cons_zero, List.set_cons_succ]
      refine take_at (i := 6) 3 (v := ?_) rfl rfl (by kernel_rfl) (by kernel_rfl) (by kernel_rfl) (fun _ _ _ h => h) (by rfl) ?_ hHeld ?_
      rotate_left
      · (intro w hSw; (try dsimp only at hSw); go_simp; try with_reducible rfl)
      simp only [Act.put, List.setIfInBounds_toArray, List.set_cons_zero, List.set_cons_succ]
      refine wpAnyH_done (by kernel_rfl) ?_ _
      refine NoPanic.normal ?_
      go_wp2
      (try simp only [Exit.inBlock, Exit.then])
      refine bodyPost_ret (results_ct Tryd.results20 _ _ G0 26 #[.int .i64 0, .int .u64 0, .int .u64 0, .int .i64 0, .int .i64 0, .int .i64 0, .slice none 0 0, .int .i64 0, .slice none 0 0] (0, 0) _ rfl (box_set (w := wf.drew) HZf.out rfl) Tryd.underlying26 rfl (by kernel_rfl)) rfl ?_
      have hfin := setCells_grown G0 [.int .i64 0, .int .u64 0, .int .u64 0, .int .i64 0, .int .i64 0, .int .i64 0, .slice none 0 0, .int .i64 0, .slice none 0 0] 0 wf.drew
      unfold DecR
      rw [if_neg (by rw [HY1.out]; decide), HY1.out]
      exact DecOut.zero (HWf.out.drew.grown hfin HWf.out.drew.size (fun j hj => by cases hj; exact Nat.le_of_eq HG0.out.symm))
  · have hFb : (F == 0) = false := by simpa using hF
    have HY1 : Hid (rEnd v4 (mustF b4 g4) = F) := by unfold Hid rEnd; rw [← HYY.out, ← HFF.out, if_neg hF]
    have HNF : Hid (¬ F = 0) := hF
    have c1d : w18.drew.cell? ⟨q, 1, none⟩ = some (.int .i64 F) := c1
    have c1s : ∀ cs, (w18.drew.setCells G0 0 cs).cell? ⟨q, 1, none⟩ = some (.int .i64 F) := fun cs => gr_cellU (setCells_grown _ _ _ _) c1d (by have := HQ.out; omega)
    go_wp2_with fail
    refine wp_region_noPanic ?_
    refine wp_region_held_drew (S := (fun u => u.cell? ⟨q, 1, none⟩ = some (.int .i64 F))) (by kernel_rfl) (by with_reducible first | exact c1 | exact c1d | exact c1s _) (fun hHeld => ?_)
    refine take_at (i := 0) 101 (v := ?_) rfl rfl (by kernel_rfl) (by kernel_rfl) (by kernel_rfl) (fun _ _ _ h => h) (by rfl) ?_ hHeld ?_
    rotate_left
    · (intro w hSw; (try dsimp only at hSw); go_simp; try with_reducible rfl)
    simp only [Act.put, List.setIfInBounds_toArray, List.set_cons_zero, List.set_cons_succ]
    refine take_at (i := 1) 102 (v := ?_) rfl rfl (by kernel_rfl) (by kernel_rfl) (by kernel_rfl) (fun _ _ _ h => h) (by rfl) ?_ hHeld ?_
    rotate_left
    · (intro w hSw; (try dsimp only at hSw); go_simp; try with_reducible rfl)
    simp only [Act.put, List.setIfInBounds_toArray, List.set_cons_zero, List.set_cons_succ]
    refine take_at (i := 2) 103 (v := ?_) rfl rfl (by kernel_rfl) (by kernel_rfl) (by kernel_rfl) (fun _ _ _ h => h) (by rfl) ?_ hHeld ?_
    rotate_left
    · (intro w hSw; (try dsimp only at hSw); go_simp; try with_reducible rfl)
    simp only [Act.put, List.setIfInBounds_toArray, List.set_cons_zero, List.set_cons_succ]
    refine take_at (i := 3) 104 (v := ?_) rfl rfl (by kernel_rfl) (by kernel_rfl) (by kernel_rfl) (fun _ _ _ h => h) (by rfl) ?_ hHeld ?_
    rotate_left
    · (intro w hSw; (try dsimp only at hSw); go_simp; try with_reducible rfl)
    simp only [Act.put, List.setIfInBounds_toArray, List.set_cons_zero, List.set_cons_succ]
    refine take_at (i := 4) 105 (v := ?_) rfl rfl (by kernel_rfl) (by kernel_rfl) (by kernel_rfl) (fun _ _ _ h => h) (by rfl) ?_ hHeld ?_
    rotate_left
    · (intro w hSw; (try dsimp only at hSw); go_simp; try with_reducible rfl)
    simp only [Act.put, List.setIfInBounds_toArray, List.set_cons_zero, List.set_cons_succ]
    refine run_at (i := 5) rfl (by kernel_rfl) (by rfl) (fun K hK => ?_)
    simp only [List.getElem_toArray, List.getElem_cons_zero, List.getElem_cons_succ]
    refine wp_store_mid 26 _ _ rfl G0 0 #[.int .i64 0, .int .u64 0, .int .u64 0, .int .i64 0, .int .i64 0, .int .i64 0, .slice none 0 0, .int .i64 0, .slice none 0 0] rfl rfl (box_there (w := w18.drew) HZ18.out rfl) (by kernel_rfl) (by simp [Value.oneCell']) ?_
    refine hK.out _ _ (by with_reducible first | exact c1 | exact c1d | exact c1s _) ?_
    clear hK K
    intro hHeld2
    clear hHeld
    have hHeld := hHeld2
    clear hHeld2
    try simp only [Act.put, List.setIfInBounds_toArray, List.set_cons_zero, List.set_cons_succ]
    refine take_at (i := 6) 3 (v := ?_) rfl rfl (by kernel_rfl) (by kernel_rfl) (by kernel_rfl) (fun _ _ _ h => h) (by rfl) ?_ hHeld ?_
    rotate_left
    · (intro w hSw; (try dsimp only at hSw); go_simp; try with_reducible rfl)
    simp only [Act.put, List.setIfInBounds_toArray, List.set_cons_zero, List.set_cons_succ]
    refine wpAnyH_done (by kernel_rfl) ?_ _
    refine NoPanic.normal ?_
    go_wp2
    (try simp only [Exit.inBlock, Exit.then])
    refine bodyPost_ret (results_ct Tryd.results20 _ _ G0 26 #[.int .i64 0, .int .u64 0, .int .u64 0, .int .i64 0, .int .i64 0, .int .i64 0, .slice none 0 0, .int .i64 0, .slice none 0 0] (0, 0) _ rfl (box_set (w := w18.drew) HZ18.out rfl) Tryd.underlying26 rfl (by kernel_rfl)) rfl ?_
    have hfin := setCells_grown G0 [.int .i64 0, .int .u64 0, .int .u64 0, .int .i64 0, .int .i64 0, .int .i64 0, .slice none 0 0, .int .i64 0, .slice none 0 0] 0 w18.drew
    unfold DecR
    rw [if_neg (by rw [HY1.out]; exact HNF.out), HY1.out]
    exact DecOut.zero (HW18.out.drew.grown hfin HW18.out.drew.size (fun j hj => by cases hj; exact Nat.le_of_eq HG0.out.symm))
end
end Go.Proofs.YtjigbopkmffjaaaDoor
