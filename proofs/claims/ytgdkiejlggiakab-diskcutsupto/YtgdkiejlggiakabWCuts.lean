import Derived.Test.YtgdkiejlggiakabDCutW
import Derived.Test.YtgdkiejlggiakabOpenSt
import Derived.Deep.AppendLies
namespace Go.Proofs.Ytgdkiejlggiakab
set_option linter.unusedVariables false
set_option linter.unusedSimpArgs false
open Go.RowKit Go.Maps
set_option maxRecDepth 20000 in
set_option maxHeartbeats 400000 in
theorem span_big (n : Int) (lo hi : Nat) (w : World) (h1 : -9223372036854775808 ≤ n) (h2 : n ≤ 9223372036854775807) (h3 : lo ≤ hi) (h4 : hi ≤ 1099511627776) :
    Calls Try.prog 21 #[.int .i64 n, .int .i64 (lo : Int), .int .i64 (hi : Int)] w fun e w' => e = .returned (.int .i64 (spanS n lo hi : Nat)) ∧ w' = w := by
  obtain ⟨q, hq⟩ : ∃ q : Int, q = (hi : Int) - lo + 1 := ⟨_, rfl⟩
  have hq1 : IntKind.i64.wrap ((hi : Int) - lo) = q - 1 := by rw [IntKind.wrap_i64]; omega
  have hq2 : IntKind.i64.wrap (q - 1 + 1) = q := by rw [IntKind.wrap_i64]; omega
  have hq3 : 0 < q := by omega
  have hq4 : q ≤ 1099511627777 := by omega
  have hin := spanS_in n lo hi h3
  by_cases hn : n < 0
  · obtain ⟨m, hm⟩ : ∃ m : Int, m = -(n + 1) := ⟨_, rfl⟩
    have hm0 : 0 ≤ m := by omega
    have hm1 : m ≤ 9223372036854775807 := by omega
    have hw1 : IntKind.i64.wrap (n + 1) = -m := by rw [IntKind.wrap_i64]; omega
    have hw2 : IntKind.i64.wrap (- -m) = m := by rw [IntKind.wrap_i64]; omega
    have hr : m % q = ((spanS n lo hi - lo : Nat) : Int) := by
      unfold spanS
      rw [if_pos hn, ← hm, ← hq]
      have := Int.emod_nonneg m (show q ≠ 0 by omega)
      omega
    have hr2 : IntKind.i64.wrap ((lo : Int) + m % q) = ((spanS n lo hi : Nat) : Int) := by rw [IntKind.wrap_i64, hr]; omega
    have HR : Hid _ := hr
    clear hq hm hr hin
    go_enter Try.func21, Try.ntmps21
    go_wp2
    go_ret
    exact ⟨rfl, rfl⟩
  · have hn0 : 0 ≤ n := by omega
    have hr : n % q = ((spanS n lo hi - lo : Nat) : Int) := by
      unfold spanS
      rw [if_neg hn, ← hq]
      have := Int.emod_nonneg n (show q ≠ 0 by omega)
      omega
    have hr2 : IntKind.i64.wrap ((lo : Int) + n % q) = ((spanS n lo hi : Nat) : Int) := by rw [IntKind.wrap_i64, hr]; omega
    have HR : Hid _ := hr
    clear hq hr hin
    go_enter Try.func21, Try.ntmps21
    go_wp2
    go_ret
    exact ⟨rfl, rfl⟩
/-- a step, and where its choices lie -/
structure StpV where
  s : Stp
  ca : Option Addr
  cc : Nat
def StpV.cells (z : StpV) : List Value := [.int .i64 z.s.op, .int .i64 z.s.at_, .slice z.ca z.s.cs.length z.cc]
def OwnZ (w : World) (B : Nat) (v : Value) (zs : List StpV) : Prop := w.ownsRow B 48 3 v zs.length (zs.flatMap StpV.cells)
theorem infoZ : (Try.prog.info? 48).map (fun i => (i.zero, i.size, i.bytes)) = some (some (.agg #[.int .i64 0, .int .i64 0, .slice none 0 0]), 3, 40) := by kernel_rfl
theorem OwnZ.below {w w' : World} {B : Nat} {v : Value} {xs : List StpV} (h : OwnZ w B v xs) (hb : Below w.heap.size w w') : OwnZ w' B v xs :=
  World.ownsRow.kept h (gr_below (World.grownBy.refl w none) hb) (by cases hv : v.ownBlock <;> simp)
theorem wp_appZ {w : World} {ops : Array Oper} {rest : List Oper} {o : Oper} {a : Act} {Q : Exit → Act → World → Prop} (hgd : o.guard = none) (s x : Operand)
    (ho : o.op = .call { callee := .builtin .append, args := #[s, x], argTypes := #[46, 46] }) (B : Nat) (v : Value) (xs : List StpV) (y : StpV) (g : Nat)
    (hs : a.eval s = v) (hown : OwnZ w B v xs) (hx : a.eval x = .slice (some ⟨g, 0, none⟩) 1 1) (hg : w.heap[g]? = some (.cells #[.int .i64 y.s.op, .int .i64 y.s.at_, .slice y.ca y.s.cs.length y.cc] 48 (0, 0))) (hb : xs.length ≤ 1099511627776) (hbase : B ≤ w.heap.size)
    (h : ∀ g' cap w', OwnZ w' B (.slice (some ⟨g', 0, none⟩) (xs.length + 1) cap) (xs ++ [y]) → w.grownBy w' v.ownBlock → (v.ownBlock = some g' ∨ g' = w.heap.size) → wpList Try.prog ops Q rest (a.put o.dst (.slice (some ⟨g', 0, none⟩) (xs.length + 1) cap)) w') : wpList Try.prog ops Q (o :: rest) a w := by
  obtain ⟨i0, hi, hz0, hz1, hz2⟩ := info_parts infoZ
  refine wpList_append_lies w hgd s x 46 ho B 48 i0 (.agg #[.int .i64 0, .int .i64 0, .slice none 0 0]) 3 40 Try.underlying46 hi hz0 hz1 hz2 rfl (by decide) v xs.length (xs.flatMap StpV.cells) hs hown ⟨g, 0, none⟩ 1 1 y.cells hx rfl (World.news_of_block hg) (by intro u hu; simp [StpV.cells] at hu; rcases hu with rfl | rfl | rfl <;> rfl) (by decide) (by simp only [maxLen]; omega) (by omega) hbase w.heap.size rfl ?_
  intro g' cap w' h1 h2 h3 _
  refine h g' cap w' ?_ h2 h3
  unfold OwnZ
  rw [List.length_append, List.flatMap_append]
  simpa [List.flatMap_cons] using h1
theorem OwnZ.rd {W w : World} {v : Value} {zs : List StpV} (h : OwnZ w W.heap.size v zs) (hb : Below W.heap.size W w) (hz : ∀ z ∈ zs, Ints W z.ca z.s.cs ∧ (-9223372036854775808 ≤ z.s.at_ ∧ z.s.at_ ≤ 9223372036854775807)) : ∃ a c, v = .slice a zs.length c ∧ RdSt w a (zs.map (·.s)) := by
  rcases h.2 with ⟨rfl, h0⟩ | ⟨g, cap, cur, rfl, hB, hg, r⟩
  · refine ⟨none, 0, by rw [h0], fun k hk => ?_⟩
    simp [h0] at hk
  · refine ⟨_, cap, rfl, fun k hk => ?_⟩
    have hk' : k < zs.length := by simpa using hk
    have hm := hz zs[k] (List.getElem_mem hk')
    refine ⟨g, 0, zs[k].ca, zs[k].cc, rfl, fun j u hj => ?_, ?_, ?_⟩
    · have hj3 : j < 3 := by
        have := (List.getElem?_eq_some_iff.1 hj).1
        simpa using this
      have h10 := World.ownsRow.cellAt h (k * 3 + j) (by omega)
      rw [Nat.zero_add, h10, flat_at StpV.cells 3 zs (fun _ _ => rfl) k j hk' hj3]
      simpa [StpV.cells] using hj
    · simpa using Ints.below hm.1 hb
    · simpa using hm.2
theorem farZ : farT 48 := ⟨by decide, by decide, by decide⟩
abbrev opF (s : Stp) : Bool := decide (0 ≤ s.op ∧ s.op ≤ 2)
theorem Dst.dead {d : Dst} (h1 : d.off = true) (h2 : d.fuse = -1) : d.can = false ∧ (∀ k x, d.write k x = d) ∧ d.flush = d ∧ ∀ n, d.cut n = d := by
  have hc : d.can = false := by unfold Dst.can begE; rw [h2, h1]; rfl
  have hb : d.begun = d := by unfold Dst.begun begO begF; cases d; simp_all
  refine ⟨hc, fun k x => ?_, ?_, fun n => ?_⟩
  · unfold Dst.write; rw [hc]; exact hb
  · unfold Dst.flush; rw [hc]; exact hb
  · unfold Dst.cut cutF; cases d; simp_all
theorem Twin.crash {d t : Dst} (h : Twin d t) (chs : List Int) : d.crash chs = t.crash chs := by unfold Dst.crash; rw [h.s, h.c]
theorem byt_sameC (g1 g2 M : Nat) (xs : List UInt8) (w : World) (hM : M = xs.length) (h1 : w.heap[g1]? = some (.cells (bv xs).toArray 5 (0, 0))) (h2 : w.heap[g2]? = some (.cells (bv xs).toArray 5 (0, 0))) (hl : M ≤ 140737488355328) :
    Calls Try.prog 20 #[.slice (some ⟨g1, 0, none⟩) M M, .slice (some ⟨g2, 0, none⟩) M M] w fun e w' => e = .returned (.bool true) ∧ Below w.heap.size w w' := by
  have h9 := byt_n (some ⟨g1, 0, none⟩) (some ⟨g2, 0, none⟩) M M M M xs xs w hM hM (rd_row h1) (rd_row h2) (by omega) (by omega)
  rw [beq_self_eq_true] at h9
  exact h9
theorem Dst.cut_of {d : Dst} (h : d.off = false) (n : Int) : d.cut n = ⟨d.S, d.C, false, max n (-1)⟩ := by unfold Dst.cut cutF; rw [h]; rfl
set_option maxRecDepth 20000 in
set_option maxHeartbeats 1600000 in
theorem diskCuts_walk (n0 : Int) (a1 : Option Addr) (cap1 : Nat) (xs1 : List Stp) (n2 : Int) (a3 : Option Addr) (cap3 : Nat) (xs3 : List Int) (W : World) (hn0 : -9223372036854775808 ≤ n0 ∧ n0 ≤ 9223372036854775807)
    (hr1 : RdSt W a1 xs1) (hl1 : xs1.length ≤ cap1) (ha1 : a1 = none → cap1 = 0) (hc1 : cap1 ≤ 1048575) (hn2 : -9223372036854775808 ≤ n2 ∧ n2 ≤ 9223372036854775807) (hr3 : Ints W a3 xs3) (hi3 : ∀ n ∈ xs3, I64 n) (hl3 : xs3.length ≤ cap3) (ha3 : a3 = none → cap3 = 0) (hc3 : cap3 ≤ 1048575) :
    Calls Try.prog 4 #[.int .i64 n0, .slice a1 xs1.length cap1, .int .i64 n2, .slice a3 xs3.length cap3] W fun e w' => e = .returned (.bool true) ∧ Below W.heap.size W w' := by
  have HN0 : Hid _ := hn0
  have HN2 : Hid _ := hn2
  have HR1 : Hid _ := hr1
  have HR3 : Hid _ := hr3
  obtain ⟨L1, hL1⟩ : ∃ L : Nat, L = xs1.length := ⟨_, rfl⟩
  obtain ⟨L3, hL3⟩ : ∃ L : Nat, L = xs3.length := ⟨_, rfl⟩
  rw [← hL1, ← hL3]
  have HL1 : Hid _ := hL1
  have HL3 : Hid _ := hL3
  have HB1 : Hid (L1 ≤ cap1 ∧ cap1 ≤ 1048575) := ⟨by omega, hc1⟩
  clear hn0 hn2 hr1 hr3 ha1 ha3 hL1 hL3 hl1 hl3 hc1 hc3 hi3
  go_enter Try.func4, Try.ntmps4
  go_wp2_with fail
  go_loopw [9, 10, 11] (fun l c i wr => ∃ (v : Value) (k n : Nat) (zs : List StpV), v = l ∧ k ≤ L1 ∧ n = zs.length ∧ n ≤ k ∧ i = .int .i64 (k : Int) ∧ c = .int .i64 (n : Int) ∧ OwnZ wr W.heap.size v zs ∧ zs.map (·.s) = (xs1.take k).filter opF ∧ (∀ z ∈ zs, Ints W z.ca z.s.cs ∧ (-9223372036854775808 ≤ z.s.at_ ∧ z.s.at_ ≤ 9223372036854775807)) ∧ Below W.heap.size W wr) (fun _ _ i _ => L1 - (intOf i).toNat)
  case atStart => exact ⟨_, 0, 0, [], rfl, Nat.zero_le _, rfl, Nat.le_refl _, rfl, rfl, World.ownsRow_nil _ _ _ _, rfl, by simp, Below.refl _ _⟩
  case round =>
    obtain ⟨v9, k, n, zs, rfl, hk, hnz, hnk, rfl, rfl, hown, hzs, hzz, hbl⟩ := hrel
    have HOW : Hid _ := hown
    have HZS : Hid _ := hzs
    have HZZ : Hid _ := hzz
    have HBL : Hid _ := hbl
    have HNZ : Hid _ := hnz
    clear hown hzs hzz hbl hnz
    have hb1 := HB1.out
    have hkw : IntKind.i64.wrap ((k : Int) + 1) = ((k + 1 : Nat) : Int) := by rw [IntKind.wrap_i64]; omega
    have hnw : IntKind.i64.wrap ((n : Int) + 1) = ((n + 1 : Nat) : Int) := by rw [IntKind.wrap_i64]; omega
    clear hb1
    by_cases hlt : k < L1
    · have hlti : (k : Int) < (L1 : Int) := by omega
      have hk0 : (0 : Int) ≤ (k : Int) := by omega
      have hkx : k < xs1.length := by rw [← HL1.out]; exact hlt
      obtain ⟨b, o, ca, cc, rfl, hrg, hin, hat⟩ := HR1.out k hkx
      have htk := List.take_succ_eq_append_getElem hkx
      obtain ⟨s, hs⟩ : ∃ s : Stp, s = xs1[k] := ⟨_, rfl⟩
      rw [← hs] at hrg hin hat htk
      have hrgr := rangeAt_below hrg HBL.out
      have hc0 : wr.cell? ⟨b, o + k * 3, none⟩ = some (.int .i64 s.op) := hrgr 0 _ rfl
      obtain ⟨q, t, cs⟩ := s
      have HRG : Hid _ := hrgr
      have HIN : Hid _ := hin
      have HAT : Hid _ := hat
      have HTK : Hid _ := htk
      clear hs hrg hrgr hin hat htk
      simp only at hc0
      by_cases q0 : q < 0
      · have q1 : ¬ (0 : Int) ≤ q := by omega
        go_wp2
        go_roundw
        case rel => exact ⟨_, k + 1, n, zs, rfl, by omega, HNZ.out, by omega, rfl, rfl, HOW.out, by rw [HTK.out, List.filter_append, HZS.out]; simp [opF, q1], HZZ.out, HBL.out⟩
        case measure => simp [intOf]; omega
      · have q1 : (0 : Int) ≤ q := by omega
        by_cases q2 : q ≤ 2
        · obtain ⟨X, hX⟩ : ∃ X : World, X = wr.alloc (.cells #[.int .i64 q, .int .i64 t, .slice ca cs.length cc] 48) := ⟨_, rfl⟩
          have hXb : Below wr.heap.size wr X := by rw [hX]; exact al (Below.refl _ _) _
          have hXr : X.heap[wr.heap.size]? = some (.cells #[.int .i64 q, .int .i64 t, .slice ca cs.length cc] 48 (0, 0)) := by rw [hX]; exact heap_alloc_new wr _
          have hownX : OwnZ X W.heap.size v9 zs := OwnZ.below HOW.out hXb
          have hWX : W.heap.size ≤ X.heap.size := Nat.le_trans (Below.size HBL.out) hXb.size
          have HXB : Hid _ := hXb
          clear hXb
          have HZ1 : Hid (zs.length ≤ 1099511627776) := by have := HNZ.out; have := HB1.out; unfold Hid; omega
          go_wp2_with (first
            | (refine wpList_load_mid rfl 48 _ rfl b (o + k * 3) (by rfl) [.int .i64 q, .int .i64 t, .slice ca cs.length cc] _ HRG.out Try.underlying48 rfl (by rw [(zero_of_info info_step).2]; rfl) ?_)
            | (at_builtin; rw [← hX]; refine wp_appZ rfl _ _ rfl W.heap.size v9 zs ⟨⟨q, t, cs⟩, ca, cc⟩ wr.heap.size (by rfl) hownX (by rfl) hXr HZ1.out hWX ?_; intro g' cap' w3 how3 hg3 hd3; rw [← HNZ.out] at how3 ⊢))
          go_roundw
          case rel =>
            refine ⟨_, k + 1, n + 1, zs ++ [⟨⟨q, t, cs⟩, ca, cc⟩], rfl, by omega, by rw [List.length_append, HNZ.out]; rfl, by omega, rfl, rfl, how3, ?_, ?_, ?_⟩
            · rw [HTK.out, List.filter_append, List.map_append, HZS.out]; simp [opF, q1, q2]
            · intro z hz
              rcases List.mem_append.1 hz with h9 | h9
              · exact HZZ.out z h9
              · simp at h9; subst h9; exact ⟨HIN.out, HAT.out⟩
            · exact Below.trans (Below.trans HBL.out (HXB.out.mono (Below.size HBL.out))) ((Chg.of_grown (F := fun b => v9.ownBlock = some b) hg3 (fun b hb => hb)).below (fun b hb => (World.ownsRow.lt hownX b hb).1) hWX)
          case measure => simp [intOf]; omega
        · go_wp2
          go_roundw
          case rel => exact ⟨_, k + 1, n, zs, rfl, by omega, HNZ.out, by omega, rfl, rfl, HOW.out, by rw [HTK.out, List.filter_append, HZS.out]; simp [opF, q2], HZZ.out, HBL.out⟩
          case measure => simp [intOf]; omega
    · have hlti : ¬ (k : Int) < (L1 : Int) := by omega
      obtain ⟨a9, c9, rfl, hrz⟩ := OwnZ.rd HOW.out HBL.out HZZ.out
      rw [← HNZ.out]
      obtain ⟨ys, hys⟩ : ∃ ys : List Stp, ys = zs.map (·.s) := ⟨_, rfl⟩
      rw [← hys] at hrz
      have HYL : Hid (n = ys.length) := by rw [hys, HNZ.out]; simp [Hid]
      have HYO : Hid (∀ s ∈ ys, 0 ≤ s.op ∧ s.op ≤ 2) := by
        rw [hys, HZS.out]
        intro s hs
        have := (List.mem_filter.1 hs).2
        simpa [opF] using this
      have HRZ : Hid _ := hrz
      have HNL : Hid (n ≤ 1048575) := by have := HB1.out; unfold Hid; omega
      have HI3 : Hid (Ints wr a3 xs3 ∧ (0 < xs3.length → ∀ q, a3 = some q → q.block < wr.heap.size)) := ⟨Ints.below HR3.out HBL.out, fun h q hq => Nat.lt_of_lt_of_le (Ints.lt HR3.out h q hq) (Below.size HBL.out)⟩
      clear hrz hys HOW HZS HZZ HNZ hkw hnw hnk
      obtain ⟨w5, hw5⟩ : ∃ w5 : World, w5 = wr := ⟨_, rfl⟩
      rw [← hw5] at HBL HRZ HI3 ⊢
      clear hw5
      have hin := spanS_in n0 1 65536 (by decide)
      have HSP := span_t n0 1 65536 w5 HN0.out.1 HN0.out.2 (by decide) (by decide)
      obtain ⟨N, hN⟩ : ∃ N : Nat, N = spanS n0 1 65536 := ⟨_, rfl⟩
      rw [← hN] at hin HSP
      have HIN : Hid _ := hin
      have HSP : Hid _ := HSP
      have hin2 := spanS_in n2 0 (n + 2) (by omega)
      have HSQ : Hid (∀ u, _) := fun u => span_big n2 0 (n + 2) u HN2.out.1 HN2.out.2 (by omega) (by have := HNL.out; omega)
      obtain ⟨F, hF⟩ : ∃ F : Nat, F = spanS n2 0 (n + 2) := ⟨_, rfl⟩
      rw [← hF] at hin2
      have HF : Hid (F ≤ 1048577) := by have := HNL.out; unfold Hid; omega
      have HSQ2 : Hid (∀ u, Calls Try.prog 21 #[.int .i64 n2, .int .i64 0, .int .i64 ((n + 2 : Nat) : Int)] u fun e w' => e = .returned (.int .i64 (F : Int)) ∧ w' = u) := fun u => by rw [hF]; exact HSQ.out u
      have hnw2 : IntKind.i64.wrap ((n : Int) + 2) = ((n + 2 : Nat) : Int) := by rw [IntKind.wrap_i64]; have := HNL.out; omega
      have HNEW : Hid _ := Ap.new (Ap.start w5 (fun _ => 0) (fun _ => d0 N)) N HIN.out.1 HIN.out.2
      clear hin hN hin2 hF HSQ
      go_wp2_with fail
      refine Calls.mono HSP.out ?_
      rintro e w6 ⟨rfl, hq⟩
      have hq := hq.symm
      subst hq
      go_wp2_with fail
      refine Calls.mono HNEW.out ?_
      rintro e w7 ⟨p1, rfl, hap, -⟩
      have HNEW2 : Hid _ := Ap.new hap N HIN.out.1 HIN.out.2
      clear hap HNEW HSP
      go_wp2_with fail
      refine Calls.mono HNEW2.out ?_
      rintro e w8 ⟨p2, rfl, hap, -⟩
      obtain ⟨P, hP⟩ : ∃ P : Nat → Nat, P = updN (updN (fun _ => 0) 0 p1) (0 + 1) p2 := ⟨_, rfl⟩
      rw [← hP] at hap
      obtain rfl : P 0 = p1 := by rw [hP]; rfl
      obtain rfl : P 1 = p2 := by rw [hP]; rfl
      have HAP : Hid (Ap w5 w8 2 [] P (st2 (d0 N) (d0 N)) 0) := hap.eq (fun j hj => by
        match j, hj with
        | 0, _ => rfl
        | 1, _ => rfl)
      clear hP hap HNEW2
      go_wp2_with fail
      refine (HSQ2.out w8).mono ?_
      rintro e w9 ⟨rfl, hq⟩
      have hq := hq.symm
      subst hq
      obtain ⟨dA, hdA⟩ : ∃ d : Dst, d = ⟨(d0 N).S, (d0 N).C, false, (F : Int)⟩ := ⟨_, rfl⟩
      obtain ⟨B60, hB60⟩ : ∃ z : Int, z = 1152921504606846976 := ⟨_, rfl⟩
      have HC1 : Hid (Calls Try.prog 14 #[.pointer (some ⟨P 0, 0, none⟩), .int .i64 B60] w8 fun e w' => e = .returned (.tuple #[]) ∧ Ap w5 w' 2 [] P (st2 ((d0 N).cut B60) (d0 N)) 0) := by
        refine (Ap.cut HAP.out 0 (by decide) B60 (by omega)).mono ?_
        rintro e w' ⟨rfl, h10⟩
        exact ⟨rfl, h10.eq (st2_0 _ _ _)⟩
      have HC2 : Hid (∀ u, Ap w5 u 2 [] P (st2 ((d0 N).cut B60) (d0 N)) 0 → Calls Try.prog 14 #[.pointer (some ⟨P 0, 0, none⟩), .int .i64 (-3)] u fun e w' => e = .returned (.tuple #[]) ∧ Ap w5 w' 2 [] P (st2 (((d0 N).cut B60).cut (-3)) (d0 N)) 0) := by
        intro u hu
        refine (hu.cut 0 (by decide) (-3) (by decide)).mono ?_
        rintro e w' ⟨rfl, h10⟩
        exact ⟨rfl, h10.eq (st2_0 _ _ _)⟩
      have HC3 : Hid (∀ u, Ap w5 u 2 [] P (st2 (((d0 N).cut B60).cut (-3)) (d0 N)) 0 → Calls Try.prog 14 #[.pointer (some ⟨P 0, 0, none⟩), .int .i64 (F : Int)] u fun e w' => e = .returned (.tuple #[]) ∧ Ap w5 w' 2 [] P (st2 dA (d0 N)) 0) := by
        intro u hu
        have e9 : (((d0 N).cut B60).cut (-3)).cut (F : Int) = dA := by
          rw [hdA, Dst.cut_of (by rfl), Dst.cut_of (by rfl), Dst.cut_of (by rfl)]
          congr 1
          omega
        refine (hu.cut 0 (by decide) (F : Int) (by have := HF.out; omega)).mono ?_
        rintro e w' ⟨rfl, h10⟩
        rw [show st2 (((d0 N).cut B60).cut (-3)) (d0 N) 0 = ((d0 N).cut B60).cut (-3) from rfl, e9] at h10
        exact ⟨rfl, h10.eq (st2_0 _ _ _)⟩
      have HdA : Hid _ := hdA
      clear hdA HAP
      go_wp2_with fail
      rw [← hB60]
      clear hB60
      refine HC1.out.mono ?_
      rintro e w10 ⟨rfl, hap10⟩
      have HAP10 : Hid _ := hap10
      clear hap10 HC1
      go_wp2_with fail
      refine (HC2.out w10 HAP10.out).mono ?_
      rintro e w11 ⟨rfl, hap11⟩
      have HAP11 : Hid _ := hap11
      clear hap11 HC2 HAP10
      go_wp2_with fail
      refine (HC3.out w11 HAP11.out).mono ?_
      rintro e w12 ⟨rfl, hap12⟩
      have HAP12 : Hid _ := hap12
      clear hap12 HC3 HAP11
      -- both runs
      have HTW := runS_cut (n : Int) ys 0 0 F dA (d0 N) (by rw [HdA.out]; exact ⟨rfl, rfl⟩) (by rw [HdA.out]) (by rw [HdA.out]) (d0_fine N) HYO.out (by have := HYL.out; omega)
      obtain ⟨d1, hd1⟩ : ∃ d, d = (runS (n : Int) 0 0 dA ys).1 := ⟨_, rfl⟩
      obtain ⟨t1, ht1⟩ : ∃ d, d = (runS (F : Int) 0 0 (d0 N) ys).1 := ⟨_, rfl⟩
      obtain ⟨Z, hZ⟩ : ∃ Z : Nat, Z = min F n := ⟨_, rfl⟩
      simp only [Nat.zero_add] at HTW
      rw [← hd1, ← ht1, ← HYL.out, ← hZ] at HTW
      have HZm : (min (F : Int) (n : Int)) = (Z : Int) := by rw [hZ]; omega
      have HRA : Hid (Calls Try.prog 22 #[.pointer (some ⟨P 0, 0, none⟩), .slice a9 n c9, .int .i64 (n : Int)] w12 fun e w' => e = .returned (.int .i64 (Z : Int)) ∧ Ap w5 w' 2 [] P (st2 d1 (d0 N)) 1048575) := by
        have h9 := Ap.runAll HAP12.out 0 (by decide) a9 ys HRZ.out c9 (n : Int) (by have := HNL.out; have := HYL.out; omega)
        rw [show (st2 dA (d0 N) 0) = dA from rfl, ← hd1, HTW.1, ← HYL.out] at h9
        refine h9.mono ?_
        rintro e w' ⟨rfl, h10⟩
        exact ⟨rfl, (h10.eq (st2_0 _ _ _)).more (by have := HNL.out; omega)⟩
      have HRB : Hid (∀ u, Ap w5 u 2 [] P (st2 d1 (d0 N)) 1048575 → Calls Try.prog 22 #[.pointer (some ⟨P 1, 0, none⟩), .slice a9 n c9, .int .i64 (F : Int)] u fun e w' => e = .returned (.int .i64 (Z : Int)) ∧ Ap w5 w' 2 [] P (st2 d1 t1) 4194304) := by
        intro u hu
        have h9 := hu.runAll 1 (by decide) a9 ys HRZ.out c9 (F : Int) (by have := HNL.out; have := HYL.out; omega)
        rw [show (st2 d1 (d0 N) 1) = d0 N from rfl, ← ht1, HTW.2.1, ← HYL.out] at h9
        refine h9.mono ?_
        rintro e w' ⟨rfl, h10⟩
        exact ⟨rfl, (h10.eq (st2_1 _ _ _)).more (by have := HNL.out; omega)⟩
      have HTWN : Hid (Twin d1 t1 ∧ t1.fine ∧ d1.off = decide (F < n) ∧ (d1.off = true → d1.fuse = -1)) := HTW.2.2
      clear HTW hd1 ht1 hZ
      go_wp2_with fail
      refine HRA.out.mono ?_
      rintro e w13 ⟨rfl, hap13⟩
      go_wp2_with fail
      refine (HRB.out w13 hap13).mono ?_
      rintro e w14 ⟨rfl, hap14⟩
      have HAP14 : Hid _ := hap14
      clear hap13 hap14 HRA HRB HAP12
      have HDN : Hid (∀ u i x y c, i < 2 → Ap w5 u 2 [] P (st2 x y) c → Calls Try.prog 19 #[.pointer (some ⟨P i, 0, none⟩)] u fun e w' => e = .returned (.bool (st2 x y i).off) ∧ w' = u) := fun u i x y c hi h9 => h9.down i hi
      have HFL : Hid (∀ u i x y c (E : Int), i < 2 → Ap w5 u 2 [] P (st2 x y) c → E = (if (st2 x y i).can then 0 else 5) → Calls Try.prog 12 #[.pointer (some ⟨P i, 0, none⟩)] u fun e w' => e = .returned (.int .i64 E) ∧ Ap w5 w' 2 [] P (updS (st2 x y) i (st2 x y i).flush) c) := fun u i x y c E hi h9 he => by rw [he]; exact h9.flush i hi
      have HWR : Hid (∀ u i x y c g1 T (E : Int), i < 2 → c < 1099511627776 → Ap w5 u 2 [] P (st2 x y) c → u.heap[g1]? = some (.cells (bv T).toArray 5 (0, 0)) → T.length = 128 → E = (if (st2 x y i).can then 0 else 5) → Calls Try.prog 10 #[.pointer (some ⟨P i, 0, none⟩), .int .i64 0, .slice (some ⟨g1, 0, none⟩) 128 128] u fun e w' => e = .returned (.int .i64 E) ∧ Ap w5 w' 2 [] P (updS (st2 x y) i ((st2 x y i).write 0 T)) (c + 1)) := fun u i x y c g1 T E hi hc h9 hg hT he => by rw [he]; exact h9.write hc i hi 0 (by have := (h9.fit i hi).2.1; omega) g1 T hg hT
      have HFI : Hid (∀ (u : World) (k : Nat), k ≤ 2 → Calls Try.prog 11 #[.int .i64 (k : Int)] u fun e w' => ∃ g1, e = .returned (.slice (some ⟨g1, 0, none⟩) 128 128) ∧ u.heap.size ≤ g1 ∧ w'.heap[g1]? = some (.cells (bv (fillS k)).toArray 5 (0, 0)) ∧ Below u.heap.size u w') := fun u k hk => by exact fill_t k u (by omega)
      by_cases hc : F < n
      · have hci : (F : Int) < (n : Int) := by omega
        have hof : d1.off = true := by rw [HTWN.out.2.2.1]; simp [hc]
        have HDD : Hid _ := Dst.dead hof (HTWN.out.2.2.2 hof)
        have HOF : Hid _ := hof
        clear hof
        go_wp2_with fail
        refine Calls.mono (HDN.out w14 0 d1 t1 4194304 (by decide) HAP14.out) ?_
        rintro e w15 ⟨rfl, hq⟩
        have hq := hq.symm
        subst hq
        rw [show (st2 d1 t1 0).off = true from HOF.out]
        go_wp2_with fail
        refine Calls.mono (HDN.out w14 1 d1 t1 4194304 (by decide) HAP14.out) ?_
        rintro e w16 ⟨rfl, hq⟩
        have hq := hq.symm
        subst hq
        rw [show (st2 d1 t1 1).off = false from HTWN.out.2.1.1]
        go_wp2_with fail
        refine Calls.mono (HDN.out w14 0 d1 t1 4194304 (by decide) HAP14.out) ?_
        rintro e w17 ⟨rfl, hq⟩
        have hq := hq.symm
        subst hq
        rw [show (st2 d1 t1 0).off = true from HOF.out]
        have HRO : Hid _ := Ap.readOff HAP14.out 0 (by decide) HOF.out
        go_wp2_with fail
        refine Calls.mono HRO.out ?_
        rintro e w18 ⟨rfl, hq⟩
        have hq := hq.symm
        subst hq
        go_wp2_with fail
        refine (HFI.out w14 1 (by decide)).mono ?_
        rintro e w19 ⟨g19, rfl, -, hr19, hb19⟩
        have HWX : Hid _ := HWR.out w19 0 d1 t1 4194304 g19 (fillS 1) 5 (by decide) (by decide) (Ap.below HAP14.out hb19) hr19 (fillS_len 1) (by rw [show (st2 d1 t1 0).can = false from HDD.out.1]; rfl)
        clear hr19 hb19 HAP14 HRO
        go_wp2_with fail
        refine Calls.mono HWX.out ?_
        rintro e w20 ⟨rfl, hap20⟩
        have HAP20 : Hid (Ap w5 w20 2 [] P (st2 d1 t1) 4194305) := by
          rw [show (st2 d1 t1 0) = d1 from rfl, HDD.out.2.1] at hap20
          exact hap20.eq (st2_0 _ _ _)
        clear hap20 HWX
        go_wp2_with fail
        refine (HFL.out w20 0 d1 t1 4194305 5 (by decide) HAP20.out (by rw [show (st2 d1 t1 0).can = false from HDD.out.1]; rfl)).mono ?_
        rintro e w21 ⟨rfl, hap21⟩
        have HAP21 : Hid (Ap w5 w21 2 [] P (st2 d1 t1) 4194305) := by
          rw [show (st2 d1 t1 0) = d1 from rfl, HDD.out.2.2.1] at hap21
          exact hap21.eq (st2_0 _ _ _)
        clear hap21 HAP20
        have HCU : Hid _ := Ap.cut HAP21.out 0 (by decide) 5 (by decide)
        go_wp2_with fail
        refine Calls.mono HCU.out ?_
        rintro e w22 ⟨rfl, hap22⟩
        have HAP22 : Hid (Ap w5 w22 2 [] P (st2 d1 t1) 4194305) := by
          rw [show (st2 d1 t1 0) = d1 from rfl, HDD.out.2.2.2] at hap22
          exact hap22.eq (st2_0 _ _ _)
        clear hap22 HAP21 HCU
        obtain ⟨e1, he1⟩ : ∃ d, d = t1.crash xs3 := ⟨_, rfl⟩
        have HCA : Hid (Calls Try.prog 15 #[.pointer (some ⟨P 0, 0, none⟩), .slice a3 L3 cap3] w22 fun e w' => e = .returned (.tuple #[]) ∧ Ap w5 w' 2 [] P (st2 e1 t1) 4194305) := by
          have h9 := Ap.crash HAP22.out 0 (by decide) a3 cap3 xs3 (Ints.below HI3.out.1 (Ap.bel HAP22.out)) HI3.out.2
          rw [show st2 d1 t1 0 = d1 from rfl, Twin.crash HTWN.out.1 xs3, ← he1, ← HL3.out] at h9
          refine h9.mono ?_
          rintro e w' ⟨rfl, h10⟩
          exact ⟨rfl, h10.eq (st2_0 _ _ _)⟩
        have HCB : Hid (∀ u, Ap w5 u 2 [] P (st2 e1 t1) 4194305 → Calls Try.prog 15 #[.pointer (some ⟨P 1, 0, none⟩), .slice a3 L3 cap3] u fun e w' => e = .returned (.tuple #[]) ∧ Ap w5 w' 2 [] P (st2 e1 e1) 4194305) := by
          intro u hu
          have h9 := hu.crash 1 (by decide) a3 cap3 xs3 (Ints.below HI3.out.1 hu.bel) HI3.out.2
          rw [show st2 e1 t1 1 = t1 from rfl, ← he1, ← HL3.out] at h9
          refine h9.mono ?_
          rintro e w' ⟨rfl, h10⟩
          exact ⟨rfl, h10.eq (st2_1 _ _ _)⟩
        have HE1 : Hid (e1.fine) := by rw [he1]; exact ⟨rfl, rfl⟩
        clear he1
        go_wp2_with fail
        refine HCA.out.mono ?_
        rintro e v1 ⟨rfl, hv1⟩
        have HV1 : Hid _ := hv1
        clear hv1 HCA
        go_wp2_with fail
        refine (HCB.out v1 HV1.out).mono ?_
        rintro e v2 ⟨rfl, hv2⟩
        have HV2 : Hid _ := hv2
        clear hv2 HCB HV1
        go_wp2_with fail
        refine Calls.mono (HDN.out v2 0 e1 e1 4194305 (by decide) HV2.out) ?_
        rintro e v3 ⟨rfl, hq⟩
        have hq := hq.symm
        subst hq
        rw [show (st2 e1 e1 0).off = false from HE1.out.1]
        obtain ⟨IM, hIM⟩ : ∃ X, X = img e1.S := ⟨_, rfl⟩
        obtain ⟨M, hM⟩ : ∃ M : Nat, M = IM.length := ⟨_, rfl⟩
        have hft := Ap.fit HV2.out 0 (by decide)
        have HML : Hid (M ≤ 140737488355328) := by
          have hfk : ∀ s ∈ e1.S, s.fit := hft.1
          have hfl : e1.S.length ≤ 65536 := hft.2.2
          rw [hM, hIM, img_len (fit_ok hfk)]
          unfold Hid
          omega
        have HIMG : Hid (∀ u i, i < 2 → Ap w5 u 2 [] P (st2 e1 e1) 4194305 → Calls Try.prog 13 #[.pointer (some ⟨P i, 0, none⟩)] u fun e w' => ∃ g, e = .returned (.slice (some ⟨g, 0, none⟩) M M) ∧ w'.heap[g]? = some (.cells (bv IM).toArray 5 (0, 0)) ∧ Below u.heap.size u w' ∧ Ap w5 w' 2 [] P (st2 e1 e1) 4194305) := by
          intro u i hi h9
          have h10 := h9.image i hi
          rw [show st2 e1 e1 i = e1 from by unfold st2; split <;> rfl, ← hIM, ← hM] at h10
          refine h10.mono ?_
          rintro e w' ⟨rfl, h11, h12⟩
          exact ⟨_, rfl, h11, h12, h9.below h12⟩
        have HM : Hid _ := hM
        clear hIM hM hft
        go_wp2_with fail
        refine (HIMG.out v2 0 (by decide) HV2.out).mono ?_
        rintro e v4 ⟨g4, rfl, hr4, -, hv4⟩
        have HV4 : Hid _ := hv4
        have HR4 : Hid _ := hr4
        clear hv4 hr4 HV2
        go_wp2_with fail
        refine (HIMG.out v4 1 (by decide) HV4.out).mono ?_
        rintro e v5 ⟨g5, rfl, hr5, hb5, hv5⟩
        have HV5 : Hid _ := hv5
        have HBY : Hid _ := byt_sameC g4 g5 M IM v5 HM.out ((hb5.block g4 (Array.getElem?_eq_some_iff.1 HR4.out).1).trans HR4.out) hr5 HML.out
        clear hr5 hb5 hv5 HV4 HR4 HIMG
        go_wp2_with fail
        refine Calls.mono HBY.out ?_
        rintro e v6 ⟨rfl, hb6⟩
        have HV6 : Hid _ := Ap.below HV5.out hb6
        clear hb6 HBY HV5
        go_wp2_with fail
        refine (HFL.out v6 0 e1 e1 4194305 0 (by decide) HV6.out (by rw [show (st2 e1 e1 0).can = true from HE1.out.can]; rfl)).mono ?_
        rintro e v7 ⟨rfl, hv7⟩
        have HV7 : Hid (Ap w5 v7 2 [] P (st2 e1.flush e1) 4194305) := hv7.eq (st2_0 _ _ _)
        have HE2 : Hid (e1.flush.fine) := by unfold Dst.flush; rw [HE1.out.can]; exact HE1.out.beg
        clear hv7 HV6
        go_wp2_with fail
        refine (HFI.out v7 2 (by decide)).mono ?_
        rintro e v8 ⟨g8, rfl, -, hr8, hb8⟩
        have HWX : Hid _ := HWR.out v8 0 e1.flush e1 4194305 g8 (fillS 2) 0 (by decide) (by decide) (Ap.below HV7.out hb8) hr8 (fillS_len 2) (by rw [show (st2 e1.flush e1 0).can = true from HE2.out.can]; rfl)
        clear hr8 hb8 HV7
        go_wp2_with fail
        refine Calls.mono HWX.out ?_
        rintro e v9x ⟨rfl, hv9⟩
        have HV9 : Hid _ := Ap.bel hv9
        clear hv9 HWX
        go_wp2
        go_ret
        exact ⟨rfl, Below.trans HBL.out (Below.mono HV9.out (Below.size HBL.out))⟩
      · have hci : ¬ (F : Int) < (n : Int) := by omega
        have HOF : Hid (d1.off = false) := by unfold Hid; rw [HTWN.out.2.2.1]; simp [hc]
        go_wp2_with fail
        refine Calls.mono (HDN.out w14 0 d1 t1 4194304 (by decide) HAP14.out) ?_
        rintro e w15 ⟨rfl, hq⟩
        have hq := hq.symm
        subst hq
        rw [show (st2 d1 t1 0).off = false from HOF.out]
        go_wp2_with fail
        refine Calls.mono (HDN.out w14 1 d1 t1 4194304 (by decide) HAP14.out) ?_
        rintro e w16 ⟨rfl, hq⟩
        have hq := hq.symm
        subst hq
        rw [show (st2 d1 t1 1).off = false from HTWN.out.2.1.1]
        go_wp2_with fail
        refine Calls.mono (HDN.out w14 0 d1 t1 4194304 (by decide) HAP14.out) ?_
        rintro e w17 ⟨rfl, hq⟩
        have hq := hq.symm
        subst hq
        rw [show (st2 d1 t1 0).off = false from HOF.out]
        obtain ⟨e1, he1⟩ : ∃ d, d = t1.crash xs3 := ⟨_, rfl⟩
        have HCA : Hid (Calls Try.prog 15 #[.pointer (some ⟨P 0, 0, none⟩), .slice a3 L3 cap3] w14 fun e w' => e = .returned (.tuple #[]) ∧ Ap w5 w' 2 [] P (st2 e1 t1) 4194304) := by
          have h9 := Ap.crash HAP14.out 0 (by decide) a3 cap3 xs3 (Ints.below HI3.out.1 (Ap.bel HAP14.out)) HI3.out.2
          rw [show st2 d1 t1 0 = d1 from rfl, Twin.crash HTWN.out.1 xs3, ← he1, ← HL3.out] at h9
          refine h9.mono ?_
          rintro e w' ⟨rfl, h10⟩
          exact ⟨rfl, h10.eq (st2_0 _ _ _)⟩
        have HCB : Hid (∀ u, Ap w5 u 2 [] P (st2 e1 t1) 4194304 → Calls Try.prog 15 #[.pointer (some ⟨P 1, 0, none⟩), .slice a3 L3 cap3] u fun e w' => e = .returned (.tuple #[]) ∧ Ap w5 w' 2 [] P (st2 e1 e1) 4194304) := by
          intro u hu
          have h9 := hu.crash 1 (by decide) a3 cap3 xs3 (Ints.below HI3.out.1 hu.bel) HI3.out.2
          rw [show st2 e1 t1 1 = t1 from rfl, ← he1, ← HL3.out] at h9
          refine h9.mono ?_
          rintro e w' ⟨rfl, h10⟩
          exact ⟨rfl, h10.eq (st2_1 _ _ _)⟩
        have HE1 : Hid (e1.fine) := by rw [he1]; exact ⟨rfl, rfl⟩
        clear he1
        go_wp2_with fail
        refine HCA.out.mono ?_
        rintro e v1 ⟨rfl, hv1⟩
        have HV1 : Hid _ := hv1
        clear hv1 HCA
        go_wp2_with fail
        refine (HCB.out v1 HV1.out).mono ?_
        rintro e v2 ⟨rfl, hv2⟩
        have HV2 : Hid _ := hv2
        clear hv2 HCB HV1
        go_wp2_with fail
        refine Calls.mono (HDN.out v2 0 e1 e1 4194304 (by decide) HV2.out) ?_
        rintro e v3 ⟨rfl, hq⟩
        have hq := hq.symm
        subst hq
        rw [show (st2 e1 e1 0).off = false from HE1.out.1]
        obtain ⟨IM, hIM⟩ : ∃ X, X = img e1.S := ⟨_, rfl⟩
        obtain ⟨M, hM⟩ : ∃ M : Nat, M = IM.length := ⟨_, rfl⟩
        have hft := Ap.fit HV2.out 0 (by decide)
        have HML : Hid (M ≤ 140737488355328) := by
          have hfk : ∀ s ∈ e1.S, s.fit := hft.1
          have hfl : e1.S.length ≤ 65536 := hft.2.2
          rw [hM, hIM, img_len (fit_ok hfk)]
          unfold Hid
          omega
        have HIMG : Hid (∀ u i, i < 2 → Ap w5 u 2 [] P (st2 e1 e1) 4194304 → Calls Try.prog 13 #[.pointer (some ⟨P i, 0, none⟩)] u fun e w' => ∃ g, e = .returned (.slice (some ⟨g, 0, none⟩) M M) ∧ w'.heap[g]? = some (.cells (bv IM).toArray 5 (0, 0)) ∧ Below u.heap.size u w' ∧ Ap w5 w' 2 [] P (st2 e1 e1) 4194304) := by
          intro u i hi h9
          have h10 := h9.image i hi
          rw [show st2 e1 e1 i = e1 from by unfold st2; split <;> rfl, ← hIM, ← hM] at h10
          refine h10.mono ?_
          rintro e w' ⟨rfl, h11, h12⟩
          exact ⟨_, rfl, h11, h12, h9.below h12⟩
        have HM : Hid _ := hM
        clear hIM hM hft
        go_wp2_with fail
        refine (HIMG.out v2 0 (by decide) HV2.out).mono ?_
        rintro e v4 ⟨g4, rfl, hr4, -, hv4⟩
        have HV4 : Hid _ := hv4
        have HR4 : Hid _ := hr4
        clear hv4 hr4 HV2
        go_wp2_with fail
        refine (HIMG.out v4 1 (by decide) HV4.out).mono ?_
        rintro e v5 ⟨g5, rfl, hr5, hb5, hv5⟩
        have HV5 : Hid _ := hv5
        have HBY : Hid _ := byt_sameC g4 g5 M IM v5 HM.out ((hb5.block g4 (Array.getElem?_eq_some_iff.1 HR4.out).1).trans HR4.out) hr5 HML.out
        clear hr5 hb5 hv5 HV4 HR4 HIMG
        go_wp2_with fail
        refine Calls.mono HBY.out ?_
        rintro e v6 ⟨rfl, hb6⟩
        have HV6 : Hid _ := Ap.below HV5.out hb6
        clear hb6 HBY HV5
        go_wp2_with fail
        refine (HFL.out v6 0 e1 e1 4194304 0 (by decide) HV6.out (by rw [show (st2 e1 e1 0).can = true from HE1.out.can]; rfl)).mono ?_
        rintro e v7 ⟨rfl, hv7⟩
        have HV7 : Hid (Ap w5 v7 2 [] P (st2 e1.flush e1) 4194304) := hv7.eq (st2_0 _ _ _)
        have HE2 : Hid (e1.flush.fine) := by unfold Dst.flush; rw [HE1.out.can]; exact HE1.out.beg
        clear hv7 HV6
        go_wp2_with fail
        refine (HFI.out v7 2 (by decide)).mono ?_
        rintro e v8 ⟨g8, rfl, -, hr8, hb8⟩
        have HWX : Hid _ := HWR.out v8 0 e1.flush e1 4194304 g8 (fillS 2) 0 (by decide) (by decide) (Ap.below HV7.out hb8) hr8 (fillS_len 2) (by rw [show (st2 e1.flush e1 0).can = true from HE2.out.can]; rfl)
        clear hr8 hb8 HV7
        go_wp2_with fail
        refine Calls.mono HWX.out ?_
        rintro e v9x ⟨rfl, hv9⟩
        have HV9 : Hid _ := Ap.bel hv9
        clear hv9 HWX
        go_wp2
        go_ret
        exact ⟨rfl, Below.trans HBL.out (Below.mono HV9.out (Below.size HBL.out))⟩
end Go.Proofs.Ytgdkiejlggiakab
