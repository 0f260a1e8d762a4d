import Derived.Test.YtgdkiejlggiakabDStepB
namespace Go.Proofs.Ytgdkiejlggiakab
set_option linter.unusedVariables false
set_option linter.unusedSimpArgs false
open Go.RowKit Go.Maps
/-- the sectors below k that were written to, and how often -/
def drL (M : Nat → List Int) (k : Nat) : List Int := ((List.range k).filter fun j => (M j).length != 1).map fun (j : Nat) => (j : Int)
def drC (M : Nat → List Int) (k : Nat) : List Int := ((List.range k).filter fun j => (M j).length != 1).map fun (j : Nat) => ((M j).length : Int) - 1
theorem drL_succ (M : Nat → List Int) (k : Nat) : drL M (k + 1) = if (M k).length = 1 then drL M k else drL M k ++ [(k : Int)] := by
  unfold drL
  rw [List.range_succ, List.filter_append, List.map_append]
  by_cases h : (M k).length = 1 <;> simp [h]
theorem drC_succ (M : Nat → List Int) (k : Nat) : drC M (k + 1) = if (M k).length = 1 then drC M k else drC M k ++ [((M k).length : Int) - 1] := by
  unfold drC
  rw [List.range_succ, List.filter_append, List.map_append]
  by_cases h : (M k).length = 1 <;> simp [h]
theorem dr_len (M : Nat → List Int) (k : Nat) : (drL M k).length ≤ k ∧ (drC M k).length = (drL M k).length := by
  unfold drL drC
  refine ⟨?_, by simp⟩
  rw [List.length_map]
  exact Nat.le_trans (List.length_filter_le _ _) (by simp)
theorem dr_eq {d : Dst} {N : Nat} {M : Nat → List Int} {nx : Nat} (h : BookRel d N M nx) : dirtyL d.S.length d.C = drL M N ∧ dirtyC d.S.length d.C = drC M N := by
  rw [h.len]
  have e : (List.range N).filter (fun k => !(d.C k).isEmpty) = (List.range N).filter (fun j => (M j).length != 1) := by
    apply List.filter_congr
    intro j hj
    have h1 := (h.may j (List.mem_range.1 hj)).one
    by_cases e : d.C j = []
    · simp [e, h1.1 e]
    · have h2 : ¬ (M j).length = 1 := fun h2 => e (h1.2 h2)
      have a : (d.C j).isEmpty = false := by
        cases hC : d.C j with
        | nil => exact absurd hC e
        | cons _ _ => rfl
      have b : ((M j).length != 1) = true := by simpa using h2
      rw [a, b]
      rfl
  unfold dirtyL dirtyC dirtyN drL drC
  rw [e]
  refine ⟨rfl, List.map_congr_left fun j hj => ?_⟩
  have hj' := List.mem_range.1 (List.mem_filter.1 hj).1
  have := (h.may j hj').clen
  omega
theorem wp_appIn {w : World} {ops : Array Oper} {rest : List Oper} {o : Oper} {a : Act} {Q : Exit → Act → World → Prop} (hgd : o.guard = none) (s x : Operand)
    (ho : o.op = .call { callee := .builtin .append, args := #[s, x], argTypes := #[38, 38] }) (B : Nat) (v : Value) (xs : List Int) (n : Nat) (hn : n = xs.length) (y : Int) (g : Nat)
    (hs : a.eval s = v) (hown : OwnI w B v xs) (hx : a.eval x = .slice (some ⟨g, 0, none⟩) 1 1) (hg : w.heap[g]? = some (.cells #[.int .i64 y] 3 (0, 0))) (hb : n ≤ 1099511627776) (hbase : B ≤ w.heap.size)
    (h : ∀ g' cap w', OwnI w' B (.slice (some ⟨g', 0, none⟩) (n + 1) cap) (xs ++ [y]) → w.grownBy w' v.ownBlock → (v.ownBlock = some g' ∨ g' = w.heap.size) → wpList Try.prog ops Q rest (a.put o.dst (.slice (some ⟨g', 0, none⟩) (n + 1) cap)) w') : wpList Try.prog ops Q (o :: rest) a w := by
  subst hn
  exact wp_appI hgd s x ho B v xs y g hs hown hx hg hb hbase h
theorem ints_sameD (a1 a2 : Option Addr) (c1 c2 n m : Nat) (xs : List Int) (w : World) (hn : n = xs.length) (hm : m = xs.length) (h1 : Ints w a1 xs) (h2 : Ints w a2 xs) (hl : n ≤ 65536) :
    Calls Try.prog 24 #[.slice a1 n c1, .slice a2 m c2] w fun e w' => e = .returned (.bool true) ∧ Below w.heap.size w w' := by
  subst hm
  subst hn
  have h9 := ints_t a1 a2 c1 c2 xs xs w h1 h2 (by omega) (by omega)
  rw [beq_self_eq_true] at h9
  exact h9
theorem Bk.chg {W w w' : World} {kb N : Nat} {d : Dst} {M : Nat → List Int} {nx c : Nat} (h : Bk W w kb N d M nx c) {F : Nat → Prop} (hc : Chg F w w') (hF : ∀ b, F b → w.heap.size ≤ b) : Bk W w' kb N d M nx c :=
  h.below (hc.below hF (Nat.le_refl _))
set_option maxRecDepth 20000 in
set_option maxHeartbeats 1600000 in
theorem diskDirties_walk (n0 : Int) (a1 : Option Addr) (cap1 : Nat) (xs1 : List Stp) (W : World) (hn0 : -9223372036854775808 ≤ n0 ∧ n0 ≤ 9223372036854775807)
    (hr1 : RdSt W a1 xs1) (hl1 : xs1.length ≤ cap1) (ha1 : a1 = none → cap1 = 0) (hc1 : cap1 ≤ 1048575) :
    Calls Try.prog 7 #[.int .i64 n0, .slice a1 xs1.length cap1] W fun e w' => e = .returned (.bool true) ∧ Below W.heap.size W w' := by
  have HBG : Hid _ := begin_b n0 W hn0
  have HR1 : Hid _ := hr1
  obtain ⟨L1, hL1⟩ : ∃ L : Nat, L = xs1.length := ⟨_, rfl⟩
  rw [← hL1]
  have HL1 : Hid _ := hL1
  have HB1 : Hid (L1 ≤ 1048575) := by unfold Hid; omega
  have HIN : Hid _ := spanS_in n0 1 65536 (by decide)
  clear hn0 hr1 ha1 hL1 hl1 hc1
  go_enter Try.func7, Try.ntmps7
  go_wp2_with fail
  refine Calls.mono HBG.out ?_
  rintro e w1 ⟨kb, rfl, hbk⟩
  obtain ⟨N, hN⟩ : ∃ N : Nat, N = spanS n0 1 65536 := ⟨_, rfl⟩
  rw [← hN] at hbk HIN
  have HBK2 : Hid _ := hbk
  clear hbk hN HBG
  go_wp2_with fail
  go_loopw [7, 8, 9, 10, 11, 12] (fun i _ _ _ _ _ wr => ∃ (k : Nat) (d : Dst) (M : Nat → List Int) (nx c : Nat), k ≤ L1 ∧ i = .int .i64 (k : Int) ∧ Bk W wr kb N d M nx c ∧ nx ≤ k + 1 ∧ c ≤ k) (fun i _ _ _ _ _ _ => L1 - (intOf i).toNat)
  case atStart => exact ⟨0, _, _, 1, 0, Nat.zero_le _, rfl, HBK2.out, Nat.le_refl _, Nat.le_refl _⟩
  case round =>
    obtain ⟨k, d, M, nx, c, hk, rfl, hbk, hnx, hc⟩ := hrel
    have HBK : Hid _ := hbk
    clear hbk HBK2
    have hkw : IntKind.i64.wrap ((k : Int) + 1) = ((k + 1 : Nat) : Int) := by rw [IntKind.wrap_i64]; have := HB1.out; omega
    by_cases hlt : k < L1
    · have hlti : (k : Int) < (L1 : Int) := by omega
      have hk0 : (0 : Int) ≤ (k : Int) := by omega
      have hkx : k < xs1.length := by rw [← HL1.out]; exact hlt
      obtain ⟨b, o, ca, cc, rfl, hrg, hin, hat⟩ := HR1.out k hkx
      obtain ⟨s, hs⟩ : ∃ s : Stp, s = xs1[k] := ⟨_, rfl⟩
      rw [← hs] at hrg hin hat
      have HST : Hid _ := bstep_t HBK.out s ca cc hin hat (by have := HB1.out; omega) (by have := HB1.out; omega)
      have HRW : Hid _ := rangeAt_below hrg (Bk.bel HBK.out)
      clear hs hrg hin hat
      go_wp2_with (first
        | (refine wpList_load_mid rfl 48 _ rfl b (o + k * 3) (by rfl) [.int .i64 s.op, .int .i64 s.at_, .slice ca s.cs.length cc] _ HRW.out Try.underlying48 rfl (by rw [(zero_of_info info_step).2]; rfl) ?_))
      refine Calls.mono HST.out ?_
      rintro e w3 ⟨rfl, d3, M3, nx3, hbk3, hnx3⟩
      have HBK3 : Hid _ := hbk3
      obtain ⟨p, g, m, DV, gm, cap, V, hds, -, hbka⟩ := hbk3.ex
      have HBKA : Hid _ := hbka
      have HML : Hid (∀ j, j < N → (M3 j).length ≤ 1099511627777) := fun j hj => by
        have h8 := (hbk3.rel.may j hj).clen
        have h9 := CacheAt.few (DK.cache hds) j
        have h10 := DK.few hds
        omega
      have HDI : Hid (∀ u, Below w3.heap.size w3 u → Calls Try.prog 17 #[.pointer (some ⟨p, 0, none⟩)] u fun e w' => ∃ v x, e = .returned (.tuple #[v, x]) ∧ OwnI w' u.heap.size v (drL M3 N) ∧ OwnI w' u.heap.size x (drC M3 N) ∧ (x.ownBlock = none ∨ v.ownBlock ≠ x.ownBlock) ∧ Below u.heap.size u w') := by
        intro u hu
        have h9 := dirty_t p g m d3.S d3.C DV d3.off d3.fuse (c + 1) u (DK.below hds hu)
        rw [(dr_eq hbk3.rel).1, (dr_eq hbk3.rel).2] at h9
        exact h9
      clear hbk3 hds hbka HST HRW
      go_wp2_with fail
      go_loopw [8, 9, 10] (fun l n i wq => ∃ (y : Nat) (v1 v2 : Value), v1 = l ∧ v2 = n ∧ y ≤ N ∧ i = .int .i64 (y : Int) ∧ OwnI wq w3.heap.size v1 (drL M3 y) ∧ OwnI wq w3.heap.size v2 (drC M3 y) ∧ (v1.ownBlock = none ∨ v1.ownBlock ≠ v2.ownBlock) ∧ Below w3.heap.size w3 wq) (fun _ _ i _ => N - (intOf i).toNat)
      case atStart => exact ⟨0, _, _, rfl, rfl, Nat.zero_le _, rfl, OwnI.nil _ _, OwnI.nil _ _, .inl rfl, Below.refl _ _⟩
      case round =>
        obtain ⟨y, v1, v2, rfl, rfl, hy, rfl, ho1, ho2, hne, hbw⟩ := hrel
        have hba := BookAt.below HBKA.out hbw
        have c1 := hba.k1
        have hy0 : (0 : Int) ≤ (y : Int) := by omega
        have hyw : IntKind.i64.wrap ((y : Int) + 1) = ((y + 1 : Nat) : Int) := by rw [IntKind.wrap_i64]; have := HIN.out; omega
        have hdl := dr_len M3 y
        have hNN := HIN.out.2
        by_cases hlty : y < N
        · have hltyi : (y : Int) < (N : Int) := by omega
          have cv := hba.cell y hlty
          obtain ⟨gr, cr, hv, -, -, -⟩ := hba.row y hlty
          obtain ⟨ln, hln⟩ : ∃ n, n = (M3 y).length := ⟨_, rfl⟩
          rw [hv, ← hln] at cv
          have hlb : ln ≤ 1099511627777 := by rw [hln]; exact HML.out y hlty
          have hpos : 1 ≤ ln := by rw [hln]; exact List.length_pos_iff.2 (hba.ne y hlty)
          have HLN : Hid _ := hln
          have HBA : Hid _ := hba
          have HO1 : Hid _ := ho1
          have HO2 : Hid _ := ho2
          have HNE : Hid _ := hne
          have HBW : Hid _ := hbw
          clear hv hln hba ho1 ho2 hne hbw
          by_cases q1 : ln = 1
          · have q1i : ¬ (1 : Int) < (ln : Int) := by omega
            go_wp2
            go_roundw
            case rel => exact ⟨y + 1, v1, v2, rfl, rfl, by omega, rfl, by rw [drL_succ, if_pos (by rw [← HLN.out]; exact q1)]; exact HO1.out, by rw [drC_succ, if_pos (by rw [← HLN.out]; exact q1)]; exact HO2.out, HNE.out, HBW.out⟩
            case measure => simp [intOf]; omega
          · have q1i : (1 : Int) < (ln : Int) := by omega
            obtain ⟨nl, hnl⟩ : ∃ n, n = (drL M3 y).length := ⟨_, rfl⟩
            have hnlb : nl ≤ 65536 := by omega
            have HNLL : Hid _ := hnl
            clear hnl hdl
            obtain ⟨t, ht⟩ : ∃ t : Nat, t = ln - 1 := ⟨_, rfl⟩
            have hlw : IntKind.i64.wrap ((ln : Int) - 1) = (t : Int) := by rw [IntKind.wrap_i64]; omega
            obtain ⟨X, hX⟩ : ∃ X : World, X = wr.alloc (.cells #[.int .i64 (y : Int)] 3) := ⟨_, rfl⟩
            have hXb : Below wr.heap.size wr X := by rw [hX]; exact al (Below.refl _ _) _
            have hXr : X.heap[wr.heap.size]? = some (.cells #[.int .i64 (y : Int)] 3 (0, 0)) := by rw [hX]; exact heap_alloc_new wr _
            have hoX : OwnI X w3.heap.size v1 (drL M3 y) := OwnI.below HO1.out hXb
            have hBX : w3.heap.size ≤ X.heap.size := Nat.le_trans (Below.size HBW.out) hXb.size
            have HXB : Hid _ := hXb
            have HT : Hid _ := ht
            clear hXb ht
            go_wp2_with (first
              | (at_builtin; rw [← hX]; refine wp_appIn rfl _ _ rfl w3.heap.size v1 (drL M3 y) nl HNLL.out (y : Int) wr.heap.size (by rfl) hoX (by rfl) hXr (by omega) hBX ?_; intro g7 cap7 w7 how7 hg7 hwh7; have hcg7 : Chg (fun b => v1.ownBlock = some b) X w7 := Chg.of_grown hg7 (fun b hb => hb); have hbb7 : Below w3.heap.size w3 w7 := (Below.trans HBW.out (HXB.out.mono (Below.size HBW.out))).trans (hcg7.below (fun b hb => (World.ownsRow.lt hoX b hb).1) hBX); have HBA7 := BookAt.below HBKA.out hbb7; have c17 := HBA7.k1; have cv7 : w7.cell? ⟨gm, y, none⟩ = some (.slice (some ⟨gr, 0, none⟩) ln cr) := (by rw [HBA7.cell y hlty, ← HBA.out.cell y hlty]; exact cv); clear hX)
              | (at_builtin; refine wp_appIn rfl _ _ rfl w3.heap.size v2 (drC M3 y) nl (by rw [HNLL.out, (dr_len M3 y).2]) (t : Int) w7.heap.size (by rfl) (OwnI.below (OwnI.chg (OwnI.below HO2.out HXB.out) hcg7 (fun b hb hb1 => by rcases HNE.out with e | e; (· rw [e] at hb1; cases hb1); (· exact e (hb1.trans hb.symm)))) (al (Below.refl _ _) _)) (by rfl) (heap_alloc_new w7 _) (by omega) (by have := hbb7.size; simp; omega) ?_; intro g8 cap8 w8 how8 hg8 hwh8))
            have hsx := HXB.out.size
            have hs7 := hcg7.size
            have hU : Below w7.heap.size w7 (w7.alloc (.cells #[.int .i64 (t : Int)] 3)) := al (Below.refl _ _) _
            have hsU := hU.size
            have hcg8 : Chg (fun b => v2.ownBlock = some b) (w7.alloc (.cells #[.int .i64 (t : Int)] 3)) w8 := Chg.of_grown hg8 (fun b hb => hb)
            have hl2 : ∀ b, v2.ownBlock = some b → w3.heap.size ≤ b ∧ b < wr.heap.size := fun b hb => World.ownsRow.lt HO2.out b hb
            have hn7 : ¬ v2.ownBlock = some g7 := fun e9 => by
              rcases hwh7 with e | e
              · rcases HNE.out with e1 | e1
                · rw [e1] at e; cases e
                · exact e1 (e.trans e9.symm)
              · have := (hl2 g7 e9).2
                omega
            have hg7l : g7 < w7.heap.size := (World.ownsRow.lt how7 g7 rfl).2
            go_roundw
            case rel =>
              have e1 : drL M3 (y + 1) = drL M3 y ++ [(y : Int)] := by rw [drL_succ, if_neg (by rw [← HLN.out]; exact q1)]
              have e2 : drC M3 (y + 1) = drC M3 y ++ [(t : Int)] := by
                rw [drC_succ, if_neg (by rw [← HLN.out]; exact q1), ← HLN.out]
                have := HT.out
                congr 2
                omega
              refine ⟨y + 1, _, _, rfl, rfl, by omega, rfl, ?_, ?_, .inr ?_, ?_⟩
              · rw [e1]
                exact (how7.below hU).chg hcg8 (fun b hb => by simp [Value.ownBlock] at hb; subst hb; exact hn7)
              · rw [e2]
                exact how8
              · simp only [Value.ownBlock]
                intro e9
                have e9 := Option.some.inj e9
                rcases hwh8 with e | e
                · exact hn7 (by rw [e, e9])
                · omega
              · exact (below_next hbb7 hU).trans (hcg8.below (fun b hb => (hl2 b hb).1) (by have := hbb7.size; omega))
            case measure => simp [intOf]; omega
        · have hltyi : ¬ (y : Int) < (N : Int) := by omega
          obtain rfl : y = N := by omega
          have c0 := hba.k0
          obtain ⟨al1, cl1, rfl, hi1⟩ := OwnI.ints ho1
          obtain ⟨al2, cl2, rfl, hi2⟩ := OwnI.ints ho2
          obtain ⟨nL, hnL⟩ : ∃ n, n = (drL M3 y).length := ⟨_, rfl⟩
          have hnC : nL = (drC M3 y).length := by rw [hnL, (dr_len M3 y).2]
          rw [← hnL, ← hnC]
          have HnL : Hid (nL = (drL M3 y).length ∧ nL = (drC M3 y).length ∧ nL ≤ 65536) := ⟨hnL, hnC, by omega⟩
          have HI1 : Hid _ := hi1
          have HI2 : Hid _ := hi2
          have HBW : Hid _ := hbw
          have HDW : Hid _ := HDI.out wr hbw
          clear hi1 hi2 hbw hba ho1 ho2 hne hnL hnC hdl
          go_wp2_with fail
          refine Calls.mono HDW.out ?_
          rintro e u1 ⟨x1, x2, rfl, hx1, hx2, -, hbu⟩
          obtain ⟨ax1, cx1, rfl, hj1⟩ := OwnI.ints hx1
          obtain ⟨ax2, cx2, rfl, hj2⟩ := OwnI.ints hx2
          rw [← HnL.out.1, ← HnL.out.2.1]
          have HN1 : Hid _ := ints_sameD ax1 al1 cx1 cl1 nL nL (drL M3 y) u1 HnL.out.1 HnL.out.1 hj1 (Ints.below HI1.out hbu) HnL.out.2.2
          have HN2 : Hid (∀ u, Below u1.heap.size u1 u → _) := fun u hu => ints_sameD ax2 al2 cx2 cl2 nL nL (drC M3 y) u HnL.out.2.1 HnL.out.2.1 (Ints.below hj2 hu) (Ints.below HI2.out (below_next hbu hu)) HnL.out.2.2
          have HBu : Hid (Below w3.heap.size w3 u1) := below_next HBW.out hbu
          clear hx1 hx2 hj1 hj2 hbu HDW HDI
          go_wp2_with fail
          refine Calls.mono HN1.out ?_
          rintro e u2 ⟨rfl, hb2⟩
          have HB2 : Hid _ := below_next HBu.out hb2
          have HN3 : Hid _ := HN2.out u2 hb2
          clear hb2 HN1 HN2
          go_wp2_with fail
          refine Calls.mono HN3.out ?_
          rintro e u3 ⟨rfl, hb3⟩
          have HB3 : Hid _ := Bk.below HBK3.out (below_next HB2.out hb3)
          clear hb3 HN3
          go_wp2
          go_roundw
          case rel => exact ⟨k + 1, d3, M3, nx3, c + 1, by omega, rfl, HB3.out, by omega, by omega⟩
          case measure => simp [intOf]; omega
    · have hlti : ¬ (k : Int) < (L1 : Int) := by omega
      go_wp2
      go_ret
      exact ⟨rfl, Bk.bel HBK.out⟩
end Go.Proofs.Ytgdkiejlggiakab
