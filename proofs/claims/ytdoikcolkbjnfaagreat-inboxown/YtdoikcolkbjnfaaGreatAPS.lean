import Derived.Test.YtdoikcolkbjnfaaGreatAP
import Derived.Test.YtdoikcolkbjnfaaGreatIxI5
import Derived.Deep.CutRange
namespace Go.Proofs.YtdoikcolkbjnfaaGreat
set_option linter.unusedVariables false
set_option linter.unusedSimpArgs false
open Go.RowKit Go.Maps
def mkS (i : Nat) : Ss := (1125899906842624, i)
theorem info_slS : (Tryz.prog.info? 47).map (fun i => (i.zero, i.size, i.bytes)) = some (some (.slice none 0 0), 1, 24) := by kernel_rfl
theorem wrap_u64 (k : Nat) (h : k < 18446744073709551616) : IntKind.u64.wrap (k : Int) = (k : Int) := by rw [IntKind.wrap_u64]; omega
theorem own_lenG {α : Type} {K : Kd α} {w : World} {B n c : Nat} {a : Option Addr} {xs : List α} (h : w.ownsRow B K.t K.k (.slice a n c) xs.length (K.flat xs)) : n = xs.length := by
  rcases h.2 with ⟨e, h0⟩ | ⟨g, cap, cur, e, -⟩
  · simp only [Value.slice.injEq] at e
    omega
  · simp only [Value.slice.injEq] at e
    exact e.2.1
theorem cellS {w w6 : World} {B g n c N : Nat} {q : Nat} (_h : OwnG KSs w B (.slice (some ⟨g, 0, none⟩) n c) (List.replicate N (mkS q))) (h : w6.ownsRow B KSs.t KSs.k (.slice (some ⟨g, 0, none⟩) n c) (List.replicate N (mkS q)).length (KSs.flat (List.replicate N (mkS q)))) (m : Nat) (hm : m < N) : w6.cell? ⟨g, m * 2 + 1, none⟩ = some (.int .u64 (q : Int)) := by
  have hn : n = N := by
    have := own_lenG (K := KSs) h
    rw [List.length_replicate] at this
    exact this
  have h9 := OwnG.cell (K := KSs) h (by rw [List.length_replicate]; exact hn) m 1 (by rw [List.length_replicate]; exact hm) (by decide)
  rw [List.getElem_replicate] at h9
  exact h9
section
set_option maxRecDepth 20000
set_option maxHeartbeats 6400000
theorem putSs {w : World} {B k nk xc xb m : Nat} {vs : List Value} {D : List Ss} {E : Nat → List Ss} (h : RowsAt KSs w B vs (fun j => if j = k then D else E j)) (hv : vs[k]? = some (.slice (some ⟨xb, 0, none⟩) nk xc)) (hD : D.length = nk) (hm : m < nk) :
    ∃ d e : Int, (w.cell? ⟨xb, m * 2, none⟩ = some (.int .u64 d) ∧ w.cell? ⟨xb, m * 2 + 1, none⟩ = some (.int .u64 e)) ∧ (w.frozen? ⟨xb, m * 2, none⟩ = false ∧ w.frozen? ⟨xb, m * 2 + 1, none⟩ = false) ∧ RowsAt KSs ((w.setCell ⟨xb, m * 2, none⟩ (.int .u64 1125899906842624)).setCell ⟨xb, m * 2 + 1, none⟩ (.int .u64 (k : Int))) B vs (fun j => if j = k then D.set m (mkS k) else E j) ∧ w.grownBy ((w.setCell ⟨xb, m * 2, none⟩ (.int .u64 1125899906842624)).setCell ⟨xb, m * 2 + 1, none⟩ (.int .u64 (k : Int))) (some xb) := by
  have ho := h.own k _ hv
  simp only [if_true] at ho
  have h1 := OwnG.cell ho hD.symm m 0 (by omega) (by decide)
  have h2 := OwnG.cell ho hD.symm m 1 (by omega) (by decide)
  have h3 := OwnG.setc ho hD.symm m 0 (by omega) (by decide) (1125899906842624, D[m].2) (.int .u64 1125899906842624) rfl
  have h4 := OwnG.setc h3 (by rw [List.length_set]; exact hD.symm) m 1 (by rw [List.length_set]; omega) (by decide) (mkS k) (.int .u64 (k : Int)) (by rw [List.getElem_set_self]; rfl)
  rw [List.set_set] at h4
  have hg := grow_trans (gset1 w xb (m * 2) (.int .u64 1125899906842624)) (gset1 _ xb (m * 2 + 1) (.int .u64 (k : Int)))
  exact ⟨D[m].1, D[m].2, ⟨h1, h2⟩, ⟨ho.fz _, ho.fz _⟩, (h.put hv h4 hg).congr (fun j _ => by by_cases e : j = k <;> simp [e]), hg⟩
theorem apartSess_t (B : Nat) (v0 : Value) (vs : List Value) (C : Nat → List Ss) (w : World) (hrow : w.ownsRow B 47 1 v0 vs.length vs) (hI : RowsAt KSs w B vs C) (hn : vs.length ≤ 4398046511103) (hc : ∀ j, (C j).length ≤ 4398046511103) (hB : B ≤ w.heap.size) :
    Calls Tryz.prog 27 #[v0] w fun e w' => e = .returned (.bool true) ∧ ChI (fun b => ∃ v ∈ vs, v.ownBlock = some b) w w' := by
  obtain ⟨N, hN⟩ : ∃ N, N = vs.length := ⟨_, rfl⟩
  obtain ⟨FF, hFF⟩ : ∃ FF : Nat → Prop, FF = fun b => ∃ v ∈ vs, v.ownBlock = some b := ⟨_, rfl⟩
  have HFF : Hid (∀ (j b : Nat) (v : Value), vs[j]? = some v → v.ownBlock = some b → FF b) := (fun j b v h1 h2 => by rw [hFF]; exact ⟨v, List.mem_of_getElem? h1, h2⟩)
  rw [← hFF]
  clear hFF
  rw [← hN] at hrow hn
  have HN : Hid (N = vs.length) := hN
  have HRW : Hid (w.ownsRow B 47 1 v0 N vs) := hrow
  have HI : Hid (RowsAt KSs w B vs C) := hI
  have HC : Hid (∀ j, (C j).length ≤ 4398046511103) := hc
  have HB : Hid (B ≤ w.heap.size) := hB
  obtain ⟨a0, c0, hv0, hc0⟩ := rowI_val hrow
  subst hv0
  clear hrow hI hc hB hN
  go_enter Tryz.func27, Tryz.ntmps27
  go_wp2_with fail
  go_loopw [4] (fun i wr => ∃ (k : Nat) (E : Nat → List Ss), k ≤ N ∧ i = .int .i64 (k : Int) ∧ wr.ownsRow B 47 1 (.slice a0 N c0) N vs ∧ RowsAt KSs wr B vs E ∧ (∀ j, (E j).length = (C j).length) ∧ (∀ j, j < k → E j = List.replicate (C j).length (mkS j)) ∧ ChI FF w wr) (fun i _ => N - (intOf i).toNat)
  case atStart => exact ⟨0, C, Nat.zero_le _, rfl, HRW.out, HI.out, fun _ => rfl, (fun j hj => by omega), ChI.refl _ _⟩
  case round =>
    obtain ⟨k, E, hk, rfl, hrw, hix, hel, hem, hbel⟩ := hrel
    have HRK : Hid (wr.ownsRow B 47 1 (.slice a0 N c0) N vs) := hrw
    have HIX : Hid (RowsAt KSs wr B vs E) := hix
    have HEL : Hid (∀ j, (E j).length = (C j).length) := hel
    have HEM : Hid (∀ j, j < k → E j = List.replicate (C j).length (mkS j)) := hem
    have HBEL : Hid (ChI FF w wr) := hbel
    clear hrw hix hel hem hbel
    by_cases hlt : k < N
    · have hkv : k < vs.length := by have := HN.out; omega
      have hvk : vs[k]? = some vs[k] := List.getElem?_eq_getElem hkv
      obtain ⟨nk, hnk⟩ : ∃ nk, nk = (C k).length := ⟨_, rfl⟩
      have hok := HIX.out.own k _ hvk
      unfold OwnG at hok
      rw [HEL.out k, ← hnk] at hok
      obtain ⟨xa, xc, hx, hxc⟩ := rowI_val hok
      rw [hx] at hvk
      have HVK : Hid (vs[k]? = some (.slice xa nk xc)) := hvk
      have HNK : Hid (nk = (C k).length) := hnk
      have hnkb : nk ≤ 4398046511103 := by rw [hnk]; exact HC.out k
      obtain ⟨g0, rfl⟩ := rowI_some HRK.out (by omega)
      have HCK : Hid (∀ u : World, u.ownsRow B 47 1 (.slice (some ⟨g0, 0, none⟩) N c0) N vs → u.cell? ⟨g0, k, none⟩ = some (.slice xa nk xc)) := (fun u hu => by rw [World.ownsRow.cellAt hu k (by omega)]; exact HVK.out)
      have hck := HCK.out wr HRK.out
      have hki : (k : Int) < (N : Int) := by omega
      have hk0 : (0 : Int) ≤ (k : Int) := by omega
      clear hok hx hvk hnk
      go_wp2_with fail
      go_loopw [5] (fun q wr2 => ∃ (m : Nat) (D : List Ss), m ≤ nk ∧ q = .int .i64 (m : Int) ∧ D.length = nk ∧ (∀ t, t < m → D[t]? = some (mkS k)) ∧ wr2.ownsRow B 47 1 (.slice (some ⟨g0, 0, none⟩) N c0) N vs ∧ RowsAt KSs wr2 B vs (fun j => if j = k then D else E j) ∧ ChI FF w wr2) (fun q _ => nk - (intOf q).toNat)
      case atStart => exact ⟨0, E k, Nat.zero_le _, rfl, by rw [HEL.out k, HNK.out], (fun t ht => by omega), HRK.out, HIX.out.congr (fun j _ => by by_cases e : j = k <;> simp [e]), HBEL.out⟩
      case round =>
        obtain ⟨m, D, hm, rfl, hdl, hdm, hrw2, hix2, hb2⟩ := hrel
        rename World => wq
        have HDL : Hid (D.length = nk) := hdl
        have HDM : Hid (∀ t, t < m → D[t]? = some (mkS k)) := hdm
        have HR2 : Hid (wq.ownsRow B 47 1 (.slice (some ⟨g0, 0, none⟩) N c0) N vs) := hrw2
        have HI2 : Hid (RowsAt KSs wq B vs (fun j => if j = k then D else E j)) := hix2
        have HB2 : Hid (ChI FF w wq) := hb2
        have hck2 := HCK.out wq hrw2
        clear hck hdl hdm hrw2 hix2 hb2
        by_cases hlm : m < nk
        · have hov := HI2.out.own k _ HVK.out
          simp only [if_true] at hov
          unfold OwnG at hov
          rw [HDL.out] at hov
          obtain ⟨xb, rfl⟩ := rowI_some hov (by omega)
          obtain ⟨xcur, hxb⟩ := rowI_blk hov xb rfl
          obtain ⟨lcur, hgb⟩ := rowI_blk HR2.out g0 rfl
          have hne : g0 ≠ xb := fun e => by
            subst e
            rw [hxb] at hgb
            injection hgb with hgb
            injection hgb with e1 e2
            exact absurd e2 (by decide)
          have HNE : Hid (g0 ≠ xb) := hne
          have hmD : m < D.length := by rw [HDL.out]; exact hlm
          have hcD : wq.drew.cell? ⟨g0, k, none⟩ = some (.slice (some ⟨xb, 0, none⟩) nk xc) := hck2
          have HDL3 : Hid ((D.set m (mkS k)).length = nk) := (show _ = _ by rw [List.length_set]; exact HDL.out)
          have HDM3 : Hid (∀ t, t < m + 1 → (D.set m (mkS k))[t]? = some (mkS k)) := (fun t ht => by
            by_cases e : t = m
            · subst e; rw [List.getElem?_set_self hmD]
            · rw [List.getElem?_set_ne (fun e9 => e e9.symm)]; exact HDM.out t (by omega))
          have hmi : (m : Int) < (nk : Int) := by omega
          have hm0 : (0 : Int) ≤ (m : Int) := by omega
          clear hov hxb hgb hne
          obtain ⟨d9, e9, ⟨hcm, hcm2⟩, ⟨hfm, hfm2⟩, hR9, hg9⟩ := putSs HI2.out HVK.out HDL.out hlm
          have HR3 : Hid (((wq.setCell ⟨xb, m * 2, none⟩ (.int .u64 1125899906842624)).setCell ⟨xb, m * 2 + 1, none⟩ (.int .u64 (k : Int))).ownsRow B 47 1 (.slice (some ⟨g0, 0, none⟩) N c0) N vs) := rowI_grown (v := .slice (some ⟨xb, 0, none⟩) nk xc) HR2.out hg9 (fun b e1 e2 => HNE.out (by cases e1; cases e2; rfl))
          have HI3 : Hid _ := hR9
          have HB3 : Hid (ChI FF w ((wq.setCell ⟨xb, m * 2, none⟩ (.int .u64 1125899906842624)).setCell ⟨xb, m * 2 + 1, none⟩ (.int .u64 (k : Int)))) := HB2.out.grown hg9 (fun b e => by cases e; exact .inl (HFF.out k _ _ HVK.out rfl))
          have hku : IntKind.u64.wrap (k : Int) = (k : Int) := wrap_u64 k (by omega)
          clear hR9 hg9 hcD
          go_wp2
          go_roundw
          case rel => exact ⟨m + 1, D.set m (mkS k), by omega, by go_num, HDL3.out, HDM3.out, HR3.out, HI3.out, HB3.out⟩
          case measure => simp [intOf]; omega
        · obtain rfl : m = nk := by omega
          have hmI : ¬ ((m : Int) < (m : Int)) := by omega
          have HDR : Hid (D = List.replicate m (mkS k)) := rep_ofG HDL.out HDM.out
          go_wp2
          go_roundw
          case rel => exact ⟨k + 1, _, by omega, by go_num, HR2.out, HI2.out, (fun j => by by_cases e : j = k; (subst e; simp only [if_true]; rw [HDL.out]; exact HNK.out); (simp only [if_neg e]; exact HEL.out j)), (fun j hj => by by_cases e : j = k; (subst e; simp only [if_true]; rw [HDR.out, ← HNK.out]); (simp only [if_neg e]; exact HEM.out j (by omega))), HB2.out⟩
          case measure => simp [intOf]; omega
    · obtain rfl : k = N := by omega
      have hkI : ¬ ((k : Int) < (k : Int)) := by omega
      have HG : Hid (GrG KSs mkS wr B (.slice a0 k c0) (.slice none 0 0) vs [] (fun j => (C j).length)) := ⟨by rw [← HN.out]; exact HRK.out, World.ownsRow_nil _ _ _ _, (fun b e => by cases e), HIX.out.congr (fun j hj => HEM.out j (by have := HN.out; omega)), (fun j x hx => by simp at hx), (fun i j x y hx => by simp at hx), (fun i j x y hx => by simp at hx)⟩
      go_wp2_with fail
      go_loopw [3, 6] (fun gvv i wr3 => ∃ (p : Nat) (gs : List Value), p ≤ k ∧ i = .int .i64 (p : Int) ∧ gs.length = p ∧ GrG KSs mkS wr3 B (.slice a0 k c0) gvv vs gs (fun j => (C j).length) ∧ (∀ b, gvv.ownBlock = some b → w.heap.size ≤ b) ∧ ChI FF w wr3) (fun _ i _ => k - (intOf i).toNat)
      case atStart => exact ⟨0, [], Nat.zero_le _, rfl, rfl, HG.out, (fun b e => by cases e), HBEL.out⟩
      case round =>
        clear HG HRK HIX HEL HEM
        obtain ⟨p, gs, hp, rfl, hgl, hG, hgv, hb3⟩ := hrel
        rename World => w3
        have HG : Hid (GrG KSs mkS w3 B (.slice a0 k c0) u3 vs gs (fun j => (C j).length)) := hG
        have HGL : Hid (gs.length = p) := hgl
        have HB3 : Hid (ChI FF w w3) := hb3
        obtain ⟨a1, c1, hv1, -⟩ := rowI_val hG.gr
        rw [hgl] at hv1
        subst hv1
        have HGV : Hid (∀ b, (Value.slice a1 p c1).ownBlock = some b → w.heap.size ≤ b) := hgv
        clear hG hgl hb3 hgv
        by_cases hlp : p < k
        · have hpv : p < vs.length := by have := HN.out; omega
          have hvp : vs[p]? = some vs[p] := List.getElem?_eq_getElem hpv
          obtain ⟨np, hnp⟩ : ∃ np, np = (C p).length := ⟨_, rfl⟩
          have hop := (HG.out.ix.own p _ hvp).repl
          rw [← hnp] at hop
          obtain ⟨xa, xc, hx, hxc⟩ := rowI_val hop
          rw [hx] at hvp
          have HVP : Hid (vs[p]? = some (.slice xa np xc)) := hvp
          have HNP : Hid (np = (C p).length) := hnp
          have hnpb : np ≤ 4398046511103 := by rw [hnp]; exact HC.out p
          have hlr := HG.out.lr
          rw [← HN.out] at hlr
          obtain ⟨g0, rfl⟩ := rowI_some hlr (by omega)
          have hcp : w3.cell? ⟨g0, p, none⟩ = some (.slice xa np xc) := by
            rw [World.ownsRow.cellAt hlr p (by omega)]; exact HVP.out
          have hpi : (p : Int) < (k : Int) := by omega
          have hp0 : (0 : Int) ≤ (p : Int) := by omega
          have HGI : Hid (GiG KSs mkS w3 B vs gs (fun j => (C j).length) p 0 (.slice xa np xc)) := GiG.start HG.out HGL.out HVP.out
          clear hop hx hvp hnp hlr
          go_wp2_with fail
          go_loopw [7, 8] (fun g q wr4 => ∃ m : Nat, m ≤ 64 ∧ q = .int .i64 (m : Int) ∧ GrG KSs mkS wr4 B (.slice (some ⟨g0, 0, none⟩) k c0) (.slice a1 p c1) vs gs (fun j => (C j).length) ∧ GiG KSs mkS wr4 B vs gs (fun j => (C j).length) p m g ∧ (∀ b, g.ownBlock = some b → FF b ∨ w.heap.size ≤ b) ∧ ChI FF w wr4) (fun _ q _ => 64 - (intOf q).toNat)
          case atStart => exact ⟨0, Nat.zero_le _, rfl, HG.out, HGI.out, (fun b e => .inl (HFF.out p b _ HVP.out e)), HB3.out⟩
          case round =>
            clear HG HGI hcp
            obtain ⟨m, hm, rfl, hG, hGi, hgf, hb4⟩ := hrel
            rename World => w4
            obtain ⟨ga, gc, hg7, -⟩ := rowI_val hGi.own.repl
            rw [← HNP.out] at hg7
            subst hg7
            have HG : Hid (GrG KSs mkS w4 B (.slice (some ⟨g0, 0, none⟩) k c0) (.slice a1 p c1) vs gs (fun j => (C j).length)) := hG
            have HGI : Hid (GiG KSs mkS w4 B vs gs (fun j => (C j).length) p m (.slice ga (np + m) gc)) := hGi
            have HB4 : Hid (ChI FF w w4) := hb4
            have HGF : Hid (∀ b, (Value.slice ga (np + m) gc).ownBlock = some b → FF b ∨ w.heap.size ≤ b) := hgf
            clear hG hGi hb4 hgf
            by_cases hlm : m < 64
            · have hmi : (m : Int) < 64 := by omega
              have HL1 : Hid ((List.replicate ((C p).length + m) (mkS p)).length + 1 ≤ 140737488355328) := (show _ ≤ _ by rw [List.length_replicate, ← HNP.out]; omega)
              have HL2 : Hid (((List.replicate ((C p).length + m) (mkS p)).length + 1) * KSs.by_ ≤ 140737488355328) := (show _ ≤ _ by rw [List.length_replicate, ← HNP.out]; show (np + m + 1) * 16 ≤ _; omega)
              have HBS : Hid (B ≤ w4.heap.size) := (show _ ≤ _ from Nat.le_trans HB.out HB4.out.size)
              have HAB : Hid (∀ ob, Below w4.heap.size w4 (w4.alloc ob)) := (fun ob => (Below.refl _ _).alloc (Nat.le_refl _) ob)
              have HBA : Hid (∀ ob, B ≤ (w4.alloc ob).heap.size) := (fun ob => Nat.le_trans HBS.out (HAB.out ob).size)
              have hku : IntKind.u64.wrap (p : Int) = (p : Int) := wrap_u64 p (by omega)
              go_wp2_with (first | (at_builtin; refine wp_app1G (K := KSs) rfl _ _ rfl B _ (List.replicate ((C p).length + m) (mkS p)) (mkS p) (by rfl) (rowI_below HGI.out.own (HAB.out _)) _ 1 (by rfl) (heap_alloc_new w4 _) HL1.out HL2.out (HBA.out _) ?_; intro v6 w6 hown hc; obtain ⟨hG6, hGi6, hg6, hv6⟩ := GrG.app1 (by decide) (HG.out.below (HAB.out _)) (HGI.out.below (HAB.out _)) (HBA.out _) hown hc; have HG6 : Hid _ := hG6; have HGI6 : Hid _ := hGi6; have HB6 : Hid (ChI FF w w6) := (HB4.out.below (HAB.out _)).grown hg6 HGF.out; have HGF6 : Hid (∀ b, v6.ownBlock = some b → FF b ∨ w.heap.size ≤ b) := (fun b e => by rcases hv6 with h9 | h9; (exact HGF.out b (by rw [← h9]; exact e)); (rw [h9] at e; cases e; exact .inr (Nat.le_trans HB4.out.size (HAB.out _).size))); clear hG6 hGi6 hg6 hv6 hown hc))
              go_roundw
              case rel => exact ⟨m + 1, by omega, by go_num, HG6.out, HGI6.out, HGF6.out, HB6.out⟩
              case measure => simp [intOf]; omega
            · obtain rfl : m = 64 := by omega
              have hmi : ¬ ((64 : Int) < 64) := by omega
              have HBS : Hid (B ≤ w4.heap.size) := (show _ ≤ _ from Nat.le_trans HB.out HB4.out.size)
              have HAB : Hid (∀ ob, Below w4.heap.size w4 (w4.alloc ob)) := (fun ob => (Below.refl _ _).alloc (Nat.le_refl _) ob)
              have HBA : Hid (∀ ob, B ≤ (w4.alloc ob).heap.size) := (fun ob => Nat.le_trans HBS.out (HAB.out ob).size)
              have HL1 : Hid (gs.length + 1 ≤ 140737488355328) := (show _ ≤ _ by rw [HGL.out]; omega)
              have HL2 : Hid ((gs.length + 1) * 24 ≤ 140737488355328) := (show _ ≤ _ by rw [HGL.out]; omega)
              go_wp2_with (first | (at_builtin; refine wp_app1V rfl _ _ 62 47 (.slice none 0 0) 24 rfl Tryz.underlying62 info_slS rfl B _ gs (by rfl) (rowI_below HG.out.gr (HAB.out _)) _ 1 (.slice ga (np + 64) gc) (by rfl) (heap_alloc_new w4 _) (by rfl) HL1.out HL2.out (HBA.out _) ?_; intro v6 w6 hown hc; obtain ⟨hG6, hg6, hv6⟩ := GrG.push (by decide) (HG.out.below (HAB.out _)) HGL.out (HGI.out.below (HAB.out _)) (HBA.out _) hown hc; have HG6 : Hid _ := hG6; have HB6 : Hid (ChI FF w w6) := (HB4.out.below (HAB.out _)).grown hg6 (fun b e => .inr (HGV.out b e)); have HGV6 : Hid (∀ b, v6.ownBlock = some b → w.heap.size ≤ b) := (fun b e => by rcases hv6 with h9 | h9; (exact HGV.out b (by rw [← h9]; exact e)); (rw [h9] at e; cases e; exact Nat.le_trans HB4.out.size (HAB.out _).size)); clear hG6 hg6 hv6 hown hc))
              go_roundw
              case rel => exact ⟨p + 1, gs ++ [.slice ga (np + 64) gc], by omega, by go_num, by simp [HGL.out], HG6.out, HGV6.out, HB6.out⟩
              case measure => simp [intOf]; omega
        · obtain rfl : p = k := by omega
          have hpI : ¬ ((p : Int) < (p : Int)) := by omega
          rename World => w9
          go_wp2_with fail
          go_loopw [9] (fun i wr5 => ∃ q : Nat, q ≤ p ∧ i = .int .i64 (q : Int) ∧ Below w9.heap.size w9 wr5) (fun i _ => p - (intOf i).toNat)
          case atStart => exact ⟨0, Nat.zero_le _, rfl, Below.refl _ _⟩
          case round =>
            obtain ⟨q, hq, rfl, hb5⟩ := hrel
            rename World => w5
            have HB5 : Hid (Below w9.heap.size w9 w5) := hb5
            clear hb5
            by_cases hlq : q < p
            · have hqv : q < vs.length := by have := HN.out; omega
              have hqg : q < gs.length := by have := HGL.out; omega
              have hvq : vs[q]? = some vs[q] := List.getElem?_eq_getElem hqv
              have hgq : gs[q]? = some gs[q] := List.getElem?_eq_getElem hqg
              obtain ⟨nq, hnq⟩ : ∃ nq, nq = (C q).length := ⟨_, rfl⟩
              have hoq := HG.out.ix.own q _ hvq
              have hog := HG.out.go q _ hgq
              simp only [← hnq] at hoq hog
              have hnqb : nq ≤ 4398046511103 := by rw [hnq]; exact HC.out q
              obtain ⟨xa, xc, hx, hxc⟩ := rowI_val hoq.repl
              obtain ⟨ya, yc, hy, hyc⟩ := rowI_val hog.repl
              rw [hx] at hvq hoq
              rw [hy] at hgq hog
              obtain ⟨yb, rfl⟩ := rowI_some hog.repl (by omega)
              have hlr := HG.out.lr
              rw [← HN.out] at hlr
              have hgr := HG.out.gr
              rw [HGL.out] at hgr
              obtain ⟨g0, rfl⟩ := rowI_some hlr (by omega)
              obtain ⟨g1, rfl⟩ := rowI_some hgr (by omega)
              have HAA : Hid (∀ u, Below w9.heap.size w9 u → u.cell? ⟨g0, q, none⟩ = some (.slice xa nq xc) ∧ u.cell? ⟨g1, q, none⟩ = some (.slice (some ⟨yb, 0, none⟩) (nq + 64) yc)) := (fun u hu => by
                exact ⟨by rw [World.ownsRow.cellAt (rowI_below hlr hu) q (by omega)]; exact hvq, by rw [World.ownsRow.cellAt (rowI_below hgr hu) q (by omega)]; exact hgq⟩)
              have HOQ : Hid (OwnG KSs w9 B (.slice xa nq xc) (List.replicate nq (mkS q))) := hoq
              have HOGQ : Hid (OwnG KSs w9 B (.slice (some ⟨yb, 0, none⟩) (nq + 64) yc) (List.replicate (nq + 64) (mkS q))) := hog
              obtain ⟨-, hcg⟩ := HAA.out w5 HB5.out
              have hqi : (q : Int) < (p : Int) := by omega
              have hq0 : (0 : Int) ≤ (q : Int) := by omega
              clear hx hy hvq hgq hoq hog hnq hlr hgr
              go_wp2_with fail
              go_loopw [10] (fun i wr6 => ∃ m : Nat, m ≤ nq + 64 ∧ i = .int .i64 (m : Int) ∧ Below w9.heap.size w9 wr6) (fun i _ => nq + 64 - (intOf i).toNat)
              case atStart => exact ⟨0, Nat.zero_le _, rfl, HB5.out⟩
              case round =>
                clear hcg
                obtain ⟨m, hm, rfl, hb6⟩ := hrel
                rename World => w6
                have HB6 : Hid (Below w9.heap.size w9 w6) := hb6
                obtain ⟨-, hcg⟩ := HAA.out w6 hb6
                by_cases hlm : m < nq + 64
                · have hmi : (m : Int) < (nq : Int) + 64 := by omega
                  have hm0 : (0 : Int) ≤ (m : Int) := by omega
                  have hA : ∀ u, Below w9.heap.size w9 u → u.cell? ⟨g1, q, none⟩ = some (.slice (some ⟨yb, 0, none⟩) (nq + 64) yc) := fun u hu => (HAA.out u hu).2
                  have hL : ∀ u, Below w9.heap.size w9 u → u.cell? ⟨g0, q, none⟩ = some (.slice xa nq xc) := fun u hu => (HAA.out u hu).1
                  have hog := HOGQ.out
                  have hY := cellS hog (rowI_below hog HB6.out) m (by omega)
                  have hcl := (HAA.out w6 hb6).1
                  have hqu : IntKind.u64.wrap (q : Int) = (q : Int) := wrap_u64 q (by omega)
                  have hqq : ((q : Int) != (q : Int)) = false := by simp
                  clear hog hA hL
                  by_cases hln : m < nq
                  · have hoq := HOQ.out
                    obtain ⟨xb, rfl⟩ := rowI_some (OwnG.repl hoq) (by omega)
                    have hX := cellS hoq (rowI_below hoq HB6.out) m (by omega)
                    have hni : (m : Int) < (nq : Int) := by omega
                    clear hoq hb6
                    go_wp2
                    go_roundw
                    case rel => exact ⟨m + 1, by omega, by go_num, HB6.out⟩
                    case measure => simp [intOf]; omega
                  · have hni : ¬ (m : Int) < (nq : Int) := by omega
                    clear hb6
                    go_wp2
                    go_roundw
                    case rel => exact ⟨m + 1, by omega, by go_num, HB6.out⟩
                    case measure => simp [intOf]; omega
                · obtain rfl : m = nq + 64 := by omega
                  have hmi : ¬ (((nq + 64 : Nat) : Int) < ((nq + 64 : Nat) : Int)) := by omega
                  clear hb6
                  go_wp2
                  go_roundw
                  case rel => exact ⟨q + 1, by omega, by go_num, HB6.out⟩
                  case measure => simp [intOf]; omega
            · obtain rfl : q = p := by omega
              have hqI : ¬ ((q : Int) < (q : Int)) := by omega
              go_wp2
              go_ret
              exact ⟨rfl, HB3.out.below HB5.out⟩
end
end Go.Proofs.YtdoikcolkbjnfaaGreat
