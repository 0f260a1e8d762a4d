import Derived.Test.YtgdkiejlggiakacROps3
namespace Go.Proofs.Ytgdkiejlggiakac
set_option linter.unusedVariables false
set_option linter.unusedSimpArgs false
open Go.RowKit Go.Maps
theorem ByAt.text {w : World} {Fp : Nat → Prop} {u : Value} {T : List UInt8} (h : ByAt w Fp u T) : TextAt w Fp u ⟨T, false⟩ := .inr ⟨rfl, h⟩
theorem RDk.there {w : World} {rp gs N : Nat} {d : Dst} {VT VV : Nat → Value} {vs : Nat → List Value} {Fp : Nat → Prop} (h : RDk w rp gs N d VT VV vs Fp) (i : Nat) (hi : i < N) : w.there gs (i * 3) 3 := by
  obtain ⟨cur, k1, -⟩ := h.hs
  intro j hj
  refine ⟨?_, frozen_of_row w gs _ _ _ k1⟩
  match j, hj with
  | 0, _ => rw [Nat.add_zero, h.s0 i hi]; rfl
  | 1, _ => rw [h.s1 i hi]; rfl
  | 2, _ => rw [h.s2 i hi]; rfl
/-- a sector is laid anew, without versions -/
theorem RDk.lay {w : World} {rp gs N : Nat} {d : Dst} {VT VV : Nat → Value} {vs : Nat → List Value} {Fp : Nat → Prop} (h : RDk w rp gs N d VT VV vs Fp) (i : Nat) (hi : i < N) (s' : Sec) (hfit : s'.fit) (v' : Value) (ht : TextAt w Fp v' s') :
    RDk (w.setCells gs (i * 3) [v', .bool s'.torn, .slice none 0 0]) rp gs N ⟨d.S.set i s', upd d.C i [], d.off, d.fuse⟩ (upd VT i v') (upd VV i nilS) (upd vs i []) Fp ∧ Chg (fun b => b = gs) w (w.setCells gs (i * 3) [v', .bool s'.torn, .slice none 0 0]) := by
  obtain ⟨cur, k1, k2⟩ := h.hs
  have hc : Chg (fun b => b = gs) w (w.setCells gs (i * 3) [v', .bool s'.torn, .slice none 0 0]) := Chg.of_grown (setCells_grown gs _ (i * 3) w) (fun b hb => by cases hb; rfl)
  refine ⟨h.put (w' := w.setCells gs (i * 3) [v', .bool s'.torn, .slice none 0 0]) (Fp' := Fp) i hi s' [] v' nilS [] hfit (hc.mono fun b hb => .inl hb) ?_ (fun _ hb => hb) (fun b hb => Nat.lt_of_lt_of_le (h.flt b hb) hc.size) ?_ (World.ownsRow_nil _ _ _ _) ⟨rfl, fun k hk => absurd hk (Nat.not_lt_zero _)⟩ (.inr (fun b hb => by simp [nilS, Value.ownBlock] at hb)) (fun b hb => by simp [nilS, Value.ownBlock] at hb), hc⟩
  · intro cur' hcur'
    rw [k1] at hcur'
    simp only [Option.some.injEq, Obj.cells.injEq] at hcur'
    obtain ⟨rfl, -⟩ := hcur'
    obtain ⟨a1, a2⟩ := set_sec k1 i 0 (by decide) v'
    obtain ⟨b1, b2⟩ := set_sec a1 i 1 (by decide) (.bool s'.torn)
    obtain ⟨c1, c2⟩ := set_sec b1 i 2 (by decide) nilS
    have z0 : i * 3 + 0 < cur.size := (Array.getElem?_eq_some_iff.1 (k2 i hi).1).1
    have z1 : i * 3 + 1 < (cur.setIfInBounds (i * 3 + 0) v').size := by have := (Array.getElem?_eq_some_iff.1 (k2 i hi).2.1).1; simp; omega
    have z2 : i * 3 + 2 < ((cur.setIfInBounds (i * 3 + 0) v').setIfInBounds (i * 3 + 1) (.bool s'.torn)).size := by have := (Array.getElem?_eq_some_iff.1 (k2 i hi).2.2).1; simp; omega
    refine ⟨_, c1, fun j hj => by rw [c2 j (fun e => hj (by omega)), b2 j (fun e => hj (by omega)), a2 j (fun e => hj (by omega))], ?_, ?_, ?_⟩
    · rw [c2 _ (by omega), b2 _ (by omega)]
      exact Array.getElem?_setIfInBounds_self_of_lt z0
    · rw [c2 _ (by omega), Array.getElem?_setIfInBounds_self_of_lt z1]
    · rw [Array.getElem?_setIfInBounds_self_of_lt z2]
  · rcases ht with h3 | ⟨h3, h4⟩
    · exact .inl h3
    · exact .inr ⟨h3, h4.kept hc (fun b cs fr _ hb e => by subst e; rw [k1] at hb; simp only [Option.some.injEq, Obj.cells.injEq] at hb; exact absurd hb.2.1 (by decide)) (fun _ hb => hb)⟩
/-- its versions are forgotten -/
theorem RDk.forget {w : World} {rp gs N : Nat} {d : Dst} {VT VV : Nat → Value} {vs : Nat → List Value} {Fp : Nat → Prop} (h : RDk w rp gs N d VT VV vs Fp) (i : Nat) (hi : i < N) :
    RDk (w.setCell ⟨gs, i * 3 + 2, none⟩ (.slice none 0 0)) rp gs N ⟨d.S, upd d.C i [], d.off, d.fuse⟩ VT (upd VV i nilS) (upd vs i []) Fp ∧ Chg (fun b => b = gs) w (w.setCell ⟨gs, i * 3 + 2, none⟩ (.slice none 0 0)) := by
  obtain ⟨cur, k1, k2⟩ := h.hs
  have hc := set_chg w gs (i * 3 + 2) (.slice none 0 0)
  have hp := h.put (w' := w.setCell ⟨gs, i * 3 + 2, none⟩ (.slice none 0 0)) (Fp' := Fp) i hi (d.S.getD i Sec.zero) [] (VT i) nilS [] (by
      have hl := h.len
      have e9 : d.S.getD i Sec.zero = d.S[i]'(by omega) := by simp [show i < d.S.length by omega]
      rw [e9]
      exact h.fit _ (List.getElem_mem _)) (hc.mono fun b hb => .inl hb) ?_ (fun _ hb => hb) (fun b hb => Nat.lt_of_lt_of_le (h.flt b hb) hc.size) ?_ (World.ownsRow_nil _ _ _ _) ⟨rfl, fun k hk => absurd hk (Nat.not_lt_zero _)⟩ (.inr (fun b hb => by simp [nilS, Value.ownBlock] at hb)) (fun b hb => by simp [nilS, Value.ownBlock] at hb)
  · rw [upd_id, set_getD] at hp
    exact ⟨hp, hc⟩
  · intro cur' hcur'
    rw [k1] at hcur'
    simp only [Option.some.injEq, Obj.cells.injEq] at hcur'
    obtain ⟨rfl, -⟩ := hcur'
    obtain ⟨e1, e2⟩ := set_sec k1 i 2 (by decide) nilS
    have hsz : i * 3 + 2 < cur.size := (Array.getElem?_eq_some_iff.1 (k2 i hi).2.2).1
    exact ⟨_, e1, fun j hj => e2 j (fun e => hj (by omega)), by rw [e2 _ (by omega)]; exact (k2 i hi).1, by rw [e2 _ (by omega)]; exact (k2 i hi).2.1, by rw [Array.getElem?_setIfInBounds_self_of_lt hsz]⟩
  · rcases h.txt i hi with h3 | ⟨h3, h4⟩
    · exact .inl h3
    · exact .inr ⟨h3, h4.kept hc (fun b cs fr _ hb e => by subst e; rw [k1] at hb; simp only [Option.some.injEq, Obj.cells.injEq] at hb; exact absurd hb.2.1 (by decide)) (fun _ hb => hb)⟩
theorem RDk.eqD {w : World} {rp gs N : Nat} {d : Dst} {VT VV : Nat → Value} {vs : Nat → List Value} {Fp : Nat → Prop} (h : RDk w rp gs N d VT VV vs Fp) (S : List Sec) (C : Nat → List (List UInt8)) (hS : d.S = S) (hC : ∀ i, i < N → d.C i = C i) : RDk w rp gs N ⟨S, C, d.off, d.fuse⟩ VT VV vs Fp := by
  subst hS
  exact ⟨h.one, h.most, h.len, h.fit, h.hp, h.hs, h.txt, h.own, fun i hi => (by show VersAt w Fp (vs i) (C i); rw [← hC i hi]; exact h.vers i hi), h.apart, h.frp, h.fgs, h.fvv, h.flt, h.pow, h.fu⟩
def flS (S : List Sec) (C : Nat → List (List UInt8)) (k : Nat) : List Sec := S.mapIdx fun j s => if j < k then presS s (C j) else s
def flC (C : Nat → List (List UInt8)) (k : Nat) : Nat → List (List UInt8) := fun j => if j < k then [] else C j
theorem flS_zero (S : List Sec) (C : Nat → List (List UInt8)) : flS S C 0 = S := by
  apply List.ext_getElem
  · simp [flS]
  · intro j h1 h2; simp [flS]
theorem flS_len (S : List Sec) (C : Nat → List (List UInt8)) (k : Nat) : (flS S C k).length = S.length := by simp [flS]
theorem flS_all (S : List Sec) (C : Nat → List (List UInt8)) : flS S C S.length = flushed S C := by
  apply List.ext_getElem
  · simp [flS, flushed]
  · intro j h1 h2
    have : j < S.length := by simpa [flS] using h1
    simp [flS, flushed, this]
theorem flS_succ (S : List Sec) (C : Nat → List (List UInt8)) (k : Nat) (hk : k < S.length) : flS S C (k + 1) = (flS S C k).set k (presS (S.getD k Sec.zero) (C k)) := by
  apply List.ext_getElem
  · simp [flS]
  · intro j h1 h2
    have hj : j < S.length := by simpa [flS] using h1
    by_cases e : j = k
    · subst e; simp [flS, hj]
    · have e1 : ¬ k = j := fun e' => e e'.symm
      by_cases e2 : j < k
      · simp [flS, List.getElem_set, e1, e2, show j < k + 1 by omega]
      · simp [flS, List.getElem_set, e1, e2, show ¬ j < k + 1 by omega]
theorem flS_skip (S : List Sec) (C : Nat → List (List UInt8)) (k : Nat) (h : C k = []) : flS S C (k + 1) = flS S C k := by
  apply List.ext_getElem
  · simp [flS]
  · intro j h1 h2
    have hj : j < S.length := by simpa [flS] using h1
    by_cases e : j = k
    · subst e; simp [flS, h, presS_nil]
    · by_cases e2 : j < k
      · simp [flS, e2, show j < k + 1 by omega]
      · simp [flS, e2, show ¬ j < k + 1 by omega]
theorem flC_succ (C : Nat → List (List UInt8)) (k : Nat) : flC C (k + 1) = upd (flC C k) k [] := by
  funext j
  by_cases e : j = k
  · subst e; simp [flC, upd_same]
  · rw [upd_other _ e]
    by_cases e2 : j < k
    · simp [flC, e2, show j < k + 1 by omega]
    · simp [flC, e2, show ¬ j < k + 1 by omega]
theorem flC_skip (C : Nat → List (List UInt8)) (k : Nat) (h : C k = []) : flC C (k + 1) = flC C k := by
  rw [flC_succ]
  have : flC C k k = [] := by simp [flC, h]
  rw [← this, upd_id]
theorem setCells_drew (g : Nat) : ∀ (vs : List Value) (o : Nat) (x : World), x.drew.setCells g o vs = (x.setCells g o vs).drew
  | [], _, _ => rfl
  | v :: r, o, x => setCells_drew g r (o + 1) (x.setCell ⟨g, o, none⟩ v)
def BRf (rp gs N g y : Nat) (u : Value) (w : World) : Prop := w.cell? ⟨rp, 0, none⟩ = some (.slice (some ⟨gs, 0, none⟩) N N) ∧ w.cell? ⟨g, y, none⟩ = some u
theorem Dst.flush_can {d : Dst} (h : d.can = true) : d.flush = ⟨flushed d.begun.S d.begun.C, fun _ => [], d.begun.off, d.begun.fuse⟩ := by unfold Dst.flush; rw [h]; rfl
theorem Dst.flush_cant {d : Dst} (h : d.can = false) : d.flush = d.begun := by unfold Dst.flush; rw [h]; rfl
set_option maxRecDepth 20000 in
set_option maxHeartbeats 1600000 in
theorem rflush_t {w : World} {rp gs N : Nat} {d : Dst} {VT VV : Nat → Value} {vs : Nat → List Value} {Fp : Nat → Prop} (h : RDk w rp gs N d VT VV vs Fp) (hfew : ∀ i, i < N → (d.C i).length ≤ 1099511627776) :
    Calls Try.prog 49 #[.pointer (some ⟨rp, 0, none⟩)] w fun e w' => e = .returned (.int .i64 (if d.can then 0 else 5)) ∧ ∃ VT' VV' vs', RDk w' rp gs N d.flush VT' VV' vs' Fp ∧ Chg Fp w w' := by
  have HN : Hid _ := rnone_d h
  have HDN : Hid _ := rdone_t h
  have H : Hid _ := h
  have HFEW : Hid _ := hfew
  have hN := h.most
  clear h hfew
  cases hcan : d.can
  · rw [hcan] at HDN
    have HWC : Hid _ := Dst.flush_cant hcan
    clear hcan
    go_enter Try.func49, Try.ntmps49
    go_wp2_with fail
    refine Calls.mono HN.out ?_
    rintro e w1 ⟨rfl, hq⟩
    have hq := hq.symm
    subst hq
    go_wp2_with fail
    refine Calls.mono HDN.out ?_
    rintro e w1 ⟨rfl, hrd1, hg1⟩
    have HR1 : Hid _ := hrd1
    have HG1 : Hid _ := hg1
    clear hrd1 hg1
    go_wp2
    go_ret
    exact ⟨rfl, ⟨VT, VV, vs, by rw [HWC.out]; exact HR1.out⟩, Chg.of_grown HG1.out (fun b hb => by cases hb; exact H.out.frp)⟩
  · rw [hcan] at HDN
    have HWC : Hid _ := Dst.flush_can hcan
    clear hcan
    go_enter Try.func49, Try.ntmps49
    go_wp2_with fail
    refine Calls.mono HN.out ?_
    rintro e w1 ⟨rfl, hq⟩
    have hq := hq.symm
    subst hq
    go_wp2_with fail
    refine Calls.mono HDN.out ?_
    rintro e w1 ⟨rfl, hrd1, hg1⟩
    have HR1 : Hid _ := hrd1
    have HC1 : Hid (Chg Fp w w1) := Chg.of_grown hg1 (fun b hb => by cases hb; exact H.out.frp)
    obtain ⟨D, hD⟩ : ∃ D : Dst, D = d.begun := ⟨_, rfl⟩
    have HDC : Hid (D.C = d.C) := by rw [hD]; rfl
    rw [← hD] at HR1 HWC
    clear hrd1 hg1 hD
    go_wp2_with fail
    go_loopw [3, 4] (fun i _ wr => ∃ (k : Nat) (VT' VV' : Nat → Value) (vs' : Nat → List Value), k ≤ N ∧ i = .int .i64 (k : Int) ∧ RDk wr rp gs N ⟨flS D.S D.C k, flC D.C k, D.off, D.fuse⟩ VT' VV' vs' Fp ∧ Chg (fun b => b = gs) w1 wr) (fun i _ _ => N - (intOf i).toNat)
    case atStart => exact ⟨0, VT, VV, vs, Nat.zero_le _, rfl, by rw [flS_zero]; exact HR1.out, Chg.refl _ _⟩
    case round =>
      obtain ⟨k, VT', VV', vs', hk, rfl, hrd, hcg⟩ := hrel
      have c0 := hrd.c0
      have hk0 : (0 : Int) ≤ (k : Int) := by omega
      have hkw : IntKind.i64.wrap ((k : Int) + 1) = ((k + 1 : Nat) : Int) := by rw [IntKind.wrap_i64]; omega
      have HRD : Hid _ := hrd
      have HCG : Hid _ := hcg
      by_cases hlt : k < N
      · have hlti : (k : Int) < (N : Int) := by omega
        have s2 := hrd.s2 k hlt
        obtain ⟨av, cv, hvv, -, hvers⟩ := hrd.versV k hlt
        have hCk : flC D.C k k = D.C k := by simp [flC]
        have hSk : (flS D.S D.C k).getD k Sec.zero = D.S.getD k Sec.zero := by
          have hl := HR1.out.len
          simp [flS, show k < D.S.length by omega]
        simp only at hvv hvers
        rw [hCk] at hvv
        obtain ⟨n, hn⟩ : ∃ n, n = (D.C k).length := ⟨_, rfl⟩
        rw [hvv, ← hn] at s2
        have hnb : n ≤ 1099511627776 := by rw [hn, HDC.out]; exact HFEW.out k hlt
        clear hrd hcg
        by_cases h0 : 0 < n
        · have h0i : (0 : Int) < (n : Int) := by omega
          obtain ⟨y, hy⟩ : ∃ y : Nat, y = n - 1 := ⟨_, rfl⟩
          obtain ⟨g, u, rfl, hcu, hul, hby⟩ := hvers y (by rw [hCk]; omega)
          have hyw : IntKind.i64.wrap ((n : Int) - 1) = (y : Int) := by rw [IntKind.wrap_i64]; omega
          have hy0 : (0 : Int) ≤ (y : Int) := by omega
          have hyn : (y : Int) < (n : Int) := by omega
          have hpS : presS (D.S.getD k Sec.zero) (D.C k) = ⟨(flC D.C k k)[y]'(by rw [hCk]; omega), false⟩ := by
            rw [presS_last _ _ (by omega)]
            congr 1
            simp only [hCk]
            congr 1
            omega
          obtain ⟨ub, uo, uc, rfl, hufb, hurd, -⟩ := hby.ex
          rw [hul] at hcu
          obtain ⟨u, hu⟩ : ∃ u, u = Value.slice (some ⟨ub, uo, none⟩) 128 uc := ⟨_, rfl⟩
          have hby2 := hby
          rw [hul, ← hu] at hby2
          have HLY := RDk.lay HRD.out k hlt ⟨(flC D.C k k)[y]'(by rw [hCk]; omega), false⟩ ⟨hul, fun h => by cases h⟩ u hby2.text
          rw [← hpS] at HLY
          simp only at HLY
          have hnx : RDk (wr.setCells gs (k * 3) [u, .bool false, .slice none 0 0]) rp gs N ⟨flS D.S D.C (k + 1), flC D.C (k + 1), D.off, D.fuse⟩ (upd VT' k u) (upd VV' k nilS) (upd vs' k []) Fp := by
            have h9 := HLY.1
            rw [show (presS (D.S.getD k Sec.zero) (D.C k)).torn = false from by rw [hpS]] at h9
            rw [flS_succ D.S D.C k (by have := HR1.out.len; omega), flC_succ]
            exact h9
          have hcx : Chg (fun b => b = gs) wr (wr.setCells gs (k * 3) [u, .bool false, .slice none 0 0]) := Chg.of_grown (setCells_grown gs _ (k * 3) wr) (fun b hb => by cases hb; rfl)
          have HNX : Hid _ := hnx
          have HCX : Hid _ := hcx
          have HTH : Hid _ := RDk.there HRD.out k hlt
          obtain ⟨cur9, hcur9, -⟩ := RDk.hs HRD.out
          have hgg : g ≠ gs := fun e => by
            obtain ⟨c9, h9⟩ := OwnV.at_ (RDk.own HRD.out k hlt) (b := g) (by rw [hvv]; rfl)
            rw [e, hcur9] at h9
            simp only [Option.some.injEq, Obj.cells.injEq] at h9
            exact absurd h9.2.1 (by decide)
          have hgl : g < wr.heap.size := World.block_lt_of_cell? wr _ hcu
          have hb1 : ∀ x, BRf rp gs N g y (.slice (some ⟨ub, uo, none⟩) 128 uc) x → x.cell? ⟨rp, 0, none⟩ = some (.slice (some ⟨gs, 0, none⟩) N N) := fun x hx => hx.1
          have hb2 : ∀ x, BRf rp gs N g y (.slice (some ⟨ub, uo, none⟩) 128 uc) x → x.cell? ⟨g, y, none⟩ = some (.slice (some ⟨ub, uo, none⟩) 128 uc) := fun x hx => hx.2
          have hB0 : BRf rp gs N g y (.slice (some ⟨ub, uo, none⟩) 128 uc) wr.drew := ⟨c0, hcu⟩
          have hB1 : BRf rp gs N g y (.slice (some ⟨ub, uo, none⟩) 128 uc) (wr.setCells gs (k * 3) [u, .bool false, .slice none 0 0]) := ⟨hnx.c0, by rw [← hcu]; exact World.cell?_of_block (hcx.block g hgl hgg)⟩
          have hB2 : BRf rp gs N g y (.slice (some ⟨ub, uo, none⟩) 128 uc) (wr.drew.setCells gs (k * 3) [u, .bool false, .slice none 0 0]) := by
            have e9 : ∀ (vs : List Value) (o : Nat) (x : World), x.drew.setCells gs o vs = (x.setCells gs o vs).drew := setCells_drew gs
            rw [e9]
            exact hB1
          rw [hu] at hB1 hB2 HNX HCX
          clear hvers hvv hn hy hpS hnx hcx hby hby2 HLY hul hurd hufb hcur9 hCk hSk hu
          go_wp2_with fail
          refine wp_region_noPanic ?_
          refine wp_region_held_drew (S := (fun x => BRf rp gs N g y (.slice (some ⟨ub, uo, none⟩) 128 uc) x)) (by kernel_rfl) (by first | exact hB0 | exact hB1 | exact hB2 | assumption) (fun hHeld => ?_)
          refine take_at (i := 0) 30 (v := ?_) rfl rfl (by kernel_rfl) (by kernel_rfl) (by kernel_rfl) (fun _ _ _ h => h) (by rfl) ?_ hHeld ?_
          rotate_left
          · (intro w hSw; (try dsimp only at hSw); go_simp; try with_reducible rfl)
          simp only [Act.put, List.setIfInBounds_toArray, List.set_cons_zero, List.set_cons_succ]
          refine take_at (i := 1) 31 (v := ?_) rfl rfl (by kernel_rfl) (by kernel_rfl) (by kernel_rfl) (fun _ _ _ h => h) (by rfl) ?_ hHeld ?_
          rotate_left
          · (intro w hSw; (try dsimp only at hSw); go_simp; try with_reducible rfl)
          simp only [Act.put, List.setIfInBounds_toArray, List.set_cons_zero, List.set_cons_succ]
          refine take_at (i := 2) 32 (v := ?_) rfl rfl (by kernel_rfl) (by kernel_rfl) (by kernel_rfl) (fun _ _ _ h => h) (by rfl) ?_ hHeld ?_
          rotate_left
          · (intro w hSw; (try dsimp only at hSw); go_simp; try with_reducible rfl)
          simp only [Act.put, List.setIfInBounds_toArray, List.set_cons_zero, List.set_cons_succ]
          refine take_at (i := 3) 33 (v := ?_) rfl rfl (by kernel_rfl) (by kernel_rfl) (by kernel_rfl) (fun _ _ _ h => h) (by rfl) ?_ hHeld ?_
          rotate_left
          · (intro w hSw; (try dsimp only at hSw); go_simp; try with_reducible rfl)
          simp only [Act.put, List.setIfInBounds_toArray, List.set_cons_zero, List.set_cons_succ]
          refine take_at (i := 4) 34 (v := ?_) rfl rfl (by kernel_rfl) (by kernel_rfl) (by kernel_rfl) (fun _ _ _ h => h) (by rfl) ?_ hHeld ?_
          rotate_left
          · (intro w hSw; (try dsimp only at hSw); go_simp; try with_reducible rfl)
          simp only [Act.put, List.setIfInBounds_toArray, List.set_cons_zero, List.set_cons_succ]
          refine take_at (i := 5) 35 (v := ?_) rfl rfl (by kernel_rfl) (by kernel_rfl) (by kernel_rfl) (fun _ _ _ h => h) (by rfl) ?_ hHeld ?_
          rotate_left
          · (intro w hSw; (try dsimp only at hSw); go_simp; try with_reducible rfl)
          simp only [Act.put, List.setIfInBounds_toArray, List.set_cons_zero, List.set_cons_succ]
          refine take_at (i := 6) 36 (v := ?_) rfl rfl (by kernel_rfl) (by kernel_rfl) (by kernel_rfl) (fun _ _ _ h => h) (by rfl) ?_ hHeld ?_
          rotate_left
          · (intro w hSw; (try dsimp only at hSw); go_simp; try with_reducible rfl)
          simp only [Act.put, List.setIfInBounds_toArray, List.set_cons_zero, List.set_cons_succ]
          refine take_at (i := 7) 37 (v := ?_) rfl rfl (by kernel_rfl) (by kernel_rfl) (by kernel_rfl) (fun _ _ _ h => h) (by rfl) ?_ hHeld ?_
          rotate_left
          · (intro w hSw; (try dsimp only at hSw); go_simp; try with_reducible rfl)
          simp only [Act.put, List.setIfInBounds_toArray, List.set_cons_zero, List.set_cons_succ]
          refine take_at (i := 8) 38 (v := ?_) rfl rfl (by kernel_rfl) (by kernel_rfl) (by kernel_rfl) (fun _ _ _ h => h) (by rfl) ?_ hHeld ?_
          rotate_left
          · (intro w hSw; (try dsimp only at hSw); go_simp; try with_reducible rfl)
          simp only [Act.put, List.setIfInBounds_toArray, List.set_cons_zero, List.set_cons_succ]
          refine take_at (i := 9) 39 (v := ?_) rfl rfl (by kernel_rfl) (by kernel_rfl) (by kernel_rfl) (fun _ _ _ h => h) (by rfl) ?_ hHeld ?_
          rotate_left
          · (intro w hSw; (try dsimp only at hSw); go_simp; try with_reducible rfl)
          simp only [Act.put, List.setIfInBounds_toArray, List.set_cons_zero, List.set_cons_succ]
          refine take_at (i := 10) 40 (v := ?_) rfl rfl (by kernel_rfl) (by kernel_rfl) (by kernel_rfl) (fun _ _ _ h => h) (by rfl) ?_ hHeld ?_
          rotate_left
          · (intro w hSw; (try dsimp only at hSw); go_simp; try with_reducible rfl)
          simp only [Act.put, List.setIfInBounds_toArray, List.set_cons_zero, List.set_cons_succ]
          refine take_at (i := 11) 41 (v := ?_) rfl rfl (by kernel_rfl) (by kernel_rfl) (by kernel_rfl) (fun _ _ _ h => h) (by rfl) ?_ hHeld ?_
          rotate_left
          · (intro w hSw; (try dsimp only at hSw); go_simp; try with_reducible rfl)
          simp only [Act.put, List.setIfInBounds_toArray, List.set_cons_zero, List.set_cons_succ]
          refine take_at (i := 13) 43 (v := ?_) rfl rfl (by kernel_rfl) (by kernel_rfl) (by kernel_rfl) (fun _ _ _ h => h) (by rfl) ?_ hHeld ?_
          rotate_left
          · (intro w hSw; (try dsimp only at hSw); go_simp; try with_reducible rfl)
          simp only [Act.put, List.setIfInBounds_toArray, List.set_cons_zero, List.set_cons_succ]
          refine take_at (i := 14) 44 (v := ?_) rfl rfl (by kernel_rfl) (by kernel_rfl) (by kernel_rfl) (fun _ _ _ h => h) (by rfl) ?_ hHeld ?_
          rotate_left
          · (intro w hSw; (try dsimp only at hSw); go_simp; try with_reducible rfl)
          simp only [Act.put, List.setIfInBounds_toArray, List.set_cons_zero, List.set_cons_succ]
          refine val_at (i := 12) 42 (v := ?_) rfl rfl (by kernel_rfl) (by rfl) ?_ ?_ ?_
          rotate_left
          · (go_simp; try with_reducible rfl)
          · (first | exact hB0 | exact hB1 | exact hB2 | assumption)
          intro hHeld2
          clear hHeld
          have hHeld := hHeld2
          clear hHeld2
          simp only [Act.put, List.setIfInBounds_toArray, List.set_cons_zero, List.set_cons_succ]
          refine take_at (i := 15) 45 (v := ?_) rfl rfl (by kernel_rfl) (by kernel_rfl) (by kernel_rfl) (fun _ _ _ h => h) (by rfl) ?_ hHeld ?_
          rotate_left
          · (intro w hSw; (try dsimp only at hSw); go_simp; try with_reducible rfl)
          simp only [Act.put, List.setIfInBounds_toArray, List.set_cons_zero, List.set_cons_succ]
          refine take_at (i := 16) 46 (v := ?_) rfl rfl (by kernel_rfl) (by kernel_rfl) (by kernel_rfl) (fun _ _ _ h => h) (by rfl) ?_ hHeld ?_
          rotate_left
          · (intro w hSw; (try dsimp only at hSw); go_simp; try with_reducible rfl)
          simp only [Act.put, List.setIfInBounds_toArray, List.set_cons_zero, List.set_cons_succ]
          refine take_at (i := 17) 47 (v := ?_) rfl rfl (by kernel_rfl) (by kernel_rfl) (by kernel_rfl) (fun _ _ _ h => h) (by rfl) ?_ hHeld ?_
          rotate_left
          · (intro w hSw; (try dsimp only at hSw); go_simp; try with_reducible rfl)
          simp only [Act.put, List.setIfInBounds_toArray, List.set_cons_zero, List.set_cons_succ]
          refine take_at (i := 18) 48 (v := ?_) rfl rfl (by kernel_rfl) (by kernel_rfl) (by kernel_rfl) (fun _ _ _ h => h) (by rfl) ?_ hHeld ?_
          rotate_left
          · (intro w hSw; (try dsimp only at hSw); go_simp; try with_reducible rfl)
          simp only [Act.put, List.setIfInBounds_toArray, List.set_cons_zero, List.set_cons_succ]
          refine run_at (i := 19) rfl (by kernel_rfl) (by rfl) (fun K hK => ?_)
          simp only [List.getElem_toArray, List.getElem_cons_zero, List.getElem_cons_succ]
          refine wp_store_mid 98 _ _ rfl gs (k * 3) #[.slice (some ⟨ub, uo, none⟩) 128 uc, .bool false, .slice none 0 0] rfl rfl HTH.out (by kernel_rfl) (all_oneCell_toArray (cs := [.slice (some ⟨ub, uo, none⟩) 128 uc, .bool false, .slice none 0 0]) (fun v hv => by simp at hv; rcases hv with rfl | rfl | rfl <;> rfl)) ?_
          refine hK.out _ _ (by first | exact hB0 | exact hB1 | exact hB2 | assumption) ?_
          clear hK K
          intro hHeld2
          clear hHeld
          have hHeld := hHeld2
          clear hHeld2
          try simp only [Act.put, List.setIfInBounds_toArray, List.set_cons_zero, List.set_cons_succ]
          refine wpAnyH_done (by kernel_rfl) ?_ _
          refine NoPanic.normal ?_
          go_wp2
          go_roundw
          case rel =>
            refine ⟨k + 1, upd VT' k (.slice (some ⟨ub, uo, none⟩) 128 uc), upd VV' k nilS, upd vs' k [], by omega, rfl, ?_, ?_⟩
            · rw [setCells_drew]
              exact RDk.below HNX.out (Below.refl _ _).drew
            · have h9 := Chg.trans HCG.out HCX.out (fun b hb => .inl hb)
              rw [setCells_drew]
              exact h9.trans (Chg.of_below (F := fun _ => False) (Below.refl _ _).drew) (fun _ hf => hf.elim)
          case measure => simp [intOf]; omega
        · have h0i : ¬ (0 : Int) < (n : Int) := by omega
          have hCe : D.C k = [] := List.eq_nil_of_length_eq_zero (by omega)
          have HNX : Hid (RDk wr rp gs N ⟨flS D.S D.C (k + 1), flC D.C (k + 1), D.off, D.fuse⟩ VT' VV' vs' Fp) := by
            unfold Hid
            rw [flS_skip _ _ _ hCe, flC_skip _ _ hCe]
            exact HRD.out
          clear hvers hvv hn hCe hCk hSk
          go_wp2
          go_roundw
          case rel => exact ⟨k + 1, VT', VV', vs', by omega, rfl, HNX.out, HCG.out⟩
          case measure => simp [intOf]; omega
      · have hlti : ¬ (k : Int) < (N : Int) := by omega
        obtain rfl : k = N := by omega
        have HFIN : Hid (RDk wr rp gs k d.flush VT' VV' vs' Fp) := by
          unfold Hid
          rw [HWC.out]
          refine RDk.eqD HRD.out (flushed D.S D.C) (fun _ => []) ?_ (fun i hi => by simp [flC, hi])
          have hl := HR1.out.len
          show flS D.S D.C k = flushed D.S D.C
          rw [← hl, flS_all]
        have HCF : Hid (Chg Fp w wr) := HC1.out.trans (HCG.out.mono (G := Fp) (fun b hb => by rw [hb]; exact H.out.fgs)) (fun b hb => .inl hb)
        clear hrd hcg
        go_wp2
        go_ret
        exact ⟨rfl, ⟨VT', VV', vs', HFIN.out⟩, HCF.out⟩
end Go.Proofs.Ytgdkiejlggiakac
