import Derived.Test.YtpakkpahcpgnnaaGreatDoorKC
set_option linter.unusedVariables false
set_option linter.unusedSimpArgs false
namespace Go.Proofs.YtpakkpahcpgnnaaGreatDoor
open Go.RowKit Go.Maps
section
variable {w w' : World}
structure Sty (w w' : World) : Prop where
 some : ∀ x : Addr, (w.cell? x).isSome = true → (w'.cell? x).isSome = true
 frz : ∀ x : Addr, w'.frozen? x = w.frozen? x
theorem Sty.refl (w : World) : Sty w w := ⟨fun _ h => h, fun _ => rfl⟩
theorem Sty.trans {a b c : World} (h : Sty a b) (k : Sty b c) : Sty a c := ⟨fun x hx => k.some x (h.some x hx), fun x => (k.frz x).trans (h.frz x)⟩
theorem Sty.set1 (w : World) (b i : Nat) (u : Value) (hx : (w.cell? ⟨b, i, none⟩).isSome = true) : Sty w (w.setCell ⟨b, i, none⟩ u) := by
 refine ⟨fun x h => ?_, fun x => World.frozen?_setCell _ _ _ _⟩
 by_cases e : x = ⟨b, i, none⟩
 · subst e
   have h9 := World.cell?_setCells_in b [u] i w (fun j hj => by
     have : j = 0 := by simp at hj; omega
     subst this; rw [Nat.add_zero]
     exact hx) 0 (by simp)
   rw [Nat.add_zero] at h9; have h8 : (w.setCell ⟨b, i, none⟩ u).cell? ⟨b, i, none⟩ = _ := h9; rw [h8]
   rfl
 · have h9 := World.cell?_setCells_out b [u] i w x (fun h1 h2 => by
     obtain ⟨xb, xo, xs⟩ := x; simp only at h1 h2; subst h1 h2; have : xo ≠ i := fun e2 => e (by rw [e2])
     simp
     omega)
   have h8 : (w.setCell ⟨b, i, none⟩ u).cell? x = _ := h9; rw [h8]; exact h
theorem Sty.setN (b : Nat) : ∀ (vs : List Value) (o : Nat) (w : World), (∀ j, j < vs.length → (w.cell? ⟨b, o + j, none⟩).isSome = true) → Sty w (w.setCells b o vs)
 | [], o, w, _ => Sty.refl w
 | u :: r, o, w, h => by
  have h1 := Sty.set1 w b o u (by have := h 0 (by simp); rw [Nat.add_zero] at this; exact this); rw [World.setCells]; exact h1.trans (Sty.setN b r (o + 1) _ (fun j hj => h1.some _ (by have := h (j + 1) (by simp; omega); rw [show o + (j + 1) = o + 1 + j by omega] at this; exact this)))
def WrB (w : World) (a : Option Addr) (n : Nat) : Prop := ∀ j, j < n → ∃ g, a = some ⟨g, 0, none⟩ ∧ (w.cell? ⟨g, j, none⟩).isSome = true ∧ w.frozen? ⟨g, j, none⟩ = false
theorem WrB.of_own {w : World} {B n m c : Nat} {a : Option Addr} {xs : List UInt8} (h : Own w B (.slice a m c) xs) (hn : n ≤ xs.length) : WrB w a n := fun j hj => by
 obtain ⟨a', c', hv, hle, -, hnil, -, -⟩ := h.val; simp only [Value.slice.injEq] at hv; obtain ⟨rfl, rfl, rfl⟩ := hv; cases a with
 | none => have := hnil rfl; omega
 | some ad =>
  have h2 := h; rcases h2.2 with h1 | ⟨g, cap, cur, h1, -, hg, -⟩
  · have := h1.1; cases this
  · cases h1; refine ⟨g, rfl, ?_, by simp [World.frozen?, hg]⟩; rw [World.ownsRow.cellAt h j (by omega), bv_get _ _ (by omega)]
    rfl
theorem WrB.belowW {w w' : World} {a : Option Addr} {n : Nat} (h : WrB w a n) (hb : Below w.heap.size w w') : WrB w' a n := fun j hj => by
 obtain ⟨g, h1, h2, h3⟩ := h j hj; obtain ⟨u, hu⟩ := Option.isSome_iff_exists.1 h2; have hl := World.block_lt_of_cell? w _ hu; refine ⟨g, h1, ?_, (World.frozen?_of_block (a := ⟨g, j, none⟩) (hb.block g hl)).trans h3⟩; rw [(hb.cell hl).trans hu]
 rfl
theorem WrB.sty {w w' : World} {a : Option Addr} {n : Nat} (h : WrB w a n) (hs : Sty w w') : WrB w' a n := fun j hj => by
 obtain ⟨g, h1, h2, h3⟩ := h j hj; exact ⟨g, h1, hs.some _ h2, (hs.frz _).trans h3⟩
end
open Go.RowKit Go.Maps
section
variable {w w' : World} {B B2 : Nat} {va vb : Value} {D E : List Dc} {us : List Uu} {Z : Nat → Prop}
structure UWr (w : World) (va : Value) (D : List Dc) (N : Nat) : Prop where
 xv : ∀ i (hi : i < D.length), WrB w D[i].a D[i].n ∧ (∀ b, D[i].v.ownBlock = some b → XV D b) ∧ D[i].n ≤ 1024
 xu : ∀ b, XV D b → va.ownBlock ≠ some b
 u : 0 < N → ∃ gU c, va = .slice (some ⟨gU, 0, none⟩) N c ∧ (∀ i (hi : i < D.length), w.cell? ⟨gU, i * 9 + 6, none⟩ = some D[i].v) ∧ ∀ j, j < N * 9 → (w.cell? ⟨gU, j, none⟩).isSome = true ∧ w.frozen? ⟨gU, j, none⟩ = false
theorem URw.wr (h : URw w B va D us) (ht : ∀ u, u ∈ us → u.t.length ≤ 1024) : UWr w va D us.length := by
 have hown : ∀ i (hi : i < D.length), ∃ t : Seg, Own w B D[i].v t ∧ t.length ≤ 1024 ∧ D[i].n = t.length := fun i hi => by
  have hu : i < us.length := by rw [← h.len]; exact hi
  have o1 := h.fml.own i D[i] us[i].t (List.getElem?_eq_getElem hi) (by rw [List.getElem?_map, List.getElem?_eq_getElem hu]; rfl); obtain ⟨a1, c1, e1, -⟩ := o1.val; simp only [Dc.v, Value.slice.injEq] at e1; exact ⟨_, o1, ht _ (List.getElem_mem hu), e1.2.1⟩
 refine ⟨fun i hi => ?_, fun b hb e => ?_, fun hp => ?_⟩
 · obtain ⟨t, o1, h1, h2⟩ := hown i hi; exact ⟨WrB.of_own o1 (by omega), fun b hb => ⟨i, D[i], List.getElem?_eq_getElem hi, hb⟩, by omega⟩
 · obtain ⟨i, d, h1, h2⟩ := hb; have hi := (List.getElem?_eq_some_iff.1 h1).1; obtain ⟨t, o1, -, -⟩ := hown i hi; rw [List.getElem?_eq_getElem hi] at h1; cases h1; obtain ⟨C, h3⟩ := Own.blk o1 h2; obtain ⟨C2, h4⟩ := h.row.at_ e; exact absurd (ty_of h3 h4) (by decide)
 · have hzl : (zf us D).length = us.length := zf_len h.len; obtain ⟨gU, c9, h1, -⟩ := h.row.one (by show 0 < (zf us D).length; rw [hzl]; exact hp); have h1 : va = .slice (some ⟨gU, 0, none⟩) (zf us D).length c9 := h1; rw [hzl] at h1; have hr := h.row; rw [h1] at hr; refine ⟨gU, c9, h1, fun i hi => ?_, fun j hj => ?_⟩
   · have hu : i < us.length := by rw [← h.len]; exact hi
     have h9 := hr.cell hzl.symm i 6 (by show i < (zf us D).length; rw [hzl]; exact hu) (by decide); have e : (zf us D)[i]'(by rw [hzl]; exact hu) = ⟨us[i].ep, us[i].n, us[i].i, us[i].c, D[i]⟩ := by simp [zf]
     have h9 : w.cell? ⟨gU, i * 9 + 6, none⟩ = (KBf.f ((zf us D)[i]'(by rw [hzl]; exact hu)))[6]? := h9; rw [e] at h9; exact h9
   · have h9 := hr.cell hzl.symm (j / 9) (j % 9) (by show _ < (zf us D).length; rw [hzl]; omega) (Nat.mod_lt _ (by decide)); have e9 : j / 9 * KBf.k + j % 9 = j := by show j / 9 * 9 + j % 9 = j; omega
     rw [e9] at h9; refine ⟨?_, hr.fz j⟩; rw [h9, List.getElem?_eq_getElem (by rw [KBf.hk]; exact Nat.mod_lt _ (by decide))]
     rfl
theorem UWr.below {N : Nat} (h : UWr w va D N) (hb : Below w.heap.size w w') : UWr w' va D N := by
 refine ⟨fun i hi => ⟨(h.xv i hi).1.belowW hb, (h.xv i hi).2⟩, h.xu, fun hp => ?_⟩; obtain ⟨gU, c, h1, h2, h3⟩ := h.u hp; have hk : ∀ j u, w.cell? ⟨gU, j, none⟩ = some u → w'.cell? ⟨gU, j, none⟩ = some u := fun j u hu => (hb.cell (World.block_lt_of_cell? w _ hu)).trans hu
 refine ⟨gU, c, h1, fun i hi => hk _ _ (h2 i hi), fun j hj => ?_⟩; obtain ⟨u, hu⟩ := Option.isSome_iff_exists.1 (h3 j hj).1; refine ⟨by rw [hk _ _ hu]; rfl, (World.frozen?_of_block (a := ⟨gU, j, none⟩) (hb.block gU (World.block_lt_of_cell? w _ hu))).trans (h3 j hj).2⟩
structure UOut (w w' : World) (va : Value) (D : List Dc) : Prop where
 chg : Chg (fun b => va.ownBlock = some b ∨ XV D b) w w'
set_option maxRecDepth 20000
set_option maxHeartbeats 6400000
theorem lawUnits_t (ha : URw w B va D us) (hb : UJw w Z B2 vb E us) (hl : us.length ≤ 4224) (ht : ∀ u, u ∈ us → u.t.length ≤ 1024) : Calls Tryz.prog 52 #[va, vb] w fun e w' => e = .returned (.bool true) ∧ UOut w w' va D := by
 obtain ⟨N, hN⟩ : ∃ N, N = us.length := ⟨_, rfl⟩; have hza : (zf us D).length = us.length := zf_len ha.len; have hzb : (zf us E).length = us.length := zf_len hb.len; obtain ⟨aa, ca, hva0, -, -, -, hra⟩ := ha.row.val; obtain ⟨ab, cb, hvb0, -, -, -, hrb⟩ := hb.row.val; have hva : va = .slice aa (zf us D).length ca := hva0; have hvb : vb = .slice ab (zf us E).length cb := hvb0; clear hva0 hvb0; rw [hza, ← hN] at hva; rw [hzb, ← hN] at hvb
 have HSU : Hid (Calls Tryz.prog 94 #[.slice aa N ca, .slice ab N cb] w fun r w' => r = .returned (.bool true) ∧ Below w.heap.size w w') :=
  sameUnits_t aa ab N ca cb ((zf us D).map uvF) ((zf us E).map uvF) (by rw [List.length_map, hza]; exact hN) (by rw [List.length_map, hzb]; exact hN) (by omega) (rdUF hra) (rdUF hrb) (fun i h1 h2 => same_uf ha hb ht i h1 h2)
 have HW : Hid (UWr w va D N) := by rw [hN]; exact ha.wr ht
 have HDN : Hid (D.length = N) := by unfold Hid; rw [hN]; exact ha.len
 have hN9 : N ≤ 4224 := by omega
 obtain ⟨vA, hvA⟩ : ∃ vA, vA = va := ⟨_, rfl⟩; rw [← hvA] at HW ⊢; have HVA : Hid (vA = .slice aa N ca) := by unfold Hid; rw [hvA, hva]
 subst hvb; rw [hvA, hva]; have HGOAL : Hid (∀ w', Chg (fun b => vA.ownBlock = some b ∨ XV D b) w w' → UOut w w' (.slice aa N ca) D) := fun w' h => by rw [← HVA.out]; exact ⟨h⟩
 clear hva hvA ha hb hl ht hN hza hzb hra hrb; go_enter Tryz.func52, Tryz.ntmps52
 go_wp2_with (go_at_call 94; refine Calls.mono HSU.out ?_; rintro e1 w6 ⟨rfl, hb6⟩; have HB6 : Hid _ := hb6; have HW6 : Hid (UWr w6 vA D N) := HW.out.below hb6; clear hb6)
 clear HSU; go_loopw [6, 7] (fun j2 j7 wv => ∃ k2 : Nat, k2 ≤ N ∧ j2 = .int .i64 (k2 : Int) ∧ Sty w6 wv ∧ Chg (fun b => vA.ownBlock = some b ∨ XV D b) w6 wv ∧ Hid (∀ gU c, vA = .slice (some ⟨gU, 0, none⟩) N c → ∀ i (hi : i < D.length), k2 ≤ i → wv.cell? ⟨gU, i * 9 + 6, none⟩ = some D[i].v)) (fun j2 _ _ => N - (intOf j2).toNat)
 case atStart =>
  refine ⟨0, Nat.zero_le _, rfl, Sty.refl _, Chg.refl _ _, fun gU c hgU i hi _ => ?_⟩; obtain ⟨gU', c', e2, h3, -⟩ := HW6.out.u (by have := HDN.out; omega); rw [hgU] at e2; cases e2; exact h3 i hi
 case round =>
  rename World => wv
  obtain ⟨k2, hkn2, rfl, hsty2, hchg2, HCL⟩ := hrel; have hkw2 : IntKind.i64.wrap ((k2 : Int) + 1) = ((k2 + 1 : Nat) : Int) := by rw [IntKind.wrap_i64]; omega
  by_cases hlt2 : k2 < N
  · have hlti2 : (k2 : Int) < (N : Int) := by omega
    have hk02 : (0 : Int) ≤ (k2 : Int) := by omega
    have hkE : k2 < D.length := by rw [HDN.out]; exact hlt2
    obtain ⟨gU, cU, hgU, -, hex⟩ := HW6.out.u (by omega); have hgU2 := HVA.out.symm.trans hgU; cases hgU2; obtain ⟨d, hd⟩ : ∃ d, d = D[k2] := ⟨_, rfl⟩; obtain ⟨hwr, hxv, hdnb⟩ := HW6.out.xv k2 hkE; have hcd := HCL.out gU ca hgU k2 hkE (Nat.le_refl _); rw [← hd] at hcd hwr hxv hdnb; obtain ⟨da, dn, dc⟩ := d; have hcd' : wv.cell? ⟨gU, k2 * 9 + 6, none⟩ = some (.slice da dn dc) := hcd; have HWR : Hid (WrB w6 da dn) := hwr; have HXVD : Hid (∀ b, (Value.slice da dn dc).ownBlock = some b → XV D b) := hxv; have HEX : Hid (∀ j, j < N * 9 → (w6.cell? ⟨gU, j, none⟩).isSome = true ∧ w6.frozen? ⟨gU, j, none⟩ = false) := hex; have HGU : Hid (vA.ownBlock = some gU) := by unfold Hid; rw [hgU]; rfl
    have HGV : Hid _ := hgU; have HS2 : Hid (Sty w6 wv) := hsty2; have HC2 : Hid (Chg (fun b => vA.ownBlock = some b ∨ XV D b) w6 wv) := hchg2; have hdn : dn ≤ 1024 := hdnb; clear hcd hwr hxv hdnb hd hex hgU hsty2 hchg2 hkE; go_wp2; go_loopw [7] (fun j3 wx => ∃ k3 : Nat, k3 ≤ dn ∧ j3 = .int .i64 (k3 : Int) ∧ Sty w6 wx ∧ Chg (fun b => vA.ownBlock = some b ∨ XV D b) w6 wx ∧ Chg (fun b => XV D b) wv wx) (fun j3 _ => dn - (intOf j3).toNat)
    case atStart => exact ⟨0, Nat.zero_le _, rfl, HS2.out, HC2.out, Chg.refl _ _⟩
    case round =>
     rename World => wx
     obtain ⟨k3, hkn3, rfl, hsty3, hchg3, hcx3⟩ := hrel; have hkw3 : IntKind.i64.wrap ((k3 : Int) + 1) = ((k3 + 1 : Nat) : Int) := by rw [IntKind.wrap_i64]; omega
     have hcx : wx.cell? ⟨gU, k2 * 9 + 6, none⟩ = some (.slice da dn dc) := (World.cell?_of_block (hcx3.block gU (World.block_lt_of_cell? wv _ hcd') (fun hx => HW6.out.xu gU hx HGU.out))).trans hcd'
     by_cases hlt3 : k3 < dn
     · have hlti3 : (k3 : Int) < (dn : Int) := by omega
       have hk03 : (0 : Int) ≤ (k3 : Int) := by omega
       obtain ⟨gk, e1, h2, h3⟩ := HWR.out.sty hsty3 k3 hlt3; subst e1; obtain ⟨u, hu⟩ := Option.isSome_iff_exists.1 h2; have hxk : XV D gk := HXVD.out gk rfl; have HS3 : Hid (Sty w6 (wx.setCell ⟨gk, k3, none⟩ (.int .u8 51))) := hsty3.trans (Sty.set1 wx gk k3 _ h2); have HC3 : Hid (Chg (fun b => vA.ownBlock = some b ∨ XV D b) w6 (wx.setCell ⟨gk, k3, none⟩ (.int .u8 51))) := hchg3.trans (Chg.of_grown (F := fun b => vA.ownBlock = some b ∨ XV D b) (gset1 wx gk k3 _) (fun b e => by cases e; exact .inr hxk)) (fun b hb => .inl hb); have HX3 : Hid (Chg (fun b => XV D b) wv (wx.setCell ⟨gk, k3, none⟩ (.int .u8 51))) := hcx3.trans (Chg.of_grown (F := fun b => XV D b) (gset1 wx gk k3 _) (fun b e => by cases e; exact hxk)) (fun b hb => .inl hb); clear h2 hsty3 hchg3 hcx3 hxk; go_wp2; go_roundw
       case rel => exact ⟨k3 + 1, by omega, by go_num, HS3.out, HC3.out, HX3.out⟩
       case measure => simp [intOf]; omega
     · have hlti3 : ¬ (k3 : Int) < (dn : Int) := by omega
       have HS3 : Hid (Sty w6 wx) := hsty3; have HTH : Hid (wx.there gU (k2 * 9) 9) := fun i hi => ⟨hsty3.some _ (HEX.out (k2 * 9 + i) (by omega)).1, (hsty3.frz _).trans (HEX.out (k2 * 9 + i) (by omega)).2⟩
       have HSN : Hid (Sty w6 (wx.setCells gU (k2 * 9) [.int .i64 0, .int .u64 0, .int .u64 0, .int .i64 0, .int .i64 0, .int .i64 0, .slice none 0 0, .int .i64 0, .slice none 0 0])) := hsty3.trans (Sty.setN gU [.int .i64 0, .int .u64 0, .int .u64 0, .int .i64 0, .int .i64 0, .int .i64 0, .slice none 0 0, .int .i64 0, .slice none 0 0] (k2 * 9) wx (fun j hj => hsty3.some _ (HEX.out (k2 * 9 + j) (by simp at hj; omega)).1)); have HCN : Hid (Chg (fun b => vA.ownBlock = some b ∨ XV D b) w6 (wx.setCells gU (k2 * 9) [.int .i64 0, .int .u64 0, .int .u64 0, .int .i64 0, .int .i64 0, .int .i64 0, .slice none 0 0, .int .i64 0, .slice none 0 0])) := hchg3.trans (Chg.of_grown (F := fun b => vA.ownBlock = some b ∨ XV D b) (setCellsG gU [.int .i64 0, .int .u64 0, .int .u64 0, .int .i64 0, .int .i64 0, .int .i64 0, .slice none 0 0, .int .i64 0, .slice none 0 0] (k2 * 9) wx) (fun b e => by cases e; exact .inl HGU.out)) (fun b hb => .inl hb)
       have HCLN : Hid (∀ gU' c, vA = .slice (some ⟨gU', 0, none⟩) N c → ∀ i (hi : i < D.length), k2 + 1 ≤ i → (wx.setCells gU (k2 * 9) [.int .i64 0, .int .u64 0, .int .u64 0, .int .i64 0, .int .i64 0, .int .i64 0, .slice none 0 0, .int .i64 0, .slice none 0 0]).cell? ⟨gU', i * 9 + 6, none⟩ = some D[i].v) := fun gU' c' hgU' i hi hki => by
        have e : gU' = gU := by
         have h9 := HGV.out.symm.trans hgU'; cases h9; rfl
        subst e; have h4 := HCL.out gU' _ HGV.out i hi (by omega); have h5 := (World.cell?_of_block (a := ⟨gU', i * 9 + 6, none⟩) (hcx3.block gU' (World.block_lt_of_cell? wv _ h4) (fun hx => HW6.out.xu gU' hx HGU.out))).trans h4; rw [World.cell?_setCells_out gU' [.int .i64 0, .int .u64 0, .int .u64 0, .int .i64 0, .int .i64 0, .int .i64 0, .slice none 0 0, .int .i64 0, .slice none 0 0] (k2 * 9) wx ⟨gU', i * 9 + 6, none⟩ (fun _ _ => .inr (by simp; omega))]; exact h5
       clear hsty3 hchg3 hcx3; go_wp2_with (refine wpList_store_mid rfl 49 _ _ rfl gU (k2 * 9) #[.int .i64 0, .int .u64 0, .int .u64 0, .int .i64 0, .int .i64 0, .int .i64 0, .slice none 0 0, .int .i64 0, .slice none 0 0] ?_ ?_ ?_ infoU9f (by simp [Value.oneCell']) ?_)
       · exact HTH.out
       go_roundw
       case rel => exact ⟨k2 + 1, by omega, by go_num, HSN.out, HCN.out, HCLN⟩
       case measure => simp [intOf]; omega
  · have hlti2 : ¬ (k2 : Int) < (N : Int) := by omega
    have HC2 : Hid (Chg (fun b => vA.ownBlock = some b ∨ XV D b) w6 wv) := hchg2; clear hsty2 hchg2 HCL; go_wp2; go_ret; exact ⟨rfl, HGOAL.out _ ((Chg.of_below HB6.out).trans HC2.out (fun b hb => .inl hb))⟩
end
end Go.Proofs.YtpakkpahcpgnnaaGreatDoor
