import Derived.Test.YtibepnilhmbpeaaDoorKTg
import Derived.Test.YtibepnilhmbpeaaDoorSZb
import Derived.Test.YtibepnilhmbpeaaDoorMkA
namespace Go.Proofs.YtibepnilhmbpeaaDoor
set_option linter.unusedVariables false
set_option linter.unusedSimpArgs false
open Go.RowKit Go.Shelf
/-- amid SeglogNil's loop -/
structure NIv (w2 : World) (lb gz : Nat) (w' : World) (ds : List Deferred) : Prop where
  bel : Below w2.heap.size w2 w'
  ms : Mks w2.heap.size w' ds
  r0 : w'.cell? ⟨lb, 0, none⟩ = some (.pointer none)
  r1 : w'.cell? ⟨lb, 1, none⟩ = some (.pointer (some ⟨gz, 0, none⟩))
  z0 : ZL w' (.pointer none)
  z1 : ZL w' (.pointer (some ⟨gz, 0, none⟩))
theorem NIv.below {w2 : World} {lb gz : Nat} {w' w3 : World} {ds : List Deferred} (h : NIv w2 lb gz w' ds) (hb : Below w'.heap.size w' w3) : NIv w2 lb gz w3 ds :=
  ⟨below_next h.bel hb, h.ms.below hb, (hb.cell (World.block_lt_of_cell? _ _ h.r0)).trans h.r0, (hb.cell (World.block_lt_of_cell? _ _ h.r1)).trans h.r1, h.z0.below hb, h.z1.below hb⟩
theorem NIv.push {w2 : World} {lb gz D : Nat} {w' : World} {ds : List Deferred} (h : NIv w2 lb gz w' ds) (hB : w2.heap.size ≤ D) (hD : w'.heap[D]? = some (.deferred (some []))) (hn : ∀ e ∈ ds, e.target ≠ .collected D) : NIv w2 lb gz w' ({ target := .collected D, args := #[] } :: ds) :=
  ⟨h.bel, h.ms.push hB hD hn, h.r0, h.r1, h.z0, h.z1⟩
set_option maxRecDepth 100000 in
set_option maxHeartbeats 12800000 in
theorem seglogNil_walk (w : World) (ht : TabOk w) :
    Calls Tryd.prog 5 #[] w fun e w' => e = .returned (.bool true) ∧ Below w.heap.size w w' := by
  have HBG : Hid (Calls _ _ _ w _) := EnC.begin 5 (by decide) (by decide) ht
  have hefn := eql_func_nil
  obtain ⟨Z, hZ⟩ : ∃ Z, Z = spanK 5 3 65531 := ⟨_, rfl⟩
  rw [← hZ] at HBG
  clear hZ ht
  refine (callsIn_wide (n := 12)).1 ?_
  refine callsIn_of_wp_marks Tryd.func5 rfl trivial ?_ rfl
  simp only [Tryd.ntmps5, List.size_toArray, List.length_cons, List.length_nil, Nat.reduceAdd, Nat.reduceSub, Array.replicate_succ, Array.replicate_zero, List.push_toArray, List.append_toArray, List.nil_append, List.cons_append]
  refine wpIn_wide.2 ?_
  go_upto_region 2 with (go_at_call 8; refine Calls.mono HBG.out ?_; rintro e w1 ⟨kb, g, p, x0, d0, n0, X0, Y0, k0, rfl, hen, htd⟩; have HE0 : Hid (EnC w w1 kb g p Z 0 x0 d0 n0 X0 Y0 [] k0 ∧ k0.told = 0) := ⟨hen, htd⟩; clear hen htd)
  have HAP : Hid (Calls _ _ _ w1 _) := HE0.out.1.ap 3 (by decide) (by decide) (by rw [HE0.out.2]; decide) (by decide)
  go_upto_region 4 with (go_at_call 19; refine Calls.mono HAP.out ?_; rintro e w2 ⟨rfl, T, hq, -⟩; have HE2 : Hid _ := hq; clear hq)
  obtain ⟨x, d, n, X, Y, k, hen, -⟩ := HE2.out.ex
  have HEN : Hid (EnC w w2 kb g p Z 1 x d n X Y T k) := hen
  clear hen
  go_upto_region 7 with fail
  have hb3 : Below w2.heap.size w2 ((w2.alloc (.cells #[.pointer none, .int .i64 0, .int .i64 0, .int .u64 0, .int .u64 0, .int .u64 0, .int .u64 0, .int .u64 0, .slice none 0 0, .bool false] tLg)).alloc (.cells #[.pointer none, .pointer (some ⟨w2.heap.size, 0, none⟩)] 31)) := alS (alS (Below.refl _ _) _) _
  obtain ⟨f1, f2⟩ := two_newR w2 (.cells #[.pointer none, .int .i64 0, .int .i64 0, .int .u64 0, .int .u64 0, .int .u64 0, .int .u64 0, .int .u64 0, .slice none 0 0, .bool false] tLg) (.cells #[.pointer none, .pointer (some ⟨w2.heap.size, 0, none⟩)] 31)
  generalize ((w2.alloc (.cells #[.pointer none, .int .i64 0, .int .i64 0, .int .u64 0, .int .u64 0, .int .u64 0, .int .u64 0, .int .u64 0, .slice none 0 0, .bool false] tLg)).alloc (.cells #[.pointer none, .pointer (some ⟨w2.heap.size, 0, none⟩)] 31)) = W3 at *
  obtain ⟨gz, hgz⟩ : ∃ gz, gz = w2.heap.size := ⟨_, rfl⟩
  obtain ⟨lb, hlb⟩ : ∃ lb, lb = w2.heap.size + 1 := ⟨_, rfl⟩
  rw [← hlb] at f2 ⊢
  rw [← hgz] at f1 f2 ⊢
  have HN0 : Hid (NIv w2 lb gz W3 []) := ⟨hb3, trivial, by rw [cell_of_row _ _ _ _ _ _ f2]; rfl, by rw [cell_of_row _ _ _ _ _ _ f2]; rfl, .inl rfl, .inr ⟨gz, rfl, by rw [cell_of_row _ _ _ _ _ _ f1]; rfl⟩⟩
  clear f1 f2 hb3 hgz hlb
  go_wp2_with fail
  refine wp_loop_rounds 3 ?_
  rw [rounds_succ]
  have c0 : W3.cell? ⟨lb, 0, none⟩ = some ((Value.pointer none)) := HN0.out.r0
  have HZ0 : Hid (∀ u, Below W3.heap.size W3 u → ZL u ((Value.pointer none))) := fun u hu => (HN0.out.below hu).z0
  go_wp2_with first | (go_at_call 14; refine Calls.mono (sappend_z (HZ0.out _ (alS (Below.refl _ _) _)) _ _ _ (by decide)) ?_; rintro e w' ⟨rfl, hq⟩; have hq := hq.symm; subst hq) | (go_at_call 21; refine Calls.mono (sread_z (HZ0.out _ (alS (Below.refl _ _) _)) _) ?_; rintro e w' ⟨rfl, hq⟩; have hq := hq.symm; subst hq)
  refine Calls.mono (srecords_z (Value.pointer none) (by first | exact .inl rfl | exact .inr ⟨_, rfl⟩) 0 _) ?_
  rintro e u0 ⟨gl0, gn0, rfl, hgl, hgn, hb5⟩
  have HR0 : Hid (u0.cell? ⟨gl0, 0, none⟩ = some ((Value.pointer none)) ∧ u0.cell? ⟨gn0, 0, none⟩ = some (.int .u64 0)) := ⟨hgl, hgn⟩
  have HB0 : Hid (Below W3.heap.size W3 u0) := below_next (alS (alS (Below.refl _ _) _) _) hb5
  have hcg := below_blk hb5 (two_newR W3 (.cells #[.int .u8 1] 5) (.cells #[.int .i64 0] 3)).2
  have HCG0 : Hid (u0.heap[W3.heap.size + 1]? = some (.cells #[.int .i64 0] 3 (0, 0))) := hcg
  clear hgl hgn hb5 hcg
  go_wp2_with fail
  have HSQ0 : Hid (SeqG Fence.wide 11 Tryd.prog 47 #[.pointer (some ⟨gl0, 0, none⟩), .pointer (some ⟨gn0, 0, none⟩)] encN (fun _ _ _ _ => False) (fun _ => False) (fun xs => xs = []) (fun _ => False) u0) := srecG_z (HZ0.out _ HB0.out) HR0.out.1 HR0.out.2 11 (by decide) _ _
  clear c0
  refine (wpIn_wide (n := 12)).1 ?_
  refine name_actK ?_
  intro T0 hT0
  refine wpIn_rangeFunc_G rfl (by decide) (gf := 47) (lb := #[.pointer (some ⟨gl0, 0, none⟩), .pointer (some ⟨gn0, 0, none⟩)]) (by subst hT0; rfl) trivial (enters_of Tryd.func47 (by kernel_rfl) rfl) HSQ0.out (fun pre x Z V l o o' h h1 h2 => h.elim) (fun k hk => hk.elim) (fun _ => rfl)
    (fun pre Z V => Below u0.heap.size u0 V)
    (fun c pre Z V => False)
    ⟨fun s Z V V' row hs hg hr => hs.grown hg hs.size (fun r e => (hr r e).1), fun s Z Z' V hs hz => hs⟩
    (fun c => ⟨fun s Z V V' row hs _ _ => hs, fun s Z Z' V hs _ => hs⟩)
    (Below.refl _ _)
    (fun y a' V => True)
    (fun y a' s A B row hs hg hr => hs)
    (fun l pre Z x W K hI hAt => hAt.elim) (fun l pre Z x a' W hl hlr hI hAt => hAt.elim) ?done0 (fun D c pre Z V hD hpre => hpre.elim)
  case done0 =>
  rintro D0 xs0 Z0 V0 hD hS hI hK
  have HN1 : Hid (NIv w2 lb gz V0 ({ target := .collected D0, args := #[] } :: [])) := (HN0.out.below (below_next HB0.out hI)).push (Nat.le_trans HN0.out.bel.size (Nat.le_trans HB0.out.size hD)) hK (fun e he hx => by
    obtain ⟨D, h1, h2, h3, h4⟩ := HN0.out.ms.lt e he
    rw [h1] at hx
    injection hx with hx
    have := HB0.out.size
    omega)
  have HY0 : Hid (ZL V0 ((Value.pointer none))) := HN1.out.z0
  have hcg := below_blk hI HCG0.out
  have hc0g : V0.cell? ⟨W3.heap.size + 1, 0, none⟩ = some (.int .i64 0) := by rw [cell_of_row _ _ _ _ _ _ hcg]; rfl
  clear hcg hD hS hI hK
  subst hT0
  dsimp only
  go_wp2_with first | (go_at_call 23; refine Calls.mono (sflush_z HY0.out) ?_; rintro e w' ⟨rfl, hq⟩; have hq := hq.symm; subst hq) | (go_at_call 24; refine Calls.mono (strim_z HY0.out _) ?_; rintro e w' ⟨rfl, hq⟩; have hq := hq.symm; subst hq) | (go_at_call 25; refine Calls.mono (sfirst_z HY0.out) ?_; rintro e w' ⟨rfl, hq⟩; have hq := hq.symm; subst hq) | (go_at_call 26; refine Calls.mono (snext_z HY0.out) ?_; rintro e w' ⟨rfl, hq⟩; have hq := hq.symm; subst hq) | (go_at_call 12; refine Calls.mono (sfree_z HY0.out) ?_; rintro e w' ⟨rfl, hq⟩; have hq := hq.symm; subst hq) | (go_at_call 27; refine Calls.mono (sepoch_z HY0.out) ?_; rintro e w' ⟨rfl, hq⟩; have hq := hq.symm; subst hq)
  clear hc0g
  rw [rounds_succ]
  have c1 : V0.cell? ⟨lb, 1, none⟩ = some ((Value.pointer (some ⟨gz, 0, none⟩))) := HN1.out.r1
  have HZ1 : Hid (∀ u, Below V0.heap.size V0 u → ZL u ((Value.pointer (some ⟨gz, 0, none⟩)))) := fun u hu => (HN1.out.below hu).z1
  go_wp2_with first | (go_at_call 14; refine Calls.mono (sappend_z (HZ1.out _ (alS (Below.refl _ _) _)) _ _ _ (by decide)) ?_; rintro e w' ⟨rfl, hq⟩; have hq := hq.symm; subst hq) | (go_at_call 21; refine Calls.mono (sread_z (HZ1.out _ (alS (Below.refl _ _) _)) _) ?_; rintro e w' ⟨rfl, hq⟩; have hq := hq.symm; subst hq)
  refine Calls.mono (srecords_z (Value.pointer (some ⟨gz, 0, none⟩)) (by first | exact .inl rfl | exact .inr ⟨_, rfl⟩) 0 _) ?_
  rintro e u1 ⟨gl1, gn1, rfl, hgl, hgn, hb5⟩
  have HR1 : Hid (u1.cell? ⟨gl1, 0, none⟩ = some ((Value.pointer (some ⟨gz, 0, none⟩))) ∧ u1.cell? ⟨gn1, 0, none⟩ = some (.int .u64 0)) := ⟨hgl, hgn⟩
  have HB1 : Hid (Below V0.heap.size V0 u1) := below_next (alS (alS (Below.refl _ _) _) _) hb5
  have hcg := below_blk hb5 (two_newR V0 (.cells #[.int .u8 1] 5) (.cells #[.int .i64 0] 3)).2
  have HCG1 : Hid (u1.heap[V0.heap.size + 1]? = some (.cells #[.int .i64 0] 3 (0, 0))) := hcg
  clear hgl hgn hb5 hcg
  go_wp2_with fail
  have HSQ1 : Hid (SeqG Fence.wide 11 Tryd.prog 47 #[.pointer (some ⟨gl1, 0, none⟩), .pointer (some ⟨gn1, 0, none⟩)] encN (fun _ _ _ _ => False) (fun _ => False) (fun xs => xs = []) (fun _ => False) u1) := srecG_z (HZ1.out _ HB1.out) HR1.out.1 HR1.out.2 11 (by decide) _ _
  clear c1
  refine (wpIn_wide (n := 12)).1 ?_
  refine name_actK ?_
  intro T1 hT1
  refine wpIn_rangeFunc_G rfl (by decide) (gf := 47) (lb := #[.pointer (some ⟨gl1, 0, none⟩), .pointer (some ⟨gn1, 0, none⟩)]) (by subst hT1; rfl) trivial (enters_of Tryd.func47 (by kernel_rfl) rfl) HSQ1.out (fun pre x Z V l o o' h h1 h2 => h.elim) (fun k hk => hk.elim) (fun _ => rfl)
    (fun pre Z V => Below u1.heap.size u1 V)
    (fun c pre Z V => False)
    ⟨fun s Z V V' row hs hg hr => hs.grown hg hs.size (fun r e => (hr r e).1), fun s Z Z' V hs hz => hs⟩
    (fun c => ⟨fun s Z V V' row hs _ _ => hs, fun s Z Z' V hs _ => hs⟩)
    (Below.refl _ _)
    (fun y a' V => True)
    (fun y a' s A B row hs hg hr => hs)
    (fun l pre Z x W K hI hAt => hAt.elim) (fun l pre Z x a' W hl hlr hI hAt => hAt.elim) ?done1 (fun D c pre Z V hD hpre => hpre.elim)
  case done1 =>
  rintro D1 xs1 Z1 V1 hD hS hI hK
  have HN2 : Hid (NIv w2 lb gz V1 ({ target := .collected D1, args := #[] } :: [{ target := .collected D0, args := #[] }])) := (HN1.out.below (below_next HB1.out hI)).push (Nat.le_trans HN1.out.bel.size (Nat.le_trans HB1.out.size hD)) hK (fun e he hx => by
    obtain ⟨D, h1, h2, h3, h4⟩ := HN1.out.ms.lt e he
    rw [h1] at hx
    injection hx with hx
    have := HB1.out.size
    omega)
  have HY1 : Hid (ZL V1 ((Value.pointer (some ⟨gz, 0, none⟩)))) := HN2.out.z1
  have hcg := below_blk hI HCG1.out
  have hc1g : V1.cell? ⟨V0.heap.size + 1, 0, none⟩ = some (.int .i64 0) := by rw [cell_of_row _ _ _ _ _ _ hcg]; rfl
  clear hcg hD hS hI hK
  subst hT1
  dsimp only
  go_wp2_with first | (go_at_call 23; refine Calls.mono (sflush_z HY1.out) ?_; rintro e w' ⟨rfl, hq⟩; have hq := hq.symm; subst hq) | (go_at_call 24; refine Calls.mono (strim_z HY1.out _) ?_; rintro e w' ⟨rfl, hq⟩; have hq := hq.symm; subst hq) | (go_at_call 25; refine Calls.mono (sfirst_z HY1.out) ?_; rintro e w' ⟨rfl, hq⟩; have hq := hq.symm; subst hq) | (go_at_call 26; refine Calls.mono (snext_z HY1.out) ?_; rintro e w' ⟨rfl, hq⟩; have hq := hq.symm; subst hq) | (go_at_call 12; refine Calls.mono (sfree_z HY1.out) ?_; rintro e w' ⟨rfl, hq⟩; have hq := hq.symm; subst hq) | (go_at_call 27; refine Calls.mono (sepoch_z HY1.out) ?_; rintro e w' ⟨rfl, hq⟩; have hq := hq.symm; subst hq)
  clear hc1g
  rw [rounds_succ]
  have hen := HEN.out.below HN2.out.bel
  have HIS : Hid (∀ u, Below V1.heap.size V1 u → Calls _ _ _ u _) := fun u hu => kis_t (hen.below hu).st (by have := hen.nx; omega)
  have HO1 : Hid (Calls _ _ _ V1 _) := Open_z (v := .pointer none) (.inl rfl)
  have HZDn : Hid (∀ u : World, ZD u (.pointer none)) := fun u => .inl rfl
  clear hen
  go_upto_region 25 with (go_at_call 18; refine Calls.mono HO1.out ?_; rintro e u7 ⟨rfl, hb7⟩; have HB7 : Hid (Below V1.heap.size V1 u7) := hb7; clear hb7)
  go_upto_region 26 with (go_at_call 18; refine Calls.mono (Open_z (.inr ⟨_, none, 0, rfl, by rw [cell_of_row _ _ _ _ _ _ (heap_alloc_new _ _)]; rfl⟩)) ?_; rintro e u8 ⟨rfl, hb8⟩; have HB8 : Hid (Below V1.heap.size V1 u8) := below_next HB7.out (below_next (alS (Below.refl _ _) _) hb8); clear hb8)
  have HFZ : Hid (Calls _ _ _ u8 _) := Format_z (v := .pointer none) (.inl rfl)
  go_wp2_with first | (go_at_call 17; refine Calls.mono HFZ.out ?_; rintro e u9 ⟨rfl, hb9⟩; have HB9 : Hid (Below V1.heap.size V1 u9) := below_next HB8.out hb9; clear hb9) | (go_at_call 15; refine Calls.mono (HIS.out _ HB9.out) ?_; rintro e u10 ⟨rfl, hb10⟩; have HB10 : Hid (Below V1.heap.size V1 u10) := below_next HB9.out hb10; clear hb10)
  have hn9 := HN2.out.below HB10.out
  refine leaves_marks _ _ hn9.ms (fun W' hL => ?_)
  refine ⟨_, by simp [results, Tryd.results5, go_sem], rfl, ?_⟩
  exact hL.below (HEN.out.bel.trans (hn9.bel.mono HEN.out.bel.size)) HEN.out.bel.size
end Go.Proofs.YtibepnilhmbpeaaDoor
