import Derived.Test.YtibepnilhmbpeaaDoorSMg
namespace Go.Proofs.YtibepnilhmbpeaaDoor
set_option linter.unusedVariables false
set_option linter.unusedSimpArgs false
open Go.RowKit
/-- what Open answers -/
def opEZ (d : Dst) (A Z : Int) : Int := if plE d A Z ≠ 0 then plE d A Z else openE d A.toNat Z.toNat
/-- the disk behind a failed Open -/
def opDZ (d : Dst) (A Z : Int) : Dst := if plE d A Z ≠ 0 then d else if (cntH d A.toNat Z.toNat).g = 0 ∨ (cntH d A.toNat Z.toNat).g = 281474976710655 ∨ (cntH d A.toNat Z.toNat).e = 281474976710655 then d else (runO d (hdO A.toNat Z.toNat (opH d A.toNat Z.toNat))).1
theorem opDZ_d {d : Dst} {a z : Nat} (h : ¬ plE d (a : Int) (z : Int) ≠ 0) (hc : (cntH d a z).g = 0 ∨ (cntH d a z).g = 281474976710655 ∨ (cntH d a z).e = 281474976710655) : opDZ d (a : Int) (z : Int) = d := by
  unfold opDZ; rw [if_neg h]; exact if_pos hc
theorem opDZ_r {d : Dst} {a z : Nat} (h : ¬ plE d (a : Int) (z : Int) ≠ 0) (hc : ¬ ((cntH d a z).g = 0 ∨ (cntH d a z).g = 281474976710655 ∨ (cntH d a z).e = 281474976710655)) : opDZ d (a : Int) (z : Int) = (runO d (hdO a z (opH d a z))).1 := by
  unfold opDZ; rw [if_neg h]; exact if_neg hc
/-- the log that Open has made, ahead of begin -/
theorem opX_log {w W9 : World} {G p n z a m : Nat} {d : Dst} {F : Nat → Prop} {sa : Option Addr} {sc : Nat} (hd : Dsk w p d n F) (hZ : 3 ≤ z ∧ a + z ≤ d.S.length ∧ d.S.length ≤ 65536) (ht : TabOk w) (hF : ¬ F 0) (hb : Below w.heap.size w W9) (hG : w.heap.size ≤ G) (hm : m = (stS d a z (cntH d a z)).1.length) (hbx : W9.heap[G]? = some (.cells #[.pointer (some ⟨p, 0, none⟩), .int .i64 (a : Int), .int .i64 (z : Int), .int .u64 ((cntH d a z).g : Int), .int .u64 ((cntH d a z).e : Int), .int .u64 ((cntH d a z).f : Int), .int .u64 ((cntH d a z).l : Int), .int .u64 ((stS d a z (cntH d a z)).2 : Int), .slice sa m sc, .bool false] tLg (0, 0))) (hown : OwnG KS W9 w.heap.size (.slice sa m sc) (stS d a z (cntH d a z)).1) : LogM W9 G p (opX d a z) sa sc d n F := by
  have hs := stS_ok d a z (cntH d a z)
  obtain ⟨a2, c2, e2, h1, -, -, hrd⟩ := hown.val
  cases e2
  have hlt := hd.lt
  have hS := World.block_lt_of_cell? w _ (ht 0)
  have hS : 0 < w.heap.size := hS
  have hsb : ∀ q, sa = some q → w.heap.size ≤ q.block := fun q e => by
    subst e
    exact (hown.lt' (b := q.block) (by cases q; rfl)).1
  refine ⟨⟨hbx, hrd, hs.ris, ?_, hd.below hb, fun h9 => by have := hlt _ h9; omega, fun q e => ⟨fun h9 => by have := hlt _ h9; have := hsb q e; omega, ?_⟩, h1, hZ.1, hZ.2.1, ht.below hb⟩, MidG.of_own hown, hF, fun q e e9 => by have := hsb q e; omega⟩
  · have h5 := hs.cnt
    have h6 := hs.top
    show (stS d a z (cntH d a z)).1.length ≤ _
    omega
  · intro e9
    have hob : (Value.slice sa (stS d a z (cntH d a z)).1.length sc).ownBlock = some G := by rw [e, ← e9]; cases q; rfl
    obtain ⟨cur, h9⟩ := hown.at_ hob
    rw [hbx] at h9
    cases h9
structure OpOut (d : Dst) (A Z : Int) (w : World) (p n : Nat) (F : Nat → Prop) (e : Ending) (w' : World) : Prop where
  no : opEZ d A Z ≠ 0 → e = .returned (.tuple #[.pointer none, .int .i64 (opEZ d A Z)]) ∧ DLft w p (opDZ d A Z) (n + 1) F w'
  ok : opEZ d A Z = 0 → ∃ g sa sc F', e = .returned (.tuple #[.pointer (some ⟨g, 0, none⟩), .int .i64 0]) ∧ LogM w' g p (opY d A.toNat Z.toNat) sa sc (runO d (hdO A.toNat Z.toNat (opH d A.toNat Z.toNat))).1 (n + 1) F' ∧ (∀ b, F' b → F b ∨ w.heap.size ≤ b) ∧ w.heap.size ≤ g ∧ (∀ a, sa = some a → w.heap.size ≤ a.block) ∧ Chg F w w'
set_option maxRecDepth 20000 in
set_option maxHeartbeats 6400000 in
theorem Open_t {w : World} {p n : Nat} {d : Dst} {F : Nat → Prop} (hd : Dsk w p d n F) (A Z : Int) (hA : -9223372036854775808 ≤ A ∧ A ≤ 9223372036854775807) (hn : n + 1 < 1099511627776) (ht : TabOk w) (hF : ¬ F 0) :
    Calls Tryd.prog 18 #[.pointer (some ⟨p, 0, none⟩), .int .i64 A, .int .i64 Z] w fun e w' => OpOut d A Z w p n F e w' := by
  have hsz := hd.size
  have HPO : Hid _ := placeOn_t hd A Z hA
  have HD : Hid (Dsk w p d n F) := hd
  have HT : Hid (TabOk w) := ht
  have HFS : Hid (¬ F 0) := hF
  have HN : Hid (n + 1 < 1099511627776) := hn
  by_cases hE : plE d A Z = 0
  · obtain ⟨h1, h2, h3, h4⟩ := plLen hE
    obtain ⟨a, rfl⟩ : ∃ a : Nat, A = (a : Int) := ⟨A.toNat, by omega⟩
    obtain ⟨z, rfl⟩ : ∃ z : Nat, Z = (z : Int) := ⟨Z.toNat, by omega⟩
    have HEQ : Hid (opEZ d (a : Int) (z : Int) = openE d a z ∧ ¬ plE d (a : Int) (z : Int) ≠ 0) := by
      unfold Hid opEZ
      rw [if_neg (fun h => h hE)]
      exact ⟨rfl, fun h => h hE⟩
    have HE : Hid (plE d (a : Int) (z : Int) = 0) := hE
    have HZ : Hid (3 ≤ z ∧ a + z ≤ d.S.length ∧ d.S.length ≤ 65536) := ⟨by omega, by omega, hsz.2⟩
    have HCO : Hid (∀ u, Below w.heap.size w u → Calls _ _ _ u _) := fun u hu => counting_t (hd.below hu) h4 a z (by omega) (by omega) (ht.below hu)
    obtain ⟨h, hh⟩ : ∃ h, h = cntH d a z := ⟨_, rfl⟩
    have HH : Hid (h = cntH d a z) := hh
    have HSM : Hid h.sm := (show h.sm by rw [hh]; exact cntH_lt d a z)
    have HRS : Hid (∀ u, Below w.heap.size w u → Calls _ _ _ u _) := fun u hu => readStarts_t (hd.below hu) h4 a z h (by have := HSM.out.f; omega) (by omega) (by omega) (ht.below hu)
    rw [← hh] at HCO
    clear hd ht hF hE h1 h2 h3 h4 hh hn hsz hA
    by_cases hg0 : h.g = 0
    · have HGZ : Hid (h.g = 0) := hg0
      have hgI : (h.g : Int) = 0 := by omega
      clear hg0
      go_enter Tryd.func18, Tryd.ntmps18
      go_upto_region 4 with (go_at_call 37; refine Calls.mono HPO.out ?_; rintro e u1 hpo; have he := hpo.ok HE.out; subst he; have hb1 : Below w.heap.size w u1 := hpo.bel; have HB1 : Hid (Below w.heap.size w u1) := hb1; clear hpo hb1)
      have HB2 : Hid (Below w.heap.size w (u1.alloc (.cells #[.pointer (some ⟨p, 0, none⟩), .int .i64 (a : Int), .int .i64 (z : Int)] tPl))) := below_next HB1.out (alS (Below.refl _ _) _)
      go_wp2_with (go_at_call 39; refine Calls.mono (HCO.out _ HB2.out) ?_; rintro e u3 ⟨rfl, hu3⟩; have HB3 : Hid (Below w.heap.size w u3) := below_next HB2.out hu3; clear hu3)
      go_ret2
      have hoe : opEZ d (a : Int) (z : Int) = 50 := by rw [HEQ.out.1]; unfold openE; rw [← HH.out, if_pos HGZ.out]
      refine ⟨fun _ => ⟨by rw [hoe]; rfl, ?_⟩, fun h9 => by rw [hoe] at h9; cases h9⟩
      have hod := opDZ_d HEQ.out.2 (.inl (by rw [← HH.out]; exact HGZ.out))
      rw [hod]
      exact DLft.more (DLft.below (DLft.start HD.out) (below_next HB3.out (alS (Below.refl _ _) _))) (by omega) (by have := HN.out; omega)
    · have hgI : ¬ (h.g : Int) = 0 := by omega
      by_cases hgm : h.g = 281474976710655 ∨ h.e = 281474976710655
      · have HGM : Hid (¬ h.g = 0 ∧ (h.g = 281474976710655 ∨ h.e = 281474976710655)) := ⟨hg0, hgm⟩
        have hoe : opEZ d (a : Int) (z : Int) = 6 := by rw [HEQ.out.1]; unfold openE; rw [← HH.out, if_neg hg0, if_pos hgm]
        have hod := opDZ_d HEQ.out.2 (.inr (by rw [← HH.out]; exact hgm))
        have HOE : Hid _ := hoe
        have HOD : Hid _ := hod
        have hcs : ((h.g : Int) == 281474976710655) = true ∨ (((h.g : Int) == 281474976710655) = false ∧ (h.e : Int) = 281474976710655) := by
          by_cases h9 : h.g = 281474976710655
          · left; rw [h9]; rfl
          · right; exact ⟨by rw [beq_eq_false_iff_ne]; omega, by rcases hgm with h8 | h8 <;> omega⟩
        clear hg0 hgm hoe hod HGM
        rcases hcs with hc1 | ⟨hc1, hc2⟩
        all_goals
          go_enter Tryd.func18, Tryd.ntmps18
          go_upto_region 4 with (go_at_call 37; refine Calls.mono HPO.out ?_; rintro e u1 hpo; have he := hpo.ok HE.out; subst he; have hb1 : Below w.heap.size w u1 := hpo.bel; have HB1 : Hid (Below w.heap.size w u1) := hb1; clear hpo hb1)
          have HB2 : Hid (Below w.heap.size w (u1.alloc (.cells #[.pointer (some ⟨p, 0, none⟩), .int .i64 (a : Int), .int .i64 (z : Int)] tPl))) := below_next HB1.out (alS (Below.refl _ _) _)
          go_wp2_with (go_at_call 39; refine Calls.mono (HCO.out _ HB2.out) ?_; rintro e u3 ⟨rfl, hu3⟩; have HB3 : Hid (Below w.heap.size w u3) := below_next HB2.out hu3; clear hu3)
          go_ret2
          exact ⟨fun _ => ⟨by rw [HOE.out]; rfl, by rw [HOD.out]; exact DLft.more (DLft.below (DLft.start HD.out) (below_next HB3.out (alS (Below.refl _ _) _))) (by omega) (by have := HN.out; omega)⟩, fun h9 => by rw [HOE.out] at h9; cases h9⟩
      · have hc1 : ((h.g : Int) == 281474976710655) = false := by rw [beq_eq_false_iff_ne]; intro h9; exact hgm (.inl (by omega))
        have hc2 : ¬ (h.e : Int) = 281474976710655 := fun h9 => hgm (.inr (by omega))
        have HGM : Hid (¬ h.g = 0 ∧ ¬ (h.g = 281474976710655 ∨ h.e = 281474976710655)) := ⟨hg0, hgm⟩
        obtain ⟨ep, hep⟩ : ∃ ep, ep = h.e + 1 := ⟨_, rfl⟩
        have HEP : Hid (ep = h.e + 1) := hep
        have hepw : IntKind.u64.wrap ((h.e : Int) + 1) = (ep : Int) := by have := HSM.out.e; rw [IntKind.wrap_u64]; omega
        clear hg0 hgm hep
        go_enter Tryd.func18, Tryd.ntmps18
        go_upto_region 4 with (go_at_call 37; refine Calls.mono HPO.out ?_; rintro e u1 hpo; have he := hpo.ok HE.out; subst he; have hb1 : Below w.heap.size w u1 := hpo.bel; have HB1 : Hid (Below w.heap.size w u1) := hb1; clear hpo hb1)
        have HB2 : Hid (Below w.heap.size w (u1.alloc (.cells #[.pointer (some ⟨p, 0, none⟩), .int .i64 (a : Int), .int .i64 (z : Int)] tPl))) := below_next HB1.out (alS (Below.refl _ _) _)
        have hpx0 : (u1.alloc (.cells #[.pointer (some ⟨p, 0, none⟩), .int .i64 (a : Int), .int .i64 (z : Int)] tPl)).heap[u1.heap.size]? = some (.cells #[.pointer (some ⟨p, 0, none⟩), .int .i64 (a : Int), .int .i64 (z : Int)] tPl (0, 0)) := heap_alloc_new _ _
        have HPX0 : Hid _ := hpx0
        clear hpx0
        go_upto_region 5 with (go_at_call 39; refine Calls.mono (HCO.out _ HB2.out) ?_; rintro e u3 ⟨rfl, hu3⟩; have HPX : Hid (u3.heap[u1.heap.size]? = some (.cells #[.pointer (some ⟨p, 0, none⟩), .int .i64 (a : Int), .int .i64 (z : Int)] tPl (0, 0))) := below_blk hu3 HPX0.out; have HB3 : Hid (Below w.heap.size w u3) := below_next HB2.out hu3; clear hu3)
        have hb4 : Below w.heap.size w (u3.alloc (.cells h.c tHd)) := below_next HB3.out (alS (Below.refl _ _) _)
        have hhx : (u3.alloc (.cells h.c tHd)).heap[u3.heap.size]? = some (.cells h.c tHd (0, 0)) := heap_alloc_new _ _
        have hpx : (u3.alloc (.cells h.c tHd)).heap[u1.heap.size]? = some (.cells #[.pointer (some ⟨p, 0, none⟩), .int .i64 (a : Int), .int .i64 (z : Int)] tPl (0, 0)) := below_blk (alS (Below.refl _ _) _) HPX.out
        change Code.wp _ _ _ _ (u3.alloc (.cells h.c tHd))
        generalize (u3.alloc (.cells h.c tHd)) = W4 at *
        obtain ⟨P0, hP0⟩ : ∃ P0, P0 = u1.heap.size := ⟨_, rfl⟩
        obtain ⟨H0, hH0⟩ : ∃ H0, H0 = u3.heap.size := ⟨_, rfl⟩
        rw [← hP0] at hpx ⊢
        rw [← hH0] at hhx ⊢
        have HB4 : Hid (Below w.heap.size w W4) := hb4
        have HX4 : Hid (∀ u, Below W4.heap.size W4 u → u.heap[H0]? = some (.cells h.c tHd (0, 0)) ∧ u.heap[P0]? = some (.cells #[.pointer (some ⟨p, 0, none⟩), .int .i64 (a : Int), .int .i64 (z : Int)] tPl (0, 0))) := fun u hu => ⟨below_blk hu hhx, below_blk hu hpx⟩
        obtain ⟨e0, e1, e2, e3⟩ := cells4 hhx
        obtain ⟨p0, p1, p2⟩ := cellsP3 hpx
        clear hhx hpx hb4 hP0 hH0
        go_upto_region 10 with fail
        have hb5 : Below W4.heap.size W4 (W4.alloc (.cells #[.pointer (some ⟨p, 0, none⟩), .int .i64 (a : Int), .int .i64 (z : Int), .int .u64 (h.g : Int), .int .u64 (h.e : Int), .int .u64 (h.f : Int), .int .u64 (h.l : Int), .int .u64 0, .slice none 0 0, .bool false] tLg)) := alS (Below.refl _ _) _
        have hgx : (W4.alloc (.cells #[.pointer (some ⟨p, 0, none⟩), .int .i64 (a : Int), .int .i64 (z : Int), .int .u64 (h.g : Int), .int .u64 (h.e : Int), .int .u64 (h.f : Int), .int .u64 (h.l : Int), .int .u64 0, .slice none 0 0, .bool false] tLg)).heap[W4.heap.size]? = some (.cells #[.pointer (some ⟨p, 0, none⟩), .int .i64 (a : Int), .int .i64 (z : Int), .int .u64 (h.g : Int), .int .u64 (h.e : Int), .int .u64 (h.f : Int), .int .u64 (h.l : Int), .int .u64 0, .slice none 0 0, .bool false] tLg (0, 0)) := heap_alloc_new _ _
        change Code.wp _ _ _ _ (W4.alloc (.cells #[.pointer (some ⟨p, 0, none⟩), .int .i64 (a : Int), .int .i64 (z : Int), .int .u64 (h.g : Int), .int .u64 (h.e : Int), .int .u64 (h.f : Int), .int .u64 (h.l : Int), .int .u64 0, .slice none 0 0, .bool false] tLg))
        generalize (W4.alloc (.cells #[.pointer (some ⟨p, 0, none⟩), .int .i64 (a : Int), .int .i64 (z : Int), .int .u64 (h.g : Int), .int .u64 (h.e : Int), .int .u64 (h.f : Int), .int .u64 (h.l : Int), .int .u64 0, .slice none 0 0, .bool false] tLg)) = W5 at *
        obtain ⟨G, hG⟩ : ∃ G, G = W4.heap.size := ⟨_, rfl⟩
        rw [← hG] at hgx ⊢
        have HGW : Hid (w.heap.size ≤ G ∧ G = W4.heap.size) := ⟨by rw [hG]; exact HB4.out.size, hG⟩
        have HB5 : Hid (Below w.heap.size w W5) := below_next HB4.out hb5
        have HB45 : Hid (Below W4.heap.size W4 W5) := hb5
        have HGX : Hid _ := hgx
        obtain ⟨e0, e1, e2, e3⟩ := cells4 (HX4.out _ hb5).1
        obtain ⟨p0, p1, p2⟩ := cellsP3 (HX4.out _ hb5).2
        clear hgx hb5 hG
        obtain ⟨ST, hST⟩ : ∃ ST, ST = stS d a z h := ⟨_, rfl⟩
        have HST : Hid (ST = stS d a z h) := hST
        clear hST
        go_upto_region 11 with (go_at_call 40; refine Calls.mono (HRS.out _ HB5.out) ?_; rintro e u6 hq; obtain ⟨⟨v6, he6, hown6⟩, hb6⟩ := hq; rw [← HST.out] at he6 hown6; obtain ⟨sa, sc, hv6, -⟩ := hown6.val; obtain ⟨m6, hm6⟩ : ∃ m6, m6 = ST.1.length := ⟨_, rfl⟩; rw [← hm6] at hv6; subst hv6; subst he6; have HM6 : Hid (m6 = ST.1.length) := hm6; have HO6 : Hid (OwnG KS u6 W5.heap.size (.slice sa m6 sc) ST.1) := hown6; have HB6 : Hid (Below W5.heap.size W5 u6) := hb6; have hx6 := below_blk hb6 HGX.out; have HX6 : Hid _ := hx6; have c68 := (cells10 hx6).2.2.2.2.2.2.2.2.1; have c67 := (cells10 hx6).2.2.2.2.2.2.2.1; have f68 := frz hx6 8; have f67 := frz hx6 7; clear hb6 hown6 hx6 hm6)
        have hbx9 : ((u6.setCell ⟨G, 8, none⟩ (.slice sa m6 sc)).setCell ⟨G, 7, none⟩ (.int .u64 (ST.2 : Int))).heap[G]? = some (.cells #[.pointer (some ⟨p, 0, none⟩), .int .i64 (a : Int), .int .i64 (z : Int), .int .u64 (h.g : Int), .int .u64 (h.e : Int), .int .u64 (h.f : Int), .int .u64 (h.l : Int), .int .u64 (ST.2 : Int), .slice sa m6 sc, .bool false] tLg (0, 0)) := heap_setCell_same _ G 7 _ _ _ (heap_setCell_same u6 G 8 _ _ _ HX6.out)
        have hg9 : u6.grownBy ((u6.setCell ⟨G, 8, none⟩ (.slice sa m6 sc)).setCell ⟨G, 7, none⟩ (.int .u64 (ST.2 : Int))) (some G) := (gset1 u6 G 8 _).trans' (gset1 _ G 7 _)
        generalize ((u6.setCell ⟨G, 8, none⟩ (.slice sa m6 sc)).setCell ⟨G, 7, none⟩ (.int .u64 (ST.2 : Int))) = W9 at *
        have hb6 : Below w.heap.size w u6 := below_next HB5.out HB6.out
        have hb9 : Below w.heap.size w W9 := hb6.grown hg9 hb6.size (fun k e => by cases e; exact HGW.out.1)
        have HB9 : Hid (Below w.heap.size w W9) := hb9
        have hh9 : W9.heap[H0]? = some (.cells h.c tHd (0, 0)) := by
          have h9 := HX4.out W4 (Below.refl _ _)
          refine grown_blk hg9 (HX4.out u6 (below_next HB45.out HB6.out)).1 ?_
          have := (Array.getElem?_eq_some_iff.1 h9.1).1
          have := HGW.out.2
          omega
        have hown9 : OwnG KS W9 w.heap.size (.slice sa m6 sc) ST.1 := (HO6.out.kept (fun b hb => hg9.block b (HO6.out.lt' hb).2 (fun e => by
          have h8 := (HO6.out.lt' hb).1
          have h7 := (Array.getElem?_eq_some_iff.1 HGX.out).1
          cases e
          omega))).base HB5.out.size
        have hlm := opX_log (G := G) (m := m6) HD.out HZ.out HT.out HFS.out hb9 HGW.out.1 (by rw [HM6.out, HST.out, HH.out]) (by rw [← HH.out, ← HST.out]; exact hbx9) (by rw [← HH.out, ← HST.out]; exact hown9)
        have HLM : Hid (LogM W9 G p (opX d a z) sa sc d n F) := hlm
        have hbg : Calls Tryd.prog 41 #[.pointer (some ⟨G, 0, none⟩), .int .u64 (ep : Int), .int .u64 (h.f : Int)] W9 fun e w' => e = .returned (.int .i64 (opE (runO d (hdO a z (opH d a z))).2)) ∧ BgOut W9 G p (opX d a z) sa sc ((cntH d a z).e + 1) (cntH d a z).f d n F w' := by
          rw [HEP.out, HH.out]; exact hlm.s.begin _ _ (opH_ok d a z) HN.out
        have HOE : Hid (opEZ d (a : Int) (z : Int) = opE (runO d (hdO a z (opH d a z))).2 ∧ opDZ d (a : Int) (z : Int) = (runO d (hdO a z (opH d a z))).1) := by
          refine ⟨?_, opDZ_r HEQ.out.2 ?_⟩
          · rw [HEQ.out.1]; unfold openE; rw [← HH.out, if_neg HGM.out.1, if_neg HGM.out.2]
          · rw [← HH.out]; rintro (h9 | h9)
            · exact HGM.out.1 h9
            · exact HGM.out.2 h9
        obtain ⟨q0, q1, q2, q3⟩ := cells4 hh9
        have HOUT : Hid (∀ w8, BgOut W9 G p (opX d a z) sa sc ((cntH d a z).e + 1) (cntH d a z).f d n F w8 → ∃ sa' sc' F', LogM w8 G p ((opX d a z).bgn d ((cntH d a z).e + 1) (cntH d a z).f) sa' sc' (runO d (hdO a z (opH d a z))).1 (n + 1) F' ∧ (∀ b, F' b → F b ∨ w.heap.size ≤ b) ∧ (∀ q, sa' = some q → w.heap.size ≤ q.block) ∧ Chg F w w8) := fun w8 hq => by
          obtain ⟨sa', sc', F', r1, r2, r3, r4⟩ := BgOut.logm hlm hq
          refine ⟨sa', sc', F', r1, fun b h9 => (r2 b h9).imp id (fun h => Nat.le_trans hb9.size h), fun q e => ?_, (Chg.of_below hb9).trans r4 (fun i h9 => ?_)⟩
          · obtain ⟨a0, e1, e2⟩ := r3 q e
            rw [e2]
            subst e1
            exact (hown9.lt' (b := a0.block) (by cases a0; rfl)).1
          · rcases h9 with h9 | h9
            · exact .inl h9
            · right; rw [h9]; exact HGW.out.1
        clear hbx9 hg9 hb6 hb9 hh9 hown9 hlm e0 e1 e2 e3 p0 p1 p2 c67 c68 f67 f68
        rcases hok : (runO d (hdO a z (opH d a z))).2 with _ | _
        · rw [hok] at hbg
          have HBG : Hid (Calls _ _ _ W9 fun e w' => e = .returned (.int .i64 5) ∧ _) := hbg
          have HOK : Hid ((runO d (hdO a z (opH d a z))).2 = false) := hok
          clear hbg hok
          go_wp2_with (go_at_call 41; refine Calls.mono HBG.out ?_; rintro e w8 ⟨rfl, hq⟩; have HQ : Hid _ := hq; clear hq)
          go_ret2
          obtain ⟨sa', sc', F', r1, r2, r3, r4⟩ := HOUT.out _ HQ.out
          have h5 : opEZ d (a : Int) (z : Int) = 5 := by rw [HOE.out.1, HOK.out]; rfl
          exact ⟨fun _ => ⟨by rw [h5]; rfl, by rw [HOE.out.2]; exact ⟨⟨F', r1.s.dk, r2⟩, r4⟩⟩, fun h9 => by rw [h5] at h9; cases h9⟩
        · rw [hok] at hbg
          have HBG : Hid (Calls _ _ _ W9 fun e w' => e = .returned (.int .i64 0) ∧ _) := hbg
          have HOK : Hid ((runO d (hdO a z (opH d a z))).2 = true) := hok
          clear hbg hok
          go_wp2_with (go_at_call 41; refine Calls.mono HBG.out ?_; rintro e w8 ⟨rfl, hq⟩; have HQ : Hid _ := hq; clear hq)
          go_ret2
          obtain ⟨sa', sc', F', r1, r2, r3, r4⟩ := HOUT.out _ HQ.out
          have h5 : opEZ d (a : Int) (z : Int) = 0 := by rw [HOE.out.1, HOK.out]; rfl
          have hby : (opX d a z).bgn d ((cntH d a z).e + 1) (cntH d a z).f = opY d a z := by
            unfold Lg.bgn
            have h9 : (runO d (hdO (opX d a z).A (opX d a z).Z ((opX d a z).newH ((cntH d a z).e + 1) (cntH d a z).f))).2 = true := HOK.out
            rw [h9, if_pos rfl]
            exact opY_eq d a z
          rw [hby] at r1
          exact ⟨fun h9 => absurd h5 h9, fun _ => ⟨G, sa', sc', F', rfl, r1, r2, HGW.out.1, r3, r4⟩⟩
  · have HE : Hid (plE d A Z ≠ 0) := hE
    obtain ⟨E, hEd⟩ : ∃ E, E = plE d A Z := ⟨_, rfl⟩
    have HED : Hid (E = plE d A Z) := hEd
    have hEb : (E != 0) = true := by rw [hEd]; simpa using hE
    have HEQ : Hid (opEZ d A Z = plE d A Z ∧ opDZ d A Z = d) := ⟨if_pos hE, if_pos hE⟩
    clear hd ht hF hE hEd
    go_enter Tryd.func18, Tryd.ntmps18
    go_wp2_with fail
    refine Calls.mono HPO.out ?_
    rintro e u1 hpo
    have he := hpo.no HE.out
    rw [← HED.out] at he
    subst he
    have HB1 : Hid (Below w.heap.size w (u1.alloc (.cells #[.pointer none, .int .i64 0, .int .i64 0] tPl))) := below_next hpo.bel (alS (Below.refl _ _) _)
    clear hpo
    go_wp2
    go_ret2
    exact ⟨fun _ => ⟨by rw [HEQ.out.1, ← HED.out]; rfl, by rw [HEQ.out.2]; exact DLft.more (DLft.below (DLft.start HD.out) HB1.out) (by omega) (by have := HN.out; omega)⟩, fun h9 => absurd (HEQ.out.1 ▸ h9) HE.out⟩
end Go.Proofs.YtibepnilhmbpeaaDoor
