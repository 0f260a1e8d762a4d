import Derived.Test.YtdoikcolkbjnfaaGreatIxId
namespace Go.Proofs.YtdoikcolkbjnfaaGreat
set_option linter.unusedVariables false
set_option linter.unusedSimpArgs false
open Go.RowKit Go.Maps
abbrev tUn : TypeId := 41
abbrev unC (k e se pa i c : Int) (da : Option Addr) (dn dc : Nat) (cd : Int) (ga : Option Addr) (gn gc : Nat) : Array Value := #[.int .i64 k, .int .u64 e, .int .u64 se, .int .i64 pa, .int .i64 i, .int .i64 c, .slice da dn dc, .int .i64 cd, .slice ga gn gc]
def okE (e : Int) : Bool := decide (e = 0 ∨ e = 3)
/-- the boxes of boxWith's parameters -/
theorem bwBox (w : World) (s : Ss) (k e se pa i c : Int) (da : Option Addr) (dn dc : Nat) (cd : Int) (ga : Option Addr) (gn gc : Nat) : ∀ u, Below (w.heap.size + 2) ((w.alloc (.cells #[.int .u64 (s.1 : Int), .int .u64 (s.2 : Int)] tSs)).alloc (.cells (unC k e se pa i c da dn dc cd ga gn gc) tUn)) u →
    u.cell? ⟨w.heap.size, 0, none⟩ = some (.int .u64 (s.1 : Int)) ∧ u.cell? ⟨w.heap.size, 1, none⟩ = some (.int .u64 (s.2 : Int)) ∧ u.cell? ⟨w.heap.size + 1, 4, none⟩ = some (.int .i64 i) ∧ u.cell? ⟨w.heap.size + 1, 5, none⟩ = some (.int .i64 c) ∧ u.cell? ⟨w.heap.size + 1, 6, none⟩ = some (.slice da dn dc) ∧ Below w.heap.size w u := fun u hu => by
  have h9 : u.heap[w.heap.size]? = some (.cells #[.int .u64 (s.1 : Int), .int .u64 (s.2 : Int)] tSs (0, 0)) := (hu.block w.heap.size (by omega)).trans ((Below.heap_alloc _ _ _ (by simp)).trans (heap_alloc_new w _))
  have h8 : u.heap[w.heap.size + 1]? = some (.cells (unC k e se pa i c da dn dc cd ga gn gc) tUn (0, 0)) := by
    refine (hu.block (w.heap.size + 1) (by omega)).trans ?_
    have h7 := heap_alloc_new (w.alloc (.cells #[.int .u64 (s.1 : Int), .int .u64 (s.2 : Int)] tSs)) (.cells (unC k e se pa i c da dn dc cd ga gn gc) tUn)
    rw [World.size_alloc] at h7
    exact h7
  exact ⟨by rw [cell_of_row _ _ _ _ _ _ h9]; rfl, by rw [cell_of_row _ _ _ _ _ _ h9]; rfl, by rw [cell_of_row _ _ _ _ _ _ h8]; rfl, by rw [cell_of_row _ _ _ _ _ _ h8]; rfl, by rw [cell_of_row _ _ _ _ _ _ h8]; rfl, (al (al (Below.refl w.heap.size w) _) _).trans (hu.mono (by omega))⟩
section
variable {w w' : World} {p m1 m2 T1 T2 : Nat} {I : Ib} {E : List (Ss × Bg)} {G : List (Ss × (Int × Nat))}
theorem lkE {s : Ss} {b : Bg} (hb : lk E s = some b) : lk (mp Bg.qt E) s = some (b.q, b.t) := by rw [lk_mp, hb]; rfl
theorem lkEn {s : Ss} (hb : lk E s = none) : lk (mp Bg.qt E) s = none := by rw [lk_mp, hb]; rfl
set_option maxRecDepth 20000
set_option maxHeartbeats 1600000
theorem bw_mis (h : Ibx none w p m1 m2 T1 T2 I E G) (s : Ss) (hs : inS s) (k e se pa i : Int) (c : Nat) (da : Option Addr) (dn dc : Nat) (cd : Int) (ga : Option Addr) (gn gc : Nat) (b : Bg) (hb : lk E s = some b) (hc : c ≠ b.S.length) :
    Calls Tryz.prog 38 #[.pointer (some ⟨p, 0, none⟩), sv s, .agg (unC k e se pa i (c : Int) da dn dc cd ga gn gc)] w fun e w' => e = .returned (.tuple #[.pointer none, .bool false]) ∧ Below w.heap.size w w' := by
  obtain ⟨w2, hw2⟩ : ∃ w2, w2 = (w.alloc (.cells #[.int .u64 (s.1 : Int), .int .u64 (s.2 : Int)] tSs)).alloc (.cells (unC k e se pa i (c : Int) da dn dc cd ga gn gc) tUn) := ⟨_, rfl⟩
  have hbx := bwBox w s k e se pa i (c : Int) da dn dc cd ga gn gc
  rw [← hw2] at hbx
  have hz2 : w2.heap.size = w.heap.size + 2 := by rw [hw2]; simp
  have hpl : p < w.heap.size := h.lt (.inl rfl)
  have HGET : Hid (∀ u, Below w.heap.size w u → Calls _ _ _ u _) := fun u hu => getB_in (o := 1) (p := p) ((h.below hu).cell.2.2.2.1) (h.below hu).r1 hs (lkE hb)
  have HI : Hid _ := h
  have HW2 : Hid (w2 = _) := hw2
  have HZ2 : Hid _ := hz2
  have HBX : Hid _ := h.bx _ (lk_mem hb) (by simp)
  have hne : (((b.S.length : Nat) : Int) != (c : Int)) = true := by simp; omega
  obtain ⟨N, hN⟩ : ∃ N, N = b.S.length := ⟨_, rfl⟩
  have HN : Hid _ := hN
  rw [← hN] at hne
  clear hN
  clear h hw2 hz2
  go_enter Tryz.func38, Tryz.ntmps38
  go_wp2
  rw [← HW2.out]
  refine wp_region_noPanic ?_
  refine wp_region_held_drew (S := (fun u => Below (w.heap.size + 2) w2 u)) (by kernel_rfl) (by first | exact Below.refl _ _ | exact (Below.refl _ _).drew | exact HB3.out | assumption) (fun hHeld => ?_)
  refine tz (i := 0) 12 rfl rfl hHeld ?_
  simp only [pS]
  refine tz (i := 1) 13 rfl rfl hHeld ?_
  simp only [pS]
  refine tz (i := 2) 14 rfl rfl hHeld ?_
  simp only [pS]
  refine tz (i := 3) 15 rfl rfl hHeld ?_
  simp only [pS]
  refine run_at (i := 4) rfl (by kernel_rfl) (by rfl) (fun K hK => ?_)
  simp only [List.getElem_toArray, List.getElem_cons_zero, List.getElem_cons_succ]
  go_simp
  (go_at_call 63; refine Calls.mono (HGET.out _ (hbx _ (Below.refl _ _).drew).2.2.2.2.2) ?_; rintro e w3 ⟨rfl, hb3⟩; have HB3 : Hid (Below (w.heap.size + 2) w2 w3) := ((Below.refl (w.heap.size + 2) w2).drew).trans (hb3.mono (by have := HZ2.out; show w.heap.size + 2 ≤ w2.heap.size; omega)); clear hb3)
  go_wp2_with fail
  refine hK.out _ _ (by first | exact Below.refl _ _ | exact (Below.refl _ _).drew | exact HB3.out | assumption) ?_
  clear hK K
  intro hHeld2
  clear hHeld
  have hHeld := hHeld2
  clear hHeld2
  try simp only [pS]
  refine tz (i := 5) 11 rfl rfl hHeld ?_
  simp only [pS]
  refine tz (i := 6) 17 rfl rfl hHeld ?_
  simp only [pS]
  refine tz (i := 7) 18 rfl rfl hHeld ?_
  simp only [pS]
  refine tz (i := 8) 8 rfl rfl hHeld ?_
  simp only [pS]
  refine tz (i := 9) 9 rfl rfl hHeld ?_
  simp only [pS]
  refine wpAnyH_done (by kernel_rfl) ?_ _
  refine NoPanic.normal ?_
  go_wp2
  have HCNT : Hid (Calls _ _ _ w3.drew _) := pcount (HBX.out.below (w' := w3.drew) (hbx w3 HB3.out).2.2.2.2.2.drew)
  rw [show cntS (some b.S) = N from HN.out.symm] at HCNT
  refine wp_region_noPanic ?_
  refine wp_region_held_drew (S := (fun u => Below (w.heap.size + 2) w2 u)) (by kernel_rfl) (by first | exact HB3.out.drew | exact HB4.out.drew | assumption) (fun hHeld => ?_)
  refine tz (i := 0) 27 rfl rfl hHeld ?_
  simp only [pS]
  refine tz (i := 2) 29 rfl rfl hHeld ?_
  simp only [pS]
  refine tz (i := 3) 30 rfl rfl hHeld ?_
  simp only [pS]
  refine run_at (i := 1) rfl (by kernel_rfl) (by rfl) (fun K hK => ?_)
  simp only [List.getElem_toArray, List.getElem_cons_zero, List.getElem_cons_succ]
  go_simp
  (go_at_call 65; refine Calls.mono HCNT.out ?_; rintro e u4 ⟨rfl, hq4⟩; have hq4 := hq4.symm; subst hq4)
  go_wp2_with fail
  refine hK.out _ _ (by first | exact HB3.out.drew | exact HB4.out.drew | assumption) ?_
  clear hK K
  intro hHeld2
  clear hHeld
  have hHeld := hHeld2
  clear hHeld2
  try simp only [pS]
  refine tz (i := 4) 31 rfl rfl hHeld ?_
  simp only [pS]
  refine wpAnyH_done (by kernel_rfl) ?_ _
  refine NoPanic.normal ?_
  go_wp2
  go_ret2
  exact ⟨rfl, (hbx w3 HB3.out).2.2.2.2.2.drew⟩
theorem bw_open (h : Ibx none w p m1 m2 T1 T2 I E G) (s : Ss) (hs : inS s) (k e se pa i : Int) (c : Nat) (da : Option Addr) (dn dc : Nat) (cd : Int) (ga : Option Addr) (gn gc : Nat) (b : Bg) (hb : lk E s = some b) (hc : c = b.S.length) (xs : Seg) (hn : dn = xs.length) (hx : Rd w da xs) (hnil : da = none → dc = 0) (hl : dn ≤ 140737488355328) :
    Calls Tryz.prog 38 #[.pointer (some ⟨p, 0, none⟩), sv s, .agg (unC k e se pa i (c : Int) da dn dc cd ga gn gc)] w fun e w' => ∃ F' : Nat → Prop, e = .returned (.tuple #[.pointer (some ⟨b.q, 0, none⟩), .bool (okE (putE (some b.S) i xs))]) ∧ PBx w' (some ⟨b.q, 0, none⟩) (putS (some b.S) i xs) F' ∧ (∀ b', F' b' → b.F b' ∨ w.heap.size ≤ b') ∧ Chg b.F w w' := by
  obtain ⟨w2, hw2⟩ : ∃ w2, w2 = (w.alloc (.cells #[.int .u64 (s.1 : Int), .int .u64 (s.2 : Int)] tSs)).alloc (.cells (unC k e se pa i (c : Int) da dn dc cd ga gn gc) tUn) := ⟨_, rfl⟩
  have hbx := bwBox w s k e se pa i (c : Int) da dn dc cd ga gn gc
  rw [← hw2] at hbx
  have hz2 : w2.heap.size = w.heap.size + 2 := by rw [hw2]; simp
  have hpl : p < w.heap.size := h.lt (.inl rfl)
  have HGET : Hid (∀ u, Below w.heap.size w u → Calls _ _ _ u _) := fun u hu => getB_in (o := 1) (p := p) ((h.below hu).cell.2.2.2.1) (h.below hu).r1 hs (lkE hb)
  have HI : Hid _ := h
  have HW2 : Hid (w2 = _) := hw2
  have HZ2 : Hid _ := hz2
  have HBX : Hid _ := h.bx _ (lk_mem hb) (by simp)
  have hne : ((c : Int) != (c : Int)) = false := by simp
  have HCN : Hid (cntS (some b.S) = c) := hc.symm
  obtain ⟨Er, hEr⟩ : ∃ Er, Er = putE (some b.S) i xs := ⟨_, rfl⟩
  rw [← hEr]
  have HER : Hid _ := hEr
  clear hEr
  have HX : Hid _ := hx
  have HNL : Hid _ := hnil
  have HN : Hid _ := hn
  clear hc hx hnil hn
  clear h hw2 hz2
  go_enter Tryz.func38, Tryz.ntmps38
  go_wp2
  rw [← HW2.out]
  refine wp_region_noPanic ?_
  refine wp_region_held_drew (S := (fun u => Below (w.heap.size + 2) w2 u)) (by kernel_rfl) (by first | exact Below.refl _ _ | exact (Below.refl _ _).drew | exact HB3.out | assumption) (fun hHeld => ?_)
  refine tz (i := 0) 12 rfl rfl hHeld ?_
  simp only [pS]
  refine tz (i := 1) 13 rfl rfl hHeld ?_
  simp only [pS]
  refine tz (i := 2) 14 rfl rfl hHeld ?_
  simp only [pS]
  refine tz (i := 3) 15 rfl rfl hHeld ?_
  simp only [pS]
  refine run_at (i := 4) rfl (by kernel_rfl) (by rfl) (fun K hK => ?_)
  simp only [List.getElem_toArray, List.getElem_cons_zero, List.getElem_cons_succ]
  go_simp
  (go_at_call 63; refine Calls.mono (HGET.out _ (hbx _ (Below.refl _ _).drew).2.2.2.2.2) ?_; rintro e w3 ⟨rfl, hb3⟩; have HB3 : Hid (Below (w.heap.size + 2) w2 w3) := ((Below.refl (w.heap.size + 2) w2).drew).trans (hb3.mono (by have := HZ2.out; show w.heap.size + 2 ≤ w2.heap.size; omega)); clear hb3)
  go_wp2_with fail
  refine hK.out _ _ (by first | exact Below.refl _ _ | exact (Below.refl _ _).drew | exact HB3.out | assumption) ?_
  clear hK K
  intro hHeld2
  clear hHeld
  have hHeld := hHeld2
  clear hHeld2
  try simp only [pS]
  refine tz (i := 5) 11 rfl rfl hHeld ?_
  simp only [pS]
  refine tz (i := 6) 17 rfl rfl hHeld ?_
  simp only [pS]
  refine tz (i := 7) 18 rfl rfl hHeld ?_
  simp only [pS]
  refine tz (i := 8) 8 rfl rfl hHeld ?_
  simp only [pS]
  refine tz (i := 9) 9 rfl rfl hHeld ?_
  simp only [pS]
  refine wpAnyH_done (by kernel_rfl) ?_ _
  refine NoPanic.normal ?_
  go_wp2
  have HCNT : Hid (Calls _ _ _ w3.drew _) := pcount (HBX.out.below (w' := w3.drew) (hbx w3 HB3.out).2.2.2.2.2.drew)
  rw [HCN.out] at HCNT
  refine wp_region_noPanic ?_
  refine wp_region_held_drew (S := (fun u => Below (w.heap.size + 2) w2 u)) (by kernel_rfl) (by first | exact HB3.out.drew | exact HB4.out.drew | assumption) (fun hHeld => ?_)
  refine tz (i := 0) 27 rfl rfl hHeld ?_
  simp only [pS]
  refine tz (i := 2) 29 rfl rfl hHeld ?_
  simp only [pS]
  refine tz (i := 3) 30 rfl rfl hHeld ?_
  simp only [pS]
  refine run_at (i := 1) rfl (by kernel_rfl) (by rfl) (fun K hK => ?_)
  simp only [List.getElem_toArray, List.getElem_cons_zero, List.getElem_cons_succ]
  go_simp
  (go_at_call 65; refine Calls.mono HCNT.out ?_; rintro e u4 ⟨rfl, hq4⟩; have hq4 := hq4.symm; subst hq4)
  go_wp2_with fail
  refine hK.out _ _ (by first | exact HB3.out.drew | exact HB4.out.drew | assumption) ?_
  clear hK K
  intro hHeld2
  clear hHeld
  have hHeld := hHeld2
  clear hHeld2
  try simp only [pS]
  refine tz (i := 4) 31 rfl rfl hHeld ?_
  simp only [pS]
  refine wpAnyH_done (by kernel_rfl) ?_ _
  refine NoPanic.normal ?_
  have hb4 : Below w.heap.size w w3.drew := (hbx w3 HB3.out).2.2.2.2.2.drew
  have HPUT : Hid (Calls _ _ _ w3.drew _) := pput (HBX.out.below (w' := w3.drew) hb4) i da dn dc xs HN.out (Rd.below HX.out hb4) HNL.out hl
  have HB4 : Hid _ := hb4
  clear hb4
  rw [← HER.out] at HPUT
  go_wp2_with fail
  refine Calls.mono HPUT.out ?_
  rintro e w5 ⟨rfl, hL⟩
  obtain ⟨⟨F', hF1, hF2⟩, hch⟩ := hL
  have HPF : Hid (PBx w5 (some ⟨b.q, 0, none⟩) (putS (some b.S) i xs) F' ∧ (∀ b', F' b' → b.F b' ∨ w.heap.size ≤ b') ∧ Chg b.F w w5) := ⟨hF1, fun b' h9 => (hF2 b' h9).imp id (fun h8 => Nat.le_trans HB4.out.size h8), (Chg.of_below HB4.out).trans hch (fun b' h9 => .inl h9)⟩
  clear hF1 hF2 hch
  by_cases e0 : Er = 0
  · have q0 : (Er == 0) = true := by simp [e0]
    have HOK : Hid (okE Er = true) := by unfold Hid okE; simp [e0]
    go_wp2
    go_ret2
    exact ⟨F', by rw [HOK.out]; rfl, HPF.out⟩
  · have q0 : (Er == 0) = false := by simp [e0]
    by_cases e3 : Er = 3
    · have q3 : (Er == 3) = true := by simp [e3]
      have HOK : Hid (okE Er = true) := by unfold Hid okE; simp [e3]
      go_wp2
      go_ret2
      exact ⟨F', by rw [HOK.out]; rfl, HPF.out⟩
    · have q3 : (Er == 3) = false := by simp [e3]
      have HOK : Hid (okE Er = false) := by unfold Hid okE; simp [e0, e3]
      go_wp2
      go_ret2
      exact ⟨F', by rw [HOK.out]; rfl, HPF.out⟩
theorem bw_new (h : Ibx none w p m1 m2 T1 T2 I E G) (s : Ss) (hs : inS s) (k e se pa i : Int) (c : Nat) (da : Option Addr) (dn dc : Nat) (cd : Int) (ga : Option Addr) (gn gc : Nat) (hb : lk E s = none) (h1 : 1 ≤ c) (h64 : c ≤ 64) (xs : Seg) (hn : dn = xs.length) (hx : Rd w da xs) (hnil : da = none → dc = 0) (hl : dn ≤ 140737488355328) :
    Calls Tryz.prog 38 #[.pointer (some ⟨p, 0, none⟩), sv s, .agg (unC k e se pa i (c : Int) da dn dc cd ga gn gc)] w fun e w' => ∃ (q : Nat) (F' : Nat → Prop), e = .returned (.tuple #[.pointer (some ⟨q, 0, none⟩), .bool (okE (putE (some (List.replicate c [])) i xs))]) ∧ PBx w' (some ⟨q, 0, none⟩) (putS (some (List.replicate c [])) i xs) F' ∧ (∀ b', F' b' → w.heap.size ≤ b') ∧ Below w.heap.size w w' := by
  obtain ⟨w2, hw2⟩ : ∃ w2, w2 = (w.alloc (.cells #[.int .u64 (s.1 : Int), .int .u64 (s.2 : Int)] tSs)).alloc (.cells (unC k e se pa i (c : Int) da dn dc cd ga gn gc) tUn) := ⟨_, rfl⟩
  have hbx := bwBox w s k e se pa i (c : Int) da dn dc cd ga gn gc
  rw [← hw2] at hbx
  have hz2 : w2.heap.size = w.heap.size + 2 := by rw [hw2]; simp
  have hpl : p < w.heap.size := h.lt (.inl rfl)
  have HGET : Hid (∀ u, Below w.heap.size w u → Calls _ _ _ u _) := fun u hu => getB_no (o := 1) (p := p) ((h.below hu).cell.2.2.2.1) (h.below hu).r1 hs (lkEn hb)
  have HI : Hid _ := h
  have HW2 : Hid (w2 = _) := hw2
  have HZ2 : Hid _ := hz2
  have hne : ((c : Int) != (c : Int)) = false := by simp
  have HCN : Hid (cntS (some (List.replicate c ([] : Seg))) = c) := List.length_replicate
  obtain ⟨Er, hEr⟩ : ∃ Er, Er = putE (some (List.replicate c [])) i xs := ⟨_, rfl⟩
  rw [← hEr]
  have HER : Hid _ := hEr
  clear hEr
  have HX : Hid _ := hx
  have HNL : Hid _ := hnil
  have HN : Hid _ := hn
  clear hx hnil hn
  clear h hw2 hz2
  go_enter Tryz.func38, Tryz.ntmps38
  go_wp2
  rw [← HW2.out]
  refine wp_region_noPanic ?_
  refine wp_region_held_drew (S := (fun u => Below (w.heap.size + 2) w2 u)) (by kernel_rfl) (by first | exact Below.refl _ _ | exact (Below.refl _ _).drew | exact HB3.out | assumption) (fun hHeld => ?_)
  refine tz (i := 0) 12 rfl rfl hHeld ?_
  simp only [pS]
  refine tz (i := 1) 13 rfl rfl hHeld ?_
  simp only [pS]
  refine tz (i := 2) 14 rfl rfl hHeld ?_
  simp only [pS]
  refine tz (i := 3) 15 rfl rfl hHeld ?_
  simp only [pS]
  refine run_at (i := 4) rfl (by kernel_rfl) (by rfl) (fun K hK => ?_)
  simp only [List.getElem_toArray, List.getElem_cons_zero, List.getElem_cons_succ]
  go_simp
  (go_at_call 63; refine Calls.mono (HGET.out _ (hbx _ (Below.refl _ _).drew).2.2.2.2.2) ?_; rintro e w3 ⟨rfl, hb3⟩; have HB3 : Hid (Below (w.heap.size + 2) w2 w3) := ((Below.refl (w.heap.size + 2) w2).drew).trans (hb3.mono (by have := HZ2.out; show w.heap.size + 2 ≤ w2.heap.size; omega)); clear hb3)
  go_wp2_with fail
  refine hK.out _ _ (by first | exact Below.refl _ _ | exact (Below.refl _ _).drew | exact HB3.out | assumption) ?_
  clear hK K
  intro hHeld2
  clear hHeld
  have hHeld := hHeld2
  clear hHeld2
  try simp only [pS]
  refine tz (i := 5) 11 rfl rfl hHeld ?_
  simp only [pS]
  refine tz (i := 6) 17 rfl rfl hHeld ?_
  simp only [pS]
  refine tz (i := 7) 18 rfl rfl hHeld ?_
  simp only [pS]
  refine tz (i := 8) 8 rfl rfl hHeld ?_
  simp only [pS]
  refine tz (i := 9) 9 rfl rfl hHeld ?_
  simp only [pS]
  refine wpAnyH_done (by kernel_rfl) ?_ _
  refine NoPanic.normal ?_
  have hbb := hbx w3 HB3.out
  have HNW : Hid (Calls _ _ _ w3 _) := pnew (c : Int) w3
  rw [show newSt (c : Int) = some (List.replicate c []) from by unfold newSt; rw [if_pos (by omega)]; rfl, show newEr (c : Int) = 0 from if_pos (by omega)] at HNW
  obtain ⟨g0, g1, g2, g3, g4, g5⟩ := hbb
  go_wp2_with fail
  refine Calls.mono HNW.out ?_
  rintro e w4 ⟨pv, F0, rfl, hpn, hPB, hF0, hb4⟩
  obtain ⟨q, rfl⟩ : ∃ q, pv = some ⟨q, 0, none⟩ := by
    rcases hPB.ex with ⟨h9, -⟩ | ⟨S9, p9, V9, h9, h8, -⟩
    · cases h9
    · exact ⟨p9, h8⟩
  have HB4 : Hid (Below (w.heap.size + 2) w2 w4) := HB3.out.trans (hb4.mono (by have := HB3.out.size; have := HZ2.out; show w.heap.size + 2 ≤ w3.heap.size; omega))
  have HF0 : Hid (∀ b', F0 b' → w.heap.size ≤ b') := fun b' h9 => Nat.le_trans g5.size (hF0 b' h9)
  have HPB : Hid _ := hPB
  have HCNT : Hid (Calls _ _ _ w4.drew _) := pcount (hPB.below (w' := w4.drew) ((Below.refl _ _).drew))
  rw [HCN.out] at HCNT
  clear hpn hPB hF0 hb4 g0 g1 g2 g3 g4 g5
  go_wp2
  refine wp_region_noPanic ?_
  refine wp_region_held_drew (S := (fun u => Below (w.heap.size + 2) w2 u)) (by kernel_rfl) (by first | exact HB3.out.drew | exact HB4.out.drew | assumption) (fun hHeld => ?_)
  refine tz (i := 0) 27 rfl rfl hHeld ?_
  simp only [pS]
  refine tz (i := 2) 29 rfl rfl hHeld ?_
  simp only [pS]
  refine tz (i := 3) 30 rfl rfl hHeld ?_
  simp only [pS]
  refine run_at (i := 1) rfl (by kernel_rfl) (by rfl) (fun K hK => ?_)
  simp only [List.getElem_toArray, List.getElem_cons_zero, List.getElem_cons_succ]
  go_simp
  (go_at_call 65; refine Calls.mono HCNT.out ?_; rintro e u4 ⟨rfl, hq4⟩; have hq4 := hq4.symm; subst hq4)
  go_wp2_with fail
  refine hK.out _ _ (by first | exact HB3.out.drew | exact HB4.out.drew | assumption) ?_
  clear hK K
  intro hHeld2
  clear hHeld
  have hHeld := hHeld2
  clear hHeld2
  try simp only [pS]
  refine tz (i := 4) 31 rfl rfl hHeld ?_
  simp only [pS]
  refine wpAnyH_done (by kernel_rfl) ?_ _
  refine NoPanic.normal ?_
  have hb4 : Below w.heap.size w w4.drew := (hbx w4 HB4.out).2.2.2.2.2.drew
  have HPUT : Hid (Calls _ _ _ w4.drew _) := pput (HPB.out.below (w' := w4.drew) ((Below.refl _ _).drew)) i da dn dc xs HN.out (Rd.below HX.out hb4) HNL.out hl
  have HB5 : Hid _ := hb4
  clear hb4
  rw [← HER.out] at HPUT
  go_wp2_with fail
  refine Calls.mono HPUT.out ?_
  rintro e w5 ⟨rfl, hL⟩
  obtain ⟨⟨F', hF1, hF2⟩, hch⟩ := hL
  have HPF : Hid (PBx w5 (some ⟨q, 0, none⟩) (putS (some (List.replicate c [])) i xs) F' ∧ (∀ b', F' b' → w.heap.size ≤ b') ∧ Below w.heap.size w w5) := ⟨hF1, fun b' h9 => (hF2 b' h9).elim (HF0.out b') (fun h8 => Nat.le_trans HB5.out.size h8), HB5.out.trans (hch.below (fun b' h9 => HF0.out b' h9) HB5.out.size)⟩
  clear hF1 hF2 hch
  by_cases e0 : Er = 0
  · have q0 : (Er == 0) = true := by simp [e0]
    have HOK : Hid (okE Er = true) := by unfold Hid okE; simp [e0]
    go_wp2
    go_ret2
    exact ⟨q, F', by rw [HOK.out]; rfl, HPF.out⟩
  · have q0 : (Er == 0) = false := by simp [e0]
    by_cases e3 : Er = 3
    · have q3 : (Er == 3) = true := by simp [e3]
      have HOK : Hid (okE Er = true) := by unfold Hid okE; simp [e3]
      go_wp2
      go_ret2
      exact ⟨q, F', by rw [HOK.out]; rfl, HPF.out⟩
    · have q3 : (Er == 3) = false := by simp [e3]
      have HOK : Hid (okE Er = false) := by unfold Hid okE; simp [e0, e3]
      go_wp2
      go_ret2
      exact ⟨q, F', by rw [HOK.out]; rfl, HPF.out⟩
end
end Go.Proofs.YtdoikcolkbjnfaaGreat
namespace Go.Proofs.YtdoikcolkbjnfaaGreat
set_option linter.unusedVariables false
set_option linter.unusedSimpArgs false
open Go.RowKit Go.Maps
/-- what Put leaves -/
def putL (S : List Seg) (i : Int) (xs : Seg) : List Seg := if i < 0 ∨ (S.length : Int) ≤ i ∨ xs.length = 0 ∨ 1024 < xs.length then S else if (S[i.toNat]?.getD []).length = 0 then (if fitS (S.set i.toNat xs) = true then S.set i.toNat xs else S) else S
theorem putS_L (S : List Seg) (i : Int) (xs : Seg) : putS (some S) i xs = some (putL S i xs) := rfl
theorem putL_no {S : List Seg} {i : Int} {xs : Seg} (h : okE (putE (some S) i xs) = false) : putL S i xs = S := by
  unfold putL
  unfold putE at h
  by_cases h1 : i < 0 ∨ (S.length : Int) ≤ i ∨ xs.length = 0 ∨ 1024 < xs.length
  · rw [if_pos h1]
  · rw [if_neg h1]
    simp only at h
    rw [if_neg h1] at h
    by_cases h2 : (S[i.toNat]?.getD []).length = 0
    · rw [if_pos h2] at h ⊢
      by_cases h3 : fitS (S.set i.toNat xs) = true
      · rw [if_pos h3] at h
        simp [okE] at h
      · rw [if_neg h3]
    · rw [if_neg h2]
section
variable {α : Type}
theorem mem_pt {m : Nat} {L : List (Ss × α)} {s : Ss} {a : α} {x : Ss × α} (h : x ∈ pt m L s a) : (x ∈ pf m L s) ∨ x = (s, a) := by
  rw [pt_eq, List.mem_append, List.mem_singleton] at h
  exact h
theorem ks_pt {m : Nat} {L : List (Ss × α)} {s : Ss} {a : α} {t : Ss} (h : t ∈ ks (pt m L s a)) : t ∈ ks L ∨ t = s := by
  obtain ⟨x, hx, rfl⟩ := List.mem_map.1 h
  rcases mem_pt hx with h1 | rfl
  · exact .inl (mem_ks (pf_mem h1))
  · exact .inr rfl
end
theorem riseI_ep {I : Ib} {e : Nat} (h : I.ep ≤ e) : (riseI I e).ep = e := by
  unfold riseI
  split
  · rfl
  · omega
/-- a decided session is touched, or decided -/
theorem IbOk.dec {I : Ib} (h : IbOk I) {s : Ss} (hs : s.1 = I.ep) (c : Int) (ho : s ∉ ks I.O) : IbOk { I with H := pt I.ms I.H s c } :=
  ⟨h.o0, h.o1, h.s0, h.s1, h.lo, pt_len h.nh s c h.s0 h.ls, h.no, pt_nd h.nh s c, h.eo, fun t ht => (ks_pt ht).elim (h.eh t) (fun e => e ▸ hs), fun t ht ht2 => (ks_pt ht2).elim (h.ap t ht) (fun e => ho (e ▸ ht)), h.e6⟩
theorem IbOk.opn {I : Ib} (h : IbOk I) {s : Ss} (hs : s.1 = I.ep) (S : List Seg) (hh : s ∉ ks I.H) : IbOk { I with O := pt I.mo I.O s S } :=
  ⟨h.o0, h.o1, h.s0, h.s1, pt_len h.no s S h.o0 h.lo, h.ls, pt_nd h.no s S, h.nh, fun t ht => (ks_pt ht).elim (h.eo t) (fun e => e ▸ hs), h.eh, fun t ht => (ks_pt ht).elim (h.ap t) (fun e => e ▸ hh), h.e6⟩
theorem IbOk.rm {I : Ib} (h : IbOk I) (s : Ss) : IbOk { I with O := rm I.O s } :=
  ⟨h.o0, h.o1, h.s0, h.s1, Nat.le_trans (List.length_filter_le _ _) h.lo, h.ls, rm_nd h.no s, h.nh, fun t ht => h.eo t (mem_ks_rm.1 ht).1, h.eh, fun t ht => h.ap t (mem_ks_rm.1 ht).1, h.e6⟩
/-- another box for a session -/
def upE (E : List (Ss × Bg)) (s : Ss) (b : Bg) : List (Ss × Bg) := E.map (fun x => if x.1 = s then (s, b) else x)
theorem upE_qt (E : List (Ss × Bg)) (s : Ss) (b : Bg) (hb : ∀ x, x ∈ E → x.1 = s → x.2.qt = b.qt) : mp Bg.qt (upE E s b) = mp Bg.qt E := by
  unfold upE mp
  rw [List.map_map]
  apply List.map_congr_left
  intro x hx
  simp only [Function.comp]
  by_cases h : x.1 = s
  · rw [if_pos h, ← h, hb x hx h]
  · rw [if_neg h]
theorem upE_S (E : List (Ss × Bg)) (s : Ss) (b : Bg) (hb : ∀ x, x ∈ E → x.1 = s → x.2.S = b.S) : mp Bg.S (upE E s b) = mp Bg.S E := by
  unfold upE mp
  rw [List.map_map]
  apply List.map_congr_left
  intro x hx
  simp only [Function.comp]
  by_cases h : x.1 = s
  · rw [if_pos h, ← h, hb x hx h]
  · rw [if_neg h]
theorem mem_upE {E : List (Ss × Bg)} {s : Ss} {b : Bg} {x : Ss × Bg} (h : x ∈ upE E s b) : (x ∈ E ∧ x.1 ≠ s) ∨ x = (s, b) := by
  obtain ⟨y, hy, rfl⟩ := List.mem_map.1 h
  by_cases e : y.1 = s
  · rw [if_pos e]; exact .inr rfl
  · rw [if_neg e]; exact .inl ⟨hy, e⟩
section
variable {w w' : World} {p m1 m2 T1 T2 : Nat} {I : Ib} {E : List (Ss × Bg)} {G : List (Ss × (Int × Nat))} {s : Ss}
/-- a box that went with its session is put back -/
theorem Ibx.back (h : Ibx (some s) w p m1 m2 T1 T2 I E G) {b : Bg} (hb : lk E s = some b) {F : Nat → Prop} (hB : PBx w (some ⟨b.q, 0, none⟩) (some b.S) F) (hF : ∀ x, x ∈ E → x.1 ≠ s → ∀ c, x.2.F c → F c → False) (hn : ∀ c, F c → c ≠ p ∧ c ≠ m1 ∧ c ≠ m2) :
    Ibx none w p m1 m2 T1 T2 I (upE E s ⟨b.q, b.t, b.S, F⟩) G := by
  have hnd : (ks E).Nodup := by rw [h.ksO]; exact h.ok.no
  have hx1 : ∀ x, x ∈ E → x.1 = s → x.2 = b := fun x hx e => by
    have h1 := lk_of hnd hx
    rw [e, hb] at h1
    exact (Option.some.inj h1).symm
  have e1 : mp Bg.qt (upE E s ⟨b.q, b.t, b.S, F⟩) = mp Bg.qt E := upE_qt _ _ _ (fun x hx e => by rw [hx1 x hx e])
  have e2 : mp Bg.S (upE E s ⟨b.q, b.t, b.S, F⟩) = mp Bg.S E := upE_S _ _ _ (fun x hx e => by rw [hx1 x hx e])
  have hne : ∀ x : Ss × Bg, x.1 ≠ s → (some s : Option Ss) ≠ some x.1 := fun x hx e => hx (Option.some.inj e).symm
  refine ⟨h.hp, by rw [e1]; exact h.r1, h.r2, fun x hx _ => ?_, ?_, fun x hx _ c hc => ?_, h.nm, by rw [e2]; exact h.eO, h.eH, h.ok⟩
  · rcases mem_upE hx with ⟨h1, h2⟩ | rfl
    · exact h.bx x h1 (hne x h2)
    · exact hB
  · unfold upE
    rw [List.pairwise_map]
    have hk : E.Pairwise (fun x y => x.1 ≠ y.1) := by
      have h9 := List.nodup_iff_pairwise_ne.1 hnd
      unfold ks at h9
      rw [List.pairwise_map] at h9
      exact h9
    refine (h.ap.and hk).imp_of_mem (fun {x y} hx hy hxy _ _ c h1 h2 => ?_)
    obtain ⟨h3, h4⟩ := hxy
    by_cases ex : x.1 = s
    · have ey : y.1 ≠ s := fun e => h4 (ex.trans e.symm)
      rw [if_pos ex] at h1
      rw [if_neg ey] at h2
      exact hF y hy ey c h2 h1
    · rw [if_neg ex] at h1
      by_cases ey : y.1 = s
      · rw [if_pos ey] at h2
        exact hF x hx ex c h1 h2
      · rw [if_neg ey] at h2
        exact h3 (hne x ex) (hne y ey) c h1 h2
  · rcases mem_upE hx with ⟨h1, h2⟩ | rfl
    · exact h.nf x h1 (hne x h2) c hc
    · exact hn c hc
/-- a session is open, with that box, and touched -/
theorem Ibx.opn (h : Ibx (some s) w p m1 m2 T1 T2 I E G) (hs : s.1 = I.ep) (hh : s ∉ ks I.H) {q : Nat} {S : List Seg} {F : Nat → Prop} (hB : PBx w (some ⟨q, 0, none⟩) (some S) F) (hF : ∀ x, x ∈ E → x.1 ≠ s → ∀ c, x.2.F c → F c → False) (hn : ∀ c, F c → c ≠ p ∧ c ≠ m1 ∧ c ≠ m2)
    (hr : RowM w' m1 (T1 + 1) (mp fB (pt I.mo (mp Bg.qt E) s (q, T1 + 1)))) (hp : w'.heap[p]? = some (.cells ((ibC I T1 T2 m1 m2).setIfInBounds 2 (.int .u64 ((T1 + 1 : Nat) : Int))) tIb (0, 0))) (hc : Chg (fun b => b = p ∨ b = m1) w w') :
    Ibx none w' p m1 m2 (T1 + 1) T2 { I with O := pt I.mo I.O s S } (pt I.mo E s ⟨q, T1 + 1, S, F⟩) G := by
  have hne : ∀ x : Ss × Bg, x.1 ≠ s → (some s : Option Ss) ≠ some x.1 := fun x hx e => hx (Option.some.inj e).symm
  have hpf : ∀ x, x ∈ pf I.mo E s → x ∈ E ∧ x.1 ≠ s := fun x hx => ⟨pf_mem hx, fun e => pf_not (m := I.mo) (L := E) (s := s) (by have := mem_ks hx; rw [e] at this; exact this)⟩
  have hkp : ∀ (q : Option Addr) (S : List Seg) (F : Nat → Prop), PBx w q (some S) F → (∀ c, F c → c ≠ p ∧ c ≠ m1 ∧ c ≠ m2) → PBx w' q (some S) F := fun q S F hb hn => hb.kept hc.size (fun c h1 => hc.block c (hb.lt c h1) (fun h2 => by have := hn c h1; rcases h2 with h2 | h2 <;> omega))
  refine ⟨hp, by rw [pt_mp]; exact hr, h.r2.kept (hc.block m2 h.r2.lt (fun h2 => by have := h.pm; have := h.nm; rcases h2 with h2 | h2 <;> omega)), fun x hx _ => ?_, ?_, fun x hx _ c h1 => ?_, h.nm, by rw [pt_mp, h.eO], h.eH, h.ok.opn hs S hh⟩
  · rcases mem_pt hx with h1 | rfl
    · obtain ⟨h2, h3⟩ := hpf x h1
      exact hkp _ _ _ (h.bx x h2 (hne x h3)) (h.nf x h2 (hne x h3))
    · exact hkp _ _ _ hB hn
  · rw [pt_eq]
    refine List.pairwise_append.2 ⟨(h.ap.sublist pf_sub).imp_of_mem (fun {x y} hx hy h1 _ _ => h1 (hne x (hpf x hx).2) (hne y (hpf y hy).2)), by simp, fun x hx y hy _ _ c h1 h2 => ?_⟩
    rw [List.mem_singleton] at hy
    subst hy
    exact hF x (hpf x hx).1 (hpf x hx).2 c h1 h2
  · rcases mem_pt hx with h2 | rfl
    · obtain ⟨h3, h4⟩ := hpf x h2
      exact h.nf x h3 (hne x h4) c h1
    · exact hn c h1
/-- a session is decided, with that code, and touched -/
theorem Ibx.dec (h : Ibx none w p m1 m2 T1 T2 I E G) (hs : s.1 = I.ep) (ho : s ∉ ks I.O) (c : Int)
    (hr : RowM w' m2 (T2 + 1) (mp fI (pt I.ms G s (c, T2 + 1)))) (hp : w'.heap[p]? = some (.cells ((ibC I T1 T2 m1 m2).setIfInBounds 5 (.int .u64 ((T2 + 1 : Nat) : Int))) tIb (0, 0))) (hc : Chg (fun b => b = p ∨ b = m2) w w') :
    Ibx none w' p m1 m2 T1 (T2 + 1) { I with H := pt I.ms I.H s c } E (pt I.ms G s (c, T2 + 1)) := by
  refine ⟨hp, h.r1.kept (hc.block m1 h.r1.lt (fun h2 => by have := h.pm; have := h.nm; rcases h2 with h2 | h2 <;> omega)), hr, fun x hx ho => ?_, h.ap, h.nf, h.nm, h.eO, by rw [pt_mp, h.eH], h.ok.dec hs c ho⟩
  exact (h.bx x hx ho).kept hc.size (fun d h1 => hc.block d ((h.bx x hx ho).lt d h1) (fun h2 => by have := h.nf x hx ho d h1; rcases h2 with h2 | h2 <;> omega))
/-- a session is open no more -/
theorem Ibx.rm (h : Ibx none w p m1 m2 T1 T2 I E G) (s : Ss) (hr : RowM w' m1 T1 (mp fB (rm (mp Bg.qt E) s))) (hc : Chg (fun b => b = m1) w w') : Ibx none w' p m1 m2 T1 T2 { I with O := Go.Proofs.YtdoikcolkbjnfaaGreat.rm I.O s } (Go.Proofs.YtdoikcolkbjnfaaGreat.rm E s) G := by
  have hkp := fun b hf (hn : b ≠ m1) => hc.block b (h.lt hf) hn
  refine ⟨(hkp p (.inl rfl) h.pm.1).trans h.hp, by rw [rm_mp]; exact hr, h.r2.kept (hkp m2 (.inr (.inr (.inl rfl))) (fun e => h.nm e.symm)), fun x hx ho => ?_, h.ap.sublist List.filter_sublist, fun x hx => h.nf x (mem_rm.1 hx).1, h.nm, by rw [rm_mp, h.eO], h.eH, h.ok.rm s⟩
  have hxE := (mem_rm.1 hx).1
  exact (h.bx x hxE ho).kept hc.size (fun d h1 => hkp d (.inr (.inr (.inr ⟨x, hxE, ho, h1⟩))) (h.nf x hxE ho d h1).2.1)
end
end Go.Proofs.YtdoikcolkbjnfaaGreat
namespace Go.Proofs.YtdoikcolkbjnfaaGreat
set_option linter.unusedVariables false
set_option linter.unusedSimpArgs false
open Go.RowKit Go.Maps
/-- is it a unit of data? -/
def dataP (k e se pa i c : Int) (dn : Nat) (cd : Int) (gn : Nat) : Prop := k = 1 ∧ nameOk e ∧ nameOk se ∧ ((pa = 1 ∨ pa = 2) ∧ (0 ≤ i ∧ i < 64) ∧ (i < c ∧ c ≤ 64) ∧ (1 ≤ dn ∧ dn ≤ 1024) ∧ (cd = 0 ∧ gn = 0))
/-- what a Take leaves and answers -/
def TkPost (w : World) (p m1 m2 T1 T2 : Nat) (E : List (Ss × Bg)) (I' : Ib) (a : Ans) (e : Ending) (w' : World) : Prop :=
  ∃ T1' T2' E' G' B ga ba gn gc bn bc rs xs, e = .returned (ansV a ga ba gn gc bn bc) ∧ AnsAt w' B a ga ba gn gc bn bc rs xs ∧ Ibx none w' p m1 m2 T1' T2' I' E' G' ∧ T1' ≤ T1 + 1 ∧ T2' ≤ T2 + 1 ∧ Chg (footI none p m1 m2 E) w w' ∧ (∀ b, footI none p m1 m2 E' b → (footI none p m1 m2 E b ∨ w.heap.size ≤ b) ∧ b < B) ∧ w.heap.size ≤ B
section
variable {w w' : World} {p m1 m2 T1 T2 : Nat} {I : Ib} {E : List (Ss × Bg)} {G : List (Ss × (Int × Nat))}
theorem TkPost.same (h : Ibx none w p m1 m2 T1 T2 I E G) (hb : Below w.heap.size w w') (s c : Int) (e : Ending) (he : e = .returned (ansV ⟨s, c, none⟩ none none 0 0 0 0)) : TkPost w p m1 m2 T1 T2 E I ⟨s, c, none⟩ e w' :=
  ⟨T1, T2, E, G, w'.heap.size, none, none, 0, 0, 0, 0, [], [], he, AnsAt.plain _ _ _ _, h.below hb, Nat.le_succ _, Nat.le_succ _, Chg.of_below hb, fun b hf => ⟨.inl hf, (h.below hb).lt hf⟩, hb.size⟩
theorem ihear_t (h : Ibx none w p m1 m2 T1 T2 I E G) (e : Nat) (h6 : e < 18446744073709551616) : Calls Tryz.prog 35 #[.pointer (some ⟨p, 0, none⟩), .int .u64 (e : Int)] w fun r w' => r = .returned (.tuple #[]) ∧ ∃ E' G', Ibx none w' p m1 m2 T1 T2 (riseI I e) E' G' ∧ (∀ b, footI none p m1 m2 E' b → footI none p m1 m2 E b) ∧ Chg (fun b => b = p ∨ b = m1 ∨ b = m2) w w' := by
  unfold riseI
  by_cases he : I.ep < e
  · rw [if_pos he]
    refine Calls.mono (ihear_up h e he h6) ?_
    rintro r w' ⟨rfl, h1, h2⟩
    refine ⟨rfl, [], [], h1, fun b hb => ?_, h2⟩
    rcases hb with hb | hb | hb | ⟨x, hx, -⟩
    · exact .inl hb
    · exact .inr (.inl hb)
    · exact .inr (.inr (.inl hb))
    · cases hx
  · rw [if_neg he]
    refine Calls.mono (ihear_no h e (by omega)) ?_
    rintro r w' ⟨rfl, rfl⟩
    exact ⟨rfl, E, G, h, fun b hb => hb, Chg.refl _ _⟩
/-- the boxes of Take's own -/
theorem tkBox (w : World) (k e se pa i c : Int) (da : Option Addr) (dn dc : Nat) (cd : Int) (ga : Option Addr) (gn gc : Nat) : ∀ u, Below (w.heap.size + 2) ((w.alloc (.cells (unC k e se pa i c da dn dc cd ga gn gc) tUn)).alloc (.cells #[.int .i64 0, .int .i64 0, .slice none 0 0, .slice none 0 0] 44)) u →
    u.heap[w.heap.size]? = some (.cells (unC k e se pa i c da dn dc cd ga gn gc) tUn (0, 0)) ∧ u.heap[w.heap.size + 1]? = some (.cells #[.int .i64 0, .int .i64 0, .slice none 0 0, .slice none 0 0] 44 (0, 0)) ∧ Below w.heap.size w u := fun u hu => by
  have h9 : u.heap[w.heap.size]? = some (.cells (unC k e se pa i c da dn dc cd ga gn gc) tUn (0, 0)) := (hu.block w.heap.size (by omega)).trans ((Below.heap_alloc _ _ _ (by simp)).trans (heap_alloc_new w _))
  have h8 : u.heap[w.heap.size + 1]? = some (.cells #[.int .i64 0, .int .i64 0, .slice none 0 0, .slice none 0 0] 44 (0, 0)) := by
    refine (hu.block (w.heap.size + 1) (by omega)).trans ?_
    have h7 := heap_alloc_new (w.alloc (.cells (unC k e se pa i c da dn dc cd ga gn gc) tUn)) (.cells #[.int .i64 0, .int .i64 0, .slice none 0 0, .slice none 0 0] 44)
    rw [World.size_alloc] at h7
    exact h7
  exact ⟨h9, h8, (al (al (Below.refl w.heap.size w) _) _).trans (hu.mono (by omega))⟩
theorem unCell {u : World} {P : Nat} {k e se pa i c : Int} {da : Option Addr} {dn dc : Nat} {cd : Int} {ga : Option Addr} {gn gc : Nat} (h : u.heap[P]? = some (.cells (unC k e se pa i c da dn dc cd ga gn gc) tUn (0, 0))) : u.cell? ⟨P, 0, none⟩ = some (.int .i64 k) ∧ u.cell? ⟨P, 1, none⟩ = some (.int .u64 e) ∧ u.cell? ⟨P, 2, none⟩ = some (.int .u64 se) ∧ u.cell? ⟨P, 3, none⟩ = some (.int .i64 pa) ∧ u.cell? ⟨P, 4, none⟩ = some (.int .i64 i) ∧ u.cell? ⟨P, 5, none⟩ = some (.int .i64 c) ∧ u.cell? ⟨P, 6, none⟩ = some (.slice da dn dc) ∧ u.cell? ⟨P, 7, none⟩ = some (.int .i64 cd) ∧ u.cell? ⟨P, 8, none⟩ = some (.slice ga gn gc) :=
  ⟨by rw [cell_of_row _ _ _ _ _ _ h]; rfl, by rw [cell_of_row _ _ _ _ _ _ h]; rfl, by rw [cell_of_row _ _ _ _ _ _ h]; rfl, by rw [cell_of_row _ _ _ _ _ _ h]; rfl, by rw [cell_of_row _ _ _ _ _ _ h]; rfl, by rw [cell_of_row _ _ _ _ _ _ h]; rfl, by rw [cell_of_row _ _ _ _ _ _ h]; rfl, by rw [cell_of_row _ _ _ _ _ _ h]; rfl, by rw [cell_of_row _ _ _ _ _ _ h]; rfl⟩
theorem ansCell {u : World} {P : Nat} {a b c d : Value} (h : u.heap[P]? = some (.cells #[a, b, c, d] 44 (0, 0))) : u.cell? ⟨P, 0, none⟩ = some a ∧ u.cell? ⟨P, 1, none⟩ = some b ∧ u.cell? ⟨P, 2, none⟩ = some c ∧ u.cell? ⟨P, 3, none⟩ = some d ∧ u.frozen? ⟨P, 0, none⟩ = false ∧ u.frozen? ⟨P, 1, none⟩ = false ∧ u.frozen? ⟨P, 2, none⟩ = false ∧ u.frozen? ⟨P, 3, none⟩ = false :=
  ⟨by rw [cell_of_row _ _ _ _ _ _ h]; rfl, by rw [cell_of_row _ _ _ _ _ _ h]; rfl, by rw [cell_of_row _ _ _ _ _ _ h]; rfl, by rw [cell_of_row _ _ _ _ _ _ h]; rfl, by simp [World.frozen?, h], by simp [World.frozen?, h], by simp [World.frozen?, h], by simp [World.frozen?, h]⟩
set_option maxRecDepth 20000
set_option maxHeartbeats 1600000
/-- Valid of a unit of the first kind -/
theorem valid_1 (e se pa i c : Int) (da : Option Addr) (dn dc : Nat) (cd : Int) (ga : Option Addr) (gn gc : Nat) (w : World) (h : ¬ dataP 1 e se pa i c dn cd gn) : Calls Tryz.prog 34 #[.agg (unC 1 e se pa i c da dn dc cd ga gn gc)] w fun e w' => e = .returned (.int .i64 30) ∧ Below w.heap.size w w' := by
  by_cases h1 : nameOk e
  · by_cases h2 : nameOk se
    · exact valid_1b e se pa i c da dn dc cd ga gn gc [] w h1 h2 (fun h3 => h ⟨rfl, h1, h2, h3⟩)
    · exact valid_1s e se pa i c da dn dc cd ga gn gc [] w h1 h2
  · exact valid_1e e se pa i c da dn dc cd ga gn gc [] w h1
theorem take_kind (h : Ibx none w p m1 m2 T1 T2 I E G) (k e se pa i c : Int) (da : Option Addr) (dn dc : Nat) (cd : Int) (ga : Option Addr) (gn gc : Nat) (hk : k ≠ 1) :
    Calls Tryz.prog 15 #[.pointer (some ⟨p, 0, none⟩), .agg (unC k e se pa i c da dn dc cd ga gn gc)] w fun r w' => TkPost w p m1 m2 T1 T2 E I ⟨2, 0, none⟩ r w' := by
  have HM : Hid _ := imade_t (h.below (al (al (Below.refl w.heap.size w) (.cells (unC k e se pa i c da dn dc cd ga gn gc) tUn)) (.cells #[.int .i64 0, .int .i64 0, .slice none 0 0, .slice none 0 0] 44)))
  have HI : Hid _ := h
  have hk1 : (k != 1) = true := by simp [hk]
  clear h
  go_enter Tryz.func15, Tryz.ntmps15
  go_wp2_with (go_at_call 33; refine Calls.mono HM.out ?_; rintro e w' ⟨rfl, hq⟩; have hq := hq.symm; subst hq)
  exact bodyPost_ret (v := ansV ⟨2, 0, none⟩ none none 0 0 0 0) (by simp [results, Tryz.results15, go_sem]) rfl (TkPost.same HI.out (al (al (Below.refl _ _) _) _) 2 0 _ rfl)
theorem take_bad (h : Ibx none w p m1 m2 T1 T2 I E G) (e se pa i c : Int) (da : Option Addr) (dn dc : Nat) (cd : Int) (ga : Option Addr) (gn gc : Nat) (hd : ¬ dataP 1 e se pa i c dn cd gn) :
    Calls Tryz.prog 15 #[.pointer (some ⟨p, 0, none⟩), .agg (unC 1 e se pa i c da dn dc cd ga gn gc)] w fun r w' => TkPost w p m1 m2 T1 T2 E I ⟨2, 0, none⟩ r w' := by
  obtain ⟨w2, hw2⟩ : ∃ w2, w2 = (w.alloc (.cells (unC 1 e se pa i c da dn dc cd ga gn gc) tUn)).alloc (.cells #[.int .i64 0, .int .i64 0, .slice none 0 0, .slice none 0 0] 44) := ⟨_, rfl⟩
  have hbx := tkBox w 1 e se pa i c da dn dc cd ga gn gc
  rw [← hw2] at hbx
  have hz2 : w2.heap.size = w.heap.size + 2 := by rw [hw2]; simp
  have HM : Hid _ := imade_t (h.below (hbx w2 (Below.refl _ _)).2.2)
  have HV : Hid (Calls _ _ _ w2 _) := valid_1 e se pa i c da dn dc cd ga gn gc w2 hd
  have HI : Hid _ := h
  have HBX : Hid _ := hbx
  have HZ2 : Hid _ := hz2
  obtain ⟨a0, a1, a2, a3, a4, a5, a6, a7, a8⟩ := unCell (hbx w2 (Below.refl _ _)).1
  obtain ⟨P, hP⟩ : ∃ P, P = w.heap.size := ⟨_, rfl⟩
  have HP : Hid _ := hP
  rw [← hP] at a0 a1 a2 a3 a4 a5 a6 a7 a8
  have HW2 : Hid (w2 = _) := hw2
  clear h hbx hz2 hP hw2
  go_enter Tryz.func15, Tryz.ntmps15
  go_wp2_with fail
  rw [← HW2.out, ← HP.out]
  refine Calls.mono HM.out ?_
  rintro e' w' ⟨rfl, hq⟩
  have hq := hq.symm
  subst hq
  go_wp2_with fail
  refine Calls.mono HV.out ?_
  rintro e' w3 ⟨rfl, hb3⟩
  have hb3' : Below (w.heap.size + 2) w2 w3 := hb3.mono (by have := HZ2.out; omega)
  obtain ⟨-, hA, hbw⟩ := HBX.out w3 hb3'
  rw [← HP.out] at hA
  obtain ⟨b0, b1, b2, b3, f0, f1, f2, f3⟩ := ansCell hA
  clear hb3 hb3' hA
  go_wp2
  have hPw := HP.out
  exact bodyPost_ret (v := ansV ⟨2, 0, none⟩ none none 0 0 0 0) (by simp [results, Tryz.results15, go_sem, b0, b1, b2, b3, f0, f1, f2, f3]) rfl (TkPost.same HI.out ((((hbw.setCell (p := ⟨P + 1, 0, none⟩) (by show w.heap.size ≤ P + 1; omega) _).setCell (p := ⟨P + 1, 1, none⟩) (by show w.heap.size ≤ P + 1; omega) _).setCell (p := ⟨P + 1, 2, none⟩) (by show w.heap.size ≤ P + 1; omega) _).setCell (p := ⟨P + 1, 3, none⟩) (by show w.heap.size ≤ P + 1; omega) _) 2 0 _ rfl)
end
end Go.Proofs.YtdoikcolkbjnfaaGreat
