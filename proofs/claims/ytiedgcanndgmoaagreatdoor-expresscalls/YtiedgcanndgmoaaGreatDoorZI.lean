import Derived.Test.YtiedgcanndgmoaaGreatDoorZA
import Derived.Test.YtiedgcanndgmoaaGreatDoorZLs
import Derived.Test.YtiedgcanndgmoaaGreatDoorRL
namespace Go.Proofs.YtiedgcanndgmoaaGreatDoor
set_option linter.unusedVariables false
set_option linter.unusedSimpArgs false
open Go.RowKit Go.Maps
theorem neq_rx (u : World) (a b : Int) : (binOp .neq 134 (.agg #[.int .i64 a, .int .i64 b]) (.agg #[.int .i64 a, .int .i64 b])).run Tryz.prog u = .ok (.bool false) u := by
  go_simp
section
variable {w w' : World}
set_option maxRecDepth 20000
set_option maxHeartbeats 6400000
theorem sameUnits_t (a b : Option Addr) (n c d : Nat) (xs ys : List Uv) (hn : n = xs.length) (hny : n = ys.length) (hb : n ≤ 1099511627776) (ha : RdG KUv w a xs) (hd : RdG KUv w b ys) (hs : ∀ i (h1 : i < xs.length) (h2 : i < ys.length), ∃ ds l, SmU w xs[i] ys[i] ds l) : Calls Tryz.prog 39 #[.slice a n c, .slice b n d] w fun e w' => e = .returned (.bool true) ∧ Below w.heap.size w w' := by
  have HN : Hid (n = xs.length ∧ n = ys.length) := ⟨hn, hny⟩
  have HA : Hid (RdG KUv w a xs) := ha
  have HD : Hid (RdG KUv w b ys) := hd
  have HS : Hid (∀ i (h1 : i < xs.length) (h2 : i < ys.length), ∃ ds l, SmU w xs[i] ys[i] ds l) := hs
  have hnq := neq_rx
  clear hn hny ha hd hs
  go_enter Tryz.func39, Tryz.ntmps39
  go_wp2
  go_loopw [5] (fun j wr => ∃ k : Nat, k ≤ n ∧ j = .int .i64 (k : Int) ∧ Below w.heap.size w wr) (fun j _ => n - (intOf j).toNat)
  case atStart => exact ⟨0, Nat.zero_le _, rfl, Below.refl _ _⟩
  case round =>
    obtain ⟨k, hkn, rfl, hbw⟩ := hrel
    have hkw : IntKind.i64.wrap ((k : Int) + 1) = ((k + 1 : Nat) : Int) := by rw [IntKind.wrap_i64]; omega
    by_cases hlt : k < n
    · have hlti : (k : Int) < (n : Int) := by omega
      have hk0 : (0 : Int) ≤ (k : Int) := by omega
      have hk1 : k < xs.length := by rw [← HN.out.1]; exact hlt
      have hk2 : k < ys.length := by rw [← HN.out.2]; exact hlt
      obtain ⟨b1, o1, rfl, r1, -⟩ := RdG.below HA.out hbw k hk1
      obtain ⟨b2, o2, rfl, r2, -⟩ := RdG.below HD.out hbw k hk2
      obtain ⟨ds, l, hsm0⟩ := HS.out k hk1 hk2
      have hsm := hsm0.below hbw
      clear hsm0
      obtain ⟨x, hx⟩ : ∃ x : Uv, x = xs[k] := ⟨_, rfl⟩
      obtain ⟨y, hy⟩ : ∃ y : Uv, y = ys[k] := ⟨_, rfl⟩
      rw [← hx, ← hy] at hsm
      obtain ⟨kd, e, se, p, ix, cn, dx, cd, gx⟩ := x
      obtain ⟨kd', e', se', p', ix', cn', dy, cd', gy⟩ := y
      obtain ⟨⟨e1, e2, e3, e4, e5, e6, e7⟩, n1, n2, d1, d2, m1, m2, q1, q2, bd, bg⟩ := hsm
      dsimp only at e1 e2 e3 e4 e5 e6 e7 n1 n2 d1 d2 m1 m2 q1 q2
      subst e1 e2 e3 e4 e5 e6 e7
      obtain ⟨xa, xn, xc⟩ := dx
      obtain ⟨ya, yn, yc⟩ := dy
      obtain ⟨ga, gn, gc⟩ := gx
      obtain ⟨ha, hn, hc⟩ := gy
      dsimp only at n1 n2 d1 d2 m1 m2 q1 q2
      have hgn : hn = gn := by rw [m1, m2]
      have hyn : yn = xn := by rw [n1, n2]
      subst hgn
      subst hyn
      have a0 := r1 0 (.int .i64 kd) (by rw [← hx]; rfl)
      have a1 := r1 1 (.int .u64 e) (by rw [← hx]; rfl)
      have a2 := r1 2 (.int .u64 se) (by rw [← hx]; rfl)
      have a3 := r1 3 (.int .i64 p) (by rw [← hx]; rfl)
      have a4 := r1 4 (.int .i64 ix) (by rw [← hx]; rfl)
      have a5 := r1 5 (.int .i64 cn) (by rw [← hx]; rfl)
      have a6 := r1 6 (.slice xa yn xc) (by rw [← hx]; rfl)
      have a7 := r1 7 (.int .i64 cd) (by rw [← hx]; rfl)
      have a8 := r1 8 (.slice ga hn gc) (by rw [← hx]; rfl)
      have z0 := r2 0 (.int .i64 kd) (by rw [← hy]; rfl)
      have z1 := r2 1 (.int .u64 e) (by rw [← hy]; rfl)
      have z2 := r2 2 (.int .u64 se) (by rw [← hy]; rfl)
      have z3 := r2 3 (.int .i64 p) (by rw [← hy]; rfl)
      have z4 := r2 4 (.int .i64 ix) (by rw [← hy]; rfl)
      have z5 := r2 5 (.int .i64 cn) (by rw [← hy]; rfl)
      have z6 := r2 6 (.slice ya yn yc) (by rw [← hy]; rfl)
      have z7 := r2 7 (.int .i64 cd) (by rw [← hy]; rfl)
      have z8 := r2 8 (.slice ha hn hc) (by rw [← hy]; rfl)
      rw [Nat.add_zero] at a0 z0
      have hzz : ∀ u, Below wr.heap.size wr u → u.cell? ⟨b2, o2 + k * 9, none⟩ = some (.int .i64 kd) ∧ u.cell? ⟨b2, o2 + k * 9 + 1, none⟩ = some (.int .u64 e) ∧ u.cell? ⟨b2, o2 + k * 9 + 2, none⟩ = some (.int .u64 se) ∧ u.cell? ⟨b2, o2 + k * 9 + 3, none⟩ = some (.int .i64 p) ∧ u.cell? ⟨b2, o2 + k * 9 + 4, none⟩ = some (.int .i64 ix) ∧ u.cell? ⟨b2, o2 + k * 9 + 5, none⟩ = some (.int .i64 cn) ∧ u.cell? ⟨b2, o2 + k * 9 + 6, none⟩ = some (.slice ya yn yc) ∧ u.cell? ⟨b2, o2 + k * 9 + 7, none⟩ = some (.int .i64 cd) ∧ u.cell? ⟨b2, o2 + k * 9 + 8, none⟩ = some (.slice ha hn hc) := fun u hu => ⟨(hu.cell (World.block_lt_of_cell? _ _ z0)).trans z0, (hu.cell (World.block_lt_of_cell? _ _ z1)).trans z1, (hu.cell (World.block_lt_of_cell? _ _ z2)).trans z2, (hu.cell (World.block_lt_of_cell? _ _ z3)).trans z3, (hu.cell (World.block_lt_of_cell? _ _ z4)).trans z4, (hu.cell (World.block_lt_of_cell? _ _ z5)).trans z5, (hu.cell (World.block_lt_of_cell? _ _ z6)).trans z6, (hu.cell (World.block_lt_of_cell? _ _ z7)).trans z7, (hu.cell (World.block_lt_of_cell? _ _ z8)).trans z8⟩
      have hz := hzz _ (alw (Below.refl _ _) (.cells #[.int .i64 kd, .int .u64 e, .int .u64 se, .int .i64 p, .int .i64 ix, .int .i64 cn, .slice xa yn xc, .int .i64 cd, .slice ga hn gc] tUni))
      have hbb : Below wr.heap.size wr ((wr.alloc (.cells #[.int .i64 kd, .int .u64 e, .int .u64 se, .int .i64 p, .int .i64 ix, .int .i64 cn, .slice xa yn xc, .int .i64 cd, .slice ga hn gc] tUni)).alloc (.cells #[.int .i64 kd, .int .u64 e, .int .u64 se, .int .i64 p, .int .i64 ix, .int .i64 cn, .slice ya yn yc, .int .i64 cd, .slice ha hn hc] tUni)) := alw (alw (Below.refl _ _) _) _
      have hv1 := conv_rd' (n := yn) (cap := xc) (d1.below hbb) n1
      have hv2 := conv_rd' (n := yn) (cap := yc) (d2.below hbb) n1
      have HQ1 : Hid (RdR wr ga l) := q1
      have HQ2 : Hid (RdR wr ha l) := q2
      have HM1 : Hid _ := m1
      have HBG : Hid _ := bg
      have HBW : Hid _ := hbw
      obtain ⟨wb, hwb⟩ : ∃ wb, wb = (wr.alloc (.cells #[.int .i64 kd, .int .u64 e, .int .u64 se, .int .i64 p, .int .i64 ix, .int .i64 cn, .slice xa yn xc, .int .i64 cd, .slice ga hn gc] tUni)).alloc (.cells #[.int .i64 kd, .int .u64 e, .int .u64 se, .int .i64 p, .int .i64 ix, .int .i64 cn, .slice ya yn yc, .int .i64 cd, .slice ha hn hc] tUni) := ⟨_, rfl⟩
      have hbwb : Below wr.heap.size wr wb := by rw [hwb]; exact hbb
      have hxb : wb.heap[wr.heap.size]? = some (.cells #[.int .i64 kd, .int .u64 e, .int .u64 se, .int .i64 p, .int .i64 ix, .int .i64 cn, .slice xa yn xc, .int .i64 cd, .slice ga hn gc] tUni (0, 0)) := by
        rw [hwb, Below.heap_alloc _ _ _ (by simp)]
        exact heap_alloc_new wr _
      have hyb : wb.heap[wr.heap.size + 1]? = some (.cells #[.int .i64 kd, .int .u64 e, .int .u64 se, .int .i64 p, .int .i64 ix, .int .i64 cn, .slice ya yn yc, .int .i64 cd, .slice ha hn hc] tUni (0, 0)) := by
        have h9 := heap_alloc_new (wr.alloc (.cells #[.int .i64 kd, .int .u64 e, .int .u64 se, .int .i64 p, .int .i64 ix, .int .i64 cn, .slice xa yn xc, .int .i64 cd, .slice ga hn gc] tUni)) (.cells #[.int .i64 kd, .int .u64 e, .int .u64 se, .int .i64 p, .int .i64 ix, .int .i64 cn, .slice ya yn yc, .int .i64 cd, .slice ha hn hc] tUni)
        rw [World.size_alloc] at h9
        rw [hwb]
        exact h9
      have hbx : ∀ u, Below wb.heap.size wb u → u.cell? ⟨wr.heap.size, 8, none⟩ = some (.slice ga hn gc) ∧ u.cell? ⟨wr.heap.size + 1, 8, none⟩ = some (.slice ha hn hc) := fun u hu => by
        have h1 := (hu.block _ (Array.getElem?_eq_some_iff.1 hxb).1).trans hxb
        have h2 := (hu.block _ (Array.getElem?_eq_some_iff.1 hyb).1).trans hyb
        exact ⟨by rw [cell_of_row _ _ _ _ _ _ h1]; rfl, by rw [cell_of_row _ _ _ _ _ _ h2]; rfl⟩
      have HWB : Hid (wb = _) := hwb
      have HBWB : Hid _ := hbwb
      have HBX : Hid _ := hbx
      have hg64 : hn ≤ 8796093022208 := by rw [m1]; exact bg
      clear r1 r2 hx hy hzz z0 z1 z2 z3 z4 z5 z6 z7 z8 hbb d1 d2 q1 q2 n1 n2 m1 m2 bd bg hwb hxb hyb hbwb hbx hbw hk1 hk2
      go_wp2
      rw [← HWB.out]
      go_loopw [8] (fun j2 wv => ∃ k2 : Nat, k2 ≤ hn ∧ j2 = .int .i64 (k2 : Int) ∧ Below wb.heap.size wb wv) (fun j2 _ => hn - (intOf j2).toNat)
      case atStart => exact ⟨0, Nat.zero_le _, rfl, Below.refl _ _⟩
      case round =>
        rename World => wv
        obtain ⟨k2, hkn2, rfl, hbv⟩ := hrel
        have hkw2 : IntKind.i64.wrap ((k2 : Int) + 1) = ((k2 + 1 : Nat) : Int) := by rw [IntKind.wrap_i64]; omega
        have hcx := HBX.out wv hbv
        by_cases hlt2 : k2 < hn
        · have hlti2 : (k2 : Int) < (hn : Int) := by omega
          have hk02 : (0 : Int) ≤ (k2 : Int) := by omega
          have hk12 : k2 < l.length := by rw [← HM1.out]; exact hlt2
          have hbrv := below_next HBWB.out hbv
          obtain ⟨b3, o3, rfl, s1, s2⟩ := RdR.below HQ1.out hbrv k2 hk12
          obtain ⟨b4, o4, rfl, s3, s4⟩ := RdR.below HQ2.out hbrv k2 hk12
          obtain ⟨r, hr⟩ : ∃ r : Rg, r = l[k2] := ⟨_, rfl⟩
          rw [← hr] at s1 s2 s3 s4
          have hc : ∀ u, Below wv.heap.size wv u → u.cell? ⟨b3, o3 + k2 * 2, none⟩ = some (.int .i64 r.1) ∧ u.cell? ⟨b3, o3 + k2 * 2 + 1, none⟩ = some (.int .i64 r.2) ∧ u.cell? ⟨b4, o4 + k2 * 2, none⟩ = some (.int .i64 r.1) ∧ u.cell? ⟨b4, o4 + k2 * 2 + 1, none⟩ = some (.int .i64 r.2) ∧ u.cell? ⟨wr.heap.size, 8, none⟩ = some (.slice (some ⟨b3, o3, none⟩) hn gc) ∧ u.cell? ⟨wr.heap.size + 1, 8, none⟩ = some (.slice (some ⟨b4, o4, none⟩) hn hc) := fun u hu => ⟨(hu.cell (World.block_lt_of_cell? _ _ s1)).trans s1, (hu.cell (World.block_lt_of_cell? _ _ s2)).trans s2, (hu.cell (World.block_lt_of_cell? _ _ s3)).trans s3, (hu.cell (World.block_lt_of_cell? _ _ s4)).trans s4, (HBX.out u (below_next hbv hu)).1, (HBX.out u (below_next hbv hu)).2⟩
          have HBV : Hid _ := hbv
          clear s1 s2 s3 s4 hr hk12 hbrv hbv
          go_wp2_with fail
          refine wp_region_noPanic ?_
          refine wp_region_held_drew (S := (fun u => Below wv.heap.size wv u)) (by kernel_rfl) (by first | exact (Below.refl _ _).drew | assumption) (fun hHeld => ?_)
          refine tz (i := 0) 100 rfl rfl hHeld ?_
          simp only [pS]
          refine tz (i := 1) 101 rfl rfl hHeld ?_
          simp only [pS]
          refine tz (i := 2) 102 rfl rfl hHeld ?_
          simp only [pS]
          refine tz (i := 3) 103 rfl rfl hHeld ?_
          simp only [pS]
          refine tz (i := 4) 104 rfl rfl hHeld ?_
          simp only [pS]
          refine tz (i := 5) 105 rfl rfl hHeld ?_
          simp only [pS]
          refine tz (i := 6) 106 rfl rfl hHeld ?_
          simp only [pS]
          refine tz (i := 7) 107 rfl rfl hHeld ?_
          simp only [pS]
          refine tz (i := 8) 108 rfl rfl hHeld ?_
          simp only [pS]
          refine tz (i := 9) 109 rfl rfl hHeld ?_
          simp only [pS]
          refine tz (i := 10) 110 rfl rfl hHeld ?_
          simp only [pS]
          refine wpAnyH_done (by kernel_rfl) ?_ _
          refine NoPanic.normal ?_
          clear hHeld hc
          go_wp2
          go_roundw
          case rel => exact ⟨k2 + 1, by omega, by go_num, HBV.out.drew⟩
          case measure => simp [intOf]; omega
        · have hlti2 : ¬ (k2 : Int) < (hn : Int) := by omega
          have HBV : Hid _ := hbv
          clear hbv
          go_wp2
          go_roundw
          case rel => exact ⟨k + 1, by omega, by go_num, below_next HBW.out (below_next HBWB.out HBV.out)⟩
          case measure => simp [intOf]; omega
    · have hlti : ¬ (k : Int) < (n : Int) := by omega
      have HBW : Hid _ := hbw
      clear hbw
      go_wp2
      go_ret
      exact ⟨rfl, HBW.out⟩
end
end Go.Proofs.YtiedgcanndgmoaaGreatDoor
namespace Go.Proofs.YtiedgcanndgmoaaGreatDoor
set_option linter.unusedVariables false
set_option linter.unusedSimpArgs false
open Go.RowKit Go.Maps
abbrev KRq : Kd Rg := { t := 134, ts := 39, k := 2, by_ := 16, f := rv, z := .agg #[.int .i64 0, .int .i64 0], hk := fun _ => rfl, h1 := (fun d u hu => by simp [rv] at hu; rcases hu with rfl | rfl <;> rfl), hpos := by decide, ht := Tryz.underlying39, hi := by kernel_rfl, hz := rfl }
theorem RdR.grown' {w w' : World} {ao : Option Addr} {xs : List Rg} {r : Option Nat} (h : RdR w ao xs) (hg : w.grownBy w' r) (hne : ∀ a, ao = some a → some a.block ≠ r) : RdR w' ao xs := fun j hj => by
  obtain ⟨b, o, h1, h2, h3⟩ := h j hj
  have hb : w'.heap[b]? = w.heap[b]? := hg.block b (World.block_lt_of_cell? w _ h2) (fun e => hne _ h1 e)
  exact ⟨b, o, h1, (World.cell?_of_block (a := ⟨b, o + j * 2, none⟩) hb).trans h2, (World.cell?_of_block (a := ⟨b, o + j * 2 + 1, none⟩) hb).trans h3⟩
theorem RdR.news {w : World} {ad : Addr} {ys : List Rg} (hr : RdR w (some ad) ys) : ∀ j u, (KRq.flat ys)[j]? = some u → w.cell? (ad.add j) = some u := fun j u hj => by
  have hlt : j < ys.length * 2 := by
    have := (List.getElem?_eq_some_iff.1 hj).1
    rw [Kd.flat_len] at this
    exact this
  obtain ⟨b, o, h1, h2, h3⟩ := hr (j / 2) (by omega)
  cases h1
  rw [Go.WideShapes.add_plain]
  have hf : ∀ q, q < 2 → (KRq.flat ys)[j / 2 * 2 + q]? = (rv ys[j / 2])[q]? := fun q hq => Kd.flat_get (K := KRq) ys (j / 2) q (by omega) hq
  by_cases e : j % 2 = 0
  · have ej : j = j / 2 * 2 := by omega
    have h9 := hf 0 (by decide)
    rw [Nat.add_zero, ← ej] at h9
    rw [h9] at hj
    rw [ej, h2]
    exact hj
  · have ej : j = j / 2 * 2 + 1 := by omega
    have h9 := hf 1 (by decide)
    rw [← ej] at h9
    rw [h9] at hj
    rw [ej, ← Nat.add_assoc, h3]
    exact hj
theorem wpo_appRN {w : World} {o : Oper} {a : Act} {P : Act → World → Prop} {Q : Exit → Act → World → Prop} (s x : Operand)
    (ho : o.op = .call { callee := .builtin .append, args := #[s, x], argTypes := #[39, 39] }) (B : Nat) (v : Value) (xs ys : List Rg) (n : Nat) (ao : Option Addr) (cap : Nat) (hn : n = ys.length)
    (hs : a.eval s = v) (hown : OwnG KRq w B v xs) (hx : a.eval x = .slice ao n cap) (hr : RdR w ao ys) (hnil : ao = none → cap = 0)
    (hb : (xs.length + n) * 16 ≤ 140737488355328) (hm : xs.length + n ≤ maxLen) (hbase : B ≤ w.heap.size)
    (h : ∀ v' w', OwnG KRq w' B v' (xs ++ ys) → w.grownBy w' v.ownBlock → P (a.put o.dst v') w') : o.wp Tryz.prog a w P Q := by
  subst hn
  obtain ⟨i0, hi, hz0, hz1, hz2⟩ := info_parts KRq.hi
  rcases ao with _ | ad
  · have h0 : ys = [] := by
      rcases ys with _ | ⟨y, ys⟩
      · rfl
      · obtain ⟨b, o, h1, _⟩ := hr 0 (by simp); cases h1
    subst h0
    obtain rfl := hnil rfl
    have hrun := run_append_owned_none (P := Tryz.prog) (w := w) B KRq.ts o.type KRq.t i0 KRq.k KRq.ht hi v xs.length (KRq.flat xs) hown
    have hx' : a.eval x = .slice none 0 0 := hx
    unfold Oper.wp
    simp [execOp, ho, resolve, invoke, builtin, hs, hx', hrun, Result.andThen]
    exact h v w (by simpa using hown) ⟨rfl, rfl, rfl, Nat.le_refl _, fun _ _ _ => rfl⟩
  · refine wp_append_own w s x KRq.ts ho B KRq.t i0 KRq.z KRq.k KRq.by_ KRq.ht hi hz0 hz1 hz2 KRq.hz KRq.hpos v xs.length (KRq.flat xs) hs hown ad ys.length cap (KRq.flat ys) hx (Kd.flat_len (K := KRq) ys) hr.news (Kd.flat_one' (K := KRq) ys) hm hb hbase ?_
    intro v' w' h1 h2 _
    refine h v' w' ?_ h2
    unfold OwnG
    rw [List.length_append, Kd.flat_app]
    exact h1
theorem rdR_of {w : World} {g n c B : Nat} {xs : List Rg} (h : OwnG KRq w B (.slice (some ⟨g, 0, none⟩) n c) xs) (hn : n = xs.length) : RdR w (some ⟨g, 0, none⟩) xs := fun j hj => by
  have h1 := h.cell hn j 0 hj (by decide)
  have h2 := h.cell hn j 1 hj (by decide)
  refine ⟨g, 0, rfl, ?_, ?_⟩
  · rw [Nat.zero_add]; exact h1
  · rw [Nat.zero_add]; exact h2
section
variable {w w' : World}
set_option maxRecDepth 20000
set_option maxHeartbeats 6400000
theorem given_t (k e s p i c : Int) (da : Option Addr) (dn dc : Nat) (cd : Int) (ga : Option Addr) (gn gc : Nat) (ds : List UInt8) (l : List Rg) (DC : Nat) (hdn : dn = ds.length) (hgn : gn = l.length) (hDC : DC = dn + 4) (hd : Rd w da ds) (hg : RdR w ga l) (hnil : ga = none → gc = 0) (hl : gn ≤ 8796093021952) (hdl : dn ≤ 140737488351232) :
    Calls Tryz.prog 41 #[.agg #[.int .i64 k, .int .u64 e, .int .u64 s, .int .i64 p, .int .i64 i, .int .i64 c, .slice da dn dc, .int .i64 cd, .slice ga gn gc]] w fun r w' => ∃ gd gg GC, r = .returned (.agg #[.int .i64 k, .int .u64 e, .int .u64 s, .int .i64 p, .int .i64 i, .int .i64 c, .slice (some ⟨gd, 0, none⟩) dn DC, .int .i64 cd, .slice (some ⟨gg, 0, none⟩) gn GC]) ∧ (w.heap.size ≤ gd ∧ w.heap.size ≤ gg ∧ gn + 1 ≤ GC) ∧ Rd w' (some ⟨gd, 0, none⟩) (ds ++ m4) ∧ RdR w' (some ⟨gg, 0, none⟩) (l ++ [(7, 7)]) ∧ Below w.heap.size w w' := by
  have HBY : Hid (∀ u, Below w.heap.size w u → Calls Tryz.prog 37 #[.slice da dn dc] u fun e w' => ∃ g, e = .returned (.slice (some ⟨g, 0, none⟩) dn DC) ∧ u.heap.size ≤ g ∧ Rd w' (some ⟨g, 0, none⟩) (ds ++ m4) ∧ Below u.heap.size u w') := fun u hu => by
    rw [hDC, hdn]
    exact bytes_any da dc ds u (hd.below hu) (by omega)
  have HGR : Hid (∀ u, Below w.heap.size w u → RdR u ga l) := fun u hu => hg.below hu
  obtain ⟨w0, hw0⟩ : ∃ w0, w0 = (w.alloc (.cells #[.int .i64 k, .int .u64 e, .int .u64 s, .int .i64 p, .int .i64 i, .int .i64 c, .slice da dn dc, .int .i64 cd, .slice ga gn gc] 41 (0, 0))).alloc (.cells #[.int .i64 0, .int .u64 0, .int .u64 0, .int .i64 0, .int .i64 0, .int .i64 0, .slice none 0 0, .int .i64 0, .slice none 0 0] 41 (0, 0)) := ⟨_, rfl⟩
  have hb0 : Below w.heap.size w w0 := by rw [hw0]; exact alw (alw (Below.refl _ w) _) _
  have hz0 : w0.heap.size = w.heap.size + 2 := by rw [hw0]; simp
  have ha0 : w0.heap[w.heap.size]? = some (.cells #[.int .i64 k, .int .u64 e, .int .u64 s, .int .i64 p, .int .i64 i, .int .i64 c, .slice da dn dc, .int .i64 cd, .slice ga gn gc] 41 (0, 0)) := by
    rw [hw0, Below.heap_alloc _ _ _ (by simp)]
    exact heap_alloc_new w _
  have hy0 : w0.heap[w.heap.size + 1]? = some (.cells #[.int .i64 0, .int .u64 0, .int .u64 0, .int .i64 0, .int .i64 0, .int .i64 0, .slice none 0 0, .int .i64 0, .slice none 0 0] 41 (0, 0)) := by
    have h9 := heap_alloc_new (w.alloc (.cells #[.int .i64 k, .int .u64 e, .int .u64 s, .int .i64 p, .int .i64 i, .int .i64 c, .slice da dn dc, .int .i64 cd, .slice ga gn gc] 41 (0, 0))) (.cells #[.int .i64 0, .int .u64 0, .int .u64 0, .int .i64 0, .int .i64 0, .int .i64 0, .slice none 0 0, .int .i64 0, .slice none 0 0] 41 (0, 0))
    rw [World.size_alloc] at h9
    rw [hw0]
    exact h9
  have hc60 : ((w.alloc (.cells #[.int .i64 k, .int .u64 e, .int .u64 s, .int .i64 p, .int .i64 i, .int .i64 c, .slice da dn dc, .int .i64 cd, .slice ga gn gc] 41 (0, 0))).alloc (.cells #[.int .i64 0, .int .u64 0, .int .u64 0, .int .i64 0, .int .i64 0, .int .i64 0, .slice none 0 0, .int .i64 0, .slice none 0 0] 41 (0, 0))).cell? ⟨w.heap.size, 6, none⟩ = some (.slice da dn dc) := by rw [← hw0, cell_of_row _ _ _ _ _ _ ha0]; rfl
  have HW0 : Hid (w0 = _) := hw0
  have HB0 : Hid _ := hb0
  have HZ0 : Hid _ := hz0
  have HA0 : Hid _ := ha0
  have HY0 : Hid _ := hy0
  have HGN : Hid _ := hgn
  have HNIL : Hid _ := hnil
  clear hd hg hdn hgn hDC hw0 hb0 hz0 ha0 hy0 hnil
  go_enter Tryz.func41, Tryz.ntmps41
  go_wp2_with fail
  rw [← HW0.out]
  refine Calls.mono (HBY.out _ HB0.out) ?_
  rintro e1 w1 ⟨gd, rfl, hgd, hr1, hb1⟩
  have HA1 : Hid (w1.heap[w.heap.size]? = some (.cells #[.int .i64 k, .int .u64 e, .int .u64 s, .int .i64 p, .int .i64 i, .int .i64 c, .slice da dn dc, .int .i64 cd, .slice ga gn gc] 41 (0, 0))) := (hb1.block w.heap.size (by have := HZ0.out; omega)).trans HA0.out
  have HY1 : Hid (w1.heap[w.heap.size + 1]? = some (.cells #[.int .i64 0, .int .u64 0, .int .u64 0, .int .i64 0, .int .i64 0, .int .i64 0, .slice none 0 0, .int .i64 0, .slice none 0 0] 41 (0, 0))) := (hb1.block (w.heap.size + 1) (by have := HZ0.out; omega)).trans HY0.out
  have HR1 : Hid (Rd w1 (some ⟨gd, 0, none⟩) (ds ++ m4)) := hr1
  have HB1 : Hid (Below w.heap.size w w1) := below_next HB0.out hb1
  have HGD : Hid (w.heap.size + 2 ≤ gd) := by have := HZ0.out; unfold Hid; omega
  have hf61 : w1.frozen? ⟨w.heap.size, 6, none⟩ = false := by simp [World.frozen?, HA1.out]
  have hc61 : w1.cell? ⟨w.heap.size, 6, none⟩ = some (.slice da dn dc) := by rw [cell_of_row _ _ _ _ _ _ HA1.out]; rfl
  have HS1 : Hid (w.heap.size + 2 ≤ w1.heap.size) := by have h9 := hb1.size; have := HZ0.out; unfold Hid; omega
  clear hgd hr1 hb1
  go_wp2_with fail
  obtain ⟨x1, hx1⟩ : ∃ x1 : World, x1 = w1.setCell ⟨w.heap.size, 6, none⟩ (.slice (some ⟨gd, 0, none⟩) dn DC) := ⟨_, rfl⟩
  rw [← hx1]
  have HG1 : Hid (w1.grownBy x1 (some w.heap.size)) := by unfold Hid; rw [hx1]; exact gset1 _ _ _ _
  have HAx : Hid (x1.heap[w.heap.size]? = some (.cells #[.int .i64 k, .int .u64 e, .int .u64 s, .int .i64 p, .int .i64 i, .int .i64 c, .slice (some ⟨gd, 0, none⟩) dn DC, .int .i64 cd, .slice ga gn gc] 41 (0, 0))) := by unfold Hid; rw [hx1, heap_setCell_same w1 w.heap.size 6 _ _ _ HA1.out]; rfl
  have HYx : Hid (x1.heap[w.heap.size + 1]? = some (.cells #[.int .i64 0, .int .u64 0, .int .u64 0, .int .i64 0, .int .i64 0, .int .i64 0, .slice none 0 0, .int .i64 0, .slice none 0 0] 41 (0, 0))) := by unfold Hid; rw [hx1, heap_setCell_other _ _ _ _ (show w.heap.size + 1 ≠ w.heap.size by omega)]; exact HY1.out
  have HBx : Hid (Below w.heap.size w x1) := HB1.out.grown HG1.out HB1.out.size (fun j hj => by cases hj; exact Nat.le_refl _)
  have HRx : Hid (Rd x1 (some ⟨gd, 0, none⟩) (ds ++ m4)) := Rd.grown HR1.out HG1.out (fun a ha => by cases ha; intro h; have h9 := Option.some.inj h; have := HGD.out; simp only at h9; omega)
  have HSx : Hid (w.heap.size + 2 ≤ x1.heap.size) := Nat.le_trans HS1.out HG1.out.size
  have hc8x : ∀ u, Below x1.heap.size x1 u → u.cell? ⟨w.heap.size, 8, none⟩ = some (.slice ga gn gc) := fun u hu => by
    have h9 := (hu.block w.heap.size (by have := HSx.out; omega)).trans HAx.out
    rw [cell_of_row _ _ _ _ _ _ h9]; rfl
  have HC8 : Hid _ := hc8x
  have HF8 : Hid (∀ u, Below x1.heap.size x1 u → u.cell? ⟨w.heap.size, 8, none⟩ = some (.slice ga gn gc) ∧ u.frozen? ⟨w.heap.size, 8, none⟩ = false) := fun u hu => by
    have h9 := (hu.block w.heap.size (by have := HSx.out; omega)).trans HAx.out
    exact ⟨by rw [cell_of_row _ _ _ _ _ _ h9]; rfl, by simp [World.frozen?, h9]⟩
  have hgl : (gn : Int) ≤ (8796093021952 : Int) := by omega
  have hg0 : (0 : Int) ≤ (gn : Int) := by omega
  clear hx1 hf61 hc61 hc8x hc60
  refine wp_region_noPanic ?_
  refine wp_region_late_drew (S := (fun u => Below x1.heap.size x1 u)) (X := [11]) (by kernel_rfl) (by with_reducible first | exact (Below.refl _ _).drew | exact HBA.out | exact alw HBA.out _ | exact alw (Below.refl _ _).drew _ | exact (alw (Below.refl _ _) _).drew | exact HBB.out | assumption) (fun hHeld => ?_)
  refine take_atA (i := 0) 7 (v := ?_) rfl rfl (by kernel_rfl) (by kernel_rfl) (by kernel_rfl) (by decide) (fun _ _ _ h => h) (by rfl) ?_ hHeld ?_
  rotate_left
  · (intro w; go_simp; try with_reducible rfl)
  simp only [pS]
  refine take_atL (i := 1) 8 (v := .slice ga gn gc) rfl rfl (by kernel_rfl) (by kernel_rfl) (by kernel_rfl) (by kernel_rfl) (fun _ _ _ h => h) (by rfl) ?_ hHeld ?_
  · (intro w hSw; have hc9 := HC8.out _ hSw; go_simp; try with_reducible rfl)
  simp only [pS]
  refine take_atA (i := 3) 10 (v := ?_) rfl rfl (by kernel_rfl) (by kernel_rfl) (by kernel_rfl) (by decide) (fun _ _ _ h => h) (by rfl) ?_ hHeld ?_
  rotate_left
  · (intro w; go_simp; try with_reducible rfl)
  simp only [pS]
  refine take_atA (i := 6) 13 (v := ?_) rfl rfl (by kernel_rfl) (by kernel_rfl) (by kernel_rfl) (by decide) (fun _ _ _ h => h) (by rfl) ?_ hHeld ?_
  rotate_left
  · (intro w; go_simp; try with_reducible rfl)
  simp only [pS]
  refine take_atL (i := 7) 14 (v := .slice ga gn gc) rfl rfl (by kernel_rfl) (by kernel_rfl) (by kernel_rfl) (by kernel_rfl) (fun _ _ _ h => h) (by rfl) ?_ hHeld ?_
  · (intro w hSw; have hc9 := HC8.out _ hSw; go_simp; try with_reducible rfl)
  simp only [pS]
  refine take_atA (i := 8) 15 (v := ?_) rfl rfl (by kernel_rfl) (by kernel_rfl) (by kernel_rfl) (by decide) (fun _ _ _ h => h) (by rfl) ?_ hHeld ?_
  rotate_left
  · (intro w; go_simp; try with_reducible rfl)
  simp only [pS]
  refine readyL (rs := [2, 4]) (by kernel_rfl) (by simp) ?_
  refine AllReadyL.cons (o := _) rfl (fun K hK => ?_) ?_
  focus
    rw [if_pos (by rfl)]
    simp only [List.getElem_toArray, List.getElem_cons_zero, List.getElem_cons_succ]
    (refine wpo_appRN _ _ rfl x1.heap.size (.slice none 0 0) [] l gn ga gc HGN.out rfl (World.ownsRow_nil _ _ _ _) rfl (HGR.out _ (below_next HBx.out (by first | exact hHeld | exact alw hHeld _))) HNIL.out (by simp; omega) (by simp [maxLen]; omega) (by first | exact hHeld.size | (simp; exact hHeld.size)) ?_; intro v2 w2 hown2 hg2; rw [List.nil_append] at hown2; obtain ⟨a2, c2, hv2, -⟩ := hown2.val; rw [← HGN.out] at hv2; subst hv2; have HBA : Hid (Below x1.heap.size x1 w2) := (Below.refl _ _).drew.grown hg2 (Nat.le_refl _) (fun b hb => by cases hb); have HO2 : Hid _ := hown2; clear hown2 hg2)
    refine hK.out _ _ (by with_reducible first | exact (Below.refl _ _).drew | exact HBA.out | exact alw HBA.out _ | exact alw (Below.refl _ _).drew _ | exact (alw (Below.refl _ _) _).drew | exact HBB.out | assumption) ?_
    clear hK K
    intro hHeld2
    clear hHeld
    have hHeld := hHeld2
    clear hHeld2
    try simp only [pS]
    refine run_atL (i := 4) rfl (by kernel_rfl) (by rfl) (fun K hK => ?_)
    simp only [List.getElem_toArray, List.getElem_cons_zero, List.getElem_cons_succ]
    go_simp
    go_wp2_with fail
    refine hK.out _ _ (by with_reducible first | exact (Below.refl _ _).drew | exact HBA.out | exact alw HBA.out _ | exact alw (Below.refl _ _).drew _ | exact (alw (Below.refl _ _) _).drew | exact HBB.out | assumption) ?_
    clear hK K
    intro hHeld2
    clear hHeld
    have hHeld := hHeld2
    clear hHeld2
    try simp only [pS]
    refine run_atL (i := 5) rfl (by kernel_rfl) (by rfl) (fun K hK => ?_)
    simp only [List.getElem_toArray, List.getElem_cons_zero, List.getElem_cons_succ]
    (refine wpo_appG1 (K := KRq) _ _ rfl x1.heap.size (.slice a2 gn c2) l (7, 7) gn HGN.out ⟨w2.heap.size, 0, none⟩ 1 rfl (OwnG.below HO2.out (alw (Below.refl _ _) _)) rfl (rdG_lit (K := KRq) (heap_alloc_new _ _) rfl) (by show (gn + 1) * 16 ≤ _; omega) (by simp only [maxLen]; omega) (Nat.le_trans HBA.out.size (by simp)) ?_; intro gg GC w5 hown5 hg5 hat5; have hGC : gn + 1 ≤ GC := (by obtain ⟨a9, c9, h91, h92, -⟩ := hown5.val; injection h91 with _ _ h93; rw [← h93] at h92; simp at h92; have := HGN.out; omega); have hGC2 : gn ≤ GC := (by omega); have HO5 : Hid _ := hown5; have HBB : Hid (Below x1.heap.size x1 w5) := (alw HBA.out _).grown hg5 (Nat.le_trans HBA.out.size (by simp)) (fun b hb => (OwnG.lt' HO2.out hb).1); have HAT : Hid (x1.heap.size ≤ gg) := (OwnG.lt' hown5 rfl).1; obtain ⟨hcq, hfq⟩ := HF8.out w5 HBB.out; clear hown5 hg5 hat5)
    refine hK.out _ _ (by with_reducible first | exact (Below.refl _ _).drew | exact HBA.out | exact alw HBA.out _ | exact alw (Below.refl _ _).drew _ | exact (alw (Below.refl _ _) _).drew | exact HBB.out | assumption) ?_
    clear hK K
    intro hHeld2
    clear hHeld
    have hHeld := hHeld2
    clear hHeld2
    try simp only [pS]
    refine take_atA (i := 9) 16 (v := ?_) rfl rfl (by kernel_rfl) (by kernel_rfl) (by kernel_rfl) (by decide) (fun _ _ _ h => h) (by rfl) ?_ hHeld ?_
    rotate_left
    · (intro w; go_simp; try with_reducible rfl)
    simp only [pS]
    refine take_atA (i := 10) 17 (v := ?_) rfl rfl (by kernel_rfl) (by kernel_rfl) (by kernel_rfl) (by decide) (fun _ _ _ h => h) (by rfl) ?_ hHeld ?_
    rotate_left
    · (intro w; go_simp; try with_reducible rfl)
    simp only [pS]
    refine run_atLate (i := 11) rfl (by kernel_rfl) (by decide) (by rfl) (fun K hK => ?_)
    simp only [List.getElem_toArray, List.getElem_cons_zero, List.getElem_cons_succ]
    go_simp
    go_wp2_with fail
    refine hK.out _ _ ?_
    clear hK K
    try simp only [pS]
    refine doneL (by kernel_rfl) ?_ _
    refine NoPanic.normal ?_
  rotate_left 1
  refine AllReadyL.cons (o := _) rfl (fun K hK => ?_) AllReadyL.nil
  focus
    rw [if_pos (by rfl)]
    simp only [List.getElem_toArray, List.getElem_cons_zero, List.getElem_cons_succ]
    go_simp
    go_wp2_with fail
    refine hK.out _ _ (by with_reducible first | exact (Below.refl _ _).drew | exact HBA.out | exact alw HBA.out _ | exact alw (Below.refl _ _).drew _ | exact (alw (Below.refl _ _) _).drew | exact HBB.out | assumption) ?_
    clear hK K
    intro hHeld2
    clear hHeld
    have hHeld := hHeld2
    clear hHeld2
    try simp only [pS]
    refine run_atL (i := 2) rfl (by kernel_rfl) (by rfl) (fun K hK => ?_)
    simp only [List.getElem_toArray, List.getElem_cons_zero, List.getElem_cons_succ]
    (refine wpo_appRN _ _ rfl x1.heap.size (.slice none 0 0) [] l gn ga gc HGN.out rfl (World.ownsRow_nil _ _ _ _) rfl (HGR.out _ (below_next HBx.out (by first | exact hHeld | exact alw hHeld _))) HNIL.out (by simp; omega) (by simp [maxLen]; omega) (by first | exact hHeld.size | (simp; exact hHeld.size)) ?_; intro v2 w2 hown2 hg2; rw [List.nil_append] at hown2; obtain ⟨a2, c2, hv2, -⟩ := hown2.val; rw [← HGN.out] at hv2; subst hv2; have HBA : Hid (Below x1.heap.size x1 w2) := (alw (Below.refl _ _).drew _).grown hg2 (by simp) (fun b hb => by cases hb); have HO2 : Hid _ := hown2; have HRB : Hid (RdG KRq w2 (some ⟨x1.heap.size, 0, none⟩) [(7, 7)]) := rdG_lit (K := KRq) ((hg2.block x1.heap.size (by simp) (fun e => by cases e)).trans (heap_alloc_new _ _)) rfl; clear hown2 hg2)
    refine hK.out _ _ (by with_reducible first | exact (Below.refl _ _).drew | exact HBA.out | exact alw HBA.out _ | exact alw (Below.refl _ _).drew _ | exact (alw (Below.refl _ _) _).drew | exact HBB.out | assumption) ?_
    clear hK K
    intro hHeld2
    clear hHeld
    have hHeld := hHeld2
    clear hHeld2
    try simp only [pS]
    refine run_atL (i := 5) rfl (by kernel_rfl) (by rfl) (fun K hK => ?_)
    simp only [List.getElem_toArray, List.getElem_cons_zero, List.getElem_cons_succ]
    (refine wpo_appG1 (K := KRq) _ _ rfl x1.heap.size (.slice a2 gn c2) l (7, 7) gn HGN.out ⟨x1.heap.size, 0, none⟩ 1 rfl HO2.out rfl (HRB.out) (by show (gn + 1) * 16 ≤ _; omega) (by simp only [maxLen]; omega) HBA.out.size ?_; intro gg GC w5 hown5 hg5 hat5; have hGC : gn + 1 ≤ GC := (by obtain ⟨a9, c9, h91, h92, -⟩ := hown5.val; injection h91 with _ _ h93; rw [← h93] at h92; simp at h92; have := HGN.out; omega); have hGC2 : gn ≤ GC := (by omega); have HO5 : Hid _ := hown5; have HBB : Hid (Below x1.heap.size x1 w5) := HBA.out.grown hg5 HBA.out.size (fun b hb => (OwnG.lt' HO2.out hb).1); have HAT : Hid (x1.heap.size ≤ gg) := (OwnG.lt' hown5 rfl).1; obtain ⟨hcq, hfq⟩ := HF8.out w5 HBB.out; clear hown5 hg5 hat5)
    refine hK.out _ _ (by with_reducible first | exact (Below.refl _ _).drew | exact HBA.out | exact alw HBA.out _ | exact alw (Below.refl _ _).drew _ | exact (alw (Below.refl _ _) _).drew | exact HBB.out | assumption) ?_
    clear hK K
    intro hHeld2
    clear hHeld
    have hHeld := hHeld2
    clear hHeld2
    try simp only [pS]
    refine take_atA (i := 9) 16 (v := ?_) rfl rfl (by kernel_rfl) (by kernel_rfl) (by kernel_rfl) (by decide) (fun _ _ _ h => h) (by rfl) ?_ hHeld ?_
    rotate_left
    · (intro w; go_simp; try with_reducible rfl)
    simp only [pS]
    refine take_atA (i := 10) 17 (v := ?_) rfl rfl (by kernel_rfl) (by kernel_rfl) (by kernel_rfl) (by decide) (fun _ _ _ h => h) (by rfl) ?_ hHeld ?_
    rotate_left
    · (intro w; go_simp; try with_reducible rfl)
    simp only [pS]
    refine run_atLate (i := 11) rfl (by kernel_rfl) (by decide) (by rfl) (fun K hK => ?_)
    simp only [List.getElem_toArray, List.getElem_cons_zero, List.getElem_cons_succ]
    go_simp
    go_wp2_with fail
    refine hK.out _ _ ?_
    clear hK K
    try simp only [pS]
    refine doneL (by kernel_rfl) ?_ _
    refine NoPanic.normal ?_
  all_goals
    clear hcq hfq hGC2
    have hA5 := (HBB.out.block w.heap.size (by have := HSx.out; omega)).trans HAx.out
    have hY5 := (HBB.out.block (w.heap.size + 1) (by have := HSx.out; omega)).trans HYx.out
    obtain ⟨x2, hx2⟩ : ∃ x2 : World, x2 = w5.setCell ⟨w.heap.size, 8, none⟩ (.slice (some ⟨gg, 0, none⟩) gn GC) := ⟨_, rfl⟩
    have HG2 : Hid (w5.grownBy x2 (some w.heap.size)) := by unfold Hid; rw [hx2]; exact gset1 _ _ _ _
    have HAy : Hid (x2.heap[w.heap.size]? = some (.cells #[.int .i64 k, .int .u64 e, .int .u64 s, .int .i64 p, .int .i64 i, .int .i64 c, .slice (some ⟨gd, 0, none⟩) dn DC, .int .i64 cd, .slice (some ⟨gg, 0, none⟩) gn GC] 41 (0, 0))) := by unfold Hid; rw [hx2, heap_setCell_same w5 w.heap.size 8 _ _ _ hA5]; rfl
    have HYy : Hid (x2.heap[w.heap.size + 1]? = some (.cells #[.int .i64 0, .int .u64 0, .int .u64 0, .int .i64 0, .int .i64 0, .int .i64 0, .slice none 0 0, .int .i64 0, .slice none 0 0] 41 (0, 0))) := by unfold Hid; rw [hx2, heap_setCell_other _ _ _ _ (show w.heap.size + 1 ≠ w.heap.size by omega)]; exact hY5
    have HB5 : Hid (Below w.heap.size w w5) := below_next HBx.out HBB.out
    have HBy : Hid (Below w.heap.size w x2) := HB5.out.grown HG2.out HB5.out.size (fun j hj => by cases hj; exact Nat.le_refl _)
    have HRy : Hid (Rd x2 (some ⟨gd, 0, none⟩) (ds ++ m4)) := Rd.grown (HRx.out.below HBB.out) HG2.out (fun a ha => by cases ha; intro h; have h9 := Option.some.inj h; have := HGD.out; simp only at h9; omega)
    have HLy : Hid (RdR x2 (some ⟨gg, 0, none⟩) (l ++ [(7, 7)])) := RdR.grown' (rdR_of HO5.out (by rw [List.length_append, ← HGN.out]; rfl)) HG2.out (fun a ha => by cases ha; intro h; have h9 := Option.some.inj h; have := HAT.out; have := HSx.out; simp only at h9; omega)
    have HGC : Hid _ := hGC
    rw [← hx2]
    clear hx2 hA5 hY5 hGC
    go_wp2_with (first
      | (refine wpList_load_g (by rfl) 41 _ rfl w.heap.size 0 (by rfl) [.int .i64 k, .int .u64 e, .int .u64 s, .int .i64 p, .int .i64 i, .int .i64 c, .slice (some ⟨gd, 0, none⟩) dn DC, .int .i64 cd, .slice (some ⟨gg, 0, none⟩) gn GC] _ (box_range HAy.out) Tryz.underlying41 rfl info_un ?_)
      | (refine wpList_store_mid rfl 41 _ _ rfl (w.heap.size + 1) 0 #[.int .i64 k, .int .u64 e, .int .u64 s, .int .i64 p, .int .i64 i, .int .i64 c, .slice (some ⟨gd, 0, none⟩) dn DC, .int .i64 cd, .slice (some ⟨gg, 0, none⟩) gn GC] rfl rfl (box_there HYy.out rfl) (by kernel_rfl) (by simp [Value.oneCell']) ?_))
    (try simp only [Exit.inBlock, Exit.then])
    refine bodyPost_ret (results_cell_row Tryz.results41 _ _ (w.heap.size + 1) 41 #[.int .i64 k, .int .u64 e, .int .u64 s, .int .i64 p, .int .i64 i, .int .i64 c, .slice (some ⟨gd, 0, none⟩) dn DC, .int .i64 cd, .slice (some ⟨gg, 0, none⟩) gn GC] (0, 0) _ rfl (box_set HYy.out rfl) Tryz.underlying41 rfl (by kernel_rfl)) rfl ?_
    have hfin := setCells_grown (w.heap.size + 1) [.int .i64 k, .int .u64 e, .int .u64 s, .int .i64 p, .int .i64 i, .int .i64 c, .slice (some ⟨gd, 0, none⟩) dn DC, .int .i64 cd, .slice (some ⟨gg, 0, none⟩) gn GC] 0 x2
    exact ⟨gd, gg, GC, rfl, ⟨by have := HGD.out; omega, by have := HAT.out; have := HSx.out; omega, HGC.out⟩, Rd.grown HRy.out hfin (fun a ha => by cases ha; intro h; have h9 := Option.some.inj h; have := HGD.out; simp only at h9; omega), RdR.grown' HLy.out hfin (fun a ha => by cases ha; intro h; have h9 := Option.some.inj h; have := HAT.out; have := HSx.out; simp only at h9; omega), HBy.out.grown hfin HBy.out.size (fun j hj => by cases hj; omega)⟩
end
end Go.Proofs.YtiedgcanndgmoaaGreatDoor
namespace Go.Proofs.YtiedgcanndgmoaaGreatDoor
set_option linter.unusedVariables false
set_option linter.unusedSimpArgs false
open Go.RowKit Go.Maps
theorem eql_rx (u : World) : (binOp .eql 134 (.agg #[.int .i64 7, .int .i64 7]) (.agg #[.int .i64 7, .int .i64 7])).run Tryz.prog u = .ok (.bool true) u := by
  go_simp
section
variable {w w' : World}
set_option maxRecDepth 20000
set_option maxHeartbeats 6400000
theorem RdR.left' {ao : Option Addr} {xs ys : List Rg} (h : RdR w ao (xs ++ ys)) : RdR w ao xs := fun j hj => by
  obtain ⟨b, o, h1, h2, h3⟩ := h j (by rw [List.length_append]; omega)
  rw [List.getElem_append_left hj] at h2 h3
  exact ⟨b, o, h1, h2, h3⟩
theorem kept_t (k e s p i c : Int) (gd : Nat) (dn : Nat) (cd : Int) (gg gn DC GC : Nat) (da : Option Addr) (dc : Nat) (ga : Option Addr) (gc : Nat) (ds : List UInt8) (l : List Rg) (hdn : dn = ds.length) (hgn : gn = l.length) (hDC : DC = dn + 4) (hGC : gn + 1 ≤ GC) (hd : Rd w (some ⟨gd, 0, none⟩) (ds ++ m4)) (hd2 : Rd w da ds) (hg : RdR w (some ⟨gg, 0, none⟩) (l ++ [(7, 7)])) (hg2 : RdR w ga l) (hl : gn ≤ 8796093021952) (hdl : dn ≤ 140737488351232) :
    Calls Tryz.prog 43 #[.agg #[.int .i64 k, .int .u64 e, .int .u64 s, .int .i64 p, .int .i64 i, .int .i64 c, .slice (some ⟨gd, 0, none⟩) dn DC, .int .i64 cd, .slice (some ⟨gg, 0, none⟩) gn GC], .agg #[.int .i64 k, .int .u64 e, .int .u64 s, .int .i64 p, .int .i64 i, .int .i64 c, .slice da dn dc, .int .i64 cd, .slice ga gn gc]] w fun r w' => r = .returned (.bool true) ∧ Below w.heap.size w w' := by
  obtain ⟨w2, hw2⟩ : ∃ w2, w2 = (((w.alloc (.cells #[.int .i64 k, .int .u64 e, .int .u64 s, .int .i64 p, .int .i64 i, .int .i64 c, .slice (some ⟨gd, 0, none⟩) dn DC, .int .i64 cd, .slice (some ⟨gg, 0, none⟩) gn GC] 41 (0, 0))).alloc (.cells #[.int .i64 k, .int .u64 e, .int .u64 s, .int .i64 p, .int .i64 i, .int .i64 c, .slice da dn dc, .int .i64 cd, .slice ga gn gc] 41 (0, 0))).alloc (.cells #[.int .i64 k, .int .u64 e, .int .u64 s, .int .i64 p, .int .i64 i, .int .i64 c, .slice (some ⟨gd, 0, none⟩) dn DC, .int .i64 cd, .slice (some ⟨gg, 0, none⟩) gn GC] 41 (0, 0))).alloc (.cells #[.int .i64 k, .int .u64 e, .int .u64 s, .int .i64 p, .int .i64 i, .int .i64 c, .slice da dn dc, .int .i64 cd, .slice ga gn gc] 41 (0, 0)) := ⟨_, rfl⟩
  have HA0 : Hid (((w.alloc (.cells #[.int .i64 k, .int .u64 e, .int .u64 s, .int .i64 p, .int .i64 i, .int .i64 c, .slice (some ⟨gd, 0, none⟩) dn DC, .int .i64 cd, .slice (some ⟨gg, 0, none⟩) gn GC] 41 (0, 0))).alloc (.cells #[.int .i64 k, .int .u64 e, .int .u64 s, .int .i64 p, .int .i64 i, .int .i64 c, .slice da dn dc, .int .i64 cd, .slice ga gn gc] 41 (0, 0))).heap[w.heap.size]? = some (.cells #[.int .i64 k, .int .u64 e, .int .u64 s, .int .i64 p, .int .i64 i, .int .i64 c, .slice (some ⟨gd, 0, none⟩) dn DC, .int .i64 cd, .slice (some ⟨gg, 0, none⟩) gn GC] 41 (0, 0))) := by
    unfold Hid
    rw [Below.heap_alloc _ _ _ (by simp)]
    exact heap_alloc_new w _
  have HY0 : Hid (((w.alloc (.cells #[.int .i64 k, .int .u64 e, .int .u64 s, .int .i64 p, .int .i64 i, .int .i64 c, .slice (some ⟨gd, 0, none⟩) dn DC, .int .i64 cd, .slice (some ⟨gg, 0, none⟩) gn GC] 41 (0, 0))).alloc (.cells #[.int .i64 k, .int .u64 e, .int .u64 s, .int .i64 p, .int .i64 i, .int .i64 c, .slice da dn dc, .int .i64 cd, .slice ga gn gc] 41 (0, 0))).heap[w.heap.size + 1]? = some (.cells #[.int .i64 k, .int .u64 e, .int .u64 s, .int .i64 p, .int .i64 i, .int .i64 c, .slice da dn dc, .int .i64 cd, .slice ga gn gc] 41 (0, 0))) := by
    have h9 := heap_alloc_new (w.alloc (.cells #[.int .i64 k, .int .u64 e, .int .u64 s, .int .i64 p, .int .i64 i, .int .i64 c, .slice (some ⟨gd, 0, none⟩) dn DC, .int .i64 cd, .slice (some ⟨gg, 0, none⟩) gn GC] 41 (0, 0))) (.cells #[.int .i64 k, .int .u64 e, .int .u64 s, .int .i64 p, .int .i64 i, .int .i64 c, .slice da dn dc, .int .i64 cd, .slice ga gn gc] 41 (0, 0))
    rw [World.size_alloc] at h9
    exact h9
  have HY1 : Hid ((((w.alloc (.cells #[.int .i64 k, .int .u64 e, .int .u64 s, .int .i64 p, .int .i64 i, .int .i64 c, .slice (some ⟨gd, 0, none⟩) dn DC, .int .i64 cd, .slice (some ⟨gg, 0, none⟩) gn GC] 41 (0, 0))).alloc (.cells #[.int .i64 k, .int .u64 e, .int .u64 s, .int .i64 p, .int .i64 i, .int .i64 c, .slice da dn dc, .int .i64 cd, .slice ga gn gc] 41 (0, 0))).alloc (.cells #[.int .i64 k, .int .u64 e, .int .u64 s, .int .i64 p, .int .i64 i, .int .i64 c, .slice (some ⟨gd, 0, none⟩) dn DC, .int .i64 cd, .slice (some ⟨gg, 0, none⟩) gn GC] 41 (0, 0))).heap[w.heap.size + 1]? = some (.cells #[.int .i64 k, .int .u64 e, .int .u64 s, .int .i64 p, .int .i64 i, .int .i64 c, .slice da dn dc, .int .i64 cd, .slice ga gn gc] 41 (0, 0))) := by
    unfold Hid
    rw [Below.heap_alloc _ _ _ (by simp)]
    exact HY0.out
  have hr1 : w2.heap[w.heap.size + 2]? = some (.cells #[.int .i64 k, .int .u64 e, .int .u64 s, .int .i64 p, .int .i64 i, .int .i64 c, .slice (some ⟨gd, 0, none⟩) dn DC, .int .i64 cd, .slice (some ⟨gg, 0, none⟩) gn GC] 41 (0, 0)) := by
    have h9 := heap_alloc_new ((w.alloc (.cells #[.int .i64 k, .int .u64 e, .int .u64 s, .int .i64 p, .int .i64 i, .int .i64 c, .slice (some ⟨gd, 0, none⟩) dn DC, .int .i64 cd, .slice (some ⟨gg, 0, none⟩) gn GC] 41 (0, 0))).alloc (.cells #[.int .i64 k, .int .u64 e, .int .u64 s, .int .i64 p, .int .i64 i, .int .i64 c, .slice da dn dc, .int .i64 cd, .slice ga gn gc] 41 (0, 0))) (.cells #[.int .i64 k, .int .u64 e, .int .u64 s, .int .i64 p, .int .i64 i, .int .i64 c, .slice (some ⟨gd, 0, none⟩) dn DC, .int .i64 cd, .slice (some ⟨gg, 0, none⟩) gn GC] 41 (0, 0))
    rw [World.size_alloc, World.size_alloc] at h9
    rw [hw2, Below.heap_alloc _ _ _ (by simp)]
    exact h9
  have hr2 : w2.heap[w.heap.size + 3]? = some (.cells #[.int .i64 k, .int .u64 e, .int .u64 s, .int .i64 p, .int .i64 i, .int .i64 c, .slice da dn dc, .int .i64 cd, .slice ga gn gc] 41 (0, 0)) := by
    have h9 := heap_alloc_new (((w.alloc (.cells #[.int .i64 k, .int .u64 e, .int .u64 s, .int .i64 p, .int .i64 i, .int .i64 c, .slice (some ⟨gd, 0, none⟩) dn DC, .int .i64 cd, .slice (some ⟨gg, 0, none⟩) gn GC] 41 (0, 0))).alloc (.cells #[.int .i64 k, .int .u64 e, .int .u64 s, .int .i64 p, .int .i64 i, .int .i64 c, .slice da dn dc, .int .i64 cd, .slice ga gn gc] 41 (0, 0))).alloc (.cells #[.int .i64 k, .int .u64 e, .int .u64 s, .int .i64 p, .int .i64 i, .int .i64 c, .slice (some ⟨gd, 0, none⟩) dn DC, .int .i64 cd, .slice (some ⟨gg, 0, none⟩) gn GC] 41 (0, 0))) (.cells #[.int .i64 k, .int .u64 e, .int .u64 s, .int .i64 p, .int .i64 i, .int .i64 c, .slice da dn dc, .int .i64 cd, .slice ga gn gc] 41 (0, 0))
    rw [World.size_alloc, World.size_alloc, World.size_alloc] at h9
    rw [hw2]
    exact h9
  have ha2 : w2.heap[w.heap.size]? = some (.cells #[.int .i64 k, .int .u64 e, .int .u64 s, .int .i64 p, .int .i64 i, .int .i64 c, .slice (some ⟨gd, 0, none⟩) dn DC, .int .i64 cd, .slice (some ⟨gg, 0, none⟩) gn GC] 41 (0, 0)) := by
    rw [hw2, Below.heap_alloc _ _ _ (by simp <;> omega), Below.heap_alloc _ _ _ (by simp <;> omega)]
    exact HA0.out
  have hy2 : w2.heap[w.heap.size + 1]? = some (.cells #[.int .i64 k, .int .u64 e, .int .u64 s, .int .i64 p, .int .i64 i, .int .i64 c, .slice da dn dc, .int .i64 cd, .slice ga gn gc] 41 (0, 0)) := by
    rw [hw2, Below.heap_alloc _ _ _ (by simp)]
    exact HY1.out
  have hb2 : Below w.heap.size w w2 := by rw [hw2]; exact alw (alw (alw (alw (Below.refl _ w) _) _) _) _
  have hc8a : ((w.alloc (.cells #[.int .i64 k, .int .u64 e, .int .u64 s, .int .i64 p, .int .i64 i, .int .i64 c, .slice (some ⟨gd, 0, none⟩) dn DC, .int .i64 cd, .slice (some ⟨gg, 0, none⟩) gn GC] 41 (0, 0))).alloc (.cells #[.int .i64 k, .int .u64 e, .int .u64 s, .int .i64 p, .int .i64 i, .int .i64 c, .slice da dn dc, .int .i64 cd, .slice ga gn gc] 41 (0, 0))).cell? ⟨w.heap.size, 8, none⟩ = some (.slice (some ⟨gg, 0, none⟩) gn GC) := by rw [cell_of_row _ _ _ _ _ _ HA0.out]; rfl
  have hc8b : ((w.alloc (.cells #[.int .i64 k, .int .u64 e, .int .u64 s, .int .i64 p, .int .i64 i, .int .i64 c, .slice (some ⟨gd, 0, none⟩) dn DC, .int .i64 cd, .slice (some ⟨gg, 0, none⟩) gn GC] 41 (0, 0))).alloc (.cells #[.int .i64 k, .int .u64 e, .int .u64 s, .int .i64 p, .int .i64 i, .int .i64 c, .slice da dn dc, .int .i64 cd, .slice ga gn gc] 41 (0, 0))).cell? ⟨w.heap.size + 1, 8, none⟩ = some (.slice ga gn gc) := by rw [cell_of_row _ _ _ _ _ _ HY0.out]; rfl
  obtain ⟨M, hM⟩ : ∃ M, M = gn + 1 := ⟨_, rfl⟩
  have hwr : IntKind.i64.wrap ((gn : Int) + 1) = (M : Int) := by rw [IntKind.wrap_i64]; omega
  have hM1 : (gn : Int) + 1 = (M : Int) := by omega
  have hMG : M ≤ GC := by omega
  have hMG2 : (M : Int) ≤ (GC : Int) := by omega
  have hM0 : (0 : Int) ≤ (M : Int) := by omega
  have hgM : (gn : Int) < (M : Int) := by omega
  have hg0 : (0 : Int) ≤ (gn : Int) := by omega
  have HSU : Hid (Calls Tryz.prog 39 #[.slice (some ⟨w.heap.size + 2, 0, none⟩) 1 1, .slice (some ⟨w.heap.size + 3, 0, none⟩) 1 1] w2 fun r w' => r = .returned (.bool true) ∧ Below w2.heap.size w2 w') := by
    refine sameUnits_t (some ⟨w.heap.size + 2, 0, none⟩) (some ⟨w.heap.size + 3, 0, none⟩) 1 1 1 [⟨k, e, s, p, i, c, ⟨some ⟨gd, 0, none⟩, dn, DC⟩, cd, ⟨some ⟨gg, 0, none⟩, gn, GC⟩⟩] [⟨k, e, s, p, i, c, ⟨da, dn, dc⟩, cd, ⟨ga, gn, gc⟩⟩] rfl rfl (by omega) (rdG_lit (K := KUv) hr1 rfl) (rdG_lit (K := KUv) hr2 rfl) ?_
    intro j h1 h2
    have hj : j = 0 := by simp at h1; omega
    subst hj
    refine ⟨ds, l, ⟨rfl, rfl, rfl, rfl, rfl, rfl, rfl⟩, hdn, hdn, ?_, hd2.below hb2, hgn, hgn, (hg.below hb2).left', hg2.below hb2, by omega, by omega⟩
    have h9 := Rd.take (hd.below hb2) ds.length
    rw [List.take_left' rfl] at h9
    exact h9
  have HST : Hid (∀ u, Below w2.heap.size w2 u → Calls Tryz.prog 40 #[.slice (some ⟨gd, 0, none⟩) dn DC, .slice da dn dc] u fun e w' => e = .returned (.bool true) ∧ Below u.heap.size u w') := fun u hu => by
    rw [hDC, hdn]
    exact stays_t gd da dc ds u (hd.below (below_next hb2 hu)) (hd2.below (below_next hb2 hu)) (by omega)
  have hbx : ∀ u, Below w2.heap.size w2 u → u.cell? ⟨w.heap.size, 6, none⟩ = some (.slice (some ⟨gd, 0, none⟩) dn DC) ∧ u.cell? ⟨w.heap.size + 1, 6, none⟩ = some (.slice da dn dc) ∧ u.cell? ⟨w.heap.size + 1, 8, none⟩ = some (.slice ga gn gc) ∧ u.cell? ⟨gg, gn * 2, none⟩ = some (.int .i64 7) ∧ u.cell? ⟨gg, gn * 2 + 1, none⟩ = some (.int .i64 7) := fun u hu => by
    have h1 := (hu.block _ (Array.getElem?_eq_some_iff.1 ha2).1).trans ha2
    have h2 := (hu.block _ (Array.getElem?_eq_some_iff.1 hy2).1).trans hy2
    obtain ⟨b, o, h3, h4, h5⟩ := (hg.below (below_next hb2 hu)) gn (by rw [List.length_append, hgn]; simp)
    have hlast : (l ++ [((7, 7) : Rg)])[gn]'(by rw [List.length_append, hgn]; simp) = (7, 7) := by
      rw [List.getElem_append_right (by omega)]
      simp
    rw [hlast] at h4 h5
    cases h3
    rw [Nat.zero_add] at h4 h5
    exact ⟨by rw [cell_of_row _ _ _ _ _ _ h1]; rfl, by rw [cell_of_row _ _ _ _ _ _ h2]; rfl, by rw [cell_of_row _ _ _ _ _ _ h2]; rfl, h4, h5⟩
  have HBX : Hid _ := hbx
  have HB2 : Hid _ := hb2
  have HW2 : Hid (w2 = _) := hw2
  have heq := eql_rx
  clear hd hg hdn hgn hDC hd2 hg2 hGC hr1 hr2 ha2 hy2 hb2 hbx hw2 hM
  go_enter Tryz.func43, Tryz.ntmps43
  go_wp2_with (first
    | (refine wpList_load_g (by rfl) 41 _ rfl w.heap.size 0 (by rfl) [.int .i64 k, .int .u64 e, .int .u64 s, .int .i64 p, .int .i64 i, .int .i64 c, .slice (some ⟨gd, 0, none⟩) dn DC, .int .i64 cd, .slice (some ⟨gg, 0, none⟩) gn GC] _ (box_range HA0.out) Tryz.underlying41 rfl info_un ?_)
    | (refine wpList_load_g (by rfl) 41 _ rfl (w.heap.size + 1) 0 (by rfl) [.int .i64 k, .int .u64 e, .int .u64 s, .int .i64 p, .int .i64 i, .int .i64 c, .slice da dn dc, .int .i64 cd, .slice ga gn gc] _ (box_range HY1.out) Tryz.underlying41 rfl info_un ?_)
    | (go_at_call 39; rw [← HW2.out]; refine Calls.mono HSU.out ?_; rintro e1 w3 ⟨rfl, hb3⟩; have hx3 := HBX.out w3 hb3; have HB3 : Hid _ := hb3; clear hb3)
    | (go_at_call 40; refine Calls.mono (HST.out _ HB3.out) ?_; rintro e1 w4 ⟨rfl, hb4⟩; have hx4 := HBX.out w4 (below_next HB3.out hb4); have HB4 : Hid (Below w.heap.size w w4) := below_next HB2.out (below_next HB3.out hb4); clear hb4))
  go_ret
  exact ⟨rfl, HB4.out⟩
end
end Go.Proofs.YtiedgcanndgmoaaGreatDoor
namespace Go.Proofs.YtiedgcanndgmoaaGreatDoor
set_option linter.unusedVariables false
set_option linter.unusedSimpArgs false
open Go.RowKit Go.Maps
/-- one call of a script -/
structure Oe where
  kd : Int
  n : Nat
  k : Fk
  xs : List UInt8
  ba : Option Addr
  bn : Nat
  bc : Nat
  now : Nat
  u : Un
  da : Option Addr
  dn : Nat
  dc : Nat
  ga : Option Addr
  gn : Nat
  gc : Nat
abbrev tOe : TypeId := 43
abbrev Oe.c (y : Oe) : Array Value := #[.int .i64 y.kd, .int .u64 (y.n : Int), .int .i64 y.k.1, .int .u64 (y.k.2 : Int), .slice y.ba y.bn y.bc, .int .u64 (y.now : Int), .int .i64 y.u.kind, .int .u64 y.u.ep, .int .u64 y.u.se, .int .i64 y.u.path, .int .i64 y.u.idx, .int .i64 y.u.cnt, .slice y.da y.dn y.dc, .int .i64 y.u.code, .slice y.ga y.gn y.gc]
structure OeOk (w : World) (y : Oe) : Prop where
  kf : inF y.k
  nn : y.n < 18446744073709551616
  bn : y.bn = y.xs.length
  br : Rd w y.ba y.xs
  bl : y.bn ≤ y.bc
  bz : y.ba = none → y.bc = 0
  bb : y.bc ≤ 140737488351232
  hn : y.dn = y.u.data.length
  hg : y.gn = y.u.got.length
  rd : Rd w y.da y.u.data
  dl : y.u.data.length ≤ y.dc
  dz : y.da = none → y.dc = 0
  db : y.dc ≤ 140737488351232
  rg : RdR w y.ga y.u.got
  gl : y.u.got.length ≤ y.gc
  gz : y.ga = none → y.gc = 0
  gb : y.gc ≤ 8796093021952
  ee : ∃ n : Nat, y.u.ep = (n : Int) ∧ n < 18446744073709551616
  es : ∃ n : Nat, y.u.se = (n : Int) ∧ n < 18446744073709551616
theorem OeOk.below {w w' : World} {x : Oe} (h : OeOk w x) (hb : Below w.heap.size w w') : OeOk w' x := ⟨h.kf, h.nn, h.bn, Rd.below h.br hb, h.bl, h.bz, h.bb, h.hn, h.hg, Rd.below h.rd hb, h.dl, h.dz, h.db, h.rg.below hb, h.gl, h.gz, h.gb, h.ee, h.es⟩
/-- both senders, the program's in the state s, the document's in the state t; the blocks of H are none of theirs -/
structure Exx (w : World) (H : Nat → Prop) (p ms mn pw mw : Nat) (V : Nat → Nat → Value) (q : Nat) (v : Value) (X : Value × Value × Value × Value) (s t : Xs) : Prop where
  a : XSt w p ms mn pw mw V s
  b : Rx w q v X t
  ap : ∀ b, footX p ms mn pw mw V b → ¬ footR q v b
  av : ∀ b, H b → b < w.heap.size ∧ ¬ footX p ms mn pw mw V b ∧ ¬ footR q v b
  tz : Wh.TabZ w
  h0 : H 0
section
variable {w w' : World} {H : Nat → Prop} {p ms mn pw mw : Nat} {V V' : Nat → Nat → Value} {q : Nat} {v v' : Value} {X : Value × Value × Value × Value} {s s' t t' : Xs}
theorem tab_kept (h : Wh.TabZ w) (hb : w'.heap[0]? = w.heap[0]?) : Wh.TabZ w' := fun j hj => (World.cell?_of_block hb).trans (h j hj)
theorem Exx.below (h : Exx w H p ms mn pw mw V q v X s t) (hb : Below w.heap.size w w') : Exx w' H p ms mn pw mw V q v X s t :=
  ⟨h.a.below hb, h.b.below hb, h.ap, fun b hb' => ⟨Nat.lt_of_lt_of_le (h.av b hb').1 hb.size, (h.av b hb').2⟩, h.tz.below hb, h.h0⟩
theorem Exx.chg0 (h : Exx w H p ms mn pw mw V q v X s t) {F : Nat → Prop} (hc : Chg F w w') (h1 : ∀ b, F b → ¬ footX p ms mn pw mw V b) (h2 : ∀ b, F b → ¬ footR q v b) (h3 : ∀ b, F b → ¬ H b) : Exx w' H p ms mn pw mw V q v X s t :=
  ⟨h.a.chg hc (fun b hb hf => h1 b hf hb), h.b.chg hc (fun b hb hf => h2 b hf hb), h.ap, fun b hb' => ⟨Nat.lt_of_lt_of_le (h.av b hb').1 hc.size, (h.av b hb').2⟩, tab_kept h.tz (hc.block 0 (h.av 0 h.h0).1 (fun hf => h3 0 hf h.h0)), h.h0⟩
theorem Exx.prog (h : Exx w H p ms mn pw mw V q v X s t) (ha : XSt w' p ms mn pw mw V' s') (hs : XStp w w' p ms mn pw mw V V') : Exx w' H p ms mn pw mw V' q v X s' t ∧ Chg (fun b => ¬ H b) w w' := by
  have hq : ∀ b, footR q v b → ¬ footX p ms mn pw mw V b := fun b hb hf => h.ap b hf hb
  refine ⟨⟨ha, h.b.chg hs.chg hq, ?_, ?_, tab_kept h.tz (hs.chg.block 0 (h.av 0 h.h0).1 (h.av 0 h.h0).2.1), h.h0⟩, hs.chg.mono (fun b hb hh => (h.av b hh).2.1 hb)⟩
  · intro b hb hr
    rcases hs.new b hb with h1 | h1
    · exact h.ap b h1 hr
    · have := h.b.lt hr; omega
  · intro b hb
    refine ⟨Nat.lt_of_lt_of_le (h.av b hb).1 hs.chg.size, fun hf => ?_, (h.av b hb).2.2⟩
    rcases hs.new b hf with h1 | h1
    · exact (h.av b hb).2.1 h1
    · have := (h.av b hb).1; omega
theorem Exx.doc (h : Exx w H p ms mn pw mw V q v X s t) (ha : Rx w' q v' X t') (hs : RxStp w w' q v v') : Exx w' H p ms mn pw mw V q v' X s t' ∧ Chg (fun b => ¬ H b) w w' := by
  refine ⟨⟨h.a.chg hs.chg h.ap, ha, ?_, ?_, tab_kept h.tz (hs.chg.block 0 (h.av 0 h.h0).1 (h.av 0 h.h0).2.2), h.h0⟩, hs.chg.mono (fun b hb hh => (h.av b hh).2.2 hb)⟩
  · intro b hb hr
    rcases hs.new b hr with h1 | h1
    · exact h.ap b hb h1
    · have := h.a.lt hb; omega
  · intro b hb
    refine ⟨Nat.lt_of_lt_of_le (h.av b hb).1 hs.chg.size, (h.av b hb).2.1, fun hf => ?_⟩
    rcases hs.new b hf with h1 | h1
    · exact (h.av b hb).2.2 h1
    · have := (h.av b hb).1; omega
/-- one block more that is none of theirs -/
theorem Exx.more (h : Exx w H p ms mn pw mw V q v X s t) {B : Nat} (hB : B < w.heap.size) (h1 : ¬ footX p ms mn pw mw V B) (h2 : ¬ footR q v B) : Exx w (fun b => H b ∨ b = B) p ms mn pw mw V q v X s t :=
  ⟨h.a, h.b, h.ap, fun b hb => by
    rcases hb with hb | rfl
    · exact h.av b hb
    · exact ⟨hB, h1, h2⟩, h.tz, .inl h.h0⟩
theorem Exx.less {H' : Nat → Prop} (h : Exx w H p ms mn pw mw V q v X s t) (hs : ∀ b, H' b → H b) (h0 : H' 0) : Exx w H' p ms mn pw mw V q v X s t := ⟨h.a, h.b, h.ap, fun b hb => h.av b (hs b hb), h.tz, h0⟩
theorem Exx.box (h : Exx w H p ms mn pw mw V q v X s t) (o : Obj) : Exx (w.alloc o) (fun b => H b ∨ b = w.heap.size) p ms mn pw mw V q v X s t :=
  (h.below (alw (Below.refl _ _) o)).more (by simp) (fun hf => Nat.lt_irrefl _ (h.a.lt hf)) (fun hf => Nat.lt_irrefl _ (h.b.lt hf))
theorem Chg.less {F G : Nat → Prop} (h : Chg F w w') (hG : ∀ b, F b → G b) : Chg G w w' := h.mono hG
/-- a new row is none of theirs -/
theorem Exx.fresh (h : Exx w H p ms mn pw mw V q v X s t) {b : Nat} (hb : w.heap.size ≤ b) : ¬ footX p ms mn pw mw V b ∧ ¬ footR q v b := ⟨fun hf => by have := h.a.lt hf; omega, fun hf => by have := h.b.lt hf; omega⟩
/-- what a step leaves -/
structure StpOut (w w' : World) (H : Nat → Prop) (p ms mn pw mw : Nat) (V' : Nat → Nat → Value) (q : Nat) (v' : Value) (X : Value × Value × Value × Value) (s s' : Xs) : Prop where
  st : Exx w' H p ms mn pw mw V' q v' X s' s'
  chg : Chg (fun b => ¬ H b) w w'
  bg : s'.beg ≤ s.beg + 1
end
end Go.Proofs.YtiedgcanndgmoaaGreatDoor
namespace Go.Proofs.YtiedgcanndgmoaaGreatDoor
set_option linter.unusedVariables false
set_option linter.unusedSimpArgs false
open Go.RowKit Go.Maps
section
variable {w w' : World} {H : Nat → Prop} {p ms mn pw mw : Nat} {V V' : Nat → Nat → Value} {q : Nat} {v v' : Value} {X : Value × Value × Value × Value} {s s' t t' : Xs}
set_option maxRecDepth 20000
set_option maxHeartbeats 6400000
theorem oeCells {u : World} {B : Nat} {y : Oe} (h : u.heap[B]? = some (.cells y.c tOe (0, 0))) : u.cell? ⟨B, 0, none⟩ = some (.int .i64 y.kd) ∧ u.cell? ⟨B, 1, none⟩ = some (.int .u64 (y.n : Int)) ∧ u.cell? ⟨B, 2, none⟩ = some (.int .i64 y.k.1) ∧ u.cell? ⟨B, 3, none⟩ = some (.int .u64 (y.k.2 : Int)) ∧ u.cell? ⟨B, 4, none⟩ = some (.slice y.ba y.bn y.bc) ∧ u.cell? ⟨B, 5, none⟩ = some (.int .u64 (y.now : Int)) := by
  refine ⟨?_, ?_, ?_, ?_, ?_, ?_⟩
  all_goals (rw [cell_of_row _ _ _ _ _ _ h]; rfl)
theorem step_tick (h : Exx w H p ms mn pw mw V q v X s s) (y : Oe) (k1 : (y.kd == 1) = false) (k2 : (y.kd == 2) = false) (k3 : (y.kd == 3) = true) :
    Calls Tryz.prog 20 #[.pointer (some ⟨p, 0, none⟩), .pointer (some ⟨q, 0, none⟩), .agg y.c] w fun e w' => e = .returned (.bool true) ∧ ∃ V' v' s', StpOut w w' H p ms mn pw mw V' q v' X s s' := by
  obtain ⟨w1, hw1⟩ : ∃ w1, w1 = w.alloc (.cells y.c tOe) := ⟨_, rfl⟩
  have h1 := h.box (.cells y.c tOe)
  rw [← hw1] at h1
  have hbx1 : w1.heap[w.heap.size]? = some (.cells y.c tOe (0, 0)) := by rw [hw1]; exact heap_alloc_new w _
  have hoc := fun (u : World) (hu : u.heap[w.heap.size]? = some (.cells y.c tOe (0, 0))) => oeCells hu
  have hc1 : (w.alloc (.cells y.c tOe)).cell? ⟨w.heap.size, 0, none⟩ = some (.int .i64 y.kd) := by rw [← hw1]; exact (hoc w1 hbx1).1
  have HCW : Hid (Chg (fun b => ¬ H b) w w1) := by unfold Hid; rw [hw1]; exact Chg.of_below (alw (Below.refl _ _) _)
  have HW1 : Hid (w1 = _) := hw1
  have HH : Hid _ := h1
  have HZ0 : Hid (H 0) := h.h0
  have HBX : Hid _ := hbx1
  have HAV : Hid (∀ u u', Chg (fun b => ¬ (H b ∨ b = w.heap.size)) u u' → w.heap.size < u.heap.size → u'.heap[w.heap.size]? = u.heap[w.heap.size]?) := fun u u' hc hl => hc.block _ hl (fun h9 => h9 (.inr rfl))
  have HLS : Hid (∀ u u', Chg (fun b => ¬ (H b ∨ b = w.heap.size)) u u' → Chg (fun b => ¬ H b) u u') := fun u u' hc => hc.mono (fun b hb hh => hb (.inl hh))
  have hd : Exx w1.drew (fun b => H b ∨ b = w.heap.size) p ms mn pw mw V q v X s s := h1.below (Below.refl _ _).drew
  have HT : Hid _ := xtick_t hd.a hd.tz y.now
  have HD : Hid _ := hd
  have HBD : Hid (w1.drew.heap[w.heap.size]? = some (.cells y.c tOe (0, 0))) := hbx1
  have HCD : Hid (Chg (fun b => ¬ H b) w w1.drew) := HCW.out.drew
  obtain ⟨C, hC⟩ : ∃ C, C = max s.clk (min y.now mxX) := ⟨_, rfl⟩
  have HC : Hid _ := hC
  rw [← hC] at HT
  obtain ⟨n, hn⟩ : ∃ n, n = ((dueX { s with clk := C }).map Xe.k).length := ⟨_, rfl⟩
  have hn64 : n ≤ 64 := by
    rw [hn, List.length_map]
    exact Nat.le_trans (List.length_filter_le _ _) h.a.inv.len
  have HN : Hid _ := hn
  clear h h1 hw1 hbx1 hd hC hn
  go_enter Tryz.func20, Tryz.ntmps20
  go_wp2_with fail
  rw [← HW1.out]
  clear hc1
  refine wp_region_noPanic ?_
  refine wp_region_held_drew (S := (fun u => u.heap[w.heap.size]? = some (.cells y.c tOe (0, 0)))) (by kernel_rfl) (by first | exact HBD.out | exact HS2.out | exact HS3.out | exact HS4.out | assumption) (fun hHeld => ?_)
  refine tz (i := 0) 142 rfl rfl hHeld ?_
  simp only [pS]
  refine tz (i := 1) 143 rfl rfl hHeld ?_
  simp only [pS]
  refine tz (i := 2) 144 rfl rfl hHeld ?_
  simp only [pS]
  refine tz (i := 4) 146 rfl rfl hHeld ?_
  simp only [pS]
  refine tz (i := 5) 147 rfl rfl hHeld ?_
  simp only [pS]
  refine tz (i := 6) 148 rfl rfl hHeld ?_
  simp only [pS]
  refine run_at (i := 3) rfl (by kernel_rfl) (by rfl) (fun K hK => ?_)
  simp only [List.getElem_toArray, List.getElem_cons_zero, List.getElem_cons_succ]
  go_simp
  first | (go_at_call 16; refine Calls.mono HT.out ?_; rintro e9 w2 ⟨va, V', rfl, hown, hst, hstp, hfar⟩; obtain ⟨aa, ca, hva, -⟩ := hown.val; rw [← HN.out] at hva; subst hva; have hp2 := HD.out.prog hst hstp; have HP2 : Hid _ := hp2.1; have HS2 : Hid (w2.heap[w.heap.size]? = _) := (HAV.out _ _ hp2.2 (Array.getElem?_eq_some_iff.1 HBD.out).1).trans HBD.out; have HC2 : Hid (Chg (fun b => ¬ H b) w w2) := HCD.out.trans (HLS.out _ _ hp2.2) (fun b hb => .inl hb); have HO2 : Hid _ := hown; have HSZ2 : Hid (w1.drew.heap.size ≤ w2.heap.size) := hstp.chg.size; clear hown hst hstp hfar hp2) | (go_at_call 44; refine Calls.mono (rtick_t HP2.out.b y.now) ?_; rintro e9 w3 ⟨vb, v', rfl, hownb, hR, hRs, hfarb⟩; rw [← HC.out] at hownb hR; have hownb2 : OwnG KKy w3 w2.heap.size vb ((dueX { s with clk := C }).map Xe.k) := hownb; obtain ⟨ab, cb, hvb, -⟩ := hownb2.val; rw [← HN.out] at hvb; subst hvb; have hp3 := HP2.out.doc hR hRs; have HP3 : Hid _ := hp3.1; have HS3 : Hid (w3.heap[w.heap.size]? = _) := (HAV.out _ _ hp3.2 (Array.getElem?_eq_some_iff.1 HS2.out).1).trans HS2.out; have HC3 : Hid (Chg (fun b => ¬ H b) w w3) := HC2.out.trans (HLS.out _ _ hp3.2) (fun b hb => .inl hb); have HOB : Hid _ := hownb2; have HOA : Hid (OwnG KKy w3 w1.drew.heap.size (.slice aa n ca) ((dueX { s with clk := C }).map Xe.k)) := OwnG.kept HO2.out (fun b hb => hRs.chg.block b (OwnG.lt' HO2.out hb).2 (fun hf => by have := HD.out.b.lt hf; have := (OwnG.lt' HO2.out hb).1; omega)); clear hownb hownb2 hR hRs hfarb hp3) | (go_at_call 15; refine Calls.mono (sameKeys_t aa ab n ca cb ((dueX { s with clk := C }).map Xe.k) HN.out (by omega) (by obtain ⟨a9, c9, h91, -, -, -, h92⟩ := OwnG.val HOA.out; cases h91; exact h92) (by obtain ⟨a9, c9, h91, -, -, -, h92⟩ := OwnG.val HOB.out; cases h91; exact h92)) ?_; rintro e9 w4 ⟨rfl, hb4⟩; have HB4 : Hid _ := hb4; have HS4 : Hid (w4.heap[w.heap.size]? = _) := (hb4.block _ (Array.getElem?_eq_some_iff.1 HS3.out).1).trans HS3.out; clear hb4)
  go_wp2_with fail
  refine hK.out _ _ (by first | exact HBD.out | exact HS2.out | exact HS3.out | exact HS4.out | assumption) ?_
  clear hK K
  intro hHeld2
  clear hHeld
  have hHeld := hHeld2
  clear hHeld2
  try simp only [pS]
  refine run_at (i := 7) rfl (by kernel_rfl) (by rfl) (fun K hK => ?_)
  simp only [List.getElem_toArray, List.getElem_cons_zero, List.getElem_cons_succ]
  go_simp
  first | (go_at_call 16; refine Calls.mono HT.out ?_; rintro e9 w2 ⟨va, V', rfl, hown, hst, hstp, hfar⟩; obtain ⟨aa, ca, hva, -⟩ := hown.val; rw [← HN.out] at hva; subst hva; have hp2 := HD.out.prog hst hstp; have HP2 : Hid _ := hp2.1; have HS2 : Hid (w2.heap[w.heap.size]? = _) := (HAV.out _ _ hp2.2 (Array.getElem?_eq_some_iff.1 HBD.out).1).trans HBD.out; have HC2 : Hid (Chg (fun b => ¬ H b) w w2) := HCD.out.trans (HLS.out _ _ hp2.2) (fun b hb => .inl hb); have HO2 : Hid _ := hown; have HSZ2 : Hid (w1.drew.heap.size ≤ w2.heap.size) := hstp.chg.size; clear hown hst hstp hfar hp2) | (go_at_call 44; refine Calls.mono (rtick_t HP2.out.b y.now) ?_; rintro e9 w3 ⟨vb, v', rfl, hownb, hR, hRs, hfarb⟩; rw [← HC.out] at hownb hR; have hownb2 : OwnG KKy w3 w2.heap.size vb ((dueX { s with clk := C }).map Xe.k) := hownb; obtain ⟨ab, cb, hvb, -⟩ := hownb2.val; rw [← HN.out] at hvb; subst hvb; have hp3 := HP2.out.doc hR hRs; have HP3 : Hid _ := hp3.1; have HS3 : Hid (w3.heap[w.heap.size]? = _) := (HAV.out _ _ hp3.2 (Array.getElem?_eq_some_iff.1 HS2.out).1).trans HS2.out; have HC3 : Hid (Chg (fun b => ¬ H b) w w3) := HC2.out.trans (HLS.out _ _ hp3.2) (fun b hb => .inl hb); have HOB : Hid _ := hownb2; have HOA : Hid (OwnG KKy w3 w1.drew.heap.size (.slice aa n ca) ((dueX { s with clk := C }).map Xe.k)) := OwnG.kept HO2.out (fun b hb => hRs.chg.block b (OwnG.lt' HO2.out hb).2 (fun hf => by have := HD.out.b.lt hf; have := (OwnG.lt' HO2.out hb).1; omega)); clear hownb hownb2 hR hRs hfarb hp3) | (go_at_call 15; refine Calls.mono (sameKeys_t aa ab n ca cb ((dueX { s with clk := C }).map Xe.k) HN.out (by omega) (by obtain ⟨a9, c9, h91, -, -, -, h92⟩ := OwnG.val HOA.out; cases h91; exact h92) (by obtain ⟨a9, c9, h91, -, -, -, h92⟩ := OwnG.val HOB.out; cases h91; exact h92)) ?_; rintro e9 w4 ⟨rfl, hb4⟩; have HB4 : Hid _ := hb4; have HS4 : Hid (w4.heap[w.heap.size]? = _) := (hb4.block _ (Array.getElem?_eq_some_iff.1 HS3.out).1).trans HS3.out; clear hb4)
  go_wp2_with fail
  refine hK.out _ _ (by first | exact HBD.out | exact HS2.out | exact HS3.out | exact HS4.out | assumption) ?_
  clear hK K
  intro hHeld2
  clear hHeld
  have hHeld := hHeld2
  clear hHeld2
  try simp only [pS]
  refine run_at (i := 8) rfl (by kernel_rfl) (by rfl) (fun K hK => ?_)
  simp only [List.getElem_toArray, List.getElem_cons_zero, List.getElem_cons_succ]
  go_simp
  first | (go_at_call 16; refine Calls.mono HT.out ?_; rintro e9 w2 ⟨va, V', rfl, hown, hst, hstp, hfar⟩; obtain ⟨aa, ca, hva, -⟩ := hown.val; rw [← HN.out] at hva; subst hva; have hp2 := HD.out.prog hst hstp; have HP2 : Hid _ := hp2.1; have HS2 : Hid (w2.heap[w.heap.size]? = _) := (HAV.out _ _ hp2.2 (Array.getElem?_eq_some_iff.1 HBD.out).1).trans HBD.out; have HC2 : Hid (Chg (fun b => ¬ H b) w w2) := HCD.out.trans (HLS.out _ _ hp2.2) (fun b hb => .inl hb); have HO2 : Hid _ := hown; have HSZ2 : Hid (w1.drew.heap.size ≤ w2.heap.size) := hstp.chg.size; clear hown hst hstp hfar hp2) | (go_at_call 44; refine Calls.mono (rtick_t HP2.out.b y.now) ?_; rintro e9 w3 ⟨vb, v', rfl, hownb, hR, hRs, hfarb⟩; rw [← HC.out] at hownb hR; have hownb2 : OwnG KKy w3 w2.heap.size vb ((dueX { s with clk := C }).map Xe.k) := hownb; obtain ⟨ab, cb, hvb, -⟩ := hownb2.val; rw [← HN.out] at hvb; subst hvb; have hp3 := HP2.out.doc hR hRs; have HP3 : Hid _ := hp3.1; have HS3 : Hid (w3.heap[w.heap.size]? = _) := (HAV.out _ _ hp3.2 (Array.getElem?_eq_some_iff.1 HS2.out).1).trans HS2.out; have HC3 : Hid (Chg (fun b => ¬ H b) w w3) := HC2.out.trans (HLS.out _ _ hp3.2) (fun b hb => .inl hb); have HOB : Hid _ := hownb2; have HOA : Hid (OwnG KKy w3 w1.drew.heap.size (.slice aa n ca) ((dueX { s with clk := C }).map Xe.k)) := OwnG.kept HO2.out (fun b hb => hRs.chg.block b (OwnG.lt' HO2.out hb).2 (fun hf => by have := HD.out.b.lt hf; have := (OwnG.lt' HO2.out hb).1; omega)); clear hownb hownb2 hR hRs hfarb hp3) | (go_at_call 15; refine Calls.mono (sameKeys_t aa ab n ca cb ((dueX { s with clk := C }).map Xe.k) HN.out (by omega) (by obtain ⟨a9, c9, h91, -, -, -, h92⟩ := OwnG.val HOA.out; cases h91; exact h92) (by obtain ⟨a9, c9, h91, -, -, -, h92⟩ := OwnG.val HOB.out; cases h91; exact h92)) ?_; rintro e9 w4 ⟨rfl, hb4⟩; have HB4 : Hid _ := hb4; have HS4 : Hid (w4.heap[w.heap.size]? = _) := (hb4.block _ (Array.getElem?_eq_some_iff.1 HS3.out).1).trans HS3.out; clear hb4)
  go_wp2_with fail
  refine hK.out _ _ (by first | exact HBD.out | exact HS2.out | exact HS3.out | exact HS4.out | assumption) ?_
  clear hK K
  intro hHeld2
  clear hHeld
  have hHeld := hHeld2
  clear hHeld2
  try simp only [pS]
  refine tz (i := 9) 6 rfl rfl hHeld ?_
  simp only [pS]
  refine wpAnyH_done (by kernel_rfl) ?_ _
  refine NoPanic.normal ?_
  clear hHeld hoc
  go_wp2
  go_ret
  have h9 := HP3.out.below HB4.out
  have hR := h9.b.of_eq (t := tickX { s with clk := C }) rfl rfl rfl rfl rfl h9.a.inv
  exact ⟨rfl, V', v', tickX { s with clk := C }, ⟨⟨h9.a, hR, h9.ap, fun b hb => h9.av b (.inl hb), h9.tz, HZ0.out⟩, HC3.out.trans (Chg.of_below HB4.out) (fun b hb => .inl hb), Nat.le_succ _⟩⟩
end
end Go.Proofs.YtiedgcanndgmoaaGreatDoor
namespace Go.Proofs.YtiedgcanndgmoaaGreatDoor
set_option linter.unusedVariables false
set_option linter.unusedSimpArgs false
open Go.RowKit Go.Maps
section
variable {w w' : World} {H : Nat → Prop} {p ms mn pw mw : Nat} {V V' : Nat → Nat → Value} {q : Nat} {v v' : Value} {X : Value × Value × Value × Value} {s s' t t' : Xs}
set_option maxRecDepth 20000
set_option maxHeartbeats 6400000
theorem step_busy (h : Exx w H p ms mn pw mw V q v X s s) (y : Oe) (k1 : (y.kd == 1) = false) (k2 : (y.kd == 2) = false) (k3 : (y.kd == 3) = false) (k4 : (y.kd == 4) = false) :
    Calls Tryz.prog 20 #[.pointer (some ⟨p, 0, none⟩), .pointer (some ⟨q, 0, none⟩), .agg y.c] w fun e w' => e = .returned (.bool true) ∧ ∃ V' v' s', StpOut w w' H p ms mn pw mw V' q v' X s s' := by
  obtain ⟨w1, hw1⟩ : ∃ w1, w1 = w.alloc (.cells y.c tOe) := ⟨_, rfl⟩
  have h1 := h.box (.cells y.c tOe)
  rw [← hw1] at h1
  have hbx1 : w1.heap[w.heap.size]? = some (.cells y.c tOe (0, 0)) := by rw [hw1]; exact heap_alloc_new w _
  have hoc := fun (u : World) (hu : u.heap[w.heap.size]? = some (.cells y.c tOe (0, 0))) => oeCells hu
  have hc1 : (w.alloc (.cells y.c tOe)).cell? ⟨w.heap.size, 0, none⟩ = some (.int .i64 y.kd) := by rw [← hw1]; exact (hoc w1 hbx1).1
  have HCW : Hid (Chg (fun b => ¬ H b) w w1) := by unfold Hid; rw [hw1]; exact Chg.of_below (alw (Below.refl _ _) _)
  have HW1 : Hid (w1 = _) := hw1
  have HH : Hid _ := h1
  have HZ0 : Hid (H 0) := h.h0
  have HBX : Hid _ := hbx1
  have HAV : Hid (∀ u u', Chg (fun b => ¬ (H b ∨ b = w.heap.size)) u u' → w.heap.size < u.heap.size → u'.heap[w.heap.size]? = u.heap[w.heap.size]?) := fun u u' hc hl => hc.block _ hl (fun h9 => h9 (.inr rfl))
  have HLS : Hid (∀ u u', Chg (fun b => ¬ (H b ∨ b = w.heap.size)) u u' → Chg (fun b => ¬ H b) u u') := fun u u' hc => hc.mono (fun b hb hh => hb (.inl hh))
  obtain ⟨n, hn⟩ : ∃ n, n = (s.L.map Xe.k).length := ⟨_, rfl⟩
  have hn64 : n ≤ 64 := by rw [hn, List.length_map]; exact h.a.inv.len
  have HN : Hid _ := hn
  clear h h1 hw1 hbx1 hn hoc
  go_enter Tryz.func20, Tryz.ntmps20
  go_wp2_with fail
  rw [← HW1.out]
  clear hc1
  refine Calls.mono (xbusy_t HH.out.a) ?_
  rintro e9 w2 ⟨va, rfl, hown, hb2⟩
  obtain ⟨aa, ca, hva, -, -, -, hra⟩ := hown.val
  rw [← HN.out] at hva
  subst hva
  have HP2 : Hid _ := HH.out.below hb2
  have HRA : Hid (RdG KKy w2 aa (s.L.map Xe.k)) := hra
  have HB2 : Hid _ := hb2
  clear hown hb2 hra
  go_wp2_with fail
  refine Calls.mono (rbusy_t HP2.out.b) ?_
  rintro e9 w3 ⟨vb, rfl, hownb, hb3⟩
  obtain ⟨ab, cb, hvb, -, -, -, hrb⟩ := hownb.val
  rw [← HN.out] at hvb
  subst hvb
  have HP3 : Hid _ := HP2.out.below hb3
  have HRB : Hid (RdG KKy w3 ab (s.L.map Xe.k)) := hrb
  have HRA3 : Hid (RdG KKy w3 aa (s.L.map Xe.k)) := RdG.below HRA.out hb3
  have HB3 : Hid _ := hb3
  clear hownb hb3 hrb
  go_wp2_with fail
  refine Calls.mono (sameKeys_t aa ab n ca cb (s.L.map Xe.k) HN.out (by omega) HRA3.out HRB.out) ?_
  rintro e9 w4 ⟨rfl, hb4⟩
  have HB4 : Hid _ := hb4
  clear hb4
  go_wp2
  go_ret
  have h9 := HP3.out.below HB4.out
  exact ⟨rfl, V, v, s, ⟨h9.less (fun b hb => .inl hb) HZ0.out, ((HCW.out.trans (Chg.of_below HB2.out) (fun b hb => .inl hb)).trans (Chg.of_below HB3.out) (fun b hb => .inl hb)).trans (Chg.of_below HB4.out) (fun b hb => .inl hb), Nat.le_succ _⟩⟩
theorem step_stop (h : Exx w H p ms mn pw mw V q v X s s) (y : Oe) (k1 : (y.kd == 1) = false) (k2 : (y.kd == 2) = false) (k3 : (y.kd == 3) = false) (k4 : (y.kd == 4) = true) (hkf : inF y.k) :
    Calls Tryz.prog 20 #[.pointer (some ⟨p, 0, none⟩), .pointer (some ⟨q, 0, none⟩), .agg y.c] w fun e w' => e = .returned (.bool true) ∧ ∃ V' v' s', StpOut w w' H p ms mn pw mw V' q v' X s s' := by
  obtain ⟨w1, hw1⟩ : ∃ w1, w1 = w.alloc (.cells y.c tOe) := ⟨_, rfl⟩
  have h1 := h.box (.cells y.c tOe)
  rw [← hw1] at h1
  have hbx1 : w1.heap[w.heap.size]? = some (.cells y.c tOe (0, 0)) := by rw [hw1]; exact heap_alloc_new w _
  have hoc := fun (u : World) (hu : u.heap[w.heap.size]? = some (.cells y.c tOe (0, 0))) => oeCells hu
  have hc1 : (w.alloc (.cells y.c tOe)).cell? ⟨w.heap.size, 0, none⟩ = some (.int .i64 y.kd) := by rw [← hw1]; exact (hoc w1 hbx1).1
  have HCW : Hid (Chg (fun b => ¬ H b) w w1) := by unfold Hid; rw [hw1]; exact Chg.of_below (alw (Below.refl _ _) _)
  have HW1 : Hid (w1 = _) := hw1
  have HH : Hid _ := h1
  have HZ0 : Hid (H 0) := h.h0
  have HBX : Hid _ := hbx1
  have HAV : Hid (∀ u u', Chg (fun b => ¬ (H b ∨ b = w.heap.size)) u u' → w.heap.size < u.heap.size → u'.heap[w.heap.size]? = u.heap[w.heap.size]?) := fun u u' hc hl => hc.block _ hl (fun h9 => h9 (.inr rfl))
  have HLS : Hid (∀ u u', Chg (fun b => ¬ (H b ∨ b = w.heap.size)) u u' → Chg (fun b => ¬ H b) u u') := fun u u' hc => hc.mono (fun b hb hh => hb (.inl hh))
  have hcs := hoc w1 hbx1
  rw [hw1] at hcs
  by_cases hin : y.k ∈ s.L.map Xe.k
  · obtain ⟨x, hx, hxk⟩ := List.mem_map.1 hin
    have HS : Hid _ := xstop_in h1.a x hx
    rw [hxk] at HS
    have HX : Hid _ := hx
    have HXK : Hid _ := hxk
    clear h h1 hw1 hbx1 hin hx hxk hkf
    go_enter Tryz.func20, Tryz.ntmps20
    go_wp2_with fail
    rw [← HW1.out]
    refine Calls.mono HS.out ?_
    rintro e9 w2 ⟨rfl, V', hst, hstp⟩
    have hp2 := HH.out.prog hst hstp
    have hbx2 := (HAV.out _ _ hp2.2 (Array.getElem?_eq_some_iff.1 HBX.out).1).trans HBX.out
    have hc2 := hoc w2 hbx2
    have HP2 : Hid _ := hp2.1
    have HC2 : Hid (Chg (fun b => ¬ H b) w w2) := HCW.out.trans (HLS.out _ _ hp2.2) (fun b hb => .inl hb)
    have HR : Hid _ := rstop_in hp2.1.b x HX.out
    rw [HXK.out] at HR
    clear hst hstp hp2 hbx2 hcs hc1 hoc
    go_wp2_with fail
    refine Calls.mono HR.out ?_
    rintro e9 w3 ⟨rfl, v', hR, hRs⟩
    have hp3 := HP2.out.doc hR hRs
    have HP3 : Hid _ := hp3.1
    have HC3 : Hid (Chg (fun b => ¬ H b) w w3) := HC2.out.trans (HLS.out _ _ hp3.2) (fun b hb => .inl hb)
    clear hR hRs hp3 hc2
    go_wp2
    go_ret
    exact ⟨rfl, V', v', _, ⟨HP3.out.less (fun b hb => .inl hb) HZ0.out, HC3.out, Nat.le_succ _⟩⟩
  · have HS : Hid _ := xstop_out h1.a y.k hkf hin
    have HIN : Hid _ := hin
    clear h h1 hw1 hbx1 hin hkf
    go_enter Tryz.func20, Tryz.ntmps20
    go_wp2_with fail
    rw [← HW1.out]
    refine Calls.mono HS.out ?_
    rintro e9 w2 ⟨rfl, hb2⟩
    have hbx2 := (hb2.block _ (Array.getElem?_eq_some_iff.1 HBX.out).1).trans HBX.out
    have hc2 := hoc w2 hbx2
    have HP2 : Hid _ := HH.out.below hb2
    have HB2 : Hid _ := hb2
    have HR : Hid _ := rstop_out (HH.out.below hb2).b y.k HIN.out
    clear hb2 hbx2 hcs hc1 hoc
    go_wp2_with fail
    refine Calls.mono HR.out ?_
    rintro e9 w3 ⟨rfl, hb3⟩
    have HB3 : Hid _ := hb3
    clear hb3 hc2
    go_wp2
    go_ret
    exact ⟨rfl, V, v, s, ⟨(HP2.out.below HB3.out).less (fun b hb => .inl hb) HZ0.out, (HCW.out.trans (Chg.of_below HB2.out) (fun b hb => .inl hb)).trans (Chg.of_below HB3.out) (fun b hb => .inl hb), Nat.le_succ _⟩⟩
end
end Go.Proofs.YtiedgcanndgmoaaGreatDoor
namespace Go.Proofs.YtiedgcanndgmoaaGreatDoor
set_option linter.unusedVariables false
set_option linter.unusedSimpArgs false
open Go.RowKit Go.Maps
def HearP (s : Xs) (k e z pt ix c : Int) (dn : Nat) (cd : Int) (gn : Nat) (l : List Rg) (a b d : Int) (r : Bool) (s' : Xs) : Prop := ∀ (w : World) (p ms mn pw mw : Nat) (V : Nat → Nat → Value), XSt w p ms mn pw mw V s → ∀ (da : Option Addr) (dc : Nat) (ga : Option Addr) (gc : Nat), RdR w ga l → gn ≤ gc →
  Calls Tryz.prog 13 #[.pointer (some ⟨p, 0, none⟩), .agg (ucl k e z pt ix c da dn dc cd ga gn gc)] w fun e9 w' => e9 = .returned (.tuple #[doneV a b d, .bool r]) ∧ ∃ V', XSt w' p ms mn pw mw V' s' ∧ XStp w w' p ms mn pw mw V V'
def HearD (s : Xs) (k e z pt ix c : Int) (dn : Nat) (cd : Int) (gn : Nat) (l : List Rg) (a b d : Int) (r : Bool) (s' : Xs) : Prop := ∀ (w : World) (q : Nat) (v : Value) (X : Value × Value × Value × Value), Rx w q v X s → ∀ (da : Option Addr) (dc : Nat) (ga : Option Addr) (gc : Nat), RdR w ga l →
  Calls Tryz.prog 42 #[.pointer (some ⟨q, 0, none⟩), .agg (ucl k e z pt ix c da dn dc cd ga gn gc)] w fun e9 w' => e9 = .returned (.tuple #[doneV a b d, .bool r]) ∧ ∃ v', Rx w' q v' X s' ∧ RxStp w w' q v v'
theorem negP {w : World} {p ms mn pw mw : Nat} {V : Nat → Nat → Value} {s : Xs} (h : XSt w p ms mn pw mw V s) {arg : Array Value} {f : Nat} (H : Calls Tryz.prog f arg w fun e9 w' => e9 = .returned (.tuple #[doneV 0 0 0, .bool false]) ∧ Below w.heap.size w w') : Calls Tryz.prog f arg w fun e9 w' => e9 = .returned (.tuple #[doneV 0 0 0, .bool false]) ∧ ∃ V', XSt w' p ms mn pw mw V' s ∧ XStp w w' p ms mn pw mw V V' :=
  H.mono (fun e9 w' h9 => ⟨h9.1, V, h.below h9.2, XStp.below h9.2 p ms mn pw mw V⟩)
theorem negD {w : World} {q : Nat} {v : Value} {X : Value × Value × Value × Value} {s : Xs} (h : Rx w q v X s) {arg : Array Value} {f : Nat} (H : Calls Tryz.prog f arg w fun e9 w' => e9 = .returned (.tuple #[doneV 0 0 0, .bool false]) ∧ Below w.heap.size w w') : Calls Tryz.prog f arg w fun e9 w' => e9 = .returned (.tuple #[doneV 0 0 0, .bool false]) ∧ ∃ v', Rx w' q v' X s ∧ RxStp w w' q v v' :=
  H.mono (fun e9 w' h9 => ⟨h9.1, v, h.below h9.2, RxStp.below h9.2 q v⟩)
/-- both Hears answer the same and leave the same -/
theorem hear_pair (s : Xs) (k e : Int) (z : Nat) (pt ix c : Int) (dn : Nat) (cd : Int) (gn : Nat) (l : List Rg) (hn : gn = l.length) (hl : gn ≤ 8796093022208) : ∃ a b d r s', HearP s k e (z : Int) pt ix c dn cd gn l a b d r s' ∧ HearD s k e (z : Int) pt ix c dn cd gn l a b d r s' ∧ s'.beg = s.beg := by
  by_cases hv : validR k e (z : Int) pt ix c dn cd gn l
  · by_cases hk : k = 2
    · subst hk
      by_cases he : e = (s.ep : Int)
      · subst he
        by_cases hcd : cd = 0
        · subst hcd
          refine ⟨0, 0, 0, false, s, fun w p ms mn pw mw V h da dc ga gc hx hc => negP h (xhear_code h (z : Int) pt ix c da dn dc ga gn gc l hn hx hl hc hv), fun w q v X h da dc ga gc hx => ?_, rfl⟩
          by_cases hin : z ∈ s.L.map Xe.n
          · exact negD h (rhear_code h z 2 (s.ep : Int) 0 pt ix c da dn dc ga gn gc l hn hx hl hv hin)
          · exact negD h (rhear_out h z 2 (s.ep : Int) 0 pt ix c da dn dc ga gn gc l hn hx hl hv hin)
        · by_cases hin : z ∈ s.L.map Xe.n
          · obtain ⟨x, hx0, rfl⟩ := List.mem_map.1 hin
            exact ⟨x.k.1, (x.k.2 : Int), cd, true, { s with L := dropX s.L x.n }, fun w p ms mn pw mw V h da dc ga gc hx hc => xhear_in h x hx0 cd pt ix c da dn dc ga gn gc l hn hx hl hc hv hcd, fun w q v X h da dc ga gc hx => rhear_in h x 2 (s.ep : Int) cd pt ix c da dn dc ga gn gc l hn hx hl hv hx0 hcd, rfl⟩
          · exact ⟨0, 0, 0, false, s, fun w p ms mn pw mw V h da dc ga gc hx hc => negP h (xhear_out h z cd pt ix c da dn dc ga gn gc l hn hx hl hc hv hcd hin), fun w q v X h da dc ga gc hx => negD h (rhear_out h z 2 (s.ep : Int) cd pt ix c da dn dc ga gn gc l hn hx hl hv hin), rfl⟩
      · exact ⟨0, 0, 0, false, s, fun w p ms mn pw mw V h da dc ga gc hx hc => negP h (xhear_ep h e (z : Int) cd pt ix c da dn dc ga gn gc l hn hx hl hc hv he), fun w q v X h da dc ga gc hx => negD h (rhear_ep h z 2 e cd pt ix c da dn dc ga gn gc l hn hx hl hv he), rfl⟩
    · exact ⟨0, 0, 0, false, s, fun w p ms mn pw mw V h da dc ga gc hx hc => negP h (xhear_kind h k e (z : Int) cd pt ix c da dn dc ga gn gc hk), fun w q v X h da dc ga gc hx => negD h (rhear_kind h z k e cd pt ix c da dn dc ga gn gc l hn hx hl hv hk), rfl⟩
  · refine ⟨0, 0, 0, false, s, fun w p ms mn pw mw V h da dc ga gc hx hc => ?_, fun w q v X h da dc ga gc hx => negD h (rhear_bad h z k e cd pt ix c da dn dc ga gn gc l hn hx hl hv), rfl⟩
    by_cases hk : k = 2
    · subst hk
      exact negP h (xhear_bad h e (z : Int) cd pt ix c da dn dc ga gn gc l hn hx hl hc hv)
    · exact negP h (xhear_kind h k e (z : Int) cd pt ix c da dn dc ga gn gc hk)
end Go.Proofs.YtiedgcanndgmoaaGreatDoor
namespace Go.Proofs.YtiedgcanndgmoaaGreatDoor
set_option linter.unusedVariables false
set_option linter.unusedSimpArgs false
open Go.RowKit Go.Maps
theorem oeUnit {u : World} {B : Nat} {y : Oe} (h : u.heap[B]? = some (.cells y.c tOe (0, 0))) : u.cell? ⟨B, 6, none⟩ = some (.int .i64 y.u.kind) ∧ u.cell? ⟨B, 7, none⟩ = some (.int .u64 y.u.ep) ∧ u.cell? ⟨B, 8, none⟩ = some (.int .u64 y.u.se) ∧ u.cell? ⟨B, 9, none⟩ = some (.int .i64 y.u.path) ∧ u.cell? ⟨B, 10, none⟩ = some (.int .i64 y.u.idx) ∧ u.cell? ⟨B, 11, none⟩ = some (.int .i64 y.u.cnt) ∧ u.cell? ⟨B, 12, none⟩ = some (.slice y.da y.dn y.dc) ∧ u.cell? ⟨B, 13, none⟩ = some (.int .i64 y.u.code) ∧ u.cell? ⟨B, 14, none⟩ = some (.slice y.ga y.gn y.gc) := by
  refine ⟨?_, ?_, ?_, ?_, ?_, ?_, ?_, ?_, ?_⟩
  all_goals (rw [cell_of_row _ _ _ _ _ _ h]; rfl)
theorem eql_do (u : World) (a b c : Int) : (binOp .eql tDo (.agg #[.int .i64 a, .int .u64 b, .int .i64 c]) (.agg #[.int .i64 a, .int .u64 b, .int .i64 c])).run Tryz.prog u = .ok (.bool true) u := by
  go_simp
theorem RdR.kept2 {w w' : World} {ao : Option Addr} {xs : List Rg} (h : RdR w ao xs) (hk : ∀ a, ao = some a → w'.heap[a.block]? = w.heap[a.block]?) : RdR w' ao xs := fun j hj => by
  obtain ⟨b, o, h1, h2, h3⟩ := h j hj
  have hb := hk _ h1
  exact ⟨b, o, h1, (World.cell?_of_block (a := ⟨b, o + j * 2, none⟩) hb).trans h2, (World.cell?_of_block (a := ⟨b, o + j * 2 + 1, none⟩) hb).trans h3⟩
section
variable {w w' : World} {H : Nat → Prop} {p ms mn pw mw : Nat} {V V' : Nat → Nat → Value} {q : Nat} {v v' : Value} {X : Value × Value × Value × Value} {s s' t t' : Xs}
set_option maxRecDepth 20000
set_option maxHeartbeats 6400000
theorem step_hear (h : Exx w H p ms mn pw mw V q v X s s) (y : Oe) (k1 : (y.kd == 1) = false) (k2 : (y.kd == 2) = true) (ok : ∀ u, Chg (fun b => ¬ H b) w u → OeOk u y) :
    Calls Tryz.prog 20 #[.pointer (some ⟨p, 0, none⟩), .pointer (some ⟨q, 0, none⟩), .agg y.c] w fun e w' => e = .returned (.bool true) ∧ ∃ V' v' s', StpOut w w' H p ms mn pw mw V' q v' X s s' := by
  obtain ⟨w1, hw1⟩ : ∃ w1, w1 = w.alloc (.cells y.c tOe) := ⟨_, rfl⟩
  have h1 := h.box (.cells y.c tOe)
  rw [← hw1] at h1
  have hbx1 : w1.heap[w.heap.size]? = some (.cells y.c tOe (0, 0)) := by rw [hw1]; exact heap_alloc_new w _
  have hoc := fun (u : World) (hu : u.heap[w.heap.size]? = some (.cells y.c tOe (0, 0))) => oeCells hu
  have hc1 : (w.alloc (.cells y.c tOe)).cell? ⟨w.heap.size, 0, none⟩ = some (.int .i64 y.kd) := by rw [← hw1]; exact (hoc w1 hbx1).1
  have HCW : Hid (Chg (fun b => ¬ H b) w w1) := by unfold Hid; rw [hw1]; exact Chg.of_below (alw (Below.refl _ _) _)
  have HW1 : Hid (w1 = _) := hw1
  have HH : Hid _ := h1
  have HZ0 : Hid (H 0) := h.h0
  have HBX : Hid _ := hbx1
  have HAV : Hid (∀ u u', Chg (fun b => ¬ (H b ∨ b = w.heap.size)) u u' → w.heap.size < u.heap.size → u'.heap[w.heap.size]? = u.heap[w.heap.size]?) := fun u u' hc hl => hc.block _ hl (fun h9 => h9 (.inr rfl))
  have HLS : Hid (∀ u u', Chg (fun b => ¬ (H b ∨ b = w.heap.size)) u u' → Chg (fun b => ¬ H b) u u') := fun u u' hc => hc.mono (fun b hb hh => hb (.inl hh))
  have hou := fun (u : World) (hu : u.heap[w.heap.size]? = some (.cells y.c tOe (0, 0))) => oeUnit hu
  have hu1 := hou w1 hbx1
  rw [hw1] at hu1
  obtain ⟨DC, hDC⟩ : ∃ DC, DC = y.dn + 4 := ⟨_, rfl⟩
  have ok1 := ok w1 HCW.out
  obtain ⟨z, hz, hzl⟩ := ok1.es
  have HGV : Hid _ := given_t (w := w1) y.u.kind y.u.ep y.u.se y.u.path y.u.idx y.u.cnt y.da y.dn y.dc y.u.code y.ga y.gn y.gc y.u.data y.u.got DC ok1.hn ok1.hg hDC ok1.rd ok1.rg ok1.gz (by have h8 := ok1.gl; have h9 := ok1.gb; have h7 := ok1.hg; omega) (by have h8 := ok1.dl; have h9 := ok1.db; have h7 := ok1.hn; omega)
  obtain ⟨ra, rb, rd, rr, s', HP, HD, hbeg⟩ := hear_pair s y.u.kind y.u.ep z y.u.path y.u.idx y.u.cnt y.dn y.u.code y.gn y.u.got ok1.hg (by have h8 := ok1.gl; have h9 := ok1.gb; have h7 := ok1.hg; omega)
  rw [← hz] at HP HD
  have HHP : Hid _ := HP
  have HHD : Hid _ := HD
  have HBEG : Hid _ := hbeg
  have HOK : Hid _ := ok
  have HDC : Hid _ := hDC
  have hed := eql_do
  clear h h1 hw1 hbx1 ok ok1 hz hzl HP HD hbeg hDC
  go_enter Tryz.func20, Tryz.ntmps20
  go_wp2_with fail
  rw [← HW1.out]
  refine Calls.mono HGV.out ?_
  rintro e9 w2 ⟨gd, gg, GC, rfl, ⟨hgd, hgg, hGC⟩, hrd2, hrg2, hb2⟩
  have hbx2 := (hb2.block _ (Array.getElem?_eq_some_iff.1 HBX.out).1).trans HBX.out
  obtain ⟨w3, hw3⟩ : ∃ w3, w3 = w2.alloc (.cells #[.int .i64 y.u.kind, .int .u64 y.u.ep, .int .u64 y.u.se, .int .i64 y.u.path, .int .i64 y.u.idx, .int .i64 y.u.cnt, .slice (some ⟨gd, 0, none⟩) y.dn DC, .int .i64 y.u.code, .slice (some ⟨gg, 0, none⟩) y.gn GC] 41) := ⟨_, rfl⟩
  have hg3 : w3.heap[w2.heap.size]? = some (.cells #[.int .i64 y.u.kind, .int .u64 y.u.ep, .int .u64 y.u.se, .int .i64 y.u.path, .int .i64 y.u.idx, .int .i64 y.u.cnt, .slice (some ⟨gd, 0, none⟩) y.dn DC, .int .i64 y.u.code, .slice (some ⟨gg, 0, none⟩) y.gn GC] 41 (0, 0)) := by rw [hw3]; exact heap_alloc_new w2 _
  have hb3 : Below w2.heap.size w2 w3 := by rw [hw3]; exact alw (Below.refl _ _) _
  have hbx3 := (hb3.block _ (Array.getElem?_eq_some_iff.1 hbx2).1).trans hbx2
  have hP3 : Exx w3 (fun b => (((H b ∨ b = w.heap.size) ∨ b = gd) ∨ b = gg) ∨ b = w2.heap.size) p ms mn pw mw V q v X s s := by
    rw [hw3]
    have h2 := HH.out.below hb2
    have f1 := HH.out.fresh hgd
    have f2 := HH.out.fresh hgg
    have l1 : gd < w2.heap.size := by
      obtain ⟨b, o, e1, e2⟩ := hrd2 (by simp [m4])
      cases e1
      exact World.block_lt_of_cell? w2 _ (e2 0 (by simp [m4]))
    have l2 : gg < w2.heap.size := by
      obtain ⟨b, o, e1, e2, -⟩ := hrg2 0 (by simp)
      cases e1
      exact World.block_lt_of_cell? w2 _ e2
    exact ((h2.more l1 f1.1 f1.2).more l2 f2.1 f2.2).box _
  have hcg : (w2.alloc (.cells #[.int .i64 y.u.kind, .int .u64 y.u.ep, .int .u64 y.u.se, .int .i64 y.u.path, .int .i64 y.u.idx, .int .i64 y.u.cnt, .slice (some ⟨gd, 0, none⟩) y.dn DC, .int .i64 y.u.code, .slice (some ⟨gg, 0, none⟩) y.gn GC] 41)).heap[w2.heap.size]? = some (.cells #[.int .i64 y.u.kind, .int .u64 y.u.ep, .int .u64 y.u.se, .int .i64 y.u.path, .int .i64 y.u.idx, .int .i64 y.u.cnt, .slice (some ⟨gd, 0, none⟩) y.dn DC, .int .i64 y.u.code, .slice (some ⟨gg, 0, none⟩) y.gn GC] 41 (0, 0)) := heap_alloc_new w2 _
  have HP3 : Hid _ := hP3
  have HBX3 : Hid _ := hbx3
  have HG3 : Hid _ := hg3
  have HW3 : Hid (w3 = _) := hw3
  have HRD : Hid (Rd w3 (some ⟨gd, 0, none⟩) (y.u.data ++ m4)) := Rd.below hrd2 hb3
  have HRG : Hid (RdR w3 (some ⟨gg, 0, none⟩) (y.u.got ++ [(7, 7)])) := hrg2.below hb3
  have HGC : Hid _ := hGC
  have HC3 : Hid (Chg (fun b => ¬ H b) w w3) := (HCW.out.trans (Chg.of_below hb2) (fun b hb => .inl hb)).trans (Chg.of_below hb3) (fun b hb => .inl hb)
  have HPH : Hid _ := HHP.out w3 p ms mn pw mw V hP3.a (some ⟨gd, 0, none⟩) DC (some ⟨gg, 0, none⟩) GC (hrg2.below hb3).left' (by omega)
  have HKP : Hid (∀ u u', Chg (fun b => ¬ ((((H b ∨ b = w.heap.size) ∨ b = gd) ∨ b = gg) ∨ b = w2.heap.size)) u u' → ∀ b, ((((H b ∨ b = w.heap.size) ∨ b = gd) ∨ b = gg) ∨ b = w2.heap.size) → b < u.heap.size → u'.heap[b]? = u.heap[b]?) := fun u u' hc b hb hl => hc.block b hl (fun h9 => h9 hb)
  have HLT : Hid (∀ b, ((((H b ∨ b = w.heap.size) ∨ b = gd) ∨ b = gg) ∨ b = w2.heap.size) → b < w3.heap.size) := fun b hb => (hP3.av b hb).1
  have HLH : Hid (∀ u u', Chg (fun b => ¬ ((((H b ∨ b = w.heap.size) ∨ b = gd) ∨ b = gg) ∨ b = w2.heap.size)) u u' → Chg (fun b => ¬ H b) u u') := fun u u' hc => hc.mono (fun b hb hh => hb (.inl (.inl (.inl (.inl hh)))))
  clear hgd hgg hGC hrd2 hrg2 hb2 hbx2 hw3 hg3 hb3 hbx3 hP3 hu1 hc1
  go_wp2_with (first
    | (refine wpList_load_g (by rfl) 41 _ rfl w2.heap.size 0 (by rfl) [.int .i64 y.u.kind, .int .u64 y.u.ep, .int .u64 y.u.se, .int .i64 y.u.path, .int .i64 y.u.idx, .int .i64 y.u.cnt, .slice (some ⟨gd, 0, none⟩) y.dn DC, .int .i64 y.u.code, .slice (some ⟨gg, 0, none⟩) y.gn GC] _ (box_range hcg) Tryz.underlying41 rfl info_un ?_))
  rw [← HW3.out]
  clear hcg
  refine Calls.mono HPH.out ?_
  rintro e9 w4 ⟨rfl, V', hst, hstp⟩
  have hp4 := HP3.out.prog hst hstp
  have hbx4 := (HKP.out _ _ hp4.2 w.heap.size (.inl (.inl (.inl (.inr rfl)))) (Array.getElem?_eq_some_iff.1 HBX3.out).1).trans HBX3.out
  obtain ⟨w5, hw5⟩ : ∃ w5, w5 = w4.alloc (.cells #[.int .i64 ra, .int .u64 rb, .int .i64 rd] tDo) := ⟨_, rfl⟩
  have hb5 : Below w4.heap.size w4 w5 := by rw [hw5]; exact alw (Below.refl _ _) _
  have hbx5 := (hb5.block _ (Array.getElem?_eq_some_iff.1 hbx4).1).trans hbx4
  have hP5 := hp4.1.box (.cells #[.int .i64 ra, .int .u64 rb, .int .i64 rd] tDo)
  rw [← hw5] at hP5
  have hd5 : w5.heap[w4.heap.size]? = some (.cells #[.int .i64 ra, .int .u64 rb, .int .i64 rd] tDo (0, 0)) := by rw [hw5]; exact heap_alloc_new w4 _
  have hu5 := hou w5 hbx5
  rw [hw5] at hu5
  have hc5 : Chg (fun b => ¬ H b) w w5 := (HC3.out.trans (HLH.out _ _ hp4.2) (fun b hb => .inl hb)).trans (Chg.of_below hb5) (fun b hb => .inl hb)
  have HDH : Hid _ := HHD.out w5 q v X hP5.b y.da y.dc y.ga y.gc (HOK.out w5 hc5).rg
  have HP5 : Hid _ := hP5
  have HBX5 : Hid _ := hbx5
  have HD5 : Hid _ := hd5
  have HC5 : Hid _ := hc5
  have HW5 : Hid (w5 = _) := hw5
  have HK45 : Hid (∀ b, ((((H b ∨ b = w.heap.size) ∨ b = gd) ∨ b = gg) ∨ b = w2.heap.size) → w5.heap[b]? = w3.heap[b]?) := fun b hb => (hb5.block b (Nat.lt_of_lt_of_le (HLT.out b hb) hp4.2.size)).trans (HKP.out _ _ hp4.2 b hb (HLT.out b hb))
  clear hst hstp hp4 hbx4 hw5 hb5 hbx5 hP5 hd5 hc5
  go_wp2_with fail
  rw [← HW5.out]
  refine Calls.mono HDH.out ?_
  rintro e9 w6 ⟨rfl, v', hR, hRs⟩
  have hp6 := HP5.out.doc hR hRs
  have hK6 : ∀ b, (((((H b ∨ b = w.heap.size) ∨ b = gd) ∨ b = gg) ∨ b = w2.heap.size) ∨ b = w4.heap.size) → w6.heap[b]? = w5.heap[b]? := fun b hb => hp6.2.block b (HP5.out.av b hb).1 (fun h9 => h9 hb)
  obtain ⟨w7, hw7⟩ : ∃ w7, w7 = w6.alloc (.cells #[.int .i64 ra, .int .u64 rb, .int .i64 rd] tDo) := ⟨_, rfl⟩
  have hb7 : Below w6.heap.size w6 w7 := by rw [hw7]; exact alw (Below.refl _ _) _
  have hK7 : ∀ b, (((((H b ∨ b = w.heap.size) ∨ b = gd) ∨ b = gg) ∨ b = w2.heap.size) ∨ b = w4.heap.size) → w7.heap[b]? = w5.heap[b]? := fun b hb => (hb7.block b (Nat.lt_of_lt_of_le (HP5.out.av b hb).1 hp6.2.size)).trans (hK6 b hb)
  have hK73 : ∀ b, ((((H b ∨ b = w.heap.size) ∨ b = gd) ∨ b = gg) ∨ b = w2.heap.size) → w7.heap[b]? = w3.heap[b]? := fun b hb => (hK7 b (.inl hb)).trans (HK45.out b hb)
  have hbx7 := (hK7 w.heap.size (.inl (.inl (.inl (.inl (.inr rfl)))))).trans HBX5.out
  have hd7 := (hK7 w4.heap.size (.inr rfl)).trans HD5.out
  have hg7 := (hK73 w2.heap.size (.inr rfl)).trans HG3.out
  have hf7 : w7.heap[w6.heap.size]? = some (.cells #[.int .i64 ra, .int .u64 rb, .int .i64 rd] tDo (0, 0)) := by rw [hw7]; exact heap_alloc_new w6 _
  have hc7 : Chg (fun b => ¬ H b) w w7 := (HC5.out.trans (hp6.2.mono (fun b hb hh => hb (.inl (.inl (.inl (.inl (.inl hh))))))) (fun b hb => .inl hb)).trans (Chg.of_below hb7) (fun b hb => .inl hb)
  have ok7 := HOK.out w7 hc7
  have HKT : Hid _ := kept_t (w := w7) y.u.kind y.u.ep y.u.se y.u.path y.u.idx y.u.cnt gd y.dn y.u.code gg y.gn DC GC y.da y.dc y.ga y.gc y.u.data y.u.got ok7.hn ok7.hg HDC.out HGC.out (HRD.out.kept (fun ad e => by cases e; exact hK73 gd (.inl (.inl (.inr rfl))))) ok7.rd (RdR.kept2 HRG.out (fun ad e => by cases e; exact hK73 gg (.inl (.inr rfl)))) ok7.rg (by have h8 := ok7.gl; have h9 := ok7.gb; have h7 := ok7.hg; omega) (by have h8 := ok7.dl; have h9 := ok7.db; have h7 := ok7.hn; omega)
  have a0 : w7.cell? ⟨w4.heap.size, 0, none⟩ = some (.int .i64 ra) := by rw [cell_of_row _ _ _ _ _ _ hd7]; rfl
  have a1 : w7.cell? ⟨w4.heap.size, 1, none⟩ = some (.int .u64 rb) := by rw [cell_of_row _ _ _ _ _ _ hd7]; rfl
  have a2 : w7.cell? ⟨w4.heap.size, 2, none⟩ = some (.int .i64 rd) := by rw [cell_of_row _ _ _ _ _ _ hd7]; rfl
  have c0 : w7.cell? ⟨w6.heap.size, 0, none⟩ = some (.int .i64 ra) := by rw [cell_of_row _ _ _ _ _ _ hf7]; rfl
  have c1 : w7.cell? ⟨w6.heap.size, 1, none⟩ = some (.int .u64 rb) := by rw [cell_of_row _ _ _ _ _ _ hf7]; rfl
  have c2 : w7.cell? ⟨w6.heap.size, 2, none⟩ = some (.int .i64 rd) := by rw [cell_of_row _ _ _ _ _ _ hf7]; rfl
  have hu7 := hou w7 hbx7
  rw [hw7] at a0 a1 a2 c0 c1 c2 hu7 hg7
  have HP7 : Hid _ := hp6.1.below hb7
  have HC7 : Hid _ := hc7
  have HW7 : Hid (w7 = _) := hw7
  clear hR hRs hp6 hK6 hw7 hb7 hK7 hK73 hbx7 hd7 hf7 hc7 ok7 hu5 hou hoc
  go_wp2_with (first
    | (refine wpList_load_g (by rfl) 41 _ rfl w2.heap.size 0 (by rfl) [.int .i64 y.u.kind, .int .u64 y.u.ep, .int .u64 y.u.se, .int .i64 y.u.path, .int .i64 y.u.idx, .int .i64 y.u.cnt, .slice (some ⟨gd, 0, none⟩) y.dn DC, .int .i64 y.u.code, .slice (some ⟨gg, 0, none⟩) y.gn GC] _ (box_range hg7) Tryz.underlying41 rfl info_un ?_))
  rw [← HW7.out]
  refine Calls.mono HKT.out ?_
  rintro e9 w8 ⟨rfl, hb8⟩
  have HB8 : Hid _ := hb8
  clear hb8 a0 a1 a2 c0 c1 c2 hu7 hg7
  cases rr
  all_goals
    go_wp2
    go_ret
    have h9 := HP7.out.below HB8.out
    exact ⟨rfl, V', v', s', ⟨h9.less (fun b hb => .inl (.inl (.inl (.inl (.inl hb))))) HZ0.out, HC7.out.trans (Chg.of_below HB8.out) (fun b hb => .inl hb), by rw [HBEG.out]; exact Nat.le_succ _⟩⟩
end
end Go.Proofs.YtiedgcanndgmoaaGreatDoor
