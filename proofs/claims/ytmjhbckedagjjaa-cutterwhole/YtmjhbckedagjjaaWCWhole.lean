import Derived.Test.YtmjhbckedagjjaaLCg
import Derived.Test.YtmjhbckedagjjaaLCf
import Derived.Test.YtmjhbckedagjjaaCuW
namespace Go.Proofs.Ytmjhbckedagjjaa
set_option linter.unusedVariables false
set_option linter.unusedSimpArgs false
open Go.RowKit
theorem wpo_app {w : World} {o : Oper} {a : Act} {K : Act → World → Prop} {Q : Exit → Act → World → Prop} (s x : Operand)
    (ho : o.op = .call { callee := .builtin .append, args := #[s, x], argTypes := #[22, 22] }) (B : Nat) (v : Value) (xs ys : List UInt8) (ad : Addr) (cap : Nat)
    (hs : a.eval s = v) (hown : Own w B v xs) (hx : a.eval x = .slice (some ad) ys.length cap) (hr : Rd w (some ad) ys)
    (hb : xs.length + ys.length ≤ 140737488355328) (hbase : B ≤ w.heap.size)
    (h : ∀ v' w', Own w' B v' (xs ++ ys) → w.grownBy w' v.ownBlock → K (a.put o.dst v') w') : Oper.wp Try.prog o a w K Q := by
  obtain ⟨i0, hi, hz0, hz1, hz2⟩ := info_parts info5
  refine wp_append_own w s x 22 ho B 5 i0 (.int .u8 0) 1 1 Try.underlying22 hi hz0 hz1 hz2 rfl (by decide) v xs.length (bv xs) hs hown ad ys.length cap (bv ys) hx (by simp [bv_length]) ?_ (bv_one ys) (by simp only [maxLen]; omega) (by omega) hbase ?_
  · intro j u hj
    have hlt : j < ys.length := by
      have := (List.getElem?_eq_some_iff.1 hj).1
      simpa [bv_length] using this
    obtain ⟨b, o, h1, hc⟩ := hr (by omega)
    cases h1
    rw [bv_get ys j hlt] at hj
    rw [Go.WideShapes.add_plain, hc j hlt]
    exact hj
  · intro v' w' h1 h2 _
    exact h v' w' (by unfold Own; rw [bv_append, List.length_append]; exact h1) h2
theorem XV.set {E : List Dc} {k : Nat} {d : Dc} {b : Nat} (h : XV (E.set k d) b) : XV E b ∨ d.v.ownBlock = some b := by
  obtain ⟨i, e, he, hb⟩ := h
  by_cases hi : k = i
  · subst hi
    rw [List.getElem?_set] at he
    simp only [if_true] at he
    split at he
    · cases he; exact .inr hb
    · cases he
  · rw [List.getElem?_set_ne hi] at he
    exact .inl ⟨i, e, he, hb⟩
/-- a box and a row of lists beside it; what X names is none of theirs -/
structure WhI (W0 : World) (X : Nat → Prop) (w : World) (pv : Option Addr) (v : Value) (E : List Dc) (St : Option (List Seg)) (T : List Seg) : Prop where
  ex : ∃ F, PBx w pv St F ∧ ∀ b, F b → W0.heap.size ≤ b ∧ ¬ X b ∧ ¬ (v.ownBlock = some b ∨ XV E b)
  ls : Lists w W0.heap.size v E T
  lx : ∀ b, (v.ownBlock = some b ∨ XV E b) → ¬ X b
  bel : Below W0.heap.size W0 w
section
variable {W0 w w' w1 : World} {X Y : Nat → Prop} {pv : Option Addr} {v : Value} {E : List Dc} {St : Option (List Seg)} {T : List Seg}
theorem WhI.excl (h : WhI W0 X w pv v E St T) (hb : Below w.heap.size w w') (hY : ∀ b, Y b → w.heap.size ≤ b) : WhI W0 Y w' pv v E St T := by
  obtain ⟨F, h1, h2⟩ := h.ex
  exact ⟨⟨F, h1.below hb, fun b hf => ⟨(h2 b hf).1, fun hy => by have := h1.lt b hf; have := hY b hy; omega, (h2 b hf).2.2⟩⟩, h.ls.below hb, fun b hl hy => by have := (h.ls.lt hl).2; have := hY b hy; omega, h.bel.trans (hb.mono h.bel.size)⟩
theorem WhI.one (h : WhI W0 X w pv v E St T) : One W0 w pv St := by
  obtain ⟨F, h1, h2⟩ := h.ex
  exact ⟨⟨F, h1, fun b hb => (h2 b hb).1⟩, h.bel⟩
theorem WhI.put (h : WhI W0 X w pv v E St T) (hX : ∀ b, X b → b < w.heap.size) (i : Int) (ao : Option Addr) (n cap : Nat) (xs : Seg) (hn : n = xs.length) (hx : Rd w ao xs) (hnil : ao = none → cap = 0) (hl : n ≤ 140737488355328) :
    Calls Try.prog 17 #[.pointer pv, .int .i64 i, .slice ao n cap] w fun e w' => e = .returned (.int .i64 (putE St i xs)) ∧ WhI W0 X w' pv v E (putS St i xs) T ∧ (∀ b, X b → w'.heap[b]? = w.heap[b]?) ∧ w.heap.size ≤ w'.heap.size := by
  obtain ⟨F, h1, h2⟩ := h.ex
  refine Calls.mono (pput h1 i ao n cap xs hn hx hnil hl) ?_
  rintro e w' ⟨rfl, ⟨F', h6, h7⟩, h8⟩
  refine ⟨rfl, ⟨⟨F', h6, fun b hf => ?_⟩, h.ls.kept (fun b hb => h8.block b (h.ls.lt hb).2 (fun hf => (h2 b hf).2.2 hb)), h.lx, h.bel.trans (h8.below (fun b hb => (h2 b hb).1) h.bel.size)⟩, fun b hb => h8.block b (hX b hb) (fun hf => (h2 b hf).2.1 hb), h8.size⟩
  rcases h7 b hf with h9 | h9
  · exact h2 b h9
  · exact ⟨Nat.le_trans h.bel.size h9, fun hx => by have := hX b hx; omega, fun hl => by have := (h.ls.lt hl).2; omega⟩
theorem WhI.set {g n c : Nat} (h : WhI W0 X w pv (.slice (some ⟨g, 0, none⟩) n c) E St T) (hX : ∀ b, X b → b < w.heap.size) (hn : n = E.length) (hb : Below w.heap.size w w1) {k : Nat} {d d' : Dc} {xs : Seg} (hd : E[k]? = some d) (ho : Own w1 w.heap.size d'.v xs) :
    WhI W0 X (w1.setCell ⟨g, k, none⟩ d'.v) pv (.slice (some ⟨g, 0, none⟩) n c) (E.set k d') St (T.set k xs) := by
  obtain ⟨F, h1, h2⟩ := h.ex
  have hgr : w.grownBy w1 none := ⟨hb.os, hb.tape, hb.output, hb.size, fun b hk _ => hb.block b hk⟩
  have hnew : ∀ b, d'.v.ownBlock = some b → w.heap.size ≤ b := fun b e => (World.ownsRow.lt ho b e).1
  have hls := Lists.setl h.ls hn hd (hgr.any _) (Own.base ho h.bel.size) (fun b e => .inr (hnew b e))
  have hgB := h.ls.lt (b := g) (.inl rfl)
  refine ⟨⟨F, h1.kept (by simpa using hb.size) (fun b hf => ?_), fun b hf => ⟨(h2 b hf).1, (h2 b hf).2.1, fun hl => ?_⟩⟩, hls, fun b hl hx => ?_, ?_⟩
  · refine (heap_setCell_other _ _ _ _ (fun e => (h2 b hf).2.2 (.inl ?_))).trans (hb.block b (h1.lt b hf))
    have e' : b = g := e
    rw [e']
    rfl
  · rcases hl with hl | hl
    · exact (h2 b hf).2.2 (.inl hl)
    · rcases hl.set with h9 | h9
      · exact (h2 b hf).2.2 (.inr h9)
      · have := hnew b h9
        have := h1.lt b hf
        omega
  · rcases hl with hl | hl
    · exact h.lx b (.inl hl) hx
    · rcases hl.set with h9 | h9
      · exact h.lx b (.inr h9) hx
      · have := hnew b h9
        have := hX b hx
        omega
  · exact (h.bel.trans (hb.mono h.bel.size)).grown (gset1 w1 g k _) (Nat.le_trans h.bel.size hb.size) (fun b e => by cases e; exact hgB.1)
end
theorem lists_rep {w : World} {g B r : Nat} (hB : B ≤ g) (h : w.heap[g]? = some (.cells (List.replicate r (Value.slice none 0 0)).toArray 22 (0, 0))) (hr : r ≤ 65536) : Lists w B (.slice (some ⟨g, 0, none⟩) r r) (List.replicate r Dc.z) (List.replicate r []) := by
  refine ⟨own_rep hB h hr, by simp, fun i d t hd ht => ?_, fun i j d e b hd he _ hb _ => ?_⟩
  · rw [List.getElem?_replicate] at hd ht
    split at hd
    · rename_i hi
      rw [if_pos hi] at ht
      cases hd
      cases ht
      exact World.ownsRow_nil _ _ _ _
    · cases hd
  · rw [List.getElem?_replicate] at hd
    split at hd
    · cases hd
      cases hb
    · cases hd
theorem xv_rep {r b : Nat} (h : XV (List.replicate r Dc.z) b) : False := by
  obtain ⟨i, d, hd, hb⟩ := h
  rw [List.getElem?_replicate] at hd
  split at hd
  · cases hd
    cases hb
  · cases hd
theorem allS_take {S : List Seg} {k : Nat} {x : Seg} (hx : S[k]? = some x) : allS (S.take (k + 1)) = (allS (S.take k) && decide (0 < x.length)) := by
  unfold allS
  rw [List.take_add_one, hx, List.all_append]
  congr 1
  simp
  by_cases h : x = []
  · simp [h]
  · simp [h, List.length_pos_iff]
set_option maxRecDepth 20000 in
set_option maxHeartbeats 6400000 in
theorem cutterWhole_walk (r : Int) (ao : Option Addr) (cap : Nat) (xs : List OpD) (w : World) (hr : RdO w ao xs) (hle : xs.length ≤ cap) (hnil : ao = none → cap = 0) (hl : xs.length ≤ 4398046511103) :
    Calls Try.prog 5 #[.agg #[.int .i64 r, .slice ao xs.length cap]] w fun e w' => e = .returned (.bool true) ∧ Below w.heap.size w w' := by
  clear hle hnil
  have HNUM : Hid (∀ (e : Int) (u : World), Calls _ _ _ u _) := fun e u => num_t e u
  by_cases hrg : 1 ≤ r ∧ r ≤ 64
  case neg =>
    have e1 : newSt r = none := if_neg hrg
    have e2 : newEr r = 1 := if_neg hrg
    have hrr : r < 1 ∨ (¬ r < 1 ∧ 64 < r) := by omega
    have hfin : ∀ (hh : r < 1 ∨ (¬ r < 1 ∧ 64 < r)), True := fun _ => trivial
    clear hr
    rcases hrr with h1 | ⟨h1, h2⟩
    all_goals
      go_enter Try.func5, Try.ntmps5
      go_wp2_with fail
      have hb0 : Below w.heap.size w (w.alloc (.cells #[.int .i64 r, .slice ao xs.length cap] tSc)) := al (Below.refl _ _) _
      have hbx0 : (w.alloc (.cells #[.int .i64 r, .slice ao xs.length cap] tSc)).heap[w.heap.size]? = some (.cells #[.int .i64 r, .slice ao xs.length cap] tSc (0, 0)) := heap_alloc_new w _
      generalize (w.alloc (.cells #[.int .i64 r, .slice ao xs.length cap] tSc)) = W0 at *
      refine Calls.mono (One.new W0 (Below.refl _ _) r) ?_
      rintro e w1 ⟨pv, rfl, hpn, ho1⟩
      rw [e2]
      obtain rfl := hpn.2 e1
      obtain ⟨z0, z1⟩ := scells ((ho1.bel.block _ (Array.getElem?_eq_some_iff.1 hbx0).1).trans hbx0)
      have HBF : Hid (Below w.heap.size w w1) := below_next hb0 ho1.bel
      clear hb0 hbx0 hpn ho1
      go_wp2_with (go_at_call 12; refine Calls.mono (HNUM.out _ _) ?_; rintro e w' ⟨rfl, hq⟩; have hq := hq.symm; subst hq)
      go_ret
      exact ⟨rfl, HBF.out⟩
  case pos =>
    obtain ⟨N, rfl⟩ : ∃ N : Nat, r = (N : Int) := ⟨r.toNat, by omega⟩
    have hN1 : 1 ≤ N := by omega
    have hN64 : N ≤ 64 := by omega
    have e1 : newSt (N : Int) = some (List.replicate N []) := by unfold newSt; rw [if_pos hrg]; rfl
    have e2 : newEr (N : Int) = 0 := if_pos hrg
    have g1 : ¬ (N : Int) < 1 := by omega
    have g2 : ¬ (64 : Int) < (N : Int) := by omega
    clear hrg
    go_enter Try.func5, Try.ntmps5
    go_wp2_with fail
    have hb0 : Below w.heap.size w (w.alloc (.cells #[.int .i64 (N : Int), .slice ao xs.length cap] tSc)) := al (Below.refl _ _) _
    have hbx0 : (w.alloc (.cells #[.int .i64 (N : Int), .slice ao xs.length cap] tSc)).heap[w.heap.size]? = some (.cells #[.int .i64 (N : Int), .slice ao xs.length cap] tSc (0, 0)) := heap_alloc_new w _
    generalize (w.alloc (.cells #[.int .i64 (N : Int), .slice ao xs.length cap] tSc)) = W0 at *
    have HR : Hid (RdO W0 ao xs) := hr.below hb0
    have HCS : Hid (∀ u, Below W0.heap.size W0 u → u.cell? ⟨w.heap.size, 0, none⟩ = some (.int .i64 (N : Int)) ∧ u.cell? ⟨w.heap.size, 1, none⟩ = some (.slice ao xs.length cap)) := fun u hu => scells ((hu.block _ (Array.getElem?_eq_some_iff.1 hbx0).1).trans hbx0)
    have HB0 : Hid _ := hb0
    clear hr hbx0 hb0
    refine Calls.mono (One.new W0 (Below.refl _ _) (N : Int)) ?_
    rintro e w1 ⟨pv, rfl, hpn, ho1⟩
    rw [e2]
    rw [e1] at ho1
    rcases pv with _ | pa
    · exact absurd (e1.symm.trans (hpn.1 rfl)) (by simp)
    have HO1 : Hid _ := ho1
    obtain ⟨z0, z1⟩ := HCS.out _ ho1.bel
    have HSM : Hid _ := small_t w1
    have hmk := fun u => make_lists N (by omega) u
    clear hpn ho1 e1 e2
    go_wp2_with (first | (go_at_call 12; refine Calls.mono (HNUM.out _ _) ?_; rintro e w' ⟨rfl, hq⟩; have hq := hq.symm; subst hq) | (go_at_call 15; refine Calls.mono HSM.out ?_; rintro e w2 ⟨rfl, hb2⟩; have HB2 : Hid _ := hb2; obtain ⟨z0, z1⟩ := HCS.out _ (below_next HO1.out.bel hb2); clear hb2))
    have hO2 := HO1.out.below HB2.out
    have hW2 : WhI W0 (fun _ => False) (w2.alloc (.cells (List.replicate N (Value.slice none 0 0)).toArray 22)) (some pa) (.slice (some ⟨w2.heap.size, 0, none⟩) N N) (List.replicate N Dc.z) (some (List.replicate N [])) (List.replicate N []) := by
      obtain ⟨F, h1, h2⟩ := hO2.ex
      refine ⟨⟨F, h1.below (al (Below.refl _ _) _), fun b hf => ⟨h2 b hf, id, fun hl => ?_⟩⟩, lists_rep hO2.bel.size (heap_alloc_new _ _) (by omega), fun b _ => id, al hO2.bel _⟩
      have hlt := h1.lt b hf
      rcases hl with hl | hl
      · have e9 : w2.heap.size = b := Option.some.inj hl
        omega
      · exact xv_rep hl
    have HW2 : Hid _ := hW2
    clear hW2 hO2 hmk
    go_loopw [6] (fun j wr => ∃ (k : Nat) (S : List Seg) (E : List Dc), k ≤ xs.length ∧ j = .int .i64 (k : Int) ∧ Hid (S.length = N) ∧ WhI W0 (fun _ => False) wr (some pa) (.slice (some ⟨w2.heap.size, 0, none⟩) N N) E (some S) S) (fun j _ => xs.length - (intOf j).toNat)
    case atStart => exact ⟨0, _, _, Nat.zero_le _, rfl, by unfold Hid; simp, HW2.out⟩
    case round =>
      obtain ⟨k, S, E, hk, rfl, HSN, hp⟩ := hrel
      have HP : Hid _ := hp
      obtain ⟨y0, y1⟩ := HCS.out _ hp.bel
      have HEN : Hid (N = E.length) := by unfold Hid; rw [hp.ls.len]; exact HSN.out.symm
      clear hp
      by_cases hlt : k < xs.length
      · obtain ⟨b, o, rfl, hok, hrg⟩ := HR.out k hlt
        obtain ⟨op, hop⟩ : ∃ op, op = xs[k] := ⟨_, rfl⟩
        rw [← hop] at hok hrg
        obtain ⟨kd, oi, oa, on, oc, oxs⟩ := op
        have HOK : Hid _ := hok
        have hk0 : (0 : Int) ≤ (k : Int) := by omega
        have hkI : (k : Int) < (xs.length : Int) := by omega
        have hkw : IntKind.i64.wrap ((k : Int) + 1) = ((k + 1 : Nat) : Int) := by rw [IntKind.wrap_i64]; omega
        obtain ⟨l0, l1, l2⟩ := op_cells (rangeAt_below hrg HP.out.bel)
        have hd1 : WhI W0 (fun b => b = wr.heap.size) (wr.alloc (.cells (opv kd oi oa on oc) tOp)) (some pa) (.slice (some ⟨w2.heap.size, 0, none⟩) N N) E (some S) S := HP.out.excl (al (Below.refl _ _) _) (fun b e => by omega)
        have hx1 : ∀ b, (b = wr.heap.size) → b < (wr.alloc (.cells (opv kd oi oa on oc) tOp)).heap.size := fun b e => by subst e; simp
        have hbx : (wr.alloc (.cells (opv kd oi oa on oc) tOp)).heap[wr.heap.size]? = some (.cells (opv kd oi oa on oc) tOp (0, 0)) := heap_alloc_new _ _
        have HRX : Hid (∀ u, Below W0.heap.size W0 u → Rd u oa oxs) := fun u hu => Rd.below HOK.out.rd hu
        have HPU : Hid _ := hd1.put hx1 oi oa on oc oxs HOK.out.hn (HRX.out _ hd1.bel) HOK.out.nil (by have := HOK.out.le; simp only at *; omega)
        obtain ⟨Pe, hPe⟩ : ∃ Pe, Pe = putE (some S) oi oxs := ⟨_, rfl⟩
        rw [← hPe] at HPU
        have HBX : Hid _ := hbx
        have HX1 : Hid _ := hx1
        clear hop hok hrg hd1 hx1 hbx
        by_cases hpe : Pe = 0
        · have h00 : putE (some S) oi oxs = 0 := by rw [← hPe]; exact hpe
          subst hpe
          obtain ⟨S', hS', q, rfl, hq, hSq, hx0, hx1, hfit, hpS⟩ := putE_ok h00
          cases hS'
          rw [hpS] at HPU
          obtain ⟨ab, ao2, rfl, -⟩ := HOK.out.rd hx0
          have hqN : q < N := by rw [← HSN.out]; exact hq
          have hq0 : (0 : Int) ≤ (q : Int) := by omega
          have hqn0 : ¬ (q : Int) < 0 := by omega
          have hqNI : (q : Int) < (N : Int) := by omega
          have hqNI2 : ¬ (N : Int) ≤ (q : Int) := by omega
          obtain ⟨d, hd⟩ : ∃ d, E[q]? = some d := ⟨_, List.getElem?_eq_getElem (by rw [← HEN.out]; exact hqN)⟩
          have hdn : d.n = 0 := (HP.out.ls.byv hd hSq).n
          obtain ⟨da, dn, dc⟩ := d
          simp only at hdn
          subst hdn
          have hon : ((on : Int) == 0) = false := by
            have := HOK.out.hn
            simp only at this
            simp
            omega
          have HD : Hid _ := hd
          have HX0 : Hid _ := hx0
          have HXL : Hid _ := hx1
          have HFIT : Hid _ := hfit
          have HSQ : Hid _ := hSq
          have HON : Hid (on = oxs.length) := HOK.out.hn
          clear hPe h00 hSq hfit hpS hx0 hx1 hd hq
          go_wp2_with (first | (go_at_call 17; refine Calls.mono HPU.out ?_; rintro e w6 ⟨rfl, h6, hx6, hs6⟩; have HBX6 : Hid _ := ((hx6 _ rfl).trans HBX.out); obtain ⟨e60, e61, e62⟩ := opcell HBX6.out; have HX6 : Hid (∀ b, b = wr.heap.size → b < w6.heap.size) := (fun b e => Nat.lt_of_lt_of_le (HX1.out b e) hs6); obtain ⟨s0, s1⟩ := HCS.out _ h6.bel; have hcq := h6.ls.cellAt HEN.out HD.out; have HD6 : Hid _ := h6; clear h6 hx6 hs6) | (go_at_call 12; refine Calls.mono (HNUM.out _ _) ?_; rintro e w' ⟨rfl, hq⟩; have hq := hq.symm; subst hq))
          have HC6 : Hid (∀ u, Below w6.heap.size w6 u → u.cell? ⟨wr.heap.size, 1, none⟩ = some (.int .i64 (q : Int)) ∧ u.cell? ⟨wr.heap.size, 2, none⟩ = some (.slice (some ⟨ab, ao2, none⟩) on oc)) := fun u hu => by
            obtain ⟨-, h8, h9⟩ := opcell ((hu.block _ (Array.getElem?_eq_some_iff.1 HBX6.out).1).trans HBX6.out)
            exact ⟨h8, h9⟩
          have HK6 : Hid (∀ u, Below w6.heap.size w6 u → u.cell? ⟨w2.heap.size, q, none⟩ = some (.slice da 0 dc) ∧ u.frozen? ⟨w2.heap.size, q, none⟩ = false) := fun u hu => ⟨(HD6.out.ls.below hu).cellAt HEN.out HD.out, (HD6.out.ls.below hu).row.fz q⟩
          clear hcq
          refine wp_region_noPanic ?_
          refine wp_region_late_drew (S := (fun u => Below w6.heap.size w6 u)) (X := [8]) (by kernel_rfl) (by with_reducible first | exact (Below.refl _ _).drew | exact al (Below.refl _ _).drew _ | exact al hHeld _ | exact (al (Below.refl _ _) _).drew | exact HB7.out) (fun hHeld => ?_)
          refine take_atA (i := 0) 96 (v := ?_) rfl rfl (by kernel_rfl) (by kernel_rfl) (by kernel_rfl) (by decide) (fun _ _ _ h => h) (by rfl) ?_ hHeld ?_
          rotate_left
          · (intro w; go_simp; try with_reducible rfl)
          simp only [Act.put, List.setIfInBounds_toArray, List.set_cons_zero, List.set_cons_succ]
          refine take_atA (i := 1) 97 (v := ?_) rfl rfl (by kernel_rfl) (by kernel_rfl) (by kernel_rfl) (by decide) (fun _ _ _ h => h) (by rfl) ?_ hHeld ?_
          rotate_left
          · (intro w; go_simp; try with_reducible rfl)
          simp only [Act.put, List.setIfInBounds_toArray, List.set_cons_zero, List.set_cons_succ]
          refine take_atL (i := 2) 98 (v := .int .i64 (q : Int)) rfl rfl (by kernel_rfl) (by kernel_rfl) (by kernel_rfl) (by kernel_rfl) (fun _ _ _ h => h) (by rfl) ?_ hHeld ?_
          · (intro w hSw; obtain ⟨hc9, -⟩ := HC6.out _ hSw; go_simp; try with_reducible rfl)
          simp only [Act.put, List.setIfInBounds_toArray, List.set_cons_zero, List.set_cons_succ]
          refine take_atA (i := 4) 100 (v := ?_) rfl rfl (by kernel_rfl) (by kernel_rfl) (by kernel_rfl) (by decide) (fun _ _ _ h => h) (by rfl) ?_ hHeld ?_
          rotate_left
          · (intro w; go_simp; try with_reducible rfl)
          simp only [Act.put, List.setIfInBounds_toArray, List.set_cons_zero, List.set_cons_succ]
          refine take_atL (i := 5) 101 (v := .slice (some ⟨ab, ao2, none⟩) on oc) rfl rfl (by kernel_rfl) (by kernel_rfl) (by kernel_rfl) (by kernel_rfl) (fun _ _ _ h => h) (by rfl) ?_ hHeld ?_
          · (intro w hSw; obtain ⟨-, hc9⟩ := HC6.out _ hSw; go_simp; try with_reducible rfl)
          simp only [Act.put, List.setIfInBounds_toArray, List.set_cons_zero, List.set_cons_succ]
          refine run_atL (i := 3) rfl (by kernel_rfl) (by rfl) (fun K hK => ?_)
          simp only [List.getElem_toArray, List.getElem_cons_zero, List.getElem_cons_succ]
          go_simp
          go_wp2_with fail
          refine hK.out _ _ (by with_reducible first | exact (Below.refl _ _).drew | exact al (Below.refl _ _).drew _ | exact al hHeld _ | exact (al (Below.refl _ _) _).drew | exact HB7.out) ?_
          clear hK K
          intro hHeld2
          clear hHeld
          have hHeld := hHeld2
          clear hHeld2
          try simp only [Act.put, List.setIfInBounds_toArray, List.set_cons_zero, List.set_cons_succ]
          refine run_atL (i := 6) rfl (by kernel_rfl) (by rfl) (fun K hK => ?_)
          simp only [List.getElem_toArray, List.getElem_cons_zero, List.getElem_cons_succ]
          (refine wpo_app _ _ rfl w6.heap.size _ [] oxs _ _ rfl (own_made0 w6) (by rw [← HON.out]; rfl) (HRX.out _ (HD6.out.bel.trans (Below.mono (al (Below.refl _ _) _).drew HD6.out.bel.size))) (by rw [List.length_nil]; have := HXL.out; omega) (by simp) ?_; intro v7 w7 hown7 hg7; obtain ⟨a7, c7, hv7, -⟩ := hown7.val; rw [List.nil_append, ← HON.out] at hv7; subst hv7; have HB7 : Hid (Below w6.heap.size w6 w7) := ((al (Below.refl _ _) (.cells #[] 5)).drew.grown hg7 (by simp) (fun b e => by cases e; exact Nat.le_refl _)); have HO7 : Hid (Own w7 w6.heap.size (Dc.v ⟨a7, on, c7⟩) oxs) := hown7; obtain ⟨hce, hfe⟩ := HK6.out _ HB7.out; clear hown7 hg7)
          refine hK.out _ _ (by with_reducible first | exact (Below.refl _ _).drew | exact al (Below.refl _ _).drew _ | exact al hHeld _ | exact (al (Below.refl _ _) _).drew | exact HB7.out) ?_
          clear hK K
          intro hHeld2
          clear hHeld
          have hHeld := hHeld2
          clear hHeld2
          try simp only [Act.put, List.setIfInBounds_toArray, List.set_cons_zero, List.set_cons_succ]
          refine take_atA (i := 7) 103 (v := ?_) rfl rfl (by kernel_rfl) (by kernel_rfl) (by kernel_rfl) (by decide) (fun _ _ _ h => h) (by rfl) ?_ hHeld ?_
          rotate_left
          · (intro w; go_simp; try with_reducible rfl)
          simp only [Act.put, List.setIfInBounds_toArray, List.set_cons_zero, List.set_cons_succ]
          refine run_atLate (i := 8) rfl (by kernel_rfl) (by decide) (by rfl) (fun K hK => ?_)
          simp only [List.getElem_toArray, List.getElem_cons_zero, List.getElem_cons_succ]
          go_simp
          go_wp2_with fail
          refine hK.out _ _ ?_
          clear hK K
          try simp only [Act.put, List.setIfInBounds_toArray, List.set_cons_zero, List.set_cons_succ]
          refine doneL (by kernel_rfl) ?_ _
          refine NoPanic.normal ?_
          all_goals
            go_wp2
            go_roundw
            case rel => exact ⟨k + 1, S.set q oxs, E.set q ⟨a7, on, c7⟩, by omega, by go_num, by unfold Hid; rw [List.length_set]; exact HSN.out, (HD6.out.set HX6.out HEN.out HB7.out HD.out HO7.out).excl (Below.refl _ _) (fun b h => h.elim)⟩
            case measure => simp [intOf]; omega
        · have hpb : (Pe == 0) = false := by simpa using hpe
          have HNO : Hid _ := putS_no (St := some S) (i := oi) (xs := oxs) (by rw [← hPe]; exact hpe)
          rw [HNO.out] at HPU
          clear hPe
          go_wp2_with (first | (go_at_call 17; refine Calls.mono HPU.out ?_; rintro e w6 ⟨rfl, h6, hx6, hs6⟩; have HD6 : Hid _ := h6; clear h6 hx6 hs6) | (go_at_call 12; refine Calls.mono (HNUM.out _ _) ?_; rintro e w' ⟨rfl, hq⟩; have hq := hq.symm; subst hq))
          go_roundw
          case rel => exact ⟨k + 1, S, E, by omega, by go_num, HSN, HD6.out.excl (Below.refl _ _) (fun b h => h.elim)⟩
          case measure => simp [intOf]; omega
      · obtain rfl : k = xs.length := by omega
        have hkI : ¬ (xs.length : Int) < (xs.length : Int) := by omega
        have hsm : ∀ x ∈ S, x.length ≤ 1024 := by
          obtain ⟨F, h1, -⟩ := HP.out.ex
          rcases h1.cases with ⟨h2, -⟩ | ⟨S2, p2, V2, h2, -, h3, -⟩
          · cases h2
          · cases h2; exact h3.small
        have hfit : fitS S = true := by
          obtain ⟨F, h1, -⟩ := HP.out.ex
          rcases h1.cases with ⟨h2, -⟩ | ⟨S2, p2, V2, h2, -, h3, -⟩
          · cases h2
          · cases h2; exact h3.fit
        have HFIT : Hid _ := hfit
        have HSML : Hid _ := hsm
        obtain ⟨aL, cL, hvL, hrdL, -, -⟩ := HP.out.ls.rdL
        obtain ⟨haL, -, -⟩ := Value.slice.inj hvL
        subst haL
        have HRL : Hid _ := hrdL
        have HEL : Hid _ := HP.out.ls.len
        clear hfit hsm hvL hrdL
        go_wp2
        go_loopw [8, 9, 10] (fun v f j wz => ∃ i : Nat, i ≤ N ∧ j = .int .i64 (i : Int) ∧ f = .bool (allS (S.take i)) ∧ Own wz wr.heap.size v (S.take i).flatten ∧ Below wr.heap.size wr wz) (fun _ _ j _ => N - (intOf j).toNat)
        case atStart => exact ⟨0, Nat.zero_le _, rfl, rfl, World.ownsRow_nil _ _ _ _, Below.refl _ _⟩
        case round =>
          obtain ⟨i, hi, rfl, rfl, hown, hbz⟩ := hrel
          rename World => wz
          have HO : Hid (Own wz wr.heap.size u8 (S.take i).flatten) := hown
          have HBZ : Hid _ := hbz
          obtain ⟨y0, y1⟩ := HCS.out _ (HP.out.bel.trans (hbz.mono HP.out.bel.size))
          clear hown hbz
          by_cases hiN : i < N
          · have hiI : (i : Int) < (N : Int) := by omega
            have hi0 : (0 : Int) ≤ (i : Int) := by omega
            have hiw : IntKind.i64.wrap ((i : Int) + 1) = ((i + 1 : Nat) : Int) := by rw [IntKind.wrap_i64]; omega
            obtain ⟨b, o, d, t, ea, hd, ht, hcl, hby⟩ := (HRL.out.below HBZ.out).at_ (k := i) (by rw [HSN.out]; exact hiN)
            cases ea
            obtain ⟨da, dn, dc⟩ := d
            have hdn := hby.n
            simp only at hdn
            simp only [Nat.zero_add] at hcl
            have HBY : Hid _ := hby
            have HT : Hid _ := take_flat S i t ht
            have HAL : Hid _ := allS_take ht
            have hfl : (S.take i).flatten.length ≤ 65536 := by
              have h1 := flat_le (S := S.take i) (fun y hy => HSML.out y (List.mem_of_mem_take hy))
              rw [List.length_take] at h1
              have h2 : min i S.length * 1024 ≤ 64 * 1024 := Nat.mul_le_mul_right _ (by omega)
              omega
            have htl : t.length ≤ 1024 := HSML.out t (List.mem_of_getElem? ht)
            have HSZ : Hid _ := HBZ.out.size
            obtain ⟨tl, htq⟩ : ∃ tl, tl = t.length := ⟨_, rfl⟩
            rw [← htq] at hdn htl
            subst hdn
            have HTQ : Hid (dn = t.length) := htq
            have HDP : Hid (decide (0 < t.length) = decide (0 < (dn : Int))) := by unfold Hid; rw [← htq]; simp
            clear hd ht hby htq
            rcases hab : allS (S.take i) with _ | _
            · rw [hab] at HAL
              have HAL2 : Hid (allS (S.take (i + 1)) = false) := by unfold Hid; rw [HAL.out]; rfl
              clear hab
              go_wp2_with (at_builtin; refine wp_app rfl _ _ rfl wr.heap.size u8 (S.take i).flatten t _ _ rfl HO.out (by rw [← HTQ.out]; rfl) HBY.out.rd HBY.out.nil (by rw [← HTQ.out]; omega) HSZ.out ?_; intro v9 w9 hown9 hg9; have HO9 : Hid (Own w9 wr.heap.size v9 ((S.take i).flatten ++ t)) := hown9; have HG9 : Hid _ := hg9; clear hown9 hg9)
              go_roundw
              case rel => exact ⟨i + 1, by omega, by go_num, by rw [HAL2.out], by rw [HT.out]; exact HO9.out, HBZ.out.grown HG9.out HSZ.out (fun b hb => (World.ownsRow.lt HO.out b hb).1)⟩
              case measure => simp [intOf]; omega
            · rw [hab] at HAL
              by_cases h0 : 0 < dn
              · have h0I : (0 : Int) < (dn : Int) := by omega
                have HAL2 : Hid (allS (S.take (i + 1)) = true) := by unfold Hid; rw [HAL.out, ← HTQ.out, decide_eq_true h0]; rfl
                clear hab
                go_wp2_with (at_builtin; refine wp_app rfl _ _ rfl wr.heap.size u8 (S.take i).flatten t _ _ rfl HO.out (by rw [← HTQ.out]; rfl) HBY.out.rd HBY.out.nil (by rw [← HTQ.out]; omega) HSZ.out ?_; intro v9 w9 hown9 hg9; have HO9 : Hid (Own w9 wr.heap.size v9 ((S.take i).flatten ++ t)) := hown9; have HG9 : Hid _ := hg9; clear hown9 hg9)
                go_roundw
                case rel => exact ⟨i + 1, by omega, by go_num, by rw [HAL2.out], by rw [HT.out]; exact HO9.out, HBZ.out.grown HG9.out HSZ.out (fun b hb => (World.ownsRow.lt HO.out b hb).1)⟩
                case measure => simp [intOf]; omega
              · have h0I : ¬ (0 : Int) < (dn : Int) := by omega
                have HAL2 : Hid (allS (S.take (i + 1)) = false) := by unfold Hid; rw [HAL.out, ← HTQ.out, decide_eq_false h0]; rfl
                clear hab
                go_wp2_with (at_builtin; refine wp_app rfl _ _ rfl wr.heap.size u8 (S.take i).flatten t _ _ rfl HO.out (by rw [← HTQ.out]; rfl) HBY.out.rd HBY.out.nil (by rw [← HTQ.out]; omega) HSZ.out ?_; intro v9 w9 hown9 hg9; have HO9 : Hid (Own w9 wr.heap.size v9 ((S.take i).flatten ++ t)) := hown9; have HG9 : Hid _ := hg9; clear hown9 hg9)
                go_roundw
                case rel => exact ⟨i + 1, by omega, by go_num, by rw [HAL2.out], by rw [HT.out]; exact HO9.out, HBZ.out.grown HG9.out HSZ.out (fun b hb => (World.ownsRow.lt HO.out b hb).1)⟩
                case measure => simp [intOf]; omega
          · obtain rfl : i = N := by omega
            have hiI : ¬ (i : Int) < (i : Int) := by omega
            have htk : S.take i = S := List.take_of_length_le (by rw [HSN.out]; exact Nat.le_refl _)
            rw [htk] at HO ⊢
            clear htk
            have hO9 := HO.out
            obtain ⟨a8, c8, hv8, hle8, -, hnil8, hrd8, -⟩ := hO9.val
            obtain ⟨L, hL⟩ : ∃ L, L = S.flatten.length := ⟨_, rfl⟩
            rw [← hL] at hv8 hle8
            subst hv8
            have HL : Hid _ := hL
            have HRD8 : Hid _ := hrd8
            have HOW : Hid (Calls _ _ _ wz _) := (HP.out.one.below HBZ.out).whole
            have hflm : L ≤ 65536 := by
              have h1 := flat_le (S := S) HSML.out
              have h2 : S.length * 1024 ≤ 64 * 1024 := Nat.mul_le_mul_right _ (by rw [HSN.out]; exact hN64)
              rw [hL]
              omega
            clear hO9 hrd8 hL HO
            rcases hab : allS S with _ | _
            · have e1 : wholeB (some S) = false := hab
              have e2 : wholeX (some S) = [] := by show (if allS S = true then S.flatten else []) = []; rw [hab]; rfl
              have HE1 : Hid _ := e1
              have HE2 : Hid _ := e2
              clear hab e1 e2
              go_wp2_with (go_at_call 18; refine Calls.mono HOW.out ?_; rintro e wa ⟨ua, hea, howna, hba⟩; rw [HE1.out] at hea; rw [HE2.out] at howna; subst hea; obtain ⟨aa, ca, hva, -⟩ := howna.val; rw [List.length_nil] at hva; subst hva; have HBA : Hid _ := hba; clear hba howna)
              go_ret
              exact ⟨by first | rfl | simp, below_next (below_next (below_next HB0.out HP.out.bel) HBZ.out) HBA.out⟩
            · have e1 : wholeB (some S) = true := hab
              have e2 : wholeX (some S) = S.flatten := by show (if allS S = true then S.flatten else []) = S.flatten; rw [hab]; rfl
              have HE1 : Hid _ := e1
              have HE2 : Hid _ := e2
              have HAB : Hid _ := hab
              clear hab e1 e2
              go_wp2_with fail
              refine Calls.mono HOW.out ?_
              rintro e wa ⟨ua, hea, howna, hba⟩
              rw [HE1.out] at hea
              rw [HE2.out] at howna
              subst hea
              obtain ⟨aa, ca, hva, hlea, -, hnila, hrda, -⟩ := howna.val
              rw [← HL.out] at hva hlea
              subst hva
              have HBA : Hid _ := hba
              have HRDA : Hid _ := hrda
              obtain ⟨y0, y1⟩ := HCS.out _ (HP.out.bel.trans ((below_next HBZ.out hba).mono HP.out.bel.size))
              have HRDL : Hid _ := HRL.out.below (below_next HBZ.out hba)
              have HRD8A : Hid _ := Rd.below HRD8.out hba
              clear howna hrda hba
              by_cases h1N : 1 < i
              · have h1I : (1 : Int) < (i : Int) := by omega
                obtain ⟨b, o, d, t, ea, hd, ht, hcl, hby⟩ := HRDL.out.at_ (k := 0) (by rw [HSN.out]; omega)
                cases ea
                obtain ⟨da, M, dc⟩ := d
                have hMt : M = t.length := hby.n
                simp only [Nat.zero_add] at hcl
                obtain ⟨p1, p2, p3⟩ := whole_cut (S := S) (by rw [HSN.out]; omega) (by rw [HSN.out]; omega) HSML.out HFIT.out HAB.out M (by rw [if_pos (by rw [HSN.out]; exact h1N), ht]; exact hMt)
                rw [← HL.out] at p1 p2
                have hM1 := cutE_zero p2
                have h0i : (0 : Int) < (i : Int) := by omega
                have h0n : 0 < i := by omega
                have HCT : Hid _ := cut_p (w := wa) aa L ca S.flatten (M : Int) (by omega) HL.out HRDA.out hlea (by omega)
                have HP2 : Hid _ := p2
                have HP3 : Hid _ := p3
                have hL1 : (L : Int) ≤ 1024 := by omega
                clear hd ht hby hMt p2 p3 hM1
                go_wp2_with fail
                refine Calls.mono HCT.out ?_
                rintro e wb ⟨vb, Eb, heb, hlsb, hbb⟩
                rw [← HL.out, HP2.out] at heb
                rw [HP3.out] at hlsb
                subst heb
                obtain ⟨ab, cb, hvb, hrlb, -, -⟩ := hlsb.rdL
                rw [HSN.out] at hvb
                subst hvb
                have HSL : Hid _ := sameL_t (w := wb) ab (some ⟨w2.heap.size, 0, none⟩) i i cb i Eb E S HSN.out.symm HSN.out.symm hrlb (HRDL.out.below hbb) (by omega)
                have cv1 := conv_rd' (Rd.below HRDA.out hbb) L ca HL.out
                have cv2 := conv_rd' (Rd.below HRD8A.out hbb) L c8 HL.out
                have HBB : Hid _ := hbb
                clear hlsb hrlb hbb
                go_wp2_with (first | (go_at_call 12; refine Calls.mono (HNUM.out _ _) ?_; rintro e w' ⟨rfl, hq⟩; have hq := hq.symm; subst hq) | (go_at_call 13; refine Calls.mono HSL.out ?_; rintro e wc ⟨rfl, hbc⟩; have HBC : Hid _ := hbc; clear hbc))
                go_ret
                exact ⟨rfl, below_next (below_next (below_next (below_next (below_next HB0.out HP.out.bel) HBZ.out) HBA.out) HBB.out) HBC.out⟩
              · have h1I : ¬ (1 : Int) < (i : Int) := by omega
                obtain ⟨p1, p2, p3⟩ := whole_cut (S := S) (by rw [HSN.out]; omega) (by rw [HSN.out]; omega) HSML.out HFIT.out HAB.out L (by rw [if_neg (by rw [HSN.out]; exact h1N)]; exact HL.out)
                rw [← HL.out] at p1 p2
                have hM1 := cutE_zero p2
                have HCT : Hid _ := cut_p (w := wa) aa L ca S.flatten (L : Int) (by omega) HL.out HRDA.out hlea (by omega)
                have HP2 : Hid _ := p2
                have HP3 : Hid _ := p3
                have hL1 : (L : Int) ≤ 1024 := by omega
                clear p2 p3 hM1
                go_wp2_with fail
                refine Calls.mono HCT.out ?_
                rintro e wb ⟨vb, Eb, heb, hlsb, hbb⟩
                rw [← HL.out, HP2.out] at heb
                rw [HP3.out] at hlsb
                subst heb
                obtain ⟨ab, cb, hvb, hrlb, -, -⟩ := hlsb.rdL
                rw [HSN.out] at hvb
                subst hvb
                have HSL : Hid _ := sameL_t (w := wb) ab (some ⟨w2.heap.size, 0, none⟩) i i cb i Eb E S HSN.out.symm HSN.out.symm hrlb (HRDL.out.below hbb) (by omega)
                have cv1 := conv_rd' (Rd.below HRDA.out hbb) L ca HL.out
                have cv2 := conv_rd' (Rd.below HRD8A.out hbb) L c8 HL.out
                have HBB : Hid _ := hbb
                clear hlsb hrlb hbb
                go_wp2_with (first | (go_at_call 12; refine Calls.mono (HNUM.out _ _) ?_; rintro e w' ⟨rfl, hq⟩; have hq := hq.symm; subst hq) | (go_at_call 13; refine Calls.mono HSL.out ?_; rintro e wc ⟨rfl, hbc⟩; have HBC : Hid _ := hbc; clear hbc))
                go_ret
                exact ⟨rfl, below_next (below_next (below_next (below_next (below_next HB0.out HP.out.bel) HBZ.out) HBA.out) HBB.out) HBC.out⟩
end Go.Proofs.Ytmjhbckedagjjaa
