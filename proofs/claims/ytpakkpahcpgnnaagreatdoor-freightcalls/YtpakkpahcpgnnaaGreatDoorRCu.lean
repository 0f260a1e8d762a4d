import Derived.Test.YtpakkpahcpgnnaaGreatDoorCH
import Derived.Test.YtpakkpahcpgnnaaGreatDoorRL
set_option linter.unusedVariables false
set_option linter.unusedSimpArgs false
namespace Go.Proofs.YtpakkpahcpgnnaaGreatDoor
open Go.RowKit
abbrev KB : Kd UInt8 := { t := 5, ts := 22, k := 1, by_ := 1, f := fun b => [.int .u8 (b.toNat : Int)], z := .int .u8 0, hk := fun _ => rfl, h1 := (fun d u hu => by simp at hu; subst hu; rfl), hpos := by decide, ht := Tryz.underlying22, hi := by kernel_rfl, hz := rfl }
theorem wpo_appB1 {w : World} {o : Oper} {a : Act} {P : Act → World → Prop} {Q : Exit → Act → World → Prop} (s x : Operand)
 (ho : o.op = .call { callee := .builtin .append, args := #[s, x], argTypes := #[22, 22] }) (B : Nat) (v : Value) (xs : List UInt8) (y : UInt8) (n : Nat) (hn : n = xs.length) (b9 o9 : Nat) (cap : Nat)
 (hs : a.eval s = v) (hown : Own w B v xs) (hx : a.eval x = .slice (some ⟨b9, o9, none⟩) 1 cap) (hr : w.cell? ⟨b9, o9, none⟩ = some (.int .u8 (y.toNat : Int)))
 (hb : n + 1 ≤ 140737488355328) (hbase : B ≤ w.heap.size)
 (h : ∀ g cap w', Own w' B (.slice (some ⟨g, 0, none⟩) (n + 1) cap) (xs ++ [y]) → w.grownBy w' v.ownBlock → (v.ownBlock = some g ∨ w.heap.size ≤ g) → P (a.put o.dst (.slice (some ⟨g, 0, none⟩) (n + 1) cap)) w') : o.wp Tryz.prog a w P Q := by
 subst hn; obtain ⟨i0, hi, hz0, hz1, hz2⟩ := info_parts KB.hi; refine wp_append_lies w s x 22 ho B 5 i0 (.int .u8 0) 1 1 Tryz.underlying22 hi hz0 hz1 hz2 rfl (by decide) v xs.length (bv xs) hs hown ⟨b9, o9, none⟩ 1 cap (bv [y]) hx rfl (fun j u hj => ?_) (bv_one [y]) (by omega) (by simp only [maxLen]; omega) (by simpa using hb) hbase w.heap.size rfl ?_
 · have h0 : j = 0 := by
    have := (List.getElem?_eq_some_iff.1 hj).1; simp [bv] at this; exact this
   subst h0; simp [bv] at hj; subst hj; rw [Go.WideShapes.add_plain]
   simpa using hr
 · intro g cap w' h1 h2 h3 _; refine h g cap w' ?_ h2 (h3.imp id (fun e => by omega)); unfold Own; rw [List.length_append, bv_append]; exact h1
section
variable {w w' w1 : World} {B : Nat} {v : Value} {E : List Dc} {T : List (List UInt8)}
theorem Fml.setd (h : Fml w B E T) {i : Nat} {d d' : Dc} (hd : E[i]? = some d) {t' : List UInt8} (hg : w.grownBy w1 d.v.ownBlock) (ho : Own w1 B d'.v t') (hat : ∀ b, d'.v.ownBlock = some b → d.v.ownBlock = some b ∨ w.heap.size ≤ b) : Fml w1 B (E.set i d') (T.set i t') := by
 have hi : i < E.length := (List.getElem?_eq_some_iff.1 hd).1; have hiT : i < T.length := by rw [← h.len]; exact hi
 have old : ∀ (j : Nat) e b, j ≠ i → E[j]? = some e → e.v.ownBlock = some b → d'.v.ownBlock = some b → False := fun j e b hji he hb hb2 => by
  rcases hat b hb2 with h1 | h1
  · exact h.ap i j d e b hd he (Ne.symm hji) h1 hb
  · have := (h.lt ⟨j, e, he, hb⟩).2; omega
 refine ⟨by rw [List.length_set, List.length_set]; exact h.len, fun j e s he hs => ?_, fun j k e f b he hf hne h1 h2 => ?_⟩
 · by_cases hij : i = j
   · subst hij; rw [List.getElem?_set_self hi] at he; rw [List.getElem?_set_self hiT] at hs; cases he; cases hs; exact ho
   · rw [List.getElem?_set_ne hij] at he hs; have h1 := h.own j e s he hs; exact Own.keptb h1 (fun b hb => hg.block b (World.ownsRow.lt h1 b hb).2 (fun e2 => h.ap i j d e b hd he hij e2.symm hb))
 · by_cases hij : i = j
   · subst hij; rw [List.getElem?_set_self hi] at he; cases he; rw [List.getElem?_set_ne hne] at hf; exact old k f b (Ne.symm hne) hf h2 h1
   · rw [List.getElem?_set_ne hij] at he
     by_cases hik : i = k
     · subst hik; rw [List.getElem?_set_self hi] at hf; cases hf; exact old j e b (Ne.symm hij) he h1 h2
     · rw [List.getElem?_set_ne hik] at hf; exact h.ap j k e f b he hf hne h1 h2
theorem Lists.setl {g n c : Nat} (h : Lists w B (.slice (some ⟨g, 0, none⟩) n c) E T) (hn : n = E.length) {i : Nat} {d d' : Dc} (hd : E[i]? = some d) {t' : List UInt8} (hg : w.grownBy w1 d.v.ownBlock) (ho : Own w1 B d'.v t') (hat : ∀ b, d'.v.ownBlock = some b → d.v.ownBlock = some b ∨ w.heap.size ≤ b) :
 Lists (w1.setCell ⟨g, i, none⟩ d'.v) B (.slice (some ⟨g, 0, none⟩) n c) (E.set i d') (T.set i t') := by
 have hi : i < E.length := (List.getElem?_eq_some_iff.1 hd).1; have hf := h.fml.setd hd hg ho hat
 have hr1 : OwnG KL w1 B (.slice (some ⟨g, 0, none⟩) n c) E := h.row.kept (fun b e => hg.block b (h.row.lt' e).2 (fun e2 => by
   obtain ⟨cur, h1⟩ := h.row.at_ e; obtain ⟨C, h2⟩ := h.fml.ty ⟨i, d, hd, e2.symm⟩
   exact absurd (ty_of h1 h2) (by decide)))
 refine ⟨?_, hf.keep5 (fun b C h1 => heap_setCell_other _ _ _ _ (fun e => ?_))⟩
 · have := OwnG.setc (K := KL) hr1 hn i 0 hi (by decide) d' d'.v rfl
   simpa using this
 · obtain ⟨cur, h2⟩ := hr1.at_ (b := g) rfl; have e' : b = g := e; rw [e'] at h1; exact absurd (ty_of h1 h2) (by decide)
theorem Lists.cellAt {g n c : Nat} (h : Lists w B (.slice (some ⟨g, 0, none⟩) n c) E T) (hn : n = E.length) {i : Nat} {d : Dc} (hd : E[i]? = some d) : w.cell? ⟨g, i, none⟩ = some d.v := by
 obtain ⟨hi, e⟩ := List.getElem?_eq_some_iff.1 hd; have := h.row.cell hn i 0 hi (by decide); rw [e] at this
 simpa using this
end
def stT (xs : Seg) (m q r : Nat) : List Seg := segN xs m q ++ (if r = 0 then [] else [(xs.drop (q * m)).take r])
theorem stT_len (xs : Seg) (m q r : Nat) : (stT xs m q r).length = if r = 0 then q else q + 1 := by
 unfold stT; rw [List.length_append, segN_len]; split <;> simp
theorem take_one_more (xs : Seg) (q m r : Nat) (c : UInt8) (h : xs[q * m + r]? = some c) : (xs.drop (q * m)).take r ++ [c] = (xs.drop (q * m)).take (r + 1) := by
 rw [List.take_add_one, List.getElem?_drop, h]
 rfl
theorem stT_next (xs : Seg) (m q r : Nat) (hm : 0 < m) (hr : r < m) : segN xs m q ++ [(xs.drop (q * m)).take (r + 1)] = if r + 1 = m then stT xs m (q + 1) 0 else stT xs m q (r + 1) := by
 by_cases h : r + 1 = m
 · rw [if_pos h]; unfold stT; rw [if_pos rfl, List.append_nil, segN_succ, h]
 · rw [if_neg h]; unfold stT; rw [if_neg (by omega)]
theorem stT_end (xs : Seg) (m q r : Nat) (hm : 0 < m) (hr : r < m) (hn : xs.length = q * m + r) : stT xs m q r = segN xs m (cutN xs.length m) := by
 by_cases h : r = 0
 · subst h; rw [cutN_of (j := q) hm (by omega) (by omega)]; simp [stT]
 · rw [cutN_of (j := q + 1) hm (by rw [Nat.succ_mul]; omega) (by rw [Nat.succ_mul]; omega), segN_succ]; unfold stT; rw [if_neg h]
   congr 2
   rw [List.take_of_length_le (by rw [List.length_drop]; omega), List.take_of_length_le (by rw [List.length_drop]; omega)]
open Go.RowKit
section
variable {w w' : World}
set_option maxRecDepth 20000 in
set_option maxHeartbeats 1600000 in
theorem rcut_no (ao : Option Addr) (n cap : Nat) (m : Int) (hm : -9223372036854775808 ≤ m ∧ m ≤ 9223372036854775807) (hn : n ≤ 140737488355328) (he : cutE n m ≠ 0) : Calls Tryz.prog 88 #[.slice ao n cap, .int .i64 m] w fun e w' => e = .returned (.tuple #[.slice none 0 0, .int .i64 (cutE n m)]) ∧ w' = w := by
 by_cases h1 : m < 1
 · have HE : Hid (cutE n m = 1) := if_pos (.inl h1); go_enter Tryz.func88, Tryz.ntmps88
   go_wp2; go_ret2; rw [HE.out]; exact ⟨rfl, rfl⟩
 · by_cases h2 : 1024 < m
   · have HE : Hid (cutE n m = 1) := if_pos (.inr (.inl h2)); go_enter Tryz.func88, Tryz.ntmps88
     go_wp2; go_ret2; rw [HE.out]; exact ⟨rfl, rfl⟩
   · by_cases h3 : n = 0
     · subst h3; have HE : Hid (cutE 0 m = 1) := if_pos (.inr (.inr rfl)); go_enter Tryz.func88, Tryz.ntmps88
       go_wp2; go_ret2; rw [HE.out]; exact ⟨rfl, rfl⟩
     · have h3b : ((n : Int) == 0) = false := by simp; omega
       have hno : ¬ (m < 1 ∨ 1024 < m ∨ n = 0) := by omega
       by_cases h4 : 1024 < n
       · have HE : Hid (cutE n m = 81) := by unfold Hid cutE; rw [if_neg hno, if_pos h4]
         have h4i : (1024 : Int) < (n : Int) := by omega
         clear hno h3 he; go_enter Tryz.func88, Tryz.ntmps88
         go_wp2; go_ret2; rw [HE.out]; exact ⟨rfl, rfl⟩
       · have h4i : ¬ (1024 : Int) < (n : Int) := by omega
         by_cases h5 : m * 64 < (n : Int)
         · have HE : Hid (cutE n m = 2) := by unfold Hid cutE; rw [if_neg hno, if_neg h4, if_pos h5]
           have hw : IntKind.i64.wrap (m * 64) = m * 64 := by rw [IntKind.wrap_i64]; omega
           clear hno h3 he; go_enter Tryz.func88, Tryz.ntmps88
           go_wp2; go_ret2; rw [HE.out]; exact ⟨rfl, rfl⟩
         · exact absurd (show cutE n m = 0 by unfold cutE; rw [if_neg hno, if_neg h4, if_neg h5]) he
def DRel (xs : Seg) (m : Nat) (w : World) (v f : Value) (wr : World) : Prop := ∃ (q r : Nat) (E : List Dc), f = .int .i64 ((q * m + r : Nat) : Int) ∧ r < m ∧ q * m + r ≤ xs.length ∧ Lists wr w.heap.size v E (stT xs m q r) ∧ Below w.heap.size w wr
theorem Lists.rowKept {w w1 : World} {B g n c : Nat} {E : List Dc} {T : List Seg} (h : Lists w B (.slice (some ⟨g, 0, none⟩) n c) E T) (hn : n = E.length) {i : Nat} {d : Dc} (hd : E[i]? = some d) (hg : w.grownBy w1 d.v.ownBlock) : w1.cell? ⟨g, i, none⟩ = some d.v ∧ w1.frozen? ⟨g, i, none⟩ = false := by
 have h8 : w1.heap[g]? = w.heap[g]? := hg.block g (h.row.lt' (b := g) rfl).2 (fun e => by
   obtain ⟨cur, h1⟩ := h.row.at_ (b := g) rfl; obtain ⟨C, h2⟩ := h.fml.ty ⟨i, d, hd, e.symm⟩
   exact absurd (ty_of h1 h2) (by decide))
 exact ⟨(World.cell?_of_block h8).trans (h.cellAt hn hd), (World.frozen?_of_block h8).trans (h.row.fz i)⟩
theorem rd_cell {w : World} {b o : Nat} {xs : List UInt8} (h : Rd w (some ⟨b, o, none⟩) xs) {i : Nat} {y : UInt8} (hy : xs[i]? = some y) : w.cell? ⟨b, o + i, none⟩ = some (.int .u8 (y.toNat : Int)) := by
 obtain ⟨hi, e⟩ := List.getElem?_eq_some_iff.1 hy; obtain ⟨b2, o2, e2, h8⟩ := h (by omega); cases e2; rw [h8 i hi, e]
theorem set_last (A : List Seg) (x y : Seg) : (A ++ [x]).set A.length y = A ++ [y] := by
 rw [List.set_append_right _ _ (Nat.le_refl _)]; simp
set_option maxRecDepth 20000 in
set_option maxHeartbeats 3200000 in
theorem rcut_t (ao : Option Addr) (n cap : Nat) (xs : Seg) (m : Nat) (hn : n = xs.length) (hx : Rd w ao xs) (hle : n ≤ cap) (h1 : 1 ≤ m) (h2 : m ≤ 1024) (h3 : 1 ≤ n) (h4 : n ≤ 1024) (h5 : n ≤ m * 64) :
 Calls Tryz.prog 88 #[.slice ao n cap, .int .i64 (m : Int)] w fun e w' => ∃ v E, e = .returned (.tuple #[v, .int .i64 0]) ∧ Lists w' w.heap.size v E (segN xs m (cutN n m)) ∧ Below w.heap.size w w' := by
 have g1 : ¬ (m : Int) < 1 := by omega
 have g2 : ¬ 1024 < (m : Int) := by omega
 have g3 : ((n : Int) == 0) = false := by simp; omega
 have g4 : ¬ (1024 : Int) < (n : Int) := by omega
 have hw : IntKind.i64.wrap ((m : Int) * 64) = ((m * 64 : Nat) : Int) := by rw [IntKind.wrap_i64]; omega
 have g5 : ¬ ((m * 64 : Nat) : Int) < (n : Int) := by omega
 obtain ⟨b, o, rfl, -⟩ := hx (by omega); have HX : Hid _ := hx; have HN : Hid _ := hn; clear hn hx; go_enter Tryz.func88, Tryz.ntmps88
 go_wp2; go_loopw [7, 8] (fun v f wr => DRel xs m w v f wr) (fun _ f _ => n - (intOf f).toNat)
 case atStart => exact ⟨0, 0, [], by simp, by omega, by simp, Lists.nil _ _, bR _ _⟩
 case round =>
  obtain ⟨q, r, E, rfl, hrm, hqn, hls, hbw⟩ := hrel; obtain ⟨i, hi⟩ : ∃ i, i = q * m + r := ⟨_, rfl⟩; rw [← hi] at hqn ⊢; rw [← HN.out] at hqn; have HI : Hid _ := hi; have HL : Hid _ := hls; have HB : Hid _ := hbw; have hsz := hbw.size
  by_cases hlt : i < n
  · have hltI : (i : Int) < (n : Int) := by omega
    have hi0 : (0 : Int) ≤ (i : Int) := by omega
    have hmod : Int.tmod (i : Int) (m : Int) = (r : Int) := by
     rw [Int.tmod_eq_emod_of_nonneg (by omega), ← Int.natCast_emod, hi, Nat.mul_comm, Nat.mul_add_mod, Nat.mod_eq_of_lt hrm]
    have hm0 : ((m : Int) == 0) = false := by simp; omega
    have hm1 : ¬ (m : Int) = 0 := by omega
    obtain ⟨y, hy⟩ : ∃ y, xs[i]? = some y := ⟨_, List.getElem?_eq_getElem (by rw [← HN.out]; exact hlt)⟩; have HY : Hid _ := hy
    have hqm : q ≤ 1024 := by
     have : q * 1 ≤ q * m := Nat.mul_le_mul_left _ h1; omega
    clear hls hbw hi hy
    by_cases hr0 : r = 0
    · subst hr0; obtain ⟨Q1, hQ1⟩ : ∃ Q1, Q1 = q + 1 := ⟨_, rfl⟩; have HQ1 : Hid _ := hQ1; have hkw : IntKind.i64.wrap ((Q1 : Int) - 1) = (q : Int) := by rw [IntKind.wrap_i64]; omega
      have HEq : Hid (q = E.length) := by unfold Hid; have := HL.out.len; rw [stT_len, if_pos rfl] at this; exact this.symm
      have HST : Hid (stT xs m q 0 ++ [[]] = segN xs m q ++ [[]]) := by unfold Hid; simp [stT]
      clear hQ1; go_wp2_with (at_builtin; refine wp_appG1 (K := KL) rfl _ _ rfl w.heap.size u7 E Dc.z q HEq.out ⟨wr.heap.size, 0, none⟩ 1 rfl (HL.out.row.below (al (bR _ _) _)) rfl (rdG_lit (heap_alloc_new _ _) rfl) (by show (q + 1) * 24 ≤ _; omega) (by simp only [maxLen]; omega) (by simp; omega) ?_; intro g5 c5 w5 hown5 hg5 hat5; rw [← HQ1.out] at hown5 ⊢; have HO5 : Hid _ := hown5; have HG5 : Hid _ := hg5; clear hown5 hg5 hat5)
      have h5' := HL.out.push (al (bR _ _) (.cells #[.slice none 0 0] 22)) HB.out.size (d := Dc.z) (t := []) (World.ownsRow_nil _ _ _ _) HG5.out HO5.out; rw [HST.out] at h5'; have H5 : Hid _ := h5'; have HB5 : Hid (Below w.heap.size w w5) := (HB.out.trans ((al (bR _ _) _).mono HB.out.size)).grown HG5.out (by simp; omega) (fun k hk => (HL.out.row.lt' hk).1); have HN5 : Hid (Q1 = (E ++ [Dc.z]).length) := by unfold Hid; rw [HQ1.out, HEq.out]; simp
      have HYC : Hid (w5.cell? ⟨b, o + i, none⟩ = some (.int .u8 (y.toNat : Int))) := rd_cell (Rd.below HX.out HB5.out) HY.out
      have HYY : Hid (([] : Seg) ++ [y] = (xs.drop (q * m)).take (0 + 1)) := by
       unfold Hid; have := take_one_more xs q m 0 y (by rw [← HI.out]; exact HY.out)
       simpa using this
      have HYL : Hid (([] : Seg).length ≤ 1024) := by unfold Hid; simp
      obtain ⟨da, hda⟩ : ∃ da : Option Addr, da = none := ⟨_, rfl⟩; obtain ⟨dn, hdn⟩ : ∃ dn : Nat, dn = 0 := ⟨_, rfl⟩; obtain ⟨dc, hdc⟩ : ∃ dc : Nat, dc = 0 := ⟨_, rfl⟩; have HDN : Hid (dn = ([] : Seg).length) := hdn; have HD5 : Hid ((E ++ [Dc.z])[q]? = some ⟨da, dn, dc⟩) := by unfold Hid; rw [hda, hdn, hdc, HEq.out]; simp
      have HOD : Hid (Own w5 w.heap.size (.slice da dn dc) ([] : Seg)) := by unfold Hid; rw [hda, hdn, hdc]; exact World.ownsRow_nil _ _ _ _
      clear hda hdn hdc h5' HO5 HG5 hmod; have hq0 : (0 : Int) ≤ (q : Int) := by omega
      have hqI : (q : Int) < (Q1 : Int) := by have := HQ1.out; omega
      have hql : q < Q1 := by have := HQ1.out; omega
      have hdnm : dn ≤ 1024 := by have := HDN.out; have := HYL.out; omega
      have HCL : Hid (∀ u, Below w5.heap.size w5 u → u.cell? ⟨g5, q, none⟩ = some (.slice da dn dc)) := fun u hu => (H5.out.below hu).cellAt HN5.out HD5.out
      have HCX : Hid (∀ u, Below w5.heap.size w5 u → u.cell? ⟨b, o + i, none⟩ = some (.int .u8 (y.toNat : Int))) := fun u hu => (hu.cell (World.block_lt_of_cell? w5 _ HYC.out)).trans HYC.out
      have HK6 : Hid (∀ u u', Below w5.heap.size w5 u → u.grownBy u' (Value.slice da dn dc).ownBlock → u'.cell? ⟨g5, q, none⟩ = some (.slice da dn dc) ∧ u'.frozen? ⟨g5, q, none⟩ = false) := fun u u' hu hg => (H5.out.below hu).rowKept HN5.out HD5.out hg
      refine wp_region_noPanic ?_; refine wp_region_late_drew (S := (fun u => Below w5.heap.size w5 u)) (X := [11, 12, 13]) (by kernel_rfl) (by with_reducible first | exact (bR _ _).drew | exact al (bR _ _).drew _ | exact al hHeld _ | exact (al (bR _ _) _).drew) (fun hHeld => ?_); refine qA 0 43 hHeld ?_; simp only [pS]; refine qA 1 44 hHeld ?_; simp only [pS]; refine qA 2 45 hHeld ?_; simp only [pS]; refine qA 3 46 hHeld ?_; simp only [pS]; refine qA 4 47 hHeld ?_; simp only [pS]; refine qL 5 48 (v := .slice da dn dc) ?_ hHeld ?_
      · (intro w hSw; have hc9 := HCL.out _ hSw; go_simp; try with_reducible rfl)
      simp only [pS]; refine qA 6 49 hHeld ?_; simp only [pS]; refine qA 7 50 hHeld ?_; simp only [pS]; refine qA 8 51 hHeld ?_; simp only [pS]; refine qL 9 52 (v := .int .u8 (y.toNat : Int)) ?_ hHeld ?_
      · (intro w hSw; have hc9 := HCX.out _ hSw; go_simp; try with_reducible rfl)
      simp only [pS]; refine run_atL (i := 10) rfl (by kernel_rfl) (by rfl) (fun K hK => ?_); simp only [gE]; go_simp; (go_wp2_with fail); refine hK.out _ _ (by with_reducible first | exact (bR _ _).drew | exact al (bR _ _).drew _ | exact al hHeld _ | exact (al (bR _ _) _).drew) ?_; clear hK K; clear hHeld; intro hHeld; (try simp only [pS]); refine run_atLate (i := 11) rfl (by kernel_rfl) (by decide) (by rfl) (fun K hK => ?_); simp only [gE]
      (refine wpo_appB1 _ _ rfl w.heap.size (.slice da dn dc) ([] : Seg) y dn HDN.out w5.heap.size 0 1 rfl (Own.below HOD.out (al (bR _ _).drew _)) rfl (by simp) (by omega) (by have := HB5.out.size; simp; omega) ?_; intro g6 c6 w6 hown6 hg6 hat6; have HO6 : Hid (Own w6 w.heap.size (Dc.v ⟨some ⟨g6, 0, none⟩, dn + 1, c6⟩) (([] : Seg) ++ [y])) := hown6; have HG6 : Hid _ := hg6; have HA6 : Hid _ := hat6; clear hown6 hg6 hat6; obtain ⟨hce, hfe⟩ := HK6.out _ w6 (al (bR _ _).drew _) HG6.out)
      refine hK.out _ _ ?_; clear hK K; (try simp only [pS]); refine val_atLate (i := 12) 55 (v := ?_) rfl rfl (by kernel_rfl) (by decide) (by rfl) ?_ ?_; rotate_left
      · (go_simp; try with_reducible rfl)
      simp only [pS]; refine run_atLate (i := 13) rfl (by kernel_rfl) (by decide) (by rfl) (fun K hK => ?_); simp only [gE]; go_simp; (go_wp2_with fail); refine hK.out _ _ ?_; clear hK K; (try simp only [pS]); refine doneL (by kernel_rfl) ?_ _; refine NoPanic.normal ?_
      all_goals
       go_wp2; go_roundw
       case rel =>
        have h9 := Lists.setl (H5.out.below (al (bR _ _).drew _)) HN5.out HD5.out (d' := ⟨some ⟨g6, 0, none⟩, dn + 1, c6⟩) HG6.out HO6.out (fun b e => by cases e; exact HA6.out.imp id (fun h => h))
        have e1 : (segN xs m q ++ [([] : Seg)]).set q (([] : Seg) ++ [y]) = segN xs m q ++ [([] : Seg) ++ [y]] := by
         have := set_last (segN xs m q) ([] : Seg) (([] : Seg) ++ [y]); rw [segN_len] at this; exact this
        rw [e1, HYY.out, stT_next xs m q 0 h1 hrm] at h9
        have hbz : Below w.heap.size w (w6.setCell ⟨g5, q, none⟩ (Dc.v ⟨some ⟨g6, 0, none⟩, dn + 1, c6⟩)) := by
         have hz1 : Below w.heap.size w w6 := (HB5.out.trans ((al (bR _ _).drew _).mono HB5.out.size)).grown HG6.out (by have := HB5.out.size; simp; omega) (fun k hk => (World.ownsRow.lt HOD.out k hk).1); exact hz1.grown (gset1 w6 g5 q _) hz1.size (fun k hk => by cases hk; exact (H5.out.row.lt' (b := g5) rfl).1)
        by_cases hrl : 0 + 1 = m
        · rw [if_pos hrl] at h9; refine ⟨q + 1, 0, _, ?_, by omega, ?_, h9, hbz⟩
          · rw [show (q + 1) * m + 0 = i + 1 by have := HI.out; rw [Nat.succ_mul]; omega]; go_num
          · rw [← HN.out, show (q + 1) * m + 0 = i + 1 by have := HI.out; rw [Nat.succ_mul]; omega]; omega
        · rw [if_neg hrl] at h9; refine ⟨q, 0 + 1, _, ?_, by omega, ?_, h9, hbz⟩
          · rw [show q * m + (0 + 1) = i + 1 by have := HI.out; omega]; go_num
          · rw [← HN.out, show q * m + (0 + 1) = i + 1 by have := HI.out; omega]; omega
       case measure => simp [intOf]; omega
    · have hr1 : ((r : Int) == 0) = false := by simp; omega
      obtain ⟨Q1, hQ1⟩ : ∃ Q1, Q1 = q + 1 := ⟨_, rfl⟩; have HQ1 : Hid _ := hQ1; have hkw : IntKind.i64.wrap ((Q1 : Int) - 1) = (q : Int) := by rw [IntKind.wrap_i64]; omega
      have HEq : Hid (Q1 = E.length) := by unfold Hid; have := HL.out.len; rw [stT_len, if_neg hr0] at this; rw [this, hQ1]
      obtain ⟨g5, c5, hv5, -⟩ := HL.out.row.one (by rw [← HEq.out]; omega); rw [← HEq.out] at hv5; subst hv5; have HST : Hid (stT xs m q r = segN xs m q ++ [(xs.drop (q * m)).take r]) := by unfold Hid stT; rw [if_neg hr0]
      have h5' := HL.out; rw [HST.out] at h5'; obtain ⟨w5, hw5⟩ : ∃ w5, w5 = wr := ⟨_, rfl⟩; subst hw5; have H5 : Hid _ := h5'; have HB5 : Hid (Below w.heap.size w w5) := HB.out; have HN5 : Hid (Q1 = E.length) := HEq.out; have HYC : Hid (w5.cell? ⟨b, o + i, none⟩ = some (.int .u8 (y.toNat : Int))) := rd_cell (Rd.below HX.out HB5.out) HY.out; have HYY : Hid ((xs.drop (q * m)).take r ++ [y] = (xs.drop (q * m)).take (r + 1)) := take_one_more xs q m r y (by rw [← HI.out]; exact HY.out); have HYL : Hid (((xs.drop (q * m)).take r).length ≤ 1024) := by unfold Hid; rw [List.length_take]; omega
      obtain ⟨⟨da, dn, dc⟩, hd5⟩ : ∃ d, E[q]? = some d := ⟨_, List.getElem?_eq_getElem (by rw [← HEq.out]; omega)⟩; have HD5 : Hid _ := hd5; have HOD : Hid (Own w5 w.heap.size (.slice da dn dc) ((xs.drop (q * m)).take r)) := h5'.fml.own q _ _ hd5 (by rw [List.getElem?_append_right (by rw [segN_len]; omega), segN_len]; simp); have HDN : Hid (dn = ((xs.drop (q * m)).take r).length) := (ByV.of_own HOD.out).1.n; clear h5' hd5 hQ1; go_wp2; have hq0 : (0 : Int) ≤ (q : Int) := by omega
      have hqI : (q : Int) < (Q1 : Int) := by have := HQ1.out; omega
      have hql : q < Q1 := by have := HQ1.out; omega
      have hdnm : dn ≤ 1024 := by have := HDN.out; have := HYL.out; omega
      have HCL : Hid (∀ u, Below w5.heap.size w5 u → u.cell? ⟨g5, q, none⟩ = some (.slice da dn dc)) := fun u hu => (H5.out.below hu).cellAt HN5.out HD5.out
      have HCX : Hid (∀ u, Below w5.heap.size w5 u → u.cell? ⟨b, o + i, none⟩ = some (.int .u8 (y.toNat : Int))) := fun u hu => (hu.cell (World.block_lt_of_cell? w5 _ HYC.out)).trans HYC.out
      have HK6 : Hid (∀ u u', Below w5.heap.size w5 u → u.grownBy u' (Value.slice da dn dc).ownBlock → u'.cell? ⟨g5, q, none⟩ = some (.slice da dn dc) ∧ u'.frozen? ⟨g5, q, none⟩ = false) := fun u u' hu hg => (H5.out.below hu).rowKept HN5.out HD5.out hg
      refine wp_region_noPanic ?_; refine wp_region_late_drew (S := (fun u => Below w5.heap.size w5 u)) (X := [11, 12, 13]) (by kernel_rfl) (by with_reducible first | exact (bR _ _).drew | exact al (bR _ _).drew _ | exact al hHeld _ | exact (al (bR _ _) _).drew) (fun hHeld => ?_); refine qA 0 43 hHeld ?_; simp only [pS]; refine qA 1 44 hHeld ?_; simp only [pS]; refine qA 2 45 hHeld ?_; simp only [pS]; refine qA 3 46 hHeld ?_; simp only [pS]; refine qA 4 47 hHeld ?_; simp only [pS]; refine qL 5 48 (v := .slice da dn dc) ?_ hHeld ?_
      · (intro w hSw; have hc9 := HCL.out _ hSw; go_simp; try with_reducible rfl)
      simp only [pS]; refine qA 6 49 hHeld ?_; simp only [pS]; refine qA 7 50 hHeld ?_; simp only [pS]; refine qA 8 51 hHeld ?_; simp only [pS]; refine qL 9 52 (v := .int .u8 (y.toNat : Int)) ?_ hHeld ?_
      · (intro w hSw; have hc9 := HCX.out _ hSw; go_simp; try with_reducible rfl)
      simp only [pS]; refine run_atL (i := 10) rfl (by kernel_rfl) (by rfl) (fun K hK => ?_); simp only [gE]; go_simp; (go_wp2_with fail); refine hK.out _ _ (by with_reducible first | exact (bR _ _).drew | exact al (bR _ _).drew _ | exact al hHeld _ | exact (al (bR _ _) _).drew) ?_; clear hK K; clear hHeld; intro hHeld; (try simp only [pS]); refine run_atLate (i := 11) rfl (by kernel_rfl) (by decide) (by rfl) (fun K hK => ?_); simp only [gE]
      (refine wpo_appB1 _ _ rfl w.heap.size (.slice da dn dc) ((xs.drop (q * m)).take r) y dn HDN.out w5.heap.size 0 1 rfl (Own.below HOD.out (al (bR _ _).drew _)) rfl (by simp) (by omega) (by have := HB5.out.size; simp; omega) ?_; intro g6 c6 w6 hown6 hg6 hat6; have HO6 : Hid (Own w6 w.heap.size (Dc.v ⟨some ⟨g6, 0, none⟩, dn + 1, c6⟩) (((xs.drop (q * m)).take r) ++ [y])) := hown6; have HG6 : Hid _ := hg6; have HA6 : Hid _ := hat6; clear hown6 hg6 hat6; obtain ⟨hce, hfe⟩ := HK6.out _ w6 (al (bR _ _).drew _) HG6.out)
      refine hK.out _ _ ?_; clear hK K; (try simp only [pS]); refine val_atLate (i := 12) 55 (v := ?_) rfl rfl (by kernel_rfl) (by decide) (by rfl) ?_ ?_; rotate_left
      · (go_simp; try with_reducible rfl)
      simp only [pS]; refine run_atLate (i := 13) rfl (by kernel_rfl) (by decide) (by rfl) (fun K hK => ?_); simp only [gE]; go_simp; (go_wp2_with fail); refine hK.out _ _ ?_; clear hK K; (try simp only [pS]); refine doneL (by kernel_rfl) ?_ _; refine NoPanic.normal ?_
      all_goals
       go_wp2; go_roundw
       case rel =>
        have h9 := Lists.setl (H5.out.below (al (bR _ _).drew _)) HN5.out HD5.out (d' := ⟨some ⟨g6, 0, none⟩, dn + 1, c6⟩) HG6.out HO6.out (fun b e => by cases e; exact HA6.out.imp id (fun h => h))
        have e1 : (segN xs m q ++ [((xs.drop (q * m)).take r)]).set q (((xs.drop (q * m)).take r) ++ [y]) = segN xs m q ++ [((xs.drop (q * m)).take r) ++ [y]] := by
         have := set_last (segN xs m q) ((xs.drop (q * m)).take r) (((xs.drop (q * m)).take r) ++ [y]); rw [segN_len] at this; exact this
        rw [e1, HYY.out, stT_next xs m q r h1 hrm] at h9
        have hbz : Below w.heap.size w (w6.setCell ⟨g5, q, none⟩ (Dc.v ⟨some ⟨g6, 0, none⟩, dn + 1, c6⟩)) := by
         have hz1 : Below w.heap.size w w6 := (HB5.out.trans ((al (bR _ _).drew _).mono HB5.out.size)).grown HG6.out (by have := HB5.out.size; simp; omega) (fun k hk => (World.ownsRow.lt HOD.out k hk).1); exact hz1.grown (gset1 w6 g5 q _) hz1.size (fun k hk => by cases hk; exact (H5.out.row.lt' (b := g5) rfl).1)
        by_cases hrl : r + 1 = m
        · rw [if_pos hrl] at h9; refine ⟨q + 1, 0, _, ?_, by omega, ?_, h9, hbz⟩
          · rw [show (q + 1) * m + 0 = i + 1 by have := HI.out; rw [Nat.succ_mul]; omega]; go_num
          · rw [← HN.out, show (q + 1) * m + 0 = i + 1 by have := HI.out; rw [Nat.succ_mul]; omega]; omega
        · rw [if_neg hrl] at h9; refine ⟨q, r + 1, _, ?_, by omega, ?_, h9, hbz⟩
          · rw [show q * m + (r + 1) = i + 1 by have := HI.out; omega]; go_num
          · rw [← HN.out, show q * m + (r + 1) = i + 1 by have := HI.out; omega]; omega
       case measure => simp [intOf]; omega
  · have hltI : ¬ (i : Int) < (n : Int) := by omega
    have hin : i = n := by omega
    have HIN : Hid _ := hin; clear hls hbw hi hin; go_wp2; go_ret2; have h9 := HL.out; rw [stT_end xs m q r h1 hrm (by rw [← HN.out, ← HI.out]; exact HIN.out.symm), ← HN.out] at h9
    first | exact ⟨_, _, rfl, h9, HB.out⟩ | exact ⟨_, rfl, ⟨_, h9⟩, HB.out⟩
end
end Go.Proofs.YtpakkpahcpgnnaaGreatDoor
