import Derived.Test.YtibolgpaolnheacQF
import Derived.Test.YtibolgpaolnheacQU
namespace Go.Proofs.Ytibolgpaolnheac
set_option linter.unusedVariables false
set_option linter.unusedSimpArgs false
open Go.RowKit
theorem info_int : (Try.prog.info? 3).map (fun i => (i.zero, i.size, i.bytes)) = some (some (.int .i64 0), 1, 8) := by kernel_rfl
abbrev cnt (P : List (List Ent)) : List Value := P.map fun p => .int .i64 (p.length : Int)
section
set_option maxRecDepth 20000
set_option maxHeartbeats 3200000
theorem get_t (x : Value) (pa : Option Addr) (n cap : Nat) (P : List (List Ent)) (s1 s2 : Nat) (w : World) (hx : PgV w x pa n cap) (hn : n = P.length) (hp : RdP w pa P) (hsp : SP P) (hl : n ≤ 4398046511104) (hlp : ∀ p ∈ P, p.length ≤ 100) :
    Calls Try.prog 20 #[x, sv (s1, s2)] w fun e w' => ∃ (p i : Nat) (ok : Bool) (v : Nat), e = .returned (.tuple #[.int .u64 (v : Int), .bool ok]) ∧ PlaceIs P (s1, s2) p i ok ∧ (ok = false → v = 0) ∧ (ok = true → ∃ h : i < (P.getD p []).length, v = (P.getD p [])[i].n) ∧ Below w.heap.size w w' := by
  obtain ⟨w1, hw1⟩ : ∃ X : World, X = w.alloc (.cells #[.int .u64 (s1 : Int), .int .u64 (s2 : Int)] tSt) := ⟨_, rfl⟩
  have hb1 : Below w.heap.size w w1 := by rw [hw1]; exact al (Below.refl _ _) _
  have HPL : Hid _ := place_t x pa n cap P (s1, s2) w1 (hx.below hb1) hn (hp.below hb1) hsp hl hlp
  have HX : Hid (PgV w x pa n cap) := hx
  have HB1 : Hid _ := hb1
  have HN : Hid _ := hn
  have HP : Hid (RdP w pa P) := hp
  clear hx hp hsp hlp hn hb1
  go_enter Try.func20, Try.ntmps20
  go_wp2_with fail
  rw [← hw1]
  refine Calls.mono HPL.out ?_
  rintro e w2 ⟨p, i, ok, rfl, hpl, hb2⟩
  have HB2 : Hid (Below w.heap.size w w2) := below_next HB1.out hb2
  have HPI : Hid (PlaceIs P (s1, s2) p i ok) := hpl
  cases ok
  · clear hpl hb2 hw1
    go_wp2
    refine bodyPost_ret (results_tmp2 rfl _ _ _) rfl ?_
    exact ⟨p, i, false, 0, rfl, HPI.out, fun _ => rfl, (fun h => by cases h), HB2.out⟩
  · obtain ⟨hpP, hiP, -⟩ : ∃ (hpP : p < P.length) (hiP : i < P[p].length), True := by
      rcases hpl with ⟨-, -, -, h⟩ | ⟨r, -, -, h3, -, h5⟩
      · cases h
      · obtain ⟨h6, -⟩ := h5.1 rfl
        rw [show P.getD p [] = P[p] by simp [List.getD, h3]] at h6
        exact ⟨h3, h6, trivial⟩
    have eP : P.getD p [] = P[p] := by simp [List.getD, hpP]
    obtain ⟨b, o, hpa, a, c, hcp, hkc, hnc, hre⟩ := (RdP.below HP.out HB2.out) p hpP
    subst hpa
    obtain ⟨b2, o2, ha, hr2, -⟩ := hre i hiP
    subst ha
    obtain ⟨g, hxg, hcg⟩ : ∃ g, x = .pointer (some ⟨g, 0, none⟩) ∧ w2.cell? ⟨g, 1, none⟩ = some (.slice (some ⟨b, o, none⟩) n cap) := by
      rcases PgV.below HX.out HB2.out with ⟨-, h, -⟩ | h
      · cases h
      · exact h
    subst hxg
    obtain ⟨K0, hK0⟩ : ∃ K0, K0 = P[p].length := ⟨_, rfl⟩
    rw [← hK0] at hcp
    obtain ⟨vn, hvn⟩ : ∃ vn, vn = P[p][i].n := ⟨_, rfl⟩
    have hq2 := hr2 2 _ rfl
    simp only [ev, Ent.v] at hq2
    rw [← hvn] at hq2
    have hpi : (p : Int) < (n : Int) := by have := HN.out; omega
    have hp0 : (0 : Int) ≤ (p : Int) := by omega
    have hii : (i : Int) < (K0 : Int) := by omega
    have hi0 : (0 : Int) ≤ (i : Int) := by omega
    have HVN : Hid (vn = P[p][i].n) := hvn
    clear hpl hb2 hw1 hr2 hre hkc hnc hK0 hvn
    go_wp2
    refine bodyPost_ret (results_tmp2 rfl _ _ _) rfl ?_
    exact ⟨p, i, true, vn, rfl, HPI.out, (fun h => by cases h), fun _ => ⟨by rw [eP]; exact hiP, by rw [HVN.out]; congr 1; simp only [eP]⟩, HB2.out⟩
theorem pages_t (x : Value) (pa : Option Addr) (n cap : Nat) (P : List (List Ent)) (w : World) (hx : PgV w x pa n cap) (hn : n = P.length) (hp : RdP w pa P) (hl : n ≤ 4398046511104) :
    Calls Try.prog 9 #[x] w fun e w' => ∃ v, e = .returned v ∧ w'.ownsRow w.heap.size 3 1 v n (cnt P) ∧ Below w.heap.size w w' := by
  have HA : Hid _ := all_t x pa n cap w hx
  have HN : Hid (n = P.length) := hn
  have HP : Hid (RdP w pa P) := hp
  obtain ⟨i0, hi, hz0, hz1, hz2⟩ := info_parts info_int
  clear hx hn hp
  go_enter Try.func9, Try.ntmps9
  go_wp2_with fail
  refine Calls.mono HA.out ?_
  rintro e z ⟨rfl, hz⟩
  have hz := hz.symm
  subst hz
  go_wp2
  go_loopw [3, 9] (fun v i wr => ∃ k : Nat, k ≤ n ∧ i = .int .i64 (k : Int) ∧ wr.ownsRow w.heap.size 3 1 v k (cnt (P.take k)) ∧ Below w.heap.size w wr) (fun _ i _ => n - (intOf i).toNat)
  case atStart => exact ⟨0, Nat.zero_le _, rfl, World.ownsRow_nil _ _ _ _, Below.refl _ _⟩
  case round =>
    obtain ⟨k, hk, rfl, hown, hbw⟩ := hrel
    have HBW : Hid (Below w.heap.size w wr) := hbw
    by_cases hlt : k < n
    · have hkP : k < P.length := by have := HN.out; omega
      obtain ⟨b, o, hpa, a, c, hcp, hkc, hnc, -⟩ := (RdP.below HP.out hbw) k hkP
      subst hpa
      obtain ⟨K0, hK0⟩ : ∃ K0, K0 = P[k].length := ⟨_, rfl⟩
      rw [← hK0] at hcp
      have HE : Hid (cnt (P.take (k + 1)) = cnt (P.take k) ++ [.int .i64 (K0 : Int)]) := (show cnt (P.take (k + 1)) = cnt (P.take k) ++ [.int .i64 (K0 : Int)] by rw [List.take_succ_eq_append_getElem hkP, hK0]; unfold cnt; rw [List.map_append]; rfl)
      obtain ⟨X, hX⟩ : ∃ X : World, X = wr.alloc (.cells #[.int .i64 (K0 : Int)] 3) := ⟨_, rfl⟩
      have hbX : Below wr.heap.size wr X := by rw [hX]; exact al (Below.refl _ _) _
      have HXG : Hid (X.heap[wr.heap.size]? = some (.cells #[.int .i64 (K0 : Int)] 3 (0, 0))) := (show X.heap[wr.heap.size]? = some (.cells #[.int .i64 (K0 : Int)] 3 (0, 0)) by rw [hX]; exact heap_alloc_new wr _)
      obtain ⟨V, hV⟩ : ∃ V, V = u3 := ⟨_, rfl⟩
      have HOX : Hid (X.ownsRow w.heap.size 3 1 u3 k (cnt (P.take k))) := (show X.ownsRow w.heap.size 3 1 u3 k (cnt (P.take k)) from ⟨hown.1, by
        rcases hown.2 with h0 | ⟨g', cap', cur, e, hB, hg', r⟩
        · exact .inl h0
        · exact .inr ⟨g', cap', cur, e, hB, (hbX.block g' (Array.getElem?_eq_some_iff.1 hg').1).trans hg', r⟩⟩)
      have HBX : Hid (Below w.heap.size w X) := below_next hbw hbX
      have hki : (k : Int) < (n : Int) := by omega
      have hk0 : (0 : Int) ≤ (k : Int) := by omega
      clear hK0 hbX hown hbw hkc hnc hV
      go_wp2_with (at_builtin; rw [← hX]; refine wpList_append_own_at _ rfl _ _ 40 rfl w.heap.size 3 i0 (.int .i64 0) 1 8 Try.underlying40 hi hz0 hz1 hz2 rfl (by decide) _ _ _ rfl HOX.out ⟨wr.heap.size, 0, none⟩ 1 1 [.int .i64 (K0 : Int)] rfl rfl (World.news_of_block HXG.out) (by intro u hu; simp at hu; subst hu; rfl) (by simp only [maxLen]; omega) (by omega) HBX.out.size ?_; intro v' w1 hown' hgrow _ _; have HO1 : Hid _ := hown'; have HG1 : Hid _ := hgrow; clear hown' hgrow)
      go_roundw
      case rel => exact ⟨k + 1, by omega, by go_num, by rw [HE.out]; exact HO1.out, HBX.out.grown HG1.out HBX.out.size (fun j hj => (World.ownsRow.lt HOX.out j hj).1)⟩
      case measure => simp [intOf]; omega
    · obtain rfl : k = n := by omega
      have HOW : Hid _ := hown
      clear hown
      go_wp2
      go_ret
      have h9 := HOW.out
      rw [HN.out, List.take_length] at h9
      rw [HN.out]
      exact ⟨_, rfl, h9, HBW.out⟩
end
end Go.Proofs.Ytibolgpaolnheac
namespace Go.Proofs.Ytibolgpaolnheac
set_option linter.unusedVariables false
set_option linter.unusedSimpArgs false
open Go.RowKit
/-- a row with other places in the place of those from i to j - 1 -/
def repL {α : Type} (l : List α) (i j : Nat) (new : List α) : List α := l.take i ++ new ++ l.drop j
theorem repL_len {α : Type} {l : List α} {i j : Nat} {new : List α} (hi : i ≤ l.length) : (repL l i j new).length = i + new.length + (l.length - j) := by
  unfold repL
  rw [List.length_append, List.length_append, List.length_take, List.length_drop]
  omega
theorem repL_set {α : Type} {l : List α} {i : Nat} {x : α} (hi : i < l.length) : l.set i x = repL l i (i + 1) [x] := by
  unfold repL
  rw [List.set_eq_take_append_cons_drop, if_pos hi]
  simp
theorem repL_mem {α : Type} {l : List α} {i j : Nat} {new : List α} {x : α} (h : x ∈ repL l i j new) : x ∈ l ∨ x ∈ new := by
  unfold repL at h
  simp only [List.mem_append] at h
  rcases h with (h | h) | h
  · exact .inl (List.mem_of_mem_take h)
  · exact .inr h
  · exact .inl (List.mem_of_mem_drop h)
theorem repL_flat {α : Type} (l : List (List α)) (i j : Nat) (new : List (List α)) : (repL l i j new).flatten = (l.take i).flatten ++ new.flatten ++ (l.drop j).flatten := by
  unfold repL
  rw [List.flatten_append, List.flatten_append]
theorem flat_cut {α : Type} (l : List (List α)) (i : Nat) (hi : i < l.length) : l.flatten = (l.take i).flatten ++ l[i] ++ (l.drop (i + 1)).flatten := by
  conv => lhs; rw [← List.take_append_drop i l, List.drop_eq_getElem_cons hi, List.flatten_append, List.flatten_cons, ← List.append_assoc]
/-- a row cut at a stamp -/
structure CutAt (L : List Ent) (s : St) (X M Y : List Ent) : Prop where
  eq : L = X ++ M ++ Y
  lo : ∀ x ∈ X, ltS x.st s = true
  mid : ∀ x ∈ M, x.st = s
  hi : ∀ x ∈ Y, ltS s x.st = true
def insL (L : List Ent) (e : Ent) : List Ent := L.filter (fun x => ltS x.st e.st) ++ [e] ++ L.filter (fun x => ltS e.st x.st)
def delL (L : List Ent) (s : St) : List Ent := L.filter (fun x => !decide (x.st = s))
theorem ltS_asymm {a b : St} (h : ltS a b = true) : ltS b a = false := by
  cases h9 : ltS b a
  · rfl
  · have := ltS_trans h h9
    rw [ltS_irrefl] at this; cases this
theorem ltS_ne {a b : St} (h : ltS a b = true) : a ≠ b := fun e => by subst e; rw [ltS_irrefl] at h; cases h
theorem ltS_ge {a b : St} (h : ltS a b = false) (hn : a ≠ b) : ltS b a = true := by
  cases h9 : ltS b a
  · exact absurd (ltS_tri h h9) hn
  · rfl
theorem filt_all {p : Ent → Bool} {l : List Ent} (h : ∀ x ∈ l, p x = true) : l.filter p = l := List.filter_eq_self.2 h
theorem filt_no {p : Ent → Bool} {l : List Ent} (h : ∀ x ∈ l, p x = false) : l.filter p = [] := List.filter_eq_nil_iff.2 fun x hx => by rw [h x hx]; simp
variable {L X M Y : List Ent} {s : St}
theorem CutAt.below (h : CutAt L s X M Y) : L.filter (fun x => ltS x.st s) = X := by
  rw [h.eq, List.filter_append, List.filter_append, filt_all h.lo, filt_no (fun x hx => by rw [h.mid x hx]; exact ltS_irrefl _), filt_no (fun x hx => ltS_asymm (h.hi x hx))]
  simp
theorem CutAt.above (h : CutAt L s X M Y) : L.filter (fun x => ltS s x.st) = Y := by
  rw [h.eq, List.filter_append, List.filter_append, filt_no (fun x hx => ltS_asymm (h.lo x hx)), filt_no (fun x hx => by rw [h.mid x hx]; exact ltS_irrefl _), filt_all h.hi]
  simp
theorem CutAt.ins {e : Ent} (h : CutAt L e.st X M Y) : insL L e = X ++ [e] ++ Y := by
  unfold insL
  rw [h.below, h.above]
theorem CutAt.del (h : CutAt L s X M Y) : delL L s = X ++ Y := by
  unfold delL
  rw [h.eq, List.filter_append, List.filter_append, filt_all (fun x hx => by simpa using ltS_ne (h.lo x hx)), filt_no (fun x hx => by simpa using h.mid x hx), filt_all (fun x hx => by simpa using (ltS_ne (h.hi x hx)).symm)]
  simp
abbrev Ord (L : List Ent) : Prop := L.Pairwise fun a b => ltS a.st b.st = true
theorem Ord.del (h : Ord L) (s : St) : Ord (delL L s) := List.Pairwise.filter _ h
theorem Ord.ins (h : Ord L) (e : Ent) : Ord (insL L e) := by
  unfold insL
  refine List.pairwise_append.2 ⟨List.pairwise_append.2 ⟨List.Pairwise.filter _ h, List.pairwise_singleton _ _, ?_⟩, List.Pairwise.filter _ h, ?_⟩
  · intro a ha b hb
    obtain rfl : b = e := by simpa using hb
    simpa using (List.mem_filter.1 ha).2
  · intro a ha b hb
    have hb2 : ltS e.st b.st = true := by simpa using (List.mem_filter.1 hb).2
    rcases List.mem_append.1 ha with ha | ha
    · have ha2 : ltS a.st e.st = true := by simpa using (List.mem_filter.1 ha).2
      exact ltS_trans ha2 hb2
    · obtain rfl : a = e := by simpa using ha
      exact hb2
/-- where a stamp stands in the whole row -/
theorem PlaceIs.cut {P : List (List Ent)} {s : St} {p i : Nat} {ok : Bool} (h : PlaceIs P s p i ok) (hsp : SP P) (hp : p < P.length) :
    i ≤ P[p].length ∧ (ok = true → i < P[p].length) ∧
    CutAt P.flatten s ((P.take p).flatten ++ P[p].take i) (if ok then (P[p].drop i).take 1 else []) (P[p].drop (if ok then i + 1 else i) ++ (P.drop (p + 1)).flatten) := by
  rcases h with ⟨h1, -⟩ | ⟨r, h1, h2, h3, h4, h5⟩
  · rw [h1] at hp; exact absurd hp (Nat.not_lt_zero _)
  have eP : P.getD p [] = P[p] := by simp [List.getD, hp]
  rw [eP] at h4 h5
  have hpg : Ord P[p] := hsp.page (List.getElem_mem hp)
  have hil : i ≤ P[p].length := h4.1
  have hok : ok = true → i < P[p].length := fun h9 => (h5.1 h9).1
  have p2 : ∀ k (hk : k < P[p].length), pr2 P[p] s k = !ltS P[p][k].st s := fun k hk => by unfold pr2; simp [List.getD, hk]
  have p1 : ∀ k (hk : k < P.length), pr1 P s k = ltS s (fst1 P[k]) := fun k hk => by unfold pr1; simp [List.getD, hk]
  refine ⟨hil, hok, ⟨?_, ?_, ?_, ?_⟩⟩
  · rw [flat_cut P p hp]
    cases ok
    · simp only [Bool.false_eq_true, if_false, List.append_nil, List.append_assoc]
      rw [← List.append_assoc (P[p].take i), List.take_append_drop]
    · simp only [if_true, List.append_assoc]
      rw [← List.append_assoc ((P[p].drop i).take 1), show P[p].drop (i + 1) = (P[p].drop i).drop 1 by rw [List.drop_drop], List.take_append_drop, ← List.append_assoc (P[p].take i), List.take_append_drop]
  · intro x hx
    rcases List.mem_append.1 hx with hx | hx
    · obtain ⟨q, hq, hxq⟩ := List.mem_flatten.1 hx
      obtain ⟨k, hk, e⟩ := List.getElem_of_mem hq
      have hk' : k < p ∧ k < P.length := by have := hk; rw [List.length_take] at this; omega
      rw [List.getElem_take] at e
      have hfr : pr1 P s p = false := h1.2.1 p (by omega)
      rw [p1 p hp] at hfr
      have h9 := (List.pairwise_iff_getElem.1 (List.pairwise_flatten.1 hsp.2).2) k p hk'.2 hp hk'.1
      have h0 : 0 < P[p].length := hsp.1 _ (List.getElem_mem hp)
      have h8 := h9 x (by rw [e]; exact hxq) P[p][0] (List.getElem_mem _)
      rw [fst1_get h0] at hfr
      exact ltS_le_trans h8 hfr
    · obtain ⟨k, hk, e⟩ := List.getElem_of_mem hx
      have hk' : k < i ∧ k < P[p].length := by have := hk; rw [List.length_take] at this; omega
      rw [List.getElem_take] at e
      have h9 := h4.2.1 k hk'.1
      rw [p2 k hk'.2, e] at h9
      simpa using h9
  · intro x hx
    cases ok
    · simp at hx
    · obtain ⟨h9, h8⟩ := h5.1 rfl
      rw [if_pos rfl, List.drop_eq_getElem_cons h9, List.take_succ_cons, List.take_zero, List.mem_singleton] at hx
      subst hx
      exact h8
  · intro x hx
    rcases List.mem_append.1 hx with hx | hx
    · obtain ⟨m, hm, e⟩ := List.getElem_of_mem hx
      rw [List.getElem_drop] at e
      rw [List.length_drop] at hm
      cases ok
      · simp only [Bool.false_eq_true, if_false] at e hm
        have h9 := h4.2.2 (i + m) (by omega) (by omega)
        rw [p2 (i + m) (by omega), e] at h9
        have h8 : ltS x.st s = false := by simpa using h9
        refine ltS_ge h8 fun e9 => ?_
        by_cases hm0 : m = 0
        · subst hm0
          have h7 := h5.2 ⟨by omega, by simpa using (congrArg Ent.st e).trans e9⟩
          cases h7
        · have h7 := (List.pairwise_iff_getElem.1 hpg) i (i + m) (by omega) (by omega) (by omega)
          have h6 := h4.2.2 i (Nat.le_refl _) (by omega)
          rw [p2 i (by omega)] at h6
          rw [e, e9] at h7
          rw [h7] at h6
          cases h6
      · simp only [if_true] at e hm
        obtain ⟨h9, h8⟩ := h5.1 rfl
        have h7 := (List.pairwise_iff_getElem.1 hpg) i (i + 1 + m) (by omega) (by omega) (by omega)
        rw [h8, e] at h7
        exact h7
    · obtain ⟨q, hq, hxq⟩ := List.mem_flatten.1 hx
      obtain ⟨m, hm, e⟩ := List.getElem_of_mem hq
      rw [List.length_drop] at hm
      rw [List.getElem_drop] at e
      have hk : p + 1 + m < P.length := by omega
      have h9 := h1.2.2 (p + 1 + m) (by omega) hk
      rw [p1 _ hk] at h9
      have h0 : 0 < P[p + 1 + m].length := hsp.1 _ (List.getElem_mem hk)
      rw [fst1_get h0] at h9
      obtain ⟨t, ht, e2⟩ := List.getElem_of_mem hxq
      subst e
      by_cases ht0 : t = 0
      · subst ht0
        rw [← e2]; exact h9
      · have h8 := (List.pairwise_iff_getElem.1 (hsp.page (List.getElem_mem hk))) 0 t h0 ht (by omega)
        rw [e2] at h8
        exact ltS_trans h9 h8
/-- the pages behind a Put -/
def putP (S : Nat) (P : List (List Ent)) (p i : Nat) (ok : Bool) (e : Ent) : List (List Ent) :=
  if (putL (P.getD p []) i ok e).length ≤ S then repL P p (p + 1) [putL (P.getD p []) i ok e]
  else repL P p (p + 1) [(putL (P.getD p []) i ok e).take ((S + 1) / 2), (putL (P.getD p []) i ok e).drop ((S + 1) / 2)]
theorem putP_nil (S : Nat) (hS : 1 ≤ S) (e : Ent) : putP S [] 0 0 false e = [[e]] := by
  unfold putP putL repL
  simp [hS]
theorem putL_len {xs : List Ent} {i : Nat} {ok : Bool} {e : Ent} (h : i ≤ xs.length) (hok : ok = true → i < xs.length) : (putL xs i ok e).length = if ok then xs.length else xs.length + 1 := by
  unfold putL
  rw [List.length_append, List.length_append, List.length_take, List.length_drop]
  cases ok
  · simp; omega
  · have := hok rfl
    simp; omega
/-- what every index keeps: its pages in order, none empty or above the size -/
def Tid (S : Nat) (P : List (List Ent)) : Prop := SP P ∧ ∀ p ∈ P, p.length ≤ S
theorem PlaceIs.lt {P : List (List Ent)} {s : St} {p i : Nat} {ok : Bool} (h : PlaceIs P s p i ok) (hne : P ≠ []) : p < P.length := by
  rcases h with ⟨h1, -⟩ | ⟨r, -, -, h3, -⟩
  · exact absurd h1 hne
  · exact h3
theorem PlaceIs.nil {P : List (List Ent)} {s : St} {p i : Nat} {ok : Bool} (h : PlaceIs P s p i ok) (hne : P = []) : p = 0 ∧ i = 0 ∧ ok = false := by
  rcases h with ⟨h1, h2⟩ | ⟨r, -, -, h3, -⟩
  · exact h2
  · rw [hne] at h3; exact absurd h3 (Nat.not_lt_zero _)
theorem putP_flat {S : Nat} {P : List (List Ent)} {p i : Nat} {ok : Bool} {e : Ent} (h : PlaceIs P e.st p i ok) (hsp : SP P) (hS : 1 ≤ S) : (putP S P p i ok e).flatten = insL P.flatten e := by
  by_cases hne : P = []
  · obtain ⟨rfl, rfl, rfl⟩ := h.nil hne
    subst hne
    rw [putP_nil S hS]
    simp [insL]
  · have hp := h.lt hne
    obtain ⟨h1, h2, h3⟩ := h.cut hsp hp
    have eP : P.getD p [] = P[p] := by simp [List.getD, hp]
    rw [h3.ins]
    unfold putP
    rw [eP]
    split
    · rw [repL_flat]
      simp [putL, List.append_assoc]
    · rw [repL_flat]
      simp only [List.flatten_cons, List.flatten_nil, List.append_nil, List.take_append_drop]
      simp [putL, List.append_assoc]
theorem putP_tid {S : Nat} {P : List (List Ent)} {p i : Nat} {ok : Bool} {e : Ent} (h : PlaceIs P e.st p i ok) (ht : Tid S P) (hS : 1 ≤ S) : Tid S (putP S P p i ok e) := by
  obtain ⟨hsp, hsz⟩ := ht
  refine ⟨⟨?_, ?_⟩, ?_⟩
  · intro q hq
    unfold putP at hq
    have hl : 0 < (putL (P.getD p []) i ok e).length := by unfold putL; simp; omega
    split at hq
    · rcases repL_mem hq with h9 | h9
      · exact hsp.1 q h9
      · obtain rfl := List.mem_singleton.1 h9
        exact hl
    · rename_i hgt
      rcases repL_mem hq with h9 | h9
      · exact hsp.1 q h9
      · have h8 := (List.mem_cons.1 h9).imp id List.mem_singleton.1
        rcases h8 with rfl | rfl
        · rw [List.length_take]; omega
        · rw [List.length_drop]; omega
  · rw [putP_flat h hsp hS]
    exact Ord.ins hsp.2 e
  · intro q hq
    by_cases hne : P = []
    · obtain ⟨rfl, rfl, rfl⟩ := h.nil hne
      subst hne
      rw [putP_nil S hS] at hq
      obtain rfl : q = [e] := by simpa using hq
      simpa using hS
    · have hp := h.lt hne
      obtain ⟨h1, h2, -⟩ := h.cut hsp hp
      have eP : P.getD p [] = P[p] := by simp [List.getD, hp]
      have hl := putL_len (e := e) h1 h2
      have hle := hsz _ (List.getElem_mem hp)
      unfold putP at hq
      rw [eP] at hq
      have hl2 : (putL P[p] i ok e).length ≤ S + 1 := by rw [hl]; split <;> omega
      split at hq
      · rename_i hle2
        rcases repL_mem hq with h9 | h9
        · exact hsz q h9
        · obtain rfl := List.mem_singleton.1 h9
          exact hle2
      · rcases repL_mem hq with h9 | h9
        · exact hsz q h9
        · have h8 := (List.mem_cons.1 h9).imp id List.mem_singleton.1
          rcases h8 with rfl | rfl
          · rw [List.length_take]; omega
          · rw [List.length_drop]; omega
/-- a page without an entry -/
def cutL (xs : List Ent) (i : Nat) : List Ent := xs.take i ++ xs.drop (i + 1)
/-- the pages behind a Remove -/
def remP (S : Nat) (P : List (List Ent)) (p i : Nat) : List (List Ent) :=
  if (cutL (P.getD p []) i).length = 0 then repL P p (p + 1) []
  else if p + 1 < P.length ∧ (cutL (P.getD p []) i).length + (P.getD (p + 1) []).length ≤ S / 2 then repL P p (p + 2) [cutL (P.getD p []) i ++ P.getD (p + 1) []]
  else if 0 < p ∧ (P.getD (p - 1) []).length + (cutL (P.getD p []) i).length ≤ S / 2 then repL P (p - 1) (p + 1) [P.getD (p - 1) [] ++ cutL (P.getD p []) i]
  else repL P p (p + 1) [cutL (P.getD p []) i]
theorem cutL_len {xs : List Ent} {i : Nat} (h : i < xs.length) : (cutL xs i).length + 1 = xs.length := by
  unfold cutL
  rw [List.length_append, List.length_take, List.length_drop]
  omega
theorem remP_flat {S : Nat} {P : List (List Ent)} {p i : Nat} {s : St} (h : PlaceIs P s p i true) (hsp : SP P) : (remP S P p i).flatten = delL P.flatten s := by
  have hne : P ≠ [] := fun e => by have := h.nil e; simp at this
  have hp := h.lt hne
  obtain ⟨h1, h2, h3⟩ := h.cut hsp hp
  have hi := h2 rfl
  have eP : P.getD p [] = P[p] := by simp [List.getD, hp]
  rw [h3.del]
  unfold remP
  rw [eP]
  simp only [if_true]
  split
  · rename_i h0
    rw [repL_flat]
    have h9 : P[p].take i = [] ∧ P[p].drop (i + 1) = [] := by
      have := List.eq_nil_of_length_eq_zero h0
      unfold cutL at this
      simpa using this
    rw [h9.1, h9.2]
    simp
  · split
    · rename_i h9
      have e2 : P.getD (p + 1) [] = P[p + 1] := by simp [List.getD, h9.1]
      rw [repL_flat, e2]
      have e3 : (P.drop (p + 1)).flatten = P[p + 1] ++ (P.drop (p + 2)).flatten := by rw [List.drop_eq_getElem_cons h9.1, List.flatten_cons]
      rw [e3]
      simp [cutL, List.append_assoc]
    · split
      · rename_i h9
        have hq : p - 1 < P.length := by omega
        have e2 : P.getD (p - 1) [] = P[p - 1] := by simp [List.getD, hq]
        rw [repL_flat, e2]
        have e3 : (P.take p).flatten = (P.take (p - 1)).flatten ++ P[p - 1] := by
          obtain ⟨k, rfl⟩ : ∃ k, p = k + 1 := ⟨p - 1, by omega⟩
          simp only [Nat.add_sub_cancel]
          rw [List.take_succ_eq_append_getElem (by omega), List.flatten_append, List.flatten_cons, List.flatten_nil, List.append_nil]
        rw [e3]
        simp [cutL, List.append_assoc]
      · rw [repL_flat]
        simp [cutL, List.append_assoc]
theorem remP_tid {S : Nat} {P : List (List Ent)} {p i : Nat} {s : St} (h : PlaceIs P s p i true) (ht : Tid S P) : Tid S (remP S P p i) := by
  obtain ⟨hsp, hsz⟩ := ht
  have hne : P ≠ [] := fun e => by have := h.nil e; simp at this
  have hp := h.lt hne
  obtain ⟨h1, h2, h3⟩ := h.cut hsp hp
  have hi := h2 rfl
  have eP : P.getD p [] = P[p] := by simp [List.getD, hp]
  have hcl := cutL_len hi
  have hle := hsz _ (List.getElem_mem hp)
  have key : ∀ q ∈ remP S P p i, 0 < q.length ∧ q.length ≤ S := by
    intro q hq
    unfold remP at hq
    rw [eP] at hq
    split at hq
    · rcases repL_mem hq with h9 | h9
      · exact ⟨hsp.1 q h9, hsz q h9⟩
      · simp at h9
    · split at hq
      · rename_i h0 h8
        rcases repL_mem hq with h9 | h9
        · exact ⟨hsp.1 q h9, hsz q h9⟩
        · obtain rfl := List.mem_singleton.1 h9
          rw [List.length_append]; omega
      · split at hq
        · rename_i h0 _ h8
          rcases repL_mem hq with h9 | h9
          · exact ⟨hsp.1 q h9, hsz q h9⟩
          · obtain rfl := List.mem_singleton.1 h9
            rw [List.length_append]; omega
        · rename_i h0 _ _
          rcases repL_mem hq with h9 | h9
          · exact ⟨hsp.1 q h9, hsz q h9⟩
          · obtain rfl := List.mem_singleton.1 h9
            omega
  exact ⟨⟨fun q hq => (key q hq).1, by rw [remP_flat h hsp]; exact Ord.del hsp.2 s⟩, fun q hq => (key q hq).2⟩
/-- behind Puts alone no page is below half, unless it is the only one -/
def Half (S : Nat) (P : List (List Ent)) : Prop := 1 < P.length → ∀ p ∈ P, (S + 1) / 2 ≤ p.length
theorem putP_half {S : Nat} {P : List (List Ent)} {p i : Nat} {ok : Bool} {e : Ent} (h : PlaceIs P e.st p i ok) (ht : Tid S P) (hS : 1 ≤ S) (hh : Half S P) : Half S (putP S P p i ok e) := by
  obtain ⟨hsp, hsz⟩ := ht
  by_cases hne : P = []
  · obtain ⟨rfl, rfl, rfl⟩ := h.nil hne
    subst hne
    rw [putP_nil S hS]
    intro h9; simp at h9
  · have hp := h.lt hne
    obtain ⟨h1, h2, -⟩ := h.cut hsp hp
    have eP : P.getD p [] = P[p] := by simp [List.getD, hp]
    have hl := putL_len (e := e) h1 h2
    have hlp : P[p].length ≤ (putL P[p] i ok e).length := by rw [hl]; split <;> omega
    unfold putP
    rw [eP]
    split
    · intro hn q hq
      rw [repL_len (by omega)] at hn
      have hn2 : 1 < P.length := by simp at hn; omega
      rcases repL_mem hq with h9 | h9
      · exact hh hn2 q h9
      · obtain rfl := List.mem_singleton.1 h9
        exact Nat.le_trans (hh hn2 _ (List.getElem_mem hp)) hlp
    · rename_i hgt
      have hle := hsz _ (List.getElem_mem hp)
      have hl3 : (putL P[p] i ok e).length = S + 1 := by
        rw [hl] at hgt ⊢
        by_cases hb : ok = true
        · rw [if_pos hb] at hgt; omega
        · rw [if_neg hb] at hgt ⊢; omega
      intro hn q hq
      by_cases hn1 : 1 < P.length
      · rcases repL_mem hq with h9 | h9
        · exact hh hn1 q h9
        · have h8 := (List.mem_cons.1 h9).imp id List.mem_singleton.1
          rcases h8 with rfl | rfl
          · rw [List.length_take]; omega
          · rw [List.length_drop]; omega
      · have hp0 : p = 0 := by omega
        have hP1 : P.length = 1 := by omega
        subst hp0
        unfold repL at hq
        rw [show P.drop (0 + 1) = [] from List.drop_eq_nil_of_le (by omega)] at hq
        rw [List.take_zero, List.nil_append, List.append_nil] at hq
        rcases List.mem_cons.1 hq with rfl | hq
        · rw [List.length_take]; omega
        · obtain rfl := List.mem_singleton.1 hq
          rw [List.length_drop]; omega
end Go.Proofs.Ytibolgpaolnheac
