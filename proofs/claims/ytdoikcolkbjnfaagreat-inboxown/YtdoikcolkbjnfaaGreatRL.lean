import Derived.Test.YtdoikcolkbjnfaaGreatCF
import Derived.Test.YtdoikcolkbjnfaaGreatRegn
namespace Go.Proofs.YtdoikcolkbjnfaaGreat
set_option linter.unusedVariables false
set_option linter.unusedSimpArgs false
open Go.RowKit
theorem take_flat (S : List Seg) (k : Nat) (x : Seg) (hx : S[k]? = some x) : (S.take (k + 1)).flatten = (S.take k).flatten ++ x := by
  rw [List.take_add_one, hx]
  simp
theorem flat_le {S : List Seg} (h : ∀ xs ∈ S, xs.length ≤ 1024) : S.flatten.length ≤ S.length * 1024 := by
  induction S with
  | nil => simp
  | cons x r ih =>
    have h1 := ih (fun xs hx => h xs (by simp [hx]))
    have h2 := h x (by simp)
    rw [List.flatten_cons, List.length_append, List.length_cons, Nat.succ_mul]
    omega
theorem allS_no {S : List Seg} {k : Nat} (h : S[k]? = some []) : allS S = false := by
  rcases ha : allS S with _ | _
  · rfl
  · unfold allS at ha
    rw [List.all_eq_true] at ha
    have := ha [] (List.mem_of_getElem? h)
    simp at this
theorem allS_yes {S : List Seg} (h : ∀ (j : Nat) x, j < S.length → S[j]? = some x → x ≠ []) : allS S = true := by
  unfold allS
  rw [List.all_eq_true]
  intro x hx
  obtain ⟨j, hj, rfl⟩ := List.mem_iff_getElem.1 hx
  have := h j _ hj (List.getElem?_eq_getElem hj)
  simp only [bne_iff_ne]
  intro e
  exact this (List.eq_nil_of_length_eq_zero e)
section
variable {w w' : World} {p : Nat} {V : List Dc} {S : List Seg}
set_option maxRecDepth 20000 in
set_option maxHeartbeats 1600000 in
theorem whole_no {q : Option Addr} (h : B0 w q) : Calls Tryz.prog 68 #[.pointer q] w fun e w' => e = .returned (.tuple #[.slice none 0 0, .bool false]) ∧ w' = w := by
  have H : Hid _ := made_no h
  clear h
  go_enter Tryz.func68, Tryz.ntmps68
  go_wp2_with (go_at_call 82; refine Calls.mono H.out ?_; rintro e w' ⟨rfl, hq⟩; have hq := hq.symm; subst hq)
  go_ret2
  exact ⟨rfl, rfl⟩
/-- what the loop of Whole keeps -/
def WRel (S : List Seg) (w : World) (v j : Value) (wr : World) : Prop := ∃ k : Nat, k ≤ S.length ∧ j = .int .i64 (k : Int) ∧ Own wr w.heap.size v (S.take k).flatten ∧ (∀ (i : Nat) x, i < k → S[i]? = some x → x ≠ []) ∧ Below w.heap.size w wr
set_option maxRecDepth 20000 in
set_option maxHeartbeats 3200000 in
theorem whole_t (h : Bx w p V S) : Calls Tryz.prog 68 #[.pointer (some ⟨p, 0, none⟩)] w fun e w' => ∃ u, e = .returned (.tuple #[u, .bool (wholeB (some S))]) ∧ Own w' w.heap.size u (wholeX (some S)) ∧ Below w.heap.size w w' := by
  have H : Hid _ := made_t h
  have HW : Hid _ := h
  have c0 := h.c0
  have hn1 := h.n1
  have q22 : ∀ (w : World) (a : Option Addr) (n c n' c' : Nat), (binOp .eql 34 (.slice a n c) (.slice none n' c')).run Tryz.prog w = .ok (.bool a.isNone) w := fun w a n c n' c' => Lib.run_eql_slice_nil w _ _ a n c n' c' Tryz.underlying34
  clear h
  go_enter Tryz.func68, Tryz.ntmps68
  go_wp2_with (go_at_call 82; refine Calls.mono H.out ?_; rintro e w' ⟨rfl, hq⟩; have hq := hq.symm; subst hq)
  go_loopw [4, 14] (fun v j wr => WRel S w v j wr) (fun _ j _ => S.length - (intOf j).toNat)
  case atStart => exact ⟨0, Nat.zero_le _, rfl, World.ownsRow_nil _ _ _ _, fun i x hi => absurd hi (Nat.not_lt_zero _), Below.refl _ _⟩
  case round =>
    obtain ⟨k, hk, rfl, hown, hall, hbw⟩ := hrel
    have HO : Hid (Own wr w.heap.size u4 (S.take k).flatten) := hown
    have HB : Hid _ := hbw
    have HALL : Hid _ := hall
    clear hown hbw hall
    by_cases hlt : k < S.length
    · obtain ⟨d, xs, hd, hx, hcs, hby, hz, hxl⟩ := (HW.out.below HB.out).at_ hlt
      have hk64 : k < 64 := by omega
      have hkI : (k : Int) < 64 := by omega
      have hkN : (k : Int) < (S.length : Int) := by omega
      have hk0 : (0 : Int) ≤ (k : Int) := by omega
      have hkw : IntKind.i64.wrap ((k : Int) + 1) = ((k + 1 : Nat) : Int) := by rw [IntKind.wrap_i64]; omega
      by_cases he : xs = []
      · obtain rfl := hz he
        subst he
        have HA : Hid _ := allS_no hx
        clear hz hx hd hby hxl
        go_wp2
        go_ret2
        have e1 : wholeB (some S) = false := HA.out
        have e2 : wholeX (some S) = [] := by show (if allS S = true then S.flatten else []) = []; rw [HA.out]; rfl
        rw [e1, e2]
        exact ⟨_, rfl, World.ownsRow_nil _ _ _ _, HB.out⟩
      · have hpos : 0 < xs.length := by rcases xs with _ | ⟨y, ys⟩; exact absurd rfl he; simp
        have hsm := hby.some_ hpos
        have HBY : Hid _ := hby
        have HT : Hid _ := take_flat S k xs hx
        have HX : Hid _ := hx
        have HE : Hid (xs ≠ []) := he
        have hfl : (S.take k).flatten.length ≤ 65536 := by
          have h1 := flat_le (S := S.take k) (fun y hy => HW.out.small y (List.mem_of_mem_take hy))
          rw [List.length_take] at h1
          have h2 : min k S.length * 1024 ≤ 64 * 1024 := Nat.mul_le_mul_right _ (by omega)
          omega
        have HSZ : Hid _ := HB.out.size
        obtain ⟨da, dn, dc⟩ := d
        have hdn := hby.n
        simp only at hdn hsm
        subst hdn
        clear hz hx hd hby he
        go_wp2_with (at_builtin; refine wp_app rfl _ _ rfl w.heap.size u4 (S.take k).flatten xs _ _ rfl HO.out rfl HBY.out.rd HBY.out.nil (by omega) HSZ.out ?_; intro v2 w2 hown2 hg2)
        go_roundw
        case rel =>
          refine ⟨k + 1, hlt, by go_num, by rw [HT.out]; exact hown2, fun i x hi hx => ?_, HB.out.grown hg2 HSZ.out (fun j hj => (World.ownsRow.lt HO.out j hj).1)⟩
          by_cases hik : i = k
          · subst hik
            rw [HX.out] at hx
            cases hx
            exact HE.out
          · exact HALL.out i x (by omega) hx
        case measure => simp [intOf]; omega
    · obtain rfl : k = S.length := by omega
      go_wp2
      go_ret2
      have ha : allS S = true := allS_yes (fun j x hj hx => HALL.out j x hj hx)
      have e1 : wholeB (some S) = true := ha
      have e2 : wholeX (some S) = S.flatten := by show (if allS S = true then S.flatten else []) = S.flatten; rw [ha]; rfl
      rw [e1, e2]
      have h9 := HO.out
      rw [List.take_length] at h9
      exact ⟨_, rfl, h9, HB.out⟩
end
end Go.Proofs.YtdoikcolkbjnfaaGreat
namespace Go.Proofs.YtdoikcolkbjnfaaGreat
set_option linter.unusedVariables false
set_option linter.unusedSimpArgs false
open Go.RowKit
/-- lists of bytes, no two in one block -/
structure Fml (w : World) (B : Nat) (V : List Dc) (T : List (List UInt8)) : Prop where
  len : V.length = T.length
  own : ∀ (i : Nat) d t, V[i]? = some d → T[i]? = some t → Own w B d.v t
  ap : ∀ (i j : Nat) d e b, V[i]? = some d → V[j]? = some e → i ≠ j → d.v.ownBlock = some b → e.v.ownBlock = some b → False
def XV (V : List Dc) (b : Nat) : Prop := ∃ (i : Nat) (d : Dc), V[i]? = some d ∧ d.v.ownBlock = some b
theorem Own.blk {w : World} {B : Nat} {v : Value} {xs : List UInt8} (h : Own w B v xs) {b : Nat} (e : v.ownBlock = some b) : ∃ C, w.heap[b]? = some (.cells C 5 (0, 0)) := by
  rcases h.2 with ⟨rfl, -⟩ | ⟨g, cap, cur, rfl, -, hg, -⟩
  · cases e
  · cases e; exact ⟨cur, hg⟩
section
variable {w w' : World} {B : Nat} {V : List Dc} {T : List (List UInt8)}
theorem Fml.get (h : Fml w B V T) {i : Nat} {d : Dc} (hd : V[i]? = some d) : ∃ t, T[i]? = some t ∧ Own w B d.v t := by
  have hi : i < T.length := by rw [← h.len]; exact (List.getElem?_eq_some_iff.1 hd).1
  exact ⟨T[i], List.getElem?_eq_getElem hi, h.own i d _ hd (List.getElem?_eq_getElem hi)⟩
theorem Fml.lt (h : Fml w B V T) {b : Nat} (hb : XV V b) : B ≤ b ∧ b < w.heap.size := by
  obtain ⟨i, d, hd, e⟩ := hb
  obtain ⟨t, -, ho⟩ := h.get hd
  exact World.ownsRow.lt ho b e
theorem Fml.kept (h : Fml w B V T) (hk : ∀ b, XV V b → w'.heap[b]? = w.heap[b]?) : Fml w' B V T :=
  ⟨h.len, fun i d t hd ht => Own.keptb (h.own i d t hd ht) (fun b e => hk b ⟨i, d, hd, e⟩), h.ap⟩
theorem Fml.below (h : Fml w B V T) (hb : Below w.heap.size w w') : Fml w' B V T := h.kept (fun b hx => hb.block b (h.lt hx).2)
theorem Fml.ty (h : Fml w B V T) {b : Nat} (hb : XV V b) : ∃ C, w.heap[b]? = some (.cells C 5 (0, 0)) := by
  obtain ⟨i, d, hd, e⟩ := hb
  obtain ⟨t, -, ho⟩ := h.get hd
  exact ho.blk e
theorem Fml.push (h : Fml w B V T) (hb : Below w.heap.size w w') (hB : B ≤ w.heap.size) {d : Dc} {t : List UInt8} (ho : Own w' w.heap.size d.v t) : Fml w' B (V ++ [d]) (T ++ [t]) := by
  have h' := h.below hb
  have old : ∀ (i : Nat) e b, V[i]? = some e → e.v.ownBlock = some b → b < w.heap.size := fun i e b he hb => (h.lt ⟨i, e, he, hb⟩).2
  have new : ∀ b, d.v.ownBlock = some b → w.heap.size ≤ b := fun b e => (World.ownsRow.lt ho b e).1
  refine ⟨by rw [List.length_append, List.length_append, h.len]; rfl, fun i e s he hs => ?_, fun i j e f b he hf hne h1 h2 => ?_⟩
  · rw [List.getElem?_append] at he hs
    rw [h.len] at he
    by_cases hi : i < T.length
    · rw [if_pos hi] at he hs
      exact h'.own i e s he hs
    · rw [if_neg hi] at he hs
      have h0 : i - T.length = 0 := by
        have := (List.getElem?_eq_some_iff.1 hs).1
        simp at this
        exact this
      rw [h0] at he hs
      simp at he hs
      subst he hs
      exact Own.base ho hB
  · rw [List.getElem?_append] at he hf
    by_cases hi : i < V.length
    · rw [if_pos hi] at he
      by_cases hj : j < V.length
      · rw [if_pos hj] at hf
        exact h.ap i j e f b he hf hne h1 h2
      · rw [if_neg hj] at hf
        have h0 : j - V.length = 0 := by
          have := (List.getElem?_eq_some_iff.1 hf).1
          simp at this
          exact this
        rw [h0] at hf
        simp at hf
        subst hf
        have := old i e b he h1
        have := new b h2
        omega
    · rw [if_neg hi] at he
      have h0 : i - V.length = 0 := by
        have := (List.getElem?_eq_some_iff.1 he).1
        simp at this
        exact this
      rw [h0] at he
      simp at he
      subst he
      by_cases hj : j < V.length
      · rw [if_pos hj] at hf
        have := old j f b hf h2
        have := new b h1
        omega
      · rw [if_neg hj] at hf
        have h3 := (List.getElem?_eq_some_iff.1 hf).1
        simp at h3
        omega
end
/-- a row of lists, and the lists -/
structure Lists (w : World) (B : Nat) (v : Value) (E : List Dc) (T : List (List UInt8)) : Prop where
  row : OwnG KL w B v E
  fml : Fml w B E T
section
variable {w w' w2 w3 : World} {B : Nat} {v v' : Value} {E : List Dc} {T : List (List UInt8)}
theorem Lists.nil (w : World) (B : Nat) : Lists w B (.slice none 0 0) [] [] := ⟨World.ownsRow_nil _ _ _ _, rfl, fun i d t h => by simp at h, fun i j d e b h => by simp at h⟩
theorem Lists.below (h : Lists w B v E T) (hb : Below w.heap.size w w') : Lists w' B v E T := ⟨h.row.below hb, h.fml.below hb⟩
theorem Lists.base {B' : Nat} (h : Lists w B v E T) (hB : B' ≤ B) : Lists w B' v E T := ⟨h.row.base hB, h.fml.len, fun i d t hd ht => Own.base (h.fml.own i d t hd ht) hB, h.fml.ap⟩
theorem Lists.kept (h : Lists w B v E T) (hk : ∀ b, (v.ownBlock = some b ∨ XV E b) → w'.heap[b]? = w.heap[b]?) : Lists w' B v E T := ⟨h.row.kept (fun b e => hk b (.inl e)), h.fml.kept (fun b e => hk b (.inr e))⟩
theorem Lists.lt (h : Lists w B v E T) {b : Nat} (hb : v.ownBlock = some b ∨ XV E b) : B ≤ b ∧ b < w.heap.size := by
  rcases hb with hb | hb
  · exact h.row.lt' hb
  · exact h.fml.lt hb
theorem Lists.len (h : Lists w B v E T) : E.length = T.length := h.fml.len
theorem Fml.keep5 (h : Fml w B E T) (hk : ∀ (b : Nat) C, w.heap[b]? = some (.cells C 5 (0, 0)) → w'.heap[b]? = w.heap[b]?) : Fml w' B E T := h.kept (fun b hx => by obtain ⟨C, h1⟩ := h.ty hx; exact hk b C h1)
theorem XV.push {d : Dc} {b : Nat} (h : XV (E ++ [d]) b) : XV E b ∨ d.v.ownBlock = some b := by
  obtain ⟨i, e, he, hb⟩ := h
  rw [List.getElem?_append] at he
  by_cases hi : i < E.length
  · rw [if_pos hi] at he; exact .inl ⟨i, e, he, hb⟩
  · rw [if_neg hi] at he
    have h0 : i - E.length = 0 := by
      have := (List.getElem?_eq_some_iff.1 he).1
      simp at this
      exact this
    rw [h0] at he
    simp at he
    subst he
    exact .inr hb
/-- one more list, then the row grows -/
theorem Lists.push (h : Lists w B v E T) (hb : Below w.heap.size w w2) (hB : B ≤ w.heap.size) {d : Dc} {t : List UInt8} (ho : Own w2 w.heap.size d.v t) (hg : w2.grownBy w3 v.ownBlock) (hr : OwnG KL w3 B v' (E ++ [d])) : Lists w3 B v' (E ++ [d]) (T ++ [t]) := by
  have hrow2 := h.row.below hb
  have hf2 := h.fml.push hb hB ho
  exact ⟨hr, hf2.keep5 (fun b C h1 => hg.block b (Array.getElem?_eq_some_iff.1 h1).1 (fun e => by
    obtain ⟨cur, h2⟩ := hrow2.at_ e.symm
    exact absurd (ty_of h1 h2) (by decide)))⟩
end
section
variable {w w' : World}
end
end Go.Proofs.YtdoikcolkbjnfaaGreat
namespace Go.Proofs.YtdoikcolkbjnfaaGreat
set_option linter.unusedVariables false
set_option linter.unusedSimpArgs false
open Go.RowKit
section
variable {P : Program} {ops : Array Oper} {Q : Exit → Act → World → Prop} {md : Region.Mode} {S : World → Prop} {X : List Nat}
/-- none of the late ones has come up -/
def NoneL (X : List Nat) (listed : Array Bool) : Prop := ∀ x ∈ X, listed.getD x true = false
theorem getD_set_same (l : Array Bool) (i : Nat) : (l.setIfInBounds i true).getD i true = true := by
  rcases Nat.lt_or_ge i l.size with h | h
  · simp [h]
  · simp [h]
/-- whatever order is picked, and S holds behind every operation that is none of the late ones -/
def wpAnyL (P : Program) (md : Region.Mode) (ops : Array Oper) (Q : Exit → Act → World → Prop) (S : World → Prop) (X : List Nat) : Nat → Array Bool → Act → World → Prop
  | 0, listed, a, w => Region.ready md ops listed = [] ∧ Q .normal a w
  | fuel + 1, listed, a, w =>
    (Region.ready md ops listed = [] → Q .normal a w) ∧
    ∀ i ∈ Region.ready md ops listed, wpOp P ops Q i (fun a' w' => (NoneL X (listed.setIfInBounds i true) → S w') ∧ wpAnyL P md ops Q S X fuel (listed.setIfInBounds i true) a' w') a w
theorem wpAny_of_late : ∀ (fuel : Nat) (listed : Array Bool) (a : Act) (w : World), wpAnyL P md ops Q S X fuel listed a w → wpAny P md ops Q fuel listed a w
  | 0, _, _, _, h => h
  | fuel + 1, _, _, _, h => ⟨h.1, fun i hi => wpOp_mono (fun a' w' h' => wpAny_of_late fuel _ a' w' h'.2) (h.2 i hi)⟩
/-- does j wait for i? -/
def waits (md : Region.Mode) (ops : Array Oper) (i : Nat) : Nat → Nat → Bool
  | 0, j => j == i
  | n + 1, j => j == i || match ops[j]? with | some oj => oj.after.toList.any (fun e => Region.binds md e && waits md ops i n e.on) | none => false
theorem waits_succ {i : Nat} : ∀ (n j : Nat), waits md ops i n j = true → waits md ops i (n + 1) j = true
  | 0, j, h => by
    unfold waits at h ⊢
    rw [h]
    rfl
  | n + 1, j, h => by
    rw [waits] at h ⊢
    by_cases hj : (j == i) = true
    · rw [hj]; rfl
    · simp only [hj, Bool.false_or] at h ⊢
      cases ho : ops[j]? with
      | none => rw [ho] at h; cases h
      | some oj =>
        rw [ho] at h
        simp only [List.any_eq_true, Bool.and_eq_true] at h ⊢
        obtain ⟨e, he, hb, hw⟩ := h
        exact ⟨e, he, hb, waits_succ n _ hw⟩
theorem waits_edge {i n j : Nat} (h : waits md ops i n j = true) (hji : j ≠ i) : ∃ oj, ops[j]? = some oj ∧ ∃ e ∈ oj.after, Region.binds md e = true ∧ waits md ops i n e.on = true := by
  cases n with
  | zero => unfold waits at h; exact absurd (by simpa using h) hji
  | succ n =>
    rw [waits] at h
    have hj : (j == i) = false := by simpa using hji
    simp only [hj, Bool.false_or] at h
    cases ho : ops[j]? with
    | none => rw [ho] at h; cases h
    | some oj =>
      rw [ho] at h
      simp only [List.any_eq_true, Bool.and_eq_true] at h
      obtain ⟨e, he, hb, hw⟩ := h
      exact ⟨oj, rfl, e, by simpa using he, hb, waits_succ n _ hw⟩
theorem wpAnyL_first {i n : Nat} {oi : Oper} {v : Value} (hi : ops[i]? = some oi) (hsel : ∀ (j : Nat) (o : Oper) cs b, ops[j]? = some o → o.op ≠ .select cs b)
    (hQ : ∀ c a w, Q (.panic c) (a.put oi.dst v) w → Q (.panic c) a w) (hX : ∀ x ∈ X, waits md ops i n x = true ∧ x ≠ i) :
    ∀ (fuel : Nat) (listed : Array Bool) (a : Act) (w : World),
      (∀ j oj, ops[j]? = some oj → j ≠ i → listed.getD j true = false → (∀ e ∈ oj.after, Region.binds md e = true → e.on ≠ i) → oi.apart ops oj = true) →
      (∀ j, waits md ops i n j = true → listed.getD j true = false) →
      i ∈ Region.ready md ops listed → YieldsIf P ops S oi v a → S w →
      wpAnyL P md ops Q S X fuel (listed.setIfInBounds i true) (a.put oi.dst v) w → wpAnyL P md ops Q S X (fuel + 1) listed a w := by
  intro fuel
  induction fuel with
  | zero =>
    intro listed a w _ _ hr hy hS H
    refine ⟨fun h => (by rw [h] at hr; cases hr), fun j hj => ?_⟩
    by_cases hji : j = i
    · subst hji; exact hy.wpOp hi hS ⟨fun _ => hS, H⟩
    · have := ready_mono hj hji
      rw [H.1] at this
      cases this
  | succ fuel ih =>
    intro listed a w hfree hun hr hy hS H
    refine ⟨fun h => (by rw [h] at hr; cases hr), fun j hj => ?_⟩
    by_cases hji : j = i
    · subst hji; exact hy.wpOp hi hS ⟨fun _ => hS, H⟩
    · have h1 := H.2 j (ready_mono hj hji)
      obtain ⟨hjun, oj, hoj, hall⟩ := mem_ready.1 hj
      have hnot : ∀ e ∈ oj.after, Region.binds md e = true → e.on ≠ i := fun e he hb heq => by
        have h1 := hall e he hb
        have h0 := (mem_ready.1 hr).1
        rw [heq] at h1
        rcases Nat.lt_or_ge i listed.size with h' | h'
        · simp [h'] at h0 h1; rw [h0] at h1; cases h1
        · simp [Array.getElem?_eq_none h'] at h1
      have hjw : waits md ops i n j = false := by
        cases hw : waits md ops i n j with
        | false => rfl
        | true =>
          obtain ⟨oj', ho', e, he, hb, hwe⟩ := waits_edge hw hji
          rw [hoj] at ho'
          cases ho'
          have h1 := hall e he hb
          have h0 := hun _ hwe
          rcases Nat.lt_or_ge e.on listed.size with h' | h'
          · simp [h'] at h0 h1; rw [h0] at h1; cases h1
          · simp [Array.getElem?_eq_none h'] at h1
      have h2 := wpOp_putIf hoj (hfree j oj hoj hji hjun hnot) (fun cs b => hsel i oi cs b hi) (fun cs b => hsel j oj cs b hoj) hQ hy h1
      have hfree' : ∀ k ok, ops[k]? = some ok → k ≠ i → (listed.setIfInBounds j true).getD k true = false →
          (∀ e ∈ ok.after, Region.binds md e = true → e.on ≠ i) → oi.apart ops ok = true := fun k ok hk hki hun hno => by
        refine hfree k ok hk hki ?_ hno
        by_cases hjk : j = k
        · subst hjk; exact hjun
        · rw [getD_set_ne true hjk] at hun; exact hun
      have hun' : ∀ k, waits md ops i n k = true → (listed.setIfInBounds j true).getD k true = false := fun k hk => by
        have hjk : j ≠ k := fun e => by subst e; rw [hjw] at hk; cases hk
        rw [getD_set_ne true hjk]
        exact hun k hk
      have hNL : NoneL X ((listed.setIfInBounds i true).setIfInBounds j true) := fun x hx => by
        obtain ⟨hxw, hxi⟩ := hX x hx
        have hjx : j ≠ x := fun e => by subst e; rw [hjw] at hxw; cases hxw
        rw [getD_set_ne true hjx, getD_set_ne true (Ne.symm hxi)]
        exact hun x hxw
      refine wpOp_mono (fun a' w' h3 => ⟨fun _ => h3.2.1 hNL, ih (listed.setIfInBounds j true) a' w' hfree' hun' (ready_mono hr (Ne.symm hji)) h3.1 (h3.2.1 hNL) ?_⟩) h2
      rw [Array.setIfInBounds_comm _ _ hji]
      exact h3.2.2
theorem wpAnyL_firstA {i : Nat} {oi : Oper} {v : Value} (hi : ops[i]? = some oi) (hsel : ∀ (j : Nat) (o : Oper) cs b, ops[j]? = some o → o.op ≠ .select cs b)
    (hQ : ∀ c a w, Q (.panic c) (a.put oi.dst v) w → Q (.panic c) a w) (hiX : ∀ x ∈ X, i ≠ x) :
    ∀ (fuel : Nat) (listed : Array Bool) (a : Act) (w : World),
      (∀ j oj, ops[j]? = some oj → j ≠ i → listed.getD j true = false → (∀ e ∈ oj.after, Region.binds md e = true → e.on ≠ i) → oi.apart ops oj = true) →
      i ∈ Region.ready md ops listed → YieldsIf P ops (fun _ => True) oi v a → (NoneL X listed → S w) →
      wpAnyL P md ops Q S X fuel (listed.setIfInBounds i true) (a.put oi.dst v) w → wpAnyL P md ops Q S X (fuel + 1) listed a w := by
  have hNi : ∀ l : Array Bool, NoneL X (l.setIfInBounds i true) → NoneL X l := fun l h x hx => by
    have := h x hx
    rwa [getD_set_ne true (hiX x hx)] at this
  intro fuel
  induction fuel with
  | zero =>
    intro listed a w _ hr hy hS H
    refine ⟨fun h => (by rw [h] at hr; cases hr), fun j hj => ?_⟩
    by_cases hji : j = i
    · subst hji; exact hy.wpOp hi trivial ⟨fun h => hS (hNi _ h), H⟩
    · have := ready_mono hj hji
      rw [H.1] at this
      cases this
  | succ fuel ih =>
    intro listed a w hfree hr hy hS H
    refine ⟨fun h => (by rw [h] at hr; cases hr), fun j hj => ?_⟩
    by_cases hji : j = i
    · subst hji; exact hy.wpOp hi trivial ⟨fun h => hS (hNi _ h), H⟩
    · have h1 := H.2 j (ready_mono hj hji)
      obtain ⟨hjun, oj, hoj, hall⟩ := mem_ready.1 hj
      have hnot : ∀ e ∈ oj.after, Region.binds md e = true → e.on ≠ i := fun e he hb heq => by
        have h1 := hall e he hb
        have h0 := (mem_ready.1 hr).1
        rw [heq] at h1
        rcases Nat.lt_or_ge i listed.size with h' | h'
        · simp [h'] at h0 h1; rw [h0] at h1; cases h1
        · simp [Array.getElem?_eq_none h'] at h1
      have h2 := wpOp_putIf hoj (hfree j oj hoj hji hjun hnot) (fun cs b => hsel i oi cs b hi) (fun cs b => hsel j oj cs b hoj) hQ hy h1
      have hfree' : ∀ k ok, ops[k]? = some ok → k ≠ i → (listed.setIfInBounds j true).getD k true = false →
          (∀ e ∈ ok.after, Region.binds md e = true → e.on ≠ i) → oi.apart ops ok = true := fun k ok hk hki hun hno => by
        refine hfree k ok hk hki ?_ hno
        by_cases hjk : j = k
        · subst hjk; exact hjun
        · rw [getD_set_ne true hjk] at hun; exact hun
      have hNj : NoneL X (listed.setIfInBounds j true) → NoneL X ((listed.setIfInBounds i true).setIfInBounds j true) := fun h x hx => by
        rw [Array.setIfInBounds_comm _ _ (Ne.symm hji), getD_set_ne true (hiX x hx)]
        exact h x hx
      refine wpOp_mono (fun a' w' h3 => ⟨fun h => h3.2.1 (hNj h), ih (listed.setIfInBounds j true) a' w' hfree' (ready_mono hr (Ne.symm hji)) h3.1 (fun h => h3.2.1 (hNj h)) ?_⟩) h2
      rw [Array.setIfInBounds_comm _ _ hji]
      exact h3.2.2
theorem take_atA {i : Nat} (d : Nat) {oi : Oper} {v : Value} {fuel : Nat} {listed : Array Bool} {a : Act} {w : World} (hi : ops[i]? = some oi) (hd : oi.dst = some d)
    (hs : Region.noSelect ops = true) (hf : Region.free md ops listed i = true) (hr : (Region.ready md ops listed).contains i = true) (hx : X.all (fun x => i != x) = true)
    (hQ : ∀ c a w, Q (.panic c) (a.put (some d) v) w → Q (.panic c) a w) (hw : Region.wanted oi (yielded ops a.tmps) = true) (hy : ∀ w, (execOp a.eval oi).run P w = .ok (.value v) w) (hS : S w)
    (h : wpAnyL P md ops Q S X fuel (listed.setIfInBounds i true) (a.put (some d) v) w) : wpAnyL P md ops Q S X (fuel + 1) listed a w := by
  refine wpAnyL_firstA hi (Region.noSelect_spec hs) (by rw [hd]; exact hQ) (fun x hx2 => ?_) fuel listed a w (Region.free_spec hi hf) (by simpa using hr) (.inl ⟨hw, fun w _ => hy w⟩) (fun _ => hS) (by rw [hd]; exact h)
  have := List.all_eq_true.1 hx x hx2
  simpa using this
def lateOk (md : Region.Mode) (ops : Array Oper) (X : List Nat) (listed : Array Bool) (i : Nat) : Bool :=
  X.all (fun x => waits md ops i ops.size x && x != i) && (List.range listed.size).all (fun j => !waits md ops i ops.size j || listed.getD j true == false) && ops.size == listed.size
theorem waits_lt {i n j : Nat} (h : waits md ops i n j = true) (hi : i < ops.size) : j < ops.size := by
  by_cases hji : j = i
  · omega
  · obtain ⟨oj, ho, -⟩ := waits_edge h hji
    exact (Array.getElem?_eq_some_iff.1 ho).1
theorem take_atL {i : Nat} (d : Nat) {oi : Oper} {v : Value} {fuel : Nat} {listed : Array Bool} {a : Act} {w : World} (hi : ops[i]? = some oi) (hd : oi.dst = some d)
    (hs : Region.noSelect ops = true) (hf : Region.free md ops listed i = true) (hr : (Region.ready md ops listed).contains i = true) (hl : lateOk md ops X listed i = true)
    (hQ : ∀ c a w, Q (.panic c) (a.put (some d) v) w → Q (.panic c) a w) (hw : Region.wanted oi (yielded ops a.tmps) = true) (hy : ∀ w, S w → (execOp a.eval oi).run P w = .ok (.value v) w) (hS : S w)
    (h : wpAnyL P md ops Q S X fuel (listed.setIfInBounds i true) (a.put (some d) v) w) : wpAnyL P md ops Q S X (fuel + 1) listed a w := by
  unfold lateOk at hl
  simp only [Bool.and_eq_true, List.all_eq_true, List.mem_range, beq_iff_eq] at hl
  obtain ⟨⟨h1, h2⟩, h3⟩ := hl
  refine wpAnyL_first (n := ops.size) hi (Region.noSelect_spec hs) (by rw [hd]; exact hQ) (fun x hx => ?_) fuel listed a w (Region.free_spec hi hf) (fun j hj => ?_) (by simpa using hr) (.inl ⟨hw, hy⟩) hS (by rw [hd]; exact h)
  · have := h1 x hx
    simpa using this
  · have hlt := waits_lt hj (Array.getElem?_eq_some_iff.1 hi).1
    have := h2 j (by omega)
    rw [hj] at this
    simpa using this
theorem doneL {listed : Array Bool} {a : Act} {w : World} (hr : Region.ready md ops listed = []) (h : Q .normal a w) : ∀ fuel, wpAnyL P md ops Q S X fuel listed a w
  | 0 => ⟨hr, h⟩
  | _ + 1 => ⟨fun _ => h, by rw [hr]; simp⟩
theorem wp_region_late_drew {id : Nat} {a : Act} {w : World} (hm : P.follows .mixedOrders = true) (hS : S w.drew)
    (h : S w.drew → wpAnyL P .any ops Q S X ops.size (Array.replicate ops.size false) a w.drew) : (Code.region id ops true).wp P Q a w :=
  wp_region_any hm (wpAny_of_late _ _ _ _ (h hS))
/-- each of those that may come up -/
def AllReadyL (P : Program) (md : Region.Mode) (ops : Array Oper) (Q : Exit → Act → World → Prop) (S : World → Prop) (X : List Nat) (fuel : Nat) (listed : Array Bool) (a : Act) (w : World) (rs : List Nat) : Prop :=
  ∀ i ∈ rs, wpOp P ops Q i (fun a' w' => (NoneL X (listed.setIfInBounds i true) → S w') ∧ wpAnyL P md ops Q S X fuel (listed.setIfInBounds i true) a' w') a w
theorem AllReadyL.nil {fuel : Nat} {listed : Array Bool} {a : Act} {w : World} : AllReadyL P md ops Q S X fuel listed a w [] := fun _ h => by cases h
theorem AllReadyL.cons {fuel : Nat} {listed : Array Bool} {a : Act} {w : World} {i : Nat} {o : Oper} {rs : List Nat} (ho : ops[i]? = some o)
    (h : ∀ K' : Act → World → Prop, Shut (∀ a w, S w → (S w → wpAnyL P md ops Q S X fuel (listed.setIfInBounds i true) a w) → K' a w) → if Region.wanted o (yielded ops a.tmps) = true then Oper.wp P o a w K' Q else K' (a.put o.dst undef) w)
    (hs : AllReadyL P md ops Q S X fuel listed a w rs) : AllReadyL P md ops Q S X fuel listed a w (i :: rs) := fun j hj => by
  rcases List.mem_cons.1 hj with rfl | hj
  · exact wpOp_step ho (fun K' hK => h K' (fun a w hS hW => hK a w ⟨fun _ => hS, hW hS⟩))
  · exact hs j hj
theorem AllReadyL.late {fuel : Nat} {listed : Array Bool} {a : Act} {w : World} {i : Nat} {o : Oper} {rs : List Nat} (ho : ops[i]? = some o) (hx : X.contains i = true)
    (h : ∀ K' : Act → World → Prop, Shut (∀ a w, wpAnyL P md ops Q S X fuel (listed.setIfInBounds i true) a w → K' a w) → if Region.wanted o (yielded ops a.tmps) = true then Oper.wp P o a w K' Q else K' (a.put o.dst undef) w)
    (hs : AllReadyL P md ops Q S X fuel listed a w rs) : AllReadyL P md ops Q S X fuel listed a w (i :: rs) := fun j hj => by
  rcases List.mem_cons.1 hj with rfl | hj
  · exact wpOp_step ho (fun K' hK => h K' (fun a w hW => hK a w ⟨fun h => (by have h9 := h j (by simpa using hx); rw [getD_set_same] at h9; cases h9), hW⟩))
  · exact hs j hj
theorem readyL {rs : List Nat} {fuel : Nat} {listed : Array Bool} {a : Act} {w : World} (hr : Region.ready md ops listed = rs) (hne : rs ≠ [])
    (h : AllReadyL P md ops Q S X fuel listed a w rs) : wpAnyL P md ops Q S X (fuel + 1) listed a w := ⟨fun h0 => absurd (hr ▸ h0) hne, hr ▸ h⟩
theorem val_atLate {i : Nat} (d : Nat) {oi : Oper} {v : Value} {fuel : Nat} {listed : Array Bool} {a : Act} {w : World} (hi : ops[i]? = some oi) (hd : oi.dst = some d) (hr : Region.ready md ops listed = [i]) (hx : X.contains i = true)
    (hw : Region.wanted oi (yielded ops a.tmps) = true) (hrun : (execOp a.eval oi).run P w = .ok (.value v) w)
    (h : wpAnyL P md ops Q S X fuel (listed.setIfInBounds i true) (a.put (some d) v) w) : wpAnyL P md ops Q S X (fuel + 1) listed a w := by
  refine readyL hr (by simp) (AllReadyL.late hi hx (fun K' hK => ?_) AllReadyL.nil)
  rw [if_pos hw]
  unfold Oper.wp
  rw [hrun]
  show K' (a.put oi.dst v) w
  rw [hd]
  exact hK.out _ _ h
theorem run_atL {i : Nat} {oi : Oper} {fuel : Nat} {listed : Array Bool} {a : Act} {w : World} (hi : ops[i]? = some oi) (hr : Region.ready md ops listed = [i])
    (hw : Region.wanted oi (yielded ops a.tmps) = true)
    (h : ∀ K' : Act → World → Prop, Shut (∀ a w, S w → (S w → wpAnyL P md ops Q S X fuel (listed.setIfInBounds i true) a w) → K' a w) → Oper.wp P oi a w K' Q) : wpAnyL P md ops Q S X (fuel + 1) listed a w := by
  refine readyL hr (by simp) (AllReadyL.cons hi (fun K' hK => ?_) AllReadyL.nil)
  rw [if_pos hw]
  exact h K' hK
theorem run_atLate {i : Nat} {oi : Oper} {fuel : Nat} {listed : Array Bool} {a : Act} {w : World} (hi : ops[i]? = some oi) (hr : Region.ready md ops listed = [i]) (hx : X.contains i = true)
    (hw : Region.wanted oi (yielded ops a.tmps) = true)
    (h : ∀ K' : Act → World → Prop, Shut (∀ a w, wpAnyL P md ops Q S X fuel (listed.setIfInBounds i true) a w → K' a w) → Oper.wp P oi a w K' Q) : wpAnyL P md ops Q S X (fuel + 1) listed a w := by
  refine readyL hr (by simp) (AllReadyL.late hi hx (fun K' hK => ?_) AllReadyL.nil)
  rw [if_pos hw]
  exact h K' hK
end
end Go.Proofs.YtdoikcolkbjnfaaGreat
