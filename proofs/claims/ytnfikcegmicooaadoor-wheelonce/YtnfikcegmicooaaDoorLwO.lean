import Derived.Test.YtnfikcegmicooaaDoorWWNil
namespace Go.Proofs.YtnfikcegmicooaaDoor
set_option linter.unusedVariables false
set_option linter.unusedSimpArgs false
open Go.RowKit Go.Maps
/-- what the statement's book knows of a timer -/
abbrev duv (t : Tm) : List Value := [.int .i64 t.id, .int .u64 (t.at_ : Int)]
abbrev tDu : TypeId := 57
abbrev tDus : TypeId := 52
/-- entries that can be read -/
def RdD (w : World) (ao : Option Addr) (xs : List Tm) : Prop := ∀ j (hj : j < xs.length), ∃ b o, ao = some ⟨b, o, none⟩ ∧ w.rangeAt b (o + j * 2) (duv xs[j]) ∧ ∃ cur fr, w.heap[b]? = some (.cells cur tDu fr)
theorem RdD.below {w w' : World} {ao : Option Addr} {xs : List Tm} (h : RdD w ao xs) (hb : Below w.heap.size w w') : RdD w' ao xs := fun j hj => by
  obtain ⟨b, o, h1, h2, cur, fr, h3⟩ := h j hj
  exact ⟨b, o, h1, rangeAt_below h2 hb, cur, fr, (hb.block b (Array.getElem?_eq_some_iff.1 h3).1).trans h3⟩
def flatD (xs : List Tm) : List Value := xs.flatMap duv
theorem flatD_len (xs : List Tm) : (flatD xs).length = xs.length * 2 := by
  induction xs with
  | nil => rfl
  | cons x xs ih =>
    unfold flatD at *
    rw [List.flatMap_cons, List.length_append, ih]
    simp
    omega
theorem flatD_app (xs ys : List Tm) : flatD (xs ++ ys) = flatD xs ++ flatD ys := by simp [flatD]
theorem flatD_one (x : Tm) : flatD [x] = duv x := by simp [flatD]
theorem flatD_get : ∀ (xs : List Tm) (j q : Nat) (h : j < xs.length) (_ : q < 2), (flatD xs)[j * 2 + q]? = (duv xs[j])[q]?
  | [], j, _, h, _ => by cases h
  | x :: xs, 0, q, _, hq => by
    have e : flatD (x :: xs) = duv x ++ flatD xs := by simp [flatD]
    rw [e, List.getElem?_append_left (by simp; omega)]
    simp
  | x :: xs, j + 1, q, h, hq => by
    have h1 := flatD_get xs j q (by simpa using h) hq
    have e : flatD (x :: xs) = duv x ++ flatD xs := by simp [flatD]
    rw [e, List.getElem?_append_right (by simp; omega)]
    rw [show (j + 1) * 2 + q - (duv x).length = j * 2 + q by simp; omega, h1]
    rfl
theorem flatD_one' (xs : List Tm) : ∀ u ∈ flatD xs, u.oneCell' = true := by
  intro u hu
  obtain ⟨x, -, hx⟩ := List.mem_flatMap.1 hu
  simp at hx
  rcases hx with rfl | rfl <;> rfl
def OwnD (w : World) (B : Nat) (v : Value) (xs : List Tm) : Prop := w.ownsRow B tDu 2 v xs.length (flatD xs)
theorem OwnD.below {w w' : World} {B : Nat} {v : Value} {xs : List Tm} (h : OwnD w B v xs) (hb : Below w.heap.size w w') : OwnD w' B v xs := by
  refine ⟨h.1, ?_⟩
  rcases h.2 with h0 | ⟨g, cap, cur, e, hB, hg, r⟩
  · exact .inl h0
  · exact .inr ⟨g, cap, cur, e, hB, (hb.block g (Array.getElem?_eq_some_iff.1 hg).1).trans hg, r⟩
theorem OwnD.rd {w : World} {B g cap : Nat} {xs : List Tm} (h : OwnD w B (.slice (some ⟨g, 0, none⟩) xs.length cap) xs) : RdD w (some ⟨g, 0, none⟩) xs := fun j hj => by
  have hblk : ∃ cur fr, w.heap[g]? = some (.cells cur tDu fr) := by
    rcases h.2 with ⟨e, -⟩ | ⟨g', cap', cur, e, -, hg, -⟩
    · cases e
    · cases e; exact ⟨cur, _, hg⟩
  refine ⟨g, 0, rfl, fun q v hv => ?_, hblk⟩
  have hq : q < 2 := by have := (List.getElem?_eq_some_iff.1 hv).1; simpa using this
  rw [Nat.zero_add, World.ownsRow.cellAt h _ (by omega), flatD_get xs j q hj hq]
  exact hv
theorem OwnD.val {w : World} {B : Nat} {v : Value} {xs : List Tm} (h : OwnD w B v xs) : ∃ a c, v = .slice a xs.length c ∧ xs.length ≤ c ∧ (a = none → c = 0) ∧ RdD w a xs := by
  have h' := h
  rcases h.2 with ⟨rfl, h0⟩ | ⟨g, cap, cur, rfl, hB, hg, hn, hm, r⟩
  · obtain rfl : xs = [] := List.eq_nil_of_length_eq_zero h0
    exact ⟨none, 0, rfl, Nat.le_refl _, fun _ => rfl, fun j hj => absurd hj (Nat.not_lt_zero _)⟩
  · exact ⟨_, cap, rfl, hn, (fun h => by cases h), OwnD.rd h'⟩
theorem infoD : (Tryd.prog.info? tDu).map (fun i => (i.zero, i.size, i.bytes)) = some (some (.agg #[.int .i64 0, .int .u64 0]), 2, 16) := by kernel_rfl
/-- append of entries that can be read -/
theorem wp_appD {w : World} {ops : Array Oper} {rest : List Oper} {o : Oper} {a : Act} {Q : Exit → Act → World → Prop} (hgd : o.guard = none) (s x : Operand)
    (ho : o.op = .call { callee := .builtin .append, args := #[s, x], argTypes := #[tDus, tDus] }) (B : Nat) (v : Value) (xs ys : List Tm) (n : Nat) (ao : Option Addr) (cap : Nat) (hn : n = ys.length)
    (hs : a.eval s = v) (hown : OwnD w B v xs) (hx : a.eval x = .slice ao n cap) (hr : RdD w ao ys) (hnil : ao = none → cap = 0)
    (hb : xs.length + n ≤ 4398046511104) (hbase : B ≤ w.heap.size)
    (h : ∀ v' w', OwnD w' B v' (xs ++ ys) → w.grownBy w' v.ownBlock → wpList Tryd.prog ops Q rest (a.put o.dst v') w') : wpList Tryd.prog ops Q (o :: rest) a w := by
  subst hn
  obtain ⟨i0, hi, hz0, hz1, hz2⟩ := info_parts infoD
  rcases ao with _ | ad
  · have h0 : ys = [] := by
      rcases ys with _ | ⟨y, ys⟩
      · rfl
      · obtain ⟨b, o, h1, _⟩ := hr 0 (by simp); cases h1
    subst h0
    obtain rfl := hnil rfl
    refine wpList_append_own_none hgd s x tDus ho B tDu i0 2 Tryd.underlying52 hi v xs.length (flatD xs) hs hown hx ?_
    exact h v w (by simpa using hown) ⟨rfl, rfl, rfl, Nat.le_refl _, fun _ _ _ => rfl⟩
  · refine wpList_append_own w hgd s x tDus ho B tDu i0 _ 2 16 Tryd.underlying52 hi hz0 hz1 hz2 rfl (by decide) v xs.length (flatD xs) hs hown ad ys.length cap (flatD ys) hx (flatD_len ys) ?_ (flatD_one' ys) (by simp only [maxLen]; omega) (by omega) hbase ?_
    · intro j u hj
      have hlt : j < ys.length * 2 := by
        have := (List.getElem?_eq_some_iff.1 hj).1
        rw [flatD_len] at this
        exact this
      obtain ⟨b, o, h1, h2, -⟩ := hr (j / 2) (by omega)
      cases h1
      rw [Go.WideShapes.add_plain]
      have f1 := flatD_get ys (j / 2) (j % 2) (by omega) (by omega)
      rw [show j / 2 * 2 + j % 2 = j by omega, hj] at f1
      have h3 := h2 (j % 2) u f1.symm
      rw [show o + j / 2 * 2 + j % 2 = o + j by omega] at h3
      exact h3
    · intro v' w' h1 h2 _
      refine h v' w' ?_ h2
      unfold OwnD
      rw [List.length_append, flatD_app]
      exact h1
theorem OwnD.one {w : World} {B : Nat} {v : Value} {xs : List Tm} (h : OwnD w B v xs) (hn : xs ≠ []) : ∃ g c, v = .slice (some ⟨g, 0, none⟩) xs.length c := by
  rcases h.2 with ⟨-, h0⟩ | ⟨g, cap, cur, e, -⟩
  · exact absurd (List.eq_nil_of_length_eq_zero h0) hn
  · exact ⟨g, cap, e⟩
theorem OwnD.cells2 {w : World} {B g cap n : Nat} {xs : List Tm} (h : OwnD w B (.slice (some ⟨g, 0, none⟩) n cap) xs) (hn : n = xs.length) (i : Nat) (hi : i < xs.length) :
    w.cell? ⟨g, i * 2, none⟩ = some (.int .i64 xs[i].id) ∧ w.cell? ⟨g, i * 2 + 1, none⟩ = some (.int .u64 (xs[i].at_ : Int)) := by
  subst hn
  have h1 := fun r (hr : r < 2) => (World.ownsRow.cellAt h (i * 2 + r) (by omega)).trans (flatD_get xs i r hi hr)
  exact ⟨h1 0 (by decide), h1 1 (by decide)⟩
theorem rowD_at {w : World} {B : Nat} {v : Value} {xs : List Tm} {b : Nat} (h : OwnD w B v xs) (hb : v.ownBlock = some b) : ∃ cur, w.heap[b]? = some (.cells cur tDu (0, 0)) := by
  rcases h.2 with ⟨rfl, -⟩ | ⟨g, cap, cur, rfl, -, hg, -⟩
  · cases hb
  · cases hb; exact ⟨cur, hg⟩
theorem rowD_kept {w w' : World} {B : Nat} {v : Value} {xs : List Tm} (h : OwnD w B v xs) (hk : ∀ b, v.ownBlock = some b → w'.heap[b]? = w.heap[b]?) : OwnD w' B v xs := by
  refine ⟨h.1, ?_⟩
  rcases h.2 with h0 | ⟨g, cap, cur, e, hB, hg, r⟩
  · exact .inl h0
  · exact .inr ⟨g, cap, cur, e, hB, (hk g (by rw [e]; rfl)).trans hg, r⟩
theorem OwnD.base {w : World} {B B' : Nat} {v : Value} {xs : List Tm} (h : OwnD w B v xs) (hB : B' ≤ B) : OwnD w B' v xs :=
  ⟨h.1, h.2.imp id (fun ⟨g, cap, cur, h1, h2, h3⟩ => ⟨g, cap, cur, h1, Nat.le_trans hB h2, h3⟩)⟩
theorem OwnD.lt {w : World} {B g cap n : Nat} {xs : List Tm} (h : OwnD w B (.slice (some ⟨g, 0, none⟩) n cap) xs) : g < w.heap.size := by
  obtain ⟨cur, h1⟩ := rowD_at h (b := g) rfl
  exact (Array.getElem?_eq_some_iff.1 h1).1
theorem rdD_lit (w : World) (t : Tm) : RdD (w.alloc (.cells #[.int .i64 t.id, .int .u64 (t.at_ : Int)] tDu)) (some ⟨w.heap.size, 0, none⟩) [t] := fun j hj => by
  obtain rfl : j = 0 := by simp at hj; omega
  have h9 := heap_alloc_new w (.cells #[.int .i64 t.id, .int .u64 (t.at_ : Int)] tDu)
  refine ⟨w.heap.size, 0, rfl, fun q u hu => ?_, _, _, h9⟩
  rw [cell_of_row _ _ _ _ _ _ h9]
  simp only [Nat.zero_mul, Nat.add_zero, Nat.zero_add, List.getElem_cons_zero] at hu ⊢
  rw [← Array.getElem?_toList]
  exact hu
def HasIs (L : List Tm) (id : Int) (n : Nat) (b : Bool) : Prop := (b = false ∧ ∀ t, t ∈ L → t.id ≠ id) ∨ (b = true ∧ ∃ t, t ∈ L ∧ t.id = id ∧ t.at_ = n)
def HasOut (L : List Tm) (id : Int) (e : Ending) : Prop := ∃ (n : Nat) (b : Bool), e = .returned (.tuple #[.int .u64 (n : Int), .bool b]) ∧ HasIs L id n b
set_option maxRecDepth 20000 in
set_option maxHeartbeats 3200000 in
theorem has_t (B : Nat) (v : Value) (L : List Tm) (id : Int) (w : World) (h : OwnD w B v L) (hl : L.length ≤ 4398046511104) :
    Calls Tryd.prog 21 #[v, .int .i64 id] w fun e w' => HasOut L id e ∧ w' = w := by
  obtain ⟨a, c, hv, hc, hnil, -⟩ := h.val
  obtain ⟨n, hn⟩ : ∃ n, n = L.length := ⟨_, rfl⟩
  rw [← hn] at hv hl
  subst hv
  have HR : Hid _ := h
  have HN : Hid _ := hn
  clear h hn hc hnil
  go_enter Tryd.func21, Tryd.ntmps21
  go_wp2
  go_loop [6] (fun i => ∃ j : Nat, j ≤ n ∧ i = .int .i64 (j : Int) ∧ ∀ t, t ∈ L.take j → t.id ≠ id) (fun i => n - (intOf i).toNat)
  case atStart => exact ⟨0, Nat.zero_le _, rfl, fun t ht => by simp at ht⟩
  case round =>
    obtain ⟨j, hj, rfl, hbe⟩ := hrel
    have HBE : Hid _ := hbe
    clear hbe
    by_cases hlt : j < n
    · have hj1 : j < L.length := by rw [← HN.out]; exact hlt
      obtain ⟨g, cc, hv⟩ := OwnD.one (xs := L) HR.out (fun e => by rw [e] at hj1; cases hj1)
      obtain ⟨rfl, -, rfl⟩ := Value.slice.inj hv
      obtain ⟨c0, c1⟩ := OwnD.cells2 (xs := L) HR.out HN.out j hj1
      obtain ⟨t, hT⟩ : ∃ t, t = L[j] := ⟨_, rfl⟩
      rw [← hT] at c0 c1
      have HTT : Hid _ := hT
      clear hv hT
      by_cases he : t.id = id
      · have heb : (t.id == id) = true := by simp [he]
        go_wp2
        go_ret2
        exact ⟨⟨t.at_, true, rfl, .inr ⟨rfl, t, by rw [HTT.out]; exact List.getElem_mem _, he, rfl⟩⟩, rfl⟩
      · have heb : (t.id == id) = false := by simp [he]
        go_wp2
        go_round
        case rel =>
          refine ⟨j + 1, hlt, by go_num, fun u hu => ?_⟩
          rw [List.take_succ_eq_append_getElem hj1, List.mem_append] at hu
          rcases hu with h9 | h9
          · exact HBE.out u h9
          · simp at h9; rw [h9, ← HTT.out]; exact he
        case measure => simp [intOf]; omega
    · have hjn : j = n := by omega
      have hall : ∀ t, t ∈ L → t.id ≠ id := fun t ht => HBE.out t (by rw [hjn, HN.out, List.take_length]; exact ht)
      have HA : Hid _ := hall
      clear hall
      go_wp2
      go_ret2
      exact ⟨⟨0, false, rfl, .inl ⟨rfl, HA.out⟩⟩, rfl⟩
set_option maxRecDepth 20000 in
set_option maxHeartbeats 3200000 in
theorem without_t (B : Nat) (v : Value) (L : List Tm) (id : Int) (w : World) (h : OwnD w B v L) (hl : L.length ≤ 4398046511104) :
    Calls Tryd.prog 20 #[v, .int .i64 id] w fun e w' => (∃ v', e = .returned v' ∧ OwnD w' w.heap.size v' (L.filter (fun t => decide (t.id ≠ id)))) ∧ Below w.heap.size w w' := by
  obtain ⟨a, c, hv, hc, hnil, -⟩ := h.val
  obtain ⟨n, hn⟩ : ∃ n, n = L.length := ⟨_, rfl⟩
  rw [← hn] at hv hl
  subst hv
  obtain ⟨L', hL'⟩ : ∃ L', L' = L.filter (fun t => decide (t.id ≠ id)) := ⟨_, rfl⟩
  rw [← hL']
  have HF : Hid _ := hL'
  have HR : Hid _ := h
  have HN : Hid _ := hn
  clear h hn hc hnil hL'
  go_enter Tryd.func20, Tryd.ntmps20
  go_wp2
  go_loopw [5, 6] (fun z i wr => ∃ (j : Nat) (M : List Tm), j ≤ n ∧ i = .int .i64 (j : Int) ∧ M = (L.take j).filter (fun t => decide (t.id ≠ id)) ∧ OwnD wr w.heap.size z M ∧ Below w.heap.size w wr) (fun _ i _ => n - (intOf i).toNat)
  case atStart => exact ⟨0, [], Nat.zero_le _, rfl, rfl, World.ownsRow_nil _ _ _ _, Below.refl _ _⟩
  case round =>
    obtain ⟨j, M, hj, rfl, hM, hZ, hB⟩ := hrel
    have HM : Hid _ := hM
    have HZ : Hid _ := hZ
    have HB : Hid _ := hB
    clear hM hZ hB
    by_cases hlt : j < n
    · have hj1 : j < L.length := by rw [← HN.out]; exact hlt
      obtain ⟨g, cc, hv⟩ := OwnD.one (xs := L) HR.out (fun e => by rw [e] at hj1; cases hj1)
      obtain ⟨rfl, -, rfl⟩ := Value.slice.inj hv
      obtain ⟨c0, c1⟩ := OwnD.cells2 (xs := L) (OwnD.below (xs := L) HR.out HB.out) HN.out j hj1
      obtain ⟨t, hT⟩ : ∃ t, t = L[j] := ⟨_, rfl⟩
      rw [← hT] at c0 c1
      have hgl := OwnD.lt (xs := L) (OwnD.below (xs := L) HR.out HB.out)
      have htk : L.take (j + 1) = L.take j ++ [t] := by rw [List.take_succ_eq_append_getElem hj1, ← hT]
      have HTK : Hid _ := htk
      have hsz := HB.out.size
      have hbd : M.length + 1 ≤ 4398046511104 := by
        have h9 := List.length_filter_le (fun t : Tm => decide (t.id ≠ id)) (L.take j)
        rw [← HM.out, List.length_take] at h9
        omega
      clear hv hT htk
      by_cases he : t.id = id
      · have heb : (t.id != id) = false := by simp [he]
        go_wp2
        go_roundw
        case rel =>
          refine ⟨j + 1, M, hlt, by go_num, ?_, HZ.out, HB.out⟩
          rw [HTK.out, List.filter_append, ← HM.out, List.filter_cons_of_neg (by simp [he])]
          simp
        case measure => simp [intOf]; omega
      · have heb : (t.id != id) = true := by simp [he]
        go_wp2_with (at_builtin; refine wp_appD rfl _ _ rfl w.heap.size _ M [t] 1 _ _ rfl rfl (OwnD.below (xs := M) HZ.out (al (Below.refl _ _) _)) rfl (rdD_lit wr t) (fun h => by cases h) hbd (by simp; omega) ?_; intro v6 w6 hown6 hg6; have HO6 : Hid _ := hown6; have HG6 : Hid _ := hg6; clear hown6 hg6)
        go_roundw
        case rel =>
          refine ⟨j + 1, M ++ [t], hlt, by go_num, ?_, HO6.out, (al HB.out _).grown HG6.out (by simp; omega) (fun y e => (World.ownsRow.lt HZ.out y e).1)⟩
          rw [HTK.out, List.filter_append, ← HM.out, List.filter_cons_of_pos (by simp [he])]
          simp
        case measure => simp [intOf]; omega
    · have hjn : j = n := by omega
      have hML : M = L' := by rw [HM.out, HF.out, hjn, HN.out, List.take_length]
      subst hML
      go_wp2
      go_ret
      exact ⟨⟨_, rfl, HZ.out⟩, HB.out⟩
end Go.Proofs.YtnfikcegmicooaaDoor
