import Derived.Test.YtibolgpaolnheaaQR
import Derived.Test.YtibolgpaolnheaaZQPl
import Derived.Lib.AppendZeros
import Derived.Lib.SliceRun
namespace Go.Proofs.Ytibolgpaolnheaa.Str
set_option linter.unusedVariables false
set_option linter.unusedSimpArgs false
open Go.RowKit
def flatE (xs : List Ent) : List Value := xs.flatMap ev
theorem flatE_len (xs : List Ent) : (flatE xs).length = xs.length * 3 := by
  induction xs with
  | nil => rfl
  | cons x xs ih =>
    unfold flatE at *
    rw [List.flatMap_cons, List.length_append, ih]
    simp
    omega
theorem flatE_app (xs ys : List Ent) : flatE (xs ++ ys) = flatE xs ++ flatE ys := by simp [flatE]
theorem flatE_one (x : Ent) : flatE [x] = ev x := by simp [flatE]
theorem flatE_get : ∀ (xs : List Ent) (j q : Nat) (h : j < xs.length) (_ : q < 3), (flatE xs)[j * 3 + q]? = (ev xs[j])[q]?
  | [], j, _, h, _ => by cases h
  | x :: xs, 0, q, _, hq => by
    have e : flatE (x :: xs) = ev x ++ flatE xs := by simp [flatE]
    rw [e, List.getElem?_append_left (by simp; omega)]
    simp
  | x :: xs, j + 1, q, h, hq => by
    have h1 := flatE_get xs j q (by simpa using h) hq
    have e : flatE (x :: xs) = ev x ++ flatE xs := by simp [flatE]
    rw [e, List.getElem?_append_right (by simp; omega)]
    rw [show (j + 1) * 3 + q - (ev x).length = j * 3 + q by simp; omega, h1]
    rfl
theorem flatE_one' (xs : List Ent) : ∀ u ∈ flatE xs, u.oneCell' = true := by
  intro u hu
  obtain ⟨x, -, hx⟩ := List.mem_flatMap.1 hu
  simp at hx
  rcases hx with rfl | rfl | rfl
  · rfl
  · rfl
  · exact x.ok
def OwnE (w : World) (B : Nat) (v : Value) (xs : List Ent) : Prop := w.ownsRow B tEn 3 v xs.length (flatE xs)
theorem OwnE.below {w w' : World} {B : Nat} {v : Value} {xs : List Ent} (h : OwnE w B v xs) (hb : Below w.heap.size w w') : OwnE w' B v xs := by
  refine ⟨h.1, ?_⟩
  rcases h.2 with h0 | ⟨g, cap, cur, e, hB, hg, r⟩
  · exact .inl h0
  · exact .inr ⟨g, cap, cur, e, hB, (hb.block g (Array.getElem?_eq_some_iff.1 hg).1).trans hg, r⟩
theorem OwnE.rd {w : World} {B g cap : Nat} {xs : List Ent} (h : OwnE w B (.slice (some ⟨g, 0, none⟩) xs.length cap) xs) : RdE w (some ⟨g, 0, none⟩) xs := fun j hj => by
  have hblk : ∃ cur fr, w.heap[g]? = some (.cells cur tEn fr) := by
    rcases h.2 with ⟨e, -⟩ | ⟨g', cap', cur, e, -, hg, -⟩
    · cases e
    · cases e; exact ⟨cur, _, hg⟩
  refine ⟨g, 0, rfl, fun q v hv => ?_, hblk⟩
  have hq : q < 3 := by have := (List.getElem?_eq_some_iff.1 hv).1; simpa using this
  rw [Nat.zero_add, World.ownsRow.cellAt h _ (by omega), flatE_get xs j q hj hq]
  exact hv
theorem OwnE.val {w : World} {B : Nat} {v : Value} {xs : List Ent} (h : OwnE w B v xs) : ∃ a c, v = .slice a xs.length c ∧ xs.length ≤ c ∧ (a = none → c = 0) ∧ RdE w a xs := by
  have h' := h
  rcases h.2 with ⟨rfl, h0⟩ | ⟨g, cap, cur, rfl, hB, hg, hn, hm, r⟩
  · obtain rfl : xs = [] := List.eq_nil_of_length_eq_zero h0
    exact ⟨none, 0, rfl, Nat.le_refl _, fun _ => rfl, fun j hj => absurd hj (Nat.not_lt_zero _)⟩
  · exact ⟨_, cap, rfl, hn, (fun h => by cases h), OwnE.rd h'⟩
theorem infoE : (Try.prog.info? tEn).map (fun i => (i.zero, i.size, i.bytes)) = some (some (.agg #[.int .u64 0, .int .u64 0, .string ⟨#[]⟩]), 3, 32) := by kernel_rfl
/-- append of entries that can be read -/
theorem wp_appE {w : World} {ops : Array Oper} {rest : List Oper} {o : Oper} {a : Act} {Q : Exit → Act → World → Prop} (hgd : o.guard = none) (s x : Operand)
    (ho : o.op = .call { callee := .builtin .append, args := #[s, x], argTypes := #[tPg, tPg] }) (B : Nat) (v : Value) (xs ys : List Ent) (n : Nat) (ao : Option Addr) (cap : Nat) (hn : n = ys.length)
    (hs : a.eval s = v) (hown : OwnE w B v xs) (hx : a.eval x = .slice ao n cap) (hr : RdE w ao ys) (hnil : ao = none → cap = 0)
    (hb : xs.length + n ≤ 4398046511104) (hbase : B ≤ w.heap.size)
    (h : ∀ v' w', OwnE w' B v' (xs ++ ys) → w.grownBy w' v.ownBlock → wpList Try.prog ops Q rest (a.put o.dst v') w') : wpList Try.prog ops Q (o :: rest) a w := by
  subst hn
  obtain ⟨i0, hi, hz0, hz1, hz2⟩ := info_parts infoE
  rcases ao with _ | ad
  · have h0 : ys = [] := by
      rcases ys with _ | ⟨y, ys⟩
      · rfl
      · obtain ⟨b, o, h1, _⟩ := hr 0 (by simp); cases h1
    subst h0
    obtain rfl := hnil rfl
    refine wpList_append_own_none hgd s x tPg ho B tEn i0 3 Try.underlying81 hi v xs.length (flatE xs) hs hown hx ?_
    exact h v w (by simpa using hown) ⟨rfl, rfl, rfl, Nat.le_refl _, fun _ _ _ => rfl⟩
  · refine wpList_append_own w hgd s x tPg ho B tEn i0 _ 3 32 Try.underlying81 hi hz0 hz1 hz2 rfl (by decide) v xs.length (flatE xs) hs hown ad ys.length cap (flatE ys) hx (flatE_len ys) ?_ (flatE_one' ys) (by simp only [maxLen]; omega) (by omega) hbase ?_
    · intro j u hj
      have hlt : j < ys.length * 3 := by
        have := (List.getElem?_eq_some_iff.1 hj).1
        rw [flatE_len] at this
        exact this
      obtain ⟨b, o, h1, h2, -⟩ := hr (j / 3) (by omega)
      cases h1
      rw [Go.WideShapes.add_plain]
      have f1 := flatE_get ys (j / 3) (j % 3) (by omega) (by omega)
      rw [show j / 3 * 3 + j % 3 = j by omega, hj] at f1
      have h3 := h2 (j % 3) u f1.symm
      rw [show o + j / 3 * 3 + j % 3 = o + j by omega] at h3
      exact h3
    · intro v' w' h1 h2 _
      refine h v' w' ?_ h2
      unfold OwnE
      rw [List.length_append, flatE_app]
      exact h1
set_option maxRecDepth 20000 in
set_option maxHeartbeats 1600000 in
theorem growE_nil (n : Nat) (w : World) (hn : n ≤ 4398046511104) :
    Calls Try.prog 65 #[.slice none 0 0, .int .i64 n] w fun e w' => ∃ v, e = .returned v ∧ OwnE w' w.heap.size v [] ∧ Below w.heap.size w w' := by
  obtain ⟨i0, hi, hz0, hz1, hz2⟩ := info_parts infoE
  by_cases h0 : n = 0
  · subst h0
    go_enter Try.func65, Try.ntmps65
    go_wp2
    go_ret
    exact ⟨_, rfl, World.ownsRow_nil _ _ _ _, Below.refl _ _⟩
  · have hpos : (0 : Int) < n := by omega
    have hap := fun (u : World) (ty : TypeId) => Go.Lib.run_append_nil_zeros (P := Try.prog) u tPg 3 ty tEn i0 (.agg #[.int .u64 0, .int .u64 0, .string ⟨#[]⟩]) .i64 .i64 Try.underlying81 Try.underlying3 hi hz0 n (by omega) (by omega) (by omega) (by rw [hz2]; omega)
    have HAP : Hid _ := hap
    clear hap
    go_enter Try.func65, Try.ntmps65
    go_wp2_with (at_builtin; refine Go.Lib.wpList_append_run _ rfl _ _ _ _ rfl _ _ rfl rfl _ _ (HAP.out _ _) ?_)
    go_ret
    refine ⟨_, rfl, World.ownsRow.drew (World.ownsRow_made w _ _ (Nat.le_refl _) (grownCap_le_maxLen w n 0 tEn (by simp only [maxLen]; omega)) ?_), ((Below.refl _ _).alloc (Nat.le_refl _) _).drew⟩
    have := grownCap_ge w n 0 tEn
    simp [size_zeroCells, Value.cells]
    omega
/-- a slice value handed in -/
structure PartE where
  ao : Option Addr
  cap : Nat
  xs : List Ent
def PartE.v (p : PartE) : Value := .slice p.ao p.xs.length p.cap
def PartE.fit (w : World) (p : PartE) : Prop := RdE w p.ao p.xs ∧ (p.ao = none → p.cap = 0)
def catE (ps : List PartE) : List Ent := ps.flatMap (·.xs)
theorem catE_snoc (ps : List PartE) (k : Nat) (h : k < ps.length) : catE (ps.take (k + 1)) = catE (ps.take k) ++ ps[k].xs := by
  unfold catE
  rw [List.take_succ_eq_append_getElem h, List.flatMap_append]
  simp
theorem catE_le (ps : List PartE) (k : Nat) : (catE (ps.take k)).length ≤ (catE ps).length := by
  have h : catE ps = catE (ps.take k) ++ catE (ps.drop k) := by
    conv => lhs; rw [← List.take_append_drop k ps]
    unfold catE
    rw [List.flatMap_append]
  rw [h, List.length_append]
  omega
set_option maxRecDepth 20000 in
set_option maxHeartbeats 1600000 in
theorem concatE_t (b o c : Nat) (ps : List PartE) (w : World) (hn : ps.length ≤ 1000) (hp : ∀ j (h : j < ps.length), w.cell? ⟨b, o + j, none⟩ = some ps[j].v ∧ ps[j].fit w) (hb : (catE ps).length ≤ 4398046511104) :
    Calls Try.prog 38 #[.slice (some ⟨b, o, none⟩) ps.length c] w fun e w' => ∃ v, e = .returned v ∧ OwnE w' w.heap.size v (catE ps) ∧ Below w.heap.size w w' := by
  go_enter Try.func38, Try.ntmps38
  go_wp2
  go_loop [3, 11] (fun s i => ∃ k : Nat, k ≤ ps.length ∧ i = .int .i64 k ∧ s = .int .i64 ((catE (ps.take k)).length : Nat)) (fun _ i => ps.length - (intOf i).toNat)
  case atStart => exact ⟨0, Nat.zero_le _, rfl, rfl⟩
  case round =>
    obtain ⟨k, hk, rfl, rfl⟩ := hrel
    have hcl := catE_le ps k
    by_cases hlt : k < ps.length
    · have hc1 := (hp k hlt).1
      unfold PartE.v at hc1
      have hcl1 := catE_le ps (k + 1)
      have HS : Hid ((catE (ps.take (k + 1))).length = (catE (ps.take k)).length + ps[k].xs.length) := by unfold Hid; rw [catE_snoc ps k hlt, List.length_append]
      have hcl2 : (catE (ps.take k)).length + ps[k].xs.length ≤ 4398046511104 := by have := HS.out; omega
      clear hp hcl1
      go_wp2
      go_round
      case rel => exact ⟨k + 1, by omega, by go_num, by rw [HS.out]; go_num⟩
      case measure => simp [intOf]; omega
    · obtain rfl : k = ps.length := by omega
      rw [List.take_length]
      clear hcl
      go_wp2_with fail
      refine (growE_nil _ _ hb).mono ?_
      rintro e w1 ⟨v0, rfl, hown0, hb0⟩
      go_wp2
      go_loopw [6, 27] (fun v i wr => ∃ k : Nat, k ≤ ps.length ∧ i = .int .i64 k ∧ OwnE wr w.heap.size v (catE (ps.take k)) ∧ Below w.heap.size w wr) (fun _ i _ => ps.length - (intOf i).toNat)
      case atStart => exact ⟨0, Nat.zero_le _, rfl, hown0, hb0⟩
      case round =>
        obtain ⟨k, hk, rfl, hown, hbel⟩ := hrel
        by_cases hlt : k < ps.length
        · obtain ⟨hc1, hr1, hn1⟩ := hp k hlt
          unfold PartE.v at hc1
          have hc2 := (hbel.cell (World.block_lt_of_cell? w _ hc1)).trans hc1
          have hr2 := hr1.below hbel
          have hsz := hbel.size
          have HS : Hid (catE (ps.take (k + 1)) = catE (ps.take k) ++ ps[k].xs) := catE_snoc ps k hlt
          have hle : (catE (ps.take k)).length + ps[k].xs.length ≤ 4398046511104 := by
            have h1 := catE_le ps (k + 1)
            rw [HS.out, List.length_append] at h1
            omega
          have HR : Hid _ := hr2
          have HN : Hid _ := hn1
          clear hp hc1 hr1 hr2 hn1 hown0 hb0
          go_wp2_with (at_builtin; refine wp_appE rfl _ _ rfl _ _ _ _ _ _ _ rfl rfl hown rfl HR.out HN.out hle hsz ?_; intro v2 w2 hown2 hg2)
          go_roundw
          case rel => exact ⟨k + 1, by omega, by go_num, by rw [HS.out]; exact hown2, hbel.grown hg2 hsz (fun j hj => (World.ownsRow.lt hown j hj).1)⟩
          case measure => simp [intOf]; omega
        · obtain rfl : k = ps.length := by omega
          rw [List.take_length] at hown
          go_wp2
          go_ret
          exact ⟨_, rfl, hown, hbel⟩
theorem ownE_made0 (w : World) : OwnE (w.alloc (.cells #[] tEn (0, 0))) w.heap.size (.slice (some ⟨w.heap.size, 0, none⟩) 0 0) [] := World.ownsRow_made w #[] 0 (Nat.le_refl _) (Nat.zero_le _) rfl
set_option maxRecDepth 20000 in
set_option maxHeartbeats 1600000 in
theorem cloneE_t (ao : Option Addr) (n cap : Nat) (xs : List Ent) (w : World) (hn : n = xs.length) (hx : RdE w ao xs) (ha : ao = none → cap = 0) (hl : n ≤ 4398046511104) :
    Calls Try.prog 64 #[.slice ao n cap] w fun e w' => ∃ v, e = .returned v ∧ OwnE w' w.heap.size v xs ∧ Below w.heap.size w w' := by
  have q22 : ∀ (w : World) (a : Option Addr) (n c n' c' : Nat), (binOp .eql tPg (.slice a n c) (.slice none n' c')).run Try.prog w = .ok (.bool a.isNone) w := fun w a n c n' c' => Lib.run_eql_slice_nil w _ _ a n c n' c' Try.underlying81
  have HN : Hid _ := hn
  clear hn
  rcases ao with _ | a
  · obtain rfl := ha rfl
    have h0 : xs = [] := by
      rcases xs with _ | ⟨y, ys⟩
      · rfl
      · obtain ⟨b, o, h1, _⟩ := hx 0 (by simp); cases h1
    subst h0
    clear ha
    go_enter Try.func64, Try.ntmps64
    go_wp2
    go_ret
    exact ⟨_, rfl, World.ownsRow_nil _ _ _ _, Below.refl _ _⟩
  · clear ha
    go_enter Try.func64, Try.ntmps64
    go_wp2_with (at_builtin; refine wp_appE rfl _ _ rfl w.heap.size _ [] xs n _ cap HN.out rfl (ownE_made0 w) rfl (hx.below (al (Below.refl _ _) _)) (fun h => by cases h) (by simpa using hl) (by simp) ?_; intro v2 w2 hown2 hg2)
    go_ret
    refine ⟨_, rfl, hown2, ?_⟩
    exact (al (Below.refl _ w) _).grown hg2 (by simp) (fun k hk => (World.ownsRow.lt (ownE_made0 w) k hk).1)
end Go.Proofs.Ytibolgpaolnheaa.Str
