import Derived.Test.YtibolgpaolnheaaNZ
namespace Go.Proofs.Ytibolgpaolnheaa
set_option linter.unusedVariables false
set_option linter.unusedSimpArgs false
open Go.RowKit
theorem flat_geB {P : List (List Ent)} (h : ∀ p ∈ P, 0 < p.length) : P.length ≤ P.flatten.length := by
  induction P with
  | nil => exact Nat.le_refl _
  | cons a l ih =>
    have h1 := h a (List.mem_cons_self ..)
    have h2 := ih (fun p hp => h p (List.mem_cons_of_mem _ hp))
    simp only [List.flatten_cons, List.length_append, List.length_cons]
    omega
variable {w w' : World} {g r S : Nat} {P P2 : List (List Ent)} {v v2 : Value} {vs vs2 : List Value}
theorem tyB {b : Nat} {c1 c2 : Array Value} {t1 t2 : TypeId} {f1 f2 : Nat × Nat} (h1 : w.heap[b]? = some (.cells c1 t1 f1)) (h2 : w.heap[b]? = some (.cells c2 t2 f2)) : t1 = t2 := by
  rw [h1] at h2
  injection h2 with h2
  injection h2
theorem IdxAt.tyB (h : IdxAt w g S P v vs) (b : Nat) (hb : foot g v b) : ∃ cur t, w.heap[b]? = some (.cells cur t (0, 0)) ∧ (t = tIx ∨ t = tPg) := by
  rcases hb with rfl | hb
  · exact ⟨_, _, h.hd, .inl rfl⟩
  · obtain ⟨cur, hc⟩ := h.rowBlk b hb; exact ⟨_, _, hc, .inr rfl⟩
theorem strIdx_tyB (h : Str.IdxAt w g S P v vs) (b : Nat) (hb : foot g v b) : ∃ cur t, w.heap[b]? = some (.cells cur t (0, 0)) ∧ (t = Str.tIx ∨ t = Str.tPg) := by
  rcases hb with rfl | hb
  · exact ⟨_, _, h.hd, .inl rfl⟩
  · obtain ⟨cur, hc⟩ := h.rowBlk b hb; exact ⟨_, _, hc, .inr rfl⟩
theorem blind_apart {S2 : Nat} (hi : IdxAt w g S P v vs) (hr : Str.IdxAt w r S2 P2 v2 vs2) (b : Nat) (h1 : foot g v b) (h2 : foot r v2 b) : False := by
  obtain ⟨c1, t1, e1, ht1⟩ := hi.tyB b h1
  obtain ⟨c2, t2, e2, ht2⟩ := strIdx_tyB hr b h2
  have e := tyB e1 e2
  subst e
  rcases ht1 with rfl | rfl <;> rcases ht2 with h9 | h9 <;> exact absurd h9 (by decide)
theorem strIdx_chgU {S2 : Nat} (hr : Str.IdxAt w r S2 P2 v2 vs2) (hi : IdxAt w g S P v vs) (hc : Chg (foot g v) w w') : Str.IdxAt w' r S2 P2 v2 vs2 :=
  hr.kept hc (fun b h1 h2 => blind_apart hi hr b h2 h1) (fun b h2 => by
    obtain ⟨c2, t2, e2, ht2⟩ := hi.tyB b h2
    exact ⟨_, _, _, e2, by rcases ht2 with h9 | h9 <;> rw [h9] <;> decide⟩)
theorem IdxAt.chgS {S2 : Nat} (hi : IdxAt w g S P v vs) (hr : Str.IdxAt w r S2 P2 v2 vs2) (hc : Chg (foot r v2) w w') : IdxAt w' g S P v vs :=
  hi.kept hc (fun b h1 h2 => blind_apart hi hr b h1 h2) (fun b h2 => by
    obtain ⟨c2, t2, e2, ht2⟩ := strIdx_tyB hr b h2
    exact ⟨_, _, _, e2, by rcases ht2 with h9 | h9 <;> rw [h9] <;> decide⟩)
/-- an index of numbers and one of texts, both there or both not, with the same pages -/
def Twn (B : Nat) (u : World) (x y : Value) (F : Nat → Prop) (k : Nat) : Prop :=
  (x = .pointer none ∧ y = .pointer none ∧ F = fun _ => False) ∨
  ∃ (g S : Nat) (P : List (List Ent)) (v : Value) (vs : List Value) (r : Nat) (v2 : Value) (vs2 : List Value), x = .pointer (some ⟨g, 0, none⟩) ∧ y = .pointer (some ⟨r, 0, none⟩) ∧ (4 ≤ S ∧ S ≤ 64) ∧ IdxAt u g S P v vs ∧ Str.IdxAt u r S P v2 vs2 ∧ Tid S P ∧ P.flatten.length ≤ k ∧ (F = fun b => foot g v b ∨ foot r v2 b) ∧ ∀ b, F b → B ≤ b
variable {B k : Nat} {u u' : World} {x y : Value} {F : Nat → Prop}
theorem Twn.ge (h : Twn B u x y F k) (b : Nat) (hb : F b) : B ≤ b := by
  rcases h with ⟨-, -, rfl⟩ | ⟨g, S, P, v, vs, r, v2, vs2, -, -, -, -, -, -, -, -, h9⟩
  · exact hb.elim
  · exact h9 b hb
theorem Twn.lt (h : Twn B u x y F k) (b : Nat) (hb : F b) : b < u.heap.size := by
  rcases h with ⟨-, -, rfl⟩ | ⟨g, S, P, v, vs, r, v2, vs2, -, -, -, h4, h5, -, -, rfl, -⟩
  · exact hb.elim
  · rcases hb with hb | hb
    · exact h4.lt b hb
    · obtain ⟨c2, t2, e2, -⟩ := strIdx_tyB h5 b hb
      exact (Array.getElem?_eq_some_iff.1 e2).1
theorem Twn.below (h : Twn B u x y F k) (hb : Below u.heap.size u u') : Twn B u' x y F k := by
  rcases h with h | ⟨g, S, P, v, vs, r, v2, vs2, h1, h2, h3, h4, h5, h6⟩
  · exact .inl h
  · exact .inr ⟨g, S, P, v, vs, r, v2, vs2, h1, h2, h3, h4.below hb, h5.below hb, h6⟩
theorem Twn.mono (h : Twn B u x y F k) {k' : Nat} (hk : k ≤ k') : Twn B u x y F k' := by
  rcases h with h | ⟨g, S, P, v, vs, r, v2, vs2, h1, h2, h3, h4, h5, h6, h7, h8⟩
  · exact .inl h
  · exact .inr ⟨g, S, P, v, vs, r, v2, vs2, h1, h2, h3, h4, h5, h6, Nat.le_trans h7 hk, h8⟩
theorem lies_foot {a b' : Value} (h : Lies w a b') {g : Nat} (z : Nat) (hz : z ≤ w.heap.size) (b : Nat) (hb : foot g b' b) : foot g a b ∨ z ≤ b := by
  rcases hb with rfl | hb
  · exact .inl (.inl rfl)
  · rcases h with e9 | ⟨b9, e8, e9⟩
    · exact .inl (.inr (by rw [← e9]; exact hb))
    · rw [hb] at e8; cases e8; exact .inr (Nat.le_trans hz e9)
/-- Put on both -/
theorem tput (h : Twn B u x y F k) (hk : k ≤ 4398046511104) (hB : B ≤ u.heap.size) (s1 s2 n : Nat) :
    Calls Try.prog 13 #[x, sv (s1, s2), .int .u64 (n : Int)] u fun e u1 => ∃ ok, e = .returned (.bool ok) ∧ Chg F u u1 ∧
      Calls Try.prog 14 #[y, sv (s1, s2), Str.tw n] u1 fun e u2 => e = .returned (.bool ok) ∧ Chg F u u2 ∧ ∃ F', Twn B u2 x y F' (k + 1) := by
  rcases h with ⟨rfl, rfl, rfl⟩ | ⟨g, S, P, v, vs, r, v2, vs2, rfl, rfl, h3, h4, h5, h6, h7, rfl, h9⟩
  · refine Calls.mono (put_nilU (s1, s2) _ u) ?_
    rintro e u1 ⟨rfl, hb1⟩
    refine ⟨_, rfl, Chg.of_below hb1, ?_⟩
    refine Calls.mono (put_nilS (s1, s2) _ u1) ?_
    rintro e u2 ⟨rfl, hb2⟩
    exact ⟨rfl, Chg.of_below (below_next hb1 hb2), _, .inl ⟨rfl, rfl, rfl⟩⟩
  · have hPl : P.length ≤ 4398046511104 := Nat.le_trans (Nat.le_trans (flat_geB h6.1.1) h7) hk
    refine Calls.mono (put_t h4 h6 ⟨by omega, h3.2⟩ hPl s1 s2 n) ?_
    rintro e u1 ⟨p, i, ok, v4, vs4, hpi, rfl, hi4, hli, hch⟩
    have hr4 := strIdx_chgU h5 h4 hch
    refine ⟨_, rfl, hch.mono (fun b hb => .inl hb), ?_⟩
    refine Calls.mono (Str.put_t hr4 h6 ⟨by omega, h3.2⟩ hPl s1 s2 n) ?_
    rintro e u2 ⟨p', i', ok', v5, vs5, hpi', rfl, hr5, hli5, hch5⟩
    obtain ⟨rfl, rfl, rfl⟩ := hpi.uniq hpi'
    have htn := TurnIs.put (e := ⟨(s1, s2), n⟩) hpi h6 (by omega)
    refine ⟨rfl, (hch.mono (fun b hb => .inl hb)).trans (hch5.mono (fun b hb => .inr hb)) (fun b hb => .inl hb), _, .inr ⟨g, S, _, v4, vs4, r, v5, vs5, rfl, rfl, h3, hi4.chgS hr4 hch5, hr5, htn.tid, ?_, rfl, ?_⟩⟩
    · rw [htn.flat]
      have e9 := rowTurn_len 1 ⟨(s1, s2), n⟩ P.flatten
      omega
    · rintro b (hb | hb)
      · rcases lies_foot hli B hB b hb with e9 | e9
        · exact h9 b (.inl e9)
        · exact e9
      · rcases lies_foot hli5 B (Nat.le_trans hB hch.size) b hb with e9 | e9
        · exact h9 b (.inr e9)
        · exact e9
/-- Remove on both -/
theorem trem (h : Twn B u x y F k) (hk : k ≤ 4398046511104) (hB : B ≤ u.heap.size) (s1 s2 : Nat) :
    Calls Try.prog 15 #[x, sv (s1, s2)] u fun e u1 => ∃ vv ok, e = .returned (.tuple #[vv, .bool ok]) ∧ Chg F u u1 ∧
      Calls Try.prog 16 #[y, sv (s1, s2)] u1 fun e u2 => ∃ ww, e = .returned (.tuple #[ww, .bool ok]) ∧ Chg F u u2 ∧ ∃ F', Twn B u2 x y F' k := by
  rcases h with ⟨rfl, rfl, rfl⟩ | ⟨g, S, P, v, vs, r, v2, vs2, rfl, rfl, h3, h4, h5, h6, h7, rfl, h9⟩
  · refine Calls.mono (remove_nilU s1 s2 u) ?_
    rintro e u1 ⟨vv, rfl, hb1⟩
    refine ⟨_, _, rfl, Chg.of_below hb1, ?_⟩
    refine Calls.mono (remove_nilS s1 s2 u1) ?_
    rintro e u2 ⟨ww, rfl, hb2⟩
    exact ⟨_, rfl, Chg.of_below (below_next hb1 hb2), _, .inl ⟨rfl, rfl, rfl⟩⟩
  · have hPl : P.length ≤ 4398046511104 := Nat.le_trans (Nat.le_trans (flat_geB h6.1.1) h7) hk
    refine Calls.mono (remove_t h4 h6 ⟨by omega, h3.2⟩ hPl s1 s2) ?_
    rintro e u1 ⟨p, i, ok, nv, v4, vs4, hpi, rfl, -, -, hi4, hob, hch⟩
    have hr4 := strIdx_chgU h5 h4 hch
    refine ⟨_, _, rfl, hch.mono (fun b hb => .inl hb), ?_⟩
    refine Calls.mono (Str.remove_t hr4 h6 ⟨by omega, h3.2⟩ hPl s1 s2) ?_
    rintro e u2 ⟨p', i', ok', vv, v5, vs5, hpi', rfl, hr5, hob5, hch5⟩
    obtain ⟨rfl, rfl, rfl⟩ := hpi.uniq hpi'
    have htn := TurnIs.rem (e := ⟨(s1, s2), 0⟩) hpi h6
    refine ⟨_, rfl, (hch.mono (fun b hb => .inl hb)).trans (hch5.mono (fun b hb => .inr hb)) (fun b hb => .inl hb), _, .inr ⟨g, S, _, v4, vs4, r, v5, vs5, rfl, rfl, h3, hi4.chgS hr4 hch5, hr5, htn.tid, ?_, rfl, ?_⟩⟩
    · rw [htn.flat]
      have h8 : (delL P.flatten (s1, s2)).length ≤ P.flatten.length := List.length_filter_le _ _
      have e9 : rowTurn 2 ⟨(s1, s2), 0⟩ P.flatten = delL P.flatten (s1, s2) := rfl
      rw [e9]
      omega
    · rintro b ((rfl | hb) | (rfl | hb))
      · exact h9 _ (.inl (.inl rfl))
      · exact h9 b (.inl (.inr (by rw [← hob]; exact hb)))
      · exact h9 _ (.inr (.inl rfl))
      · exact h9 b (.inr (.inr (by rw [← hob5]; exact hb)))
/-- Get on both -/
theorem tget (h : Twn B u x y F k) (hk : k ≤ 4398046511104) (s1 s2 : Nat) :
    Calls Try.prog 17 #[x, sv (s1, s2)] u fun e u1 => ∃ (n : Nat) (ok : Bool), e = .returned (.tuple #[.int .u64 (n : Int), .bool ok]) ∧ Below u.heap.size u u1 ∧
      Calls Try.prog 18 #[y, sv (s1, s2)] u1 fun e u2 => e = .returned (.tuple #[if ok then Str.tw n else .string ⟨#[]⟩, .bool ok]) ∧ Below u1.heap.size u1 u2 := by
  rcases h with ⟨rfl, rfl, rfl⟩ | ⟨g, S, P, v, vs, r, v2, vs2, rfl, rfl, h3, h4, h5, h6, h7, rfl, h9⟩
  · refine Calls.mono (get_t (.pointer none) none 0 0 [] s1 s2 u (.inl ⟨rfl, rfl, rfl, rfl⟩) rfl (fun j hj => absurd hj (Nat.not_lt_zero _)) spNil (by decide) (fun p hp => by cases hp)) ?_
    rintro e u1 ⟨p, i, ok, nv, rfl, hp, h0, -, hb⟩
    obtain ⟨rfl, rfl, rfl⟩ := hp.nil rfl
    refine ⟨_, _, rfl, hb, ?_⟩
    refine Calls.mono (Str.get_t (.pointer none) none 0 0 [] s1 s2 u1 (.inl ⟨rfl, rfl, rfl, rfl⟩) rfl (fun j hj => absurd hj (Nat.not_lt_zero _)) spNil (by decide) (fun p hp => by cases hp)) ?_
    rintro e u2 ⟨p, i, ok, vv, nv2, rfl, hp, h0, -, hb⟩
    obtain ⟨rfl, rfl, rfl⟩ := hp.nil rfl
    rw [h0 rfl]
    exact ⟨rfl, hb⟩
  · have hPl : P.length ≤ 4398046511104 := Nat.le_trans (Nat.le_trans (flat_geB h6.1.1) h7) hk
    have hlp : ∀ q ∈ P, q.length ≤ 100 := fun q hq => by have := h6.2 q hq; omega
    obtain ⟨pa, cap, hv, hcap, hnil, hrd, hpg⟩ := h4.rd
    refine Calls.mono (get_t (.pointer (some ⟨g, 0, none⟩)) pa P.length cap P s1 s2 u hpg rfl hrd h6.1 hPl hlp) ?_
    rintro e u1 ⟨p, i, ok, nv, rfl, hpi, h0, h1, hb⟩
    obtain ⟨pa2, cap2, hv2, hcap2, hnil2, hrd2, hpg2⟩ := (h5.below hb).rd
    refine ⟨_, _, rfl, hb, ?_⟩
    refine Calls.mono (Str.get_t (.pointer (some ⟨r, 0, none⟩)) pa2 P.length cap2 P s1 s2 u1 hpg2 rfl hrd2 h6.1 hPl hlp) ?_
    rintro e u2 ⟨p', i', ok', vv, nv2, rfl, hpi', k0, k1, hb2⟩
    obtain ⟨rfl, rfl, rfl⟩ := hpi.uniq hpi'
    cases ok
    · rw [k0 rfl]; exact ⟨rfl, hb2⟩
    · obtain ⟨_, e1⟩ := h1 rfl
      obtain ⟨e3, _, e2⟩ := k1 rfl
      rw [e3, e2, ← e1]
      exact ⟨rfl, hb2⟩
/-- Place on both -/
theorem tplace (h : Twn B u x y F k) (hk : k ≤ 4398046511104) (s1 s2 : Nat) :
    Calls Try.prog 19 #[x, sv (s1, s2)] u fun e u1 => ∃ (p i : Nat) (ok : Bool), e = .returned (.tuple #[.int .i64 (p : Int), .int .i64 (i : Int), .bool ok]) ∧ Below u.heap.size u u1 ∧
      Calls Try.prog 20 #[y, sv (s1, s2)] u1 fun e u2 => e = .returned (.tuple #[.int .i64 (p : Int), .int .i64 (i : Int), .bool ok]) ∧ Below u1.heap.size u1 u2 := by
  rcases h with ⟨rfl, rfl, rfl⟩ | ⟨g, S, P, v, vs, r, v2, vs2, rfl, rfl, h3, h4, h5, h6, h7, rfl, h9⟩
  · refine Calls.mono (place_nilU (s1, s2) u) ?_
    rintro e u1 ⟨rfl, hb⟩
    exact ⟨0, 0, false, rfl, hb, place_nilS (s1, s2) u1⟩
  · have hPl : P.length ≤ 4398046511104 := Nat.le_trans (Nat.le_trans (flat_geB h6.1.1) h7) hk
    have hlp : ∀ q ∈ P, q.length ≤ 100 := fun q hq => by have := h6.2 q hq; omega
    obtain ⟨pa, cap, hv, hcap, hnil, hrd, hpg⟩ := h4.rd
    refine Calls.mono (place_t (.pointer (some ⟨g, 0, none⟩)) pa P.length cap P (s1, s2) u hpg rfl hrd h6.1 hPl hlp) ?_
    rintro e u1 ⟨p, i, ok, rfl, hpi, hb⟩
    obtain ⟨pa2, cap2, hv2, hcap2, hnil2, hrd2, hpg2⟩ := (h5.below hb).rd
    refine ⟨_, _, _, rfl, hb, ?_⟩
    refine Calls.mono (Str.place_t (.pointer (some ⟨r, 0, none⟩)) pa2 P.length cap2 P (s1, s2) u1 hpg2 rfl hrd2 h6.1 hPl hlp) ?_
    rintro e u2 ⟨p', i', ok', rfl, hpi', hb2⟩
    obtain ⟨rfl, rfl, rfl⟩ := hpi.uniq hpi'
    exact ⟨rfl, hb2⟩
/-- Pages and Len of both -/
theorem tpages (h : Twn B u x y F k) (hk : k ≤ 4398046511104) : ∃ (P : List (List Ent)), P.length ≤ 4398046511104 ∧
    (∀ w, Below u.heap.size u w → Calls Try.prog 21 #[x] w fun e w' => ∃ v, e = .returned v ∧ w'.ownsRow w.heap.size 3 1 v P.length (cnt P) ∧ Below w.heap.size w w') ∧
    (∀ w, Below u.heap.size u w → Calls Try.prog 22 #[y] w fun e w' => ∃ v, e = .returned v ∧ w'.ownsRow w.heap.size 3 1 v P.length (cnt P) ∧ Below w.heap.size w w') ∧
    (∀ w, Below u.heap.size u w → Calls Try.prog 23 #[x] w fun e w' => e = .returned (.int .i64 (P.flatten.length : Int)) ∧ w' = w) ∧
    (∀ w, Below u.heap.size u w → Calls Try.prog 24 #[y] w fun e w' => e = .returned (.int .i64 (P.flatten.length : Int)) ∧ w' = w) := by
  rcases h with ⟨rfl, rfl, rfl⟩ | ⟨g, S, P, v, vs, r, v2, vs2, rfl, rfl, h3, h4, h5, h6, h7, rfl, h9⟩
  · refine ⟨[], by decide, fun w _ => ?_, fun w _ => ?_, fun w _ => ?_, fun w _ => ?_⟩
    · exact pages_t (.pointer none) none 0 0 [] w (.inl ⟨rfl, rfl, rfl, rfl⟩) rfl (fun j hj => by simp at hj) (by decide)
    · exact Str.pages_t (.pointer none) none 0 0 [] w (.inl ⟨rfl, rfl, rfl, rfl⟩) rfl (fun j hj => by simp at hj) (by decide)
    · exact len_t (.pointer none) none 0 0 [] w (.inl ⟨rfl, rfl, rfl, rfl⟩) rfl (fun j hj => by simp at hj) (by decide) (fun p hp => by cases hp)
    · exact Str.len_t (.pointer none) none 0 0 [] w (.inl ⟨rfl, rfl, rfl, rfl⟩) rfl (fun j hj => by simp at hj) (by decide) (fun p hp => by cases hp)
  · have hPl : P.length ≤ 4398046511104 := Nat.le_trans (Nat.le_trans (flat_geB h6.1.1) h7) hk
    have hlp : ∀ q ∈ P, q.length ≤ 100 := fun q hq => by have := h6.2 q hq; omega
    refine ⟨P, hPl, fun w hw => ?_, fun w hw => ?_, fun w hw => ?_, fun w hw => ?_⟩
    · obtain ⟨pa, cap, hv, hcap, hnil, hrd, hpg⟩ := (h4.below hw).rd
      exact pages_t (.pointer (some ⟨g, 0, none⟩)) pa P.length cap P w hpg rfl hrd hPl
    · obtain ⟨pa, cap, hv, hcap, hnil, hrd, hpg⟩ := (h5.below hw).rd
      exact Str.pages_t (.pointer (some ⟨r, 0, none⟩)) pa P.length cap P w hpg rfl hrd hPl
    · obtain ⟨pa, cap, hv, hcap, hnil, hrd, hpg⟩ := (h4.below hw).rd
      exact len_t (.pointer (some ⟨g, 0, none⟩)) pa P.length cap P w hpg rfl hrd hPl hlp
    · obtain ⟨pa, cap, hv, hcap, hnil, hrd, hpg⟩ := (h5.below hw).rd
      exact Str.len_t (.pointer (some ⟨r, 0, none⟩)) pa P.length cap P w hpg rfl hrd hPl hlp
end Go.Proofs.Ytibolgpaolnheaa
