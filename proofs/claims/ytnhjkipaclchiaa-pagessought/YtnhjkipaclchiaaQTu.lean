import Derived.Test.YtnhjkipaclchiaaQBk3
namespace Go.Proofs.Ytnhjkipaclchiaa
set_option linter.unusedVariables false
set_option linter.unusedSimpArgs false
open Go.RowKit
abbrev tOp : TypeId := 36
/-- what a turn of a script makes of a row -/
def rowTurn (kind : Int) (e : Ent) (L : List Ent) : List Ent := if kind = 1 then insL L e else if kind = 2 then delL L e.st else L
theorem rowTurn_ord {kind : Int} {e : Ent} {L : List Ent} (h : Ord L) : Ord (rowTurn kind e L) := by
  unfold rowTurn
  split
  · exact Ord.ins h e
  · split
    · exact Ord.del h e.st
    · exact h
theorem insL_len (L : List Ent) (e : Ent) : (insL L e).length ≤ L.length + 1 := by
  unfold insL
  rw [List.length_append, List.length_append]
  have h1 : (L.filter (fun x => ltS x.st e.st)).length + (L.filter (fun x => ltS e.st x.st)).length ≤ L.length := by
    induction L with
    | nil => simp
    | cons y l ih =>
      rw [List.filter_cons, List.filter_cons, List.length_cons]
      cases h1 : ltS y.st e.st <;> cases h2 : ltS e.st y.st <;> simp <;> first | omega | (rw [ltS_asymm h1] at h2; cases h2)
  simp
  omega
theorem rowTurn_len (kind : Int) (e : Ent) (L : List Ent) : (rowTurn kind e L).length ≤ L.length + 1 := by
  unfold rowTurn
  split
  · exact insL_len L e
  · split
    · have := delL_len L e.st; omega
    · omega
/-- what a turn makes of the pages -/
structure TurnIs (S : Nat) (kind : Int) (e : Ent) (P P' : List (List Ent)) : Prop where
  tid : Tid S P'
  flat : P'.flatten = rowTurn kind e P.flatten
  half : kind ≠ 2 → Half S P → Half S P'
  len : P'.length ≤ P.length + 1
theorem putP_len {S : Nat} {P : List (List Ent)} {p i : Nat} {ok : Bool} {e : Ent} (h : PlaceIs P e.st p i ok) (hS : 1 ≤ S) : (putP S P p i ok e).length ≤ P.length + 1 := by
  by_cases hne : P = []
  · obtain ⟨rfl, rfl, rfl⟩ := h.nil hne
    subst hne
    rw [putP_nil S hS]
    simp
  · have hp := h.lt hne
    unfold putP
    split <;> (rw [repL_len (by omega)]; simp; omega)
theorem delL_no {P : List (List Ent)} {s : St} {p i : Nat} (h : PlaceIs P s p i false) (hsp : SP P) : delL P.flatten s = P.flatten := by
  by_cases hne : P = []
  · subst hne; rfl
  · obtain ⟨-, -, hc⟩ := h.cut hsp (h.lt hne)
    rw [hc.del]
    exact (hc.eq.trans (by simp)).symm
theorem remP_len {S : Nat} {P : List (List Ent)} {p i : Nat} (hp : p < P.length) : (remP S P p i).length ≤ P.length := by
  unfold remP
  split
  · rw [repL_len (by omega)]; simp; omega
  · split
    · rename_i h9; rw [repL_len (by omega)]; simp; omega
    · split
      · rename_i h9; rw [repL_len (by omega)]; simp; omega
      · rw [repL_len (by omega)]; simp; omega
theorem TurnIs.put {S : Nat} {P : List (List Ent)} {p i : Nat} {ok : Bool} {e : Ent} (h : PlaceIs P e.st p i ok) (ht : Tid S P) (hS : 1 ≤ S) : TurnIs S 1 e P (putP S P p i ok e) :=
  ⟨putP_tid h ht hS, by rw [putP_flat h ht.1 hS]; rfl, fun _ hh => putP_half h ht hS hh, putP_len h hS⟩
theorem TurnIs.rem {S : Nat} {P : List (List Ent)} {p i : Nat} {ok : Bool} {e : Ent} (h : PlaceIs P e.st p i ok) (ht : Tid S P) : TurnIs S 2 e P (if ok then remP S P p i else P) := by
  cases ok
  · exact ⟨ht, (delL_no h ht.1).symm, fun h9 => absurd rfl h9, Nat.le_succ _⟩
  · have hne : P ≠ [] := fun e => by have := h.nil e; simp at this
    refine ⟨remP_tid h ht, remP_flat h ht.1, fun h9 => absurd rfl h9, ?_⟩
    have := remP_len (S := S) (i := i) (h.lt hne)
    simp only [if_true]
    omega
theorem TurnIs.none {S : Nat} {P : List (List Ent)} {kind : Int} {e : Ent} (ht : Tid S P) (h1 : kind ≠ 1) (h2 : kind ≠ 2) : TurnIs S kind e P P :=
  ⟨ht, by unfold rowTurn; rw [if_neg h1, if_neg h2], fun _ h => h, Nat.le_succ _⟩
variable {w w' : World} {g S : Nat} {P : List (List Ent)} {v : Value} {vs : List Value}
theorem Chg.old {F : Nat → Prop} (h : Chg F w w') {b : Nat} {o : Obj} (hb : w.heap[b]? = some o) (hF : ¬ F b) : w'.heap[b]? = some o := (h.block b (Array.getElem?_eq_some_iff.1 hb).1 hF).trans hb
theorem IdxAt.lt (h : IdxAt w g S P v vs) (b : Nat) (hb : foot g v b) : b < w.heap.size := by
  rcases hb with rfl | hb
  · exact (Array.getElem?_eq_some_iff.1 h.hd).1
  · exact (World.ownsRow.lt h.row b hb).2
section
set_option maxRecDepth 20000
set_option maxHeartbeats 3200000
theorem turns_t (h : IdxAt w g S P v vs) (ht : Tid S P) (hS : 1 ≤ S ∧ S ≤ 64) (hPl : P.length ≤ 4398046511104) (vb : Value) (L : List Ent) (hb : OwnB w 0 vb L) (ho : Ord L) (hL : L.length ≤ 4398046511104) (kind : Int) (s1 s2 n : Nat) :
    Calls Try.prog 26 #[.pointer (some ⟨g, 0, none⟩), vb, .agg #[.int .i64 kind, .int .u64 (s1 : Int), .int .u64 (s2 : Int), .int .u64 (n : Int)]] w fun e w' => ∃ vb' v' vs' P', e = .returned vb' ∧ IdxAt w' g S P' v' vs' ∧ TurnIs S kind (mkE (s1, s2) n) P P' ∧ OwnB w' 0 vb' (rowTurn kind (mkE (s1, s2) n) L) ∧ Lies w v v' ∧ Chg (foot g v) w w' := by
  obtain ⟨w0, hw0⟩ : ∃ X : World, X = w.alloc (.cells #[.int .i64 kind, .int .u64 (s1 : Int), .int .u64 (s2 : Int), .int .u64 (n : Int)] tOp) := ⟨_, rfl⟩
  have hb0 : Below w.heap.size w w0 := by rw [hw0]; exact al (Below.refl _ _) _
  have hbx : w0.heap[w.heap.size]? = some (.cells #[.int .i64 kind, .int .u64 (s1 : Int), .int .u64 (s2 : Int), .int .u64 (n : Int)] tOp (0, 0)) := by rw [hw0]; exact heap_alloc_new w _
  have HI0 : Hid (IdxAt w0 g S P v vs) := h.below hb0
  have HOB0 : Hid (OwnB w0 0 vb L) := hb.below hb0
  have HNF : Hid (¬ foot g v w.heap.size) := fun h9 => Nat.lt_irrefl _ (h.lt _ h9)
  have HB0 : Hid (Below w.heap.size w w0) := hb0
  have HBX : Hid (w0.heap[w.heap.size]? = some (.cells #[.int .i64 kind, .int .u64 (s1 : Int), .int .u64 (s2 : Int), .int .u64 (n : Int)] tOp (0, 0))) := hbx
  have HCE : Hid (∀ u : World, u.heap[w.heap.size]? = some (.cells #[.int .i64 kind, .int .u64 (s1 : Int), .int .u64 (s2 : Int), .int .u64 (n : Int)] tOp (0, 0)) → u.rangeAt w.heap.size 1 (sc (s1, s2))) := fun u hu j x hj => by
    rw [cell_of_row _ _ _ _ _ _ hu]
    match j, hj with
    | 0, hj => cases hj; rfl
    | 1, hj => cases hj; rfl
    | j + 2, hj => simp at hj
  have hc00 : w0.cell? ⟨w.heap.size, 0, none⟩ = some (.int .i64 kind) := by rw [cell_of_row _ _ _ _ _ _ hbx]; rfl
  have hc03 : w0.cell? ⟨w.heap.size, 3, none⟩ = some (.int .u64 (n : Int)) := by rw [cell_of_row _ _ _ _ _ _ hbx]; rfl
  have HSL : Hid (∀ b : Nat, w0.heap.size ≤ b → w.heap.size ≤ b) := fun b h9 => Nat.le_trans hb0.size h9
  clear h hb hb0 hbx
  by_cases h1 : kind = 1
  · subst h1
    go_enter Try.func26, Try.ntmps26
    go_wp2_with (first | (rw [← hw0]; refine wpList_load_mid rfl tSt _ rfl w.heap.size 1 rfl (sc (s1, s2)) _ (HCE.out _ HBX.out) Try.underlying34 rfl info_st ?_))
    rw [← hw0]
    refine Calls.mono (put_t HI0.out ht hS hPl s1 s2 n) ?_
    rintro e w1 ⟨p, i, ok, v1, vs1, hpl, rfl, hi1, hlies, hch⟩
    have HBX1 : Hid (w1.heap[w.heap.size]? = some (.cells #[.int .i64 1, .int .u64 (s1 : Int), .int .u64 (s2 : Int), .int .u64 (n : Int)] tOp (0, 0))) := hch.old HBX.out HNF.out
    have hc13 : w1.cell? ⟨w.heap.size, 3, none⟩ = some (.int .u64 (n : Int)) := by rw [cell_of_row _ _ _ _ _ _ HBX1.out]; rfl
    have HOB1 : Hid (OwnB w1 0 vb L) := OwnB.kept HOB0.out HI0.out hch
    have HI1 : Hid (IdxAt w1 g S (putP S P p i ok (mkE (s1, s2) n)) v1 vs1) := hi1
    have HTU : Hid (TurnIs S 1 (mkE (s1, s2) n) P (putP S P p i ok (mkE (s1, s2) n))) := TurnIs.put hpl ht hS.1
    have HLI : Hid (Lies w v v1) := hlies.imp id (fun ⟨b, h8, h9⟩ => ⟨b, h8, HSL.out b h9⟩)
    have HCH : Hid (Chg (foot g v) w w1) := (Chg.of_below HB0.out).trans hch (fun i hi => .inl hi)
    clear hi1 hch hlies hpl hc00 hc03
    go_wp2_with (first | (refine wpList_load_mid rfl tSt _ rfl w.heap.size 1 rfl (sc (s1, s2)) _ (HCE.out _ HBX1.out) Try.underlying34 rfl info_st ?_))
    refine Calls.mono (bput_t vb L w1 HOB1.out ho s1 s2 n hL) ?_
    rintro e w2 ⟨vb2, rfl, hob2, hb2⟩
    have HOB2 : Hid (OwnB w2 0 vb2 (insL L (mkE (s1, s2) n))) := hob2.low
    have HB2 : Hid (Below w1.heap.size w1 w2) := hb2
    clear hob2 hb2
    go_wp2
    go_ret
    exact ⟨vb2, v1, vs1, _, rfl, HI1.out.below HB2.out, HTU.out, HOB2.out, HLI.out, HCH.out.trans (Chg.of_below (F := foot g v) HB2.out) (fun i hi => .inl hi)⟩
  · have h1b : (kind == 1) = false := by simpa using h1
    by_cases h2 : kind = 2
    · subst h2
      go_enter Try.func26, Try.ntmps26
      go_wp2_with (first | (rw [← hw0]; refine wpList_load_mid rfl tSt _ rfl w.heap.size 1 rfl (sc (s1, s2)) _ (HCE.out _ HBX.out) Try.underlying34 rfl info_st ?_))
      rw [← hw0]
      refine Calls.mono (remove_t HI0.out ht hS hPl s1 s2) ?_
      rintro e w1 ⟨p, i, ok, nv, v1, vs1, hpl, rfl, -, -, hi1, hob, hch⟩
      have HBX1 : Hid (w1.heap[w.heap.size]? = some (.cells #[.int .i64 2, .int .u64 (s1 : Int), .int .u64 (s2 : Int), .int .u64 (n : Int)] tOp (0, 0))) := hch.old HBX.out HNF.out
      have HOB1 : Hid (OwnB w1 0 vb L) := OwnB.kept HOB0.out HI0.out hch
      have HI1 : Hid (IdxAt w1 g S (if ok then remP S P p i else P) v1 vs1) := hi1
      have HTU : Hid (TurnIs S 2 (mkE (s1, s2) n) P (if ok then remP S P p i else P)) := TurnIs.rem (e := mkE (s1, s2) n) hpl ht
      have HLI : Hid (Lies w v v1) := .inl hob
      have HCH : Hid (Chg (foot g v) w w1) := (Chg.of_below HB0.out).trans hch (fun i hi => .inl hi)
      clear hi1 hch hob hpl hc00 hc03
      go_wp2_with (first | (refine wpList_load_mid rfl tSt _ rfl w.heap.size 1 rfl (sc (s1, s2)) _ (HCE.out _ HBX1.out) Try.underlying34 rfl info_st ?_))
      refine Calls.mono (bremove_t vb L w1 HOB1.out s1 s2 hL) ?_
      rintro e w2 ⟨vb2, rfl, hob2, hb2⟩
      have HOB2 : Hid (OwnB w2 0 vb2 (delL L (s1, s2))) := hob2.low
      have HB2 : Hid (Below w1.heap.size w1 w2) := hb2
      clear hob2 hb2
      go_wp2
      go_ret
      exact ⟨vb2, v1, vs1, _, rfl, HI1.out.below HB2.out, HTU.out, HOB2.out, HLI.out, HCH.out.trans (Chg.of_below (F := foot g v) HB2.out) (fun i hi => .inl hi)⟩
    · have h2b : (kind == 2) = false := by simpa using h2
      go_enter Try.func26, Try.ntmps26
      go_wp2_with fail
      go_ret
      rw [← hw0]
      refine ⟨vb, v, vs, P, rfl, HI0.out, TurnIs.none ht h1 h2, ?_, .inl rfl, Chg.of_below HB0.out⟩
      unfold rowTurn
      rw [if_neg h1, if_neg h2]
      exact HOB0.out
end
end Go.Proofs.Ytnhjkipaclchiaa
