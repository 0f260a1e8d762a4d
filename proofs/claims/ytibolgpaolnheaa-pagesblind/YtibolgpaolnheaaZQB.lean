import Derived.Test.YtibolgpaolnheaaQRm
import Derived.Test.YtibolgpaolnheaaQS
import Derived.Deep.MidRow
import Derived.Deep.WholeRow
import Derived.Laws.CopyOwn
import Derived.OwnWalk
import Derived.Laws.MakeOwn
import Derived.Deep.AppendLies
import Derived.Laws.AppendOwnNone
namespace Go.Proofs.Ytibolgpaolnheaa
set_option linter.unusedVariables false
set_option linter.unusedSimpArgs false
open Go.RowKit
abbrev tOp : TypeId := 36
/-- what a turn of a script makes of a row -/
def rowTurn (kind : Int) (e : Ent) (L : List Ent) : List Ent := if kind = 1 then insL L e else if kind = 2 then delL L e.st else L
theorem rowTurn_ord {kind : Int} {e : Ent} {L : List Ent} (h : Ord L) : Ord (rowTurn kind e L) := by
  unfold rowTurn
  split
  · exact Ord.ins h e
  · split
    · exact Ord.del h e.st
    · exact h
theorem insL_len (L : List Ent) (e : Ent) : (insL L e).length ≤ L.length + 1 := by
  unfold insL
  rw [List.length_append, List.length_append]
  have h1 : (L.filter (fun x => ltS x.st e.st)).length + (L.filter (fun x => ltS e.st x.st)).length ≤ L.length := by
    induction L with
    | nil => simp
    | cons y l ih =>
      rw [List.filter_cons, List.filter_cons, List.length_cons]
      cases h1 : ltS y.st e.st <;> cases h2 : ltS e.st y.st <;> simp <;> first | omega | (rw [ltS_asymm h1] at h2; cases h2)
  simp
  omega
theorem rowTurn_len (kind : Int) (e : Ent) (L : List Ent) : (rowTurn kind e L).length ≤ L.length + 1 := by
  unfold rowTurn
  split
  · exact insL_len L e
  · split
    · have h8 : (delL L e.st).length ≤ L.length := List.length_filter_le _ _; omega
    · omega
/-- what a turn makes of the pages -/
structure TurnIs (S : Nat) (kind : Int) (e : Ent) (P P' : List (List Ent)) : Prop where
  tid : Tid S P'
  flat : P'.flatten = rowTurn kind e P.flatten
  half : kind ≠ 2 → Half S P → Half S P'
  len : P'.length ≤ P.length + 1
theorem putP_len {S : Nat} {P : List (List Ent)} {p i : Nat} {ok : Bool} {e : Ent} (h : PlaceIs P e.st p i ok) (hS : 1 ≤ S) : (putP S P p i ok e).length ≤ P.length + 1 := by
  by_cases hne : P = []
  · obtain ⟨rfl, rfl, rfl⟩ := h.nil hne
    subst hne
    rw [putP_nil S hS]
    simp
  · have hp := h.lt hne
    unfold putP
    split <;> (rw [repL_len (by omega)]; simp; omega)
theorem delL_no {P : List (List Ent)} {s : St} {p i : Nat} (h : PlaceIs P s p i false) (hsp : SP P) : delL P.flatten s = P.flatten := by
  by_cases hne : P = []
  · subst hne; rfl
  · obtain ⟨-, -, hc⟩ := h.cut hsp (h.lt hne)
    rw [hc.del]
    exact (hc.eq.trans (by simp)).symm
theorem remP_len {S : Nat} {P : List (List Ent)} {p i : Nat} (hp : p < P.length) : (remP S P p i).length ≤ P.length := by
  unfold remP
  split
  · rw [repL_len (by omega)]; simp; omega
  · split
    · rename_i h9; rw [repL_len (by omega)]; simp; omega
    · split
      · rename_i h9; rw [repL_len (by omega)]; simp; omega
      · rw [repL_len (by omega)]; simp; omega
theorem TurnIs.put {S : Nat} {P : List (List Ent)} {p i : Nat} {ok : Bool} {e : Ent} (h : PlaceIs P e.st p i ok) (ht : Tid S P) (hS : 1 ≤ S) : TurnIs S 1 e P (putP S P p i ok e) :=
  ⟨putP_tid h ht hS, by rw [putP_flat h ht.1 hS]; rfl, fun _ hh => putP_half h ht hS hh, putP_len h hS⟩
theorem TurnIs.rem {S : Nat} {P : List (List Ent)} {p i : Nat} {ok : Bool} {e : Ent} (h : PlaceIs P e.st p i ok) (ht : Tid S P) : TurnIs S 2 e P (if ok then remP S P p i else P) := by
  cases ok
  · exact ⟨ht, (delL_no h ht.1).symm, fun h9 => absurd rfl h9, Nat.le_succ _⟩
  · have hne : P ≠ [] := fun e => by have := h.nil e; simp at this
    refine ⟨remP_tid h ht, remP_flat h ht.1, fun h9 => absurd rfl h9, ?_⟩
    have := remP_len (S := S) (i := i) (h.lt hne)
    simp only [if_true]
    omega
theorem TurnIs.none {S : Nat} {P : List (List Ent)} {kind : Int} {e : Ent} (ht : Tid S P) (h1 : kind ≠ 1) (h2 : kind ≠ 2) : TurnIs S kind e P P :=
  ⟨ht, by unfold rowTurn; rw [if_neg h1, if_neg h2], fun _ h => h, Nat.le_succ _⟩
variable {w w' : World} {g S : Nat} {P : List (List Ent)} {v : Value} {vs : List Value}
theorem Chg.old {F : Nat → Prop} (h : Chg F w w') {b : Nat} {o : Obj} (hb : w.heap[b]? = some o) (hF : ¬ F b) : w'.heap[b]? = some o := (h.block b (Array.getElem?_eq_some_iff.1 hb).1 hF).trans hb
theorem IdxAt.lt (h : IdxAt w g S P v vs) (b : Nat) (hb : foot g v b) : b < w.heap.size := by
  rcases hb with rfl | hb
  · exact (Array.getElem?_eq_some_iff.1 h.hd).1
  · exact (World.ownsRow.lt h.row b hb).2
end Go.Proofs.Ytibolgpaolnheaa
namespace Go.Proofs.Ytibolgpaolnheaa.Str
set_option linter.unusedVariables false
set_option linter.unusedSimpArgs false
open Go.RowKit
abbrev tw (n : Nat) : Value := .string ⟨#[UInt8.ofNat n]⟩
abbrev _root_.Go.Proofs.Ytibolgpaolnheaa.Ent.tv (e : Ent) : Value := .string ⟨#[UInt8.ofNat e.n]⟩
theorem Ent.ok (e : Ent) : e.tv.oneCell' = true := rfl
abbrev ev (e : Ent) : List Value := [.int .u64 (e.st.1 : Int), .int .u64 (e.st.2 : Int), e.tv]
abbrev ea (e : Ent) : Value := .agg #[.int .u64 (e.st.1 : Int), .int .u64 (e.st.2 : Int), e.tv]
abbrev tEn : TypeId := 80
/-- entries that can be read -/
def RdE (w : World) (ao : Option Addr) (xs : List Ent) : Prop := ∀ j (hj : j < xs.length), ∃ b o, ao = some ⟨b, o, none⟩ ∧ w.rangeAt b (o + j * 3) (ev xs[j]) ∧ ∃ cur fr, w.heap[b]? = some (.cells cur tEn fr)
theorem RdE.below {w w' : World} {ao : Option Addr} {xs : List Ent} (h : RdE w ao xs) (hb : Below w.heap.size w w') : RdE w' ao xs := fun j hj => by
  obtain ⟨b, o, h1, h2, cur, fr, h3⟩ := h j hj
  exact ⟨b, o, h1, rangeAt_below h2 hb, cur, fr, (hb.block b (Array.getElem?_eq_some_iff.1 h3).1).trans h3⟩
end Go.Proofs.Ytibolgpaolnheaa.Str
