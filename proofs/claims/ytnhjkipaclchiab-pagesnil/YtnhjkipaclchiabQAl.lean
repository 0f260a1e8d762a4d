import Derived.Test.YtnhjkipaclchiabQRg
import Derived.Test.YtnhjkipaclchiabQLt
namespace Go.Proofs.Ytnhjkipaclchiab
set_option linter.unusedVariables false
set_option linter.unusedSimpArgs false
open Go.RowKit Go.Shelf
attribute [local go_sem] Oper.semAt_some
theorem results_cb {fn : Func} {p : Tmp} (h : fn.results = #[.cell p 4]) (tmps : Array Value) {W : World} {B : Nat} {ok : Bool} (hB : W.heap[B]? = some (.cells #[.bool ok] 4 (0, 0)))
    (h1 : tmps.getD p undef = .pointer (some ⟨B, 0, none⟩)) : (results fn tmps).run Try.prog W = .ok (.bool ok) W := by
  have h1' : tmps[p]?.getD undef = .pointer (some ⟨B, 0, none⟩) := by simpa using h1
  have c3 : W.cell? ⟨B, 0, none⟩ = some (.bool ok) := by rw [cell_of_row _ _ _ _ _ _ hB]; rfl
  have e3 : (loadVar 4 ⟨B, 0, none⟩).run Try.prog W = .ok (.bool ok) W := by go_simp
  simp only [results, h]
  simp [Sem.run_bind, Result.andThen, h1', asAddr, e3]
/-- what Up tells, by the whole row -/
theorem up_list {P : List (List Ent)} {s : St} {p i : Nat} {ok : Bool} (h : PlaceIs P s p i ok) (hsp : SP P) (hp : p < P.length) : (P.drop p).flatten.drop i = P.flatten.filter (fun x => !ltS x.st s) := by
  obtain ⟨hil, hok, hc⟩ := h.cut hsp hp
  rw [hc.eq, List.filter_append, List.filter_append, filt_no (fun x hx => by rw [hc.lo x hx]; rfl), filt_all (fun x hx => by rw [hc.mid x hx, ltS_irrefl]; rfl), filt_all (fun x hx => by rw [ltS_asymm (hc.hi x hx)]; rfl), List.nil_append]
  rw [List.drop_eq_getElem_cons hp, List.flatten_cons, List.drop_append_of_le_length hil]
  cases ok
  · simp
  · simp only [if_true]
    rw [← List.append_assoc, show P[p].drop (i + 1) = (P[p].drop i).drop 1 by rw [List.drop_drop], List.take_append_drop]
theorem up_all {P : List (List Ent)} {p i : Nat} {ok : Bool} (h : PlaceIs P (0, 0) p i ok) (hsp : SP P) (hp : p < P.length) : (P.drop p).flatten.drop i = P.flatten := by
  rw [up_list h hsp hp]
  refine filt_all fun x _ => ?_
  have : ltS x.st (0, 0) = false := by rw [ltS_no]; simp
  rw [this]; rfl
theorem pre_snoc {L pre : List Ent} {x : Ent} (h : pre <+: L) (hk : pre.length < L.length) : pre ++ [x] <+: L ↔ L[pre.length] = x := by
  obtain ⟨t, rfl⟩ := h
  cases t with
  | nil => simp at hk
  | cons y t =>
    rw [List.prefix_append_right_inj]
    simp
    exact eq_comm
end Go.Proofs.Ytnhjkipaclchiab
