import Derived.Test.YtibepnilhmbpeaaDoorKTa
namespace Go.Proofs.YtibepnilhmbpeaaDoor
set_option linter.unusedVariables false
set_option linter.unusedSimpArgs false
open Go.RowKit
theorem SBI_blk {sa : Option Addr} {sc i : Nat} {w : World} {L : List Nb} (h : MidG KI w (.slice sa L.length sc) L) {a : Addr} (e : SB sa sc i = some a) : ∃ a0, sa = some a0 ∧ a.block = a0.block := by
  unfold SB at e
  split at e
  · exact ⟨a, e, rfl⟩
  · rename_i hne
    rcases h.ex with ⟨a0, e9, hL⟩ | ⟨g, o, c, cur, e9, -⟩
    · injection e9 with e1 e2 e3
      clear e1
      cases sa with
      | none => cases e
      | some a0 =>
        cases e
        refine ⟨a0, rfl, ?_⟩
        cases a0 with
        | mk b o s =>
          cases s with
          | none => show (Addr.add ⟨b, o, none⟩ (i * 2)).block = b; rw [Addr.add_mid]
          | some s => show (Addr.add _ _).block = b; unfold Addr.add; first | rfl | (split <;> rfl) | simp
    · injection e9 with e1 e2 e3
      subst e1
      cases e
      refine ⟨_, rfl, ?_⟩
      show (Addr.add ⟨g, o, none⟩ (i * 2)).block = g
      rw [Addr.add_mid]
theorem Its.drop {w : World} {N : List Nb} {T : List Itm} (h : Its w N T) (i : Nat) : Its w (N.drop i) (T.drop i) :=
  ⟨by rw [List.length_drop, List.length_drop, h.len], fun j y t h1 h2 => by rw [List.getElem?_drop] at h1 h2; exact h.at_ (i + j) y t h1 h2⟩
/-- a keeper's box, and what becomes of it when its first item goes -/
theorem KpA.boxD {w : World} {kb g p n : Nat} {x : Lg} {d : Dst} {X Y : Nat → Prop} {T : List Itm} {k : Kp} (h : KpA w kb g p x d n X Y T k) : ∃ (ia : Option Addr) (ic M : Nat), w.heap[kb]? = some (.cells (k.c p g (.slice ia M ic)) tKp (0, 0)) ∧ M = T.length ∧ M ≤ ic ∧ (∀ t, T[0]? = some t → ∃ b o, ia = some ⟨b, o, none⟩ ∧ b ≠ kb ∧ b < w.heap.size ∧ w.cell? ⟨b, o, none⟩ = some (.int .u64 (t.n : Int))) ∧
    (∀ (w' : World) (k' : Kp), Chg (fun b => b = kb) w w' → w'.heap[kb]? = some (.cells (Kp.c k' p g (.slice ia M ic)) tKp (0, 0)) → KpA w' kb g p x d n X Y T k') ∧
    (∀ (w' : World) (k' : Kp), 1 ≤ M → Chg (fun b => b = kb) w w' → w'.heap[kb]? = some (.cells (Kp.c k' p g (.slice (SB ia ic 1) (M - 1) (ic - 1))) tKp (0, 0)) → KpA w' kb g p x d n X Y (T.drop 1) k') := by
  have hk := h
  obtain ⟨h0, ⟨ia, ic, N, h1, h2, h3, h4, h5, h6⟩, h7⟩ := h
  obtain ⟨a8, c8, e8, hc8, -, hrd⟩ := h2.val
  injection e8 with e81 e82 e83
  subst e81
  have nx : ∀ b, X b → ¬ b = kb := fun b hX e => (h7 _ h4).2 (e ▸ hX)
  have own : ∀ (i : Nat) (y : Nb) (b : Nat), N[i]? = some y → y.v.ownBlock = some b → ¬ b = kb := fun i y b hy hb e => by
    obtain ⟨B, ho⟩ := (h3.at_ i y _ hy (List.getElem?_eq_getElem (by rw [← h3.len]; exact (List.getElem?_eq_some_iff.1 hy).1))).2
    rcases ho.2 with ⟨e9, -⟩ | ⟨g9, cap, cur, e9, -, hg9, -⟩
    · rw [e9] at hb; cases hb
    · rw [e9] at hb; cases hb
      have e : g9 = kb := e
      rw [e, h1] at hg9
      cases hg9
  have nia : ∀ a, ia = some a → ¬ a.block = kb := fun a e1 e => by
    obtain ⟨cur, h9⟩ := h2.blk a.block (by rw [e1]; rfl)
    rw [e, h1] at h9
    cases h9
  have gen : ∀ (w' : World), Chg (fun b => b = kb) w w' → (∀ (i : Nat) (y : Nb) (b : Nat), N[i]? = some y → y.v.ownBlock = some b → w'.heap[b]? = w.heap[b]?) ∧ (∀ a, ia = some a → w'.heap[a.block]? = w.heap[a.block]?) := fun w' hc => ⟨fun i y b hy hb => hc.block _ (h7 _ (h6 i y b hy hb)).1 (own i y b hy hb), fun a e => hc.block _ (h7 _ (h5 a e)).1 (nia a e)⟩
  refine ⟨ia, ic, N.length, h1, h3.len, by rw [e83]; exact hc8, fun t ht => ?_, fun w' k' hc hb => ?_, fun w' k' hM hc hb => ?_⟩
  · have hT : 0 < T.length := (List.getElem?_eq_some_iff.1 ht).1
    have hN : 0 < N.length := by rw [h3.len]; exact hT
    obtain ⟨b, o, e1, hrg, -⟩ := hrd 0 hN
    subst e1
    obtain ⟨hyn, -⟩ := h3.at_ 0 N[0] t (List.getElem?_eq_getElem hN) ht
    have h9 := hrg 0 (.int .u64 (N[0].n : Int)) rfl
    rw [hyn] at h9
    exact ⟨b, o, rfl, nia _ rfl, (h7 _ (h5 _ rfl)).1, by simpa using h9⟩
  · obtain ⟨g1, g2⟩ := gen w' hc
    refine ⟨h0.kept hc nx, ⟨ia, ic, N, hb, h2.kept (fun b hb => ?_), h3.kept g1, h4, h5, h6⟩, fun b hb => ⟨Nat.lt_of_lt_of_le (h7 b hb).1 hc.size, (h7 b hb).2⟩⟩
    obtain ⟨a, e1, rfl⟩ := SA_blk hb
    exact g2 a e1
  · obtain ⟨g1, g2⟩ := gen w' hc
    have hd : MidG KI w _ (N.drop 1) := h2.dropI hM
    rw [show N.length - 1 = (N.drop 1).length from by rw [List.length_drop]] at hb
    refine ⟨h0.kept hc nx, ⟨SB ia ic 1, ic - 1, N.drop 1, hb, hd.kept (fun b hb => ?_), (h3.drop 1).kept (fun i y b hy hb => ?_), h4, fun a e => ?_, fun i y b hy hb => ?_⟩, fun b hb => ⟨Nat.lt_of_lt_of_le (h7 b hb).1 hc.size, (h7 b hb).2⟩⟩
    · obtain ⟨a, e1, rfl⟩ := SA_blk hb
      obtain ⟨a0, e2, e3⟩ := SBI_blk h2 e1
      rw [e3]; exact g2 a0 e2
    · rw [List.getElem?_drop] at hy; exact g1 _ y b hy hb
    · obtain ⟨a0, e2, e3⟩ := SBI_blk h2 e
      rw [e3]; exact h5 a0 e2
    · rw [List.getElem?_drop] at hy; exact h6 _ y b hy hb
end Go.Proofs.YtibepnilhmbpeaaDoor
namespace Go.Proofs.YtibepnilhmbpeaaDoor
set_option linter.unusedVariables false
set_option linter.unusedSimpArgs false
open Go.RowKit
def lenK (w : World) (kb : Nat) : Nat := match w.cell? ⟨kb, 3, none⟩ with
  | some (.slice _ n _) => n
  | _ => 0
end Go.Proofs.YtibepnilhmbpeaaDoor
namespace Go.Proofs.YtibepnilhmbpeaaDoor
set_option linter.unusedVariables false
set_option linter.unusedSimpArgs false
open Go.RowKit
theorem KpA.item {w : World} {kb g p n : Nat} {x : Lg} {d : Dst} {X Y : Nat → Prop} {T : List Itm} {k : Kp} (h : KpA w kb g p x d n X Y T k) {ia : Option Addr} {ic M : Nat} (hb : w.heap[kb]? = some (.cells (k.c p g (.slice ia M ic)) tKp (0, 0))) (i : Nat) (t : Itm) (ht : T[i]? = some t) : ∃ b o, ia = some ⟨b, o, none⟩ ∧ w.cell? ⟨b, o + i * 2, none⟩ = some (.int .u64 (t.n : Int)) := by
  obtain ⟨h0, ⟨ja, jc, N, h1, h2, h3, h4, h5, h6⟩, h7⟩ := h
  have e : Kp.c k p g (.slice ia M ic) = Kp.c k p g (.slice ja N.length jc) := by
    rw [hb] at h1
    injection h1 with h1
    injection h1
  have e3 : (Kp.c k p g (.slice ia M ic))[3]? = (Kp.c k p g (.slice ja N.length jc))[3]? := by rw [e]
  have e4 : Value.slice ia M ic = .slice ja N.length jc := by simpa [Kp.c] using e3
  injection e4 with e5 e6 e7
  subst e5
  obtain ⟨a8, c8, e8, hc8, -, hrd⟩ := h2.val
  injection e8 with e81 e82 e83
  subst e81
  have hT : i < T.length := (List.getElem?_eq_some_iff.1 ht).1
  have hN : i < N.length := by rw [h3.len]; exact hT
  obtain ⟨b, o, e1, hrg, -⟩ := hrd i hN
  obtain ⟨hyn, -⟩ := h3.at_ i N[i] t (List.getElem?_eq_getElem hN) ht
  have h9 := hrg 0 (.int .u64 (N[i].n : Int)) rfl
  rw [hyn, Nat.add_zero] at h9
  exact ⟨b, o, e1, h9⟩
end Go.Proofs.YtibepnilhmbpeaaDoor
