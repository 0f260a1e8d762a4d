import Derived.Test.YtinphflminaijacDoorOwnQ
namespace Go.Proofs.YtinphflminaijacDoor
set_option linter.unusedVariables false
set_option linter.unusedSimpArgs false
open Go.RowKit
/-- behind k rounds: so many are marked and grown, and what they should be is kept -/
def Inv2 (ps : List (Value × List UInt8)) (ws : List (List UInt8)) (k : Nat) : Prop :=
  ps.length = 21 ∧ ws.length = k ∧ (∀ j (h : j < ws.length) (h' : j < ps.length), ps[j].2 = ws[j]) ∧ ∀ j (h : j < ps.length), k ≤ j → ps[j].2.length ≤ 3000000
theorem Inv2.start {ps : List (Value × List UInt8)} {xs ys : List UInt8} (h : AllF ps xs ys) : Inv2 ps [] 0 := by
  obtain ⟨hl, -, -, -, hb⟩ := h
  exact ⟨hl, rfl, fun j h => by simp at h, fun j h _ => hb j h⟩
theorem Inv2.next {ps : List (Value × List UInt8)} {ws : List (List UInt8)} {k : Nat} (h : Inv2 ps ws k) (hk : k < 21) (v : Value) (l : List UInt8) : Inv2 (ps.set k (v, l)) (ws ++ [l]) (k + 1) := by
  obtain ⟨hl, hw, he, hb⟩ := h
  refine ⟨by simpa using hl, by simp [hw], fun j h h' => ?_, fun j h h' => ?_⟩
  · rw [List.length_append] at h
    rw [List.length_set] at h'
    by_cases e : j = k
    · subst e
      rw [List.getElem_set_self, List.getElem_append_right (by omega)]
      simp
    · simp only [List.length_cons, List.length_nil] at h
      rw [List.getElem_set_ne (by omega), List.getElem_append_left (by omega)]
      exact he j (by omega) (by omega)
  · rw [List.length_set] at h
    rw [List.getElem_set_ne (by omega)]
    exact hb j (by omega) (by omega)
theorem rep_set (c : UInt8) (ys : List UInt8) (t : Nat) (h : t < ys.length) : (List.replicate t c ++ ys.drop t).set t c = List.replicate (t + 1) c ++ ys.drop (t + 1) := by
  rw [List.drop_eq_getElem_cons h, set_mid _ _ _ _ _ (by simp), List.replicate_succ', List.append_assoc]
  rfl
theorem rep_len (c : UInt8) (ys : List UInt8) (t : Nat) (h : t ≤ ys.length) : (List.replicate t c ++ ys.drop t).length = ys.length := by
  simp; omega
theorem set_same (ps : List (Value × List UInt8)) (k : Nat) (h : k < ps.length) (v : Value) (ys : List UInt8) (e : ps[k] = (v, ys)) : ps.set k (v, ys) = ps := by
  rw [← e, List.set_getElem_self]
/-- a marked byte -/
theorem St.markK {W w : World} {va vw : Value} {ps : List (Value × List UInt8)} {ws : List (List UInt8)} {k g n c : Nat} {b : UInt8} {ys : List UInt8} {t : Nat} (hk : k < ps.length) (h : St W w va vw (ps.set k (.slice (some ⟨g, 0, none⟩) n c, List.replicate t b ++ ys.drop t)) ws) (hn : n = ys.length) (ht : t < ys.length) (z : Int) (hz : z = (b.toNat : Int)) :
    St W (w.setCell ⟨g, t, none⟩ (.int .u8 z)) va vw (ps.set k (.slice (some ⟨g, 0, none⟩) n c, List.replicate (t + 1) b ++ ys.drop (t + 1))) ws := by
  have h1 := h.mark k (by simpa using hk) g n c (List.replicate t b ++ ys.drop t) (by simp) (by rw [hn, rep_len b ys t (by omega)]) t b z hz
  rwa [List.set_set, rep_set b ys t ht] at h1
theorem St.cellK {W w : World} {G cap : Nat} {vw : Value} {ps : List (Value × List UInt8)} {ws : List (List UInt8)} {k : Nat} {v : Value} {l : List UInt8} (hl : ps.length = 21) (hk : k < 21) (h : St W w (.slice (some ⟨G, 0, none⟩) 21 cap) vw (ps.set k (v, l)) ws) : w.cell? ⟨G, k, none⟩ = some v := by
  have h1 := h.cell (by simp [hl]) k (by simp [hl]; omega)
  simpa using h1
theorem St.ownK {W w : World} {va vw : Value} {ps : List (Value × List UInt8)} {ws : List (List UInt8)} {k : Nat} {v : Value} {l : List UInt8} (hk : k < ps.length) (h : St W w va vw (ps.set k (v, l)) ws) : Own w W.heap.size v l := by
  have h1 := h.own k (by simpa using hk)
  simpa using h1
theorem St.growK {W w w' : World} {G cap : Nat} {vw : Value} {ps : List (Value × List UInt8)} {ws : List (List UInt8)} {k : Nat} {v : Value} {l : List UInt8} (hl : ps.length = 21) (hk : k < 21) (h : St W w (.slice (some ⟨G, 0, none⟩) 21 cap) vw (ps.set k (v, l)) ws) (hg : w.grownBy w' v.ownBlock) (g2 m2 c2 : Nat) (l' : List UInt8) (ho : Own w' W.heap.size (.slice (some ⟨g2, 0, none⟩) m2 c2) l') (hlies : v.ownBlock = some g2 ∨ g2 = w.heap.size) :
    (w'.cell? ⟨G, k, none⟩ = some v ∧ w'.frozen? ⟨G, k, none⟩ = false) ∧ St W (w'.setCell ⟨G, k, none⟩ (.slice (some ⟨g2, 0, none⟩) m2 c2)) (.slice (some ⟨G, 0, none⟩) 21 cap) vw (ps.set k (.slice (some ⟨g2, 0, none⟩) m2 c2, l')) ws := by
  have h1 := h.grow (by simp [hl]) k (by simp [hl]; omega) v (by simp) hg (.slice (some ⟨g2, 0, none⟩) m2 c2) l' ho (by
    rcases hlies with e | e
    · left; rw [e]; rfl
    · right; intro g e2; cases e2; rw [e]; exact Nat.le_refl _)
  rwa [List.set_set] at h1
theorem own_headG {w : World} {B e : Nat} {v : Value} {n : Nat} {xs : List Value} (h : w.ownsRow B e 1 v n xs) (hp : 0 < n) : ∃ g cap, v = .slice (some ⟨g, 0, none⟩) n cap := by
  rcases h.2 with ⟨_, h0⟩ | ⟨g, cap, cur, hv, _⟩
  · omega
  · exact ⟨g, cap, hv⟩
theorem rep_app (n t : Nat) (c d : UInt8) : List.replicate n c ++ List.replicate t d ++ [d] = List.replicate n c ++ List.replicate (t + 1) d := by
  rw [List.append_assoc, ← List.replicate_succ']
theorem rep_more (t : Nat) (c : UInt8) : List.replicate t c ++ [c] = List.replicate (t + 1) c := by
  rw [List.replicate_succ']
theorem St.moreK {W w w' : World} {va vw : Value} {ps : List (Value × List UInt8)} {ws : List (List UInt8)} {G cap l : Nat} (h : St W w va vw ps ws) (s : List UInt8) (hg : w.grownBy w' vw.ownBlock) (hl : ws.length + 1 = l) (ho : w'.ownsRow W.heap.size 9 1 (.slice (some ⟨G, 0, none⟩) l cap) l (ws.map strV ++ [strV s])) (hlies : vw.ownBlock = some G ∨ G = w.heap.size) : St W w' va (.slice (some ⟨G, 0, none⟩) l cap) ps (ws ++ [s]) := by
  subst hl
  refine h.more s hg ho ?_
  rcases hlies with e | e
  · left; rw [e]; rfl
  · right; intro g e2; cases e2; rw [e]; exact Nat.le_refl _
theorem str_cat (z : List UInt8) (c : UInt8) : Value.string (({ data := z.toArray } : ByteArray) ++ ({ data := #[c] } : ByteArray)) = .string ⟨(z ++ [c]).toArray⟩ := by
  congr 1
end Go.Proofs.YtinphflminaijacDoor
