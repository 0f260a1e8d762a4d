import Derived.Test.YtiedgcanndgmoaaGreatDoorZJ
namespace Go.Proofs.YtiedgcanndgmoaaGreatDoor
set_option linter.unusedVariables false
set_option linter.unusedSimpArgs false
open Go.RowKit Go.Maps
/-- nothing is lost by stores -/
structure Sty (w w' : World) : Prop where
  some : ∀ x : Addr, (w.cell? x).isSome = true → (w'.cell? x).isSome = true
  frz : ∀ x : Addr, w'.frozen? x = w.frozen? x
theorem Sty.refl (w : World) : Sty w w := ⟨fun _ h => h, fun _ => rfl⟩
theorem Sty.trans {a b c : World} (h : Sty a b) (k : Sty b c) : Sty a c := ⟨fun x hx => k.some x (h.some x hx), fun x => (k.frz x).trans (h.frz x)⟩
theorem Sty.set1 (w : World) (b i : Nat) (u : Value) (hx : (w.cell? ⟨b, i, none⟩).isSome = true) : Sty w (w.setCell ⟨b, i, none⟩ u) := by
  refine ⟨fun x h => ?_, fun x => World.frozen?_setCell _ _ _ _⟩
  by_cases e : x = ⟨b, i, none⟩
  · subst e
    have h9 := World.cell?_setCells_in b [u] i w (fun j hj => by
      have : j = 0 := by simp at hj; omega
      subst this
      rw [Nat.add_zero]
      exact hx) 0 (by simp)
    rw [Nat.add_zero] at h9
    have h8 : (w.setCell ⟨b, i, none⟩ u).cell? ⟨b, i, none⟩ = _ := h9
    rw [h8]
    rfl
  · have h9 := World.cell?_setCells_out b [u] i w x (fun h1 h2 => by
      obtain ⟨xb, xo, xs⟩ := x
      simp only at h1 h2
      subst h1 h2
      have : xo ≠ i := fun e2 => e (by rw [e2])
      simp
      omega)
    have h8 : (w.setCell ⟨b, i, none⟩ u).cell? x = _ := h9
    rw [h8]
    exact h
theorem Sty.setN (b : Nat) : ∀ (vs : List Value) (o : Nat) (w : World), (∀ j, j < vs.length → (w.cell? ⟨b, o + j, none⟩).isSome = true) → Sty w (w.setCells b o vs)
  | [], o, w, _ => Sty.refl w
  | u :: r, o, w, h => by
    have h1 := Sty.set1 w b o u (by have := h 0 (by simp); rw [Nat.add_zero] at this; exact this)
    rw [World.setCells]
    exact h1.trans (Sty.setN b r (o + 1) _ (fun j hj => h1.some _ (by have := h (j + 1) (by simp; omega); rw [show o + (j + 1) = o + 1 + j by omega] at this; exact this)))
section
variable {w w' : World} {H : Nat → Prop} {p ms mn pw mw : Nat} {V V' : Nat → Nat → Value} {q : Nat} {v v' : Value} {X : Value × Value × Value × Value} {s s' t t' : Xs}
set_option maxRecDepth 20000
set_option maxHeartbeats 6400000
theorem Exx.mores (h : Exx w H p ms mn pw mw V q v X s t) {G : Nat → Prop} (hG : ∀ b, G b → b < w.heap.size ∧ ¬ footX p ms mn pw mw V b ∧ ¬ footR q v b) : Exx w (fun b => H b ∨ G b) p ms mn pw mw V q v X s t :=
  ⟨h.a, h.b, h.ap, fun b hb => by
    rcases hb with hb | hb
    · exact h.av b hb
    · exact hG b hb, h.tz, .inl h.h0⟩
end
end Go.Proofs.YtiedgcanndgmoaaGreatDoor
namespace Go.Proofs.YtiedgcanndgmoaaGreatDoor
set_option linter.unusedVariables false
set_option linter.unusedSimpArgs false
open Go.RowKit Go.Maps
section
variable {w w' : World} {H : Nat → Prop} {p ms mn pw mw : Nat} {V V' : Nat → Nat → Value} {q : Nat} {v v' : Value} {X : Value × Value × Value × Value} {s s' t t' : Xs}
/-- a script that came in -/
def RdOe (w : World) (a : Option Addr) (xs : List Oe) : Prop := ∀ j (hj : j < xs.length), ∃ b o, a = some ⟨b, o, none⟩ ∧ OeOk w xs[j] ∧ w.rangeAt b (o + j * 15) xs[j].c.toList
theorem infoOe : (Tryz.prog.info? tOe).map (·.size) = some 15 := by kernel_rfl
end
end Go.Proofs.YtiedgcanndgmoaaGreatDoor
