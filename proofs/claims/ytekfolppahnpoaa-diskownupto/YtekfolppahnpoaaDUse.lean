import Derived.Test.YtekfolppahnpoaaDNilC
import Derived.Test.YtekfolppahnpoaaDByt
import Derived.Test.YtekfolppahnpoaaDSpan
namespace Go.Proofs.Ytekfolppahnpoaa
set_option linter.unusedVariables false
set_option linter.unusedSimpArgs false
open Go.RowKit Go.Maps
theorem NewAt.dk {w : World} {p g m : Nat} {S : List Sec} (h : NewAt w p g m S) (hf : ∀ s ∈ S, s.fit) : DK w p g m S (fun _ => []) (fun _ => nilS) false (-1) 0 :=
  ⟨hf, h.one, h.most, h.hp, h.hg, cache_none h.hm 0, by decide, by decide⟩
theorem rep_fit (n : Nat) : ∀ s ∈ List.replicate n Sec.zero, s.fit := fun s hs => by rw [List.eq_of_mem_replicate hs]; exact Sec.zero_fit
theorem DK.not5 {w : World} {p g m : Nat} {S : List Sec} {C : Nat → List (List UInt8)} {V : Nat → Value} {off : Bool} {fuse : Int} {n : Nat} (h : DK w p g m S C V off fuse n) {b : Nat} (hb : foot p g m V b) {cs : Array Value} {fr : Nat × Nat} (h5 : w.heap[b]? = some (.cells cs 5 fr)) : False := by
  rcases hb with rfl | rfl | rfl | ⟨i, e⟩
  · rw [h.hp] at h5; simp only [Option.some.injEq, Obj.cells.injEq] at h5; exact absurd h5.2.1 (by decide)
  · rw [h.hg] at h5; simp only [Option.some.injEq, Obj.cells.injEq] at h5; exact absurd h5.2.1 (by decide)
  · obtain ⟨es, cl, h1⟩ := h.cache.map_at
    rw [h1] at h5; cases h5
  · obtain ⟨cur, h1⟩ := row_at (h.cache.rows i) e
    rw [h1] at h5; simp only [Option.some.injEq, Obj.cells.injEq] at h5; exact absurd h5.2.1 (by decide)
theorem rd_row {w : World} {B : Nat} {xs : List UInt8} (h : w.heap[B]? = some (.cells (bv xs).toArray 5 (0, 0))) : Rd w (some ⟨B, 0, none⟩) xs := by
  intro _
  refine ⟨_, _, rfl, fun i hi => ?_⟩
  rw [Nat.zero_add, cell_of_row _ _ i _ _ _ h, List.getElem?_toArray, bv_get xs i hi]
theorem Rd.chg {w w' : World} {ao : Option Addr} {xs : List UInt8} {F : Nat → Prop} (h : Rd w ao xs) (hc : Chg F w w') (hne : ∀ a, ao = some a → ¬ F a.block) : Rd w' ao xs := by
  intro hp
  obtain ⟨b, o, rfl, hcc⟩ := h hp
  refine ⟨b, o, rfl, fun i hi => ?_⟩
  have h1 := hcc i hi
  have h2 := hc.block b (World.block_lt_of_cell? w _ h1) (hne _ rfl)
  rw [← h1]
  exact World.cell?_of_block h2
theorem Own.chg {w w' : World} {B : Nat} {v : Value} {xs : List UInt8} {F : Nat → Prop} (h : Own w B v xs) (hc : Chg F w w') (hne : ∀ b, v.ownBlock = some b → ¬ F b) : Own w' B v xs := by
  refine ⟨h.1, ?_⟩
  rcases h.2 with h0 | ⟨g, cap, cur, e, hB, hg, r⟩
  · exact .inl h0
  · exact .inr ⟨g, cap, cur, e, hB, (hc.block g (Array.getElem?_eq_some_iff.1 hg).1 (hne g (by rw [e]; rfl))).trans hg, r⟩

end Go.Proofs.Ytekfolppahnpoaa
