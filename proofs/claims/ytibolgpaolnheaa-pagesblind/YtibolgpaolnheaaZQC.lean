import Derived.Test.YtibolgpaolnheaaQS
import Derived.Test.YtibolgpaolnheaaZQB
namespace Go.Proofs.Ytibolgpaolnheaa.Str
set_option linter.unusedVariables false
set_option linter.unusedSimpArgs false
open Go.RowKit
abbrev tPg : TypeId := 81
abbrev tPs : TypeId := 68
theorem range_st {u : World} {b o : Nat} {e : Ent} (h : u.rangeAt b o (ev e)) : u.rangeAt b o (sc e.st) := fun j v hv => h j v (by
  match j with
  | 0 => simpa using hv
  | 1 => simpa using hv
  | j + 2 => simp at hv)
/-- pages that can be read -/
def RdP (w : World) (pa : Option Addr) (P : List (List Ent)) : Prop := ∀ j (hj : j < P.length), ∃ b o, pa = some ⟨b, o, none⟩ ∧ ∃ a c, w.cell? ⟨b, o + j, none⟩ = some (.slice a P[j].length c) ∧ P[j].length ≤ c ∧ (a = none → c = 0) ∧ RdE w a P[j]
theorem RdP.below {w w' : World} {pa : Option Addr} {P : List (List Ent)} (h : RdP w pa P) (hb : Below w.heap.size w w') : RdP w' pa P := fun j hj => by
  obtain ⟨b, o, h1, a, c, h2, h3, h4, h5⟩ := h j hj
  exact ⟨b, o, h1, a, c, (hb.cell (World.block_lt_of_cell? w _ h2)).trans h2, h3, h4, h5.below hb⟩
section
set_option maxRecDepth 20000
/-- the first closure: is s below the first stamp of page i? -/
theorem place1_t (g3 g7 : Nat) (s : St) (pa : Option Addr) (n cap : Nat) (P : List (List Ent)) (i : Nat) (w : World) (hn : n = P.length) (hi : i < n) (h3 : w.rangeAt g3 0 (sc s)) (h7 : w.cell? ⟨g7, 0, none⟩ = some (.slice pa n cap)) (hp : RdP w pa P) (hne : ∀ p ∈ P, 0 < p.length) :
    Calls Try.prog 50 #[.int .i64 (i : Int), .pointer (some ⟨g3, 0, none⟩), .pointer (some ⟨g7, 0, none⟩)] w fun e w' => e = .returned (.bool (ltS s (fst1 (P.getD i [])))) ∧ Below w.heap.size w w' := by
  have hiP : i < P.length := by omega
  have eP : P.getD i [] = P[i] := by simp [List.getD, hiP]
  have h0 : 0 < P[i].length := hne _ (List.getElem_mem hiP)
  obtain ⟨b, o, rfl, a, c, hc, hkc, hnc, hr⟩ := hp i hiP
  obtain ⟨b2, o2, rfl, hr2, -⟩ := hr 0 h0
  rw [eP, fst1_get h0]
  obtain ⟨st, hst⟩ : ∃ st, st = P[i][0].st := ⟨_, rfl⟩
  have hr3 := range_st hr2
  rw [← hst] at hr3 ⊢
  rw [Nat.zero_mul, Nat.add_zero] at hr3
  obtain ⟨k, hk⟩ : ∃ k, k = P[i].length := ⟨_, rfl⟩
  rw [← hk] at hc h0
  have hl3 : ∀ u, Below w.heap.size w u → (Instr.loadAt tSt (.pointer (some ⟨g3, 0, none⟩))).run Try.prog u = .ok (sv s) u := fun u hu => load_st u _ _ s (rangeAt_below h3 hu)
  have hl4 : ∀ u, Below w.heap.size w u → (Instr.loadAt tSt (.pointer (some ⟨b2, o2, none⟩))).run Try.prog u = .ok (sv st) u := fun u hu => load_st u _ _ st (rangeAt_below hr3 hu)
  have hc7 : ∀ u, Below w.heap.size w u → u.cell? ⟨g7, 0, none⟩ = some (.slice (some ⟨b, o, none⟩) n cap) := fun u hu => (hu.cell (World.block_lt_of_cell? w _ h7)).trans h7
  have hcp : ∀ u, Below w.heap.size w u → u.cell? ⟨b, o + i, none⟩ = some (.slice (some ⟨b2, o2, none⟩) k c) := fun u hu => (hu.cell (World.block_lt_of_cell? w _ hc)).trans hc
  have hii : (i : Int) < (n : Int) := by omega
  have hi0 : (0 : Int) ≤ (i : Int) := by omega
  have h0i : (0 : Int) < (k : Int) := by omega
  clear hn hp hne eP hr2 hr3 hst hk hr hc h7 h3 hkc hnc
  go_enter Try.func50, Try.ntmps50
  go_wp2_with fail
  refine wp_region_noPanic ?_
  refine wp_region_held_drew (S := (fun u => Below w.heap.size w u)) (by kernel_rfl) (by first | exact (Below.refl _ _).drew | assumption) (fun hHeld => ?_)
  refine take_at (i := 0) 5 (v := sv s) rfl rfl (by kernel_rfl) (by kernel_rfl) (by kernel_rfl) (fun _ _ _ h => h) (by rfl) ?_ hHeld ?_
  · (intro w hSw; refine exec_load (by rfl) ?_; exact hl3 w hSw)
  simp only [Act.put, List.setIfInBounds_toArray, List.set_cons_zero, List.set_cons_succ]
  refine take_at (i := 1) 6 (v := ?_) rfl rfl (by kernel_rfl) (by kernel_rfl) (by kernel_rfl) (fun _ _ _ h => h) (by rfl) ?_ hHeld ?_
  rotate_left
  · (intro w hSw; have h9 := hc7 w hSw; (try dsimp only at hSw); go_simp; try with_reducible rfl)
  simp only [Act.put, List.setIfInBounds_toArray, List.set_cons_zero, List.set_cons_succ]
  refine take_at (i := 2) 7 (v := ?_) rfl rfl (by kernel_rfl) (by kernel_rfl) (by kernel_rfl) (fun _ _ _ h => h) (by rfl) ?_ hHeld ?_
  rotate_left
  · (intro w hSw; (try dsimp only at hSw); go_simp; try with_reducible rfl)
  simp only [Act.put, List.setIfInBounds_toArray, List.set_cons_zero, List.set_cons_succ]
  refine take_at (i := 3) 8 (v := ?_) rfl rfl (by kernel_rfl) (by kernel_rfl) (by kernel_rfl) (fun _ _ _ h => h) (by rfl) ?_ hHeld ?_
  rotate_left
  · (intro w hSw; (try dsimp only at hSw); go_simp; try with_reducible rfl)
  simp only [Act.put, List.setIfInBounds_toArray, List.set_cons_zero, List.set_cons_succ]
  refine take_at (i := 4) 9 (v := ?_) rfl rfl (by kernel_rfl) (by kernel_rfl) (by kernel_rfl) (fun _ _ _ h => h) (by rfl) ?_ hHeld ?_
  rotate_left
  · (intro w hSw; have h9 := hcp w hSw; (try dsimp only at hSw); go_simp; try with_reducible rfl)
  simp only [Act.put, List.setIfInBounds_toArray, List.set_cons_zero, List.set_cons_succ]
  refine take_at (i := 5) 10 (v := ?_) rfl rfl (by kernel_rfl) (by kernel_rfl) (by kernel_rfl) (fun _ _ _ h => h) (by rfl) ?_ hHeld ?_
  rotate_left
  · (intro w hSw; (try dsimp only at hSw); go_simp; try with_reducible rfl)
  simp only [Act.put, List.setIfInBounds_toArray, List.set_cons_zero, List.set_cons_succ]
  refine take_at (i := 6) 11 (v := ?_) rfl rfl (by kernel_rfl) (by kernel_rfl) (by kernel_rfl) (fun _ _ _ h => h) (by rfl) ?_ hHeld ?_
  rotate_left
  · (intro w hSw; (try dsimp only at hSw); go_simp; try with_reducible rfl)
  simp only [Act.put, List.setIfInBounds_toArray, List.set_cons_zero, List.set_cons_succ]
  refine take_at (i := 7) 12 (v := sv st) rfl rfl (by kernel_rfl) (by kernel_rfl) (by kernel_rfl) (fun _ _ _ h => h) (by rfl) ?_ hHeld ?_
  · (intro w hSw; refine exec_load (by rfl) ?_; exact hl4 w hSw)
  simp only [Act.put, List.setIfInBounds_toArray, List.set_cons_zero, List.set_cons_succ]
  refine run_at (i := 8) rfl (by kernel_rfl) (by rfl) (fun K hK => ?_)
  simp only [List.getElem_toArray, List.getElem_cons_zero, List.getElem_cons_succ]
  go_simp
  (go_at_call 30; refine Calls.mono (less_t s st _) ?_; rintro e w1 ⟨rfl, hb1⟩; have hS1 : Below w.heap.size w w1 := below_next (Below.refl _ _).drew hb1)
  go_wp2_with fail
  refine hK.out _ _ (by first | exact (Below.refl _ _).drew | assumption) ?_
  clear hK K
  intro hHeld2
  clear hHeld
  have hHeld := hHeld2
  clear hHeld2
  try simp only [Act.put, List.setIfInBounds_toArray, List.set_cons_zero, List.set_cons_succ]
  refine take_at (i := 9) 4 (v := ?_) rfl rfl (by kernel_rfl) (by kernel_rfl) (by kernel_rfl) (fun _ _ _ h => h) (by rfl) ?_ hHeld ?_
  rotate_left
  · (intro w hSw; (try dsimp only at hSw); go_simp; try with_reducible rfl)
  simp only [Act.put, List.setIfInBounds_toArray, List.set_cons_zero, List.set_cons_succ]
  refine wpAnyH_done (by kernel_rfl) ?_ _
  refine NoPanic.normal ?_
  go_wp2
  go_ret
  exact ⟨rfl, by assumption⟩
end
end Go.Proofs.Ytibolgpaolnheaa.Str
