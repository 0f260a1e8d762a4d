import Derived.Test.YtibolgpaolnheaaBase
import Derived.Test.YtibolgpaolnheaaRegn
import Derived.Deep.MidRow
import Derived.Deep.WholeRow
import Derived.Laws.CopyOwn
import Derived.OwnWalk
import Derived.Laws.MakeOwn
import Derived.Deep.AppendLies
import Derived.Laws.AppendOwnNone
namespace Go.Proofs.Ytibolgpaolnheaa
set_option linter.unusedVariables false
set_option linter.unusedSimpArgs false
open Go.RowKit
theorem al {w w1 : World} (h : Below w.heap.size w w1) (o : Obj) : Below w.heap.size w (w1.alloc o) := h.alloc h.size o
theorem exec_load {P : Program} {a : Act} {oi : Oper} {t : TypeId} {x : Operand} (ho : oi.op = .load t x) {v : Value} {w : World} (h : (Instr.loadAt t (a.eval x)).run P w = .ok v w) : (execOp a.eval oi).run P w = .ok (.value v) w := by
  unfold execOp
  simp only [ho, Sem.run_bind, h, Result.andThen_ok]
  rfl
theorem rangeAt_below {w w' : World} {b o : Nat} {cs : List Value} (h : w.rangeAt b o cs) (hb : Below w.heap.size w w') : w'.rangeAt b o cs := fun j v hv => (hb.cell (World.block_lt_of_cell? w _ (h j v hv))).trans (h j v hv)
/-- a stamp -/
abbrev St := Nat × Nat
def ltS (a b : St) : Bool := decide (a.1 < b.1) || (decide (a.1 = b.1) && decide (a.2 < b.2))
abbrev sv (s : St) : Value := .agg #[.int .u64 (s.1 : Int), .int .u64 (s.2 : Int)]
abbrev sc (s : St) : List Value := [.int .u64 (s.1 : Int), .int .u64 (s.2 : Int)]
theorem ltS_iff {a b : St} : ltS a b = true ↔ a.1 < b.1 ∨ (a.1 = b.1 ∧ a.2 < b.2) := by unfold ltS; simp
theorem ltS_no {a b : St} : ltS a b = false ↔ ¬ (a.1 < b.1 ∨ (a.1 = b.1 ∧ a.2 < b.2)) := by rw [← ltS_iff]; simp
theorem ltS_trans {a b c : St} (h : ltS a b = true) (k : ltS b c = true) : ltS a c = true := by
  rw [ltS_iff] at *; omega
theorem ltS_irrefl (a : St) : ltS a a = false := by rw [ltS_no]; omega
theorem ltS_tri {a b : St} (h : ltS a b = false) (k : ltS b a = false) : a = b := by
  rw [ltS_no] at *
  exact Prod.ext (by omega) (by omega)
theorem ltS_le_trans {a b c : St} (h : ltS a b = true) (k : ltS c b = false) : ltS a c = true := by
  rw [ltS_iff] at *; rw [ltS_no] at k; omega
/-- an entry -/
structure Ent where
  st : St
  n : Nat
abbrev Ent.v (e : Ent) : Value := .int .u64 (e.n : Int)
theorem Ent.ok (e : Ent) : e.v.oneCell' = true := rfl
abbrev ev (e : Ent) : List Value := [.int .u64 (e.st.1 : Int), .int .u64 (e.st.2 : Int), e.v]
abbrev ea (e : Ent) : Value := .agg #[.int .u64 (e.st.1 : Int), .int .u64 (e.st.2 : Int), e.v]
abbrev tEn : TypeId := 75
/-- entries that can be read -/
def RdE (w : World) (ao : Option Addr) (xs : List Ent) : Prop := ∀ j (hj : j < xs.length), ∃ b o, ao = some ⟨b, o, none⟩ ∧ w.rangeAt b (o + j * 3) (ev xs[j]) ∧ ∃ cur fr, w.heap[b]? = some (.cells cur tEn fr)
theorem RdE.below {w w' : World} {ao : Option Addr} {xs : List Ent} (h : RdE w ao xs) (hb : Below w.heap.size w w') : RdE w' ao xs := fun j hj => by
  obtain ⟨b, o, h1, h2, cur, fr, h3⟩ := h j hj
  exact ⟨b, o, h1, rangeAt_below h2 hb, cur, fr, (hb.block b (Array.getElem?_eq_some_iff.1 h3).1).trans h3⟩
set_option maxRecDepth 20000 in
theorem less_t (a b : St) (w : World) : Calls Try.prog 30 #[sv a, sv b] w fun e w' => e = .returned (.bool (ltS a b)) ∧ Below w.heap.size w w' := by
  obtain ⟨a1, a2⟩ := a
  obtain ⟨b1, b2⟩ := b
  go_enter Try.func30, Try.ntmps30
  by_cases h1 : a1 < b1
  · have h1i : (a1 : Int) < (b1 : Int) := by omega
    go_wp2
    go_ret
    exact ⟨by simp [ltS, h1], al (al (Below.refl _ _) _) _⟩
  · have h1i : ¬ (a1 : Int) < (b1 : Int) := by omega
    by_cases h2 : a1 = b1
    · subst h2
      by_cases h3 : a2 < b2
      · have h3i : (a2 : Int) < (b2 : Int) := by omega
        go_wp2
        go_ret
        exact ⟨by simp [ltS, h3], al (al (Below.refl _ _) _) _⟩
      · have h3i : ¬ (a2 : Int) < (b2 : Int) := by omega
        go_wp2
        go_ret
        exact ⟨by simp [ltS, h3], al (al (Below.refl _ _) _) _⟩
    · have h2i : ¬ (a1 : Int) = (b1 : Int) := by omega
      have h2b : ((a1 : Int) == (b1 : Int)) = false := by simpa using h2i
      go_wp2
      go_ret
      exact ⟨by simp [ltS, h1, h2], al (al (Below.refl _ _) _) _⟩
end Go.Proofs.Ytibolgpaolnheaa
namespace Go.Proofs.Ytibolgpaolnheaa
set_option linter.unusedVariables false
set_option linter.unusedSimpArgs false
open Go.RowKit
abbrev tSt : TypeId := 34
abbrev tPg : TypeId := 76
abbrev tPs : TypeId := 71
theorem info_st : (Try.prog.info? tSt).map (·.size) = some 2 := by kernel_rfl
theorem load_st (u : World) (b o : Nat) (s : St) (h : u.rangeAt b o (sc s)) : (Instr.loadAt tSt (.pointer (some ⟨b, o, none⟩))).run Try.prog u = .ok (sv s) u :=
  run_loadAt_mid u b o _ (sc s) _ h Try.underlying34 rfl info_st
theorem range_st {u : World} {b o : Nat} {e : Ent} (h : u.rangeAt b o (ev e)) : u.rangeAt b o (sc e.st) := fun j v hv => h j v (by
  match j with
  | 0 => simpa using hv
  | 1 => simpa using hv
  | j + 2 => simp at hv)
/-- pages that can be read -/
def RdP (w : World) (pa : Option Addr) (P : List (List Ent)) : Prop := ∀ j (hj : j < P.length), ∃ b o, pa = some ⟨b, o, none⟩ ∧ ∃ a c, w.cell? ⟨b, o + j, none⟩ = some (.slice a P[j].length c) ∧ P[j].length ≤ c ∧ (a = none → c = 0) ∧ RdE w a P[j]
theorem RdP.below {w w' : World} {pa : Option Addr} {P : List (List Ent)} (h : RdP w pa P) (hb : Below w.heap.size w w') : RdP w' pa P := fun j hj => by
  obtain ⟨b, o, h1, a, c, h2, h3, h4, h5⟩ := h j hj
  exact ⟨b, o, h1, a, c, (hb.cell (World.block_lt_of_cell? w _ h2)).trans h2, h3, h4, h5.below hb⟩
/-- the first stamp of a page -/
def fst1 (p : List Ent) : St := (p.head?.map (·.st)).getD (0, 0)
theorem fst1_get {p : List Ent} (h : 0 < p.length) : fst1 p = p[0].st := by
  match p, h with
  | e :: l, _ => rfl
section
set_option maxRecDepth 20000
/-- the first closure: is s below the first stamp of page i? -/
theorem place1_t (g3 g7 : Nat) (s : St) (pa : Option Addr) (n cap : Nat) (P : List (List Ent)) (i : Nat) (w : World) (hn : n = P.length) (hi : i < n) (h3 : w.rangeAt g3 0 (sc s)) (h7 : w.cell? ⟨g7, 0, none⟩ = some (.slice pa n cap)) (hp : RdP w pa P) (hne : ∀ p ∈ P, 0 < p.length) :
    Calls Try.prog 47 #[.int .i64 (i : Int), .pointer (some ⟨g3, 0, none⟩), .pointer (some ⟨g7, 0, none⟩)] w fun e w' => e = .returned (.bool (ltS s (fst1 (P.getD i [])))) ∧ Below w.heap.size w w' := by
  have hiP : i < P.length := by omega
  have eP : P.getD i [] = P[i] := by simp [List.getD, hiP]
  have h0 : 0 < P[i].length := hne _ (List.getElem_mem hiP)
  obtain ⟨b, o, rfl, a, c, hc, hkc, hnc, hr⟩ := hp i hiP
  obtain ⟨b2, o2, rfl, hr2, -⟩ := hr 0 h0
  rw [eP, fst1_get h0]
  obtain ⟨st, hst⟩ : ∃ st, st = P[i][0].st := ⟨_, rfl⟩
  have hr3 := range_st hr2
  rw [← hst] at hr3 ⊢
  rw [Nat.zero_mul, Nat.add_zero] at hr3
  obtain ⟨k, hk⟩ : ∃ k, k = P[i].length := ⟨_, rfl⟩
  rw [← hk] at hc h0
  have hl3 : ∀ u, Below w.heap.size w u → (Instr.loadAt tSt (.pointer (some ⟨g3, 0, none⟩))).run Try.prog u = .ok (sv s) u := fun u hu => load_st u _ _ s (rangeAt_below h3 hu)
  have hl4 : ∀ u, Below w.heap.size w u → (Instr.loadAt tSt (.pointer (some ⟨b2, o2, none⟩))).run Try.prog u = .ok (sv st) u := fun u hu => load_st u _ _ st (rangeAt_below hr3 hu)
  have hc7 : ∀ u, Below w.heap.size w u → u.cell? ⟨g7, 0, none⟩ = some (.slice (some ⟨b, o, none⟩) n cap) := fun u hu => (hu.cell (World.block_lt_of_cell? w _ h7)).trans h7
  have hcp : ∀ u, Below w.heap.size w u → u.cell? ⟨b, o + i, none⟩ = some (.slice (some ⟨b2, o2, none⟩) k c) := fun u hu => (hu.cell (World.block_lt_of_cell? w _ hc)).trans hc
  have hii : (i : Int) < (n : Int) := by omega
  have hi0 : (0 : Int) ≤ (i : Int) := by omega
  have h0i : (0 : Int) < (k : Int) := by omega
  clear hn hp hne eP hr2 hr3 hst hk hr hc h7 h3 hkc hnc
  go_enter Try.func47, Try.ntmps47
  go_wp2_with fail
  refine wp_region_noPanic ?_
  refine wp_region_held_drew (S := (fun u => Below w.heap.size w u)) (by kernel_rfl) (by first | exact (Below.refl _ _).drew | assumption) (fun hHeld => ?_)
  refine take_at (i := 0) 5 (v := sv s) rfl rfl (by kernel_rfl) (by kernel_rfl) (by kernel_rfl) (fun _ _ _ h => h) (by rfl) ?_ hHeld ?_
  · (intro w hSw; refine exec_load (by rfl) ?_; exact hl3 w hSw)
  simp only [Act.put, List.setIfInBounds_toArray, List.set_cons_zero, List.set_cons_succ]
  refine take_at (i := 1) 6 (v := ?_) rfl rfl (by kernel_rfl) (by kernel_rfl) (by kernel_rfl) (fun _ _ _ h => h) (by rfl) ?_ hHeld ?_
  rotate_left
  · (intro w hSw; have h9 := hc7 w hSw; (try dsimp only at hSw); go_simp; try with_reducible rfl)
  simp only [Act.put, List.setIfInBounds_toArray, List.set_cons_zero, List.set_cons_succ]
  refine take_at (i := 2) 7 (v := ?_) rfl rfl (by kernel_rfl) (by kernel_rfl) (by kernel_rfl) (fun _ _ _ h => h) (by rfl) ?_ hHeld ?_
  rotate_left
  · (intro w hSw; (try dsimp only at hSw); go_simp; try with_reducible rfl)
  simp only [Act.put, List.setIfInBounds_toArray, List.set_cons_zero, List.set_cons_succ]
  refine take_at (i := 3) 8 (v := ?_) rfl rfl (by kernel_rfl) (by kernel_rfl) (by kernel_rfl) (fun _ _ _ h => h) (by rfl) ?_ hHeld ?_
  rotate_left
  · (intro w hSw; (try dsimp only at hSw); go_simp; try with_reducible rfl)
  simp only [Act.put, List.setIfInBounds_toArray, List.set_cons_zero, List.set_cons_succ]
  refine take_at (i := 4) 9 (v := ?_) rfl rfl (by kernel_rfl) (by kernel_rfl) (by kernel_rfl) (fun _ _ _ h => h) (by rfl) ?_ hHeld ?_
  rotate_left
  · (intro w hSw; have h9 := hcp w hSw; (try dsimp only at hSw); go_simp; try with_reducible rfl)
  simp only [Act.put, List.setIfInBounds_toArray, List.set_cons_zero, List.set_cons_succ]
  refine take_at (i := 5) 10 (v := ?_) rfl rfl (by kernel_rfl) (by kernel_rfl) (by kernel_rfl) (fun _ _ _ h => h) (by rfl) ?_ hHeld ?_
  rotate_left
  · (intro w hSw; (try dsimp only at hSw); go_simp; try with_reducible rfl)
  simp only [Act.put, List.setIfInBounds_toArray, List.set_cons_zero, List.set_cons_succ]
  refine take_at (i := 6) 11 (v := ?_) rfl rfl (by kernel_rfl) (by kernel_rfl) (by kernel_rfl) (fun _ _ _ h => h) (by rfl) ?_ hHeld ?_
  rotate_left
  · (intro w hSw; (try dsimp only at hSw); go_simp; try with_reducible rfl)
  simp only [Act.put, List.setIfInBounds_toArray, List.set_cons_zero, List.set_cons_succ]
  refine take_at (i := 7) 12 (v := sv st) rfl rfl (by kernel_rfl) (by kernel_rfl) (by kernel_rfl) (fun _ _ _ h => h) (by rfl) ?_ hHeld ?_
  · (intro w hSw; refine exec_load (by rfl) ?_; exact hl4 w hSw)
  simp only [Act.put, List.setIfInBounds_toArray, List.set_cons_zero, List.set_cons_succ]
  refine run_at (i := 8) rfl (by kernel_rfl) (by rfl) (fun K hK => ?_)
  simp only [List.getElem_toArray, List.getElem_cons_zero, List.getElem_cons_succ]
  go_simp
  (go_at_call 30; refine Calls.mono (less_t s st _) ?_; rintro e w1 ⟨rfl, hb1⟩; have hS1 : Below w.heap.size w w1 := below_next (Below.refl _ _).drew hb1)
  go_wp2_with fail
  refine hK.out _ _ (by first | exact (Below.refl _ _).drew | assumption) ?_
  clear hK K
  intro hHeld2
  clear hHeld
  have hHeld := hHeld2
  clear hHeld2
  try simp only [Act.put, List.setIfInBounds_toArray, List.set_cons_zero, List.set_cons_succ]
  refine take_at (i := 9) 4 (v := ?_) rfl rfl (by kernel_rfl) (by kernel_rfl) (by kernel_rfl) (fun _ _ _ h => h) (by rfl) ?_ hHeld ?_
  rotate_left
  · (intro w hSw; (try dsimp only at hSw); go_simp; try with_reducible rfl)
  simp only [Act.put, List.setIfInBounds_toArray, List.set_cons_zero, List.set_cons_succ]
  refine wpAnyH_done (by kernel_rfl) ?_ _
  refine NoPanic.normal ?_
  go_wp2
  go_ret
  exact ⟨rfl, by assumption⟩
end
end Go.Proofs.Ytibolgpaolnheaa
namespace Go.Proofs.Ytibolgpaolnheaa
set_option linter.unusedVariables false
set_option linter.unusedSimpArgs false
open Go.RowKit
section
set_option maxRecDepth 20000
/-- the second closure: is entry i not below s? -/
theorem place2_t (g3 g9 : Nat) (s : St) (ao : Option Addr) (n cap : Nat) (xs : List Ent) (i : Nat) (w : World) (hn : n = xs.length) (hi : i < n) (h3 : w.rangeAt g3 0 (sc s)) (h9 : w.cell? ⟨g9, 0, none⟩ = some (.slice ao n cap)) (hx : RdE w ao xs) :
    Calls Try.prog 48 #[.int .i64 (i : Int), .pointer (some ⟨g9, 0, none⟩), .pointer (some ⟨g3, 0, none⟩)] w fun e w' => e = .returned (.bool (!ltS ((xs.map (·.st)).getD i (0, 0)) s)) ∧ Below w.heap.size w w' := by
  have hiP : i < xs.length := by omega
  have eP : (xs.map (·.st)).getD i (0, 0) = xs[i].st := by simp [List.getD, hiP]
  obtain ⟨b, o, rfl, hr2, -⟩ := hx i hiP
  rw [eP]
  obtain ⟨st, hst⟩ : ∃ st, st = xs[i].st := ⟨_, rfl⟩
  have hr3 := range_st hr2
  rw [← hst] at hr3 ⊢
  have hl3 : ∀ u, Below w.heap.size w u → (Instr.loadAt tSt (.pointer (some ⟨g3, 0, none⟩))).run Try.prog u = .ok (sv s) u := fun u hu => load_st u _ _ s (rangeAt_below h3 hu)
  have hl4 : ∀ u, Below w.heap.size w u → (Instr.loadAt tSt (.pointer (some ⟨b, o + i * 3, none⟩))).run Try.prog u = .ok (sv st) u := fun u hu => load_st u _ _ st (rangeAt_below hr3 hu)
  have hc9 : ∀ u, Below w.heap.size w u → u.cell? ⟨g9, 0, none⟩ = some (.slice (some ⟨b, o, none⟩) n cap) := fun u hu => (hu.cell (World.block_lt_of_cell? w _ h9)).trans h9
  have hii : (i : Int) < (n : Int) := by omega
  have hi0 : (0 : Int) ≤ (i : Int) := by omega
  clear hn hx eP hr2 hr3 hst h9 h3
  go_enter Try.func48, Try.ntmps48
  go_wp2_with fail
  refine wp_region_noPanic ?_
  refine wp_region_held_drew (S := (fun u => Below w.heap.size w u)) (by kernel_rfl) (by first | exact (Below.refl _ _).drew | assumption) (fun hHeld => ?_)
  refine take_at (i := 0) 5 (v := ?_) rfl rfl (by kernel_rfl) (by kernel_rfl) (by kernel_rfl) (fun _ _ _ h => h) (by rfl) ?_ hHeld ?_
  rotate_left
  · (intro w hSw; have h9 := hc9 w hSw; (try dsimp only at hSw); go_simp; try with_reducible rfl)
  simp only [Act.put, List.setIfInBounds_toArray, List.set_cons_zero, List.set_cons_succ]
  refine take_at (i := 1) 6 (v := ?_) rfl rfl (by kernel_rfl) (by kernel_rfl) (by kernel_rfl) (fun _ _ _ h => h) (by rfl) ?_ hHeld ?_
  rotate_left
  · (intro w hSw; (try dsimp only at hSw); go_simp; try with_reducible rfl)
  simp only [Act.put, List.setIfInBounds_toArray, List.set_cons_zero, List.set_cons_succ]
  refine take_at (i := 2) 7 (v := ?_) rfl rfl (by kernel_rfl) (by kernel_rfl) (by kernel_rfl) (fun _ _ _ h => h) (by rfl) ?_ hHeld ?_
  rotate_left
  · (intro w hSw; (try dsimp only at hSw); go_simp; try with_reducible rfl)
  simp only [Act.put, List.setIfInBounds_toArray, List.set_cons_zero, List.set_cons_succ]
  refine take_at (i := 3) 8 (v := ?_) rfl rfl (by kernel_rfl) (by kernel_rfl) (by kernel_rfl) (fun _ _ _ h => h) (by rfl) ?_ hHeld ?_
  rotate_left
  · (intro w hSw; (try dsimp only at hSw); go_simp; try with_reducible rfl)
  simp only [Act.put, List.setIfInBounds_toArray, List.set_cons_zero, List.set_cons_succ]
  refine take_at (i := 4) 9 (v := sv st) rfl rfl (by kernel_rfl) (by kernel_rfl) (by kernel_rfl) (fun _ _ _ h => h) (by rfl) ?_ hHeld ?_
  · (intro w hSw; refine exec_load (by rfl) ?_; exact hl4 w hSw)
  simp only [Act.put, List.setIfInBounds_toArray, List.set_cons_zero, List.set_cons_succ]
  refine take_at (i := 5) 10 (v := sv s) rfl rfl (by kernel_rfl) (by kernel_rfl) (by kernel_rfl) (fun _ _ _ h => h) (by rfl) ?_ hHeld ?_
  · (intro w hSw; refine exec_load (by rfl) ?_; exact hl3 w hSw)
  simp only [Act.put, List.setIfInBounds_toArray, List.set_cons_zero, List.set_cons_succ]
  refine run_at (i := 6) rfl (by kernel_rfl) (by rfl) (fun K hK => ?_)
  simp only [List.getElem_toArray, List.getElem_cons_zero, List.getElem_cons_succ]
  go_simp
  (go_at_call 30; refine Calls.mono (less_t st s _) ?_; rintro e w1 ⟨rfl, hb1⟩; have hS1 : Below w.heap.size w w1 := below_next (Below.refl _ _).drew hb1)
  go_wp2_with fail
  refine hK.out _ _ (by first | exact (Below.refl _ _).drew | assumption) ?_
  clear hK K
  intro hHeld2
  clear hHeld
  have hHeld := hHeld2
  clear hHeld2
  try simp only [Act.put, List.setIfInBounds_toArray, List.set_cons_zero, List.set_cons_succ]
  refine take_at (i := 7) 12 (v := ?_) rfl rfl (by kernel_rfl) (by kernel_rfl) (by kernel_rfl) (fun _ _ _ h => h) (by rfl) ?_ hHeld ?_
  rotate_left
  · (intro w hSw; (try dsimp only at hSw); go_simp; try with_reducible rfl)
  simp only [Act.put, List.setIfInBounds_toArray, List.set_cons_zero, List.set_cons_succ]
  refine take_at (i := 8) 4 (v := ?_) rfl rfl (by kernel_rfl) (by kernel_rfl) (by kernel_rfl) (fun _ _ _ h => h) (by rfl) ?_ hHeld ?_
  rotate_left
  · (intro w hSw; (try dsimp only at hSw); go_simp; try with_reducible rfl)
  simp only [Act.put, List.setIfInBounds_toArray, List.set_cons_zero, List.set_cons_succ]
  refine wpAnyH_done (by kernel_rfl) ?_ _
  refine NoPanic.normal ?_
  go_wp2
  go_ret
  exact ⟨rfl, by assumption⟩
def Found (n : Nat) (p : Nat → Bool) (r : Nat) : Prop := r ≤ n ∧ (∀ k, k < r → p k = false) ∧ (∀ k, r ≤ k → k < n → p k = true)
theorem Found.uniq {n : Nat} {p : Nat → Bool} {r q : Nat} (h : Found n p r) (k : Found n p q) : r = q := by
  rcases Nat.lt_trichotomy r q with h1 | h1 | h1
  · have a := k.2.1 r h1
    have b := h.2.2 r (Nat.le_refl _) (by have := k.1; omega)
    rw [a] at b; cases b
  · exact h1
  · have a := h.2.1 q h1
    have b := k.2.2 q (Nat.le_refl _) (by have := h.1; omega)
    rw [a] at b; cases b
set_option maxHeartbeats 1600000 in
theorem search1_t (c1 c2 : Value) (n : Nat) (p : Nat → Bool) (w : World) (hl : n ≤ 4398046511104) (hm : ∀ a b, a ≤ b → b < n → p a = true → p b = true)
    (HC : ∀ (i : Nat) (u : World), i < n → Below w.heap.size w u → Calls Try.prog 47 #[.int .i64 (i : Int), c1, c2] u fun e w' => e = .returned (.bool (p i)) ∧ Below u.heap.size u w') :
    Calls Try.prog 46 #[.int .i64 (n : Int), .func (.func 47) #[] #[c1, c2]] w fun e w' => ∃ r : Nat, e = .returned (.int .i64 (r : Int)) ∧ Found n p r ∧ Below w.heap.size w w' := by
  have HCC : Hid _ := HC
  have HM : Hid _ := hm
  clear HC hm
  go_enter Try.func46, Try.ntmps46
  go_wp2
  go_loopw [5, 6, 7] (fun iv jv _ wr => ∃ i j : Nat, iv = .int .i64 (i : Int) ∧ jv = .int .i64 (j : Int) ∧ i ≤ j ∧ j ≤ n ∧ (∀ k, k < i → p k = false) ∧ (∀ k, j ≤ k → k < n → p k = true) ∧ Below w.heap.size w wr) (fun iv jv _ _ => (intOf jv).toNat - (intOf iv).toNat)
  case atStart => exact ⟨0, n, rfl, rfl, Nat.zero_le _, Nat.le_refl _, fun k hk => absurd hk (Nat.not_lt_zero _), fun k h1 h2 => by omega, Below.refl _ _⟩
  case round =>
    obtain ⟨i, j, rfl, rfl, hij, hjn, hlo, hhi, hbw⟩ := hrel
    have HLO : Hid _ := hlo
    have HHI : Hid _ := hhi
    have HBW : Hid _ := hbw
    clear hlo hhi hbw
    by_cases hlt : i < j
    · have hlti : (i : Int) < (j : Int) := by omega
      obtain ⟨M, hM⟩ : ∃ M : Nat, M = i + j := ⟨_, rfl⟩
      obtain ⟨H, hH⟩ : ∃ H : Nat, H = M / 2 := ⟨_, rfl⟩
      have hwM : IntKind.i64.wrap ((i : Int) + (j : Int)) = (M : Int) := by rw [IntKind.wrap_i64]; omega
      have hwu : IntKind.u64.wrap (M : Int) = (M : Int) := by rw [IntKind.wrap_u64]; omega
      have hdv : (M : Int) / 2 = (H : Int) := by omega
      have hwh : wrap64 (H : Int) = (H : Int) := by unfold wrap64; omega
      obtain ⟨H1, hH1⟩ : ∃ H1 : Nat, H1 = H + 1 := ⟨_, rfl⟩
      have hw1 : IntKind.i64.wrap ((H : Int) + 1) = (H1 : Int) := by rw [IntKind.wrap_i64]; omega
      have HH1 : Hid (H1 = H + 1) := hH1
      have hiH : i ≤ H := by omega
      have hHj : H < j := by omega
      have HMM : Hid (M = i + j ∧ H = M / 2) := ⟨hM, hH⟩
      have HCH : Hid _ := HCC.out H wr (by omega) HBW.out
      clear hM hH hH1
      go_wp2_with fail
      refine Calls.mono HCH.out ?_
      rintro e w1 ⟨rfl, hb1⟩
      have HB1 : Hid _ := below_next HBW.out hb1
      clear hb1
      cases hp : p H
      · have HP : Hid _ := hp
        clear hp
        go_wp2
        go_roundw
        case rel =>
          refine ⟨H1, j, rfl, rfl, by have := HH1.out; omega, hjn, fun k hk => ?_, HHI.out, HB1.out⟩
          cases hpk : p k
          · rfl
          · have h9 := HM.out k H (by have := HH1.out; omega) (by omega) hpk
            rw [HP.out] at h9
            cases h9
        case measure => have := HH1.out; simp [intOf]; omega
      · have HP : Hid _ := hp
        clear hp
        go_wp2
        go_roundw
        case rel => exact ⟨i, H, rfl, rfl, hiH, by omega, HLO.out, fun k h1 h2 => HM.out H k h1 h2 HP.out, HB1.out⟩
        case measure => simp [intOf]; omega
    · obtain rfl : i = j := by omega
      go_wp2
      go_ret
      exact ⟨i, rfl, ⟨hjn, HLO.out, HHI.out⟩, HBW.out⟩

set_option maxHeartbeats 1600000 in
theorem search2_t (c1 c2 : Value) (n : Nat) (p : Nat → Bool) (w : World) (hl : n ≤ 4398046511104) (hm : ∀ a b, a ≤ b → b < n → p a = true → p b = true)
    (HC : ∀ (i : Nat) (u : World), i < n → Below w.heap.size w u → Calls Try.prog 48 #[.int .i64 (i : Int), c1, c2] u fun e w' => e = .returned (.bool (p i)) ∧ Below u.heap.size u w') :
    Calls Try.prog 46 #[.int .i64 (n : Int), .func (.func 48) #[] #[c1, c2]] w fun e w' => ∃ r : Nat, e = .returned (.int .i64 (r : Int)) ∧ Found n p r ∧ Below w.heap.size w w' := by
  have HCC : Hid _ := HC
  have HM : Hid _ := hm
  clear HC hm
  go_enter Try.func46, Try.ntmps46
  go_wp2
  go_loopw [5, 6, 7] (fun iv jv _ wr => ∃ i j : Nat, iv = .int .i64 (i : Int) ∧ jv = .int .i64 (j : Int) ∧ i ≤ j ∧ j ≤ n ∧ (∀ k, k < i → p k = false) ∧ (∀ k, j ≤ k → k < n → p k = true) ∧ Below w.heap.size w wr) (fun iv jv _ _ => (intOf jv).toNat - (intOf iv).toNat)
  case atStart => exact ⟨0, n, rfl, rfl, Nat.zero_le _, Nat.le_refl _, fun k hk => absurd hk (Nat.not_lt_zero _), fun k h1 h2 => by omega, Below.refl _ _⟩
  case round =>
    obtain ⟨i, j, rfl, rfl, hij, hjn, hlo, hhi, hbw⟩ := hrel
    have HLO : Hid _ := hlo
    have HHI : Hid _ := hhi
    have HBW : Hid _ := hbw
    clear hlo hhi hbw
    by_cases hlt : i < j
    · have hlti : (i : Int) < (j : Int) := by omega
      obtain ⟨M, hM⟩ : ∃ M : Nat, M = i + j := ⟨_, rfl⟩
      obtain ⟨H, hH⟩ : ∃ H : Nat, H = M / 2 := ⟨_, rfl⟩
      have hwM : IntKind.i64.wrap ((i : Int) + (j : Int)) = (M : Int) := by rw [IntKind.wrap_i64]; omega
      have hwu : IntKind.u64.wrap (M : Int) = (M : Int) := by rw [IntKind.wrap_u64]; omega
      have hdv : (M : Int) / 2 = (H : Int) := by omega
      have hwh : wrap64 (H : Int) = (H : Int) := by unfold wrap64; omega
      obtain ⟨H1, hH1⟩ : ∃ H1 : Nat, H1 = H + 1 := ⟨_, rfl⟩
      have hw1 : IntKind.i64.wrap ((H : Int) + 1) = (H1 : Int) := by rw [IntKind.wrap_i64]; omega
      have HH1 : Hid (H1 = H + 1) := hH1
      have hiH : i ≤ H := by omega
      have hHj : H < j := by omega
      have HMM : Hid (M = i + j ∧ H = M / 2) := ⟨hM, hH⟩
      have HCH : Hid _ := HCC.out H wr (by omega) HBW.out
      clear hM hH hH1
      go_wp2_with fail
      refine Calls.mono HCH.out ?_
      rintro e w1 ⟨rfl, hb1⟩
      have HB1 : Hid _ := below_next HBW.out hb1
      clear hb1
      cases hp : p H
      · have HP : Hid _ := hp
        clear hp
        go_wp2
        go_roundw
        case rel =>
          refine ⟨H1, j, rfl, rfl, by have := HH1.out; omega, hjn, fun k hk => ?_, HHI.out, HB1.out⟩
          cases hpk : p k
          · rfl
          · have h9 := HM.out k H (by have := HH1.out; omega) (by omega) hpk
            rw [HP.out] at h9
            cases h9
        case measure => have := HH1.out; simp [intOf]; omega
      · have HP : Hid _ := hp
        clear hp
        go_wp2
        go_roundw
        case rel => exact ⟨i, H, rfl, rfl, hiH, by omega, HLO.out, fun k h1 h2 => HM.out H k h1 h2 HP.out, HB1.out⟩
        case measure => simp [intOf]; omega
    · obtain rfl : i = j := by omega
      go_wp2
      go_ret
      exact ⟨i, rfl, ⟨hjn, HLO.out, HHI.out⟩, HBW.out⟩

end
end Go.Proofs.Ytibolgpaolnheaa
