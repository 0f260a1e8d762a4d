import Derived.Test.YtdoikcolkbjnfaaGreatLxD
namespace Go.Proofs.YtdoikcolkbjnfaaGreat
set_option linter.unusedVariables false
set_option linter.unusedSimpArgs false
open Go.RowKit Go.Maps
/-- one call of a script -/
structure OpX where
  kd : Int
  x : UnM
  e : Nat
  n : Nat
  cd : Int
abbrev OpX.s (y : OpX) : Ss := (y.e, y.n)
abbrev tOpX : TypeId := 56
abbrev OpX.c (y : OpX) : Array Value := #[.int .i64 y.kd, .int .i64 y.x.u.kind, .int .u64 y.x.u.ep, .int .u64 y.x.u.se, .int .i64 y.x.u.path, .int .i64 y.x.u.idx, .int .i64 y.x.u.cnt, .slice y.x.da y.x.dn y.x.dc, .int .i64 y.x.u.code, .slice y.x.ga y.x.gn y.x.gc, .int .u64 (y.e : Int), .int .u64 (y.n : Int), .int .i64 y.cd]
structure OpOk (w : World) (y : OpX) : Prop where
  un : UnOk w y.x
  s : inS y.s
theorem OpOk.below {w w' : World} {y : OpX} (h : OpOk w y) (hb : Below w.heap.size w w') : OpOk w' y := ⟨h.un.below hb, h.s⟩
/-- a script that can be read -/
def RdX (w : World) (a : Option Addr) (xs : List OpX) : Prop := ∀ j (hj : j < xs.length), ∃ b o, a = some ⟨b, o, none⟩ ∧ w.rangeAt b (o + j * 13) (xs[j]).c.toList ∧ OpOk w xs[j]
theorem RdX.below {w w' : World} {a : Option Addr} {xs : List OpX} (h : RdX w a xs) (hb : Below w.heap.size w w') : RdX w' a xs := fun j hj => by
  obtain ⟨b, o, h1, h2, h3⟩ := h j hj
  exact ⟨b, o, h1, rangeAt_below h2 hb, h3.below hb⟩
/-- what a call leaves and answers -/
def doI (I : Ib) (y : OpX) : Ib := if y.kd = 1 then takeI I y.x.u else if y.kd = 2 then decI I y.s y.cd else if y.kd = 3 then dropI I y.s else I
theorem opCell {u : World} {P : Nat} {y : OpX} (h : u.heap[P]? = some (.cells y.c tOpX (0, 0))) : u.cell? ⟨P, 0, none⟩ = some (.int .i64 y.kd) ∧ u.cell? ⟨P, 10, none⟩ = some (.int .u64 (y.e : Int)) ∧ u.cell? ⟨P, 11, none⟩ = some (.int .u64 (y.n : Int)) ∧ u.cell? ⟨P, 12, none⟩ = some (.int .i64 y.cd) ∧ u.rangeAt P 1 y.x.c.toList := by
  refine ⟨by rw [cell_of_row _ _ _ _ _ _ h]; rfl, by rw [cell_of_row _ _ _ _ _ _ h]; rfl, by rw [cell_of_row _ _ _ _ _ _ h]; rfl, by rw [cell_of_row _ _ _ _ _ _ h]; rfl, fun j v hj => ?_⟩
  rw [cell_of_row _ _ _ _ _ _ h]
  match j, hj with
  | 0, hj => exact hj
  | 1, hj => exact hj
  | 2, hj => exact hj
  | 3, hj => exact hj
  | 4, hj => exact hj
  | 5, hj => exact hj
  | 6, hj => exact hj
  | 7, hj => exact hj
  | 8, hj => exact hj
  | j + 9, hj => simp at hj
theorem sizeUnX : (Tryz.prog.info? tUn).map (fun x => x.size) = some 9 := by kernel_rfl
set_option maxRecDepth 20000 in
theorem load_unX (u : World) (b o : Nat) (x : UnM) (h : u.rangeAt b o x.c.toList) : (Instr.loadAt tUn (.pointer (some ⟨b, o, none⟩))).run Tryz.prog u = .ok (.agg x.c) u :=
  run_loadAt_mid u b o _ x.c.toList _ h Tryz.underlying41 rfl sizeUnX
section
variable {w w' : World} {p N : Nat} {I : Ib} {F : Nat → Prop}
set_option maxRecDepth 20000
set_option maxHeartbeats 3200000
/-- the data of a unit that was there ahead of the inbox -/
theorem UnOk.far {w0 : World} {x : UnM} (h : UnOk w0 x) (hF : ∀ b, F b → w0.heap.size ≤ b) : 0 < x.u.data.length → ∀ b, F b → ∀ a, x.da = some a → a.block ≠ b := fun h0 b hb a ha e => by
  obtain ⟨b', o, e1, h1⟩ := h.rd h0
  rw [e1] at ha
  cases ha
  have h2 : b' < w0.heap.size := World.block_lt_of_cell? w0 _ (h1 0 h0)
  have h3 := hF b hb
  have h4 : b' = b := e
  omega
end
end Go.Proofs.YtdoikcolkbjnfaaGreat
namespace Go.Proofs.YtdoikcolkbjnfaaGreat
set_option linter.unusedVariables false
set_option linter.unusedSimpArgs false
open Go.RowKit Go.Maps
section
set_option maxRecDepth 20000
set_option maxHeartbeats 1600000
end
end Go.Proofs.YtdoikcolkbjnfaaGreat
namespace Go.Proofs.YtdoikcolkbjnfaaGreat
set_option linter.unusedVariables false
set_option linter.unusedSimpArgs false
open Go.RowKit Go.Maps
abbrev tRs : TypeId := 98
/-- the document's inbox: its cells and its rows -/
structure RiM (w : World) (q : Nat) (mo ms ep : Nat) (vo vs : Value) (XO : List (Ss × Nat)) (XH : List (Ss × Int)) : Prop where
  hp : w.heap[q]? = some (.cells #[.int .i64 (mo : Int), .int .i64 (ms : Int), .int .u64 (ep : Int), vo, vs] tRi (0, 0))
  ro : OwnG KO w 0 vo XO
  rs : OwnG KH w 0 vs XH
section
variable {w w' : World} {q mo ms ep : Nat} {vo vs : Value} {XO : List (Ss × Nat)} {XH : List (Ss × Int)}
theorem RiM.below (h : RiM w q mo ms ep vo vs XO XH) (hb : Below w.heap.size w w') : RiM w' q mo ms ep vo vs XO XH := ⟨(hb.block _ (Array.getElem?_eq_some_iff.1 h.hp).1).trans h.hp, OwnG.below h.ro hb, OwnG.below h.rs hb⟩
theorem RiM.cell (h : RiM w q mo ms ep vo vs XO XH) : w.cell? ⟨q, 0, none⟩ = some (.int .i64 (mo : Int)) ∧ w.cell? ⟨q, 1, none⟩ = some (.int .i64 (ms : Int)) ∧ w.cell? ⟨q, 2, none⟩ = some (.int .u64 (ep : Int)) ∧ w.cell? ⟨q, 3, none⟩ = some vo ∧ w.cell? ⟨q, 4, none⟩ = some vs := by
  have h9 := h.hp
  exact ⟨by rw [cell_of_row _ _ _ _ _ _ h9]; rfl, by rw [cell_of_row _ _ _ _ _ _ h9]; rfl, by rw [cell_of_row _ _ _ _ _ _ h9]; rfl, by rw [cell_of_row _ _ _ _ _ _ h9]; rfl, by rw [cell_of_row _ _ _ _ _ _ h9]; rfl⟩
theorem RiM.fz (h : RiM w q mo ms ep vo vs XO XH) (i : Nat) : w.frozen? ⟨q, i, none⟩ = false := by simp [World.frozen?, h.hp]
/-- where a session was found -/
def FindP {α : Type} (X : List (Ss × α)) (s : Ss) (e : Ending) : Prop := (∃ i, ∃ hi : i < X.length, X[i].1 = s ∧ e = .returned (.int .i64 (i : Int))) ∨ (s ∉ ks X ∧ e = .returned (.int .i64 (-1)))
set_option maxRecDepth 20000
set_option maxHeartbeats 3200000
theorem rise_no (h : RiM w q mo ms ep vo vs XO XH) (e : Nat) (he : ¬ ep < e) : Calls Tryz.prog 49 #[.pointer (some ⟨q, 0, none⟩), .int .u64 (e : Int)] w fun r w' => r = .returned (.tuple #[]) ∧ w' = w := by
  obtain ⟨c0, c1, c2, c3, c4⟩ := h.cell
  have hei : ¬ (ep : Int) < (e : Int) := by omega
  clear h he
  go_enter Tryz.func49, Tryz.ntmps49
  go_wp2
  exact bodyPost_end (results_none rfl _ _ _) rfl ⟨rfl, rfl⟩
theorem rise_up (h : RiM w q mo ms ep vo vs XO XH) (e : Nat) (he : ep < e) : Calls Tryz.prog 49 #[.pointer (some ⟨q, 0, none⟩), .int .u64 (e : Int)] w fun r w' => r = .returned (.tuple #[]) ∧ RiM w' q mo ms e (.slice none 0 0) (.slice none 0 0) [] [] ∧ Chg (fun b => b = q) w w' := by
  obtain ⟨c0, c1, c2, c3, c4⟩ := h.cell
  have f2 := h.fz 2
  have f3 := h.fz 3
  have f4 := h.fz 4
  have hei : (ep : Int) < (e : Int) := by omega
  have HP : Hid _ := h.hp
  clear h he
  go_enter Tryz.func49, Tryz.ntmps49
  go_wp2
  refine bodyPost_end (results_none rfl _ _ _) rfl ⟨rfl, ⟨?_, World.ownsRow_nil _ _ _ _, World.ownsRow_nil _ _ _ _⟩, Chg.of_grown (((gset1 w q 2 _).trans' (gset1 _ q 3 _)).trans' (gset1 _ q 4 _)) (fun b e => (Option.some.inj e).symm)⟩
  have h1 := heap_setCell_same w q 2 _ _ (.int .u64 (e : Int)) HP.out
  have h2 := heap_setCell_same _ q 3 _ _ (.slice none 0 0) h1
  have h3 := heap_setCell_same _ q 4 _ _ (.slice none 0 0) h2
  exact h3
theorem eql_rs (u : World) (a b c d : Int) : (binOp .eql tRs (.agg #[.int .u64 a, .int .u64 b]) (.agg #[.int .u64 c, .int .u64 d])).run Tryz.prog u = .ok (.bool (decide (a = c ∧ b = d))) u := by
  go_simp
  by_cases h1 : a = c <;> by_cases h2 : b = d <;> simp [h1, h2]
theorem rsBox (w : World) (s : Ss) : ∀ u, Below (w.heap.size + 1) (w.alloc (.cells #[.int .u64 (s.1 : Int), .int .u64 (s.2 : Int)] tRs)) u → u.cell? ⟨w.heap.size, 0, none⟩ = some (.int .u64 (s.1 : Int)) ∧ u.cell? ⟨w.heap.size, 1, none⟩ = some (.int .u64 (s.2 : Int)) := fun u hu => by
  have h9 := (hu.block w.heap.size (Nat.lt_succ_self _)).trans (heap_alloc_new _ _)
  exact ⟨by rw [cell_of_row _ _ _ _ _ _ h9]; rfl, by rw [cell_of_row _ _ _ _ _ _ h9]; rfl⟩
theorem ropen_t (h : RiM w q mo ms ep vo vs XO XH) (s : Ss) (hl : XO.length ≤ 16384) : Calls Tryz.prog 73 #[.pointer (some ⟨q, 0, none⟩), sv s] w fun e w' => FindP XO s e ∧ Below w.heap.size w w' := by
  obtain ⟨s1, s2⟩ := s
  have hkb := rsBox w (s1, s2)
  obtain ⟨w1, hw1⟩ : ∃ w1, w1 = w.alloc (.cells #[.int .u64 (s1 : Int), .int .u64 (s2 : Int)] tRs) := ⟨_, rfl⟩
  have hb1 : Below w.heap.size w w1 := by rw [hw1]; exact al (Below.refl _ _) _
  have hz1 : w1.heap.size = w.heap.size + 1 := by rw [hw1]; simp
  have hM1 := h.below hb1
  have hk : ∀ u, Below w1.heap.size w1 u → u.cell? ⟨w.heap.size, 0, none⟩ = some (.int .u64 (s1 : Int)) ∧ u.cell? ⟨w.heap.size, 1, none⟩ = some (.int .u64 (s2 : Int)) ∧ u.cell? ⟨q, 3, none⟩ = some vo := fun u hu => by
    have h9 := hkb u (by rw [← hw1, ← hz1]; exact hu)
    have h8 := (hM1.below hu).cell
    exact ⟨h9.1, h9.2, h8.2.2.2.1⟩
  obtain ⟨a, cp, hv, -, -, -, hrd⟩ := OwnG.val hM1.ro
  have HR : Hid (RdG KO w1 a XO) := hrd
  have HW1 : Hid (w1 = _) := hw1
  have HB1 : Hid _ := hb1
  subst hv
  obtain ⟨n, hn⟩ : ∃ n, n = XO.length := ⟨_, rfl⟩
  rw [← hn] at hk hl
  have HN : Hid (n = XO.length) := hn
  clear h hkb hb1 hz1 hw1 hn hM1 hrd
  go_enter Tryz.func73, Tryz.ntmps73
  go_wp2
  rw [← HW1.out]
  go_loopw [5] (fun j wr => ∃ k : Nat, k ≤ n ∧ j = .int .i64 (k : Int) ∧ Below w1.heap.size w1 wr ∧ Hid ((s1, s2) ∉ (ks XO).take k)) (fun j _ => n - (intOf j).toNat)
  case atStart => exact ⟨0, Nat.zero_le _, rfl, Below.refl _ _, by unfold Hid; simp⟩
  case round =>
    obtain ⟨k, hkn, rfl, hbw, HNO⟩ := hrel
    have hkw : IntKind.i64.wrap ((k : Int) + 1) = ((k + 1 : Nat) : Int) := by rw [IntKind.wrap_i64]; omega
    have hkr := hk wr hbw
    by_cases hlt : k < n
    · have hlti : (k : Int) < (n : Int) := by omega
      have hk0 : (0 : Int) ≤ (k : Int) := by omega
      have hk1 : k < XO.length := by rw [← HN.out]; exact hlt
      obtain ⟨b, o, rfl, r1, -⟩ := HR.out k hk1
      obtain ⟨x, hx⟩ : ∃ x : Ss × Nat, x = XO[k] := ⟨_, rfl⟩
      have g1 := r1 0 (.int .u64 (x.1.1 : Int)) (by rw [hx]; rfl)
      have g2 := r1 1 (.int .u64 (x.1.2 : Int)) (by rw [hx]; rfl)
      have hc : ∀ u, Below w1.heap.size w1 u → u.cell? ⟨b, o + k * 3, none⟩ = some (.int .u64 (x.1.1 : Int)) ∧ u.cell? ⟨b, o + k * 3 + 1, none⟩ = some (.int .u64 (x.1.2 : Int)) := fun u hu => ⟨(hu.cell (World.block_lt_of_cell? _ _ g1)).trans g1, (hu.cell (World.block_lt_of_cell? _ _ g2)).trans g2⟩
      have HX : Hid _ := hx
      have HBW : Hid _ := hbw
      obtain ⟨⟨x1, x2⟩, x3⟩ := x
      by_cases he : (x1, x2) = (s1, s2)
      · have hq : ∀ u, (binOp .eql tRs (.agg #[.int .u64 (x1 : Int), .int .u64 (x2 : Int)]) (.agg #[.int .u64 (s1 : Int), .int .u64 (s2 : Int)])).run Tryz.prog u = .ok (.bool true) u := fun u => by rw [eql_rs]; cases he; simp
        have HE : Hid (∃ hi : k < XO.length, XO[k].1 = (s1, s2)) := ⟨hk1, by rw [← HX.out]; exact he⟩
        clear r1 g1 g2 hx HX he hk1
        go_wp2_with fail
        refine wp_region_noPanic ?_
        refine wp_region_held_drew (S := (fun u => Below w1.heap.size w1 u)) (by kernel_rfl) (by first | exact hbw.drew | assumption) (fun hHeld => ?_)
        refine take_at (i := 0) 15 (v := ?_) rfl rfl (by kernel_rfl) (by kernel_rfl) (by kernel_rfl) (fun _ _ _ h => h) (by rfl) ?_ hHeld ?_
        rotate_left
        · (intro w hSw; (try dsimp only at hSw); go_simp; try with_reducible rfl)
        simp only [Act.put, List.setIfInBounds_toArray, List.set_cons_zero, List.set_cons_succ]
        refine take_at (i := 1) 16 (v := ?_) rfl rfl (by kernel_rfl) (by kernel_rfl) (by kernel_rfl) (fun _ _ _ h => h) (by rfl) ?_ hHeld ?_
        rotate_left
        · (intro w hSw; (try dsimp only at hSw); go_simp; try with_reducible rfl)
        simp only [Act.put, List.setIfInBounds_toArray, List.set_cons_zero, List.set_cons_succ]
        refine take_at (i := 2) 17 (v := ?_) rfl rfl (by kernel_rfl) (by kernel_rfl) (by kernel_rfl) (fun _ _ _ h => h) (by rfl) ?_ hHeld ?_
        rotate_left
        · (intro w hSw; (try dsimp only at hSw); go_simp; try with_reducible rfl)
        simp only [Act.put, List.setIfInBounds_toArray, List.set_cons_zero, List.set_cons_succ]
        refine take_at (i := 3) 18 (v := ?_) rfl rfl (by kernel_rfl) (by kernel_rfl) (by kernel_rfl) (fun _ _ _ h => h) (by rfl) ?_ hHeld ?_
        rotate_left
        · (intro w hSw; (try dsimp only at hSw); go_simp; try with_reducible rfl)
        simp only [Act.put, List.setIfInBounds_toArray, List.set_cons_zero, List.set_cons_succ]
        refine take_at (i := 4) 19 (v := ?_) rfl rfl (by kernel_rfl) (by kernel_rfl) (by kernel_rfl) (fun _ _ _ h => h) (by rfl) ?_ hHeld ?_
        rotate_left
        · (intro w hSw; (try dsimp only at hSw); go_simp; try with_reducible rfl)
        simp only [Act.put, List.setIfInBounds_toArray, List.set_cons_zero, List.set_cons_succ]
        refine take_at (i := 5) 20 (v := ?_) rfl rfl (by kernel_rfl) (by kernel_rfl) (by kernel_rfl) (fun _ _ _ h => h) (by rfl) ?_ hHeld ?_
        rotate_left
        · (intro w hSw; (try dsimp only at hSw); go_simp; try with_reducible rfl)
        simp only [Act.put, List.setIfInBounds_toArray, List.set_cons_zero, List.set_cons_succ]
        refine take_at (i := 6) 21 (v := ?_) rfl rfl (by kernel_rfl) (by kernel_rfl) (by kernel_rfl) (fun _ _ _ h => h) (by rfl) ?_ hHeld ?_
        rotate_left
        · (intro w hSw; (try dsimp only at hSw); go_simp; try with_reducible rfl)
        simp only [Act.put, List.setIfInBounds_toArray, List.set_cons_zero, List.set_cons_succ]
        refine take_at (i := 7) 22 (v := ?_) rfl rfl (by kernel_rfl) (by kernel_rfl) (by kernel_rfl) (fun _ _ _ h => h) (by rfl) ?_ hHeld ?_
        rotate_left
        · (intro w hSw; (try dsimp only at hSw); go_simp; try with_reducible rfl)
        simp only [Act.put, List.setIfInBounds_toArray, List.set_cons_zero, List.set_cons_succ]
        refine take_at (i := 8) 23 (v := ?_) rfl rfl (by kernel_rfl) (by kernel_rfl) (by kernel_rfl) (fun _ _ _ h => h) (by rfl) ?_ hHeld ?_
        rotate_left
        · (intro w hSw; (try dsimp only at hSw); go_simp; try with_reducible rfl)
        simp only [Act.put, List.setIfInBounds_toArray, List.set_cons_zero, List.set_cons_succ]
        refine take_at (i := 9) 24 (v := ?_) rfl rfl (by kernel_rfl) (by kernel_rfl) (by kernel_rfl) (fun _ _ _ h => h) (by rfl) ?_ hHeld ?_
        rotate_left
        · (intro w hSw; (try dsimp only at hSw); go_simp; try with_reducible rfl)
        simp only [Act.put, List.setIfInBounds_toArray, List.set_cons_zero, List.set_cons_succ]
        refine wpAnyH_done (by kernel_rfl) ?_ _
        refine NoPanic.normal ?_
        go_wp2
        go_ret
        exact ⟨.inl (HE.out.elim fun h8 h9 => ⟨k, h8, h9, rfl⟩), below_next HB1.out HBW.out.drew⟩
      · have hq : ∀ u, (binOp .eql tRs (.agg #[.int .u64 (x1 : Int), .int .u64 (x2 : Int)]) (.agg #[.int .u64 (s1 : Int), .int .u64 (s2 : Int)])).run Tryz.prog u = .ok (.bool false) u := fun u => by
          rw [eql_rs]
          have : ¬ ((x1 : Int) = s1 ∧ (x2 : Int) = s2) := fun h9 => he (by rw [show x1 = s1 by omega, show x2 = s2 by omega])
          simp [this]
        have HNX : Hid ((s1, s2) ∉ (ks XO).take (k + 1)) := by
          unfold Hid
          have hk2 : k < (ks XO).length := by rw [len_ks]; exact hk1
          rw [List.take_succ_eq_append_getElem hk2, List.mem_append, List.mem_singleton]
          rintro (h9 | h9)
          · exact HNO.out h9
          · exact he ((congrArg Prod.fst HX.out).trans (h9.trans (List.getElem_map _)).symm)
        clear r1 g1 g2 hx HX hk1 he HNO
        go_wp2_with fail
        refine wp_region_noPanic ?_
        refine wp_region_held_drew (S := (fun u => Below w1.heap.size w1 u)) (by kernel_rfl) (by first | exact hbw.drew | assumption) (fun hHeld => ?_)
        refine take_at (i := 0) 15 (v := ?_) rfl rfl (by kernel_rfl) (by kernel_rfl) (by kernel_rfl) (fun _ _ _ h => h) (by rfl) ?_ hHeld ?_
        rotate_left
        · (intro w hSw; (try dsimp only at hSw); go_simp; try with_reducible rfl)
        simp only [Act.put, List.setIfInBounds_toArray, List.set_cons_zero, List.set_cons_succ]
        refine take_at (i := 1) 16 (v := ?_) rfl rfl (by kernel_rfl) (by kernel_rfl) (by kernel_rfl) (fun _ _ _ h => h) (by rfl) ?_ hHeld ?_
        rotate_left
        · (intro w hSw; (try dsimp only at hSw); go_simp; try with_reducible rfl)
        simp only [Act.put, List.setIfInBounds_toArray, List.set_cons_zero, List.set_cons_succ]
        refine take_at (i := 2) 17 (v := ?_) rfl rfl (by kernel_rfl) (by kernel_rfl) (by kernel_rfl) (fun _ _ _ h => h) (by rfl) ?_ hHeld ?_
        rotate_left
        · (intro w hSw; (try dsimp only at hSw); go_simp; try with_reducible rfl)
        simp only [Act.put, List.setIfInBounds_toArray, List.set_cons_zero, List.set_cons_succ]
        refine take_at (i := 3) 18 (v := ?_) rfl rfl (by kernel_rfl) (by kernel_rfl) (by kernel_rfl) (fun _ _ _ h => h) (by rfl) ?_ hHeld ?_
        rotate_left
        · (intro w hSw; (try dsimp only at hSw); go_simp; try with_reducible rfl)
        simp only [Act.put, List.setIfInBounds_toArray, List.set_cons_zero, List.set_cons_succ]
        refine take_at (i := 4) 19 (v := ?_) rfl rfl (by kernel_rfl) (by kernel_rfl) (by kernel_rfl) (fun _ _ _ h => h) (by rfl) ?_ hHeld ?_
        rotate_left
        · (intro w hSw; (try dsimp only at hSw); go_simp; try with_reducible rfl)
        simp only [Act.put, List.setIfInBounds_toArray, List.set_cons_zero, List.set_cons_succ]
        refine take_at (i := 5) 20 (v := ?_) rfl rfl (by kernel_rfl) (by kernel_rfl) (by kernel_rfl) (fun _ _ _ h => h) (by rfl) ?_ hHeld ?_
        rotate_left
        · (intro w hSw; (try dsimp only at hSw); go_simp; try with_reducible rfl)
        simp only [Act.put, List.setIfInBounds_toArray, List.set_cons_zero, List.set_cons_succ]
        refine take_at (i := 6) 21 (v := ?_) rfl rfl (by kernel_rfl) (by kernel_rfl) (by kernel_rfl) (fun _ _ _ h => h) (by rfl) ?_ hHeld ?_
        rotate_left
        · (intro w hSw; (try dsimp only at hSw); go_simp; try with_reducible rfl)
        simp only [Act.put, List.setIfInBounds_toArray, List.set_cons_zero, List.set_cons_succ]
        refine take_at (i := 7) 22 (v := ?_) rfl rfl (by kernel_rfl) (by kernel_rfl) (by kernel_rfl) (fun _ _ _ h => h) (by rfl) ?_ hHeld ?_
        rotate_left
        · (intro w hSw; (try dsimp only at hSw); go_simp; try with_reducible rfl)
        simp only [Act.put, List.setIfInBounds_toArray, List.set_cons_zero, List.set_cons_succ]
        refine take_at (i := 8) 23 (v := ?_) rfl rfl (by kernel_rfl) (by kernel_rfl) (by kernel_rfl) (fun _ _ _ h => h) (by rfl) ?_ hHeld ?_
        rotate_left
        · (intro w hSw; (try dsimp only at hSw); go_simp; try with_reducible rfl)
        simp only [Act.put, List.setIfInBounds_toArray, List.set_cons_zero, List.set_cons_succ]
        refine take_at (i := 9) 24 (v := ?_) rfl rfl (by kernel_rfl) (by kernel_rfl) (by kernel_rfl) (fun _ _ _ h => h) (by rfl) ?_ hHeld ?_
        rotate_left
        · (intro w hSw; (try dsimp only at hSw); go_simp; try with_reducible rfl)
        simp only [Act.put, List.setIfInBounds_toArray, List.set_cons_zero, List.set_cons_succ]
        refine wpAnyH_done (by kernel_rfl) ?_ _
        refine NoPanic.normal ?_
        go_wp2
        go_roundw
        case rel => exact ⟨k + 1, by omega, by go_num, HBW.out.drew, HNX⟩
        case measure => simp [intOf]; omega
    · have hlti : ¬ (k : Int) < (n : Int) := by omega
      have HNM : Hid ((s1, s2) ∉ ks XO) := by
        have h9 := HNO.out
        rw [List.take_of_length_le (by rw [len_ks, ← HN.out]; omega)] at h9
        exact h9
      have HBW : Hid _ := hbw
      clear HNO
      go_wp2
      go_ret
      exact ⟨.inr ⟨HNM.out, rfl⟩, below_next HB1.out HBW.out⟩
theorem rshut_t (h : RiM w q mo ms ep vo vs XO XH) (s : Ss) (hl : XH.length ≤ 16384) : Calls Tryz.prog 50 #[.pointer (some ⟨q, 0, none⟩), sv s] w fun e w' => FindP XH s e ∧ Below w.heap.size w w' := by
  obtain ⟨s1, s2⟩ := s
  have hkb := rsBox w (s1, s2)
  obtain ⟨w1, hw1⟩ : ∃ w1, w1 = w.alloc (.cells #[.int .u64 (s1 : Int), .int .u64 (s2 : Int)] tRs) := ⟨_, rfl⟩
  have hb1 : Below w.heap.size w w1 := by rw [hw1]; exact al (Below.refl _ _) _
  have hz1 : w1.heap.size = w.heap.size + 1 := by rw [hw1]; simp
  have hM1 := h.below hb1
  have hk : ∀ u, Below w1.heap.size w1 u → u.cell? ⟨w.heap.size, 0, none⟩ = some (.int .u64 (s1 : Int)) ∧ u.cell? ⟨w.heap.size, 1, none⟩ = some (.int .u64 (s2 : Int)) ∧ u.cell? ⟨q, 4, none⟩ = some vs := fun u hu => by
    have h9 := hkb u (by rw [← hw1, ← hz1]; exact hu)
    have h8 := (hM1.below hu).cell
    exact ⟨h9.1, h9.2, h8.2.2.2.2⟩
  obtain ⟨a, cp, hv, -, -, -, hrd⟩ := OwnG.val hM1.rs
  have HR : Hid (RdG KH w1 a XH) := hrd
  have HW1 : Hid (w1 = _) := hw1
  have HB1 : Hid _ := hb1
  subst hv
  obtain ⟨n, hn⟩ : ∃ n, n = XH.length := ⟨_, rfl⟩
  rw [← hn] at hk hl
  have HN : Hid (n = XH.length) := hn
  clear h hkb hb1 hz1 hw1 hn hM1 hrd
  go_enter Tryz.func50, Tryz.ntmps50
  go_wp2
  rw [← HW1.out]
  go_loopw [5] (fun j wr => ∃ k : Nat, k ≤ n ∧ j = .int .i64 (k : Int) ∧ Below w1.heap.size w1 wr ∧ Hid ((s1, s2) ∉ (ks XH).take k)) (fun j _ => n - (intOf j).toNat)
  case atStart => exact ⟨0, Nat.zero_le _, rfl, Below.refl _ _, by unfold Hid; simp⟩
  case round =>
    obtain ⟨k, hkn, rfl, hbw, HNO⟩ := hrel
    have hkw : IntKind.i64.wrap ((k : Int) + 1) = ((k + 1 : Nat) : Int) := by rw [IntKind.wrap_i64]; omega
    have hkr := hk wr hbw
    by_cases hlt : k < n
    · have hlti : (k : Int) < (n : Int) := by omega
      have hk0 : (0 : Int) ≤ (k : Int) := by omega
      have hk1 : k < XH.length := by rw [← HN.out]; exact hlt
      obtain ⟨b, o, rfl, r1, -⟩ := HR.out k hk1
      obtain ⟨x, hx⟩ : ∃ x : Ss × Int, x = XH[k] := ⟨_, rfl⟩
      have g1 := r1 0 (.int .u64 (x.1.1 : Int)) (by rw [hx]; rfl)
      have g2 := r1 1 (.int .u64 (x.1.2 : Int)) (by rw [hx]; rfl)
      have hc : ∀ u, Below w1.heap.size w1 u → u.cell? ⟨b, o + k * 3, none⟩ = some (.int .u64 (x.1.1 : Int)) ∧ u.cell? ⟨b, o + k * 3 + 1, none⟩ = some (.int .u64 (x.1.2 : Int)) := fun u hu => ⟨(hu.cell (World.block_lt_of_cell? _ _ g1)).trans g1, (hu.cell (World.block_lt_of_cell? _ _ g2)).trans g2⟩
      have HX : Hid _ := hx
      have HBW : Hid _ := hbw
      obtain ⟨⟨x1, x2⟩, x3⟩ := x
      by_cases he : (x1, x2) = (s1, s2)
      · have hq : ∀ u, (binOp .eql tRs (.agg #[.int .u64 (x1 : Int), .int .u64 (x2 : Int)]) (.agg #[.int .u64 (s1 : Int), .int .u64 (s2 : Int)])).run Tryz.prog u = .ok (.bool true) u := fun u => by rw [eql_rs]; cases he; simp
        have HE : Hid (∃ hi : k < XH.length, XH[k].1 = (s1, s2)) := ⟨hk1, by rw [← HX.out]; exact he⟩
        clear r1 g1 g2 hx HX he hk1
        go_wp2_with fail
        refine wp_region_noPanic ?_
        refine wp_region_held_drew (S := (fun u => Below w1.heap.size w1 u)) (by kernel_rfl) (by first | exact hbw.drew | assumption) (fun hHeld => ?_)
        refine take_at (i := 0) 15 (v := ?_) rfl rfl (by kernel_rfl) (by kernel_rfl) (by kernel_rfl) (fun _ _ _ h => h) (by rfl) ?_ hHeld ?_
        rotate_left
        · (intro w hSw; (try dsimp only at hSw); go_simp; try with_reducible rfl)
        simp only [Act.put, List.setIfInBounds_toArray, List.set_cons_zero, List.set_cons_succ]
        refine take_at (i := 1) 16 (v := ?_) rfl rfl (by kernel_rfl) (by kernel_rfl) (by kernel_rfl) (fun _ _ _ h => h) (by rfl) ?_ hHeld ?_
        rotate_left
        · (intro w hSw; (try dsimp only at hSw); go_simp; try with_reducible rfl)
        simp only [Act.put, List.setIfInBounds_toArray, List.set_cons_zero, List.set_cons_succ]
        refine take_at (i := 2) 17 (v := ?_) rfl rfl (by kernel_rfl) (by kernel_rfl) (by kernel_rfl) (fun _ _ _ h => h) (by rfl) ?_ hHeld ?_
        rotate_left
        · (intro w hSw; (try dsimp only at hSw); go_simp; try with_reducible rfl)
        simp only [Act.put, List.setIfInBounds_toArray, List.set_cons_zero, List.set_cons_succ]
        refine take_at (i := 3) 18 (v := ?_) rfl rfl (by kernel_rfl) (by kernel_rfl) (by kernel_rfl) (fun _ _ _ h => h) (by rfl) ?_ hHeld ?_
        rotate_left
        · (intro w hSw; (try dsimp only at hSw); go_simp; try with_reducible rfl)
        simp only [Act.put, List.setIfInBounds_toArray, List.set_cons_zero, List.set_cons_succ]
        refine take_at (i := 4) 19 (v := ?_) rfl rfl (by kernel_rfl) (by kernel_rfl) (by kernel_rfl) (fun _ _ _ h => h) (by rfl) ?_ hHeld ?_
        rotate_left
        · (intro w hSw; (try dsimp only at hSw); go_simp; try with_reducible rfl)
        simp only [Act.put, List.setIfInBounds_toArray, List.set_cons_zero, List.set_cons_succ]
        refine take_at (i := 5) 20 (v := ?_) rfl rfl (by kernel_rfl) (by kernel_rfl) (by kernel_rfl) (fun _ _ _ h => h) (by rfl) ?_ hHeld ?_
        rotate_left
        · (intro w hSw; (try dsimp only at hSw); go_simp; try with_reducible rfl)
        simp only [Act.put, List.setIfInBounds_toArray, List.set_cons_zero, List.set_cons_succ]
        refine take_at (i := 6) 21 (v := ?_) rfl rfl (by kernel_rfl) (by kernel_rfl) (by kernel_rfl) (fun _ _ _ h => h) (by rfl) ?_ hHeld ?_
        rotate_left
        · (intro w hSw; (try dsimp only at hSw); go_simp; try with_reducible rfl)
        simp only [Act.put, List.setIfInBounds_toArray, List.set_cons_zero, List.set_cons_succ]
        refine take_at (i := 7) 22 (v := ?_) rfl rfl (by kernel_rfl) (by kernel_rfl) (by kernel_rfl) (fun _ _ _ h => h) (by rfl) ?_ hHeld ?_
        rotate_left
        · (intro w hSw; (try dsimp only at hSw); go_simp; try with_reducible rfl)
        simp only [Act.put, List.setIfInBounds_toArray, List.set_cons_zero, List.set_cons_succ]
        refine take_at (i := 8) 23 (v := ?_) rfl rfl (by kernel_rfl) (by kernel_rfl) (by kernel_rfl) (fun _ _ _ h => h) (by rfl) ?_ hHeld ?_
        rotate_left
        · (intro w hSw; (try dsimp only at hSw); go_simp; try with_reducible rfl)
        simp only [Act.put, List.setIfInBounds_toArray, List.set_cons_zero, List.set_cons_succ]
        refine take_at (i := 9) 24 (v := ?_) rfl rfl (by kernel_rfl) (by kernel_rfl) (by kernel_rfl) (fun _ _ _ h => h) (by rfl) ?_ hHeld ?_
        rotate_left
        · (intro w hSw; (try dsimp only at hSw); go_simp; try with_reducible rfl)
        simp only [Act.put, List.setIfInBounds_toArray, List.set_cons_zero, List.set_cons_succ]
        refine wpAnyH_done (by kernel_rfl) ?_ _
        refine NoPanic.normal ?_
        go_wp2
        go_ret
        exact ⟨.inl (HE.out.elim fun h8 h9 => ⟨k, h8, h9, rfl⟩), below_next HB1.out HBW.out.drew⟩
      · have hq : ∀ u, (binOp .eql tRs (.agg #[.int .u64 (x1 : Int), .int .u64 (x2 : Int)]) (.agg #[.int .u64 (s1 : Int), .int .u64 (s2 : Int)])).run Tryz.prog u = .ok (.bool false) u := fun u => by
          rw [eql_rs]
          have : ¬ ((x1 : Int) = s1 ∧ (x2 : Int) = s2) := fun h9 => he (by rw [show x1 = s1 by omega, show x2 = s2 by omega])
          simp [this]
        have HNX : Hid ((s1, s2) ∉ (ks XH).take (k + 1)) := by
          unfold Hid
          have hk2 : k < (ks XH).length := by rw [len_ks]; exact hk1
          rw [List.take_succ_eq_append_getElem hk2, List.mem_append, List.mem_singleton]
          rintro (h9 | h9)
          · exact HNO.out h9
          · exact he ((congrArg Prod.fst HX.out).trans (h9.trans (List.getElem_map _)).symm)
        clear r1 g1 g2 hx HX hk1 he HNO
        go_wp2_with fail
        refine wp_region_noPanic ?_
        refine wp_region_held_drew (S := (fun u => Below w1.heap.size w1 u)) (by kernel_rfl) (by first | exact hbw.drew | assumption) (fun hHeld => ?_)
        refine take_at (i := 0) 15 (v := ?_) rfl rfl (by kernel_rfl) (by kernel_rfl) (by kernel_rfl) (fun _ _ _ h => h) (by rfl) ?_ hHeld ?_
        rotate_left
        · (intro w hSw; (try dsimp only at hSw); go_simp; try with_reducible rfl)
        simp only [Act.put, List.setIfInBounds_toArray, List.set_cons_zero, List.set_cons_succ]
        refine take_at (i := 1) 16 (v := ?_) rfl rfl (by kernel_rfl) (by kernel_rfl) (by kernel_rfl) (fun _ _ _ h => h) (by rfl) ?_ hHeld ?_
        rotate_left
        · (intro w hSw; (try dsimp only at hSw); go_simp; try with_reducible rfl)
        simp only [Act.put, List.setIfInBounds_toArray, List.set_cons_zero, List.set_cons_succ]
        refine take_at (i := 2) 17 (v := ?_) rfl rfl (by kernel_rfl) (by kernel_rfl) (by kernel_rfl) (fun _ _ _ h => h) (by rfl) ?_ hHeld ?_
        rotate_left
        · (intro w hSw; (try dsimp only at hSw); go_simp; try with_reducible rfl)
        simp only [Act.put, List.setIfInBounds_toArray, List.set_cons_zero, List.set_cons_succ]
        refine take_at (i := 3) 18 (v := ?_) rfl rfl (by kernel_rfl) (by kernel_rfl) (by kernel_rfl) (fun _ _ _ h => h) (by rfl) ?_ hHeld ?_
        rotate_left
        · (intro w hSw; (try dsimp only at hSw); go_simp; try with_reducible rfl)
        simp only [Act.put, List.setIfInBounds_toArray, List.set_cons_zero, List.set_cons_succ]
        refine take_at (i := 4) 19 (v := ?_) rfl rfl (by kernel_rfl) (by kernel_rfl) (by kernel_rfl) (fun _ _ _ h => h) (by rfl) ?_ hHeld ?_
        rotate_left
        · (intro w hSw; (try dsimp only at hSw); go_simp; try with_reducible rfl)
        simp only [Act.put, List.setIfInBounds_toArray, List.set_cons_zero, List.set_cons_succ]
        refine take_at (i := 5) 20 (v := ?_) rfl rfl (by kernel_rfl) (by kernel_rfl) (by kernel_rfl) (fun _ _ _ h => h) (by rfl) ?_ hHeld ?_
        rotate_left
        · (intro w hSw; (try dsimp only at hSw); go_simp; try with_reducible rfl)
        simp only [Act.put, List.setIfInBounds_toArray, List.set_cons_zero, List.set_cons_succ]
        refine take_at (i := 6) 21 (v := ?_) rfl rfl (by kernel_rfl) (by kernel_rfl) (by kernel_rfl) (fun _ _ _ h => h) (by rfl) ?_ hHeld ?_
        rotate_left
        · (intro w hSw; (try dsimp only at hSw); go_simp; try with_reducible rfl)
        simp only [Act.put, List.setIfInBounds_toArray, List.set_cons_zero, List.set_cons_succ]
        refine take_at (i := 7) 22 (v := ?_) rfl rfl (by kernel_rfl) (by kernel_rfl) (by kernel_rfl) (fun _ _ _ h => h) (by rfl) ?_ hHeld ?_
        rotate_left
        · (intro w hSw; (try dsimp only at hSw); go_simp; try with_reducible rfl)
        simp only [Act.put, List.setIfInBounds_toArray, List.set_cons_zero, List.set_cons_succ]
        refine take_at (i := 8) 23 (v := ?_) rfl rfl (by kernel_rfl) (by kernel_rfl) (by kernel_rfl) (fun _ _ _ h => h) (by rfl) ?_ hHeld ?_
        rotate_left
        · (intro w hSw; (try dsimp only at hSw); go_simp; try with_reducible rfl)
        simp only [Act.put, List.setIfInBounds_toArray, List.set_cons_zero, List.set_cons_succ]
        refine take_at (i := 9) 24 (v := ?_) rfl rfl (by kernel_rfl) (by kernel_rfl) (by kernel_rfl) (fun _ _ _ h => h) (by rfl) ?_ hHeld ?_
        rotate_left
        · (intro w hSw; (try dsimp only at hSw); go_simp; try with_reducible rfl)
        simp only [Act.put, List.setIfInBounds_toArray, List.set_cons_zero, List.set_cons_succ]
        refine wpAnyH_done (by kernel_rfl) ?_ _
        refine NoPanic.normal ?_
        go_wp2
        go_roundw
        case rel => exact ⟨k + 1, by omega, by go_num, HBW.out.drew, HNX⟩
        case measure => simp [intOf]; omega
    · have hlti : ¬ (k : Int) < (n : Int) := by omega
      have HNM : Hid ((s1, s2) ∉ ks XH) := by
        have h9 := HNO.out
        rw [List.take_of_length_le (by rw [len_ks, ← HN.out]; omega)] at h9
        exact h9
      have HBW : Hid _ := hbw
      clear HNO
      go_wp2
      go_ret
      exact ⟨.inr ⟨HNM.out, rfl⟩, below_next HB1.out HBW.out⟩
end
end Go.Proofs.YtdoikcolkbjnfaaGreat
