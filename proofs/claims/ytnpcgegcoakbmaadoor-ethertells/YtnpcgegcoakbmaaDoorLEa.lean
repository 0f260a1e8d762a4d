import Derived.Test.YtnpcgegcoakbmaaDoorRJ
namespace Go.Proofs.YtnpcgegcoakbmaaDoor
set_option linter.unusedVariables false
set_option linter.unusedSimpArgs false
open Go.RowKit
/-- a way of a side in memory: its blocks lie from B on, and X has none of them -/
structure On (S : Sd) (B : Nat) (X : Nat → Prop) (w : World) (p R : Nat) (L : List Dgm) : Prop where
  ex : ∃ v E, Wy S w p R v E L ∧ ∀ b, footY p v E b → B ≤ b ∧ ¬ X b
/-- what a call on a side may change -/
structure Fr (S : Sd) (B : Nat) (w w' : World) : Prop where
  bel : Below B w w'
  ty : ∀ (b : Nat) C t f, w.heap[b]? = some (.cells C t f) → t ≠ S.tW → t ≠ S.K.t → w'.heap[b]? = w.heap[b]?
theorem Fr.of_below {S : Sd} {B : Nat} {w w' : World} (h : Below w.heap.size w w') (hB : B ≤ w.heap.size) : Fr S B w w' :=
  ⟨h.mono hB, fun b C t f hb _ _ => h.block b (Array.getElem?_eq_some_iff.1 hb).1⟩
theorem Fr.own {S : Sd} {B : Nat} {w w' : World} (h : Fr S B w w') {B' : Nat} {v : Value} {xs : List UInt8} (ho : Own w B' v xs) : Own w' B' v xs := by
  refine Own.keptb ho (fun b e => ?_)
  rcases ho.2 with ⟨rfl, -⟩ | ⟨g, cap, cur, rfl, -, hg, -⟩
  · cases e
  · cases e
    exact h.ty _ _ _ _ hg (Ne.symm S.n2) (Ne.symm S.n3)
section
variable {S S2 : Sd} {B : Nat} {X : Nat → Prop} {w w' : World} {p q R : Nat} {L L' : List Dgm}
theorem On.after {v v' : Value} {E E' : List Dc} (h : Wy S w p R v E L) (hf : ∀ b, footY p v E b → B ≤ b ∧ ¬ X b) (hX : ∀ b, X b → b < w.heap.size) (hB : B ≤ w.heap.size) (h' : Wy S w' p R v' E' L') (st : WSt w w' p v E v' E') : On S B X w' p R L' ∧ Fr S B w w' := by
  refine ⟨⟨v', E', h', fun b hb => ?_⟩, st.chg.below (fun b hb => ?_) hB, fun b C t f hb h1 h2 => st.chg.block b (Array.getElem?_eq_some_iff.1 hb).1 (fun hc => ?_)⟩
  · rcases st.new b hb with h1 | h1
    · exact hf b h1
    · exact ⟨by omega, fun hx => by have := hX b hx; omega⟩
  · exact (hf b (hb.elim .inl (fun e => .inr (.inl e)))).1
  · rcases hc with rfl | hc
    · exact h1 (ty_of hb h.hp)
    · obtain ⟨cur, h3⟩ := h.row.at_ hc
      exact h2 (ty_of hb h3)
theorem On.lift (h : On S B X w p R L) (hX : ∀ b, X b → b < w.heap.size) (hB : B ≤ w.heap.size) {f : Nat} {args : Array Value} {A : Ending → World → Prop}
    (hc : ∀ v E, Wy S w p R v E L → Calls Tryd.prog f args w fun e w' => A e w' ∧ ∃ v' E', Wy S w' p R v' E' L' ∧ WSt w w' p v E v' E') : Calls Tryd.prog f args w fun e w' => A e w' ∧ On S B X w' p R L' ∧ Fr S B w w' := by
  obtain ⟨v, E, h1, hf⟩ := h
  refine Calls.mono (hc v E h1) ?_
  rintro e w' ⟨ha, v', E', h2, st⟩
  exact ⟨ha, On.after h1 hf hX hB h2 st⟩
theorem On.below (h : On S B X w p R L) (hb : Below w.heap.size w w') : On S B X w' p R L := by
  obtain ⟨v, E, h1, hf⟩ := h
  exact ⟨v, E, h1.below hb, hf⟩
theorem On.other (h : On S2 B X w q R L) (hfr : Fr S B w w') (n1 : S2.tW ≠ S.tW) (n2 : S2.tW ≠ S.K.t) (n3 : S2.K.t ≠ S.tW) (n4 : S2.K.t ≠ S.K.t) : On S2 B X w' q R L := by
  obtain ⟨v, E, h1, hf⟩ := h
  refine ⟨v, E, h1.kept (fun b hb => ?_), hf⟩
  rcases hb with rfl | hb | ⟨e, he, ad, ha, rfl⟩
  · exact hfr.ty _ _ _ _ h1.hp n1 n2
  · obtain ⟨cur, h3⟩ := h1.row.at_ hb
    exact hfr.ty _ _ _ _ h3 n3 n4
  · obtain ⟨xs, hx⟩ := h1.mem he
    obtain ⟨cur, fr, h3⟩ := hx.ty ad ha
    exact hfr.ty _ _ _ _ h3 (Ne.symm S.n2) (Ne.symm S.n3)
/-- a block that is new is none of the way's -/
theorem On.excl (h : On S B X w p R L) (hb : Below w.heap.size w w') (Y : Nat → Prop) (hY : ∀ b, Y b → X b ∨ w.heap.size ≤ b) : On S B Y w' p R L := by
  obtain ⟨v, E, h1, hf⟩ := h
  refine ⟨v, E, h1.below hb, fun b hf2 => ⟨(hf b hf2).1, fun hy => ?_⟩⟩
  rcases hY b hy with h2 | h2
  · exact (hf b hf2).2 h2
  · have := h1.lt hf2
    omega
/-- what is none of the way's may be written to -/
theorem On.write (h : On S B X w p R L) (hk : ∀ b, b < w.heap.size → ¬ X b → w'.heap[b]? = w.heap[b]?) : On S B X w' p R L := by
  obtain ⟨v, E, h1, hf⟩ := h
  exact ⟨v, E, h1.kept (fun b hb => hk b (h1.lt hb) (hf b hb).2), hf⟩
theorem On.less (h : On S B X w p R L) (Y : Nat → Prop) (hY : ∀ b, Y b → X b) : On S B Y w p R L := by
  obtain ⟨v, E, h1, hf⟩ := h
  exact ⟨v, E, h1, fun b hb => ⟨(hf b hb).1, fun hy => (hf b hb).2 (hY b hy)⟩⟩
theorem On.pr (h : On SP B X w p R L) (hfr : Fr SR B w w') : On SP B X w' p R L := h.other hfr (by decide) (by decide) (by decide) (by decide)
theorem On.rp (h : On SR B X w p R L) (hfr : Fr SP B w w') : On SR B X w' p R L := h.other hfr (by decide) (by decide) (by decide) (by decide)
theorem On.rg (h : On S B X w p R L) : 1 ≤ R ∧ R ≤ 1024 ∧ L.length ≤ R := by
  obtain ⟨v, E, h1, hf⟩ := h
  exact ⟨h1.r0, h1.r1, h1.lr⟩
end
section
variable {B : Nat} {X : Nat → Prop} {w : World} {p R : Nat} {L : List Dgm}
theorem oPut (h : On SP B X w p R L) (hX : ∀ b, X b → b < w.heap.size) (hB : B ≤ w.heap.size) (ao : Option Addr) (n cap : Nat) (xs : List UInt8) (hn : n = xs.length) (hx : Rd w ao xs) (hnil : ao = none → cap = 0) (hl : n ≤ 140737488355328) :
    Calls Tryd.prog 10 #[.pointer (some ⟨p, 0, none⟩), .slice ao n cap] w fun e w' => e = .returned (.int .i64 (putE R L xs)) ∧ On SP B X w' p R (putL R L xs) ∧ Fr SP B w w' :=
  h.lift hX hB (A := fun e _ => e = .returned (.int .i64 (putE R L xs))) (fun v E h1 => put_t h1 ao n cap xs hn hx hnil hl)
theorem orPut (h : On SR B X w p R L) (hX : ∀ b, X b → b < w.heap.size) (hB : B ≤ w.heap.size) (ao : Option Addr) (n cap : Nat) (xs : List UInt8) (hn : n = xs.length) (hx : Rd w ao xs) (hnil : ao = none → cap = 0) (hl : n ≤ 140737488355328) :
    Calls Tryd.prog 33 #[.pointer (some ⟨p, 0, none⟩), .slice ao n cap] w fun e w' => e = .returned (.int .i64 (putE R L xs)) ∧ On SR B X w' p R (putL R L xs) ∧ Fr SR B w w' :=
  h.lift hX hB (A := fun e _ => e = .returned (.int .i64 (putE R L xs))) (fun v E h1 => rput_t h1 ao n cap xs hn hx hnil hl)
theorem oDrop (h : On SP B X w p R L) (hX : ∀ b, X b → b < w.heap.size) (hB : B ≤ w.heap.size) (i : Int) :
    Calls Tryd.prog 11 #[.pointer (some ⟨p, 0, none⟩), .int .i64 i] w fun e w' => e = .returned (.int .i64 (plE L i)) ∧ On SP B X w' p R (dropL L i) ∧ Fr SP B w w' :=
  h.lift hX hB (A := fun e _ => e = .returned (.int .i64 (plE L i))) (fun v E h1 => drop_t h1 i)
theorem orDrop (h : On SR B X w p R L) (hX : ∀ b, X b → b < w.heap.size) (hB : B ≤ w.heap.size) (i : Int) :
    Calls Tryd.prog 37 #[.pointer (some ⟨p, 0, none⟩), .int .i64 i] w fun e w' => e = .returned (.int .i64 (plE L i)) ∧ On SR B X w' p R (dropL L i) ∧ Fr SR B w w' :=
  h.lift hX hB (A := fun e _ => e = .returned (.int .i64 (plE L i))) (fun v E h1 => rdrop_t h1 i)
theorem oDouble (h : On SP B X w p R L) (hX : ∀ b, X b → b < w.heap.size) (hB : B ≤ w.heap.size) (i : Int) :
    Calls Tryd.prog 12 #[.pointer (some ⟨p, 0, none⟩), .int .i64 i] w fun e w' => e = .returned (.int .i64 (dblE R L i)) ∧ On SP B X w' p R (dblL R L i) ∧ Fr SP B w w' :=
  h.lift hX hB (A := fun e _ => e = .returned (.int .i64 (dblE R L i))) (fun v E h1 => double_t h1 i)
theorem orDouble (h : On SR B X w p R L) (hX : ∀ b, X b → b < w.heap.size) (hB : B ≤ w.heap.size) (i : Int) :
    Calls Tryd.prog 38 #[.pointer (some ⟨p, 0, none⟩), .int .i64 i] w fun e w' => e = .returned (.int .i64 (dblE R L i)) ∧ On SR B X w' p R (dblL R L i) ∧ Fr SR B w w' :=
  h.lift hX hB (A := fun e _ => e = .returned (.int .i64 (dblE R L i))) (fun v E h1 => rdouble_t h1 i)
theorem oTurn (h : On SP B X w p R L) (hX : ∀ b, X b → b < w.heap.size) (hB : B ≤ w.heap.size) (i at_ : Int) (m : Nat) (hm : m < 4294967296) (ha0 : -9223372036854775808 ≤ at_) (ha1 : at_ ≤ 9223372036854775807) (ht : TabZ w) :
    Calls Tryd.prog 13 #[.pointer (some ⟨p, 0, none⟩), .int .i64 i, .int .i64 at_, .int .u32 (m : Int)] w fun e w' => e = .returned (.int .i64 (trnE L i at_ m)) ∧ On SP B X w' p R (trnL L i at_ m) ∧ Fr SP B w w' :=
  h.lift hX hB (A := fun e _ => e = .returned (.int .i64 (trnE L i at_ m))) (fun v E h1 => turn_t h1 i at_ m hm ha0 ha1 ht)
theorem orTurn (h : On SR B X w p R L) (hX : ∀ b, X b → b < w.heap.size) (hB : B ≤ w.heap.size) (i at_ : Int) (m : Nat) (hm : m < 4294967296) (ha0 : -9223372036854775808 ≤ at_) (ha1 : at_ ≤ 9223372036854775807) :
    Calls Tryd.prog 39 #[.pointer (some ⟨p, 0, none⟩), .int .i64 i, .int .i64 at_, .int .u32 (m : Int)] w fun e w' => e = .returned (.int .i64 (trnE L i at_ m)) ∧ On SR B X w' p R (trnL L i at_ m) ∧ Fr SR B w w' :=
  h.lift hX hB (A := fun e _ => e = .returned (.int .i64 (trnE L i at_ m))) (fun v E h1 => rturn_t h1 i at_ m hm ha0 ha1)
theorem oTake (h : On SP B X w p R L) (hX : ∀ b, X b → b < w.heap.size) (hB : B ≤ w.heap.size) (i : Int) :
    Calls Tryd.prog 8 #[.pointer (some ⟨p, 0, none⟩), .int .i64 i] w fun e w' => (∃ u, e = .returned (.tuple #[u, .int .i64 (plE L i)]) ∧ Own w' w.heap.size u (lookX L i)) ∧ On SP B X w' p R (dropL L i) ∧ Fr SP B w w' :=
  h.lift hX hB (A := fun e w' => ∃ u, e = .returned (.tuple #[u, .int .i64 (plE L i)]) ∧ Own w' w.heap.size u (lookX L i)) (fun v E h1 => Calls.mono (take_t h1 i) (fun e w' ⟨u, h2, h3, h4⟩ => ⟨⟨u, h2, h3⟩, h4⟩))
theorem orTake (h : On SR B X w p R L) (hX : ∀ b, X b → b < w.heap.size) (hB : B ≤ w.heap.size) (i : Int) :
    Calls Tryd.prog 36 #[.pointer (some ⟨p, 0, none⟩), .int .i64 i] w fun e w' => (∃ u, e = .returned (.tuple #[u, .int .i64 (plE L i)]) ∧ Own w' w.heap.size u (lookX L i)) ∧ On SR B X w' p R (dropL L i) ∧ Fr SR B w w' :=
  h.lift hX hB (A := fun e w' => ∃ u, e = .returned (.tuple #[u, .int .i64 (plE L i)]) ∧ Own w' w.heap.size u (lookX L i)) (fun v E h1 => Calls.mono (rtake_t h1 i) (fun e w' ⟨u, h2, h3, h4⟩ => ⟨⟨u, h2, h3⟩, h4⟩))
theorem oLook (h : On SP B X w p R L) (i : Int) : Calls Tryd.prog 7 #[.pointer (some ⟨p, 0, none⟩), .int .i64 i] w fun e w' => ∃ u, e = .returned (.tuple #[u, .int .i64 (plE L i)]) ∧ Own w' w.heap.size u (lookX L i) ∧ Below w.heap.size w w' := by
  obtain ⟨v, E, h1, -⟩ := h
  exact look_t h1 i
theorem orLook (h : On SR B X w p R L) (i : Int) : Calls Tryd.prog 35 #[.pointer (some ⟨p, 0, none⟩), .int .i64 i] w fun e w' => ∃ u, e = .returned (.tuple #[u, .int .i64 (plE L i)]) ∧ Own w' w.heap.size u (lookX L i) ∧ Below w.heap.size w w' := by
  obtain ⟨v, E, h1, -⟩ := h
  exact rlook_t h1 i
theorem oLen (h : On SP B X w p R L) : Calls Tryd.prog 9 #[.pointer (some ⟨p, 0, none⟩)] w fun e w' => e = .returned (.int .i64 (L.length : Int)) ∧ w' = w := by
  obtain ⟨v, E, h1, -⟩ := h
  exact len_t h1
/-- what the document's row is read as -/
theorem On.rcell (h : On SR B X w p R L) : ∃ a c, w.cell? ⟨p, 1, none⟩ = some (.slice a L.length c) := by
  obtain ⟨v, E, h1, -⟩ := h
  obtain ⟨a, c, hv, -⟩ := h1.row.val
  rw [h1.len] at hv
  exact ⟨a, c, hv ▸ h1.c1⟩
end
end Go.Proofs.YtnpcgegcoakbmaaDoor
