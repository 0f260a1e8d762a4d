import Derived.Test.YtdoikcolkbjnfaaGreatLxB
namespace Go.Proofs.YtdoikcolkbjnfaaGreat
set_option linter.unusedVariables false
set_option linter.unusedSimpArgs false
open Go.RowKit Go.Maps
/-- a unit with its memory -/
structure UnM where
  u : Un
  da : Option Addr
  dn : Nat
  dc : Nat
  ga : Option Addr
  gn : Nat
  gc : Nat
abbrev UnM.c (x : UnM) : Array Value := unC x.u.kind x.u.ep x.u.se x.u.path x.u.idx x.u.cnt x.da x.dn x.dc x.u.code x.ga x.gn x.gc
structure UnOk (w : World) (x : UnM) : Prop where
  hn : x.dn = x.u.data.length
  hg : x.gn = x.u.got.length
  rd : Rd w x.da x.u.data
  dl : x.u.data.length ≤ x.dc
  dz : x.da = none → x.dc = 0
  db : x.dc ≤ 140737488351232
  rg : RdR w x.ga x.u.got
  gl : x.u.got.length ≤ x.gc
  gz : x.ga = none → x.gc = 0
  gb : x.gc ≤ 8796093021952
  ee : ∃ n : Nat, x.u.ep = (n : Int) ∧ n < 18446744073709551616
  es : ∃ n : Nat, x.u.se = (n : Int) ∧ n < 18446744073709551616
theorem UnOk.below {w w' : World} {x : UnM} (h : UnOk w x) (hb : Below w.heap.size w w') : UnOk w' x := ⟨h.hn, h.hg, Rd.below h.rd hb, h.dl, h.dz, h.db, h.rg.below hb, h.gl, h.gz, h.gb, h.ee, h.es⟩
end Go.Proofs.YtdoikcolkbjnfaaGreat
namespace Go.Proofs.YtdoikcolkbjnfaaGreat
set_option linter.unusedVariables false
set_option linter.unusedSimpArgs false
open Go.RowKit Go.Maps
abbrev tRi : TypeId := 107
/-- the document's rows -/
abbrev KO : Kd (Ss × Nat) := { t := 110, ts := 104, k := 3, by_ := 24, f := fun x => [.int .u64 (x.1.1 : Int), .int .u64 (x.1.2 : Int), .pointer (some ⟨x.2, 0, none⟩)], z := .agg #[.int .u64 0, .int .u64 0, .pointer none], hk := fun _ => rfl, h1 := (fun d u hu => by simp at hu; rcases hu with rfl | rfl | rfl <;> rfl), hpos := by decide, ht := Tryz.underlying104, hi := by kernel_rfl, hz := rfl }
abbrev KH : Kd (Ss × Int) := { t := 112, ts := 105, k := 3, by_ := 24, f := fun x => [.int .u64 (x.1.1 : Int), .int .u64 (x.1.2 : Int), .int .i64 x.2], z := .agg #[.int .u64 0, .int .u64 0, .int .i64 0], hk := fun _ => rfl, h1 := (fun d u hu => by simp at hu; rcases hu with rfl | rfl | rfl <;> rfl), hpos := by decide, ht := Tryz.underlying105, hi := by kernel_rfl, hz := rfl }
abbrev riC (J : Ib) (oa : Option Addr) (on oc : Nat) (sa : Option Addr) (sn sc : Nat) : Array Value := #[.int .i64 (J.mo : Int), .int .i64 (J.ms : Int), .int .u64 (J.ep : Int), .slice oa on oc, .slice sa sn sc]
/-- the document's inbox in memory -/
structure Rib (out : Option Ss) (w : World) (q : Nat) (oa : Option Addr) (on oc : Nat) (sa : Option Addr) (sn sc : Nat) (J : Ib) (E : List (Ss × Bg)) : Prop where
  hp : w.heap[q]? = some (.cells (riC J oa on oc sa sn sc) tRi (0, 0))
  ro : OwnG KO w 0 (.slice oa on oc) (mp Bg.q E)
  rs : OwnG KH w 0 (.slice sa sn sc) J.H
  bx : ∀ x, x ∈ E → out ≠ some x.1 → RBx w (some ⟨x.2.q, 0, none⟩) (some x.2.S) x.2.F
  ap : E.Pairwise (fun x y => out ≠ some x.1 → out ≠ some y.1 → ∀ b, x.2.F b → y.2.F b → False)
  nf : ∀ x, x ∈ E → out ≠ some x.1 → ∀ b, x.2.F b → b ≠ q ∧ (Value.slice oa on oc).ownBlock ≠ some b ∧ (Value.slice sa sn sc).ownBlock ≠ some b
  eO : J.O = mp Bg.S E
  ok : IbOk J
def footD (out : Option Ss) (q : Nat) (oa : Option Addr) (on oc : Nat) (sa : Option Addr) (sn sc : Nat) (E : List (Ss × Bg)) (b : Nat) : Prop := b = q ∨ (Value.slice oa on oc).ownBlock = some b ∨ (Value.slice sa sn sc).ownBlock = some b ∨ ∃ x, x ∈ E ∧ out ≠ some x.1 ∧ x.2.F b
theorem own_len {α : Type} {K : Kd α} {w : World} {B n c : Nat} {a : Option Addr} {xs : List α} (h : OwnG K w B (.slice a n c) xs) : n = xs.length := by
  rcases h.2 with ⟨e, h0⟩ | ⟨g, cap, cur, e, -⟩
  · simp only [Value.slice.injEq] at e
    omega
  · simp only [Value.slice.injEq] at e
    exact e.2.1
section
variable {out : Option Ss} {w w' : World} {q : Nat} {oa : Option Addr} {on oc : Nat} {sa : Option Addr} {sn sc : Nat} {J : Ib} {E : List (Ss × Bg)}
theorem Rib.lt (h : Rib out w q oa on oc sa sn sc J E) {b : Nat} (hb : footD out q oa on oc sa sn sc E b) : b < w.heap.size := by
  rcases hb with rfl | hb | hb | ⟨x, hx, ho, hf⟩
  · exact (Array.getElem?_eq_some_iff.1 h.hp).1
  · exact (h.ro.lt' hb).2
  · exact (h.rs.lt' hb).2
  · exact (h.bx x hx ho).lt b hf
theorem Rib.kept (h : Rib out w q oa on oc sa sn sc J E) (hs : w.heap.size ≤ w'.heap.size) (hk : ∀ b, footD out q oa on oc sa sn sc E b → w'.heap[b]? = w.heap[b]?) : Rib out w' q oa on oc sa sn sc J E :=
  ⟨(hk q (.inl rfl)).trans h.hp, h.ro.kept (fun b hb => hk b (.inr (.inl hb))), h.rs.kept (fun b hb => hk b (.inr (.inr (.inl hb)))), fun x hx ho => (h.bx x hx ho).kept hs (fun b hb => hk b (.inr (.inr (.inr ⟨x, hx, ho, hb⟩)))), h.ap, h.nf, h.eO, h.ok⟩
theorem Rib.below (h : Rib out w q oa on oc sa sn sc J E) (hb : Below w.heap.size w w') : Rib out w' q oa on oc sa sn sc J E := h.kept hb.size (fun b hf => hb.block b (h.lt hf))
theorem Rib.chg {D : Nat → Prop} (h : Rib out w q oa on oc sa sn sc J E) (hc : Chg D w w') (hD : ∀ b, footD out q oa on oc sa sn sc E b → ¬ D b) : Rib out w' q oa on oc sa sn sc J E := h.kept hc.size (fun b hf => hc.block b (h.lt hf) (hD b hf))
theorem Rib.cell (h : Rib out w q oa on oc sa sn sc J E) : w.cell? ⟨q, 0, none⟩ = some (.int .i64 (J.mo : Int)) ∧ w.cell? ⟨q, 1, none⟩ = some (.int .i64 (J.ms : Int)) ∧ w.cell? ⟨q, 2, none⟩ = some (.int .u64 (J.ep : Int)) ∧ w.cell? ⟨q, 3, none⟩ = some (.slice oa on oc) ∧ w.cell? ⟨q, 4, none⟩ = some (.slice sa sn sc) := by
  have h9 := h.hp
  exact ⟨by rw [cell_of_row _ _ _ _ _ _ h9]; rfl, by rw [cell_of_row _ _ _ _ _ _ h9]; rfl, by rw [cell_of_row _ _ _ _ _ _ h9]; rfl, by rw [cell_of_row _ _ _ _ _ _ h9]; rfl, by rw [cell_of_row _ _ _ _ _ _ h9]; rfl⟩
theorem Rib.onL (h : Rib out w q oa on oc sa sn sc J E) : on = J.O.length := by rw [own_len h.ro, len_mp, h.eO, len_mp]
theorem Rib.snL (h : Rib out w q oa on oc sa sn sc J E) : sn = J.H.length := own_len h.rs
end
/-- a row's element -/
theorem rdG_at {α : Type} {K : Kd α} {w : World} {B n c : Nat} {a : Option Addr} {xs : List α} (h : OwnG K w B (.slice a n c) xs) (k : Nat) (hk : k < xs.length) : ∃ b, a = some ⟨b, 0, none⟩ ∧ w.rangeAt b (k * K.k) (K.f xs[k]) := by
  rcases h.2 with ⟨e, h0⟩ | ⟨g, cap, cur, e, -⟩
  · omega
  · simp only [Value.slice.injEq] at e
    obtain ⟨rfl, rfl, rfl⟩ := e
    obtain ⟨b, o, e1, e2, -⟩ := OwnG.rd h k hk
    cases e1
    rw [Nat.zero_add] at e2
    exact ⟨g, rfl, e2⟩
section
set_option maxRecDepth 20000
set_option maxHeartbeats 1600000
theorem newI_ok {a b : Nat} (ha : 1 ≤ a) (ha2 : a ≤ 64) (hb : 1 ≤ b) (hb2 : b ≤ 4096) : IbOk (newI a b) := ⟨ha, ha2, hb, hb2, Nat.zero_le _, Nat.zero_le _, by simp [ks, newI], by simp [ks, newI], fun s hs => by simp [ks, newI] at hs, fun s hs => by simp [ks, newI] at hs, fun s hs => by simp [ks, newI] at hs, by show 0 < 18446744073709551616; decide⟩
theorem rnew_t13 (a b : Nat) (ha : 1 ≤ a) (ha2 : a ≤ 64) (hb : 1 ≤ b) (hb2 : b ≤ 4096) (w : World) : Calls Tryz.prog 42 #[.int .i64 (a : Int), .int .i64 (b : Int)] w fun e w' => ∃ q, e = .returned (.tuple #[.pointer (some ⟨q, 0, none⟩), .int .i64 0]) ∧ Rib none w' q none 0 0 none 0 0 (newI a b) [] ∧ w.heap.size ≤ q ∧ Below w.heap.size w w' := by
  have h1 : ¬ (a : Int) < 1 := by omega
  have h2 : ¬ 64 < (a : Int) := by omega
  have h3 : ¬ (b : Int) < 1 := by omega
  have h4 : ¬ 4096 < (b : Int) := by omega
  go_enter Tryz.func42, Tryz.ntmps42
  go_wp2
  go_ret2
  exact ⟨w.heap.size, rfl, ⟨heap_alloc_new w _, World.ownsRow_nil _ _ _ _, World.ownsRow_nil _ _ _ _, fun x hx => (List.not_mem_nil hx).elim, List.Pairwise.nil, fun x hx => (List.not_mem_nil hx).elim, rfl, newI_ok ha ha2 hb hb2⟩, Nat.le_refl _, al (Below.refl _ _) _⟩
end
end Go.Proofs.YtdoikcolkbjnfaaGreat
namespace Go.Proofs.YtdoikcolkbjnfaaGreat
set_option linter.unusedVariables false
set_option linter.unusedSimpArgs false
open Go.RowKit Go.Maps
/-- one call of a script -/
structure OpX where
  kd : Int
  x : UnM
  e : Nat
  n : Nat
  cd : Int
abbrev OpX.s (y : OpX) : Ss := (y.e, y.n)
abbrev tOpX : TypeId := 56
abbrev OpX.c (y : OpX) : Array Value := #[.int .i64 y.kd, .int .i64 y.x.u.kind, .int .u64 y.x.u.ep, .int .u64 y.x.u.se, .int .i64 y.x.u.path, .int .i64 y.x.u.idx, .int .i64 y.x.u.cnt, .slice y.x.da y.x.dn y.x.dc, .int .i64 y.x.u.code, .slice y.x.ga y.x.gn y.x.gc, .int .u64 (y.e : Int), .int .u64 (y.n : Int), .int .i64 y.cd]
structure OpOk (w : World) (y : OpX) : Prop where
  un : UnOk w y.x
  s : inS y.s
theorem OpOk.below {w w' : World} {y : OpX} (h : OpOk w y) (hb : Below w.heap.size w w') : OpOk w' y := ⟨h.un.below hb, h.s⟩
/-- a script that can be read -/
def RdX (w : World) (a : Option Addr) (xs : List OpX) : Prop := ∀ j (hj : j < xs.length), ∃ b o, a = some ⟨b, o, none⟩ ∧ w.rangeAt b (o + j * 13) (xs[j]).c.toList ∧ OpOk w xs[j]
theorem RdX.below {w w' : World} {a : Option Addr} {xs : List OpX} (h : RdX w a xs) (hb : Below w.heap.size w w') : RdX w' a xs := fun j hj => by
  obtain ⟨b, o, h1, h2, h3⟩ := h j hj
  exact ⟨b, o, h1, rangeAt_below h2 hb, h3.below hb⟩
/-- what a call leaves and answers -/
def doI (I : Ib) (y : OpX) : Ib := if y.kd = 1 then takeI I y.x.u else if y.kd = 2 then decI I y.s y.cd else if y.kd = 3 then dropI I y.s else I
theorem opCell {u : World} {P : Nat} {y : OpX} (h : u.heap[P]? = some (.cells y.c tOpX (0, 0))) : u.cell? ⟨P, 0, none⟩ = some (.int .i64 y.kd) ∧ u.cell? ⟨P, 10, none⟩ = some (.int .u64 (y.e : Int)) ∧ u.cell? ⟨P, 11, none⟩ = some (.int .u64 (y.n : Int)) ∧ u.cell? ⟨P, 12, none⟩ = some (.int .i64 y.cd) ∧ u.rangeAt P 1 y.x.c.toList := by
  refine ⟨by rw [cell_of_row _ _ _ _ _ _ h]; rfl, by rw [cell_of_row _ _ _ _ _ _ h]; rfl, by rw [cell_of_row _ _ _ _ _ _ h]; rfl, by rw [cell_of_row _ _ _ _ _ _ h]; rfl, fun j v hj => ?_⟩
  rw [cell_of_row _ _ _ _ _ _ h]
  match j, hj with
  | 0, hj => exact hj
  | 1, hj => exact hj
  | 2, hj => exact hj
  | 3, hj => exact hj
  | 4, hj => exact hj
  | 5, hj => exact hj
  | 6, hj => exact hj
  | 7, hj => exact hj
  | 8, hj => exact hj
  | j + 9, hj => simp at hj
theorem sizeUnX : (Tryz.prog.info? tUn).map (fun x => x.size) = some 9 := by kernel_rfl
set_option maxRecDepth 20000 in
theorem load_unX (u : World) (b o : Nat) (x : UnM) (h : u.rangeAt b o x.c.toList) : (Instr.loadAt tUn (.pointer (some ⟨b, o, none⟩))).run Tryz.prog u = .ok (.agg x.c) u :=
  run_loadAt_mid u b o _ x.c.toList _ h Tryz.underlying41 rfl sizeUnX
section
variable {w w' : World} {p N : Nat} {I : Ib} {F : Nat → Prop}
set_option maxRecDepth 20000
set_option maxHeartbeats 3200000
/-- the data of a unit that was there ahead of the inbox -/
theorem UnOk.far {w0 : World} {x : UnM} (h : UnOk w0 x) (hF : ∀ b, F b → w0.heap.size ≤ b) : 0 < x.u.data.length → ∀ b, F b → ∀ a, x.da = some a → a.block ≠ b := fun h0 b hb a ha e => by
  obtain ⟨b', o, e1, h1⟩ := h.rd h0
  rw [e1] at ha
  cases ha
  have h2 : b' < w0.heap.size := World.block_lt_of_cell? w0 _ (h1 0 h0)
  have h3 := hF b hb
  have h4 : b' = b := e
  omega
end
end Go.Proofs.YtdoikcolkbjnfaaGreat
