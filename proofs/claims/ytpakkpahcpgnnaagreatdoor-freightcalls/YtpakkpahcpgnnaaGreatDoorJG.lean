import Derived.Test.YtpakkpahcpgnnaaGreatDoorJM
import Derived.Test.YtpakkpahcpgnnaaGreatDoorRCu
set_option linter.unusedVariables false
set_option linter.unusedSimpArgs false
namespace Go.Proofs.YtpakkpahcpgnnaaGreatDoor
open Go.RowKit Go.Maps
abbrev tJs : TypeId := 114
abbrev tJf : TypeId := 168
abbrev tJe : TypeId := 170
structure Fd where
 n : Nat
 k : Fk
 T : List Seg
 told : List Rg
 ag : Nat
 due : Nat
structure Dd where
 mtu : Nat
 rt : Nat
 rs : Nat
 win : Nat
 ep : Nat
 clk : Nat
 row : List (Fk × Seg)
 L : List Fd
def Fe.d (x : Fe) : Fd := ⟨x.n, x.k, x.T, x.told, x.ag, x.due⟩
def Fs.d (s : Fs) : Dd := ⟨s.mtu, s.rt, s.rs, s.win, s.ep, s.clk, s.row, s.L.map Fe.d⟩
structure DInv (t : Dd) : Prop where
 mt : 16 ≤ t.mtu ∧ t.mtu ≤ 1024
 rt : 1 ≤ t.rt ∧ t.rt ≤ 4096
 rs : t.rs ≤ 16
 wn : t.win ≤ 8
 c : t.clk ≤ mxX
 len : t.row.length + t.L.length ≤ 64
 num : ∀ x, x ∈ t.L → x.n ≤ mxX
 nn : (t.L.map Fd.n).Nodup
 nk : (t.row.map Prod.fst ++ t.L.map Fd.k).Nodup
 blk : ∀ r, r ∈ t.row → 1 ≤ r.2.length ∧ r.2.length ≤ 1024
 seg : ∀ x, x ∈ t.L → 1 ≤ x.T.length ∧ x.T.length ≤ 64
 td : ∀ x, x ∈ t.L → x.told.length ≤ 1000000
 ag : ∀ x, x ∈ t.L → x.ag ≤ t.rs
theorem FInv.d {s : Fs} (h : FInv s) (ht : ∀ x, x ∈ s.L → x.told.length ≤ 1000000) : DInv s.d := by
 refine ⟨h.mt, h.rt, h.rs, h.wn.2, h.c, ?_, ?_, ?_, ?_, h.blk, ?_, ?_, ?_⟩
 · show s.row.length + (s.L.map Fe.d).length ≤ 64; rw [List.length_map]; exact h.len
 · intro x hx; obtain ⟨y, hy, rfl⟩ := List.mem_map.1 hx; exact (h.num y hy).2
 · show ((s.L.map Fe.d).map Fd.n).Nodup; rw [List.map_map, List.nodup_iff_pairwise_ne, List.pairwise_map]; exact h.up.imp (fun {a b} h9 => Nat.ne_of_lt h9)
 · have h9 := h.nk; show (s.row.map Prod.fst ++ (s.L.map Fe.d).map Fd.k).Nodup; rw [List.map_map]; exact h9
 · intro x hx; obtain ⟨y, hy, rfl⟩ := List.mem_map.1 hx; exact (h.seg y hy).1
 · intro x hx; obtain ⟨y, hy, rfl⟩ := List.mem_map.1 hx; exact ht y hy
 · intro x hx; obtain ⟨y, hy, rfl⟩ := List.mem_map.1 hx; exact h.ag y hy
structure Fr where
 k : Fk
 d : Dc
 E : List Dc
structure Fq where
 x : Fd
 sg : Dc
 tl : Dc
 E : List Dc
abbrev fqv (y : Fq) : List Value := [.int .u64 (y.x.n : Int), .int .i64 y.x.k.1, .int .u64 (y.x.k.2 : Int), y.sg.v, y.tl.v, .int .i64 (y.x.ag : Int), .int .u64 (y.x.due : Int)]
abbrev KJf : Kd Fr := { t := tJf, ts := 111, k := 3, by_ := 40, f := fun r => [.int .i64 r.k.1, .int .u64 (r.k.2 : Int), r.d.v], z := .agg #[.int .i64 0, .int .u64 0, .slice none 0 0], hk := fun _ => rfl, h1 := (fun d u hu => by simp at hu; rcases hu with rfl | rfl | rfl <;> rfl), hpos := by decide, ht := Tryz.underlying111, hi := by kernel_rfl, hz := rfl }
abbrev KJe : Kd Fq := { t := tJe, ts := 112, k := 7, by_ := 88, f := fqv, z := .agg #[.int .u64 0, .int .i64 0, .int .u64 0, .slice none 0 0, .slice none 0 0, .int .i64 0, .int .u64 0], hk := fun _ => rfl, h1 := (fun d u hu => by simp at hu; rcases hu with rfl | rfl | rfl | rfl | rfl | rfl | rfl <;> rfl), hpos := by decide, ht := Tryz.underlying112, hi := by kernel_rfl, hz := rfl }
structure SegZ (w : World) (Z : Nat → Prop) (d : Dc) (T : List Seg) (E : List Dc) : Prop where
 ls : Lists w 0 d.v E T
 z : ∀ b, d.v.ownBlock = some b ∨ XV E b → Z b
structure TolZ (w : World) (Z : Nat → Prop) (d : Dc) (l : List Rg) : Prop where
 ow : OwnR w 0 d.v l
 z : ∀ b, d.v.ownBlock = some b → Z b
structure Jp where
 q : Nat
 rv : Value
 lv : Value
 R : List Fr
 Q : List Fq
 Z : Nat → Prop
abbrev cellsJ (t : Dd) (X : Value × Value) (rv lv : Value) : Array Value := #[.int .i64 (t.mtu : Int), X.1, .int .u64 (t.rt : Int), .int .i64 (t.rs : Int), .int .i64 (t.win : Int), X.2, .int .u64 (t.ep : Int), .int .u64 (t.clk : Int), rv, lv]
def footJ (P : Jp) (b : Nat) : Prop := b = P.q ∨ P.rv.ownBlock = some b ∨ P.lv.ownBlock = some b ∨ P.Z b
def ZTy (w : World) (Z : Nat → Prop) : Prop := ∀ b, Z b → ∃ C t, w.heap[b]? = some (.cells C t (0, 0)) ∧ t ≠ tJs ∧ t ≠ tJf ∧ t ≠ tJe
structure JS (w : World) (P : Jp) (X : Value × Value) (t : Dd) : Prop where
 blk : w.heap[P.q]? = some (.cells (cellsJ t X P.rv P.lv) tJs (0, 0))
 row : MidG KJf w P.rv P.R
 rk : P.R.map Fr.k = t.row.map Prod.fst
 rs : ∀ (i : Nat) r e, P.R[i]? = some r → t.row[i]? = some e → SegZ w P.Z r.d (segN e.2 t.mtu (cutN e.2.length t.mtu)) r.E
 l : OwnG KJe w 0 P.lv P.Q
 lx : P.Q.map Fq.x = t.L
 ls : ∀ y, y ∈ P.Q → SegZ w P.Z y.sg y.x.T y.E
 lq : ∀ y, y ∈ P.Q → TolZ w P.Z y.tl y.x.told
 zt : ZTy w P.Z
structure JStp (w w' : World) (P P' : Jp) : Prop where
 chg : Chg (footJ P) w w'
 new : ∀ b, footJ P' b → footJ P b ∨ w.heap.size ≤ b
section
variable {w w' : World} {Z Z' : Nat → Prop} {P P' P'' : Jp} {X : Value × Value} {t t' : Dd}
theorem SegZ.kept {d : Dc} {T : List Seg} {E : List Dc} (h : SegZ w Z d T E) (hk : ∀ b, Z b → w'.heap[b]? = w.heap[b]?) : SegZ w' Z d T E := ⟨h.ls.kept (fun b hb => hk b (h.z b hb)), h.z⟩
theorem SegZ.mono {d : Dc} {T : List Seg} {E : List Dc} (h : SegZ w Z d T E) (hz : ∀ b, Z b → Z' b) : SegZ w Z' d T E := ⟨h.ls, fun b hb => hz b (h.z b hb)⟩
theorem TolZ.kept {d : Dc} {l : List Rg} (h : TolZ w Z d l) (hk : ∀ b, Z b → w'.heap[b]? = w.heap[b]?) : TolZ w' Z d l := ⟨h.ow.keptR (fun b hb => hk b (h.z b hb)), h.z⟩
theorem TolZ.mono {d : Dc} {l : List Rg} (h : TolZ w Z d l) (hz : ∀ b, Z b → Z' b) : TolZ w Z' d l := ⟨h.ow, fun b hb => hz b (h.z b hb)⟩
theorem ZTy.lt (h : ZTy w Z) {b : Nat} (hb : Z b) : b < w.heap.size := by
 obtain ⟨C, t, h1, -⟩ := h b hb; exact (sI h1).1
theorem ZTy.kept (h : ZTy w Z) (hk : ∀ b, Z b → w'.heap[b]? = w.heap[b]?) : ZTy w' Z := fun b hb => by
 obtain ⟨C, t, h1, h2⟩ := h b hb; exact ⟨C, t, (hk b hb).trans h1, h2⟩
theorem JStp.refl (w : World) (P : Jp) : JStp w w P P := ⟨Chg.refl _ _, fun _ h => .inl h⟩
theorem JStp.below (h : Below w.heap.size w w') (P : Jp) : JStp w w' P P := ⟨Chg.of_below h, fun _ h => .inl h⟩
theorem JStp.trans {a b c : World} (h : JStp a b P P') (k : JStp b c P' P'') : JStp a c P P'' :=
 ⟨h.chg.trans k.chg h.new, fun i hi => by
   rcases k.new i hi with h1 | h1
   · exact h.new i h1
   · exact .inr (Nat.le_trans h.chg.size h1)⟩
theorem JS.ql (h : JS w P X t) : P.q < w.heap.size := (sI h.blk).1
theorem JS.lt (h : JS w P X t) {b : Nat} (hb : footJ P b) : b < w.heap.size := by
 rcases hb with rfl | hb | hb | hb
 · exact h.ql
 · exact h.row.lt hb
 · exact (h.l.lt' hb).2
 · exact h.zt.lt hb
theorem JS.qr (h : JS w P X t) : ∀ b, P.rv.ownBlock = some b → b ≠ P.q ∧ P.lv.ownBlock ≠ some b ∧ ¬ P.Z b := fun b hb => by
 obtain ⟨cur, h9⟩ := h.row.blk b hb; refine ⟨fun e => ?_, fun e => ?_, fun e => ?_⟩
 · rw [e, h.blk] at h9
   injection h9 with h9
   injection h9 with h9 h8
   exact absurd h8 (by decide)
 · obtain ⟨C, h7⟩ := h.l.at_ e; rw [h7] at h9
   injection h9 with h9
   injection h9 with h9 h8
   exact absurd h8 (by decide)
 · obtain ⟨C, ty, h7, -, h6, -⟩ := h.zt b e; rw [h7] at h9
   injection h9 with h9
   injection h9 with h9 h8
   exact h6 h8
theorem JS.ql2 (h : JS w P X t) : ∀ b, P.lv.ownBlock = some b → b ≠ P.q ∧ ¬ P.Z b := fun b hb => by
 obtain ⟨cur, h9⟩ := h.l.at_ hb; refine ⟨fun e => ?_, fun e => ?_⟩
 · rw [e, h.blk] at h9
   injection h9 with h9
   injection h9 with h9 h8
   exact absurd h8 (by decide)
 · obtain ⟨C, ty, h7, -, -, h6⟩ := h.zt b e; rw [h7] at h9
   injection h9 with h9
   injection h9 with h9 h8
   exact h6 h8
theorem JS.qz (h : JS w P X t) : ¬ P.Z P.q := fun e => by
 obtain ⟨C, ty, h7, h6, -⟩ := h.zt _ e; have h9 := h.blk; rw [h7] at h9
 injection h9 with h9
 injection h9 with h9 h8
 exact h6 h8
theorem JS.keptZ (h : JS w P X t) (hk : ∀ b, footJ P b → w'.heap[b]? = w.heap[b]?) : JS w' P X t := by
 have hz : ∀ b, P.Z b → w'.heap[b]? = w.heap[b]? := fun b hb => hk b (.inr (.inr (.inr hb)))
 exact ⟨(hk _ (.inl rfl)).trans h.blk, h.row.kept (fun b hb => hk b (.inr (.inl hb))), h.rk, fun i r e h1 h2 => (h.rs i r e h1 h2).kept hz, h.l.kept (fun b hb => hk b (.inr (.inr (.inl hb)))), h.lx, fun y hy => (h.ls y hy).kept hz, fun y hy => (h.lq y hy).kept hz, h.zt.kept hz⟩
theorem JS.chg {G : Nat → Prop} (h : JS w P X t) (hc : Chg G w w') (hG : ∀ b, footJ P b → ¬ G b) : JS w' P X t := h.keptZ (fun b hb => hc.block b (h.lt hb) (hG b hb))
theorem JS.below (h : JS w P X t) (hb : Below w.heap.size w w') : JS w' P X t := h.chg (Chg.of_below (F := fun _ => False) hb) (fun _ _ h => h)
theorem JS.cell (h : JS w P X t) (i : Nat) : w.cell? ⟨P.q, i, none⟩ = (cellsJ t X P.rv P.lv)[i]? := by rw [cR h.blk]
theorem JS.frz (h : JS w P X t) (i : Nat) : w.frozen? ⟨P.q, i, none⟩ = false := by simp [World.frozen?, h.blk]
theorem JS.rlen (h : JS w P X t) : P.R.length = t.row.length := by have := congrArg List.length h.rk; simpa using this
theorem JS.llen (h : JS w P X t) : P.Q.length = t.L.length := by have := congrArg List.length h.lx; simpa using this
theorem JS.setClk (h : JS w P X t) (c : Nat) : JS (w.setCell ⟨P.q, 7, none⟩ (.int .u64 (c : Int))) P X { t with clk := c } := by
 have hz : ∀ b, P.Z b → (w.setCell ⟨P.q, 7, none⟩ (.int .u64 (c : Int))).heap[b]? = w.heap[b]? := fun b hb => heap_setCell_other w ⟨P.q, 7, none⟩ b _ (fun e => h.qz ((show b = P.q from e) ▸ hb))
 exact ⟨heap_setCell_same w P.q 7 (cellsJ t X P.rv P.lv) tJs _ h.blk, h.row.kept (fun b hb => heap_setCell_other w ⟨P.q, 7, none⟩ b _ (h.qr b hb).1), h.rk, fun i r e h1 h2 => (h.rs i r e h1 h2).kept hz, h.l.kept (fun b hb => heap_setCell_other w ⟨P.q, 7, none⟩ b _ (h.ql2 b hb).1), h.lx, fun y hy => (h.ls y hy).kept hz, fun y hy => (h.lq y hy).kept hz, h.zt.kept hz⟩
theorem JS.setRow (h : JS w P X t) (hc : Chg (fun b => P.rv.ownBlock = some b) w w') {rv' : Value} {R' : List Fr} {row' : List (Fk × Seg)} (hr : MidG KJf w' rv' R') (hv : ∀ b, rv'.ownBlock = some b → P.rv.ownBlock = some b ∨ w.heap.size ≤ b) (hz : ∀ b, P.Z b → Z' b) (hzt : ZTy w' Z') (hzn : ∀ b, Z' b → P.Z b ∨ w.heap.size ≤ b) (hk : R'.map Fr.k = row'.map Prod.fst)
 (hs : ∀ (i : Nat) r e, R'[i]? = some r → row'[i]? = some e → SegZ w' Z' r.d (segN e.2 t.mtu (cutN e.2.length t.mtu)) r.E) :
 JS (w'.setCell ⟨P.q, 8, none⟩ rv') { P with rv := rv', R := R', Z := Z' } X { t with row := row' } ∧ JStp w (w'.setCell ⟨P.q, 8, none⟩ rv') P { P with rv := rv', R := R', Z := Z' } := by
 have hb := (hc.block P.q h.ql (fun e => (h.qr _ e).1 rfl)).trans h.blk
 have hq : ∀ b, rv'.ownBlock = some b → b ≠ P.q := fun b hb e => by
  rcases hv b hb with h1 | h1
  · exact (h.qr b h1).1 e
  · have := h.ql; omega
 have hz' : ∀ b, Z' b → (w'.setCell ⟨P.q, 8, none⟩ rv').heap[b]? = w'.heap[b]? := fun b hb' => heap_setCell_other w' ⟨P.q, 8, none⟩ b _ (fun e => by
   obtain ⟨C, ty, h7, h6, -⟩ := hzt b hb'; rw [e] at h7; rw [hb] at h7
   injection h7 with h7
   injection h7 with h7 h8
   exact h6 h8.symm)
 have hzo : ∀ b, P.Z b → w'.heap[b]? = w.heap[b]? := fun b hb' => hc.block b (h.zt.lt hb') (fun e => (h.qr b e).2.2 hb')
 refine ⟨⟨heap_setCell_same w' P.q 8 (cellsJ t X P.rv P.lv) tJs _ hb, hr.kept (fun b hb => heap_setCell_other w' ⟨P.q, 8, none⟩ b _ (hq b hb)), hk, fun i r e h1 h2 => (hs i r e h1 h2).kept hz', ?_, h.lx, ?_, ?_, hzt.kept hz'⟩, ?_, ?_⟩
 · exact (h.l.kept (fun b hb => hc.block b (h.l.lt' hb).2 (fun e => (h.qr b e).2.1 hb))).kept (fun b hb => heap_setCell_other w' ⟨P.q, 8, none⟩ b _ (h.ql2 b hb).1)
 · exact fun y hy => (((h.ls y hy).kept hzo).mono hz).kept hz'
 · exact fun y hy => (((h.lq y hy).kept hzo).mono hz).kept hz'
 · exact (hc.mono (fun b e => .inr (.inl e))).trans (Chg.of_grown (F := fun b => b = P.q) (gset1 w' P.q 8 rv') (fun b e => (Option.some.inj e).symm)) (fun i e => .inl (.inl e))
 · rintro b (rfl | hb | hb | hb)
   · exact .inl (.inl rfl)
   · exact (hv b hb).imp (fun e => .inr (.inl e)) id
   · exact .inl (.inr (.inr (.inl hb)))
   · exact (hzn b hb).imp (fun e => .inr (.inr (.inr e))) id
theorem JS.setL (h : JS w P X t) (hc : Chg (fun b => P.lv.ownBlock = some b) w w') {lv' : Value} {Q' : List Fq} (hr : OwnG KJe w' 0 lv' Q') (hv : ∀ b, lv'.ownBlock = some b → P.lv.ownBlock = some b ∨ w.heap.size ≤ b) (hz : ∀ b, P.Z b → Z' b) (hzt : ZTy w' Z') (hzn : ∀ b, Z' b → P.Z b ∨ w.heap.size ≤ b)
 (hs : ∀ y, y ∈ Q' → SegZ w' Z' y.sg y.x.T y.E) (hl : ∀ y, y ∈ Q' → TolZ w' Z' y.tl y.x.told) :
 JS (w'.setCell ⟨P.q, 9, none⟩ lv') { P with lv := lv', Q := Q', Z := Z' } X { t with L := Q'.map Fq.x } ∧ JStp w (w'.setCell ⟨P.q, 9, none⟩ lv') P { P with lv := lv', Q := Q', Z := Z' } := by
 have hb := (hc.block P.q h.ql (fun e => (h.ql2 _ e).1 rfl)).trans h.blk
 have hq : ∀ b, lv'.ownBlock = some b → b ≠ P.q := fun b hb e => by
  rcases hv b hb with h1 | h1
  · exact (h.ql2 b h1).1 e
  · have := h.ql; omega
 have hz' : ∀ b, Z' b → (w'.setCell ⟨P.q, 9, none⟩ lv').heap[b]? = w'.heap[b]? := fun b hb' => heap_setCell_other w' ⟨P.q, 9, none⟩ b _ (fun e => by
   obtain ⟨C, ty, h7, h6, -⟩ := hzt b hb'; rw [e] at h7; rw [hb] at h7
   injection h7 with h7
   injection h7 with h7 h8
   exact h6 h8.symm)
 have hzo : ∀ b, P.Z b → w'.heap[b]? = w.heap[b]? := fun b hb' => hc.block b (h.zt.lt hb') (fun e => (h.ql2 b e).2 hb')
 refine ⟨⟨heap_setCell_same w' P.q 9 (cellsJ t X P.rv P.lv) tJs _ hb, ?_, h.rk, ?_, hr.kept (fun b hb => heap_setCell_other w' ⟨P.q, 9, none⟩ b _ (hq b hb)), rfl, fun y hy => (hs y hy).kept hz', fun y hy => (hl y hy).kept hz', hzt.kept hz'⟩, ?_, ?_⟩
 · exact (h.row.kept (fun b hb => hc.block b (h.row.lt hb) (fun e => (h.qr b hb).2.1 e))).kept (fun b hb => heap_setCell_other w' ⟨P.q, 9, none⟩ b _ (h.qr b hb).1)
 · exact fun i r e h1 h2 => (((h.rs i r e h1 h2).kept hzo).mono hz).kept hz'
 · exact (hc.mono (fun b e => .inr (.inr (.inl e)))).trans (Chg.of_grown (F := fun b => b = P.q) (gset1 w' P.q 9 lv') (fun b e => (Option.some.inj e).symm)) (fun i e => .inl (.inl e))
 · rintro b (rfl | hb | hb | hb)
   · exact .inl (.inl rfl)
   · exact .inl (.inr (.inl hb))
   · exact (hv b hb).imp (fun e => .inr (.inr (.inl e))) id
   · exact (hzn b hb).imp (fun e => .inr (.inr (.inr e))) id
set_option maxRecDepth 20000
set_option maxHeartbeats 3200000
theorem jon_t (h : JS w P X t) (x : Nat) : Calls Tryz.prog 91 #[.pointer (some ⟨P.q, 0, none⟩), .int .u64 (x : Int)] w fun e w' => e = .returned (.tuple #[]) ∧ JS w' P X { t with clk := max t.clk (min x mxX) } ∧ JStp w w' P P := by
 have hc : w.cell? ⟨P.q, 7, none⟩ = some (.int .u64 (t.clk : Int)) := h.cell 7; have hf := h.frz 7; have HX : Hid (JS (w.setCell ⟨P.q, 7, none⟩ (.int .u64 ((max t.clk (min x mxX) : Nat) : Int))) P X { t with clk := max t.clk (min x mxX) }) := h.setClk _; have HM : Hid (((max t.clk (min x mxX) : Nat) : Int) = max (t.clk : Int) (min (x : Int) 281474976710655)) := by unfold Hid mxX; omega
 clear h; go_enter Tryz.func91, Tryz.ntmps91
 go_wp2; go_end0; rw [← HM.out]; exact ⟨rfl, HX.out, Chg.of_grown (gset1 _ _ _ _) (fun b e => .inl (Option.some.inj e).symm), fun _ h => .inl h⟩
end
open Go.RowKit Go.Maps
def PlJ (ks : List Fk) (k : Fk) (z : Int) : Prop := (∃ i : Nat, ks[i]? = some k ∧ z = (i : Int)) ∨ (k ∉ ks ∧ z = -1)
theorem PlJ.hit {ks : List Fk} {k : Fk} {i : Nat} (h : ks[i]? = some k) : PlJ (ks.take (i + 1)) k (i : Int) := .inl ⟨i, by rw [List.getElem?_take_of_lt (by omega)]; exact h, rfl⟩
theorem PlJ.miss {ks : List Fk} {k k' : Fk} {i : Nat} {z : Int} (h : PlJ (ks.take i) k z) (hi : ks[i]? = some k') (hn : k' ≠ k) : PlJ (ks.take (i + 1)) k z := by
 obtain ⟨hl, e⟩ := List.getElem?_eq_some_iff.1 hi; rcases h with ⟨j, h1, h2⟩ | ⟨h1, h2⟩
 · refine .inl ⟨j, ?_, h2⟩
   have hj : j < i := by
    have := (List.getElem?_eq_some_iff.1 h1).1; rw [List.length_take] at this; omega
   rw [List.getElem?_take_of_lt hj] at h1; rw [List.getElem?_take_of_lt (by omega)]; exact h1
 · refine .inr ⟨?_, h2⟩; rw [List.take_succ_eq_append_getElem hl, List.mem_append, List.mem_singleton]; rintro (h9 | h9)
   · exact h1 h9
   · exact hn (by rw [h9, e])
section
variable {w w' : World} {P P' : Jp} {X : Value × Value} {t : Dd}
set_option maxRecDepth 20000
set_option maxHeartbeats 6400000
theorem jplace_t (h : JS w P X t) (hi : DInv t) (k : Fk) : Calls Tryz.prog 90 #[.pointer (some ⟨P.q, 0, none⟩), fv k] w fun e w' => ∃ z1 z2 : Int, e = .returned (.tuple #[.int .i64 z1, .int .i64 z2]) ∧ PlJ (t.row.map Prod.fst) k z1 ∧ PlJ (t.L.map Fd.k) k z2 ∧ Below w.heap.size w w' := by
 obtain ⟨s1, s2⟩ := k; obtain ⟨w1, hw1⟩ : ∃ w1, w1 = w.alloc (.cells #[.int .i64 s1, .int .u64 (s2 : Int)] tFk) := ⟨_, rfl⟩; have hkb := keyBoxF w (s1, s2); have hb1 : Below w.heap.size w w1 := by rw [hw1]; exact alw (bR _ _) _
 have hz1 : w1.heap.size = w.heap.size + 1 := by rw [hw1]; simp
 have hM1 := h.below hb1
 have hk : ∀ u, Below w1.heap.size w1 u → u.cell? ⟨w.heap.size, 0, none⟩ = some (.int .i64 s1) ∧ u.cell? ⟨w.heap.size, 1, none⟩ = some (.int .u64 (s2 : Int)) ∧ u.cell? ⟨P.q, 8, none⟩ = some P.rv ∧ u.cell? ⟨P.q, 9, none⟩ = some P.lv := fun u hu => by
  have h9 := hkb u (by rw [← hw1, ← hz1]; exact hu); exact ⟨h9.1, h9.2.1, (hM1.below hu).cell 8, (hM1.below hu).cell 9⟩
 obtain ⟨a, cp, hv, -, -, hrd⟩ := MidG.val hM1.row; obtain ⟨a2, cp2, hv2, -, -, -, hrd2⟩ := OwnG.val hM1.l; have HR : Hid (RdG KJf w1 a P.R) := hrd; have HR2 : Hid (RdG KJe w1 a2 P.Q) := hrd2; have HW1 : Hid (w1 = _) := hw1; have HB1 : Hid _ := hb1; have HRK : Hid (P.R.map Fr.k = t.row.map Prod.fst) := h.rk; have HLX : Hid (P.Q.map (fun y => y.x.k) = t.L.map Fd.k) := by unfold Hid; rw [← h.lx, List.map_map]; rfl
 obtain ⟨n, hn⟩ : ∃ n, n = P.R.length := ⟨_, rfl⟩; obtain ⟨m, hm⟩ : ∃ m, m = P.Q.length := ⟨_, rfl⟩; have hl : n ≤ 64 := by rw [hn, h.rlen]; have := hi.len; omega
 have hl2 : m ≤ 64 := by rw [hm, h.llen]; have := hi.len; omega
 rw [← hn] at hv; rw [← hm] at hv2; rw [hv, hv2] at hk; have HN : Hid (n = P.R.length) := hn; have HM : Hid (m = P.Q.length) := hm; clear h hkb hb1 hz1 hw1 hn hm hM1 hrd hrd2 hi hv hv2; go_enter Tryz.func90, Tryz.ntmps90
 go_wp2; rw [← HW1.out]; go_loopw [6, 8] (fun r j wr => ∃ (i : Nat), i ≤ n ∧ (∃ z : Int, r = .int .i64 z ∧ j = .int .i64 (i : Int) ∧ Hid (PlJ ((P.R.map Fr.k).take i) (s1, s2) z)) ∧ Below w1.heap.size w1 wr) (fun _ j _ => n - (intOf j).toNat)
 case atStart => exact ⟨0, Nat.zero_le _, ⟨_, rfl, rfl, .inr ⟨by simp, rfl⟩⟩, bR _ _⟩
 case round =>
  obtain ⟨i, hin, ⟨z, rfl, rfl, HPL⟩, hbw⟩ := hrel; have hkw : IntKind.i64.wrap ((i : Int) + 1) = ((i + 1 : Nat) : Int) := by rw [IntKind.wrap_i64]; omega
  have hkr := hk wr hbw
  by_cases hlt : i < n
  · have hlti : (i : Int) < (n : Int) := by omega
    have hi0 : (0 : Int) ≤ (i : Int) := by omega
    have hi1 : i < P.R.length := by rw [← HN.out]; exact hlt
    obtain ⟨b, o, rfl, r1, -⟩ := HR.out i hi1; obtain ⟨x, hx⟩ : ∃ x : Fr, x = P.R[i] := ⟨_, rfl⟩; have g1 := r1 0 (.int .i64 x.k.1) (by rw [hx]; rfl); rw [Nat.add_zero] at g1; have g2 := r1 1 (.int .u64 (x.k.2 : Int)) (by rw [hx]; rfl); have hc : ∀ u, Below w1.heap.size w1 u → u.cell? ⟨b, o + i * 3, none⟩ = some (.int .i64 x.k.1) ∧ u.cell? ⟨b, o + i * 3 + 1, none⟩ = some (.int .u64 (x.k.2 : Int)) := fun u hu => ⟨(hu.cell (World.block_lt_of_cell? _ _ g1)).trans g1, (hu.cell (World.block_lt_of_cell? _ _ g2)).trans g2⟩
    have HKE : Hid ((P.R.map Fr.k)[i]? = some x.k) := by unfold Hid; rw [List.getElem?_map, List.getElem?_eq_getElem hi1, ← hx]; rfl
    obtain ⟨⟨x1, x2⟩, hxe⟩ : ∃ e, e = x.k := ⟨_, rfl⟩; rw [← hxe] at hc HKE; have HBW : Hid _ := hbw
    by_cases he : (x1, x2) = (s1, s2)
    · have hq : ∀ u, (binOp .eql tFk (.agg #[.int .i64 x1, .int .u64 (x2 : Int)]) (.agg #[.int .i64 s1, .int .u64 (s2 : Int)])).run Tryz.prog u = .ok (.bool true) u := fun u => by rw [eql_fk]; cases he; simp
      have HPX : Hid (PlJ ((P.R.map Fr.k).take (i + 1)) (s1, s2) (i : Int)) := PlJ.hit (by rw [HKE.out, he]); clear r1 g1 g2 hx hxe hi1 he HPL; (go_wp2_with fail); refine wp_region_noPanic ?_; refine wp_region_held_drew (S := (fun u => Below w1.heap.size w1 u)) (by kernel_rfl) (by first | exact hbw.drew | assumption) (fun hHeld => ?_); refine tz 0 19 hHeld ?_; simp only [pS]; refine tz 1 20 hHeld ?_; simp only [pS]; refine tz 2 21 hHeld ?_; simp only [pS]; refine tz 3 22 hHeld ?_; simp only [pS]; refine tz 4 23 hHeld ?_; simp only [pS]; refine tz 5 24 hHeld ?_; simp only [pS]; refine tz 6 25 hHeld ?_; simp only [pS]; refine tz 7 26 hHeld ?_; simp only [pS]; refine tz 8 27 hHeld ?_; simp only [pS]; refine tz 9 28 hHeld ?_; simp only [pS]; refine wpAnyH_done (by kernel_rfl) ?_ _; refine NoPanic.normal ?_; go_wp2; go_roundw
      case rel => exact ⟨i + 1, by omega, ⟨_, rfl, by go_num, HPX⟩, HBW.out.drew⟩
      case measure => simp [intOf]; omega
    · have hq : ∀ u, (binOp .eql tFk (.agg #[.int .i64 x1, .int .u64 (x2 : Int)]) (.agg #[.int .i64 s1, .int .u64 (s2 : Int)])).run Tryz.prog u = .ok (.bool false) u := fun u => by
       rw [eql_fk]; have : ¬ (x1 = s1 ∧ (x2 : Int) = s2) := fun h9 => he (by rw [h9.1, show x2 = s2 by omega])
       simp [this]
      have HPX : Hid (PlJ ((P.R.map Fr.k).take (i + 1)) (s1, s2) z) := PlJ.miss HPL.out HKE.out he; clear r1 g1 g2 hx hxe hi1 he HPL; (go_wp2_with fail); refine wp_region_noPanic ?_; refine wp_region_held_drew (S := (fun u => Below w1.heap.size w1 u)) (by kernel_rfl) (by first | exact hbw.drew | assumption) (fun hHeld => ?_); refine tz 0 19 hHeld ?_; simp only [pS]; refine tz 1 20 hHeld ?_; simp only [pS]; refine tz 2 21 hHeld ?_; simp only [pS]; refine tz 3 22 hHeld ?_; simp only [pS]; refine tz 4 23 hHeld ?_; simp only [pS]; refine tz 5 24 hHeld ?_; simp only [pS]; refine tz 6 25 hHeld ?_; simp only [pS]; refine tz 7 26 hHeld ?_; simp only [pS]; refine tz 8 27 hHeld ?_; simp only [pS]; refine tz 9 28 hHeld ?_; simp only [pS]; refine wpAnyH_done (by kernel_rfl) ?_ _; refine NoPanic.normal ?_; go_wp2; go_roundw
      case rel => exact ⟨i + 1, by omega, ⟨_, rfl, by go_num, HPX⟩, HBW.out.drew⟩
      case measure => simp [intOf]; omega
  · have hlti : ¬ (i : Int) < (n : Int) := by omega
    have HP1 : Hid (PlJ (P.R.map Fr.k) (s1, s2) z) := by
     have h9 := HPL.out; rw [List.take_of_length_le (by rw [List.length_map, ← HN.out]; omega)] at h9; exact h9
    clear HPL; have HBZ : Hid _ := hbw; go_wp2; go_loopw [7, 9] (fun r j wr => ∃ (i : Nat), i ≤ m ∧ (∃ z2 : Int, r = .int .i64 z2 ∧ j = .int .i64 (i : Int) ∧ Hid (PlJ ((P.Q.map (fun y => y.x.k)).take i) (s1, s2) z2)) ∧ Below w1.heap.size w1 wr) (fun _ j _ => m - (intOf j).toNat)
    case atStart => exact ⟨0, Nat.zero_le _, ⟨_, rfl, rfl, .inr ⟨by simp, rfl⟩⟩, HBZ.out⟩
    case round =>
     clear hlti hlt hkw hkr hbw hin; obtain ⟨i, hin, ⟨z2, rfl, rfl, HPL⟩, hbw⟩ := hrel; have hkw : IntKind.i64.wrap ((i : Int) + 1) = ((i + 1 : Nat) : Int) := by rw [IntKind.wrap_i64]; omega
     have hkr := hk wr hbw
     by_cases hlt : i < m
     · have hlti : (i : Int) < (m : Int) := by omega
       have hi0 : (0 : Int) ≤ (i : Int) := by omega
       have hi1 : i < P.Q.length := by rw [← HM.out]; exact hlt
       obtain ⟨b, o, rfl, r1, -⟩ := HR2.out i hi1; obtain ⟨x, hx⟩ : ∃ x : Fq, x = P.Q[i] := ⟨_, rfl⟩; have g1 := r1 1 (.int .i64 x.x.k.1) (by rw [hx]; rfl); have g2 := r1 2 (.int .u64 (x.x.k.2 : Int)) (by rw [hx]; rfl); have hc : ∀ u, Below w1.heap.size w1 u → u.cell? ⟨b, o + i * 7 + 1, none⟩ = some (.int .i64 x.x.k.1) ∧ u.cell? ⟨b, o + i * 7 + 1 + 1, none⟩ = some (.int .u64 (x.x.k.2 : Int)) := fun u hu => ⟨(hu.cell (World.block_lt_of_cell? _ _ g1)).trans g1, (hu.cell (World.block_lt_of_cell? _ _ g2)).trans g2⟩
       have HKE : Hid ((P.Q.map (fun y => y.x.k))[i]? = some x.x.k) := by unfold Hid; rw [List.getElem?_map, List.getElem?_eq_getElem hi1, ← hx]; rfl
       obtain ⟨⟨x1, x2⟩, hxe⟩ : ∃ e, e = x.x.k := ⟨_, rfl⟩; rw [← hxe] at hc HKE; have HBW : Hid _ := hbw
       by_cases he : (x1, x2) = (s1, s2)
       · have hq : ∀ u, (binOp .eql tFk (.agg #[.int .i64 x1, .int .u64 (x2 : Int)]) (.agg #[.int .i64 s1, .int .u64 (s2 : Int)])).run Tryz.prog u = .ok (.bool true) u := fun u => by rw [eql_fk]; cases he; simp
         have HPX : Hid (PlJ ((P.Q.map (fun y => y.x.k)).take (i + 1)) (s1, s2) (i : Int)) := PlJ.hit (by rw [HKE.out, he]); clear r1 g1 g2 hx hxe hi1 he HPL; (go_wp2_with fail); refine wp_region_noPanic ?_; refine wp_region_held_drew (S := (fun u => Below w1.heap.size w1 u)) (by kernel_rfl) (by first | exact hbw.drew | assumption) (fun hHeld => ?_); refine tz 0 39 hHeld ?_; simp only [pS]; refine tz 1 40 hHeld ?_; simp only [pS]; refine tz 2 41 hHeld ?_; simp only [pS]; refine tz 3 42 hHeld ?_; simp only [pS]; refine tz 4 43 hHeld ?_; simp only [pS]; refine tz 5 44 hHeld ?_; simp only [pS]; refine tz 6 45 hHeld ?_; simp only [pS]; refine tz 7 46 hHeld ?_; simp only [pS]; refine tz 8 47 hHeld ?_; simp only [pS]; refine tz 9 48 hHeld ?_; simp only [pS]; refine wpAnyH_done (by kernel_rfl) ?_ _; refine NoPanic.normal ?_; go_wp2; go_roundw
         case rel => exact ⟨i + 1, by omega, ⟨_, rfl, by go_num, HPX⟩, HBW.out.drew⟩
         case measure => simp [intOf]; omega
       · have hq : ∀ u, (binOp .eql tFk (.agg #[.int .i64 x1, .int .u64 (x2 : Int)]) (.agg #[.int .i64 s1, .int .u64 (s2 : Int)])).run Tryz.prog u = .ok (.bool false) u := fun u => by
          rw [eql_fk]; have : ¬ (x1 = s1 ∧ (x2 : Int) = s2) := fun h9 => he (by rw [h9.1, show x2 = s2 by omega])
          simp [this]
         have HPX : Hid (PlJ ((P.Q.map (fun y => y.x.k)).take (i + 1)) (s1, s2) z2) := PlJ.miss HPL.out HKE.out he; clear r1 g1 g2 hx hxe hi1 he HPL; (go_wp2_with fail); refine wp_region_noPanic ?_; refine wp_region_held_drew (S := (fun u => Below w1.heap.size w1 u)) (by kernel_rfl) (by first | exact hbw.drew | assumption) (fun hHeld => ?_); refine tz 0 39 hHeld ?_; simp only [pS]; refine tz 1 40 hHeld ?_; simp only [pS]; refine tz 2 41 hHeld ?_; simp only [pS]; refine tz 3 42 hHeld ?_; simp only [pS]; refine tz 4 43 hHeld ?_; simp only [pS]; refine tz 5 44 hHeld ?_; simp only [pS]; refine tz 6 45 hHeld ?_; simp only [pS]; refine tz 7 46 hHeld ?_; simp only [pS]; refine tz 8 47 hHeld ?_; simp only [pS]; refine tz 9 48 hHeld ?_; simp only [pS]; refine wpAnyH_done (by kernel_rfl) ?_ _; refine NoPanic.normal ?_; go_wp2; go_roundw
         case rel => exact ⟨i + 1, by omega, ⟨_, rfl, by go_num, HPX⟩, HBW.out.drew⟩
         case measure => simp [intOf]; omega
     · have hlti : ¬ (i : Int) < (m : Int) := by omega
       have HP2 : Hid (PlJ (P.Q.map (fun y => y.x.k)) (s1, s2) z2) := by
        have h9 := HPL.out; rw [List.take_of_length_le (by rw [List.length_map, ← HM.out]; omega)] at h9; exact h9
       clear HPL; have HBY : Hid _ := hbw; go_wp2; go_ret2; exact ⟨_, _, rfl, by rw [← HRK.out]; exact HP1.out, by rw [← HLX.out]; exact HP2.out, below_next HB1.out HBY.out⟩
end
open Go.RowKit Go.Maps
section
variable {w w' : World} {P P' : Jp} {X : Value × Value} {t : Dd}
set_option maxRecDepth 20000
set_option maxHeartbeats 6400000
theorem jwaiting_t (h : JS w P X t) (hi : DInv t) : Calls Tryz.prog 59 #[.pointer (some ⟨P.q, 0, none⟩)] w fun e w' => ∃ u, e = .returned u ∧ OwnG KKy w' w.heap.size u (t.row.map Prod.fst) ∧ Below w.heap.size w w' := by
 have hc8 : ∀ u, Below w.heap.size w u → u.cell? ⟨P.q, 8, none⟩ = some P.rv := fun u hu => (h.below hu).cell 8
 obtain ⟨a, cp, hv, -, -, hrd⟩ := MidG.val h.row; have HR : Hid (RdG KJf w a P.R) := hrd
 have HKS : Hid (P.R.map (fun y => y.k) = t.row.map Prod.fst) := by
  unfold Hid; exact h.rk
 obtain ⟨n, hn⟩ : ∃ n, n = P.R.length := ⟨_, rfl⟩; have hl : n ≤ 64 := by rw [hn, h.rlen]; have := hi.len; omega
 rw [← hn] at hv; rw [hv] at hc8; have HN : Hid (n = P.R.length) := hn; clear h hi hn hrd hv; rw [← HKS.out]; go_enter Tryz.func59, Tryz.ntmps59
 go_wp2; go_loopw [3, 4] (fun u j wr => ∃ k : Nat, k ≤ n ∧ j = .int .i64 (k : Int) ∧ OwnG KKy wr w.heap.size u ((P.R.map (fun y => y.k)).take k) ∧ Below w.heap.size w wr) (fun _ j _ => n - (intOf j).toNat)
 case atStart => exact ⟨0, Nat.zero_le _, rfl, World.ownsRow_nil _ _ _ _, bR _ _⟩
 case round =>
  obtain ⟨k, hkn, rfl, hown, hbw⟩ := hrel; have hkw : IntKind.i64.wrap ((k : Int) + 1) = ((k + 1 : Nat) : Int) := by rw [IntKind.wrap_i64]; omega
  have hc8r := hc8 wr hbw
  by_cases hlt : k < n
  · have hlti : (k : Int) < (n : Int) := by omega
    have hk0 : (0 : Int) ≤ (k : Int) := by omega
    have hk1 : k < P.R.length := by rw [← HN.out]; exact hlt
    obtain ⟨b, o, rfl, r1, -⟩ := RdG.below HR.out hbw k hk1; obtain ⟨x, hx⟩ : ∃ x : Fr, x = P.R[k] := ⟨_, rfl⟩; have g1 := r1 0 (.int .i64 x.k.1) (by rw [hx]; rfl); rw [Nat.add_zero] at g1; have g2 : wr.cell? ⟨b, o + k * 3 + 1, none⟩ = some (.int .u64 (x.k.2 : Int)) := r1 1 (.int .u64 (x.k.2 : Int)) (by rw [hx]; rfl)
    have HTK : Hid ((P.R.map (fun y => y.k)).take k ++ [x.k] = (P.R.map (fun y => y.k)).take (k + 1)) := by
     unfold Hid; rw [List.take_succ_eq_append_getElem (by simpa using hk1), List.getElem_map, ← hx]
    have HLK : Hid (k = ((P.R.map (fun y => y.k)).take k).length) := by unfold Hid; rw [List.length_take, List.length_map]; omega
    obtain ⟨kx, hkx⟩ : ∃ kx, kx = x.k := ⟨_, rfl⟩; rw [← hkx] at g1 g2 HTK; have HO : Hid (OwnG KKy (wr.alloc (.cells #[.int .i64 kx.1, .int .u64 (kx.2 : Int)] tFk)) w.heap.size u3 ((P.R.map (fun y => y.k)).take k)) := hown.below (alw (bR _ _) _); have HBW : Hid _ := hbw; have HSZ : Hid (w.heap.size ≤ wr.heap.size) := hbw.size; have HLT3 : Hid (∀ b, u3.ownBlock = some b → w.heap.size ≤ b) := fun b hb => (hown.lt' hb).1
    clear hx hkx r1 hown hk1 hbw hc8; go_wp2_with (at_builtin; refine wp_appG1 (K := KKy) rfl _ _ rfl w.heap.size u3 ((P.R.map (fun y => y.k)).take k) kx k HLK.out ⟨wr.heap.size, 0, none⟩ 1 rfl HO.out rfl (rdF_new _ kx _ rfl) (by show (k + 1) * 16 ≤ _; omega) (by simp only [maxLen]; omega) (by have := HSZ.out; simp; omega) ?_; intro g7 c7 w7 hown7 hg7 hlie7; rw [HTK.out] at hown7; have HO7 : Hid _ := hown7; have HG7 : Hid _ := hg7; clear hown7 hg7 hlie7)
    go_roundw
    case rel =>
     refine ⟨k + 1, hlt, by go_num, HO7.out, (alw HBW.out _).grown HG7.out (by have := HSZ.out; simp; omega) (fun j hj => HLT3.out j hj)⟩
    case measure => simp [intOf]; omega
  · have hlti : ¬ (k : Int) < (n : Int) := by omega
    have HO : Hid (OwnG KKy wr w.heap.size u3 (P.R.map (fun y => y.k))) := by
     have h9 := hown; rw [List.take_of_length_le (by rw [List.length_map, ← HN.out]; omega)] at h9; exact h9
    have HBW : Hid _ := hbw; clear hown hbw; go_wp2; go_ret; exact ⟨_, rfl, HO.out, HBW.out⟩
theorem jbusy_t (h : JS w P X t) (hi : DInv t) : Calls Tryz.prog 60 #[.pointer (some ⟨P.q, 0, none⟩)] w fun e w' => ∃ u, e = .returned u ∧ OwnG KKy w' w.heap.size u (t.L.map Fd.k) ∧ Below w.heap.size w w' := by
 have hc8 : ∀ u, Below w.heap.size w u → u.cell? ⟨P.q, 9, none⟩ = some P.lv := fun u hu => (h.below hu).cell 9
 obtain ⟨a, cp, hv, -, -, -, hrd⟩ := OwnG.val h.l; have HR : Hid (RdG KJe w a P.Q) := hrd
 have HKS : Hid (P.Q.map (fun y => y.x.k) = t.L.map Fd.k) := by
  unfold Hid; rw [← h.lx, List.map_map]; rfl
 obtain ⟨n, hn⟩ : ∃ n, n = P.Q.length := ⟨_, rfl⟩; have hl : n ≤ 64 := by rw [hn, h.llen]; have := hi.len; omega
 rw [← hn] at hv; rw [hv] at hc8; have HN : Hid (n = P.Q.length) := hn; clear h hi hn hrd hv; rw [← HKS.out]; go_enter Tryz.func60, Tryz.ntmps60
 go_wp2; go_loopw [3, 4] (fun u j wr => ∃ k : Nat, k ≤ n ∧ j = .int .i64 (k : Int) ∧ OwnG KKy wr w.heap.size u ((P.Q.map (fun y => y.x.k)).take k) ∧ Below w.heap.size w wr) (fun _ j _ => n - (intOf j).toNat)
 case atStart => exact ⟨0, Nat.zero_le _, rfl, World.ownsRow_nil _ _ _ _, bR _ _⟩
 case round =>
  obtain ⟨k, hkn, rfl, hown, hbw⟩ := hrel; have hkw : IntKind.i64.wrap ((k : Int) + 1) = ((k + 1 : Nat) : Int) := by rw [IntKind.wrap_i64]; omega
  have hc8r := hc8 wr hbw
  by_cases hlt : k < n
  · have hlti : (k : Int) < (n : Int) := by omega
    have hk0 : (0 : Int) ≤ (k : Int) := by omega
    have hk1 : k < P.Q.length := by rw [← HN.out]; exact hlt
    obtain ⟨b, o, rfl, r1, -⟩ := RdG.below HR.out hbw k hk1; obtain ⟨x, hx⟩ : ∃ x : Fq, x = P.Q[k] := ⟨_, rfl⟩; have g1 := r1 1 (.int .i64 x.x.k.1) (by rw [hx]; rfl)
    skip
    have g2 : wr.cell? ⟨b, o + k * 7 + 1 + 1, none⟩ = some (.int .u64 (x.x.k.2 : Int)) := r1 2 (.int .u64 (x.x.k.2 : Int)) (by rw [hx]; rfl)
    have HTK : Hid ((P.Q.map (fun y => y.x.k)).take k ++ [x.x.k] = (P.Q.map (fun y => y.x.k)).take (k + 1)) := by
     unfold Hid; rw [List.take_succ_eq_append_getElem (by simpa using hk1), List.getElem_map, ← hx]
    have HLK : Hid (k = ((P.Q.map (fun y => y.x.k)).take k).length) := by unfold Hid; rw [List.length_take, List.length_map]; omega
    obtain ⟨kx, hkx⟩ : ∃ kx, kx = x.x.k := ⟨_, rfl⟩; rw [← hkx] at g1 g2 HTK; have HO : Hid (OwnG KKy (wr.alloc (.cells #[.int .i64 kx.1, .int .u64 (kx.2 : Int)] tFk)) w.heap.size u3 ((P.Q.map (fun y => y.x.k)).take k)) := hown.below (alw (bR _ _) _); have HBW : Hid _ := hbw; have HSZ : Hid (w.heap.size ≤ wr.heap.size) := hbw.size; have HLT3 : Hid (∀ b, u3.ownBlock = some b → w.heap.size ≤ b) := fun b hb => (hown.lt' hb).1
    clear hx hkx r1 hown hk1 hbw hc8; go_wp2_with (at_builtin; refine wp_appG1 (K := KKy) rfl _ _ rfl w.heap.size u3 ((P.Q.map (fun y => y.x.k)).take k) kx k HLK.out ⟨wr.heap.size, 0, none⟩ 1 rfl HO.out rfl (rdF_new _ kx _ rfl) (by show (k + 1) * 16 ≤ _; omega) (by simp only [maxLen]; omega) (by have := HSZ.out; simp; omega) ?_; intro g7 c7 w7 hown7 hg7 hlie7; rw [HTK.out] at hown7; have HO7 : Hid _ := hown7; have HG7 : Hid _ := hg7; clear hown7 hg7 hlie7)
    go_roundw
    case rel =>
     refine ⟨k + 1, hlt, by go_num, HO7.out, (alw HBW.out _).grown HG7.out (by have := HSZ.out; simp; omega) (fun j hj => HLT3.out j hj)⟩
    case measure => simp [intOf]; omega
  · have hlti : ¬ (k : Int) < (n : Int) := by omega
    have HO : Hid (OwnG KKy wr w.heap.size u3 (P.Q.map (fun y => y.x.k))) := by
     have h9 := hown; rw [List.take_of_length_le (by rw [List.length_map, ← HN.out]; omega)] at h9; exact h9
    have HBW : Hid _ := hbw; clear hown hbw; go_wp2; go_ret; exact ⟨_, rfl, HO.out, HBW.out⟩
theorem JS.eraseL (h : JS w P X t) {k : Nat} {w3 : World} {v : Value} (hb : Below w.heap.size w w3) (ho : OwnG KJe w3 0 v (P.Q.eraseIdx k)) (hv : ∀ b, v.ownBlock = some b → w.heap.size ≤ b) : JS (w3.setCell ⟨P.q, 9, none⟩ v) { P with lv := v, Q := P.Q.eraseIdx k } X { t with L := t.L.eraseIdx k } ∧ JStp w (w3.setCell ⟨P.q, 9, none⟩ v) P { P with lv := v, Q := P.Q.eraseIdx k } := by
 have hz : ∀ b, P.Z b → w3.heap[b]? = w.heap[b]? := fun b hz => hb.block b (h.zt.lt hz)
 have hm : ∀ y, y ∈ P.Q.eraseIdx k → y ∈ P.Q := fun y hy => (List.eraseIdx_sublist _ _).mem hy
 obtain ⟨h8, h9⟩ := h.setL (Chg.of_below hb) ho (fun b e => .inr (hv b e)) (Z' := P.Z) (fun _ h => h) (h.zt.kept hz) (fun _ h => .inl h) (fun y hy => (h.ls y (hm y hy)).kept hz) (fun y hy => (h.lq y (hm y hy)).kept hz); refine ⟨?_, h9⟩; have e : (P.Q.eraseIdx k).map Fq.x = t.L.eraseIdx k := by rw [map_erase, h.lx]
 rw [e] at h8; exact h8
theorem JS.eraseR (h : JS w P X t) {k : Nat} {w3 : World} {v : Value} (hb : Below w.heap.size w w3) (ho : OwnG KJf w3 0 v (P.R.eraseIdx k)) (hv : ∀ b, v.ownBlock = some b → w.heap.size ≤ b) : JS (w3.setCell ⟨P.q, 8, none⟩ v) { P with rv := v, R := P.R.eraseIdx k } X { t with row := t.row.eraseIdx k } ∧ JStp w (w3.setCell ⟨P.q, 8, none⟩ v) P { P with rv := v, R := P.R.eraseIdx k } := by
 have hz : ∀ b, P.Z b → w3.heap[b]? = w.heap[b]? := fun b hz => hb.block b (h.zt.lt hz)
 exact h.setRow (Chg.of_below hb) (MidG.of_own ho) (fun b e => .inr (hv b e)) (Z' := P.Z) (fun _ h => h) (h.zt.kept hz) (fun _ h => .inl h) (by rw [map_erase, map_erase, h.rk]) (fun i r e h1 h2 => by
   rw [List.getElem?_eraseIdx] at h1 h2; split at h1
   · rename_i hlt
     rw [if_pos hlt] at h2; exact (h.rs _ r e h1 h2).kept hz
   · rename_i hlt
     rw [if_neg hlt] at h2
     exact (h.rs _ r e h1 h2).kept hz)
theorem jend_t (h : JS w P X t) (hi : DInv t) (k : Nat) (hk : k < t.L.length) : Calls Tryz.prog 97 #[.pointer (some ⟨P.q, 0, none⟩), .int .i64 (k : Int)] w fun e w' => e = .returned (.tuple #[]) ∧ ∃ v', JS w' { P with lv := v', Q := P.Q.eraseIdx k } X { t with L := t.L.eraseIdx k } ∧ JStp w w' P { P with lv := v', Q := P.Q.eraseIdx k } := by
 rw [← h.llen] at hk; have HW : Hid _ := h; obtain ⟨g, c, hv, hNc, -, -, -⟩ := h.l.one (by omega); obtain ⟨N, hN⟩ : ∃ N, N = P.Q.length := ⟨_, rfl⟩; rw [← hN] at hv hk hNc; have hNm : N ≤ 64 := by rw [hN, h.llen]; have := hi.len; omega
 have HN : Hid (N = P.Q.length) := hN; obtain ⟨j, hj⟩ : ∃ j, j = k + 1 := ⟨_, rfl⟩; have hk1 : ((k : Int) + 1) = (j : Int) := by omega
 have hkm : k < 64 := by omega
 have hk0 : (0 : Int) ≤ (k : Int) := by omega
 have hj0 : (0 : Int) ≤ (j : Int) := by omega
 have hkc : (k : Int) ≤ (c : Int) := by omega
 have hkcn : k ≤ c := by omega
 have hkn : (k : Int) ≤ (N : Int) := by omega
 have hjn : (j : Int) ≤ (N : Int) := by omega
 have hjnn : j ≤ N := by omega
 have hjc : (j : Int) ≤ (c : Int) := by omega
 have hjcn : j ≤ c := by omega
 have hck : ¬ c = k := by omega
 have hNk : ¬ N = k := by omega
 have HJ : Hid _ := hj; have hd1 : w.cell? ⟨P.q, 9, none⟩ = some (.slice (some ⟨g, 0, none⟩) N c) := by rw [← hv]; exact h.cell 9
 have hf1 := h.frz 9; have hrd0 := h.l; rw [hv, HN.out] at hrd0; have HRD : Hid (RdG KJe w (some ⟨g, 0, none⟩) P.Q) := OwnG.rd hrd0; have HV : Hid (P.lv = .slice (some ⟨g, 0, none⟩) N c) := hv; clear h hi hN hj hrd0 hv
 by_cases hcj : c = j
 · obtain rfl : N = j := by omega
   subst hcj; go_enter Tryz.func97, Tryz.ntmps97
   go_wp2_with (first | (at_builtin; refine wp_appG (K := KJe) rfl _ _ rfl w.heap.size (.slice none 0 0) [] (P.Q.take k) k (some ⟨g, 0, none⟩) c (by rw [List.length_take]; have := HN.out; omega) rfl (World.ownsRow_nil _ _ _ _) rfl (RdG.take HRD.out k) (fun h => by cases h) (by show (0 + k) * 88 ≤ _; omega) (by simp only [maxLen, List.length_nil]; omega) (Nat.le_refl _) ?_; intro v2 w2 hown2 hg2; rw [List.nil_append] at hown2; obtain ⟨a2, c2, hv2, -⟩ := hown2.val; have hl2 : (P.Q.take k).length = k := (by rw [List.length_take]; have := HN.out; omega); rw [hl2] at hv2; subst hv2; have hb2 : Below w.heap.size w w2 := (bR _ _).grown hg2 (Nat.le_refl _) (fun b hb => by cases hb); have hd2 := (HW.out.below hb2).cell 9; simp only [HV.out] at hd2; have hf2 := (HW.out.below hb2).frz 9; have HO2 : Hid _ := hown2; have HB2 : Hid _ := hb2; clear hown2 hg2 hb2) | (at_builtin; refine wp_appG (K := KJe) rfl _ _ rfl w.heap.size (.slice a2 k c2) (P.Q.take k) (P.Q.drop c) _ _ _ (by rw [List.length_drop]; have := HN.out; omega) rfl HO2.out rfl (by rw [List.drop_eq_nil_of_le (by have := HN.out; omega)]; exact RdG.nil _ _) (fun h => by cases h) (by rw [List.length_take]; show (_ + _) * 88 ≤ _; have := HN.out; omega) (by rw [List.length_take]; simp only [maxLen]; have := HN.out; omega) HB2.out.size ?_; intro v3 w3 hown3 hg3; obtain ⟨a3, c3, hv3, -⟩ := hown3.val; obtain ⟨M, hM⟩ : ∃ M, M = (P.Q.take k ++ P.Q.drop c).length := ⟨_, rfl⟩; rw [← hM] at hv3; subst hv3; have hb3 : Below w.heap.size w w3 := HB2.out.grown hg3 HB2.out.size (fun b hb => (OwnG.lt' HO2.out hb).1); have hd3 := (HW.out.below hb3).cell 9; simp only [HV.out] at hd3; have hf3 := (HW.out.below hb3).frz 9; have HO3 : Hid _ := hown3; have HB3 : Hid _ := hb3; have HM3 : Hid _ := hM; clear hown3 hg3 hb3 hM))
   go_end0; have he : P.Q.eraseIdx k = P.Q.take k ++ P.Q.drop c := by rw [List.eraseIdx_eq_take_drop_succ, HJ.out]
   have hO3 : OwnG KJe w3 0 (.slice a3 M c3) (P.Q.eraseIdx k) := by rw [he]; exact OwnG.base HO3.out (Nat.zero_le _)
   obtain ⟨h8, h9⟩ := HW.out.eraseL HB3.out hO3 (fun b e => (OwnG.lt' HO3.out e).1); exact ⟨rfl, _, h8, h9⟩
 · go_enter Tryz.func97, Tryz.ntmps97
   go_wp2_with (first | (at_builtin; refine wp_appG (K := KJe) rfl _ _ rfl w.heap.size (.slice none 0 0) [] (P.Q.take k) k (some ⟨g, 0, none⟩) c (by rw [List.length_take]; have := HN.out; omega) rfl (World.ownsRow_nil _ _ _ _) rfl (RdG.take HRD.out k) (fun h => by cases h) (by show (0 + k) * 88 ≤ _; omega) (by simp only [maxLen, List.length_nil]; omega) (Nat.le_refl _) ?_; intro v2 w2 hown2 hg2; rw [List.nil_append] at hown2; obtain ⟨a2, c2, hv2, -⟩ := hown2.val; have hl2 : (P.Q.take k).length = k := (by rw [List.length_take]; have := HN.out; omega); rw [hl2] at hv2; subst hv2; have hb2 : Below w.heap.size w w2 := (bR _ _).grown hg2 (Nat.le_refl _) (fun b hb => by cases hb); have hd2 := (HW.out.below hb2).cell 9; simp only [HV.out] at hd2; have hf2 := (HW.out.below hb2).frz 9; have HO2 : Hid _ := hown2; have HB2 : Hid _ := hb2; clear hown2 hg2 hb2) | (at_builtin; refine wp_appG (K := KJe) rfl _ _ rfl w.heap.size (.slice a2 k c2) (P.Q.take k) (P.Q.drop j) _ _ _ (by rw [List.length_drop]; have := HN.out; omega) rfl HO2.out rfl (by have h9 := RdG.drop (HRD.out.below HB2.out) j; rw [Nat.zero_add] at h9; exact h9) (fun h => by cases h) (by rw [List.length_take]; show (_ + _) * 88 ≤ _; have := HN.out; omega) (by rw [List.length_take]; simp only [maxLen]; have := HN.out; omega) HB2.out.size ?_; intro v3 w3 hown3 hg3; obtain ⟨a3, c3, hv3, -⟩ := hown3.val; obtain ⟨M, hM⟩ : ∃ M, M = (P.Q.take k ++ P.Q.drop j).length := ⟨_, rfl⟩; rw [← hM] at hv3; subst hv3; have hb3 : Below w.heap.size w w3 := HB2.out.grown hg3 HB2.out.size (fun b hb => (OwnG.lt' HO2.out hb).1); have hd3 := (HW.out.below hb3).cell 9; simp only [HV.out] at hd3; have hf3 := (HW.out.below hb3).frz 9; have HO3 : Hid _ := hown3; have HB3 : Hid _ := hb3; have HM3 : Hid _ := hM; clear hown3 hg3 hb3 hM))
   go_end0; have he : P.Q.eraseIdx k = P.Q.take k ++ P.Q.drop j := by rw [List.eraseIdx_eq_take_drop_succ, HJ.out]
   have hO3 : OwnG KJe w3 0 (.slice a3 M c3) (P.Q.eraseIdx k) := by rw [he]; exact OwnG.base HO3.out (Nat.zero_le _)
   obtain ⟨h8, h9⟩ := HW.out.eraseL HB3.out hO3 (fun b e => (OwnG.lt' HO3.out e).1); exact ⟨rfl, _, h8, h9⟩
end
open Go.RowKit Go.Maps
theorem nodup_idx {ks : List Fk} (h : ks.Nodup) {i j : Nat} {k : Fk} (hi : ks[i]? = some k) (hj : ks[j]? = some k) : i = j := by
 obtain ⟨h1, e1⟩ := List.getElem?_eq_some_iff.1 hi; obtain ⟨h2, e2⟩ := List.getElem?_eq_some_iff.1 hj; have hp := List.pairwise_iff_getElem.1 (List.nodup_iff_pairwise_ne.1 h); rcases Nat.lt_trichotomy i j with h9 | h9 | h9
 · exact absurd (e1.trans e2.symm) (hp i j h1 h2 h9)
 · exact h9
 · exact absurd (e2.trans e1.symm) (hp j i h2 h1 h9)
section
variable {w w' : World} {P P' : Jp} {X : Value × Value} {t : Dd}
set_option maxRecDepth 20000
set_option maxHeartbeats 6400000
theorem jstop_no (h : JS w P X t) (hi : DInv t) (kk : Fk) (h1 : kk ∉ t.L.map Fd.k) (h2 : kk ∉ t.row.map Prod.fst) : Calls Tryz.prog 58 #[.pointer (some ⟨P.q, 0, none⟩), fv kk] w fun e w' => e = .returned (.tuple #[.int .u64 0, .bool false]) ∧ Below w.heap.size w w' := by
 have H1 : Hid _ := h1; have H2 : Hid _ := h2; clear h1 h2; obtain ⟨w1, hw1⟩ : ∃ w1, w1 = w.alloc (.cells #[.int .i64 kk.1, .int .u64 (kk.2 : Int)] tFk) := ⟨_, rfl⟩; have hb1 : Below w.heap.size w w1 := by rw [hw1]; exact alw (bR _ _) _
 have HPL : Hid _ := jplace_t (h.below hb1) hi kk; have hkb := keyBoxF w kk w1 (by rw [hw1]; exact bR _ _); have HH : Hid _ := h; have HI : Hid _ := hi; have HW1 : Hid (w1 = _) := hw1; have HB1 : Hid _ := hb1; obtain ⟨kv, hkv⟩ : ∃ kv, kv = fv kk := ⟨_, rfl⟩; clear hkv kv h hi hw1 hb1; go_enter Tryz.func58, Tryz.ntmps58
 (go_wp2_with fail); rw [← HW1.out]; refine Calls.mono HPL.out ?_; rintro e w2 ⟨z1, z2, rfl, hp1, hp2, hb2⟩; have hbw := below_next HB1.out hb2
 obtain rfl : z2 = -1 := by
  rcases hp2 with ⟨i, h9, -⟩ | ⟨-, h9⟩
  · exact absurd (List.mem_of_getElem? h9) H1.out
  · exact h9
 obtain rfl : z1 = -1 := by
  rcases hp1 with ⟨i, h9, -⟩ | ⟨-, h9⟩
  · exact absurd (List.mem_of_getElem? h9) H2.out
  · exact h9
 have HBW : Hid _ := hbw; clear hp1 hp2 hb2 hbw; go_wp2; go_ret2; exact ⟨rfl, HBW.out⟩
theorem jstop_in (h : JS w P X t) (hi : DInv t) (kk : Fk) {i : Nat} {x : Fd} (hx : t.L[i]? = some x) (hk : x.k = kk) : Calls Tryz.prog 58 #[.pointer (some ⟨P.q, 0, none⟩), fv kk] w fun e w' => e = .returned (.tuple #[.int .u64 (x.n : Int), .bool true]) ∧ ∃ v', JS w' { P with lv := v', Q := P.Q.eraseIdx i } X { t with L := t.L.eraseIdx i } ∧ JStp w w' P { P with lv := v', Q := P.Q.eraseIdx i } := by
 have HX : Hid _ := hx; have HK : Hid _ := hk; clear hx hk; obtain ⟨w1, hw1⟩ : ∃ w1, w1 = w.alloc (.cells #[.int .i64 kk.1, .int .u64 (kk.2 : Int)] tFk) := ⟨_, rfl⟩; have hb1 : Below w.heap.size w w1 := by rw [hw1]; exact alw (bR _ _) _
 have HPL : Hid _ := jplace_t (h.below hb1) hi kk; have hkb := keyBoxF w kk w1 (by rw [hw1]; exact bR _ _); have HH : Hid _ := h; have HI : Hid _ := hi; have HW1 : Hid (w1 = _) := hw1; have HB1 : Hid _ := hb1; obtain ⟨kv, hkv⟩ : ∃ kv, kv = fv kk := ⟨_, rfl⟩; clear hkv kv h hi hw1 hb1; go_enter Tryz.func58, Tryz.ntmps58
 (go_wp2_with fail); rw [← HW1.out]; refine Calls.mono HPL.out ?_; rintro e w2 ⟨z1, z2, rfl, hp1, hp2, hb2⟩; have hbw := below_next HB1.out hb2; have hil : i < t.L.length := (List.getElem?_eq_some_iff.1 HX.out).1
 obtain rfl : z2 = (i : Int) := by
  have hki : (t.L.map Fd.k)[i]? = some kk := by rw [List.getElem?_map, HX.out, ← HK.out]; rfl
  rcases hp2 with ⟨j, h9, h8⟩ | ⟨h9, -⟩
  · have hn := (List.nodup_append.1 HI.out.nk).2.1; rw [h8, nodup_idx hn h9 hki]
  · exact absurd (List.mem_of_getElem? hki) h9
 have hR2 := HH.out.below hbw; have hc9 : w2.cell? ⟨P.q, 9, none⟩ = some P.lv := hR2.cell 9; obtain ⟨g, c, hv, -, -, -, -⟩ := hR2.l.one (by rw [hR2.llen]; omega); have hrow := hR2.l; obtain ⟨N, hN⟩ : ∃ N, N = P.Q.length := ⟨_, rfl⟩; rw [← hN] at hv; rw [hv] at hc9 hrow; have hiQ : i < P.Q.length := by rw [hR2.llen]; exact hil
 have hxq : (P.Q[i]).x = x := by
  have h9 := HX.out; rw [← hR2.lx, List.getElem?_map, List.getElem?_eq_getElem hiQ] at h9; exact Option.some.inj h9
 have h0 := OwnG.cell hrow hN i 0 hiQ (by decide); have h0' : w2.cell? ⟨g, i * 7, none⟩ = some (.int .u64 (x.n : Int)) := by rw [← hxq]; exact h0
 have hki : (i : Int) < (N : Int) := by omega
 have hk0 : (0 : Int) ≤ (i : Int) := by omega
 have hkn : ¬ (i : Int) < 0 := by omega
 have HE : Hid _ := jend_t hR2 HI.out i hil; have HBW : Hid _ := hbw; clear hbw hR2 hxq hv hrow h0 hb2 hN hil hiQ hp1 hp2; go_wp2_with (go_at_call 97; refine Calls.mono HE.out ?_; rintro e w3 ⟨rfl, v', h1, h2⟩; have H1 : Hid _ := h1; have H2 : Hid _ := h2; clear h1 h2)
 go_ret2; exact ⟨rfl, v', H1.out, (JStp.below HBW.out P).trans H2.out⟩
theorem jstop_row (h : JS w P X t) (hi : DInv t) (kk : Fk) {k : Nat} {x : Fk × Seg} (hx : t.row[k]? = some x) (hk : x.1 = kk) : Calls Tryz.prog 58 #[.pointer (some ⟨P.q, 0, none⟩), fv kk] w fun e w' => e = .returned (.tuple #[.int .u64 0, .bool true]) ∧ ∃ v', JS w' { P with rv := v', R := P.R.eraseIdx k } X { t with row := t.row.eraseIdx k } ∧ JStp w w' P { P with rv := v', R := P.R.eraseIdx k } := by
 have HX : Hid _ := hx; have HK : Hid _ := hk; clear hx hk; obtain ⟨w1, hw1⟩ : ∃ w1, w1 = w.alloc (.cells #[.int .i64 kk.1, .int .u64 (kk.2 : Int)] tFk) := ⟨_, rfl⟩; have hb1 : Below w.heap.size w w1 := by rw [hw1]; exact alw (bR _ _) _
 have HPL : Hid _ := jplace_t (h.below hb1) hi kk; have hkb := keyBoxF w kk w1 (by rw [hw1]; exact bR _ _); have HH : Hid _ := h; have HI : Hid _ := hi; have HW1 : Hid (w1 = _) := hw1; have HB1 : Hid _ := hb1; obtain ⟨kv, hkv⟩ : ∃ kv, kv = fv kk := ⟨_, rfl⟩; clear hkv kv h hi hw1 hb1; go_enter Tryz.func58, Tryz.ntmps58
 (go_wp2_with fail); rw [← HW1.out]; refine Calls.mono HPL.out ?_; rintro e w2 ⟨z1, z2, rfl, hp1, hp2, hb2⟩; have hbw := below_next HB1.out hb2; have hil : k < t.row.length := (List.getElem?_eq_some_iff.1 HX.out).1; have hkik : (t.row.map Prod.fst)[k]? = some kk := by rw [List.getElem?_map, HX.out, ← HK.out]; rfl
 have hnd := List.nodup_append.1 HI.out.nk
 obtain rfl : z2 = -1 := by
  rcases hp2 with ⟨j, h9, h8⟩ | ⟨-, h9⟩
  · exact absurd rfl (hnd.2.2 _ (List.mem_of_getElem? hkik) _ (List.mem_of_getElem? h9))
  · exact h9
 obtain rfl : z1 = (k : Int) := by
  rcases hp1 with ⟨j, h9, h8⟩ | ⟨h9, -⟩
  · rw [h8, nodup_idx hnd.1 h9 hkik]
  · exact absurd (List.mem_of_getElem? hkik) h9
 have h := HH.out.below hbw; have hk : k < P.R.length := by rw [h.rlen]; exact hil
 have HW : Hid _ := h; obtain ⟨g, off, c, hv, hNc, -, hrd, -⟩ := h.row.one (by omega); obtain ⟨N, hN⟩ : ∃ N, N = P.R.length := ⟨_, rfl⟩; rw [← hN] at hv hk hNc; have hNm : N ≤ 64 := by rw [hN, h.rlen]; have := HI.out.len; omega
 have HN : Hid (N = P.R.length) := hN; obtain ⟨j, hj⟩ : ∃ j, j = k + 1 := ⟨_, rfl⟩; have hk1 : ((k : Int) + 1) = (j : Int) := by omega
 have hkm : k < 64 := by omega
 have hk0 : (0 : Int) ≤ (k : Int) := by omega
 have hj0 : (0 : Int) ≤ (j : Int) := by omega
 have hkc : (k : Int) ≤ (c : Int) := by omega
 have hkcn : k ≤ c := by omega
 have hkn : (k : Int) ≤ (N : Int) := by omega
 have hjn : (j : Int) ≤ (N : Int) := by omega
 have hjnn : j ≤ N := by omega
 have hjc : (j : Int) ≤ (c : Int) := by omega
 have hjcn : j ≤ c := by omega
 have hck : ¬ c = k := by omega
 have hNk : ¬ N = k := by omega
 have HJ : Hid _ := hj; have hd1 : w2.cell? ⟨P.q, 8, none⟩ = some (.slice (some ⟨g, off, none⟩) N c) := by rw [← hv]; exact h.cell 8
 have hf1 := h.frz 8; have hkng : ¬ (k : Int) < 0 := by omega
 have HRD : Hid (RdG KJf w2 (some ⟨g, off, none⟩) P.R) := hrd; have HV : Hid (P.rv = .slice (some ⟨g, off, none⟩) N c) := hv; have HBW : Hid _ := hbw; clear h hN hj hrd hv hil hkik hnd hp1 hp2 hbw hb2
 by_cases hcj : c = j
 · obtain rfl : N = j := by omega
   subst hcj; go_wp2_with (first | (at_builtin; refine wp_appG (K := KJf) rfl _ _ rfl w2.heap.size (.slice none 0 0) [] (P.R.take k) k (some ⟨g, off, none⟩) c (by rw [List.length_take]; have := HN.out; omega) rfl (World.ownsRow_nil _ _ _ _) rfl (RdG.take HRD.out k) (fun h => by cases h) (by show (0 + k) * 40 ≤ _; omega) (by simp only [maxLen, List.length_nil]; omega) (Nat.le_refl _) ?_; intro v2 w20 hown2 hg2; rw [List.nil_append] at hown2; obtain ⟨a2, c2, hv2, -⟩ := hown2.val; have hl2 : (P.R.take k).length = k := (by rw [List.length_take]; have := HN.out; omega); rw [hl2] at hv2; subst hv2; have hb2 : Below w2.heap.size w2 w20 := (bR _ _).grown hg2 (Nat.le_refl _) (fun b hb => by cases hb); have hd2 := (HW.out.below hb2).cell 8; simp only [HV.out] at hd2; have hf2 := (HW.out.below hb2).frz 8; have HO2 : Hid _ := hown2; have HB2 : Hid _ := hb2; clear hown2 hg2 hb2) | (at_builtin; refine wp_appG (K := KJf) rfl _ _ rfl w2.heap.size (.slice a2 k c2) (P.R.take k) (P.R.drop c) _ _ _ (by rw [List.length_drop]; have := HN.out; omega) rfl HO2.out rfl (by rw [List.drop_eq_nil_of_le (by have := HN.out; omega)]; exact RdG.nil _ _) (fun h => by cases h) (by rw [List.length_take]; show (_ + _) * 40 ≤ _; have := HN.out; omega) (by rw [List.length_take]; simp only [maxLen]; have := HN.out; omega) HB2.out.size ?_; intro v3 w3 hown3 hg3; obtain ⟨a3, c3, hv3, -⟩ := hown3.val; obtain ⟨M, hM⟩ : ∃ M, M = (P.R.take k ++ P.R.drop c).length := ⟨_, rfl⟩; rw [← hM] at hv3; subst hv3; have hb3 : Below w2.heap.size w2 w3 := HB2.out.grown hg3 HB2.out.size (fun b hb => (OwnG.lt' HO2.out hb).1); have hd3 := (HW.out.below hb3).cell 8; simp only [HV.out] at hd3; have hf3 := (HW.out.below hb3).frz 8; have HO3 : Hid _ := hown3; have HB3 : Hid _ := hb3; have HM3 : Hid _ := hM; clear hown3 hg3 hb3 hM))
   go_ret2; have he : P.R.eraseIdx k = P.R.take k ++ P.R.drop c := by rw [List.eraseIdx_eq_take_drop_succ, HJ.out]
   have hO3 : OwnG KJf w3 0 (.slice a3 M c3) (P.R.eraseIdx k) := by rw [he]; exact OwnG.base HO3.out (Nat.zero_le _)
   obtain ⟨h8, h9⟩ := HW.out.eraseR HB3.out hO3 (fun b e => (OwnG.lt' HO3.out e).1); exact ⟨rfl, _, h8, (JStp.below HBW.out P).trans h9⟩
 · go_wp2_with (first | (at_builtin; refine wp_appG (K := KJf) rfl _ _ rfl w2.heap.size (.slice none 0 0) [] (P.R.take k) k (some ⟨g, off, none⟩) c (by rw [List.length_take]; have := HN.out; omega) rfl (World.ownsRow_nil _ _ _ _) rfl (RdG.take HRD.out k) (fun h => by cases h) (by show (0 + k) * 40 ≤ _; omega) (by simp only [maxLen, List.length_nil]; omega) (Nat.le_refl _) ?_; intro v2 w20 hown2 hg2; rw [List.nil_append] at hown2; obtain ⟨a2, c2, hv2, -⟩ := hown2.val; have hl2 : (P.R.take k).length = k := (by rw [List.length_take]; have := HN.out; omega); rw [hl2] at hv2; subst hv2; have hb2 : Below w2.heap.size w2 w20 := (bR _ _).grown hg2 (Nat.le_refl _) (fun b hb => by cases hb); have hd2 := (HW.out.below hb2).cell 8; simp only [HV.out] at hd2; have hf2 := (HW.out.below hb2).frz 8; have HO2 : Hid _ := hown2; have HB2 : Hid _ := hb2; clear hown2 hg2 hb2) | (at_builtin; refine wp_appG (K := KJf) rfl _ _ rfl w2.heap.size (.slice a2 k c2) (P.R.take k) (P.R.drop j) _ _ _ (by rw [List.length_drop]; have := HN.out; omega) rfl HO2.out rfl (by have h9 := RdG.drop (HRD.out.below HB2.out) j; exact h9) (fun h => by cases h) (by rw [List.length_take]; show (_ + _) * 40 ≤ _; have := HN.out; omega) (by rw [List.length_take]; simp only [maxLen]; have := HN.out; omega) HB2.out.size ?_; intro v3 w3 hown3 hg3; obtain ⟨a3, c3, hv3, -⟩ := hown3.val; obtain ⟨M, hM⟩ : ∃ M, M = (P.R.take k ++ P.R.drop j).length := ⟨_, rfl⟩; rw [← hM] at hv3; subst hv3; have hb3 : Below w2.heap.size w2 w3 := HB2.out.grown hg3 HB2.out.size (fun b hb => (OwnG.lt' HO2.out hb).1); have hd3 := (HW.out.below hb3).cell 8; simp only [HV.out] at hd3; have hf3 := (HW.out.below hb3).frz 8; have HO3 : Hid _ := hown3; have HB3 : Hid _ := hb3; have HM3 : Hid _ := hM; clear hown3 hg3 hb3 hM))
   go_ret2; have he : P.R.eraseIdx k = P.R.take k ++ P.R.drop j := by rw [List.eraseIdx_eq_take_drop_succ, HJ.out]
   have hO3 : OwnG KJf w3 0 (.slice a3 M c3) (P.R.eraseIdx k) := by rw [he]; exact OwnG.base HO3.out (Nat.zero_le _)
   obtain ⟨h8, h9⟩ := HW.out.eraseR HB3.out hO3 (fun b e => (OwnG.lt' HO3.out e).1); exact ⟨rfl, _, h8, (JStp.below HBW.out P).trans h9⟩
end
open Go.RowKit Go.Maps
def unF (ep nm m : Nat) (E : List Dc) : List Bf := E.mapIdx (fun i d => ⟨ep, nm, i, m, d⟩)
theorem unF_len (ep nm m : Nat) (E : List Dc) : (unF ep nm m E).length = E.length := by simp [unF]
theorem unF_get (ep nm m : Nat) (E : List Dc) (k : Nat) (h : k < E.length) : (unF ep nm m E)[k]'(by rw [unF_len]; exact h) = ⟨ep, nm, k, m, E[k]⟩ := by simp [unF]
section
variable {w w' : World}
set_option maxRecDepth 20000
set_option maxHeartbeats 3200000
theorem rgoodF_t (k : Fk) (w : World) : Calls Tryz.prog 89 #[fv k] w fun e w' => e = .returned (.bool (decide (0 ≤ k.1 ∧ k.1 < 8 ∧ k.2 ≤ mxX))) ∧ Below w.heap.size w w' := by
 obtain ⟨a, b⟩ := k; have HB : Hid (Below w.heap.size w (w.alloc (.cells #[.int .i64 a, .int .u64 (b : Int)] tFk))) := alw (bR _ _) _; obtain ⟨d, hd⟩ : ∃ d, d = decide (0 ≤ a ∧ a < 8 ∧ b ≤ mxX) := ⟨_, rfl⟩; show Calls _ _ _ _ fun e w' => e = .returned (.bool (decide (0 ≤ a ∧ a < 8 ∧ b ≤ mxX))) ∧ _
 rw [← hd]; have HE : Hid _ := hd; clear hd
 by_cases h1 : 0 ≤ a
 · by_cases h2 : a < 8
   · have HD : Hid (decide ((b : Int) ≤ 281474976710655) = d) := by
      unfold Hid; rw [HE.out]; unfold mxX; apply decide_eq_decide.2; omega
     go_enter Tryz.func89, Tryz.ntmps89
     go_wp2; go_ret; rw [← HD.out]; exact ⟨rfl, HB.out⟩
   · have HD : Hid (d = false) := HE.out.trans <| decide_eq_false (fun h => h2 h.2.1)
     go_enter Tryz.func89, Tryz.ntmps89
     go_wp2; go_ret; rw [HD.out]; exact ⟨rfl, HB.out⟩
 · have HD : Hid (d = false) := HE.out.trans <| decide_eq_false (fun h => h1 h.1)
   go_enter Tryz.func89, Tryz.ntmps89
   go_wp2; go_ret; rw [HD.out]; exact ⟨rfl, HB.out⟩
theorem rlaterF_t (a b : Nat) (ha : a ≤ mxX) (hb : b ≤ 4096) (w : World) : Calls Tryz.prog 92 #[.int .u64 (a : Int), .int .u64 (b : Int)] w fun e w' => e = .returned (.int .u64 ((min (a + b) mxX : Nat) : Int)) ∧ w' = w := by
 have hw : IntKind.u64.wrap ((a : Int) + (b : Int)) = (a : Int) + (b : Int) := by unfold mxX at ha; rw [IntKind.wrap_u64]; omega
 have HM : Hid (((min (a + b) mxX : Nat) : Int) = min ((a : Int) + (b : Int)) 281474976710655) := by unfold Hid mxX; omega
 rw [HM.out]; go_enter Tryz.func92, Tryz.ntmps92
 go_wp2; go_ret
 first | exact ⟨rfl, rfl⟩ | exact ⟨by simp [hw], rfl⟩
theorem runitsF_t (ep nm g m c B : Nat) (E : List Dc) (hm : m = E.length) (hm64 : m ≤ 64) (hE : OwnG KL w B (.slice (some ⟨g, 0, none⟩) m c) E) :
 Calls Tryz.prog 93 #[.int .u64 (ep : Int), .int .u64 (nm : Int), .int .i64 2, .slice (some ⟨g, 0, none⟩) m c] w fun e w' => ∃ v, e = .returned v ∧ OwnG KBf w' w.heap.size v (unF ep nm m E) ∧ Below w.heap.size w w' := by
 have HE : Hid _ := hE; have HM : Hid _ := hm; have hmi : (m : Int) ≤ 64 := by omega
 clear hE hm; go_enter Tryz.func93, Tryz.ntmps93
 go_wp2; go_loopw [9, 10] (fun u j wr => ∃ k : Nat, k ≤ m ∧ j = .int .i64 (k : Int) ∧ OwnG KBf wr w.heap.size u ((unF ep nm m E).take k) ∧ Below w.heap.size w wr) (fun _ j _ => m - (intOf j).toNat)
 case atStart => exact ⟨0, Nat.zero_le _, rfl, World.ownsRow_nil _ _ _ _, bR _ _⟩
 case round =>
  obtain ⟨k, hk, rfl, hown, hbw⟩ := hrel; have hkw : IntKind.i64.wrap ((k : Int) + 1) = ((k + 1 : Nat) : Int) := by rw [IntKind.wrap_i64]; omega
  by_cases hlt : k < m
  · have hltI : (k : Int) < (m : Int) := by omega
    have hk0 : (0 : Int) ≤ (k : Int) := by omega
    have hkL : k < E.length := by rw [← HM.out]; exact hlt
    obtain ⟨d, hd⟩ : ∃ d, d = E[k] := ⟨_, rfl⟩; have hrow := (OwnG.below HE.out hbw).cell HM.out k 0 hkL (by decide); rw [← hd] at hrow; have hcell : wr.cell? ⟨g, k, none⟩ = some (.slice d.a d.n d.c) := by simpa using hrow
    have HTK : Hid ((unF ep nm m E).take k ++ [⟨ep, nm, k, m, d⟩] = (unF ep nm m E).take (k + 1)) := by
     unfold Hid; rw [List.take_succ_eq_append_getElem (by rw [unF_len]; exact hkL), unF_get ep nm m E k hkL, ← hd]
    have HLK : Hid (k = ((unF ep nm m E).take k).length) := by unfold Hid; rw [List.length_take, unF_len]; omega
    have HO : Hid (OwnG KBf (wr.alloc (.cells (bfv ⟨ep, nm, k, m, d⟩).toArray tUf)) w.heap.size u9 ((unF ep nm m E).take k)) := hown.below (alw (bR _ _) _); have HBW : Hid _ := hbw; have HSZ : Hid (w.heap.size ≤ wr.heap.size) := hbw.size; have HLT3 : Hid (∀ b, u9.ownBlock = some b → w.heap.size ≤ b) := fun b hb => (hown.lt' hb).1
    clear hown hbw hkL hd hrow; go_wp2_with (at_builtin; refine wp_appG1 (K := KBf) rfl _ _ rfl w.heap.size u9 ((unF ep nm m E).take k) ⟨ep, nm, k, m, d⟩ k HLK.out ⟨wr.heap.size, 0, none⟩ 1 rfl HO.out rfl (rdUf_new _ _ _ rfl) (by show (k + 1) * 104 ≤ _; omega) (by simp only [maxLen]; omega) (by have := HSZ.out; simp; omega) ?_; intro g7 c7 w7 hown7 hg7 hlie7; rw [HTK.out] at hown7; have HO7 : Hid _ := hown7; have HG7 : Hid _ := hg7; clear hown7 hg7 hlie7)
    go_roundw
    case rel =>
     refine ⟨k + 1, hlt, by go_num, HO7.out, (alw HBW.out _).grown HG7.out (by have := HSZ.out; simp; omega) (fun j hj => HLT3.out j hj)⟩
    case measure => simp [intOf]; omega
  · have hltI : ¬ (k : Int) < (m : Int) := by omega
    have hkn : k = m := by omega
    have HO : Hid (OwnG KBf wr w.heap.size u9 (unF ep nm m E)) := by
     unfold Hid; have h9 := hown; rw [hkn, HM.out, List.take_of_length_le (by rw [unF_len]; exact Nat.le_refl _)] at h9; rw [HM.out]; exact h9
    have HBW : Hid _ := hbw; clear hown hbw; go_wp2; go_ret; exact ⟨_, rfl, HO.out, HBW.out⟩
theorem rcutF_any (ao : Option Addr) (n cap : Nat) (xs : Seg) (m : Nat) (hn : n = xs.length) (hx : Rd w ao xs) (hle : n ≤ cap) (h1 : 16 ≤ m) (h2 : m ≤ 1024) (hb : n ≤ 140737488355328) : ∃ ce : Int, (ce = 0 ↔ 1 ≤ n ∧ n ≤ 1024) ∧ Calls Tryz.prog 88 #[.slice ao n cap, .int .i64 (m : Int)] w fun e w' => ∃ u, e = .returned (.tuple #[u, .int .i64 ce]) ∧ Below w.heap.size w w' := by
 by_cases h : 1 ≤ n ∧ n ≤ 1024
 · refine ⟨0, ⟨fun _ => h, fun _ => rfl⟩, (rcut_t ao n cap xs m hn hx hle (by omega) h2 h.1 h.2 (by omega)).mono ?_⟩; rintro e w' ⟨u, E, he, -, hb⟩; exact ⟨u, he, hb⟩
 · have hc : cutE n (m : Int) ≠ 0 := by
    unfold cutE
    by_cases h0 : n = 0
    · rw [if_pos (.inr (.inr h0))]; decide
    · rw [if_neg (by omega), if_pos (by omega)]; decide
   refine ⟨cutE n (m : Int), ⟨fun h9 => absurd h9 hc, fun h9 => absurd h9 h⟩, (rcut_no ao n cap (m : Int) ⟨by omega, by omega⟩ hb hc).mono ?_⟩; rintro e w' ⟨he, rfl⟩; exact ⟨_, he, bR _ _⟩
end
open Go.RowKit Go.Maps
section
variable {w w' : World} {P P' : Jp} {X : Value × Value} {t : Dd}
theorem Lists.zty {B : Nat} {v : Value} {E : List Dc} {T : List Seg} (h : Lists w B v E T) : ZTy w (fun b => v.ownBlock = some b ∨ XV E b) := fun b hb => by
 rcases hb with hb | hb
 · obtain ⟨C, h9⟩ := h.row.at_ hb; exact ⟨C, _, h9, by decide, by decide, by decide⟩
 · obtain ⟨C, h9⟩ := h.fml.ty hb; exact ⟨C, _, h9, by decide, by decide, by decide⟩
theorem ZTy.or {Z Z' : Nat → Prop} (h : ZTy w Z) (k : ZTy w Z') : ZTy w (fun b => Z b ∨ Z' b) := fun b hb => hb.elim (h b) (k b)
theorem jq_end {u w7 : World} (h : JS w P X t) (hu : Below w.heap.size w u) (hg : u.grownBy w7 P.rv.ownBlock) {v7 : Value} {k : Fk} {d : Dc} {E : List Dc} {xs : Seg} (hO : MidG KJf w7 v7 (P.R ++ [⟨k, d, E⟩])) (hT : ∀ b, v7.ownBlock = some b → P.rv.ownBlock = some b ∨ u.heap.size ≤ b) {B : Nat} (hls : Lists u B d.v E (segN xs t.mtu (cutN xs.length t.mtu))) (hB : w.heap.size ≤ B) :
 ∃ P', JS (w7.setCell ⟨P.q, 8, none⟩ v7) P' X { t with row := t.row ++ [(k, xs)] } ∧ JStp w (w7.setCell ⟨P.q, 8, none⟩ v7) P P' ∧ P'.q = P.q := by
 have hrl : ∀ b, P.rv.ownBlock = some b → b < w.heap.size := fun b hb => h.row.lt hb
 have hzo : ∀ b, P.Z b → w7.heap[b]? = w.heap[b]? := fun b hb => by
  have hl := h.zt.lt hb; exact (hg.block b (Nat.lt_of_lt_of_le hl hu.size) (fun e => (h.qr b e.symm).2.2 hb)).trans (hu.block b hl)
 have hls7 : Lists w7 B d.v E (segN xs t.mtu (cutN xs.length t.mtu)) := hls.kept (fun b hb => hg.block b (hls.lt hb).2 (fun e => by have := hrl b e.symm; have := (hls.lt hb).1; omega))
 obtain ⟨h8, h9⟩ := h.setRow (w' := w7) (rv' := v7) (R' := P.R ++ [⟨k, d, E⟩]) (row' := t.row ++ [(k, xs)]) (Z' := fun b => P.Z b ∨ (d.v.ownBlock = some b ∨ XV E b)) ((Chg.of_below hu).trans (Chg.of_grown hg (F := fun b => P.rv.ownBlock = some b) (fun b e => e)) (fun b e => .inl e)) hO (fun b hb => (hT b hb).imp id (fun h9 => Nat.le_trans hu.size h9)) (fun b hb => .inl hb) ((h.zt.kept hzo).or hls7.zty) (fun b hb => hb.imp id (fun h9 => Nat.le_trans hB (hls.lt h9).1)) (by rw [List.map_append, List.map_append, h.rk]; rfl) (fun i r e h1 h2 => by
   by_cases hi : i < P.R.length
   · rw [List.getElem?_append_left hi] at h1; rw [List.getElem?_append_left (by rw [← h.rlen]; exact hi)] at h2; exact ((h.rs i r e h1 h2).kept hzo).mono (fun b hb => .inl hb)
   · have hi2 : i = P.R.length := by
      have := (List.getElem?_eq_some_iff.1 h1).1; rw [List.length_append] at this; have : i < P.R.length + 1 := this; omega
     subst hi2; rw [List.getElem?_append_right (Nat.le_refl _), Nat.sub_self] at h1; rw [h.rlen, List.getElem?_append_right (Nat.le_refl _), Nat.sub_self] at h2; cases h1; cases h2
     exact ⟨hls7.base (Nat.zero_le _), fun b hb => .inr hb⟩)
 exact ⟨_, h8, h9, rfl⟩
set_option maxRecDepth 20000
set_option maxHeartbeats 6400000
theorem jqueue_arg (h : JS w P X t) (hi : DInv t) (k : Fk) (ao : Option Addr) (l c : Nat) (xs : Seg) (hlx : l = xs.length) (hrd : Rd w ao xs) (hlc : l ≤ c) (hlb : l ≤ 140737488355328) (hbad : ¬ (goodK k ∧ (1 ≤ l ∧ l ≤ 1024))) : Calls Tryz.prog 50 #[.pointer (some ⟨P.q, 0, none⟩), fv k, .slice ao l c] w fun e w' => e = .returned (.int .i64 1) ∧ Below w.heap.size w w' := by
 obtain ⟨w1, hw1⟩ : ∃ w1, w1 = w.alloc (.cells #[.int .i64 k.1, .int .u64 (k.2 : Int)] tFk) := ⟨_, rfl⟩; have hb1 : Below w.heap.size w w1 := by rw [hw1]; exact alw (bR _ _) _
 have hkb : ∀ u, Below w1.heap.size w1 u → u.cell? ⟨w.heap.size, 0, none⟩ = some (.int .i64 k.1) ∧ u.cell? ⟨w.heap.size, 1, none⟩ = some (.int .u64 (k.2 : Int)) := fun u hu => by
  have h9 := keyBoxF w k u (by rw [← hw1]; have z : w1.heap.size = w.heap.size + 1 := (by rw [hw1]; simp); rw [← z]; exact hu); exact ⟨h9.1, h9.2.1⟩
 have hc0 : w1.cell? ⟨P.q, 0, none⟩ = some (.int .i64 (t.mtu : Int)) := (h.below hb1).cell 0; have HG : Hid (∀ u, Calls Tryz.prog 89 #[.agg #[.int .i64 k.1, .int .u64 (k.2 : Int)]] u fun e w' => e = .returned (.bool (decide (0 ≤ k.1 ∧ k.1 < 8 ∧ k.2 ≤ mxX))) ∧ Below u.heap.size u w') := fun u => rgoodF_t k u
 have HH : Hid _ := h; have HB1 : Hid _ := hb1; have HW1 : Hid (w1 = _) := hw1; rw [hw1] at hc0; obtain ⟨ce, hce, hcut⟩ := rcutF_any ao l c xs t.mtu hlx (hrd.below hb1) hlc hi.mt.1 hi.mt.2 hlb; have HCUT : Hid _ := hcut
 by_cases h2 : goodK k
 · have hce0 : ¬ ce = 0 := fun h9 => hbad ⟨h2, hce.1 h9⟩
   have hce1 : (ce == 0) = false := by simp [hce0]
   have hce2 : (ce != 0) = true := by simp [hce0]
   have HGK : Hid (decide (0 ≤ k.1 ∧ k.1 < 8 ∧ k.2 ≤ mxX) = true) := decide_eq_true h2; clear h hi hw1 hb1 hrd hlx hlc hlb hce hcut hbad h2; go_enter Tryz.func50, Tryz.ntmps50
   (go_wp2_with fail); rw [← HW1.out]; refine Calls.mono HCUT.out ?_; rintro e w2 ⟨u2, rfl, hb2⟩; have hkb2 := hkb w2 hb2; have HB2 : Hid (Below w.heap.size w w2) := below_next HB1.out hb2; have HB2' : Hid _ := hb2; clear hb2; go_wp2_with (go_at_call 89; refine Calls.mono (HG.out _) ?_; rintro e w3 ⟨rfl, hb3⟩; have HB3 : Hid (Below w.heap.size w w3) := below_next HB2.out hb3; have HB3' : Hid (Below w1.heap.size w1 w3) := below_next HB2'.out hb3; have hkb3 := hkb w3 HB3'.out; rw [HGK.out]; have HB23 : Hid _ := hb3; clear hb3)
   go_ret; exact ⟨rfl, HB3.out⟩
 · have HGK : Hid (decide (0 ≤ k.1 ∧ k.1 < 8 ∧ k.2 ≤ mxX) = false) := decide_eq_false h2; clear h hi hw1 hb1 hrd hlx hlc hlb hce hcut hbad h2; go_enter Tryz.func50, Tryz.ntmps50
   (go_wp2_with fail); rw [← HW1.out]; refine Calls.mono HCUT.out ?_; rintro e w2 ⟨u2, rfl, hb2⟩; have hkb2 := hkb w2 hb2; have HB2 : Hid (Below w.heap.size w w2) := below_next HB1.out hb2; have HB2' : Hid _ := hb2; clear hb2; go_wp2_with (go_at_call 89; refine Calls.mono (HG.out _) ?_; rintro e w3 ⟨rfl, hb3⟩; have HB3 : Hid (Below w.heap.size w w3) := below_next HB2.out hb3; have HB3' : Hid (Below w1.heap.size w1 w3) := below_next HB2'.out hb3; have hkb3 := hkb w3 HB3'.out; rw [HGK.out]; have HB23 : Hid _ := hb3; clear hb3)
   go_ret; exact ⟨rfl, HB3.out⟩
theorem jqueue_twice (h : JS w P X t) (hi : DInv t) (k : Fk) (ao : Option Addr) (l c : Nat) (xs : Seg) (hlx : l = xs.length) (hrd : Rd w ao xs) (hlc : l ≤ c) (hgd : goodK k ∧ (1 ≤ l ∧ l ≤ 1024)) (htw : k ∈ t.row.map Prod.fst ∨ k ∈ t.L.map Fd.k) : Calls Tryz.prog 50 #[.pointer (some ⟨P.q, 0, none⟩), fv k, .slice ao l c] w fun e w' => e = .returned (.int .i64 3) ∧ Below w.heap.size w w' := by
 obtain ⟨w1, hw1⟩ : ∃ w1, w1 = w.alloc (.cells #[.int .i64 k.1, .int .u64 (k.2 : Int)] tFk) := ⟨_, rfl⟩; have hb1 : Below w.heap.size w w1 := by rw [hw1]; exact alw (bR _ _) _
 have hkb : ∀ u, Below w1.heap.size w1 u → u.cell? ⟨w.heap.size, 0, none⟩ = some (.int .i64 k.1) ∧ u.cell? ⟨w.heap.size, 1, none⟩ = some (.int .u64 (k.2 : Int)) := fun u hu => by
  have h9 := keyBoxF w k u (by rw [← hw1]; have z : w1.heap.size = w.heap.size + 1 := (by rw [hw1]; simp); rw [← z]; exact hu); exact ⟨h9.1, h9.2.1⟩
 have hc0 : w1.cell? ⟨P.q, 0, none⟩ = some (.int .i64 (t.mtu : Int)) := (h.below hb1).cell 0; have HG : Hid (∀ u, Calls Tryz.prog 89 #[.agg #[.int .i64 k.1, .int .u64 (k.2 : Int)]] u fun e w' => e = .returned (.bool (decide (0 ≤ k.1 ∧ k.1 < 8 ∧ k.2 ≤ mxX))) ∧ Below u.heap.size u w') := fun u => rgoodF_t k u
 have HH : Hid _ := h; have HB1 : Hid _ := hb1; have HW1 : Hid (w1 = _) := hw1; rw [hw1] at hc0; obtain ⟨hk3, hl1, hl2⟩ := hgd; have HCUT : Hid _ := rcut_t ao l c xs t.mtu hlx (hrd.below hb1) hlc (by have := hi.mt.1; omega) hi.mt.2 hl1 hl2 (by have := hi.mt.1; omega); have HGK : Hid (decide (0 ≤ k.1 ∧ k.1 < 8 ∧ k.2 ≤ mxX) = true) := decide_eq_true hk3; have HPL : Hid (∀ u, Below w1.heap.size w1 u → Calls _ _ _ u _) := fun u hu => jplace_t ((h.below hb1).below hu) hi k
 have HTW : Hid _ := htw; clear htw hlx; clear h hi hw1 hb1 hrd hlc hk3 hl1 hl2; go_enter Tryz.func50, Tryz.ntmps50
 (go_wp2_with fail); rw [← HW1.out]; refine Calls.mono HCUT.out ?_; rintro e w2 ⟨u2, E2, rfl, hls2, hb2⟩; obtain ⟨ae, ce, hue, -⟩ := OwnG.val hls2.row; obtain ⟨ne, hne⟩ : ∃ ne, ne = E2.length := ⟨_, rfl⟩; rw [← hne] at hue; subst hue; have HLS : Hid _ := hls2; have hkb2 := hkb w2 hb2; have HB2 : Hid (Below w.heap.size w w2) := below_next HB1.out hb2; have HB2' : Hid _ := hb2; clear hb2 hls2 hne; go_wp2_with (go_at_call 89; refine Calls.mono (HG.out _) ?_; rintro e w3 ⟨rfl, hb3⟩; have HB3 : Hid (Below w.heap.size w w3) := below_next HB2.out hb3; have HB3' : Hid (Below w1.heap.size w1 w3) := below_next HB2'.out hb3; have hkb3 := hkb w3 HB3'.out; rw [HGK.out]; have HB23 : Hid _ := hb3; clear hb3)
 refine Calls.mono (HPL.out _ HB3'.out) ?_; rintro e w4 ⟨z1, z2, rfl, hp1, hp2, hb4⟩; have HB4' : Hid (Below w1.heap.size w1 w4) := below_next HB3'.out hb4; have HB4 : Hid (Below w.heap.size w w4) := below_next HB3.out hb4; have HB34 : Hid _ := hb4; have hkb4 := hkb w4 HB4'.out; clear hb4
 by_cases hz1 : 0 ≤ z1
 · clear hp1 hp2; go_wp2; go_ret; exact ⟨rfl, HB4.out⟩
 · have hz2 : 0 ≤ z2 := by
    rcases HTW.out with h9 | h9
    · rcases hp1 with ⟨i, -, h8⟩ | ⟨h8, -⟩
      · omega
      · exact absurd h9 h8
    · rcases hp2 with ⟨i, -, h8⟩ | ⟨h8, -⟩
      · omega
      · exact absurd h9 h8
   clear hp1 hp2; go_wp2; go_ret; exact ⟨rfl, HB4.out⟩
theorem jqueue_full (h : JS w P X t) (hi : DInv t) (k : Fk) (ao : Option Addr) (l c : Nat) (xs : Seg) (hlx : l = xs.length) (hrd : Rd w ao xs) (hlc : l ≤ c) (hgd : goodK k ∧ (1 ≤ l ∧ l ≤ 1024)) (htw : k ∉ t.row.map Prod.fst ∧ k ∉ t.L.map Fd.k) (hfl : t.row.length + t.L.length = 64) : Calls Tryz.prog 50 #[.pointer (some ⟨P.q, 0, none⟩), fv k, .slice ao l c] w fun e w' => e = .returned (.int .i64 2) ∧ Below w.heap.size w w' := by
 obtain ⟨w1, hw1⟩ : ∃ w1, w1 = w.alloc (.cells #[.int .i64 k.1, .int .u64 (k.2 : Int)] tFk) := ⟨_, rfl⟩; have hb1 : Below w.heap.size w w1 := by rw [hw1]; exact alw (bR _ _) _
 have hkb : ∀ u, Below w1.heap.size w1 u → u.cell? ⟨w.heap.size, 0, none⟩ = some (.int .i64 k.1) ∧ u.cell? ⟨w.heap.size, 1, none⟩ = some (.int .u64 (k.2 : Int)) := fun u hu => by
  have h9 := keyBoxF w k u (by rw [← hw1]; have z : w1.heap.size = w.heap.size + 1 := (by rw [hw1]; simp); rw [← z]; exact hu); exact ⟨h9.1, h9.2.1⟩
 have hc0 : w1.cell? ⟨P.q, 0, none⟩ = some (.int .i64 (t.mtu : Int)) := (h.below hb1).cell 0; have HG : Hid (∀ u, Calls Tryz.prog 89 #[.agg #[.int .i64 k.1, .int .u64 (k.2 : Int)]] u fun e w' => e = .returned (.bool (decide (0 ≤ k.1 ∧ k.1 < 8 ∧ k.2 ≤ mxX))) ∧ Below u.heap.size u w') := fun u => rgoodF_t k u
 have HH : Hid _ := h; have HB1 : Hid _ := hb1; have HW1 : Hid (w1 = _) := hw1; rw [hw1] at hc0; obtain ⟨hk3, hl1, hl2⟩ := hgd; have HCUT : Hid _ := rcut_t ao l c xs t.mtu hlx (hrd.below hb1) hlc (by have := hi.mt.1; omega) hi.mt.2 hl1 hl2 (by have := hi.mt.1; omega); have HGK : Hid (decide (0 ≤ k.1 ∧ k.1 < 8 ∧ k.2 ≤ mxX) = true) := decide_eq_true hk3; have HPL : Hid (∀ u, Below w1.heap.size w1 u → Calls _ _ _ u _) := fun u hu => jplace_t ((h.below hb1).below hu) hi k
 have HTW : Hid _ := htw; have HLEN : Hid (t.row.length + t.L.length ≤ 64) := hi.len; clear htw hlx; clear h hi hw1 hb1 hrd hlc hk3 hl1 hl2; go_enter Tryz.func50, Tryz.ntmps50
 (go_wp2_with fail); rw [← HW1.out]; refine Calls.mono HCUT.out ?_; rintro e w2 ⟨u2, E2, rfl, hls2, hb2⟩; obtain ⟨ae, ce, hue, -⟩ := OwnG.val hls2.row; obtain ⟨ne, hne⟩ : ∃ ne, ne = E2.length := ⟨_, rfl⟩; rw [← hne] at hue; subst hue; have HLS : Hid _ := hls2; have hkb2 := hkb w2 hb2; have HB2 : Hid (Below w.heap.size w w2) := below_next HB1.out hb2; have HB2' : Hid _ := hb2; clear hb2 hls2 hne; go_wp2_with (go_at_call 89; refine Calls.mono (HG.out _) ?_; rintro e w3 ⟨rfl, hb3⟩; have HB3 : Hid (Below w.heap.size w w3) := below_next HB2.out hb3; have HB3' : Hid (Below w1.heap.size w1 w3) := below_next HB2'.out hb3; have hkb3 := hkb w3 HB3'.out; rw [HGK.out]; have HB23 : Hid _ := hb3; clear hb3)
 refine Calls.mono (HPL.out _ HB3'.out) ?_; rintro e w4 ⟨z1, z2, rfl, hp1, hp2, hb4⟩; have HB4' : Hid (Below w1.heap.size w1 w4) := below_next HB3'.out hb4; have HB4 : Hid (Below w.heap.size w w4) := below_next HB3.out hb4; have HB34 : Hid _ := hb4; have hkb4 := hkb w4 HB4'.out; clear hb4
 obtain rfl : z1 = -1 := by
  rcases hp1 with ⟨i, h8, -⟩ | ⟨-, h8⟩
  · exact absurd (List.mem_of_getElem? h8) HTW.out.1
  · exact h8
 obtain rfl : z2 = -1 := by
  rcases hp2 with ⟨i, h8, -⟩ | ⟨-, h8⟩
  · exact absurd (List.mem_of_getElem? h8) HTW.out.2
  · exact h8
 clear hp1 hp2; have h4 := HH.out.below HB4.out; have hc8 : ∀ u, Below w4.heap.size w4 u → u.cell? ⟨P.q, 8, none⟩ = some P.rv ∧ u.cell? ⟨P.q, 9, none⟩ = some P.lv := fun u hu => ⟨(h4.below hu).cell 8, (h4.below hu).cell 9⟩
 obtain ⟨ra, rc, hrv, -⟩ := h4.row.val; obtain ⟨la, lc, hlv, -⟩ := h4.l.val; obtain ⟨nr, hnr⟩ : ∃ nr, nr = P.R.length := ⟨_, rfl⟩; obtain ⟨nl, hnl⟩ : ∃ nl, nl = P.Q.length := ⟨_, rfl⟩; rw [← hnr] at hrv; rw [← hnl] at hlv; have hsum : nr + nl = t.row.length + t.L.length := by rw [hnr, hnl, h4.rlen, h4.llen]
 have hs64 : nr + nl ≤ 64 := by rw [hsum]; exact HLEN.out
 obtain ⟨sm, hsm⟩ : ∃ sm, sm = nr + nl := ⟨_, rfl⟩; have hsw : IntKind.i64.wrap ((nr : Int) + (nl : Int)) = (sm : Int) := by rw [IntKind.wrap_i64]; omega
 rw [hrv, hlv] at hc8; have hse : ((sm : Int) == 64) = true := by rw [hsm, hsum, hfl]; rfl
 have hsi : (sm : Int) = 64 := by omega
 clear hrv hlv hnr hnl hsum h4 hfl hsm hs64; (go_wp2_with fail); refine wp_region_noPanic ?_; refine wp_region_held_drew (S := (fun u => Below w4.heap.size w4 u)) (by kernel_rfl) (by first | exact (bR _ _).drew | assumption) (fun hHeld => ?_); refine tz 0 40 hHeld ?_; simp only [pS]; refine tz 1 41 hHeld ?_; simp only [pS]; refine tz 2 42 hHeld ?_; simp only [pS]; refine tk 3 43 (v := .slice ra nr rc) ?_ hHeld ?_
 · (intro w hSw; have hc9 := hc8 _ hSw; go_simp; try with_reducible rfl)
 simp only [pS]; refine tz 4 44 hHeld ?_; simp only [pS]; refine tz 5 45 hHeld ?_; simp only [pS]; refine tz 6 46 hHeld ?_; simp only [pS]; refine tz 7 47 hHeld ?_; simp only [pS]; refine tk 8 48 (v := .slice la nl lc) ?_ hHeld ?_
 · (intro w hSw; have hc9 := hc8 _ hSw; go_simp; try with_reducible rfl)
 simp only [pS]; refine tz 9 49 hHeld ?_; simp only [pS]; refine tk 10 50 (v := .int .i64 (sm : Int)) ?_ hHeld ?_
 · (intro w hSw; go_simp; try with_reducible rfl)
 simp only [pS]; refine tk 11 51 (v := .bool true) ?_ hHeld ?_
 · (intro w hSw; go_simp; try with_reducible rfl)
 simp only [pS]; refine wpAnyH_done (by kernel_rfl) ?_ _; refine NoPanic.normal ?_; go_wp2; go_ret; exact ⟨rfl, HB4.out.drew⟩
theorem jqueue_ok (h : JS w P X t) (hi : DInv t) (k : Fk) (ao : Option Addr) (l c : Nat) (xs : Seg) (hlx : l = xs.length) (hrd : Rd w ao xs) (hlc : l ≤ c) (hgd : goodK k ∧ (1 ≤ l ∧ l ≤ 1024)) (htw : k ∉ t.row.map Prod.fst ∧ k ∉ t.L.map Fd.k) (hfl : t.row.length + t.L.length < 64) : Calls Tryz.prog 50 #[.pointer (some ⟨P.q, 0, none⟩), fv k, .slice ao l c] w fun e w' => e = .returned (.int .i64 0) ∧ ∃ P', JS w' P' X { t with row := t.row ++ [(k, xs)] } ∧ JStp w w' P P' ∧ P'.q = P.q := by
 obtain ⟨w1, hw1⟩ : ∃ w1, w1 = w.alloc (.cells #[.int .i64 k.1, .int .u64 (k.2 : Int)] tFk) := ⟨_, rfl⟩; have hb1 : Below w.heap.size w w1 := by rw [hw1]; exact alw (bR _ _) _
 have hkb : ∀ u, Below w1.heap.size w1 u → u.cell? ⟨w.heap.size, 0, none⟩ = some (.int .i64 k.1) ∧ u.cell? ⟨w.heap.size, 1, none⟩ = some (.int .u64 (k.2 : Int)) := fun u hu => by
  have h9 := keyBoxF w k u (by rw [← hw1]; have z : w1.heap.size = w.heap.size + 1 := (by rw [hw1]; simp); rw [← z]; exact hu); exact ⟨h9.1, h9.2.1⟩
 have hc0 : w1.cell? ⟨P.q, 0, none⟩ = some (.int .i64 (t.mtu : Int)) := (h.below hb1).cell 0; have HG : Hid (∀ u, Calls Tryz.prog 89 #[.agg #[.int .i64 k.1, .int .u64 (k.2 : Int)]] u fun e w' => e = .returned (.bool (decide (0 ≤ k.1 ∧ k.1 < 8 ∧ k.2 ≤ mxX))) ∧ Below u.heap.size u w') := fun u => rgoodF_t k u
 have HH : Hid _ := h; have HB1 : Hid _ := hb1; have HW1 : Hid (w1 = _) := hw1; rw [hw1] at hc0; obtain ⟨hk3, hl1, hl2⟩ := hgd; have HCUT : Hid _ := rcut_t ao l c xs t.mtu hlx (hrd.below hb1) hlc (by have := hi.mt.1; omega) hi.mt.2 hl1 hl2 (by have := hi.mt.1; omega); have HGK : Hid (decide (0 ≤ k.1 ∧ k.1 < 8 ∧ k.2 ≤ mxX) = true) := decide_eq_true hk3; have HPL : Hid (∀ u, Below w1.heap.size w1 u → Calls _ _ _ u _) := fun u hu => jplace_t ((h.below hb1).below hu) hi k
 have HTW : Hid _ := htw; have HLEN : Hid (t.row.length + t.L.length ≤ 64) := hi.len; have HLX : Hid (l = xs.length) := hlx; clear htw hlx; clear h hi hw1 hb1 hrd hlc hk3 hl1 hl2; go_enter Tryz.func50, Tryz.ntmps50
 (go_wp2_with fail); rw [← HW1.out]; refine Calls.mono HCUT.out ?_; rintro e w2 ⟨u2, E2, rfl, hls2, hb2⟩; obtain ⟨ae, ce, hue, -⟩ := OwnG.val hls2.row; obtain ⟨ne, hne⟩ : ∃ ne, ne = E2.length := ⟨_, rfl⟩; rw [← hne] at hue; subst hue; have HLS : Hid _ := hls2; have hkb2 := hkb w2 hb2; have HB2 : Hid (Below w.heap.size w w2) := below_next HB1.out hb2; have HB2' : Hid _ := hb2; clear hb2 hls2 hne; go_wp2_with (go_at_call 89; refine Calls.mono (HG.out _) ?_; rintro e w3 ⟨rfl, hb3⟩; have HB3 : Hid (Below w.heap.size w w3) := below_next HB2.out hb3; have HB3' : Hid (Below w1.heap.size w1 w3) := below_next HB2'.out hb3; have hkb3 := hkb w3 HB3'.out; rw [HGK.out]; have HB23 : Hid _ := hb3; clear hb3)
 refine Calls.mono (HPL.out _ HB3'.out) ?_; rintro e w4 ⟨z1, z2, rfl, hp1, hp2, hb4⟩; have HB4' : Hid (Below w1.heap.size w1 w4) := below_next HB3'.out hb4; have HB4 : Hid (Below w.heap.size w w4) := below_next HB3.out hb4; have HB34 : Hid _ := hb4; have hkb4 := hkb w4 HB4'.out; clear hb4
 obtain rfl : z1 = -1 := by
  rcases hp1 with ⟨i, h8, -⟩ | ⟨-, h8⟩
  · exact absurd (List.mem_of_getElem? h8) HTW.out.1
  · exact h8
 obtain rfl : z2 = -1 := by
  rcases hp2 with ⟨i, h8, -⟩ | ⟨-, h8⟩
  · exact absurd (List.mem_of_getElem? h8) HTW.out.2
  · exact h8
 clear hp1 hp2; have h4 := HH.out.below HB4.out; have hc8 : ∀ u, Below w4.heap.size w4 u → u.cell? ⟨P.q, 8, none⟩ = some P.rv ∧ u.cell? ⟨P.q, 9, none⟩ = some P.lv := fun u hu => ⟨(h4.below hu).cell 8, (h4.below hu).cell 9⟩
 obtain ⟨ra, rc, hrv, -⟩ := h4.row.val; obtain ⟨la, lc, hlv, -⟩ := h4.l.val; obtain ⟨nr, hnr⟩ : ∃ nr, nr = P.R.length := ⟨_, rfl⟩; obtain ⟨nl, hnl⟩ : ∃ nl, nl = P.Q.length := ⟨_, rfl⟩; rw [← hnr] at hrv; rw [← hnl] at hlv; have hsum : nr + nl = t.row.length + t.L.length := by rw [hnr, hnl, h4.rlen, h4.llen]
 have hs64 : nr + nl ≤ 64 := by rw [hsum]; exact HLEN.out
 obtain ⟨sm, hsm⟩ : ∃ sm, sm = nr + nl := ⟨_, rfl⟩; have hsw : IntKind.i64.wrap ((nr : Int) + (nl : Int)) = (sm : Int) := by rw [IntKind.wrap_i64]; omega
 rw [hrv, hlv] at hc8; have hse : ((sm : Int) == 64) = false := by simp; omega
 have hsi : ¬ (sm : Int) = 64 := by omega
 have hnr64 : nr ≤ 64 := by omega
 have HRV : Hid (P.rv = .slice ra nr rc) := hrv; have HNR : Hid (nr = P.R.length) := hnr; have H4 : Hid _ := h4; clear hrv hlv hnr hnl hsum hfl hsm hs64; (go_wp2_with fail); refine wp_region_noPanic ?_; refine wp_region_held_drew (S := (fun u => Below w4.heap.size w4 u)) (by kernel_rfl) (by first | exact (bR _ _).drew | assumption) (fun hHeld => ?_); refine tz 0 40 hHeld ?_; simp only [pS]; refine tz 1 41 hHeld ?_; simp only [pS]; refine tz 2 42 hHeld ?_; simp only [pS]; refine tk 3 43 (v := .slice ra nr rc) ?_ hHeld ?_
 · (intro w hSw; have hc9 := hc8 _ hSw; go_simp; try with_reducible rfl)
 simp only [pS]; refine tz 4 44 hHeld ?_; simp only [pS]; refine tz 5 45 hHeld ?_; simp only [pS]; refine tz 6 46 hHeld ?_; simp only [pS]; refine tz 7 47 hHeld ?_; simp only [pS]; refine tk 8 48 (v := .slice la nl lc) ?_ hHeld ?_
 · (intro w hSw; have hc9 := hc8 _ hSw; go_simp; try with_reducible rfl)
 simp only [pS]; refine tz 9 49 hHeld ?_; simp only [pS]; refine tk 10 50 (v := .int .i64 (sm : Int)) ?_ hHeld ?_
 · (intro w hSw; go_simp; try with_reducible rfl)
 simp only [pS]; refine tk 11 51 (v := .bool false) ?_ hHeld ?_
 · (intro w hSw; go_simp; try with_reducible rfl)
 simp only [pS]; refine wpAnyH_done (by kernel_rfl) ?_ _; refine NoPanic.normal ?_; clear hc8; obtain ⟨w5, hw5⟩ : ∃ w5, w5 = w4.drew := ⟨_, rfl⟩; have hb5 : Below w4.heap.size w4 w5 := by rw [hw5]; exact (bR _ _).drew
 (go_wp2_with fail)
 try rw [← hw5]
 have h5 := h4.below hb5; have HB5 : Hid _ := hb5; have HC1 : Hid (∀ u, Below w5.heap.size w5 u → u.cell? ⟨P.q, 8, none⟩ = some (.slice ra nr rc)) := fun u hu => by rw [← HRV.out]; exact (h5.below hu).cell 8
 have HK5 : Hid (∀ u, Below w5.heap.size w5 u → u.cell? ⟨w.heap.size, 0, none⟩ = some (.int .i64 k.1) ∧ u.cell? ⟨w.heap.size, 1, none⟩ = some (.int .u64 (k.2 : Int))) := fun u hu => hkb _ (below_next (below_next HB4'.out hb5) hu)
 have HOW : Hid (∀ u, Below w5.heap.size w5 u → MidG KJf u (.slice ra nr rc) P.R) := fun u hu => by rw [← HRV.out]; exact (h5.below hu).row
 have HQ : Hid (∀ u u', Below w5.heap.size w5 u → u.grownBy u' (Value.slice ra nr rc).ownBlock → u'.cell? ⟨P.q, 8, none⟩ = some (.slice ra nr rc) ∧ u'.frozen? ⟨P.q, 8, none⟩ = false) := fun u u' hu hg => by
  have h9 := h5.below hu; have h8 : u'.heap[P.q]? = some (.cells (cellsJ t X P.rv P.lv) tJs (0, 0)) := (hg.block P.q h9.ql (fun e => (h9.qr _ (by rw [HRV.out]; exact e.symm)).1 rfl)).trans h9.blk; exact ⟨by rw [cR h8, ← HRV.out]; rfl, by simp [World.frozen?, h8]⟩
 have H5 : Hid _ := h5; clear hw5 hb5 h5 h4; refine wp_region_noPanic ?_; refine wp_region_late_drew (S := (fun u => Below w5.heap.size w5 u)) (X := [9, 10, 11, 12]) (by kernel_rfl) (by with_reducible first | exact (bR _ _).drew | exact alw (bR _ _).drew _ | exact alw hHeld _ | exact (alw (bR _ _) _).drew | assumption) (fun hHeld => ?_); refine qA 0 52 hHeld ?_; simp only [pS]; refine qA 1 53 hHeld ?_; simp only [pS]; refine qA 2 54 hHeld ?_; simp only [pS]; refine qA 3 55 hHeld ?_; simp only [pS]; refine qL 4 56 (v := .slice ra nr rc) ?_ hHeld ?_
 · (intro w hSw; have hc9 := HC1.out _ hSw; go_simp; try with_reducible rfl)
 simp only [pS]; refine qL 5 57 (v := .agg #[.int .i64 k.1, .int .u64 (k.2 : Int)]) ?_ hHeld ?_
 · (intro w hSw; have hc9 := HK5.out _ hSw; go_simp; try with_reducible rfl)
 simp only [pS]; refine qA 6 58 hHeld ?_; simp only [pS]; refine qA 7 59 hHeld ?_; simp only [pS]; refine run_atL (i := 8) rfl (by kernel_rfl) (by rfl) (fun K hK => ?_); simp only [gE]; go_simp; (go_wp2_with fail); refine hK.out _ _ (by with_reducible first | exact (bR _ _).drew | exact alw (bR _ _).drew _ | exact alw hHeld _ | exact (alw (bR _ _) _).drew | assumption) ?_; clear hK K; clear hHeld; intro hHeld; (try simp only [pS]); refine run_atLate (i := 9) rfl (by kernel_rfl) (by decide) (by rfl) (fun K hK => ?_); simp only [gE]
 (refine wpo_appM1 (K := KJf) _ _ rfl (.slice ra nr rc) P.R ⟨k, ⟨ae, ne, ce⟩, E2⟩ nr HNR.out ⟨w5.heap.size, 0, none⟩ 1 rfl (HOW.out _ (alw (bR _ _).drew _)) rfl (rdG_lit (K := KJf) (heap_alloc_new _ _) rfl) (by show (nr + 1) * 40 ≤ _; omega) (by simp only [maxLen]; omega) ?_; intro v7 w7 hown7 hg7 hat7; obtain ⟨hcq, hfq⟩ := HQ.out _ _ (alw (bR _ _).drew _) hg7; obtain ⟨a7, c7, hv7, -⟩ := hown7.val; obtain ⟨n7, hn7⟩ : ∃ n7, n7 = (P.R ++ [(⟨k, ⟨ae, ne, ce⟩, E2⟩ : Fr)]).length := ⟨_, rfl⟩; rw [← hn7] at hv7; subst hv7; have HO7 : Hid _ := hown7; have HG7 : Hid _ := hg7; have HT7 : Hid _ := hat7; clear hown7 hg7 hat7 hn7)
 refine hK.out _ _ ?_; clear hK K; (try simp only [pS]); refine val_atLate (i := 10) 62 (v := ?_) rfl rfl (by kernel_rfl) (by decide) (by rfl) ?_ ?_; rotate_left
 · (go_simp; try with_reducible rfl)
 simp only [pS]; refine val_atLate (i := 11) 63 (v := ?_) rfl rfl (by kernel_rfl) (by decide) (by rfl) ?_ ?_; rotate_left
 · (go_simp; try with_reducible rfl)
 simp only [pS]; refine run_atLate (i := 12) rfl (by kernel_rfl) (by decide) (by rfl) (fun K hK => ?_); simp only [gE]; go_simp; (go_wp2_with fail); refine hK.out _ _ ?_; clear hK K; (try simp only [pS]); refine doneL (by kernel_rfl) ?_ _; refine NoPanic.normal ?_; go_wp2; go_ret; have hu5 : Below w.heap.size w (w5.drew.alloc (.cells #[.int .i64 k.1, .int .u64 (k.2 : Int), .slice ae ne ce] tJf)) := alw (below_next HB4.out HB5.out).drew _
 have hls5 : Lists (w5.drew.alloc (.cells #[.int .i64 k.1, .int .u64 (k.2 : Int), .slice ae ne ce] tJf)) w1.heap.size (⟨ae, ne, ce⟩ : Dc).v E2 (segN xs t.mtu (cutN xs.length t.mtu)) := by
  have h9 := HLS.out; rw [HLX.out] at h9; exact h9.below (alw (below_next (below_next HB23.out HB34.out) HB5.out).drew _)
 refine ⟨rfl, jq_end HH.out hu5 (by rw [HRV.out]; exact HG7.out) HO7.out (by rw [HRV.out]; exact HT7.out) hls5 HB1.out.size⟩
end
open Go.RowKit Go.Maps
section
variable {w w' : World} {P P' : Jp} {X : Value × Value} {t : Dd}
set_option maxRecDepth 20000
set_option maxHeartbeats 6400000
theorem jrun_num (n now : Nat) (hn : ¬ (1 ≤ n ∧ n ≤ mxX)) : Calls Tryz.prog 51 #[.pointer (some ⟨P.q, 0, none⟩), .int .u64 (n : Int), .int .u64 (now : Int)] w fun e w' => e = .returned (.tuple #[.int .i64 0, .slice none 0 0]) ∧ w' = w := by
 by_cases h0 : n = 0
 · subst h0; clear hn; go_enter Tryz.func51, Tryz.ntmps51
   go_wp2; go_ret2; exact ⟨rfl, rfl⟩
 · have hn0 : ((n : Int) == 0) = false := by simp; omega
   have hn1 : (281474976710655 : Int) < (n : Int) := by unfold mxX at hn; omega
   clear hn h0; go_enter Tryz.func51, Tryz.ntmps51
   go_wp2; go_ret2; exact ⟨rfl, rfl⟩
theorem jrun_pass (h : JS w P X t) (hi : DInv t) (n now : Nat) (hn : 1 ≤ n ∧ n ≤ mxX) {y : Fd} (hy : y ∈ t.L) (hyn : n ≤ y.n) : Calls Tryz.prog 51 #[.pointer (some ⟨P.q, 0, none⟩), .int .u64 (n : Int), .int .u64 (now : Int)] w fun e w' => e = .returned (.tuple #[.int .i64 0, .slice none 0 0]) ∧ w' = w := by
 have hn0 : ((n : Int) == 0) = false := by simp; omega
 have hn1 : ¬ (281474976710655 : Int) < (n : Int) := by unfold mxX at hn; omega
 have hc9 : w.cell? ⟨P.q, 9, none⟩ = some P.lv := h.cell 9; obtain ⟨a, cp, hv, -, -, -, hrd⟩ := OwnG.val h.l; have HR : Hid (RdG KJe w a P.Q) := hrd; obtain ⟨m, hm⟩ : ∃ m, m = P.Q.length := ⟨_, rfl⟩; have hl : m ≤ 64 := by rw [hm, h.llen]; have := hi.len; omega
 rw [← hm] at hv; rw [hv] at hc9; have HM : Hid (m = P.Q.length) := hm
 have HEX : Hid (∃ i, ∃ hi : i < P.Q.length, n ≤ (P.Q[i]).x.n) := by
  unfold Hid; rw [← h.lx] at hy; obtain ⟨z, hz, rfl⟩ := List.mem_map.1 hy; obtain ⟨i, hi, rfl⟩ := List.getElem_of_mem hz; exact ⟨i, hi, hyn⟩
 clear h hi hm hv hrd hn hy hyn; go_enter Tryz.func51, Tryz.ntmps51
 go_wp2; go_loopw [8] (fun j wr => ∃ i : Nat, i ≤ m ∧ j = .int .i64 (i : Int) ∧ wr = w ∧ Hid (∀ i' (hi : i' < P.Q.length), i' < i → ¬ n ≤ (P.Q[i']).x.n)) (fun j _ => m - (intOf j).toNat)
 case atStart => exact ⟨0, Nat.zero_le _, rfl, by first | rfl | trivial, fun i' hi h9 => by omega⟩
 case round =>
  obtain ⟨i, him, rfl, hq, HNO⟩ := hrel; have hq := hq.symm; subst hq; have hkw : IntKind.i64.wrap ((i : Int) + 1) = ((i + 1 : Nat) : Int) := by rw [IntKind.wrap_i64]; omega
  by_cases hlt : i < m
  · have hlti : (i : Int) < (m : Int) := by omega
    have hi0 : (0 : Int) ≤ (i : Int) := by omega
    have hi1 : i < P.Q.length := by rw [← HM.out]; exact hlt
    obtain ⟨b, o, rfl, r1, -⟩ := HR.out i hi1; obtain ⟨x, hx⟩ : ∃ x : Fq, x = P.Q[i] := ⟨_, rfl⟩; have g1 := r1 0 (.int .u64 (x.x.n : Int)) (by rw [hx]; rfl); rw [Nat.add_zero] at g1; have HX : Hid _ := hx
    by_cases he : n ≤ x.x.n
    · have hei : (n : Int) ≤ (x.x.n : Int) := by omega
      clear r1 hx HX he hi1 HNO HEX; go_wp2; go_ret2; exact ⟨by first | rfl | trivial, by first | rfl | trivial⟩
    · have hei : ¬ (n : Int) ≤ (x.x.n : Int) := by omega
      have HNX : Hid (∀ i' (hi : i' < P.Q.length), i' < i + 1 → ¬ n ≤ (P.Q[i']).x.n) := fun i' hi h9 => by
       by_cases e : i' = i
       · subst e; rw [← HX.out]; exact he
       · exact HNO.out i' hi (by omega)
      clear r1 hx HX hi1 he HNO; go_wp2; go_roundw
      case rel => exact ⟨i + 1, by omega, by go_num, by first | rfl | trivial, HNX⟩
      case measure => simp [intOf]; omega
  · obtain ⟨i', hi', h9⟩ := HEX.out; exact absurd h9 (HNO.out i' hi' (by have := HM.out; omega))
end
open Go.RowKit Go.Maps
section
variable {w w' : World} {P P' : Jp} {X : Value × Value} {t : Dd}
set_option maxRecDepth 20000
set_option maxHeartbeats 6400000
theorem jhear_bad (h : JS w P X t) (hi : DInv t) (z : Nat) (k e cd pt ix c : Int) (da : Option Addr) (dn dc : Nat) (ga : Option Addr) (gn gc : Nat) (l : List Rg) (hn : gn = l.length) (hx : RdR w ga l) (hl : gn ≤ 8796093022208) (hv : ¬ validR k e (z : Int) pt ix c dn cd gn l) :
 Calls Tryz.prog 54 #[.pointer (some ⟨P.q, 0, none⟩), .agg (ucl k e (z : Int) pt ix c da dn dc cd ga gn gc)] w fun e9 w' => e9 = .returned (.tuple #[doneV 0 0 0, .bool false]) ∧ Below w.heap.size w w' := by
 obtain ⟨w1, hw1⟩ : ∃ w1, w1 = (w.alloc (.cells (ucl k e (z : Int) pt ix c da dn dc cd ga gn gc) tUn)).alloc (.cells #[.int .i64 0, .int .u64 0, .int .i64 0] tDo) := ⟨_, rfl⟩; obtain ⟨hb1, hsz1, hu1, hd1⟩ := hboxes w _ w1 hw1; obtain ⟨la, lc, hlv, -, -, -, hrdQ⟩ := OwnG.val (h.below hb1).l; obtain ⟨m, hm⟩ : ∃ m, m = P.Q.length := ⟨_, rfl⟩; have hm64 : m ≤ 64 := by rw [hm, h.llen]; have := hi.len; omega
 rw [← hm] at hlv
 have hsh : ∀ u, Below w1.heap.size w1 u → u.cell? ⟨w.heap.size, 0, none⟩ = some (.int .i64 k) ∧ u.cell? ⟨w.heap.size, 1, none⟩ = some (.int .u64 e) ∧ u.cell? ⟨w.heap.size, 2, none⟩ = some (.int .u64 (z : Int)) ∧ u.cell? ⟨w.heap.size, 3, none⟩ = some (.int .i64 pt) ∧ u.cell? ⟨w.heap.size, 4, none⟩ = some (.int .i64 ix) ∧ u.cell? ⟨w.heap.size, 5, none⟩ = some (.int .i64 c) ∧ u.cell? ⟨w.heap.size, 6, none⟩ = some (.slice da dn dc) ∧ u.cell? ⟨w.heap.size, 7, none⟩ = some (.int .i64 cd) ∧ u.cell? ⟨w.heap.size, 8, none⟩ = some (.slice ga gn gc) ∧ u.cell? ⟨P.q, 6, none⟩ = some (.int .u64 (t.ep : Int)) ∧ u.cell? ⟨P.q, 9, none⟩ = some (.slice la m lc) := fun u hu => by
  have h9 := (hu.block _ (sI hu1).1).trans hu1; have h8 := (h.below hb1).below hu; refine ⟨?_, ?_, ?_, ?_, ?_, ?_, ?_, ?_, ?_, ?_, ?_⟩
  all_goals first | (rw [cR h9]; rfl) | exact h8.cell 6 | (rw [← hlv]; exact h8.cell 9)
 have HV : Hid (∀ u, Below w1.heap.size w1 u → Calls Tryz.prog 95 #[.agg (ucl k e (z : Int) pt ix c da dn dc cd ga gn gc)] u fun e w' => e = .returned (.int .i64 30) ∧ Below u.heap.size u w') := fun u hu => by
  have h9 := rvalid_t k e (z : Int) pt ix c da dn dc cd ga gn gc l false (by simp; exact hv) u hn (hx.below (hb1.trans (hu.mono hb1.size))) hl
  simpa using h9
 have hsh1 := hsh w1 (bR _ _); have HB1 : Hid _ := hb1; have HD1 : Hid _ := hd1; have HH : Hid _ := h; have HI : Hid _ := hi; have HM : Hid (m = P.Q.length) := hm; have HLV : Hid (P.lv = .slice la m lc) := hlv; have HRQ : Hid (RdG KJe w1 la P.Q) := hrdQ; have HW1 : Hid (w1 = _) := hw1; have HX : Hid (∀ u, Below w1.heap.size w1 u → Below w.heap.size w u) := fun u hu => hb1.trans (hu.mono hb1.size)
 have HSZ1 : Hid (w1.heap.size = w.heap.size + 2) := hsz1; clear h hi hb1 hw1 hd1 hu1 hsz1 hv hm hlv hrdQ hn hx hl; go_enter Tryz.func54, Tryz.ntmps54
 (go_wp2_with fail); rw [← HW1.out]; refine wp_region_noPanic ?_; refine wp_region_held_drew (S := (fun u => Below w1.heap.size w1 u)) (by kernel_rfl) (by first | exact (bR _ _).drew | assumption | exact below_next (by assumption) (by assumption)) (fun hHeld => ?_); refine tz 0 8 hHeld ?_; simp only [pS]; refine run_at (i := 1) rfl (by kernel_rfl) (by rfl) (fun K hK => ?_); simp only [gE]; go_simp
 (go_at_call 95; refine Calls.mono (HV.out _ (by assumption)) ?_; rintro e9 u5 ⟨rfl, hu5⟩)
 (go_wp2_with fail); refine hK.out _ _ (by first | exact (bR _ _).drew | assumption | exact below_next (by assumption) (by assumption)) ?_; clear hK K; clear hHeld; intro hHeld; (try simp only [pS]); refine tz 2 10 hHeld ?_; simp only [pS]; refine tz 3 11 hHeld ?_; simp only [pS]; refine qS 4 12 hHeld ?_; simp only [pS]; refine qS 5 13 hHeld ?_; simp only [pS]; refine qS 6 14 hHeld ?_; simp only [pS]; refine tz 7 15 hHeld ?_; simp only [pS]; refine tz 8 16 hHeld ?_; simp only [pS]; refine qS 9 17 hHeld ?_; simp only [pS]; refine qS 10 18 hHeld ?_; simp only [pS]; refine qS 11 19 hHeld ?_; simp only [pS]; refine qS 12 20 hHeld ?_; simp only [pS]; refine qS 13 21 hHeld ?_; simp only [pS]; refine qS 14 22 hHeld ?_; simp only [pS]; refine qS 15 23 hHeld ?_; simp only [pS]; refine tz 16 24 hHeld ?_; simp only [pS]; refine wpAnyH_done (by kernel_rfl) ?_ _; refine NoPanic.normal ?_; have hb2 := hHeld; clear hu5 hsh hsh1 hHeld; have hd2 := (hb2.block _ (sI HD1.out).1).trans HD1.out; have c0 : u5.cell? ⟨w.heap.size + 1, 0, none⟩ = some (.int .i64 0) := by rw [cR hd2]; rfl
 have c1 : u5.cell? ⟨w.heap.size + 1, 1, none⟩ = some (.int .u64 0) := by rw [cR hd2]; rfl
 have c2 : u5.cell? ⟨w.heap.size + 1, 2, none⟩ = some (.int .i64 0) := by rw [cR hd2]; rfl
 have f0 : u5.frozen? ⟨w.heap.size + 1, 0, none⟩ = false := by simp [World.frozen?, hd2]
 have f1 : u5.frozen? ⟨w.heap.size + 1, 1, none⟩ = false := by simp [World.frozen?, hd2]
 have f2 : u5.frozen? ⟨w.heap.size + 1, 2, none⟩ = false := by simp [World.frozen?, hd2]
 have HB2 : Hid (Below w.heap.size w u5) := HX.out _ hb2; clear hb2 hd2; go_wp2; exact bodyPost_ret (v := .tuple #[.agg #[.int .i64 0, .int .u64 0, .int .i64 0], .bool false]) (by simp [results, Tryz.results54, go_sem, c0, c1, c2, f0, f1, f2]) rfl ⟨rfl, ((HB2.out.setCell (p := ⟨w.heap.size + 1, 0, none⟩) (Nat.le_succ _) _).setCell (p := ⟨w.heap.size + 1, 1, none⟩) (Nat.le_succ _) _).setCell (p := ⟨w.heap.size + 1, 2, none⟩) (Nat.le_succ _) _⟩
theorem jhear_kind (h : JS w P X t) (hi : DInv t) (z : Nat) (k e cd pt ix c : Int) (da : Option Addr) (dn dc : Nat) (ga : Option Addr) (gn gc : Nat) (l : List Rg) (hn : gn = l.length) (hx : RdR w ga l) (hl : gn ≤ 8796093022208) (hv : validR k e (z : Int) pt ix c dn cd gn l) (hk : ¬ k = 2) :
 Calls Tryz.prog 54 #[.pointer (some ⟨P.q, 0, none⟩), .agg (ucl k e (z : Int) pt ix c da dn dc cd ga gn gc)] w fun e9 w' => e9 = .returned (.tuple #[doneV 0 0 0, .bool false]) ∧ Below w.heap.size w w' := by
 have hk1 : (k == 2) = false := by simp [hk]
 have hk2 : (k != 2) = true := by simp [hk]
 obtain ⟨w1, hw1⟩ : ∃ w1, w1 = (w.alloc (.cells (ucl k e (z : Int) pt ix c da dn dc cd ga gn gc) tUn)).alloc (.cells #[.int .i64 0, .int .u64 0, .int .i64 0] tDo) := ⟨_, rfl⟩; obtain ⟨hb1, hsz1, hu1, hd1⟩ := hboxes w _ w1 hw1; obtain ⟨la, lc, hlv, -, -, -, hrdQ⟩ := OwnG.val (h.below hb1).l; obtain ⟨m, hm⟩ : ∃ m, m = P.Q.length := ⟨_, rfl⟩; have hm64 : m ≤ 64 := by rw [hm, h.llen]; have := hi.len; omega
 rw [← hm] at hlv
 have hsh : ∀ u, Below w1.heap.size w1 u → u.cell? ⟨w.heap.size, 0, none⟩ = some (.int .i64 k) ∧ u.cell? ⟨w.heap.size, 1, none⟩ = some (.int .u64 e) ∧ u.cell? ⟨w.heap.size, 2, none⟩ = some (.int .u64 (z : Int)) ∧ u.cell? ⟨w.heap.size, 3, none⟩ = some (.int .i64 pt) ∧ u.cell? ⟨w.heap.size, 4, none⟩ = some (.int .i64 ix) ∧ u.cell? ⟨w.heap.size, 5, none⟩ = some (.int .i64 c) ∧ u.cell? ⟨w.heap.size, 6, none⟩ = some (.slice da dn dc) ∧ u.cell? ⟨w.heap.size, 7, none⟩ = some (.int .i64 cd) ∧ u.cell? ⟨w.heap.size, 8, none⟩ = some (.slice ga gn gc) ∧ u.cell? ⟨P.q, 6, none⟩ = some (.int .u64 (t.ep : Int)) ∧ u.cell? ⟨P.q, 9, none⟩ = some (.slice la m lc) := fun u hu => by
  have h9 := (hu.block _ (sI hu1).1).trans hu1; have h8 := (h.below hb1).below hu; refine ⟨?_, ?_, ?_, ?_, ?_, ?_, ?_, ?_, ?_, ?_, ?_⟩
  all_goals first | (rw [cR h9]; rfl) | exact h8.cell 6 | (rw [← hlv]; exact h8.cell 9)
 have HV : Hid (∀ u, Below w1.heap.size w1 u → Calls Tryz.prog 95 #[.agg (ucl k e (z : Int) pt ix c da dn dc cd ga gn gc)] u fun e w' => e = .returned (.int .i64 0) ∧ Below u.heap.size u w') := fun u hu => by
  have h9 := rvalid_t k e (z : Int) pt ix c da dn dc cd ga gn gc l true (by simp; exact hv) u hn (hx.below (hb1.trans (hu.mono hb1.size))) hl
  simpa using h9
 have hsh1 := hsh w1 (bR _ _); have HB1 : Hid _ := hb1; have HD1 : Hid _ := hd1; have HH : Hid _ := h; have HI : Hid _ := hi; have HM : Hid (m = P.Q.length) := hm; have HLV : Hid (P.lv = .slice la m lc) := hlv; have HRQ : Hid (RdG KJe w1 la P.Q) := hrdQ; have HW1 : Hid (w1 = _) := hw1; have HX : Hid (∀ u, Below w1.heap.size w1 u → Below w.heap.size w u) := fun u hu => hb1.trans (hu.mono hb1.size)
 have HSZ1 : Hid (w1.heap.size = w.heap.size + 2) := hsz1; clear h hi hb1 hw1 hd1 hu1 hsz1 hv hm hlv hrdQ hn hx hl; go_enter Tryz.func54, Tryz.ntmps54
 (go_wp2_with fail); rw [← HW1.out]; refine wp_region_noPanic ?_; refine wp_region_held_drew (S := (fun u => Below w1.heap.size w1 u)) (by kernel_rfl) (by first | exact (bR _ _).drew | assumption | exact below_next (by assumption) (by assumption)) (fun hHeld => ?_); refine tz 0 8 hHeld ?_; simp only [pS]; refine run_at (i := 1) rfl (by kernel_rfl) (by rfl) (fun K hK => ?_); simp only [gE]; go_simp
 (go_at_call 95; refine Calls.mono (HV.out _ (by assumption)) ?_; rintro e9 u5 ⟨rfl, hu5⟩)
 (go_wp2_with fail); refine hK.out _ _ (by first | exact (bR _ _).drew | assumption | exact below_next (by assumption) (by assumption)) ?_; clear hK K; clear hHeld; intro hHeld; (try simp only [pS]); refine tz 2 10 hHeld ?_; simp only [pS]; refine tz 3 11 hHeld ?_; simp only [pS]; refine tz 4 12 hHeld ?_; simp only [pS]; refine tz 5 13 hHeld ?_; simp only [pS]; refine tk 6 14 (v := (Value.bool true)) ?_ hHeld ?_
 · (intro w hSw; (try dsimp only at hSw); go_simp)
 simp only [pS]; refine tz 7 15 hHeld ?_; simp only [pS]; refine tz 8 16 hHeld ?_; simp only [pS]; refine qS 9 17 hHeld ?_; simp only [pS]; refine qS 10 18 hHeld ?_; simp only [pS]; refine qS 11 19 hHeld ?_; simp only [pS]; refine qS 12 20 hHeld ?_; simp only [pS]; refine qS 13 21 hHeld ?_; simp only [pS]; refine qS 14 22 hHeld ?_; simp only [pS]; refine qS 15 23 hHeld ?_; simp only [pS]; refine tz 16 24 hHeld ?_; simp only [pS]; refine wpAnyH_done (by kernel_rfl) ?_ _; refine NoPanic.normal ?_; have hb2 := hHeld; clear hu5 hsh hsh1 hHeld; have hd2 := (hb2.block _ (sI HD1.out).1).trans HD1.out; have c0 : u5.cell? ⟨w.heap.size + 1, 0, none⟩ = some (.int .i64 0) := by rw [cR hd2]; rfl
 have c1 : u5.cell? ⟨w.heap.size + 1, 1, none⟩ = some (.int .u64 0) := by rw [cR hd2]; rfl
 have c2 : u5.cell? ⟨w.heap.size + 1, 2, none⟩ = some (.int .i64 0) := by rw [cR hd2]; rfl
 have f0 : u5.frozen? ⟨w.heap.size + 1, 0, none⟩ = false := by simp [World.frozen?, hd2]
 have f1 : u5.frozen? ⟨w.heap.size + 1, 1, none⟩ = false := by simp [World.frozen?, hd2]
 have f2 : u5.frozen? ⟨w.heap.size + 1, 2, none⟩ = false := by simp [World.frozen?, hd2]
 have HB2 : Hid (Below w.heap.size w u5) := HX.out _ hb2; clear hb2 hd2; go_wp2; exact bodyPost_ret (v := .tuple #[.agg #[.int .i64 0, .int .u64 0, .int .i64 0], .bool false]) (by simp [results, Tryz.results54, go_sem, c0, c1, c2, f0, f1, f2]) rfl ⟨rfl, ((HB2.out.setCell (p := ⟨w.heap.size + 1, 0, none⟩) (Nat.le_succ _) _).setCell (p := ⟨w.heap.size + 1, 1, none⟩) (Nat.le_succ _) _).setCell (p := ⟨w.heap.size + 1, 2, none⟩) (Nat.le_succ _) _⟩
theorem jhear_ep (h : JS w P X t) (hi : DInv t) (z : Nat) (k e cd pt ix c : Int) (da : Option Addr) (dn dc : Nat) (ga : Option Addr) (gn gc : Nat) (l : List Rg) (hn : gn = l.length) (hx : RdR w ga l) (hl : gn ≤ 8796093022208) (hv : validR 2 e (z : Int) pt ix c dn cd gn l) (he : ¬ e = (t.ep : Int)) :
 Calls Tryz.prog 54 #[.pointer (some ⟨P.q, 0, none⟩), .agg (ucl 2 e (z : Int) pt ix c da dn dc cd ga gn gc)] w fun e9 w' => e9 = .returned (.tuple #[doneV 0 0 0, .bool false]) ∧ Below w.heap.size w w' := by
 have hk1 : (e == (t.ep : Int)) = false := by simp [he]
 have hk2 : (e != (t.ep : Int)) = true := by simp [he]
 obtain ⟨w1, hw1⟩ : ∃ w1, w1 = (w.alloc (.cells (ucl 2 e (z : Int) pt ix c da dn dc cd ga gn gc) tUn)).alloc (.cells #[.int .i64 0, .int .u64 0, .int .i64 0] tDo) := ⟨_, rfl⟩; obtain ⟨hb1, hsz1, hu1, hd1⟩ := hboxes w _ w1 hw1; obtain ⟨la, lc, hlv, -, -, -, hrdQ⟩ := OwnG.val (h.below hb1).l; obtain ⟨m, hm⟩ : ∃ m, m = P.Q.length := ⟨_, rfl⟩; have hm64 : m ≤ 64 := by rw [hm, h.llen]; have := hi.len; omega
 rw [← hm] at hlv
 have hsh : ∀ u, Below w1.heap.size w1 u → u.cell? ⟨w.heap.size, 0, none⟩ = some (.int .i64 2) ∧ u.cell? ⟨w.heap.size, 1, none⟩ = some (.int .u64 e) ∧ u.cell? ⟨w.heap.size, 2, none⟩ = some (.int .u64 (z : Int)) ∧ u.cell? ⟨w.heap.size, 3, none⟩ = some (.int .i64 pt) ∧ u.cell? ⟨w.heap.size, 4, none⟩ = some (.int .i64 ix) ∧ u.cell? ⟨w.heap.size, 5, none⟩ = some (.int .i64 c) ∧ u.cell? ⟨w.heap.size, 6, none⟩ = some (.slice da dn dc) ∧ u.cell? ⟨w.heap.size, 7, none⟩ = some (.int .i64 cd) ∧ u.cell? ⟨w.heap.size, 8, none⟩ = some (.slice ga gn gc) ∧ u.cell? ⟨P.q, 6, none⟩ = some (.int .u64 (t.ep : Int)) ∧ u.cell? ⟨P.q, 9, none⟩ = some (.slice la m lc) := fun u hu => by
  have h9 := (hu.block _ (sI hu1).1).trans hu1; have h8 := (h.below hb1).below hu; refine ⟨?_, ?_, ?_, ?_, ?_, ?_, ?_, ?_, ?_, ?_, ?_⟩
  all_goals first | (rw [cR h9]; rfl) | exact h8.cell 6 | (rw [← hlv]; exact h8.cell 9)
 have HV : Hid (∀ u, Below w1.heap.size w1 u → Calls Tryz.prog 95 #[.agg (ucl 2 e (z : Int) pt ix c da dn dc cd ga gn gc)] u fun e w' => e = .returned (.int .i64 0) ∧ Below u.heap.size u w') := fun u hu => by
  have h9 := rvalid_t 2 e (z : Int) pt ix c da dn dc cd ga gn gc l true (by simp; exact hv) u hn (hx.below (hb1.trans (hu.mono hb1.size))) hl
  simpa using h9
 have hsh1 := hsh w1 (bR _ _); have HB1 : Hid _ := hb1; have HD1 : Hid _ := hd1; have HH : Hid _ := h; have HI : Hid _ := hi; have HM : Hid (m = P.Q.length) := hm; have HLV : Hid (P.lv = .slice la m lc) := hlv; have HRQ : Hid (RdG KJe w1 la P.Q) := hrdQ; have HW1 : Hid (w1 = _) := hw1; have HX : Hid (∀ u, Below w1.heap.size w1 u → Below w.heap.size w u) := fun u hu => hb1.trans (hu.mono hb1.size)
 have HSZ1 : Hid (w1.heap.size = w.heap.size + 2) := hsz1; clear h hi hb1 hw1 hd1 hu1 hsz1 hv hm hlv hrdQ hn hx hl; go_enter Tryz.func54, Tryz.ntmps54
 (go_wp2_with fail); rw [← HW1.out]; refine wp_region_noPanic ?_; refine wp_region_held_drew (S := (fun u => Below w1.heap.size w1 u)) (by kernel_rfl) (by first | exact (bR _ _).drew | assumption | exact below_next (by assumption) (by assumption)) (fun hHeld => ?_); refine tz 0 8 hHeld ?_; simp only [pS]; refine run_at (i := 1) rfl (by kernel_rfl) (by rfl) (fun K hK => ?_); simp only [gE]; go_simp
 (go_at_call 95; refine Calls.mono (HV.out _ (by assumption)) ?_; rintro e9 u5 ⟨rfl, hu5⟩)
 (go_wp2_with fail); refine hK.out _ _ (by first | exact (bR _ _).drew | assumption | exact below_next (by assumption) (by assumption)) ?_; clear hK K; clear hHeld; intro hHeld; (try simp only [pS]); refine tz 2 10 hHeld ?_; simp only [pS]; refine tz 3 11 hHeld ?_; simp only [pS]; refine tz 4 12 hHeld ?_; simp only [pS]; refine tz 5 13 hHeld ?_; simp only [pS]; refine tz 6 14 hHeld ?_; simp only [pS]; refine tz 7 15 hHeld ?_; simp only [pS]; refine tz 8 16 hHeld ?_; simp only [pS]; refine tz 9 17 hHeld ?_; simp only [pS]; refine tz 10 18 hHeld ?_; simp only [pS]; refine tz 11 19 hHeld ?_; simp only [pS]; refine tz 12 20 hHeld ?_; simp only [pS]; refine tz 13 21 hHeld ?_; simp only [pS]; refine tz 14 22 hHeld ?_; simp only [pS]; refine tk 15 23 (v := (Value.bool true)) ?_ hHeld ?_
 · (intro w hSw; (try dsimp only at hSw); go_simp)
 simp only [pS]; refine tz 16 24 hHeld ?_; simp only [pS]; refine wpAnyH_done (by kernel_rfl) ?_ _; refine NoPanic.normal ?_; have hb2 := hHeld; clear hu5 hsh hsh1 hHeld; have hd2 := (hb2.block _ (sI HD1.out).1).trans HD1.out; have c0 : u5.cell? ⟨w.heap.size + 1, 0, none⟩ = some (.int .i64 0) := by rw [cR hd2]; rfl
 have c1 : u5.cell? ⟨w.heap.size + 1, 1, none⟩ = some (.int .u64 0) := by rw [cR hd2]; rfl
 have c2 : u5.cell? ⟨w.heap.size + 1, 2, none⟩ = some (.int .i64 0) := by rw [cR hd2]; rfl
 have f0 : u5.frozen? ⟨w.heap.size + 1, 0, none⟩ = false := by simp [World.frozen?, hd2]
 have f1 : u5.frozen? ⟨w.heap.size + 1, 1, none⟩ = false := by simp [World.frozen?, hd2]
 have f2 : u5.frozen? ⟨w.heap.size + 1, 2, none⟩ = false := by simp [World.frozen?, hd2]
 have HB2 : Hid (Below w.heap.size w u5) := HX.out _ hb2; clear hb2 hd2; go_wp2; exact bodyPost_ret (v := .tuple #[.agg #[.int .i64 0, .int .u64 0, .int .i64 0], .bool false]) (by simp [results, Tryz.results54, go_sem, c0, c1, c2, f0, f1, f2]) rfl ⟨rfl, ((HB2.out.setCell (p := ⟨w.heap.size + 1, 0, none⟩) (Nat.le_succ _) _).setCell (p := ⟨w.heap.size + 1, 1, none⟩) (Nat.le_succ _) _).setCell (p := ⟨w.heap.size + 1, 2, none⟩) (Nat.le_succ _) _⟩
theorem jhear_out (h : JS w P X t) (hi : DInv t) (z : Nat) (k e cd pt ix c : Int) (da : Option Addr) (dn dc : Nat) (ga : Option Addr) (gn gc : Nat) (l : List Rg) (hn : gn = l.length) (hx : RdR w ga l) (hl : gn ≤ 8796093022208) (hv : validR 2 (t.ep : Int) (z : Int) pt ix c dn cd gn l) (hno : z ∉ t.L.map Fd.n) :
 Calls Tryz.prog 54 #[.pointer (some ⟨P.q, 0, none⟩), .agg (ucl 2 (t.ep : Int) (z : Int) pt ix c da dn dc cd ga gn gc)] w fun e9 w' => e9 = .returned (.tuple #[doneV 0 0 0, .bool false]) ∧ Below w.heap.size w w' := by
 have HOUT : Hid (z ∉ (P.Q.map Fq.x).map Fd.n) := by unfold Hid; rw [h.lx]; exact hno
 clear hno; obtain ⟨w1, hw1⟩ : ∃ w1, w1 = (w.alloc (.cells (ucl 2 (t.ep : Int) (z : Int) pt ix c da dn dc cd ga gn gc) tUn)).alloc (.cells #[.int .i64 0, .int .u64 0, .int .i64 0] tDo) := ⟨_, rfl⟩; obtain ⟨hb1, hsz1, hu1, hd1⟩ := hboxes w _ w1 hw1; obtain ⟨la, lc, hlv, -, -, -, hrdQ⟩ := OwnG.val (h.below hb1).l; obtain ⟨m, hm⟩ : ∃ m, m = P.Q.length := ⟨_, rfl⟩; have hm64 : m ≤ 64 := by rw [hm, h.llen]; have := hi.len; omega
 rw [← hm] at hlv
 have hsh : ∀ u, Below w1.heap.size w1 u → u.cell? ⟨w.heap.size, 0, none⟩ = some (.int .i64 2) ∧ u.cell? ⟨w.heap.size, 1, none⟩ = some (.int .u64 (t.ep : Int)) ∧ u.cell? ⟨w.heap.size, 2, none⟩ = some (.int .u64 (z : Int)) ∧ u.cell? ⟨w.heap.size, 3, none⟩ = some (.int .i64 pt) ∧ u.cell? ⟨w.heap.size, 4, none⟩ = some (.int .i64 ix) ∧ u.cell? ⟨w.heap.size, 5, none⟩ = some (.int .i64 c) ∧ u.cell? ⟨w.heap.size, 6, none⟩ = some (.slice da dn dc) ∧ u.cell? ⟨w.heap.size, 7, none⟩ = some (.int .i64 cd) ∧ u.cell? ⟨w.heap.size, 8, none⟩ = some (.slice ga gn gc) ∧ u.cell? ⟨P.q, 6, none⟩ = some (.int .u64 (t.ep : Int)) ∧ u.cell? ⟨P.q, 9, none⟩ = some (.slice la m lc) := fun u hu => by
  have h9 := (hu.block _ (sI hu1).1).trans hu1; have h8 := (h.below hb1).below hu; refine ⟨?_, ?_, ?_, ?_, ?_, ?_, ?_, ?_, ?_, ?_, ?_⟩
  all_goals first | (rw [cR h9]; rfl) | exact h8.cell 6 | (rw [← hlv]; exact h8.cell 9)
 have HV : Hid (∀ u, Below w1.heap.size w1 u → Calls Tryz.prog 95 #[.agg (ucl 2 (t.ep : Int) (z : Int) pt ix c da dn dc cd ga gn gc)] u fun e w' => e = .returned (.int .i64 0) ∧ Below u.heap.size u w') := fun u hu => by
  have h9 := rvalid_t 2 (t.ep : Int) (z : Int) pt ix c da dn dc cd ga gn gc l true (by simp; exact hv) u hn (hx.below (hb1.trans (hu.mono hb1.size))) hl
  simpa using h9
 have hsh1 := hsh w1 (bR _ _); have HB1 : Hid _ := hb1; have HD1 : Hid _ := hd1; have HH : Hid _ := h; have HI : Hid _ := hi; have HM : Hid (m = P.Q.length) := hm; have HLV : Hid (P.lv = .slice la m lc) := hlv; have HRQ : Hid (RdG KJe w1 la P.Q) := hrdQ; have HW1 : Hid (w1 = _) := hw1; have HX : Hid (∀ u, Below w1.heap.size w1 u → Below w.heap.size w u) := fun u hu => hb1.trans (hu.mono hb1.size)
 have HSZ1 : Hid (w1.heap.size = w.heap.size + 2) := hsz1; clear h hi hb1 hw1 hd1 hu1 hsz1 hv hm hlv hrdQ hn hx hl; go_enter Tryz.func54, Tryz.ntmps54
 (go_wp2_with fail); rw [← HW1.out]; refine wp_region_noPanic ?_; refine wp_region_held_drew (S := (fun u => Below w1.heap.size w1 u)) (by kernel_rfl) (by first | exact (bR _ _).drew | assumption | exact below_next (by assumption) (by assumption)) (fun hHeld => ?_); refine tz 0 8 hHeld ?_; simp only [pS]; refine run_at (i := 1) rfl (by kernel_rfl) (by rfl) (fun K hK => ?_); simp only [gE]; go_simp
 (go_at_call 95; refine Calls.mono (HV.out _ (by assumption)) ?_; rintro e9 u5 ⟨rfl, hu5⟩)
 (go_wp2_with fail); refine hK.out _ _ (by first | exact (bR _ _).drew | assumption | exact below_next (by assumption) (by assumption)) ?_; clear hK K; clear hHeld; intro hHeld; (try simp only [pS]); refine tz 2 10 hHeld ?_; simp only [pS]; refine tz 3 11 hHeld ?_; simp only [pS]; refine tz 4 12 hHeld ?_; simp only [pS]; refine tz 5 13 hHeld ?_; simp only [pS]; refine tz 6 14 hHeld ?_; simp only [pS]; refine tz 7 15 hHeld ?_; simp only [pS]; refine tz 8 16 hHeld ?_; simp only [pS]; refine tz 9 17 hHeld ?_; simp only [pS]; refine tz 10 18 hHeld ?_; simp only [pS]; refine tz 11 19 hHeld ?_; simp only [pS]; refine tz 12 20 hHeld ?_; simp only [pS]; refine tz 13 21 hHeld ?_; simp only [pS]; refine tz 14 22 hHeld ?_; simp only [pS]; refine tk 15 23 (v := (Value.bool false)) ?_ hHeld ?_
 · (intro w hSw; (try dsimp only at hSw); go_simp)
 simp only [pS]; refine tz 16 24 hHeld ?_; simp only [pS]; refine wpAnyH_done (by kernel_rfl) ?_ _; refine NoPanic.normal ?_; have hb2 := hHeld; clear hu5 hsh1 hHeld
 have HRX : Hid (∀ u, Below w1.heap.size w1 u → ∀ i (hi : i < P.Q.length), ∃ b o, la = some ⟨b, o, none⟩ ∧ u.cell? ⟨b, o + i * 7, none⟩ = some (.int .u64 ((P.Q[i]).x.n : Int))) := fun u hu i hi => by
  obtain ⟨b, o, e, r1, -⟩ := RdG.below HRQ.out hu i hi; have h9 := r1 0 (.int .u64 ((P.Q[i]).x.n : Int)) rfl; rw [Nat.add_zero] at h9; exact ⟨b, o, e, h9⟩
 go_wp2; go_loopw [6] (fun j wr => ∃ i : Nat, i ≤ m ∧ j = .int .i64 (i : Int) ∧ Below w1.heap.size w1 wr ∧ Hid (∀ i' (hi : i' < P.Q.length), i' < i → ¬ (P.Q[i']).x.n = z)) (fun j _ => m - (intOf j).toNat)
 case atStart => exact ⟨0, Nat.zero_le _, rfl, hb2, fun i' hi h9 => by omega⟩
 case round =>
  obtain ⟨i, him, rfl, hbw, HNO⟩ := hrel; clear hb2; have hkw : IntKind.i64.wrap ((i : Int) + 1) = ((i + 1 : Nat) : Int) := by rw [IntKind.wrap_i64]; omega
  have hshr := hsh wr hbw
  by_cases hlt : i < m
  · have hlti : (i : Int) < (m : Int) := by omega
    have hi0 : (0 : Int) ≤ (i : Int) := by omega
    have hi1 : i < P.Q.length := by rw [← HM.out]; exact hlt
    obtain ⟨b, o, e1, -⟩ := HRX.out wr hbw i hi1; subst e1; obtain ⟨x, hx⟩ : ∃ x : Fq, x = P.Q[i] := ⟨_, rfl⟩
    have hxc : ∀ u, Below w1.heap.size w1 u → u.cell? ⟨b, o + i * 7, none⟩ = some (.int .u64 (x.x.n : Int)) := fun u hu => by
     obtain ⟨b', o', e', h9⟩ := HRX.out u hu i hi1; cases e'; rw [hx]; exact h9
    have HXE : Hid (P.Q[i]? = some x) := by unfold Hid; rw [hx]; exact List.getElem?_eq_getElem hi1
    have HBW : Hid _ := hbw
    by_cases he : x.x.n = z
    · exact absurd (List.mem_map.2 ⟨_, List.mem_map.2 ⟨_, List.getElem_mem hi1, rfl⟩, by rw [← hx]; exact he⟩) HOUT.out
    · have hei : ((x.x.n : Int) == (z : Int)) = false := by simp; omega
      have hei2 : ¬ (x.x.n : Int) = (z : Int) := by omega
      have hei3 : ((x.x.n : Int) != (z : Int)) = true := by simp; omega
      have HNX : Hid (∀ i' (hi : i' < P.Q.length), i' < i + 1 → ¬ (P.Q[i']).x.n = z) := fun i' hi h9 => by
       by_cases e : i' = i
       · subst e; have h7 := HXE.out; rw [List.getElem?_eq_getElem hi] at h7; rw [Option.some.inj h7]; exact he
       · exact HNO.out i' hi (by omega)
      clear hx hi1 he HNO; (go_wp2_with fail); refine wp_region_noPanic ?_; refine wp_region_held_drew (S := (fun u => Below w1.heap.size w1 u)) (by kernel_rfl) (by first | exact hbw.drew | assumption) (fun hHeld => ?_); refine tz 0 35 hHeld ?_; simp only [pS]; refine tz 1 36 hHeld ?_; simp only [pS]; refine tz 2 37 hHeld ?_; simp only [pS]; refine tk 3 38 (v := .slice (some ⟨b, o, none⟩) m lc) ?_ hHeld ?_
      · (intro w hSw; have hc9 := hsh _ hSw; go_simp; try with_reducible rfl)
      simp only [pS]; refine tz 4 39 hHeld ?_; simp only [pS]; refine tz 5 40 hHeld ?_; simp only [pS]; refine tz 6 41 hHeld ?_; simp only [pS]; refine tk 7 42 (v := .int .u64 (x.x.n : Int)) ?_ hHeld ?_
      · (intro w hSw; have hc9 := hxc _ hSw; go_simp; try with_reducible rfl)
      simp only [pS]; refine tz 8 43 hHeld ?_; simp only [pS]; refine tk 9 44 (v := .int .u64 (z : Int)) ?_ hHeld ?_
      · (intro w hSw; have hc9 := hsh _ hSw; go_simp; try with_reducible rfl)
      simp only [pS]; refine tk 10 45 (v := .bool true) ?_ hHeld ?_
      · (intro w hSw; go_simp; try with_reducible rfl)
      simp only [pS]; refine wpAnyH_done (by kernel_rfl) ?_ _; refine NoPanic.normal ?_; go_wp2; go_roundw
      case rel => exact ⟨i + 1, by omega, by go_num, HBW.out.drew, HNX⟩
      case measure => simp [intOf]; omega
  · have hlti : ¬ (i : Int) < (m : Int) := by omega
    have HALL : Hid (∀ i' (hi : i' < P.Q.length), ¬ (P.Q[i']).x.n = z) := fun i' hi => HNO.out i' hi (by have := HM.out; omega)
    clear HNO; have hb2 := hbw; clear hsh hbw; have hd2 := (hb2.block _ (sI HD1.out).1).trans HD1.out; have c0 : wr.cell? ⟨w.heap.size + 1, 0, none⟩ = some (.int .i64 0) := by rw [cR hd2]; rfl
    have c1 : wr.cell? ⟨w.heap.size + 1, 1, none⟩ = some (.int .u64 0) := by rw [cR hd2]; rfl
    have c2 : wr.cell? ⟨w.heap.size + 1, 2, none⟩ = some (.int .i64 0) := by rw [cR hd2]; rfl
    have f0 : wr.frozen? ⟨w.heap.size + 1, 0, none⟩ = false := by simp [World.frozen?, hd2]
    have f1 : wr.frozen? ⟨w.heap.size + 1, 1, none⟩ = false := by simp [World.frozen?, hd2]
    have f2 : wr.frozen? ⟨w.heap.size + 1, 2, none⟩ = false := by simp [World.frozen?, hd2]
    have HB2 : Hid (Below w.heap.size w wr) := HX.out _ hb2; clear hb2 hd2; go_wp2; exact bodyPost_ret (v := .tuple #[.agg #[.int .i64 0, .int .u64 0, .int .i64 0], .bool false]) (by simp [results, Tryz.results54, go_sem, c0, c1, c2, f0, f1, f2]) rfl ⟨rfl, ((HB2.out.setCell (p := ⟨w.heap.size + 1, 0, none⟩) (Nat.le_succ _) _).setCell (p := ⟨w.heap.size + 1, 1, none⟩) (Nat.le_succ _) _).setCell (p := ⟨w.heap.size + 1, 2, none⟩) (Nat.le_succ _) _⟩
end
end Go.Proofs.YtpakkpahcpgnnaaGreatDoor
