import Derived.Test.YtpakkpahcpgnnaaGreatDoorXS
import Derived.Test.YtpakkpahcpgnnaaGreatDoorCH
set_option linter.unusedVariables false
set_option linter.unusedSimpArgs false
namespace Go.Proofs.YtpakkpahcpgnnaaGreatDoor
open Go.RowKit Go.Maps
structure Fe where
 n : Nat
 k : Fk
 T : List Seg
 told : List Rg
 ag : Nat
 due : Nat
 at_ : Nat
 sq : Nat
structure Fs where
 mtu : Nat
 rt : Nat
 rs : Nat
 win : Nat
 ep : Nat
 clk : Nat
 N : Nat
 S : Nat
 row : List (Fk × Seg)
 L : List Fe
structure FInv (s : Fs) : Prop where
 mt : 16 ≤ s.mtu ∧ s.mtu ≤ 1024
 rt : 1 ≤ s.rt ∧ s.rt ≤ 4096
 rs : s.rs ≤ 16
 wn : 1 ≤ s.win ∧ s.win ≤ 8
 e : 1 ≤ s.ep ∧ s.ep ≤ mxX
 c : s.clk ≤ mxX
 nc : s.N ≤ s.clk
 len : s.row.length + s.L.length ≤ 64
 lw : s.L.length ≤ s.win
 num : ∀ x, x ∈ s.L → 1 ≤ x.n ∧ x.n ≤ mxX
 up : s.L.Pairwise (fun a b => a.n < b.n)
 good : ∀ k, k ∈ s.row.map Prod.fst ∨ k ∈ s.L.map Fe.k → goodK k
 nk : (s.row.map Prod.fst ++ s.L.map Fe.k).Nodup
 blk : ∀ r, r ∈ s.row → 1 ≤ r.2.length ∧ r.2.length ≤ 1024
 seg : ∀ x, x ∈ s.L → (1 ≤ x.T.length ∧ x.T.length ≤ 64) ∧ ∀ t, t ∈ x.T → 1 ≤ t.length ∧ t.length ≤ 1024
 ag : ∀ x, x ∈ s.L → x.ag ≤ s.rs
abbrev tFx : TypeId := 92
abbrev tFr : TypeId := 97
abbrev tFs : TypeId := 102
abbrev KFr : Kd (Fk × Dc) := { t := tFr, ts := 90, k := 3, by_ := 40, f := fun r => [.int .i64 r.1.1, .int .u64 (r.1.2 : Int), r.2.v], z := .agg #[.int .i64 0, .int .u64 0, .slice none 0 0], hk := fun _ => rfl, h1 := (fun d u hu => by simp at hu; rcases hu with rfl | rfl | rfl <;> rfl), hpos := by decide, ht := Tryz.underlying90, hi := by kernel_rfl, hz := rfl }
def KSp : Kk Nat Nat := { t := 23, kv := fun n => .int .u64 (n : Int), kl := fun n => .int .u64 (n : Int), ok := fun n => n < 18446744073709551616, vv := fun g => .pointer (some ⟨g, 0, none⟩), keyed := int_keyed xu64, of := fun h => keyOf_int_mk xu64 (xwf64 h), inj := fun h => (by simp only [Value.int.injEq, true_and] at h; omega), inv := fun h => nU_inv h }
structure Fm where
 g : Nat
 sa : Option Addr
 sn : Nat
 sc : Nat
 E : List Dc
 ta : Option Addr
 tn : Nat
 tc : Nat
abbrev Fm.sv (m : Fm) : Value := .slice m.sa m.sn m.sc
abbrev Fm.tv (m : Fm) : Value := .slice m.ta m.tn m.tc
def footM (m : Fm) (b : Nat) : Prop := b = m.g ∨ m.sv.ownBlock = some b ∨ XV m.E b ∨ m.tv.ownBlock = some b
structure SeA (w : World) (x : Fe) (m : Fm) : Prop where
 box : w.heap[m.g]? = some (.cells #[.int .i64 x.k.1, .int .u64 (x.k.2 : Int), m.sv, m.tv, .int .i64 (x.ag : Int)] tFs (0, 0))
 seg : Lists w 0 m.sv m.E x.T
 tol : OwnR w 0 m.tv x.told
theorem OwnR.blkR {w : World} {B b : Nat} {v : Value} {xs : List Rg} (h : OwnR w B v xs) (e : v.ownBlock = some b) : b < w.heap.size := (World.ownsRow.lt h b e).2
theorem OwnR.keptR {w w' : World} {B : Nat} {v : Value} {xs : List Rg} (h : OwnR w B v xs) (hk : ∀ b, v.ownBlock = some b → w'.heap[b]? = w.heap[b]?) : OwnR w' B v xs := by
 refine ⟨h.1, ?_⟩; rcases h.2 with h0 | ⟨g, cap, cur, e, hB, hg, r⟩
 · exact .inl h0
 · exact .inr ⟨g, cap, cur, e, hB, (hk g (by rw [e]; rfl)).trans hg, r⟩
theorem OwnR.atR {w : World} {B b : Nat} {v : Value} {xs : List Rg} (h : OwnR w B v xs) (hb : v.ownBlock = some b) : ∃ cur, w.heap[b]? = some (.cells cur 108 (0, 0)) := by
 rcases h.2 with ⟨rfl, -⟩ | ⟨g, cap, cur, rfl, -, hg, -⟩
 · cases hb
 · cases hb; exact ⟨cur, hg⟩
section
variable {w w' : World} {x : Fe} {m : Fm}
theorem SeA.lt (h : SeA w x m) {b : Nat} (hb : footM m b) : b < w.heap.size := by
 rcases hb with rfl | hb | hb | hb
 · exact (sI h.box).1
 · exact (h.seg.lt (.inl hb)).2
 · exact (h.seg.lt (.inr hb)).2
 · exact h.tol.blkR hb
theorem SeA.kept (h : SeA w x m) (hk : ∀ b, footM m b → w'.heap[b]? = w.heap[b]?) : SeA w' x m :=
 ⟨(hk m.g (.inl rfl)).trans h.box, h.seg.kept (fun b hb => hk b (by rcases hb with hb | hb; exact .inr (.inl hb); exact .inr (.inr (.inl hb)))), h.tol.keptR (fun b hb => hk b (.inr (.inr (.inr hb))))⟩
end
abbrev cellsFx (s : Fs) (rv : Value) (ms pw : Nat) : Array Value := #[.int .i64 (s.mtu : Int), .int .u64 (s.rt : Int), .int .i64 (s.rs : Int), .int .i64 (s.win : Int), .int .u64 (s.ep : Int), .int .u64 (s.clk : Int), rv, .map (some ms), .pointer (some ⟨pw, 0, none⟩)]
structure Fp where
 p : Nat
 ms : Nat
 pw : Nat
 mw : Nat
 V : Nat → Nat → Value
 rv : Value
 R : List (Fk × Dc)
 M : List Fm
def footF (P : Fp) (b : Nat) : Prop := b = P.p ∨ b = P.ms ∨ P.rv.ownBlock = some b ∨ XV (P.R.map Prod.snd) b ∨ (∃ m, m ∈ P.M ∧ footM m b) ∨ Wh.footW P.pw P.mw P.V b
def mpF (L : List Fe) (M : List Fm) : List (Nat × Nat) := List.zipWith (fun x m => (x.n, m.g)) L M
structure FSw (w : World) (P : Fp) (s : Fs) (W : List Wh.Tm) : Prop where
 blk : w.heap[P.p]? = some (.cells (cellsFx s P.rv P.ms P.pw) tFx (0, 0))
 row : OwnG KFr w 0 P.rv P.R
 rk : P.R.map Prod.fst = s.row.map Prod.fst
 rb : Fml w 0 (P.R.map Prod.snd) (s.row.map Prod.snd)
 mp : MapG KSp w P.ms (mpF s.L P.M)
 len : P.M.length = s.L.length
 se : ∀ (i : Nat) x m, s.L[i]? = some x → P.M[i]? = some m → SeA w x m
 wh : Wh.Wt w P.pw P.mw s.N s.S W P.V
 inv : FInv s
 aw : ∀ b, Wh.footW P.pw P.mw P.V b → b ≠ P.p ∧ b ≠ P.ms ∧ P.rv.ownBlock ≠ some b ∧ ¬ XV (P.R.map Prod.snd) b ∧ ∀ m, m ∈ P.M → ¬ footM m b
 am : ∀ (i j : Nat) m m' b, P.M[i]? = some m → P.M[j]? = some m' → i ≠ j → footM m b → ¬ footM m' b
 ab : ∀ m, m ∈ P.M → ∀ b, footM m b → ¬ XV (P.R.map Prod.snd) b
def tmsF (L : List Fe) : List Wh.Tm := L.map (fun x => ⟨(x.n : Int), x.at_, x.sq⟩)
section
variable {w w' : World} {P : Fp} {s : Fs} {W : List Wh.Tm}
theorem FSw.mem (h : FSw w P s W) {m : Fm} (hm : m ∈ P.M) : ∃ (i : Nat) (x : Fe), s.L[i]? = some x ∧ P.M[i]? = some m := by
 obtain ⟨i, hi, rfl⟩ := List.getElem_of_mem hm; exact ⟨i, s.L[i]'(by rw [← h.len]; exact hi), List.getElem?_eq_getElem _, List.getElem?_eq_getElem hi⟩
theorem FSw.lt (h : FSw w P s W) {b : Nat} (hb : footF P b) : b < w.heap.size := by
 rcases hb with rfl | rfl | hb | hb | ⟨m, hm, hb⟩ | hb
 · exact (sI h.blk).1
 · exact h.mp.lt
 · exact (h.row.lt' hb).2
 · exact (h.rb.lt hb).2
 · obtain ⟨i, x, h1, h2⟩ := h.mem hm; exact (h.se i x m h1 h2).lt hb
 · exact h.wh.lt hb
theorem FSw.chg {G : Nat → Prop} (h : FSw w P s W) (hc : Chg G w w') (hG : ∀ b, footF P b → ¬ G b) : FSw w' P s W := by
 have hk : ∀ b, footF P b → w'.heap[b]? = w.heap[b]? := fun b hb => hc.block b (h.lt hb) (hG b hb)
 exact ⟨(hk _ (.inl rfl)).trans h.blk, h.row.kept (fun b hb => hk b (.inr (.inr (.inl hb)))), h.rk, h.rb.kept (fun b hb => hk b (.inr (.inr (.inr (.inl hb))))), h.mp.kept (hk _ (.inr (.inl rfl))), h.len, fun i x m h1 h2 => (h.se i x m h1 h2).kept (fun b hb => hk b (.inr (.inr (.inr (.inr (.inl ⟨m, List.mem_of_getElem? h2, hb⟩)))))), h.wh.chg (chgV hc) (fun b hb => hG b (.inr (.inr (.inr (.inr (.inr hb)))))), h.inv, h.aw, h.am, h.ab⟩
theorem FSw.below (h : FSw w P s W) (hb : Below w.heap.size w w') : FSw w' P s W := h.chg (Chg.of_below (F := fun _ => False) hb) (fun _ _ h => h)
theorem FSw.cell (h : FSw w P s W) (i : Nat) : w.cell? ⟨P.p, i, none⟩ = (cellsFx s P.rv P.ms P.pw)[i]? := by rw [cR h.blk]
theorem FSw.frz (h : FSw w P s W) (i : Nat) : w.frozen? ⟨P.p, i, none⟩ = false := by simp [World.frozen?, h.blk]
structure FStp (w w' : World) (P P' : Fp) : Prop where
 chg : Chg (footF P) w w'
 new : ∀ b, footF P' b → footF P b ∨ w.heap.size ≤ b
theorem FStp.below (h : Below w.heap.size w w') (P : Fp) : FStp w w' P P := ⟨Chg.of_below h, fun _ h => .inl h⟩
theorem FStp.trans {a b c : World} {P P' P'' : Fp} (h : FStp a b P P') (k : FStp b c P' P'') : FStp a c P P'' :=
 ⟨h.chg.trans k.chg h.new, fun i hi => by
   rcases k.new i hi with h1 | h1
   · exact h.new i h1
   · exact .inr (Nat.le_trans h.chg.size h1)⟩
end
end Go.Proofs.YtpakkpahcpgnnaaGreatDoor
