import Derived.Test.YtdpkommmkcmifaaTrO
namespace Go.Proofs.Ytdpkommmkcmifaa
set_option linter.unusedVariables false
set_option linter.unusedSimpArgs false
open Go.RowKit
/-- the bundle of a wrapped frame, wherever it is on its way -/
def Tr (fl tt s fr tm sq lf : Nat) (d : List UInt8) (b : Bun) : Prop := ∃ h a, b = trB fl tt s fr tm sq lf h a d ∧ TrOk fl tt s fr tm sq lf h a d
theorem tr_wr {st : Int} {tm sq lf : Nat} {d : List UInt8} {fr tt : Nat} {nw : Bool} (hf : fitF st tm sq lf) (h1 : fr ≤ 281474976710655) (h2 : tt ≤ 281474976710655) (hd : d.length ≤ 512) :
    TrOk (if nw = true then 7 else 5) tt st.toNat fr tm sq lf [8, 0] [0] d := by
  obtain ⟨g1, g2, g3, g4, g5⟩ := hf
  have h := wr_blks
  refine ⟨by split <;> omega, h2, by omega, h1, g3, g4, g5, ?_, ?_, hd⟩
  · have := h.2 0 (by decide); unfold blkS at this; simp at this; exact this.2.2
  · have := h.2 1 (by decide); unfold blkS at this; simp at this; exact this.2.2
theorem BunR.blt {w : World} {b : Bun} {ba : Option Addr} {bc : Nat} {pa : Option Addr} {pc : Nat} (h : BunR w b ba bc pa pc) (h0 : 0 < b.bl.length) : ∀ q, ba = some q → q.block < w.heap.size := by
  intro q hq
  obtain ⟨g, o, e, hc⟩ := h.rb h0
  rw [hq] at e
  cases e
  obtain ⟨a, c, c0, -⟩ := hc 0 h0
  exact World.block_lt_of_cell? w _ c0
section
variable {fl tt s fr tm sq lf : Nat} {d : List UInt8} {b : Bun}
theorem Tr.valid (k : Tr fl tt s fr tm sq lf d b) : ValidIs b 0 := by
  obtain ⟨h, a, rfl, k⟩ := k
  exact k.valid
theorem Tr.pos (k : Tr fl tt s fr tm sq lf d b) : 0 < b.bl.length := by
  obtain ⟨h, a, rfl, k⟩ := k
  simp [trB]
theorem Tr.dec (k : Tr fl tt s fr tm sq lf d b) : decS (encB b) = (b, 0) := by
  obtain ⟨h, a, rfl, k⟩ := k
  exact k.dec
theorem Tr.len (k : Tr fl tt s fr tm sq lf d b) : (encB b).length ≤ 1024 := by
  obtain ⟨h, a, rfl, k⟩ := k
  exact k.len
theorem Tr.hop (k : Tr fl tt s fr tm sq lf d b) {o : Bun} {n : Int} (t : TurnIs b 10 hopTurn o n) : n = 6 ∨ (n = 0 ∧ Tr fl tt s fr tm sq lf d o) := by
  obtain ⟨h, a, rfl, k⟩ := k
  rcases k.hop t with ⟨e, -⟩ | ⟨e, h', -, k', e2⟩
  · exact .inl e
  · exact .inr ⟨e, h', a, e2, k'⟩
theorem Tr.age {x : Nat} (k : Tr fl tt s fr tm sq lf d b) {o : Bun} {n : Int} (t : TurnIs b 7 (ageTurn x) o n) : n = 6 ∨ (n = 0 ∧ Tr fl tt s fr tm sq lf d o) := by
  obtain ⟨h, a, rfl, k⟩ := k
  rcases k.age t with ⟨e, -⟩ | ⟨e, a', -, k', e2⟩
  · exact .inl e
  · exact .inr ⟨e, h, a', e2, k'⟩
theorem Tr.opens (k : Tr fl tt s fr tm sq lf d b) (hodd : fl % 2 = 1) {st : Int} {tm' sq' lf' : Nat} {xs : List UInt8} {fr' : Nat} {nw : Bool} {n : Int} (o : OpenIs b st tm' sq' lf' xs fr' nw n) :
    n = 0 ∧ st = (s : Nat) ∧ tm' = tm ∧ sq' = sq ∧ lf' = lf ∧ xs = d ∧ fr' = fr ∧ nw = decide (fl / 2 % 2 = 1) := by
  obtain ⟨h, a, rfl, k⟩ := k
  exact k.opens hodd o
theorem Tr.opensF {st0 : Int} {nw : Bool} (k : Tr fl tt st0.toNat fr tm sq lf d b) (hfl : fl = if nw = true then 7 else 5) (h0 : 0 ≤ st0) {st : Int} {tm' sq' lf' : Nat} {xs : List UInt8} {fr' : Nat} {nw' : Bool} {n : Int} (o : OpenIs b st tm' sq' lf' xs fr' nw' n) :
    n = 0 ∧ st = st0 ∧ tm' = tm ∧ sq' = sq ∧ lf' = lf ∧ xs = d ∧ fr' = fr ∧ nw' = nw := by
  obtain ⟨h1, h2, h3, h4, h5, h6, h7, h8⟩ := k.opens (by rw [hfl]; cases nw <;> rfl) o
  refine ⟨h1, by omega, h3, h4, h5, h6, h7, ?_⟩
  rw [h8, hfl]
  cases nw <;> rfl
end
end Go.Proofs.Ytdpkommmkcmifaa
