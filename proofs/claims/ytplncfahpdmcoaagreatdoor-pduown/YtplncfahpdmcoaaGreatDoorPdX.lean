import Derived.Test.YtplncfahpdmcoaaGreatDoorUGo
import Derived.Test.YtplncfahpdmcoaaGreatDoorPdM
namespace Go.Proofs.YtplncfahpdmcoaaGreatDoor
set_option linter.unusedVariables false
set_option linter.unusedSimpArgs false
open Go.RowKit
def EncIs (ys : List UInt8) (r : Int) (w : World) (er : Ending) (w' : World) : Prop := ∃ (a : Option Addr) (L c : Nat), er = .returned (.tuple #[.slice a L c, .int .i64 r]) ∧ L = ys.length ∧ Rd w' a ys ∧ Below w.heap.size w w'
theorem EncOut.is {T : List UInt8} {w w' : World} {er : Ending} (h : EncOut T w er w') : EncIs (T ++ sealL T) 0 w er w' := by
  obtain ⟨a, L, c, h1, h2, h3, -, h5⟩ := h
  exact ⟨a, L, c, h1, h2, h3, h5⟩
theorem EncOwn.is {T : List UInt8} {w w' : World} {er : Ending} (h : EncOwn T w er w') : EncIs (T ++ sealL T) 0 w er w' := h.out.is
/-- what the four answer of one unit -/
structure Four (k e s p i c : Int) (dn : Nat) (cd : Int) (gn : Nat) (ds : List UInt8) (l : List Rg) (ys : List UInt8) (r : Int) : Prop where
  enc : ∀ da dc ga gc w, Rd w da ds → (da = none → dc = 0) → RdR w ga l → gn ≤ gc → TabOk w → Calls Tryz.prog 6 #[.agg #[.int .i64 k, .int .u64 e, .int .u64 s, .int .i64 p, .int .i64 i, .int .i64 c, .slice da dn dc, .int .i64 cd, .slice ga gn gc]] w fun er w' => EncIs ys r w er w'
  renc : ∀ da dc ga gc w, Rd w da ds → (da = none → dc = 0) → RdR w ga l → Calls Tryz.prog 19 #[.agg #[.int .i64 k, .int .u64 e, .int .u64 s, .int .i64 p, .int .i64 i, .int .i64 c, .slice da dn dc, .int .i64 cd, .slice ga gn gc]] w fun er w' => EncIs ys r w er w'
  val : ∀ da dc ga gc w, RdR w ga l → gn ≤ gc → Calls Tryz.prog 23 #[.agg #[.int .i64 k, .int .u64 e, .int .u64 s, .int .i64 p, .int .i64 i, .int .i64 c, .slice da dn dc, .int .i64 cd, .slice ga gn gc]] w fun er w' => er = .returned (.int .i64 r) ∧ Below w.heap.size w w'
  rval : ∀ da dc ga gc w, RdR w ga l → Calls Tryz.prog 4 #[.agg #[.int .i64 k, .int .u64 e, .int .u64 s, .int .i64 p, .int .i64 i, .int .i64 c, .slice da dn dc, .int .i64 cd, .slice ga gn gc]] w fun er w' => er = .returned (.int .i64 r) ∧ Below w.heap.size w w'
theorem four (k e s p i c : Int) (dn : Nat) (cd : Int) (gn : Nat) (ds : List UInt8) (l : List Rg) (hdn : dn = ds.length) (hgn : gn = l.length) (hl : gn ≤ 8796093022208) : ∃ ys r, Four k e s p i c dn cd gn ds l ys r := by
  by_cases hv : validR k e s p i c dn cd gn l
  · have hval : ∀ da dc ga gc w, RdR w ga l → gn ≤ gc → Calls Tryz.prog 23 #[.agg #[.int .i64 k, .int .u64 e, .int .u64 s, .int .i64 p, .int .i64 i, .int .i64 c, .slice da dn dc, .int .i64 cd, .slice ga gn gc]] w fun er w' => er = .returned (.int .i64 0) ∧ Below w.heap.size w w' := fun da dc ga gc w hx hc => valid_t k e s p i c da dn dc cd ga gn gc l true ⟨fun _ => hv, fun _ => rfl⟩ w hgn hx hl hc
    have hrval : ∀ da dc ga gc w, RdR w ga l → Calls Tryz.prog 4 #[.agg #[.int .i64 k, .int .u64 e, .int .u64 s, .int .i64 p, .int .i64 i, .int .i64 c, .slice da dn dc, .int .i64 cd, .slice ga gn gc]] w fun er w' => er = .returned (.int .i64 0) ∧ Below w.heap.size w w' := fun da dc ga gc w hx => rvalid_t k e s p i c da dn dc cd ga gn gc l true ⟨fun _ => hv, fun _ => rfl⟩ w hgn hx hl
    have hv' := hv
    obtain ⟨⟨hE, hS⟩, hk⟩ := hv'
    unfold nameOk at hE hS
    obtain ⟨E, rfl⟩ : ∃ E : Nat, e = (E : Int) := ⟨e.toNat, by omega⟩
    obtain ⟨S, rfl⟩ : ∃ S : Nat, s = (S : Int) := ⟨s.toNat, by omega⟩
    rcases hk with ⟨rfl, h⟩ | ⟨rfl, h⟩ | ⟨rfl, h⟩
    · obtain ⟨C, rfl⟩ : ∃ C : Nat, c = (C : Int) := ⟨c.toNat, by omega⟩
      obtain ⟨I, rfl⟩ : ∃ I : Nat, i = (I : Int) := ⟨i.toNat, by omega⟩
      obtain ⟨Q, rfl⟩ : ∃ Q : Nat, p = (Q : Int) := ⟨p.toNat, by omega⟩
      exact ⟨_, 0, ⟨fun da dc ga gc w hd hn hx hc ht => (enc_1 E S Q I C da dn dc ds cd ga gn gc l w hv hdn hd hn hgn hx hl hc ht).mono fun _ _ h => h.is, fun da dc ga gc w hd hn hx => (renc_1 E S Q I C da dn dc ds cd ga gn gc l w hv hdn hd hn hgn hx hl).mono fun _ _ h => h.is, hval, hrval⟩⟩
    · obtain ⟨CD, rfl⟩ : ∃ CD : Nat, cd = (CD : Int) := ⟨cd.toNat, by omega⟩
      exact ⟨_, 0, ⟨fun da dc ga gc w _ _ hx hc ht => (enc_2 E S p i c da dn dc CD ga gn gc l w hv hgn hx hl hc ht).mono fun _ _ h => h.is, fun da dc ga gc w _ _ hx => (renc_2 E S p i c da dn dc CD ga gn gc l w hv hgn hx hl).mono fun _ _ h => h.is, hval, hrval⟩⟩
    · exact ⟨_, 0, ⟨fun da dc ga gc w _ _ hx hc ht => (enc_3 E S p i c da dn dc cd ga gn gc l w hv hgn hx hl hc ht).mono fun _ _ h => h.is, fun da dc ga gc w _ _ hx => (renc_3 E S p i c da dn dc cd ga gn gc l w hv hgn hx hl).mono fun _ _ h => h.is, hval, hrval⟩⟩
  · refine ⟨[], 30, ⟨fun da dc ga gc w _ _ hx hc _ => (enc_bad k e s p i c da dn dc cd ga gn gc l hv w hgn hx hl hc).mono fun _ _ h => ⟨none, 0, 0, h.1, rfl, Rd.nil _ _, h.2⟩, fun da dc ga gc w _ _ hx => (renc_bad k e s p i c da dn dc cd ga gn gc l hv w hgn hx hl).mono fun _ _ h => ⟨none, 0, 0, h.1, rfl, Rd.nil _ _, h.2⟩, ?_, ?_⟩⟩
    · exact fun da dc ga gc w hx hc => valid_t k e s p i c da dn dc cd ga gn gc l false ⟨(fun h => by cases h), fun h => absurd h hv⟩ w hgn hx hl hc
    · exact fun da dc ga gc w hx => rvalid_t k e s p i c da dn dc cd ga gn gc l false ⟨(fun h => by cases h), fun h => absurd h hv⟩ w hgn hx hl
end Go.Proofs.YtplncfahpdmcoaaGreatDoor
namespace Go.Proofs.YtplncfahpdmcoaaGreatDoor
set_option linter.unusedVariables false
set_option linter.unusedSimpArgs false
open Go.RowKit
theorem TabOk.grownD {w w' : World} {g : Nat} (h : TabOk w) (hg : w.grownBy w' (some g)) (hne : g ≠ 0) : TabOk w' := fun m => hg.cell (h m) (fun e => hne (Option.some.inj e).symm)
theorem TabOk.pos {w : World} (h : TabOk w) : 0 < w.heap.size := World.block_lt_of_cell? w _ (h 0)
theorem rd_ne {w : World} {g g' : Nat} {xs : List UInt8} {ys : List Rg} (h : Rd w (some ⟨g, 0, none⟩) (xs ++ m4)) (k : RdR w (some ⟨g', 0, none⟩) (ys ++ m3)) : g ≠ g' := by
  intro e
  subst e
  obtain ⟨b, o, e1, hc⟩ := h (by simp [m4])
  cases e1
  obtain ⟨b2, o2, e2, hc2, -⟩ := k 0 (by simp [m3])
  cases e2
  have h1 := hc 0 (by simp [m4])
  simp only [Nat.zero_mul, Nat.add_zero] at h1 hc2
  rw [h1] at hc2
  cases hc2
theorem rd_set5 {w : World} {g : Nat} {xs : List UInt8} (h : Rd w (some ⟨g, 0, none⟩) xs) (hb : Blk5 w g) (k : Nat) (b : UInt8) (z : Int) (hz : z = (b.toNat : Int)) : Rd (w.setCell ⟨g, k, none⟩ (.int .u8 z)) (some ⟨g, 0, none⟩) (xs.set k b) := by
  subst hz
  obtain ⟨cur, hc⟩ := hb
  intro hp
  rw [List.length_set] at hp
  obtain ⟨b', o, e, hx⟩ := h hp
  cases e
  refine ⟨g, 0, rfl, fun j hj => ?_⟩
  rw [List.length_set] at hj
  have h1 := hx j hj
  rw [Nat.zero_add, cell_of_row _ _ j _ _ _ hc] at h1
  rw [Nat.zero_add, cell_of_row _ _ j _ _ _ (heap_setCell_same w g k _ 5 _ hc), Array.getElem?_setIfInBounds]
  have hlt : j < cur.size := (Array.getElem?_eq_some_iff.1 h1).1
  by_cases e : k = j
  · subst e
    rw [if_pos rfl, if_pos hlt, List.getElem_set_self]
  · rw [if_neg e, h1, List.getElem_set_ne e]
theorem Blk5.set {w : World} {g : Nat} (h : Blk5 w g) (k : Nat) (v : Value) : Blk5 (w.setCell ⟨g, k, none⟩ v) g := by
  obtain ⟨cur, hc⟩ := h
  exact ⟨_, heap_setCell_same w g k _ 5 _ hc⟩
/-- so far x's bytes are turned -/
structure XorAt (z0 z : World) (g : Nat) (ds : List UInt8) (k : Nat) : Prop where
  gr : z0.grownBy z (some g)
  rd : Rd z (some ⟨g, 0, none⟩) (xorL 85 (ds.take k) ++ (ds.drop k ++ m4))
  bl : Blk5 z g
theorem XorAt.cell {z0 z : World} {g : Nat} {ds : List UInt8} {k : Nat} (h : XorAt z0 z g ds k) (hk : k < ds.length) : z.cell? ⟨g, k, none⟩ = some (.int .u8 (ds[k].toNat : Int)) ∧ z.frozen? ⟨g, k, none⟩ = false := by
  have hl : (xorL 85 (ds.take k) ++ (ds.drop k ++ m4)).length = ds.length + 4 := by simp [xorL_len, m4]; omega
  obtain ⟨b, o, e, hc⟩ := h.rd (by omega)
  cases e
  have h1 := hc k (by omega)
  rw [Nat.zero_add, xorL_at 85 ds k hk m4 (by omega)] at h1
  refine ⟨h1, ?_⟩
  obtain ⟨cur, hb⟩ := h.bl
  simp [World.frozen?, hb]
theorem XorAt.step {z0 z : World} {g : Nat} {ds : List UInt8} {k : Nat} (h : XorAt z0 z g ds k) (hk : k < ds.length) (v : Int) (hv : v = ((ds[k] ^^^ 85).toNat : Int)) : XorAt z0 (z.setCell ⟨g, k, none⟩ (.int .u8 v)) g ds (k + 1) := by
  have h1 := rd_set5 h.rd h.bl k (ds[k] ^^^ 85) v hv
  rw [xorL_snoc 85 ds k hk] at h1
  exact ⟨h.gr.trans' (gset1 _ _ _ _), h1, h.bl.set _ _⟩
theorem XorAt.below {z0 z z' : World} {g : Nat} {ds : List UInt8} {k : Nat} (h : XorAt z0 z g ds k) (hb : Below z.heap.size z z') : XorAt z0 z' g ds k := ⟨h.gr.trans' (World.grownBy.any ⟨hb.os, hb.tape, hb.output, hb.size, fun i hi _ => hb.block i hi⟩ _), h.rd.below hb, h.bl.below hb⟩
theorem cell_apart {u : World} {a b i j : Nat} {v x : Value} (h : u.cell? ⟨b, j, none⟩ = some x) (hne : b ≠ a) : (u.setCell ⟨a, i, none⟩ v).cell? ⟨b, j, none⟩ = some x := (gset1 u a i v).cell h (fun e => hne (Option.some.inj e))
theorem rdr_ne {w : World} {g b : Nat} {ys : List Rg} {cs : Array Value} {T : TypeId} {fr : Nat × Nat} (k : RdR w (some ⟨g, 0, none⟩) (ys ++ m3)) (hb : w.heap[b]? = some (.cells cs T fr)) (h9 : cs[2]? = none ∨ ∃ n : Int, cs[2]? = some (.int .u64 n)) (h8 : 3 ≤ (ys ++ m3).length) : g ≠ b := by
  intro e
  subst e
  obtain ⟨b2, o2, e2, hc2, -⟩ := k 1 (by omega)
  cases e2
  rw [cell_of_row _ _ _ _ _ _ hb] at hc2
  simp only [Nat.zero_add, Nat.one_mul] at hc2
  rcases h9 with h9 | ⟨n, h9⟩
  · rw [h9] at hc2; cases hc2
  · rw [h9] at hc2; cases hc2
end Go.Proofs.YtplncfahpdmcoaaGreatDoor
