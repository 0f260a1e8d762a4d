import Derived.Test.YtibepnilhmbpeaaDoorDNilC
namespace Go.Proofs.YtibepnilhmbpeaaDoor
set_option linter.unusedVariables false
set_option linter.unusedSimpArgs false
open Go.RowKit Go.Maps
theorem NewAt.dk {w : World} {p g m : Nat} {S : List Sec} (h : NewAt w p g m S) (hf : ∀ s ∈ S, s.fit) : DK w p g m S (fun _ => []) (fun _ => nilS) false (-1) 0 :=
  ⟨hf, h.one, h.most, h.hp, h.hg, cache_none h.hm 0, by decide, by decide⟩
theorem rd_row {w : World} {B : Nat} {xs : List UInt8} (h : w.heap[B]? = some (.cells (bv xs).toArray 5 (0, 0))) : Rd w (some ⟨B, 0, none⟩) xs := by
  intro _
  refine ⟨_, _, rfl, fun i hi => ?_⟩
  rw [Nat.zero_add, cell_of_row _ _ i _ _ _ h, List.getElem?_toArray, bv_get xs i hi]
theorem Rd.chg {w w' : World} {ao : Option Addr} {xs : List UInt8} {F : Nat → Prop} (h : Rd w ao xs) (hc : Chg F w w') (hne : ∀ a, ao = some a → ¬ F a.block) : Rd w' ao xs := by
  intro hp
  obtain ⟨b, o, rfl, hcc⟩ := h hp
  refine ⟨b, o, rfl, fun i hi => ?_⟩
  have h1 := hcc i hi
  have h2 := hc.block b (World.block_lt_of_cell? w _ h1) (hne _ rfl)
  rw [← h1]
  exact World.cell?_of_block h2
theorem Own.chg {w w' : World} {B : Nat} {v : Value} {xs : List UInt8} {F : Nat → Prop} (h : Own w B v xs) (hc : Chg F w w') (hne : ∀ b, v.ownBlock = some b → ¬ F b) : Own w' B v xs := by
  refine ⟨h.1, ?_⟩
  rcases h.2 with h0 | ⟨g, cap, cur, e, hB, hg, r⟩
  · exact .inl h0
  · exact .inr ⟨g, cap, cur, e, hB, (hc.block g (Array.getElem?_eq_some_iff.1 hg).1 (hne g (by rw [e]; rfl))).trans hg, r⟩

end Go.Proofs.YtibepnilhmbpeaaDoor
namespace Go.Proofs.YtibepnilhmbpeaaDoor
set_option linter.unusedVariables false
set_option linter.unusedSimpArgs false
open Go.RowKit Go.Maps
/-- what a disk is: its sectors, what was written since the last flush, its power, its fuse -/
structure Dst where
  S : List Sec
  C : Nat → List (List UInt8)
  off : Bool
  fuse : Int
abbrev DS (w : World) (p g m : Nat) (d : Dst) (V : Nat → Value) (n : Nat) : Prop := DK w p g m d.S d.C V d.off d.fuse n
def Dst.can (d : Dst) : Bool := begE d.off d.fuse == 0
def Dst.begun (d : Dst) : Dst := ⟨d.S, d.C, begO d.off d.fuse, begF d.off d.fuse⟩
def Dst.write (d : Dst) (i : Nat) (x : List UInt8) : Dst := if d.can then ⟨d.S, upd d.C i (d.C i ++ [x]), begO d.off d.fuse, begF d.off d.fuse⟩ else d.begun
def Dst.flush (d : Dst) : Dst := if d.can then ⟨flushed d.S d.C, fun _ => [], begO d.off d.fuse, begF d.off d.fuse⟩ else d.begun
theorem begE_or (off : Bool) (fuse : Int) : begE off fuse = 0 ∨ begE off fuse = 5 := by
  unfold begE
  split
  · exact .inr rfl
  · split
    · exact .inr rfl
    · exact .inl rfl
theorem Dst.can_iff (d : Dst) : (d.can = true ∧ begE d.off d.fuse = 0) ∨ (d.can = false ∧ begE d.off d.fuse = 5) := by
  unfold Dst.can
  rcases begE_or d.off d.fuse with h | h <;> rw [h]
  · exact .inl ⟨rfl, rfl⟩
  · exact .inr ⟨rfl, rfl⟩
theorem flushed_len' (S : List Sec) (C : Nat → List (List UInt8)) : (flushed S C).length = S.length := by simp [flushed]
theorem Dst.write_len (d : Dst) (i : Nat) (x : List UInt8) : (d.write i x).S.length = d.S.length := by unfold Dst.write Dst.begun; split <;> rfl
theorem Dst.flush_len (d : Dst) : d.flush.S.length = d.S.length := by
  unfold Dst.flush Dst.begun
  split
  · exact flushed_len' _ _
  · rfl
theorem CacheAt.more {w : World} {m N n n' : Nat} {C : Nat → List (List UInt8)} {V : Nat → Value} (h : CacheAt w m N n C V) (hn : n ≤ n') : CacheAt w m N n' C V := by
  obtain ⟨D, ⟨es, cl, e1, e2, e3, e4⟩, h2, h3⟩ := h.own
  exact ⟨⟨D, ⟨es, cl, e1, e2, Nat.le_trans e3 hn, e4⟩, h2, h3⟩, h.nil, h.rows, h.txt, h.apart, fun i => Nat.le_trans (h.few i) hn, h.ins⟩
theorem DK.more {w : World} {p g m : Nat} {S : List Sec} {C : Nat → List (List UInt8)} {V : Nat → Value} {off : Bool} {fuse : Int} {n n' : Nat} (h : DK w p g m S C V off fuse n) (hn : n ≤ n') (hm : n' ≤ 1099511627776) : DK w p g m S C V off fuse n' :=
  ⟨h.fit, h.one, h.most, h.hp, h.hg, h.cache.more hn, hm, h.fu⟩
/-- an operation's frame: the disk's own blocks, and new ones -/
structure Step (p g m : Nat) (V V' : Nat → Value) (w w' : World) : Prop where
  chg : Chg (foot p g m V) w w'
  new : ∀ b, foot p g m V' b → foot p g m V b ∨ w.heap.size ≤ b
theorem Step.refl (p g m : Nat) (V : Nat → Value) (w : World) : Step p g m V V w w := ⟨Chg.refl _ _, fun _ h => .inl h⟩
theorem Step.trans {p g m : Nat} {V V' V'' : Nat → Value} {a b c : World} (h : Step p g m V V' a b) (k : Step p g m V' V'' b c) : Step p g m V V'' a c :=
  ⟨h.chg.trans k.chg (fun i hi => h.new i hi), fun i hi => by
    rcases k.new i hi with h1 | h1
    · exact h.new i h1
    · exact .inr (Nat.le_trans h.chg.size h1)⟩
theorem foot_nil {p g m b : Nat} (h : foot p g m (fun _ => nilS) b) (V : Nat → Value) : foot p g m V b := by
  rcases h with h | h | h | ⟨i, h⟩
  · exact .inl h
  · exact .inr (.inl h)
  · exact .inr (.inr (.inl h))
  · simp [nilS, Value.ownBlock] at h
theorem write_all (p g m i : Nat) (d : Dst) (V : Nat → Value) (n : Nat) (ba : Option Addr) (bc : Nat) (xs : List UInt8) (w : World) (h : DS w p g m d V n) (hn : n < 1099511627776) (hi : i < d.S.length) (hx : Rd w ba xs) (hl : xs.length = 128) (hbp : ∀ a, ba = some a → a.block ≠ p) :
    Calls Tryd.prog 67 #[.pointer (some ⟨p, 0, none⟩), .int .i64 (i : Int), .slice ba 128 bc] w fun e w' => e = .returned (.int .i64 (if d.can then 0 else 5)) ∧ ∃ V', DS w' p g m (d.write i xs) V' (n + 1) ∧ Step p g m V V' w w' := by
  rcases d.can_iff with ⟨hc, he⟩ | ⟨hc, he⟩
  · refine (write_t p g m i d.S d.C V d.off d.fuse n ba bc xs w h hn hi he hx hl hbp).mono ?_
    rintro e w' ⟨rfl, v, hdk, hcg, hv⟩
    rw [hc]
    refine ⟨rfl, upd V i v, ?_, hcg.mono ?_, ?_⟩
    · unfold Dst.write
      rw [hc]
      exact hdk
    · rintro b (rfl | rfl | hb)
      · exact .inl rfl
      · exact .inr (.inr (.inl rfl))
      · exact .inr (.inr (.inr ⟨i, hb⟩))
    · rintro b (rfl | rfl | rfl | ⟨k, hk⟩)
      · exact .inl (.inl rfl)
      · exact .inl (.inr (.inl rfl))
      · exact .inl (.inr (.inr (.inl rfl)))
      · by_cases e : k = i
        · subst e
          rw [upd_same] at hk
          rcases hv with h9 | ⟨b', h9, h10⟩
          · exact .inl (.inr (.inr (.inr ⟨k, h9.trans hk⟩)))
          · rw [hk] at h9
            cases h9
            exact .inr h10
        · rw [upd_other _ e] at hk
          exact .inl (.inr (.inr (.inr ⟨k, hk⟩)))
  · refine (write_off p g m i d.S d.C V d.off d.fuse n ba bc w h hi he).mono ?_
    rintro e w' ⟨rfl, hdk, hg⟩
    rw [hc]
    refine ⟨rfl, V, ?_, Chg.of_grown hg (fun b hb => by cases hb; exact .inl rfl), fun b hb => .inl hb⟩
    unfold Dst.write
    rw [hc]
    exact hdk.more (Nat.le_succ n) (by omega)
theorem flush_all (p g m : Nat) (d : Dst) (V : Nat → Value) (n : Nat) (w : World) (h : DS w p g m d V n) :
    Calls Tryd.prog 20 #[.pointer (some ⟨p, 0, none⟩)] w fun e w' => e = .returned (.int .i64 (if d.can then 0 else 5)) ∧ ∃ V', DS w' p g m d.flush V' n ∧ Step p g m V V' w w' := by
  rcases d.can_iff with ⟨hc, he⟩ | ⟨hc, he⟩
  · refine (flush_t p g m d.S d.C V d.off d.fuse n w h he).mono ?_
    rintro e w' ⟨rfl, hdk, hcg⟩
    rw [hc]
    refine ⟨rfl, fun _ => nilS, ?_, hcg.mono ?_, fun b hb => .inl (foot_nil hb V)⟩
    · unfold Dst.flush
      rw [hc]
      exact hdk.more (Nat.zero_le n) h.few
    · rintro b (rfl | rfl | rfl)
      · exact .inl rfl
      · exact .inr (.inl rfl)
      · exact .inr (.inr (.inl rfl))
  · refine (flush_off p g m d.S d.C V d.off d.fuse n w h he).mono ?_
    rintro e w' ⟨rfl, hdk, hg⟩
    rw [hc]
    refine ⟨rfl, V, ?_, Chg.of_grown hg (fun b hb => by cases hb; exact .inl rfl), fun b hb => .inl hb⟩
    unfold Dst.flush
    rw [hc]
    exact hdk
end Go.Proofs.YtibepnilhmbpeaaDoor
namespace Go.Proofs.YtibepnilhmbpeaaDoor
set_option linter.unusedVariables false
set_option linter.unusedSimpArgs false
open Go.RowKit
/-- what is in a sector as a Read finds it -/
def rdD (d : Dst) (k : Nat) : Sec := presS (d.S.getD k Sec.zero) (d.C k)
/-- a disk in memory, F has its blocks -/
structure Dsk (w : World) (p : Nat) (d : Dst) (n : Nat) (F : Nat → Prop) : Prop where
  ex : ∃ g m V, DS w p g m d V n ∧ ∀ b, foot p g m V b → F b
  lt : ∀ b, F b → b < w.heap.size
/-- what a call leaves of a disk -/
structure DLft (w : World) (p : Nat) (d : Dst) (n : Nat) (F : Nat → Prop) (w' : World) : Prop where
  ex : ∃ F', Dsk w' p d n F' ∧ ∀ b, F' b → F b ∨ w.heap.size ≤ b
  chg : Chg F w w'
section
variable {w w' : World} {p n : Nat} {d : Dst} {F : Nat → Prop}
theorem Dsk.kept (h : Dsk w p d n F) {G : Nat → Prop} (hc : Chg G w w') (hG : ∀ b, F b → ¬ G b) : Dsk w' p d n F := by
  obtain ⟨g, m, V, h1, h2⟩ := h.ex
  exact ⟨⟨g, m, V, DK.kept h1 hc (fun b hb => hG b (h2 b hb)), h2⟩, fun b hb => Nat.lt_of_lt_of_le (h.lt b hb) hc.size⟩
theorem Dsk.below (h : Dsk w p d n F) (hb : Below w.heap.size w w') : Dsk w' p d n F := h.kept (G := fun _ => False) (Chg.of_below hb) (fun _ _ => id)
theorem Dsk.inF (h : Dsk w p d n F) : F p := by
  obtain ⟨g, m, V, h1, h2⟩ := h.ex
  exact h2 p (.inl rfl)
theorem Dsk.size (h : Dsk w p d n F) : 1 ≤ d.S.length ∧ d.S.length ≤ 65536 := by
  obtain ⟨g, m, V, h1, h2⟩ := h.ex
  exact ⟨h1.one, h1.most⟩
theorem Dsk.fit (h : Dsk w p d n F) : ∀ s ∈ d.S, s.fit := by
  obtain ⟨g, m, V, h1, h2⟩ := h.ex
  exact h1.fit
theorem Dsk.txt (h : Dsk w p d n F) (k : Nat) : ∀ t ∈ d.C k, t.length = 128 := by
  obtain ⟨g, m, V, h1, h2⟩ := h.ex
  exact fun t ht => h1.cache.txt k t ht
/-- what is read is a sector's text, or nothing -/
theorem Dsk.rdLen (h : Dsk w p d n F) (k : Nat) (hk : k < d.S.length) : (rdD d k).text.length = 128 := by
  unfold rdD presS
  refine afterS_ok ?_ _ (h.txt k)
  rw [List.getD_eq_getElem?_getD, List.getElem?_eq_getElem hk]
  exact (h.fit _ (List.getElem_mem hk)).1
theorem Dsk.read (h : Dsk w p d n F) (hoff : d.off = false) (k : Nat) (hk : k < d.S.length) :
    Calls Tryd.prog 58 #[.pointer (some ⟨p, 0, none⟩), .int .i64 (k : Int)] w fun e w' => ∃ v, e = .returned (.tuple #[v, .int .i64 (readE (rdD d k))]) ∧ Own w' w.heap.size v (readB (rdD d k)) ∧ Below w.heap.size w w' := by
  obtain ⟨g, m, V, hok, -⟩ := h.ex
  obtain ⟨a, cc, -, hL⟩ := DK.looks hok k hk
  have hr := read_t p g m k d.S a cc (d.C k) w (DK.secAt hok) hk (by rw [cell_of_row _ _ 1 _ _ _ (DK.hp hok)]; rfl) (by rw [cell_of_row _ _ 2 _ _ _ (DK.hp hok)]; simp [hoff]) hL
  have hg : presS (d.S[k]) (d.C k) = rdD d k := by
    unfold rdD
    simp [hk]
  rw [hg] at hr
  exact hr
theorem Dsk.write (h : Dsk w p d n F) (hn : n < 1099511627776) (i : Nat) (hi : i < d.S.length) (ba : Option Addr) (bc : Nat) (xs : List UInt8) (hx : Rd w ba xs) (hl : xs.length = 128) (hbp : ∀ a, ba = some a → a.block ≠ p) :
    Calls Tryd.prog 67 #[.pointer (some ⟨p, 0, none⟩), .int .i64 (i : Int), .slice ba 128 bc] w fun e w' => e = .returned (.int .i64 (if d.can then 0 else 5)) ∧ DLft w p (d.write i xs) (n + 1) F w' := by
  obtain ⟨g, m, V, hok, hF⟩ := h.ex
  refine (write_all p g m i d V n ba bc xs w hok hn hi hx hl hbp).mono ?_
  rintro e w' ⟨rfl, V', h1, h2⟩
  exact ⟨rfl, ⟨foot p g m V', ⟨⟨g, m, V', h1, fun b hb => hb⟩, fun b hb => DK.lt h1 hb⟩, fun b hb => (h2.new b hb).imp (hF b) id⟩, h2.chg.mono hF⟩
theorem Dsk.flush (h : Dsk w p d n F) :
    Calls Tryd.prog 20 #[.pointer (some ⟨p, 0, none⟩)] w fun e w' => e = .returned (.int .i64 (if d.can then 0 else 5)) ∧ DLft w p d.flush n F w' := by
  obtain ⟨g, m, V, hok, hF⟩ := h.ex
  refine (flush_all p g m d V n w hok).mono ?_
  rintro e w' ⟨rfl, V', h1, h2⟩
  exact ⟨rfl, ⟨foot p g m V', ⟨⟨g, m, V', h1, fun b hb => hb⟩, fun b hb => DK.lt h1 hb⟩, fun b hb => (h2.new b hb).imp (hF b) id⟩, h2.chg.mono hF⟩
theorem Dsk.down (h : Dsk w p d n F) : Calls Tryd.prog 34 #[.pointer (some ⟨p, 0, none⟩)] w fun e w' => e = .returned (.bool d.off) ∧ w' = w := by
  obtain ⟨g, m, V, hok, -⟩ := h.ex
  exact down_t p (some ⟨g, 0, none⟩) d.S.length d.S.length d.off w (by have := hok.one; omega) (by rw [cell_of_row _ _ 0 _ _ _ (DK.hp hok)]; rfl) (by rw [cell_of_row _ _ 2 _ _ _ (DK.hp hok)]; rfl)
theorem Dsk.sectors (h : Dsk w p d n F) : Calls Tryd.prog 54 #[.pointer (some ⟨p, 0, none⟩)] w fun e w' => e = .returned (.int .i64 (d.S.length : Int)) ∧ w' = w := by
  obtain ⟨g, m, V, hok, -⟩ := h.ex
  exact sectors_t p (some ⟨g, 0, none⟩) d.S.length d.S.length w (by rw [cell_of_row _ _ 0 _ _ _ (DK.hp hok)]; rfl)
theorem Dsk.new (k : Nat) (h1 : 1 ≤ k) (h2 : k ≤ 65536) (w : World) : Calls Tryd.prog 16 #[.int .i64 (k : Int)] w fun e w' => ∃ p F, e = .returned (.tuple #[.pointer (some ⟨p, 0, none⟩), .int .i64 0]) ∧ Dsk w' p ⟨List.replicate k Sec.zero, fun _ => [], false, -1⟩ 0 F ∧ (∀ b, F b → w.heap.size ≤ b) ∧ Below w.heap.size w w' := by
  refine Calls.mono (new_t k h1 h2 w) ?_
  rintro e w' ⟨rfl, rfl⟩
  have hN := newW_at w k h1 h2
  have hD := NewAt.dk hN (fun s hs => by rw [List.eq_of_mem_replicate hs]; exact Sec.zero_fit)
  refine ⟨_, _, rfl, ⟨⟨_, _, _, hD, fun b hb => hb⟩, fun b hb => DK.lt hD hb⟩, fun b hb => ?_, ?_⟩
  · rcases hb with rfl | rfl | rfl | ⟨i, hi⟩
    · omega
    · omega
    · omega
    · cases hi
  · unfold newW
    exact al (al (al (Below.refl _ _) _) _) _
end
end Go.Proofs.YtibepnilhmbpeaaDoor
