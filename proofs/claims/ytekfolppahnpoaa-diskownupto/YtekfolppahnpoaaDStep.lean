import Derived.Test.YtekfolppahnpoaaDOver
namespace Go.Proofs.Ytekfolppahnpoaa
set_option linter.unusedVariables false
set_option linter.unusedSimpArgs false
open Go.RowKit Go.Maps
/-- what a disk is: its sectors, what was written since the last flush, its power, its fuse -/
structure Dst where
  S : List Sec
  C : Nat → List (List UInt8)
  off : Bool
  fuse : Int
abbrev DS (w : World) (p g m : Nat) (d : Dst) (V : Nat → Value) (n : Nat) : Prop := DK w p g m d.S d.C V d.off d.fuse n
def Dst.can (d : Dst) : Bool := begE d.off d.fuse == 0
def Dst.begun (d : Dst) : Dst := ⟨d.S, d.C, begO d.off d.fuse, begF d.off d.fuse⟩
def Dst.write (d : Dst) (i : Nat) (x : List UInt8) : Dst := if d.can then ⟨d.S, upd d.C i (d.C i ++ [x]), begO d.off d.fuse, begF d.off d.fuse⟩ else d.begun
def Dst.flush (d : Dst) : Dst := if d.can then ⟨flushed d.S d.C, fun _ => [], begO d.off d.fuse, begF d.off d.fuse⟩ else d.begun
def Dst.crash (d : Dst) (chs : List Int) : Dst := ⟨crashed d.S d.C chs, fun _ => [], false, -1⟩
theorem begE_or (off : Bool) (fuse : Int) : begE off fuse = 0 ∨ begE off fuse = 5 := by
  unfold begE
  split
  · exact .inr rfl
  · split
    · exact .inr rfl
    · exact .inl rfl
theorem Dst.can_iff (d : Dst) : (d.can = true ∧ begE d.off d.fuse = 0) ∨ (d.can = false ∧ begE d.off d.fuse = 5) := by
  unfold Dst.can
  rcases begE_or d.off d.fuse with h | h <;> rw [h]
  · exact .inl ⟨rfl, rfl⟩
  · exact .inr ⟨rfl, rfl⟩
theorem flushed_len' (S : List Sec) (C : Nat → List (List UInt8)) : (flushed S C).length = S.length := by simp [flushed]
theorem Dst.write_len (d : Dst) (i : Nat) (x : List UInt8) : (d.write i x).S.length = d.S.length := by unfold Dst.write Dst.begun; split <;> rfl
theorem Dst.flush_len (d : Dst) : d.flush.S.length = d.S.length := by
  unfold Dst.flush Dst.begun
  split
  · exact flushed_len' _ _
  · rfl
theorem Dst.crash_len (d : Dst) (chs : List Int) : (d.crash chs).S.length = d.S.length := crashed_len _ _ _
theorem CacheAt.more {w : World} {m N n n' : Nat} {C : Nat → List (List UInt8)} {V : Nat → Value} (h : CacheAt w m N n C V) (hn : n ≤ n') : CacheAt w m N n' C V := by
  obtain ⟨D, ⟨es, cl, e1, e2, e3, e4⟩, h2, h3⟩ := h.own
  exact ⟨⟨D, ⟨es, cl, e1, e2, Nat.le_trans e3 hn, e4⟩, h2, h3⟩, h.nil, h.rows, h.txt, h.apart, fun i => Nat.le_trans (h.few i) hn, h.ins⟩
theorem DK.more {w : World} {p g m : Nat} {S : List Sec} {C : Nat → List (List UInt8)} {V : Nat → Value} {off : Bool} {fuse : Int} {n n' : Nat} (h : DK w p g m S C V off fuse n) (hn : n ≤ n') (hm : n' ≤ 1099511627776) : DK w p g m S C V off fuse n' :=
  ⟨h.fit, h.one, h.most, h.hp, h.hg, h.cache.more hn, hm, h.fu⟩
/-- an operation's frame: the disk's own blocks, and new ones -/
structure Step (p g m : Nat) (V V' : Nat → Value) (w w' : World) : Prop where
  chg : Chg (foot p g m V) w w'
  new : ∀ b, foot p g m V' b → foot p g m V b ∨ w.heap.size ≤ b
theorem Step.refl (p g m : Nat) (V : Nat → Value) (w : World) : Step p g m V V w w := ⟨Chg.refl _ _, fun _ h => .inl h⟩
theorem Step.trans {p g m : Nat} {V V' V'' : Nat → Value} {a b c : World} (h : Step p g m V V' a b) (k : Step p g m V' V'' b c) : Step p g m V V'' a c :=
  ⟨h.chg.trans k.chg (fun i hi => h.new i hi), fun i hi => by
    rcases k.new i hi with h1 | h1
    · exact h.new i h1
    · exact .inr (Nat.le_trans h.chg.size h1)⟩
theorem foot_nil {p g m b : Nat} (h : foot p g m (fun _ => nilS) b) (V : Nat → Value) : foot p g m V b := by
  rcases h with h | h | h | ⟨i, h⟩
  · exact .inl h
  · exact .inr (.inl h)
  · exact .inr (.inr (.inl h))
  · simp [nilS, Value.ownBlock] at h
theorem write_all (p g m i : Nat) (d : Dst) (V : Nat → Value) (n : Nat) (ba : Option Addr) (bc : Nat) (xs : List UInt8) (w : World) (h : DS w p g m d V n) (hn : n < 1099511627776) (hi : i < d.S.length) (hx : Rd w ba xs) (hl : xs.length = 128) (hbp : ∀ a, ba = some a → a.block ≠ p) :
    Calls Try.prog 16 #[.pointer (some ⟨p, 0, none⟩), .int .i64 (i : Int), .slice ba 128 bc] w fun e w' => e = .returned (.int .i64 (if d.can then 0 else 5)) ∧ ∃ V', DS w' p g m (d.write i xs) V' (n + 1) ∧ Step p g m V V' w w' := by
  rcases d.can_iff with ⟨hc, he⟩ | ⟨hc, he⟩
  · refine (write_t p g m i d.S d.C V d.off d.fuse n ba bc xs w h hn hi he hx hl hbp).mono ?_
    rintro e w' ⟨rfl, v, hdk, hcg, hv⟩
    rw [hc]
    refine ⟨rfl, upd V i v, ?_, hcg.mono ?_, ?_⟩
    · unfold Dst.write
      rw [hc]
      exact hdk
    · rintro b (rfl | rfl | hb)
      · exact .inl rfl
      · exact .inr (.inr (.inl rfl))
      · exact .inr (.inr (.inr ⟨i, hb⟩))
    · rintro b (rfl | rfl | rfl | ⟨k, hk⟩)
      · exact .inl (.inl rfl)
      · exact .inl (.inr (.inl rfl))
      · exact .inl (.inr (.inr (.inl rfl)))
      · by_cases e : k = i
        · subst e
          rw [upd_same] at hk
          rcases hv with h9 | ⟨b', h9, h10⟩
          · exact .inl (.inr (.inr (.inr ⟨k, h9.trans hk⟩)))
          · rw [hk] at h9
            cases h9
            exact .inr h10
        · rw [upd_other _ e] at hk
          exact .inl (.inr (.inr (.inr ⟨k, hk⟩)))
  · refine (write_off p g m i d.S d.C V d.off d.fuse n ba bc w h hi he).mono ?_
    rintro e w' ⟨rfl, hdk, hg⟩
    rw [hc]
    refine ⟨rfl, V, ?_, Chg.of_grown hg (fun b hb => by cases hb; exact .inl rfl), fun b hb => .inl hb⟩
    unfold Dst.write
    rw [hc]
    exact hdk.more (Nat.le_succ n) (by omega)
theorem flush_all (p g m : Nat) (d : Dst) (V : Nat → Value) (n : Nat) (w : World) (h : DS w p g m d V n) :
    Calls Try.prog 19 #[.pointer (some ⟨p, 0, none⟩)] w fun e w' => e = .returned (.int .i64 (if d.can then 0 else 5)) ∧ ∃ V', DS w' p g m d.flush V' n ∧ Step p g m V V' w w' := by
  rcases d.can_iff with ⟨hc, he⟩ | ⟨hc, he⟩
  · refine (flush_t p g m d.S d.C V d.off d.fuse n w h he).mono ?_
    rintro e w' ⟨rfl, hdk, hcg⟩
    rw [hc]
    refine ⟨rfl, fun _ => nilS, ?_, hcg.mono ?_, fun b hb => .inl (foot_nil hb V)⟩
    · unfold Dst.flush
      rw [hc]
      exact hdk.more (Nat.zero_le n) h.few
    · rintro b (rfl | rfl | rfl)
      · exact .inl rfl
      · exact .inr (.inl rfl)
      · exact .inr (.inr (.inl rfl))
  · refine (flush_off p g m d.S d.C V d.off d.fuse n w h he).mono ?_
    rintro e w' ⟨rfl, hdk, hg⟩
    rw [hc]
    refine ⟨rfl, V, ?_, Chg.of_grown hg (fun b hb => by cases hb; exact .inl rfl), fun b hb => .inl hb⟩
    unfold Dst.flush
    rw [hc]
    exact hdk
theorem crash_all (p g m : Nat) (d : Dst) (V : Nat → Value) (n : Nat) (ca : Option Addr) (cc : Nat) (chs : List Int) (w : World) (h : DS w p g m d V n) (hch : Ints w ca chs) (hne : 0 < chs.length → ∀ q, ca = some q → q.block ≠ p ∧ q.block ≠ g ∧ q.block ≠ m) :
    Calls Try.prog 20 #[.pointer (some ⟨p, 0, none⟩), .slice ca chs.length cc] w fun e w' => e = .returned (.tuple #[]) ∧ ∃ V', DS w' p g m (d.crash chs) V' n ∧ Step p g m V V' w w' := by
  refine (crash_t p g m d.S d.C V d.off d.fuse n ca cc chs w h hch hne).mono ?_
  rintro e w' ⟨rfl, hdk, hcg⟩
  refine ⟨rfl, fun _ => nilS, hdk.more (Nat.zero_le n) h.few, hcg.mono ?_, fun b hb => .inl (foot_nil hb V)⟩
  rintro b (rfl | rfl | rfl)
  · exact .inl rfl
  · exact .inr (.inl rfl)
  · exact .inr (.inr (.inl rfl))
/-- a step of a script -/
structure Stp where
  op : Int
  at_ : Int
  cs : List Int
/-- the k-th step on a disk, and whether it was an operation that was done -/
def Dst.step (d : Dst) (k : Nat) (s : Stp) : Dst := if s.op = 0 ∨ s.op = 1 then d.write (spanS s.at_ 0 (d.S.length - 1)) (fillS (k + 1)) else if s.op = 2 then d.flush else if s.op = 3 then d.crash s.cs else d
def Dst.did (d : Dst) (s : Stp) : Nat := if s.op = 0 ∨ s.op = 1 ∨ s.op = 2 then (if d.can then 1 else 0) else 0
/-- the law's run: from the k-th step on, 'done' of them done, no more than 'most' -/
def runS (most : Int) : Nat → Nat → Dst → List Stp → Dst × Nat
  | _, done, d, [] => (d, done)
  | k, done, d, s :: l => if (done : Int) < most then runS most (k + 1) (done + d.did s) (d.step k s) l else (d, done)
theorem Dst.step_len (d : Dst) (k : Nat) (s : Stp) : (d.step k s).S.length = d.S.length := by
  unfold Dst.step
  split
  · exact Dst.write_len _ _ _
  · split
    · exact Dst.flush_len _
    · split
      · exact Dst.crash_len _ _
      · rfl
end Go.Proofs.Ytekfolppahnpoaa
