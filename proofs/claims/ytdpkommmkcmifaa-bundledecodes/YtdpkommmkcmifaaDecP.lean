import Derived.Test.YtdpkommmkcmifaaGoodB
import Derived.Test.YtdpkommmkcmifaaRef2
namespace Go.Proofs.Ytdpkommmkcmifaa
set_option linter.unusedVariables false
set_option linter.unusedSimpArgs false
open Go.RowKit
/-- a Reader's number: what it answers, what is ahead then, the fault then -/
def nmS (m : Nat) (s : List UInt8 × Int) : Nat × List UInt8 × Int := ((rNum m s.1 s.2).1, s.1.drop (rNum m s.1 s.2).2.1, (rNum m s.1 s.2).2.2)
def byS (n : Int) (s : List UInt8 × Int) : List UInt8 × List UInt8 × Int := ((rBytes n s.1 s.2).1, s.1.drop (rBytes n s.1 s.2).2.1, (rBytes n s.1 s.2).2.2)
def tkS (n : Int) (s : List UInt8 × Int) : List UInt8 × List UInt8 × Int := ((rTake n s.1 s.2).1, s.1.drop (rTake n s.1 s.2).2.1, (rTake n s.1 s.2).2.2)
def muS (r : Bool) (s : List UInt8 × Int) : List UInt8 × Int := (s.1, mustF r s.2)
/-- the block ahead, behind these -/
def blockS (l : List Blk) (s : List UInt8 × Int) : Blk × List UInt8 × Int :=
  let a := nmS 281474976710655 s
  let b := nmS 281474976710655 (muS (typeS l a.1) a.2)
  let c := nmS 281474976710655 (muS (numbS l b.1) b.2)
  let d := byS 64 (muS (decide (c.1 ≤ 255)) c.2)
  (⟨a.1, b.1, c.1, d.1⟩, muS (dataS a.1 d.1) d.2)
/-- so many blocks ahead, as long as there is no fault -/
def blocksS : Nat → List Blk → List UInt8 × Int → List Blk × List UInt8 × Int
  | 0, l, s => (l, s)
  | n + 1, l, s => if s.2 = 0 then blocksS n (l ++ [(blockS l s).1]) (blockS l s).2 else (l, s)
theorem blocksS_bad (n : Nat) (l : List Blk) (s : List UInt8 × Int) (h : ¬ s.2 = 0) : blocksS n l s = (l, s) := by
  cases n with
  | zero => rfl
  | succ n => unfold blocksS; rw [if_neg h]
theorem blocksS_step (n : Nat) (l : List Blk) (s : List UInt8 × Int) (h : s.2 = 0) : blocksS (n + 1) l s = blocksS n (l ++ [(blockS l s).1]) (blockS l s).2 := by
  rw [blocksS, if_pos h]
/-- the bundle ahead -/
def readS (s : List UInt8 × Int) : Bun × List UInt8 × Int :=
  let t := tkS 1 s
  let a := nmS 281474976710655 (muS (t.1 == [6]) t.2)
  let e0 := nmS 281474976710655 (muS (decide (a.1 < 8)) a.2)
  let e1 := nmS 281474976710655 e0.2
  let e2 := nmS 281474976710655 e1.2
  let e3 := nmS 281474976710655 e2.2
  let e4 := nmS 281474976710655 e3.2
  let e5 := nmS 281474976710655 e4.2
  let tm := nmS 281474976710655 e5.2
  let sq := nmS 281474976710655 tm.2
  let lf := nmS 281474976710655 sq.2
  let c := nmS 281474976710655 lf.2
  let bl := blocksS c.1 [] (muS (decide (c.1 ≤ 8)) c.2)
  let py := byS 512 bl.2
  (⟨a.1, e0.1, e1.1, e2.1, e3.1, e4.1, e5.1, tm.1, sq.1, lf.1, bl.1, py.1⟩, py.2)
theorem rNum_lem (m : Nat) (ys : List UInt8) (f : Int) : (rNum m ys f).1 ≤ m := by
  by_cases hf : f = 0
  · subst hf
    by_cases he : (numS ys).2.2 = 0
    · by_cases hm : (numS ys).1 ≤ m
      · rw [rNum_ok he hm]; exact hm
      · rw [rNum_big he hm]; exact Nat.zero_le _
    · rw [rNum_bad he]; exact Nat.zero_le _
  · rw [rNum_f hf]; exact Nat.zero_le _
theorem nmS_le {m : Nat} {s : List UInt8 × Int} {n : Nat} {t : List UInt8 × Int} (h : nmS m s = (n, t)) : n ≤ m := by
  unfold nmS at h
  simp only [Prod.mk.injEq] at h
  rw [← h.1]
  exact rNum_lem _ _ _
theorem rBytes_lem (n : Int) (ys : List UInt8) (f : Int) : (rBytes n ys f).1.length ≤ n.toNat := by
  unfold rBytes
  by_cases hf : f = 0
  · rw [if_pos hf]
    by_cases hn : n < 0
    · rw [if_pos hn]; simp
    · rw [if_neg hn]
      by_cases he : (ahS n.toNat ys).2.2 = 0
      · rw [if_pos he]
        split
        · simp
        · have h1 : (ahS n.toNat ys).1 ≤ n.toNat := by
            unfold ahS at he ⊢
            split
            · simp
            · rename_i hh
              rw [if_neg hh] at he
              omega
          simp only [List.length_take]
          omega
      · rw [if_neg he]; simp
  · rw [if_neg hf]; simp
theorem byS_le {n : Int} {s : List UInt8 × Int} {d : List UInt8} {t : List UInt8 × Int} (h : byS n s = (d, t)) : d.length ≤ n.toNat := by
  unfold byS at h
  simp only [Prod.mk.injEq] at h
  rw [← h.1]
  exact rBytes_lem _ _ _
theorem number_t {p B m n1 : Nat} {ys ys1 : List UInt8} {f f1 : Int} (w : World) (h : RS w p B ys f) (hn : nmS m (ys, f) = (n1, ys1, f1)) :
    Calls Try.prog 59 #[.pointer (some ⟨p, 0, none⟩), .int .u64 m] w fun e w' => e = .returned (.int .u64 (n1 : Nat)) ∧ RS w' p B ys1 f1 ∧ w.grownBy w' (some p) := by
  refine (number_s m w h).mono ?_
  rintro e w' ⟨rfl, h1, h2⟩
  unfold nmS at hn
  simp only [Prod.mk.injEq] at hn
  obtain ⟨rfl, rfl, rfl⟩ := hn
  exact ⟨rfl, h1, h2⟩
theorem eid_t {p B n1 n2 : Nat} {ys ys1 ys2 : List UInt8} {f f1 f2 : Int} (w : World) (h : RS w p B ys f) (hn : nmS 281474976710655 (ys, f) = (n1, ys1, f1)) (hn2 : nmS 281474976710655 (ys1, f1) = (n2, ys2, f2)) :
    Calls Try.prog 60 #[.pointer (some ⟨p, 0, none⟩)] w fun e w' => e = .returned (.agg #[.int .u64 (n1 : Nat), .int .u64 (n2 : Nat)]) ∧ RS w' p B ys2 f2 ∧ w.grownBy w' (some p) := by
  refine (readEID_s w h).mono ?_
  rintro e w' ⟨rfl, h1, h2⟩
  unfold nmS at hn hn2
  simp only [Prod.mk.injEq] at hn hn2
  obtain ⟨rfl, rfl, rfl⟩ := hn
  obtain ⟨rfl, rfl, rfl⟩ := hn2
  exact ⟨rfl, by rw [List.drop_drop]; exact h1, h2⟩
theorem must_t {p B : Nat} {ys : List UInt8} {f : Int} (r : Bool) (w : World) (h : RS w p B ys f) :
    Calls Try.prog 57 #[.pointer (some ⟨p, 0, none⟩), .bool r] w fun e w' => e = .returned (.tuple #[]) ∧ RS w' p B ys (mustF r f) ∧ w.grownBy w' (some p) := must_s r w h
theorem bytes_t {p B : Nat} {ys ys1 d : List UInt8} {f f1 : Int} (n : Int) (hn64 : n ≤ 9223372036854775807) (w : World) (h : RS w p B ys f) (hn : byS n (ys, f) = (d, ys1, f1)) :
    Calls Try.prog 63 #[.pointer (some ⟨p, 0, none⟩), .int .i64 n] w fun e w' => ∃ a c, e = .returned (.slice a d.length c) ∧ Own w' w.heap.size (.slice a d.length c) d ∧ RS w' p B ys1 f1 ∧ w.grownBy w' (some p) := by
  obtain ⟨ao, cap, xs, pl, h1, rfl, h3, h4⟩ := h
  refine (bytes_r n hn64 w h1).mono ?_
  rintro e w' ⟨v, rfl, k0, k1, k2⟩
  unfold byS at hn
  simp only [Prod.mk.injEq] at hn
  obtain ⟨rfl, rfl, rfl⟩ := hn
  obtain ⟨a, c, rfl, -⟩ := k0.val
  exact ⟨a, c, rfl, k0, ⟨ao, cap, xs, _, k1, by rw [List.drop_drop], h3, h4⟩, k2⟩
theorem take_t {p B : Nat} {ys ys1 d : List UInt8} {f f1 : Int} (n : Int) (w : World) (h : RS w p B ys f) (hn : tkS n (ys, f) = (d, ys1, f1)) :
    Calls Try.prog 56 #[.pointer (some ⟨p, 0, none⟩), .int .i64 n] w fun e w' => ∃ a c, e = .returned (.slice a d.length c) ∧ Own w' w.heap.size (.slice a d.length c) d ∧ RS w' p B ys1 f1 ∧ w.grownBy w' (some p) := by
  obtain ⟨ao, cap, xs, pl, h1, rfl, h3, h4⟩ := h
  refine (take_r n w h1).mono ?_
  rintro e w' ⟨v, rfl, k0, k1, k2⟩
  unfold tkS at hn
  simp only [Prod.mk.injEq] at hn
  obtain ⟨rfl, rfl, rfl⟩ := hn
  obtain ⟨a, c, rfl, -⟩ := k0.val
  exact ⟨a, c, rfl, k0, ⟨ao, cap, xs, _, k1, by rw [List.drop_drop], h3, h4⟩, k2⟩
theorem err_t {p B : Nat} {ys : List UInt8} {f : Int} (w : World) (h : RS w p B ys f) :
    Calls Try.prog 61 #[.pointer (some ⟨p, 0, none⟩)] w fun e w' => e = .returned (.int .i64 f) ∧ w' = w := by
  obtain ⟨ao, cap, xs, pl, h1, -⟩ := h
  exact err_r w h1
set_option maxRecDepth 20000 in
set_option maxHeartbeats 400000 in
theorem equal_b (ao : Option Addr) (n cap : Nat) (ys : List UInt8) (hn : n = ys.length) (bo : Option Addr) (m cap' : Nat) (xs : List UInt8) (hm : m = xs.length) (w : World) (hy : Rd w ao ys) (hx : Rd w bo xs) :
    Calls Try.prog 58 #[.slice ao n cap, .slice bo m cap'] w fun e w' => e = .returned (.bool (ys == xs)) ∧ w' = w := by
  subst hn hm
  have h1 := conv_rd' hy _ cap rfl
  have h2 := conv_rd' hx _ cap' rfl
  go_enter Try.func58, Try.ntmps58
  go_wp2
  go_ret
  exact ⟨rfl, rfl⟩
end Go.Proofs.Ytdpkommmkcmifaa
