import Derived.Test.YtmjhbckedagjjabRgP
namespace Go.Proofs.Ytmjhbckedagjjab
set_option linter.unusedVariables false
set_option linter.unusedSimpArgs false
abbrev Seg := List UInt8
/-- the length of the first that is there -/
def frL : List Seg → Nat
  | [] => 0
  | x :: r => if x.length = 0 then frL r else x.length
def lenS (S : List Seg) : Nat := frL (S.take (S.length - 1))
def lastS (S : List Seg) : Nat := (S[S.length - 1]?.getD []).length
def uniD (n : Nat) (D : List Seg) : Bool := D.all (fun x => x.length == 0 || x.length == n)
def capB (N l z : Nat) : Bool := if l = 0 then decide (N * z ≤ 1024) else decide (z ≤ l) && decide ((N - 1) * l + max 1 z ≤ 1024)
def fitS (S : List Seg) : Bool := uniD (lenS S) (S.take (S.length - 1)) && capB S.length (lenS S) (lastS S)
theorem frL_zero : ∀ {D : List Seg}, frL D = 0 ↔ ∀ x ∈ D, x.length = 0
  | [] => by simp [frL]
  | x :: r => by
    unfold frL
    by_cases h : x.length = 0
    · rw [if_pos h, frL_zero]
      constructor
      · intro h1 y hy
        rcases List.mem_cons.1 hy with rfl | hy
        · exact h
        · exact h1 y hy
      · intro h1 y hy
        exact h1 y (by simp [hy])
    · rw [if_neg h]
      exact ⟨fun e => absurd e h, fun h1 => h1 x (by simp)⟩
theorem frL_mem : ∀ {D : List Seg}, frL D ≠ 0 → ∃ x ∈ D, x.length = frL D
  | [] => fun h => absurd rfl h
  | x :: r => by
    unfold frL
    by_cases h : x.length = 0
    · rw [if_pos h]
      intro h1
      obtain ⟨y, hy, e⟩ := frL_mem h1
      exact ⟨y, by simp [hy], e⟩
    · rw [if_neg h]
      intro _
      exact ⟨x, by simp, rfl⟩
theorem uniD_iff {n : Nat} {D : List Seg} : uniD n D = true ↔ ∀ x ∈ D, x.length = 0 ∨ x.length = n := by simp [uniD]
theorem frL_of {n : Nat} {D : List Seg} (h : ∀ x ∈ D, x.length = 0 ∨ x.length = n) (hx : ∃ x ∈ D, x.length = n) (hn : 0 < n) : frL D = n := by
  have h0 : frL D ≠ 0 := fun e => by
    obtain ⟨x, h1, h2⟩ := hx
    have := frL_zero.1 e x h1
    omega
  obtain ⟨y, hy, e⟩ := frL_mem h0
  rcases h y hy with h1 | h1
  · omega
  · omega
theorem mem_set' {D : List Seg} {k : Nat} {xs x : Seg} (h : x ∈ D.set k xs) : x ∈ D ∨ x = xs := List.mem_or_eq_of_mem_set h
theorem mem_of_ne {D : List Seg} {k : Nat} {xs x : Seg} (h : x ∈ D) (hk : D[k]? ≠ some x) : x ∈ D.set k xs := by
  obtain ⟨j, hj, rfl⟩ := List.mem_iff_getElem.1 h
  have hne : k ≠ j := fun e => hk (by subst e; exact List.getElem?_eq_getElem hj)
  exact List.mem_iff_getElem.2 ⟨j, by simpa using hj, by rw [List.getElem_set_ne hne]⟩
theorem set_take (S : List Seg) (k : Nat) (xs : Seg) (hk : k + 1 < S.length) : (S.set k xs).take ((S.set k xs).length - 1) = (S.take (S.length - 1)).set k xs := by
  rw [List.length_set, List.take_set]
theorem set_takeL (S : List Seg) (k : Nat) (xs : Seg) (hk : k + 1 = S.length) : (S.set k xs).take ((S.set k xs).length - 1) = S.take (S.length - 1) := by
  rw [List.length_set, List.take_set, List.set_eq_of_length_le (by rw [List.length_take]; omega)]
theorem lastS_set (S : List Seg) (k : Nat) (xs : Seg) (hk : k + 1 < S.length) : lastS (S.set k xs) = lastS S := by
  unfold lastS
  rw [List.length_set, List.getElem?_set_ne (by omega)]
theorem lastS_setL (S : List Seg) (k : Nat) (xs : Seg) (hk : k + 1 = S.length) : lastS (S.set k xs) = xs.length := by
  unfold lastS
  rw [List.length_set, show S.length - 1 = k by omega, List.getElem?_set_self (by omega)]
  rfl
theorem fit_last (S : List Seg) (k : Nat) (xs : Seg) (hk : k + 1 = S.length) (hu : uniD (lenS S) (S.take (S.length - 1)) = true) :
    lenS (S.set k xs) = lenS S ∧ lastS (S.set k xs) = xs.length ∧ fitS (S.set k xs) = capB S.length (lenS S) xs.length := by
  have h1 : lenS (S.set k xs) = lenS S := by unfold lenS; rw [set_takeL S k xs hk]
  refine ⟨h1, lastS_setL S k xs hk, ?_⟩
  unfold fitS
  rw [h1, lastS_setL S k xs hk, set_takeL S k xs hk, hu, List.length_set]
  rfl
theorem fit_mid (S : List Seg) (k : Nat) (xs : Seg) (hk : k + 1 < S.length) (hu : uniD (lenS S) (S.take (S.length - 1)) = true) (hx : 0 < xs.length) (hl : lenS S = 0 ∨ lenS S = xs.length) :
    lenS (S.set k xs) = xs.length ∧ lastS (S.set k xs) = lastS S ∧ fitS (S.set k xs) = capB S.length xs.length (lastS S) := by
  have hall : ∀ x ∈ (S.take (S.length - 1)).set k xs, x.length = 0 ∨ x.length = xs.length := fun x h => by
    rcases mem_set' h with h1 | rfl
    · rcases hl with h2 | h2
      · exact .inl (frL_zero.1 h2 x h1)
      · rcases uniD_iff.1 hu x h1 with h3 | h3
        · exact .inl h3
        · exact .inr (h3.trans h2)
    · exact .inr rfl
  have hkt : k < (S.take (S.length - 1)).length := by rw [List.length_take]; omega
  have h1 : lenS (S.set k xs) = xs.length := by
    unfold lenS
    rw [set_take S k xs hk]
    exact frL_of hall ⟨xs, List.mem_iff_getElem.2 ⟨k, by simpa using hkt, by rw [List.getElem_set_self]⟩, rfl⟩ hx
  refine ⟨h1, lastS_set S k xs hk, ?_⟩
  unfold fitS
  rw [h1, lastS_set S k xs hk, set_take S k xs hk, uniD_iff.2 hall, List.length_set]
  rfl
theorem fit_no (S : List Seg) (k : Nat) (xs : Seg) (hk : k + 1 < S.length) (hx : 0 < xs.length) (h0 : S[k]? = some []) (hl : lenS S ≠ 0) (hm : lenS S ≠ xs.length) : fitS (S.set k xs) = false := by
  rcases hf : fitS (S.set k xs) with _ | _
  · rfl
  · exfalso
    unfold fitS at hf
    rw [Bool.and_eq_true] at hf
    have hu := uniD_iff.1 hf.1
    unfold lenS at hu
    rw [set_take S k xs hk] at hu
    have hkt : k < (S.take (S.length - 1)).length := by rw [List.length_take]; omega
    have h1 := hu xs (List.mem_iff_getElem.2 ⟨k, by simpa using hkt, by rw [List.getElem_set_self]⟩)
    obtain ⟨y, hy, e⟩ := frL_mem (D := S.take (S.length - 1)) hl
    have h2 := hu y (mem_of_ne hy (fun e2 => by
      rw [List.getElem?_take_of_lt (by omega), h0] at e2
      cases e2
      exact hl e.symm))
    have e' : y.length = lenS S := e
    omega
/-- what Put answers, and what is there behind it; none: a box that nobody made -/
def putE : Option (List Seg) → Int → Seg → Int
  | none, _, _ => 1
  | some S, i, xs => if i < 0 ∨ (S.length : Int) ≤ i ∨ xs.length = 0 ∨ 1024 < xs.length then 1 else if (S[i.toNat]?.getD []).length = 0 then (if fitS (S.set i.toNat xs) = true then 0 else 120) else if S[i.toNat]?.getD [] = xs then 3 else 120
def putS : Option (List Seg) → Int → Seg → Option (List Seg)
  | none, _, _ => none
  | some S, i, xs => some (if i < 0 ∨ (S.length : Int) ≤ i ∨ xs.length = 0 ∨ 1024 < xs.length then S else if (S[i.toNat]?.getD []).length = 0 then (if fitS (S.set i.toNat xs) = true then S.set i.toNat xs else S) else S)
def cntS : Option (List Seg) → Nat
  | none => 0
  | some S => S.length
def lengS : Option (List Seg) → Nat
  | none => 0
  | some S => lenS S
def allS (S : List Seg) : Bool := S.all (fun x => x.length != 0)
def wholeB : Option (List Seg) → Bool
  | none => false
  | some S => allS S
def wholeX : Option (List Seg) → Seg
  | none => []
  | some S => if allS S = true then S.flatten else []
/-- the ranges of those that are there, one each -/
def ones (S : List Seg) : Nat → List Rg
  | 0 => []
  | k + 1 => ones S k ++ (if (S[k]?.getD []).length = 0 then [] else [((k : Int), (k : Int) + 1)])
def onesO : Option (List Seg) → List Rg
  | none => []
  | some S => ones S S.length
structure GotIs (rs : List Rg) (St : Option (List Seg)) : Prop where
  lst : Lst rs
  has : ∀ i, hasR rs i ↔ hasR (onesO St) i
theorem GotIs.uniq {rs ss : List Rg} {St : Option (List Seg)} (h : GotIs rs St) (k : GotIs ss St) : rs = ss := Lst.uniq h.lst k.lst (fun i => (h.has i).trans (k.has i).symm)
theorem ones_len (S : List Seg) : ∀ k, (ones S k).length ≤ k
  | 0 => Nat.le_refl _
  | k + 1 => by
    have := ones_len S k
    unfold ones
    rw [List.length_append]
    split <;> simp <;> omega
theorem ones_mem (S : List Seg) : ∀ k, ∀ z ∈ ones S k, 0 ≤ z.1 ∧ z.1 < (k : Int) ∧ z.2 = z.1 + 1
  | 0, z, h => by cases h
  | k + 1, z, h => by
    unfold ones at h
    rcases List.mem_append.1 h with h1 | h1
    · have := ones_mem S k z h1
      omega
    · split at h1
      · cases h1
      · rw [List.mem_singleton] at h1
        subst h1
        exact ⟨by simp, by simp; omega, rfl⟩
/-- the segments -/
def segN (xs : Seg) (m k : Nat) : List Seg := (List.range k).map fun i => (xs.drop (i * m)).take m
def cutN (n m : Nat) : Nat := (n + m - 1) / m
def cutE (n : Nat) (m : Int) : Int := if m < 1 ∨ 1024 < m ∨ n = 0 then 1 else if 1024 < n then 81 else if m * 64 < (n : Int) then 2 else 0
def cutS (xs : Seg) (m : Int) : List Seg := if cutE xs.length m = 0 then segN xs m.toNat (cutN xs.length m.toNat) else []
theorem segN_len (xs : Seg) (m k : Nat) : (segN xs m k).length = k := by simp [segN]
theorem segN_get (xs : Seg) (m k i : Nat) (h : i < k) : (segN xs m k)[i]? = some ((xs.drop (i * m)).take m) := by simp [segN, h]
theorem segN_succ (xs : Seg) (m k : Nat) : segN xs m (k + 1) = segN xs m k ++ [(xs.drop (k * m)).take m] := by simp [segN, List.range_succ]
theorem segN_zero (xs : Seg) (m : Nat) : segN xs m 0 = [] := rfl
end Go.Proofs.Ytmjhbckedagjjab
