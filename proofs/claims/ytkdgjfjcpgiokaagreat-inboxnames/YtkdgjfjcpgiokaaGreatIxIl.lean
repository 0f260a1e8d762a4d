import Derived.Test.YtkdgjfjcpgiokaaGreatIxIk
namespace Go.Proofs.YtkdgjfjcpgiokaaGreat
set_option linter.unusedVariables false
set_option linter.unusedSimpArgs false
open Go.RowKit Go.Maps
def dataB (u : Un) : Bool := decide (u.kind = 1 ∧ (1 ≤ u.ep ∧ u.ep ≤ 281474976710655) ∧ (1 ≤ u.se ∧ u.se ≤ 281474976710655) ∧ ((u.path = 1 ∨ u.path = 2) ∧ (0 ≤ u.idx ∧ u.idx < 64) ∧ (u.idx < u.cnt ∧ u.cnt ≤ 64) ∧ (1 ≤ u.data.length ∧ u.data.length ≤ 1024) ∧ (u.code = 0 ∧ u.got.length = 0)))
theorem dataB_iff (u : Un) : dataB u = true ↔ dataP u.kind u.ep u.se u.path u.idx u.cnt u.data.length u.code u.got.length := by
  unfold dataB dataP nameOk
  rw [decide_eq_true_eq]
/-- a unit's session -/
def sesU (u : Un) : Ss := (u.ep.toNat, u.se.toNat)
/-- the box that its segment is put into -/
def boxU (J : Ib) (u : Un) : List Seg := (lk J.O (sesU u)).getD (List.replicate u.cnt.toNat [])
def goesU (J : Ib) (u : Un) : Bool := decide ((boxU J u).length = u.cnt.toNat) && okE (putE (some (boxU J u)) u.idx u.data)
/-- behind the epoch -/
def segI (J : Ib) (u : Un) : Ib := match lk J.H (sesU u) with
  | some c => { J with H := pt J.ms J.H (sesU u) c }
  | none => if goesU J u = true then { J with O := pt J.mo J.O (sesU u) (putL (boxU J u) u.idx u.data) } else J
def segA (J : Ib) (u : Un) : Ans := match lk J.H (sesU u) with
  | some c => ⟨5, c, none⟩
  | none => if goesU J u = true then tellA (putL (boxU J u) u.idx u.data) else ⟨2, 0, none⟩
/-- what a Take leaves, and what it answers -/
def takeI (I : Ib) (u : Un) : Ib := if dataB u = true then (if u.ep.toNat < I.ep then I else segI (riseI I u.ep.toNat) u) else I
def takeA (I : Ib) (u : Un) : Ans := if dataB u = true then (if u.ep.toNat < I.ep then ⟨1, 0, none⟩ else segA (riseI I u.ep.toNat) u) else ⟨2, 0, none⟩
/-- a unit as a value -/
abbrev unV (u : Un) (da : Option Addr) (dn dc : Nat) (ga : Option Addr) (gn gc : Nat) : Value := .agg (unC u.kind u.ep u.se u.path u.idx u.cnt da dn dc u.code ga gn gc)
section
variable {w w' : World} {p m1 m2 T1 T2 : Nat} {I : Ib} {E : List (Ss × Bg)} {G : List (Ss × (Int × Nat))}
theorem itake_t (h : Ibx none w p m1 m2 T1 T2 I E G) (u : Un) (da : Option Addr) (dn dc : Nat) (ga : Option Addr) (gn gc : Nat) (hn : dn = u.data.length) (hg : gn = u.got.length) (hx : Rd w da u.data) (hxf : 0 < u.data.length → ∀ b, footI none p m1 m2 E b → ∀ a, da = some a → a.block ≠ b) (hnil : da = none → dc = 0) (hT1 : T1 < 9223372036854775807) (hT2 : T2 < 9223372036854775807) :
    Calls Tryz.prog 18 #[.pointer (some ⟨p, 0, none⟩), unV u da dn dc ga gn gc] w fun r w' => TkPost w p m1 m2 T1 T2 E (takeI I u) (takeA I u) r w' := by
  obtain ⟨k, e, se, pa, i, c, xs, cd, l⟩ := u
  simp only at hn hg hx hxf
  unfold takeI takeA
  by_cases hd : dataB ⟨k, e, se, pa, i, c, xs, cd, l⟩ = true
  · rw [if_pos hd, if_pos hd]
    have hD := (dataB_iff _).1 hd
    simp only at hD
    rw [← hn, ← hg] at hD
    obtain ⟨rfl, hD1⟩ := hD
    obtain ⟨en, rfl⟩ : ∃ en : Nat, e = (en : Int) := ⟨e.toNat, by have := hD1.1.1; omega⟩
    obtain ⟨sn, rfl⟩ : ∃ sn : Nat, se = (sn : Int) := ⟨se.toNat, by have := hD1.2.1.1; omega⟩
    obtain ⟨cn, rfl⟩ : ∃ cn : Nat, c = (cn : Int) := ⟨c.toNat, by have := hD1.2.2.2.1; have := hD1.2.2.2.2.1; omega⟩
    have hD : dataP 1 (en : Int) (sn : Int) pa i (cn : Int) dn cd gn := ⟨rfl, hD1⟩
    have hxf := hxf (by have := hD1.2.2.2.2.2.1; omega)
    show Calls _ _ _ _ fun r w' => TkPost w p m1 m2 T1 T2 E (if en < I.ep then I else segI (riseI I en) _) (if en < I.ep then ⟨1, 0, none⟩ else segA (riseI I en) _) r w'
    by_cases he : en < I.ep
    · rw [if_pos he, if_pos he]
      exact take_stale h en sn pa i cn da dn dc cd ga gn gc hD he
    · rw [if_neg he, if_neg he]
      have he' : I.ep ≤ en := by omega
      have eS : sesU ⟨1, (en : Int), (sn : Int), pa, i, (cn : Int), xs, cd, l⟩ = (en, sn) := rfl
      unfold segI segA
      rw [eS]
      cases hH : lk (riseI I en).H (en, sn) with
      | some c => exact take_dec h en sn pa i cn da dn dc cd ga gn gc hD he' c hH hT2
      | none =>
        simp only
        unfold goesU boxU
        rw [eS]
        cases hO : lk (riseI I en).O (en, sn) with
        | some S =>
          simp only [Option.getD_some]
          show Calls _ _ _ _ fun r w' => TkPost w p m1 m2 T1 T2 E (if (decide (S.length = cn) && okE (putE (some S) i xs)) = true then _ else _) (if (decide (S.length = cn) && okE (putE (some S) i xs)) = true then _ else _) r w'
          by_cases hc : S.length = cn
          · rw [decide_eq_true hc, Bool.true_and]
            cases hok : okE (putE (some S) i xs) with
            | true => rw [if_pos rfl, if_pos rfl]; exact take_open_ok h en sn pa i cn da dn dc cd ga gn gc hD he' hH S hO hc.symm xs hn hx hxf hnil hok hT1
            | false => rw [if_neg (by simp), if_neg (by simp)]; exact take_open_no h en sn pa i cn da dn dc cd ga gn gc hD he' hH S hO hc.symm xs hn hx hxf hnil hok
          · rw [decide_eq_false hc, Bool.false_and, if_neg (by simp), if_neg (by simp)]
            exact take_mis h en sn pa i cn da dn dc cd ga gn gc hD he' hH S hO (fun e => hc e.symm)
        | none =>
          simp only [Option.getD_none]
          show Calls _ _ _ _ fun r w' => TkPost w p m1 m2 T1 T2 E (if (decide ((List.replicate cn ([] : Seg)).length = cn) && okE (putE (some (List.replicate cn [])) i xs)) = true then _ else _) (if (decide ((List.replicate cn ([] : Seg)).length = cn) && okE (putE (some (List.replicate cn [])) i xs)) = true then _ else _) r w'
          rw [decide_eq_true List.length_replicate, Bool.true_and]
          cases hok : okE (putE (some (List.replicate cn [])) i xs) with
          | true => rw [if_pos rfl, if_pos rfl]; exact take_new_ok h en sn pa i cn da dn dc cd ga gn gc hD he' hH hO xs hn hx hxf hnil hok hT1
          | false => rw [if_neg (by simp), if_neg (by simp)]; exact take_new_no h en sn pa i cn da dn dc cd ga gn gc hD he' hH hO xs hn hx hxf hnil hok
  · rw [if_neg hd, if_neg hd]
    have hD : ¬ dataP k e se pa i c dn cd gn := fun h9 => hd ((dataB_iff _).2 (by simp only; rw [← hn, ← hg]; exact h9))
    by_cases hk : k = 1
    · subst hk
      exact take_bad h e se pa i c da dn dc cd ga gn gc hD
    · exact take_kind h k e se pa i c da dn dc cd ga gn gc hk
theorem idec_t (h : Ibx none w p m1 m2 T1 T2 I E G) (s : Ss) (c : Int) (hT2 : T2 < 9223372036854775807) :
    Calls Tryz.prog 28 #[.pointer (some ⟨p, 0, none⟩), sv s, .int .i64 c] w fun e w' => e = .returned (.int .i64 (decE I s c)) ∧ DcPost w p m1 m2 T1 T2 E (decI I s c) w' := by
  have same : ∀ {r : Int}, decE I s c = r → r ≠ 0 → Calls Tryz.prog 28 #[.pointer (some ⟨p, 0, none⟩), sv s, .int .i64 c] w (fun e w' => e = .returned (.int .i64 r) ∧ Below w.heap.size w w') → Calls Tryz.prog 28 #[.pointer (some ⟨p, 0, none⟩), sv s, .int .i64 c] w fun e w' => e = .returned (.int .i64 (decE I s c)) ∧ DcPost w p m1 m2 T1 T2 E (decI I s c) w' := fun {r} e1 e2 h1 => by
    refine Calls.mono h1 ?_
    rintro e w' ⟨rfl, hb⟩
    unfold decI
    rw [e1, if_neg e2]
    exact ⟨rfl, DcPost.same h hb⟩
  have bad : (¬ (1 ≤ c ∧ c ≤ 7) ∨ numBI s.1 = false ∨ numBI s.2 = false) → decE I s c = 1 := fun h9 => if_pos h9
  by_cases h1 : c < 1
  · exact same (bad (.inl (by omega))) (by decide) (dec_lo h s c h1)
  by_cases h2 : 7 < c
  · exact same (bad (.inl (by omega))) (by decide) (dec_hi h s c h2)
  cases h3 : numBI s.1 with
  | false => exact same (bad (.inr (.inl h3))) (by decide) (dec_ep h s c (by omega) (by omega) h3)
  | true =>
    cases h4 : numBI s.2 with
    | false => exact same (bad (.inr (.inr h4))) (by decide) (dec_nu h s c (by omega) (by omega) h3 h4)
    | true =>
      have hno : ¬ (¬ (1 ≤ c ∧ c ≤ 7) ∨ numBI s.1 = false ∨ numBI s.2 = false) := by rw [h3, h4]; simp; omega
      by_cases h5 : s.1 < I.ep
      · exact same (by unfold decE; rw [if_neg hno, if_pos h5]) (by decide) (dec_old h s c (by omega) (by omega) h3 h4 h5)
      by_cases h6 : s ∈ ks I.H
      · exact same (by unfold decE; rw [if_neg hno, if_neg h5, if_pos h6]) (by decide) (dec_twice h s c (by omega) (by omega) h3 h4 (by omega) h6)
      · have e0 : decE I s c = 0 := by unfold decE; rw [if_neg hno, if_neg h5, if_neg h6]
        unfold decI
        rw [e0, if_pos rfl]
        exact dec_ok h s c (by omega) (by omega) h3 h4 (by omega) h6 hT2
end
/-- an inbox of the program: N bounds its touches, F has its blocks -/
structure IbA (w : World) (p N : Nat) (I : Ib) (F : Nat → Prop) : Prop where
  ex : ∃ m1 m2 T1 T2 E G, Ibx none w p m1 m2 T1 T2 I E G ∧ T1 ≤ N ∧ T2 ≤ N ∧ ∀ b, footI none p m1 m2 E b → F b
  lt : ∀ b, F b → b < w.heap.size
/-- what a Take leaves and answers -/
def TkA (w : World) (p N : Nat) (F : Nat → Prop) (I' : Ib) (a : Ans) (e : Ending) (w' : World) : Prop :=
  ∃ F' B ga ba gn gc bn bc rs xs, e = .returned (ansV a ga ba gn gc bn bc) ∧ AnsAt w' B a ga ba gn gc bn bc rs xs ∧ IbA w' p (N + 1) I' F' ∧ Chg F w w' ∧ (∀ b, F' b → (F b ∨ w.heap.size ≤ b) ∧ b < B) ∧ w.heap.size ≤ B
/-- what another call leaves -/
def LfA (w : World) (p N : Nat) (F : Nat → Prop) (I' : Ib) (w' : World) : Prop := ∃ F', IbA w' p (N + 1) I' F' ∧ Chg F w w' ∧ ∀ b, F' b → F b ∨ w.heap.size ≤ b
section
variable {w w' : World} {p N : Nat} {I : Ib} {F : Nat → Prop}
theorem IbA.ok (h : IbA w p N I F) : IbOk I := by
  obtain ⟨m1, m2, T1, T2, E, G, h1, -⟩ := h.ex
  exact h1.ok
theorem IbA.kept (h : IbA w p N I F) (hs : w.heap.size ≤ w'.heap.size) (hk : ∀ b, F b → w'.heap[b]? = w.heap[b]?) : IbA w' p N I F := by
  obtain ⟨m1, m2, T1, T2, E, G, h1, h2, h3, h4⟩ := h.ex
  exact ⟨⟨m1, m2, T1, T2, E, G, h1.kept hs (fun b hb => hk b (h4 b hb)), h2, h3, h4⟩, fun b hb => Nat.lt_of_lt_of_le (h.lt b hb) hs⟩
theorem IbA.below (h : IbA w p N I F) (hb : Below w.heap.size w w') : IbA w' p N I F := h.kept hb.size (fun b hf => hb.block b (h.lt b hf))
theorem IbA.chg {D : Nat → Prop} (h : IbA w p N I F) (hc : Chg D w w') (hD : ∀ b, F b → ¬ D b) : IbA w' p N I F := h.kept hc.size (fun b hf => hc.block b (h.lt b hf) (hD b hf))
theorem IbA.more (h : IbA w p N I F) {N' : Nat} (hN : N ≤ N') : IbA w p N' I F := by
  obtain ⟨m1, m2, T1, T2, E, G, h1, h2, h3, h4⟩ := h.ex
  exact ⟨⟨m1, m2, T1, T2, E, G, h1, by omega, by omega, h4⟩, h.lt⟩
theorem take_a (h : IbA w p N I F) (u : Un) (da : Option Addr) (dn dc : Nat) (ga : Option Addr) (gn gc : Nat) (hn : dn = u.data.length) (hg : gn = u.got.length) (hx : Rd w da u.data) (hxf : 0 < u.data.length → ∀ b, F b → ∀ a, da = some a → a.block ≠ b) (hnil : da = none → dc = 0) (hN : N < 4611686018427387904) :
    Calls Tryz.prog 18 #[.pointer (some ⟨p, 0, none⟩), unV u da dn dc ga gn gc] w fun r w' => TkA w p N F (takeI I u) (takeA I u) r w' := by
  obtain ⟨m1, m2, T1, T2, E, G, h1, h2, h3, h4⟩ := h.ex
  refine Calls.mono (itake_t h1 u da dn dc ga gn gc hn hg hx (fun h0 b hb => hxf h0 b (h4 b hb)) hnil (by omega) (by omega)) ?_
  rintro e w' ⟨T1', T2', E', G', B, ga', ba', gn', gc', bn', bc', rs, xs, rfl, hA, hI, ht1, ht2, hc, hf, hB⟩
  exact ⟨footI none p m1 m2 E', B, ga', ba', gn', gc', bn', bc', rs, xs, rfl, hA, ⟨⟨m1, m2, T1', T2', E', G', hI, by omega, by omega, fun b hb => hb⟩, fun b hb => hI.lt hb⟩, hc.mono h4, fun b hb => ⟨(hf b hb).1.imp (h4 b) id, (hf b hb).2⟩, hB⟩
theorem LfA.of {m1 m2 T1 T2 : Nat} {E : List (Ss × Bg)} {I' : Ib} (hp : DcPost w p m1 m2 T1 T2 E I' w') (h2 : T1 ≤ N) (h3 : T2 ≤ N) (h4 : ∀ b, footI none p m1 m2 E b → F b) : LfA w p N F I' w' := by
  obtain ⟨T2', E', G', hI, ht, hc, hf⟩ := hp
  exact ⟨footI none p m1 m2 E', ⟨⟨m1, m2, T1, T2', E', G', hI, by omega, by omega, fun b hb => hb⟩, fun b hb => hI.lt hb⟩, hc.mono h4, fun b hb => .inl (h4 b (hf b hb))⟩
theorem dec_a (h : IbA w p N I F) (s : Ss) (c : Int) (hN : N < 4611686018427387904) :
    Calls Tryz.prog 28 #[.pointer (some ⟨p, 0, none⟩), sv s, .int .i64 c] w fun e w' => e = .returned (.int .i64 (decE I s c)) ∧ LfA w p N F (decI I s c) w' := by
  obtain ⟨m1, m2, T1, T2, E, G, h1, h2, h3, h4⟩ := h.ex
  refine Calls.mono (idec_t h1 s c (by omega)) ?_
  rintro e w' ⟨rfl, hp⟩
  exact ⟨rfl, LfA.of hp h2 h3 h4⟩
theorem drop_a (h : IbA w p N I F) (s : Ss) (hs : inS s) :
    Calls Tryz.prog 29 #[.pointer (some ⟨p, 0, none⟩), sv s] w fun e w' => e = .returned (.bool (decide (s ∈ ks I.O))) ∧ LfA w p N F (dropI I s) w' := by
  obtain ⟨m1, m2, T1, T2, E, G, h1, h2, h3, h4⟩ := h.ex
  refine Calls.mono (idrop_t h1 s hs) ?_
  rintro e w' ⟨rfl, hp⟩
  exact ⟨rfl, LfA.of hp h2 h3 h4⟩
theorem epoch_a (h : IbA w p N I F) : Calls Tryz.prog 23 #[.pointer (some ⟨p, 0, none⟩)] w fun e w' => e = .returned (.int .u64 (I.ep : Int)) ∧ w' = w := by
  obtain ⟨m1, m2, T1, T2, E, G, h1, -⟩ := h.ex
  exact iepoch_t h1
theorem open_a (h : IbA w p N I F) : Calls Tryz.prog 20 #[.pointer (some ⟨p, 0, none⟩)] w fun e w' => ∃ v, e = .returned v ∧ OwnG KSs w' w.heap.size v (ks I.O) ∧ Below w.heap.size w w' := by
  obtain ⟨m1, m2, T1, T2, E, G, h1, -⟩ := h.ex
  exact iopen_t h1
theorem decd_a (h : IbA w p N I F) : Calls Tryz.prog 22 #[.pointer (some ⟨p, 0, none⟩)] w fun e w' => ∃ v, e = .returned v ∧ OwnG KSs w' w.heap.size v (ks I.H) ∧ Below w.heap.size w w' := by
  obtain ⟨m1, m2, T1, T2, E, G, h1, -⟩ := h.ex
  exact idecd_t h1
end
/-- a new inbox -/
def newI (a b : Nat) : Ib := ⟨a, b, 0, [], []⟩
theorem new_a (a b : Nat) (ha : 1 ≤ a) (ha2 : a ≤ 64) (hb : 1 ≤ b) (hb2 : b ≤ 4096) (w : World) : Calls Tryz.prog 14 #[.int .i64 (a : Int), .int .i64 (b : Int)] w fun e w' => ∃ p F, e = .returned (.tuple #[.pointer (some ⟨p, 0, none⟩), .int .i64 0]) ∧ IbA w' p 0 (newI a b) F ∧ (∀ b, F b → w.heap.size ≤ b) ∧ Below w.heap.size w w' := by
  refine Calls.mono (inew_t a b ha ha2 hb hb2 w) ?_
  rintro e w' ⟨p, m1, m2, rfl, hI, hl, hb⟩
  refine ⟨p, footI none p m1 m2 [], rfl, ⟨⟨m1, m2, 0, 0, [], [], hI, Nat.le_refl _, Nat.le_refl _, fun b hb => hb⟩, fun b hb => hI.lt hb⟩, fun b hf => ?_, hb⟩
  rcases hf with hf | hf | hf | ⟨x, hx, -⟩
  · omega
  · omega
  · omega
  · cases hx
end Go.Proofs.YtkdgjfjcpgiokaaGreat
