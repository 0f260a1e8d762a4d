import Derived.Test.YtdoikcolkbjnfaaGreatIxIk
namespace Go.Proofs.YtdoikcolkbjnfaaGreat
set_option linter.unusedVariables false
set_option linter.unusedSimpArgs false
open Go.RowKit Go.Maps
def dataB (u : Un) : Bool := decide (u.kind = 1 ∧ (1 ≤ u.ep ∧ u.ep ≤ 281474976710655) ∧ (1 ≤ u.se ∧ u.se ≤ 281474976710655) ∧ ((u.path = 1 ∨ u.path = 2) ∧ (0 ≤ u.idx ∧ u.idx < 64) ∧ (u.idx < u.cnt ∧ u.cnt ≤ 64) ∧ (1 ≤ u.data.length ∧ u.data.length ≤ 1024) ∧ (u.code = 0 ∧ u.got.length = 0)))
theorem dataB_iff (u : Un) : dataB u = true ↔ dataP u.kind u.ep u.se u.path u.idx u.cnt u.data.length u.code u.got.length := by
  unfold dataB dataP nameOk
  rw [decide_eq_true_eq]
/-- a unit's session -/
def sesU (u : Un) : Ss := (u.ep.toNat, u.se.toNat)
/-- the box that its segment is put into -/
def boxU (J : Ib) (u : Un) : List Seg := (lk J.O (sesU u)).getD (List.replicate u.cnt.toNat [])
def goesU (J : Ib) (u : Un) : Bool := decide ((boxU J u).length = u.cnt.toNat) && okE (putE (some (boxU J u)) u.idx u.data)
/-- behind the epoch -/
def segI (J : Ib) (u : Un) : Ib := match lk J.H (sesU u) with
  | some c => { J with H := pt J.ms J.H (sesU u) c }
  | none => if goesU J u = true then { J with O := pt J.mo J.O (sesU u) (putL (boxU J u) u.idx u.data) } else J
def segA (J : Ib) (u : Un) : Ans := match lk J.H (sesU u) with
  | some c => ⟨5, c, none⟩
  | none => if goesU J u = true then tellA (putL (boxU J u) u.idx u.data) else ⟨2, 0, none⟩
/-- what a Take leaves, and what it answers -/
def takeI (I : Ib) (u : Un) : Ib := if dataB u = true then (if u.ep.toNat < I.ep then I else segI (riseI I u.ep.toNat) u) else I
def takeA (I : Ib) (u : Un) : Ans := if dataB u = true then (if u.ep.toNat < I.ep then ⟨1, 0, none⟩ else segA (riseI I u.ep.toNat) u) else ⟨2, 0, none⟩
/-- a unit as a value -/
abbrev unV (u : Un) (da : Option Addr) (dn dc : Nat) (ga : Option Addr) (gn gc : Nat) : Value := .agg (unC u.kind u.ep u.se u.path u.idx u.cnt da dn dc u.code ga gn gc)
section
variable {w w' : World} {p m1 m2 T1 T2 : Nat} {I : Ib} {E : List (Ss × Bg)} {G : List (Ss × (Int × Nat))}
theorem itake_t (h : Ibx none w p m1 m2 T1 T2 I E G) (u : Un) (da : Option Addr) (dn dc : Nat) (ga : Option Addr) (gn gc : Nat) (hn : dn = u.data.length) (hg : gn = u.got.length) (hx : Rd w da u.data) (hxf : 0 < u.data.length → ∀ b, footI none p m1 m2 E b → ∀ a, da = some a → a.block ≠ b) (hnil : da = none → dc = 0) (hT1 : T1 < 9223372036854775807) (hT2 : T2 < 9223372036854775807) :
    Calls Tryz.prog 15 #[.pointer (some ⟨p, 0, none⟩), unV u da dn dc ga gn gc] w fun r w' => TkPost w p m1 m2 T1 T2 E (takeI I u) (takeA I u) r w' := by
  obtain ⟨k, e, se, pa, i, c, xs, cd, l⟩ := u
  simp only at hn hg hx hxf
  unfold takeI takeA
  by_cases hd : dataB ⟨k, e, se, pa, i, c, xs, cd, l⟩ = true
  · rw [if_pos hd, if_pos hd]
    have hD := (dataB_iff _).1 hd
    simp only at hD
    rw [← hn, ← hg] at hD
    obtain ⟨rfl, hD1⟩ := hD
    obtain ⟨en, rfl⟩ : ∃ en : Nat, e = (en : Int) := ⟨e.toNat, by have := hD1.1.1; omega⟩
    obtain ⟨sn, rfl⟩ : ∃ sn : Nat, se = (sn : Int) := ⟨se.toNat, by have := hD1.2.1.1; omega⟩
    obtain ⟨cn, rfl⟩ : ∃ cn : Nat, c = (cn : Int) := ⟨c.toNat, by have := hD1.2.2.2.1; have := hD1.2.2.2.2.1; omega⟩
    have hD : dataP 1 (en : Int) (sn : Int) pa i (cn : Int) dn cd gn := ⟨rfl, hD1⟩
    have hxf := hxf (by have := hD1.2.2.2.2.2.1; omega)
    show Calls _ _ _ _ fun r w' => TkPost w p m1 m2 T1 T2 E (if en < I.ep then I else segI (riseI I en) _) (if en < I.ep then ⟨1, 0, none⟩ else segA (riseI I en) _) r w'
    by_cases he : en < I.ep
    · rw [if_pos he, if_pos he]
      exact take_stale h en sn pa i cn da dn dc cd ga gn gc hD he
    · rw [if_neg he, if_neg he]
      have he' : I.ep ≤ en := by omega
      have eS : sesU ⟨1, (en : Int), (sn : Int), pa, i, (cn : Int), xs, cd, l⟩ = (en, sn) := rfl
      unfold segI segA
      rw [eS]
      cases hH : lk (riseI I en).H (en, sn) with
      | some c => exact take_dec h en sn pa i cn da dn dc cd ga gn gc hD he' c hH hT2
      | none =>
        simp only
        unfold goesU boxU
        rw [eS]
        cases hO : lk (riseI I en).O (en, sn) with
        | some S =>
          simp only [Option.getD_some]
          show Calls _ _ _ _ fun r w' => TkPost w p m1 m2 T1 T2 E (if (decide (S.length = cn) && okE (putE (some S) i xs)) = true then _ else _) (if (decide (S.length = cn) && okE (putE (some S) i xs)) = true then _ else _) r w'
          by_cases hc : S.length = cn
          · rw [decide_eq_true hc, Bool.true_and]
            cases hok : okE (putE (some S) i xs) with
            | true => rw [if_pos rfl, if_pos rfl]; exact take_open_ok h en sn pa i cn da dn dc cd ga gn gc hD he' hH S hO hc.symm xs hn hx hxf hnil hok hT1
            | false => rw [if_neg (by simp), if_neg (by simp)]; exact take_open_no h en sn pa i cn da dn dc cd ga gn gc hD he' hH S hO hc.symm xs hn hx hxf hnil hok
          · rw [decide_eq_false hc, Bool.false_and, if_neg (by simp), if_neg (by simp)]
            exact take_mis h en sn pa i cn da dn dc cd ga gn gc hD he' hH S hO (fun e => hc e.symm)
        | none =>
          simp only [Option.getD_none]
          show Calls _ _ _ _ fun r w' => TkPost w p m1 m2 T1 T2 E (if (decide ((List.replicate cn ([] : Seg)).length = cn) && okE (putE (some (List.replicate cn [])) i xs)) = true then _ else _) (if (decide ((List.replicate cn ([] : Seg)).length = cn) && okE (putE (some (List.replicate cn [])) i xs)) = true then _ else _) r w'
          rw [decide_eq_true List.length_replicate, Bool.true_and]
          cases hok : okE (putE (some (List.replicate cn [])) i xs) with
          | true => rw [if_pos rfl, if_pos rfl]; exact take_new_ok h en sn pa i cn da dn dc cd ga gn gc hD he' hH hO xs hn hx hxf hnil hok hT1
          | false => rw [if_neg (by simp), if_neg (by simp)]; exact take_new_no h en sn pa i cn da dn dc cd ga gn gc hD he' hH hO xs hn hx hxf hnil hok
  · rw [if_neg hd, if_neg hd]
    have hD : ¬ dataP k e se pa i c dn cd gn := fun h9 => hd ((dataB_iff _).2 (by simp only; rw [← hn, ← hg]; exact h9))
    by_cases hk : k = 1
    · subst hk
      exact take_bad h e se pa i c da dn dc cd ga gn gc hD
    · exact take_kind h k e se pa i c da dn dc cd ga gn gc hk
theorem idec_t (h : Ibx none w p m1 m2 T1 T2 I E G) (s : Ss) (c : Int) (hT2 : T2 < 9223372036854775807) :
    Calls Tryz.prog 29 #[.pointer (some ⟨p, 0, none⟩), sv s, .int .i64 c] w fun e w' => e = .returned (.int .i64 (decE I s c)) ∧ DcPost w p m1 m2 T1 T2 E (decI I s c) w' := by
  have same : ∀ {r : Int}, decE I s c = r → r ≠ 0 → Calls Tryz.prog 29 #[.pointer (some ⟨p, 0, none⟩), sv s, .int .i64 c] w (fun e w' => e = .returned (.int .i64 r) ∧ Below w.heap.size w w') → Calls Tryz.prog 29 #[.pointer (some ⟨p, 0, none⟩), sv s, .int .i64 c] w fun e w' => e = .returned (.int .i64 (decE I s c)) ∧ DcPost w p m1 m2 T1 T2 E (decI I s c) w' := fun {r} e1 e2 h1 => by
    refine Calls.mono h1 ?_
    rintro e w' ⟨rfl, hb⟩
    unfold decI
    rw [e1, if_neg e2]
    exact ⟨rfl, DcPost.same h hb⟩
  have bad : (¬ (1 ≤ c ∧ c ≤ 7) ∨ numBI s.1 = false ∨ numBI s.2 = false) → decE I s c = 1 := fun h9 => if_pos h9
  by_cases h1 : c < 1
  · exact same (bad (.inl (by omega))) (by decide) (dec_lo h s c h1)
  by_cases h2 : 7 < c
  · exact same (bad (.inl (by omega))) (by decide) (dec_hi h s c h2)
  cases h3 : numBI s.1 with
  | false => exact same (bad (.inr (.inl h3))) (by decide) (dec_ep h s c (by omega) (by omega) h3)
  | true =>
    cases h4 : numBI s.2 with
    | false => exact same (bad (.inr (.inr h4))) (by decide) (dec_nu h s c (by omega) (by omega) h3 h4)
    | true =>
      have hno : ¬ (¬ (1 ≤ c ∧ c ≤ 7) ∨ numBI s.1 = false ∨ numBI s.2 = false) := by rw [h3, h4]; simp; omega
      by_cases h5 : s.1 < I.ep
      · exact same (by unfold decE; rw [if_neg hno, if_pos h5]) (by decide) (dec_old h s c (by omega) (by omega) h3 h4 h5)
      by_cases h6 : s ∈ ks I.H
      · exact same (by unfold decE; rw [if_neg hno, if_neg h5, if_pos h6]) (by decide) (dec_twice h s c (by omega) (by omega) h3 h4 (by omega) h6)
      · have e0 : decE I s c = 0 := by unfold decE; rw [if_neg hno, if_neg h5, if_neg h6]
        unfold decI
        rw [e0, if_pos rfl]
        exact dec_ok h s c (by omega) (by omega) h3 h4 (by omega) h6 hT2
end
/-- an inbox of the program: N bounds its touches, F has its blocks -/
structure IbA (w : World) (p N : Nat) (I : Ib) (F : Nat → Prop) : Prop where
  ex : ∃ m1 m2 T1 T2 E G, Ibx none w p m1 m2 T1 T2 I E G ∧ T1 ≤ N ∧ T2 ≤ N ∧ ∀ b, footI none p m1 m2 E b → F b
  lt : ∀ b, F b → b < w.heap.size
/-- what a Take leaves and answers -/
def TkA (w : World) (p N : Nat) (F : Nat → Prop) (I' : Ib) (a : Ans) (e : Ending) (w' : World) : Prop :=
  ∃ F' B ga ba gn gc bn bc rs xs, e = .returned (ansV a ga ba gn gc bn bc) ∧ AnsAt w' B a ga ba gn gc bn bc rs xs ∧ IbA w' p (N + 1) I' F' ∧ Chg F w w' ∧ (∀ b, F' b → (F b ∨ w.heap.size ≤ b) ∧ b < B) ∧ w.heap.size ≤ B
/-- what another call leaves -/
def LfA (w : World) (p N : Nat) (F : Nat → Prop) (I' : Ib) (w' : World) : Prop := ∃ F', IbA w' p (N + 1) I' F' ∧ Chg F w w' ∧ ∀ b, F' b → F b ∨ w.heap.size ≤ b
section
variable {w w' : World} {p N : Nat} {I : Ib} {F : Nat → Prop}
theorem IbA.ok (h : IbA w p N I F) : IbOk I := by
  obtain ⟨m1, m2, T1, T2, E, G, h1, -⟩ := h.ex
  exact h1.ok
theorem IbA.kept (h : IbA w p N I F) (hs : w.heap.size ≤ w'.heap.size) (hk : ∀ b, F b → w'.heap[b]? = w.heap[b]?) : IbA w' p N I F := by
  obtain ⟨m1, m2, T1, T2, E, G, h1, h2, h3, h4⟩ := h.ex
  exact ⟨⟨m1, m2, T1, T2, E, G, h1.kept hs (fun b hb => hk b (h4 b hb)), h2, h3, h4⟩, fun b hb => Nat.lt_of_lt_of_le (h.lt b hb) hs⟩
theorem IbA.below (h : IbA w p N I F) (hb : Below w.heap.size w w') : IbA w' p N I F := h.kept hb.size (fun b hf => hb.block b (h.lt b hf))
theorem IbA.chg {D : Nat → Prop} (h : IbA w p N I F) (hc : Chg D w w') (hD : ∀ b, F b → ¬ D b) : IbA w' p N I F := h.kept hc.size (fun b hf => hc.block b (h.lt b hf) (hD b hf))
theorem IbA.more (h : IbA w p N I F) {N' : Nat} (hN : N ≤ N') : IbA w p N' I F := by
  obtain ⟨m1, m2, T1, T2, E, G, h1, h2, h3, h4⟩ := h.ex
  exact ⟨⟨m1, m2, T1, T2, E, G, h1, by omega, by omega, h4⟩, h.lt⟩
theorem take_a (h : IbA w p N I F) (u : Un) (da : Option Addr) (dn dc : Nat) (ga : Option Addr) (gn gc : Nat) (hn : dn = u.data.length) (hg : gn = u.got.length) (hx : Rd w da u.data) (hxf : 0 < u.data.length → ∀ b, F b → ∀ a, da = some a → a.block ≠ b) (hnil : da = none → dc = 0) (hN : N < 4611686018427387904) :
    Calls Tryz.prog 15 #[.pointer (some ⟨p, 0, none⟩), unV u da dn dc ga gn gc] w fun r w' => TkA w p N F (takeI I u) (takeA I u) r w' := by
  obtain ⟨m1, m2, T1, T2, E, G, h1, h2, h3, h4⟩ := h.ex
  refine Calls.mono (itake_t h1 u da dn dc ga gn gc hn hg hx (fun h0 b hb => hxf h0 b (h4 b hb)) hnil (by omega) (by omega)) ?_
  rintro e w' ⟨T1', T2', E', G', B, ga', ba', gn', gc', bn', bc', rs, xs, rfl, hA, hI, ht1, ht2, hc, hf, hB⟩
  exact ⟨footI none p m1 m2 E', B, ga', ba', gn', gc', bn', bc', rs, xs, rfl, hA, ⟨⟨m1, m2, T1', T2', E', G', hI, by omega, by omega, fun b hb => hb⟩, fun b hb => hI.lt hb⟩, hc.mono h4, fun b hb => ⟨(hf b hb).1.imp (h4 b) id, (hf b hb).2⟩, hB⟩
theorem LfA.of {m1 m2 T1 T2 : Nat} {E : List (Ss × Bg)} {I' : Ib} (hp : DcPost w p m1 m2 T1 T2 E I' w') (h2 : T1 ≤ N) (h3 : T2 ≤ N) (h4 : ∀ b, footI none p m1 m2 E b → F b) : LfA w p N F I' w' := by
  obtain ⟨T2', E', G', hI, ht, hc, hf⟩ := hp
  exact ⟨footI none p m1 m2 E', ⟨⟨m1, m2, T1, T2', E', G', hI, by omega, by omega, fun b hb => hb⟩, fun b hb => hI.lt hb⟩, hc.mono h4, fun b hb => .inl (h4 b (hf b hb))⟩
theorem dec_a (h : IbA w p N I F) (s : Ss) (c : Int) (hN : N < 4611686018427387904) :
    Calls Tryz.prog 29 #[.pointer (some ⟨p, 0, none⟩), sv s, .int .i64 c] w fun e w' => e = .returned (.int .i64 (decE I s c)) ∧ LfA w p N F (decI I s c) w' := by
  obtain ⟨m1, m2, T1, T2, E, G, h1, h2, h3, h4⟩ := h.ex
  refine Calls.mono (idec_t h1 s c (by omega)) ?_
  rintro e w' ⟨rfl, hp⟩
  exact ⟨rfl, LfA.of hp h2 h3 h4⟩
theorem drop_a (h : IbA w p N I F) (s : Ss) (hs : inS s) :
    Calls Tryz.prog 46 #[.pointer (some ⟨p, 0, none⟩), sv s] w fun e w' => e = .returned (.bool (decide (s ∈ ks I.O))) ∧ LfA w p N F (dropI I s) w' := by
  obtain ⟨m1, m2, T1, T2, E, G, h1, h2, h3, h4⟩ := h.ex
  refine Calls.mono (idrop_t h1 s hs) ?_
  rintro e w' ⟨rfl, hp⟩
  exact ⟨rfl, LfA.of hp h2 h3 h4⟩
theorem epoch_a (h : IbA w p N I F) : Calls Tryz.prog 30 #[.pointer (some ⟨p, 0, none⟩)] w fun e w' => e = .returned (.int .u64 (I.ep : Int)) ∧ w' = w := by
  obtain ⟨m1, m2, T1, T2, E, G, h1, -⟩ := h.ex
  exact iepoch_t h1
theorem open_a (h : IbA w p N I F) : Calls Tryz.prog 17 #[.pointer (some ⟨p, 0, none⟩)] w fun e w' => ∃ v, e = .returned v ∧ OwnG KSs w' w.heap.size v (ks I.O) ∧ Below w.heap.size w w' := by
  obtain ⟨m1, m2, T1, T2, E, G, h1, -⟩ := h.ex
  exact iopen_t h1
theorem decd_a (h : IbA w p N I F) : Calls Tryz.prog 24 #[.pointer (some ⟨p, 0, none⟩)] w fun e w' => ∃ v, e = .returned v ∧ OwnG KSs w' w.heap.size v (ks I.H) ∧ Below w.heap.size w w' := by
  obtain ⟨m1, m2, T1, T2, E, G, h1, -⟩ := h.ex
  exact idecd_t h1
end
/-- a new inbox -/
def newI (a b : Nat) : Ib := ⟨a, b, 0, [], []⟩
theorem new_a (a b : Nat) (ha : 1 ≤ a) (ha2 : a ≤ 64) (hb : 1 ≤ b) (hb2 : b ≤ 4096) (w : World) : Calls Tryz.prog 11 #[.int .i64 (a : Int), .int .i64 (b : Int)] w fun e w' => ∃ p F, e = .returned (.tuple #[.pointer (some ⟨p, 0, none⟩), .int .i64 0]) ∧ IbA w' p 0 (newI a b) F ∧ (∀ b, F b → w.heap.size ≤ b) ∧ Below w.heap.size w w' := by
  refine Calls.mono (inew_t a b ha ha2 hb hb2 w) ?_
  rintro e w' ⟨p, m1, m2, rfl, hI, hl, hb⟩
  refine ⟨p, footI none p m1 m2 [], rfl, ⟨⟨m1, m2, 0, 0, [], [], hI, Nat.le_refl _, Nat.le_refl _, fun b hb => hb⟩, fun b hb => hI.lt hb⟩, fun b hf => ?_, hb⟩
  rcases hf with hf | hf | hf | ⟨x, hx, -⟩
  · omega
  · omega
  · omega
  · cases hx
end Go.Proofs.YtdoikcolkbjnfaaGreat
namespace Go.Proofs.YtdoikcolkbjnfaaGreat
set_option linter.unusedVariables false
set_option linter.unusedSimpArgs false
open Go.RowKit Go.Maps
section
set_option maxRecDepth 20000
set_option maxHeartbeats 800000
theorem rangesI_t (ao bo : Option Addr) (n m c1 c2 : Nat) (xs ys : List Rg) (w : World) (hn : n = xs.length) (hm : m = ys.length) (hx : RdR w ao xs) (hy : RdR w bo ys) (hl : n ≤ 8796093022208) (he : xs = ys) :
    Calls Tryz.prog 28 #[.slice ao n c1, .slice bo m c2] w fun e w' => e = .returned (.bool true) ∧ Below w.heap.size w w' := by
  subst he
  obtain rfl : n = m := by omega
  have HN : Hid _ := hn
  clear hn hm
  go_enter Tryz.func28, Tryz.ntmps28
  go_wp2
  go_loopw [5] (fun j wr => ∃ k : Nat, k ≤ n ∧ j = .int .i64 (k : Int) ∧ Below w.heap.size w wr) (fun j _ => n - (intOf j).toNat)
  case atStart => exact ⟨0, Nat.zero_le _, rfl, Below.refl _ _⟩
  case round =>
    obtain ⟨k, hk, rfl, hbw⟩ := hrel
    have hkw : IntKind.i64.wrap ((k : Int) + 1) = ((k + 1 : Nat) : Int) := by rw [IntKind.wrap_i64]; omega
    by_cases hlt : k < n
    · have hk1 : k < xs.length := by rw [← HN.out]; exact hlt
      have hlti : (k : Int) < (n : Int) := by omega
      have hk0 : (0 : Int) ≤ (k : Int) := by omega
      obtain ⟨b, o, rfl, -, -⟩ := hx k hk1
      obtain ⟨b2, o2, rfl, -, -⟩ := hy k hk1
      have hr1 : ∀ u, Below w.heap.size w u → u.rangeAt b (o + k * 2) (rv xs[k]) := fun u hu => (hx.below hu).range k hk1
      have hr2 : ∀ u, Below w.heap.size w u → u.rangeAt b2 (o2 + k * 2) (rv xs[k]) := fun u hu => (hy.below hu).range k hk1
      obtain ⟨x, hx9⟩ : ∃ x : Rg, x = xs[k] := ⟨_, rfl⟩
      rw [← hx9] at hr1 hr2
      obtain ⟨a1, a2⟩ := x
      have hl1 : ∀ u, Below w.heap.size w u → (Instr.loadAt 71 (.pointer (some ⟨b, o + k * 2, none⟩))).run Tryz.prog u = .ok (.agg #[.int .i64 a1, .int .i64 a2]) u := fun u hu => load_rgc u _ _ a1 a2 (hr1 u hu)
      have hl2 : ∀ u, Below w.heap.size w u → (Instr.loadAt 71 (.pointer (some ⟨b2, o2 + k * 2, none⟩))).run Tryz.prog u = .ok (.agg #[.int .i64 a1, .int .i64 a2]) u := fun u hu => load_rgc u _ _ a1 a2 (hr2 u hu)
      have hne : ∀ u, (binOp .neq 71 (.agg #[.int .i64 a1, .int .i64 a2]) (.agg #[.int .i64 a1, .int .i64 a2])).run Tryz.prog u = .ok (.bool false) u := fun u => by rw [neq_rgc]; simp
      have HBW : Hid _ := hbw
      clear hx9 hr1 hr2
      go_wp2_with fail
      refine wp_region_noPanic ?_
      refine wp_region_held_drew (S := (fun u => Below w.heap.size w u)) (by kernel_rfl) (by first | exact hbw.drew | assumption) (fun hHeld => ?_)
      refine tz (i := 0) 17 rfl rfl hHeld ?_
      simp only [pS]
      refine tz (i := 1) 18 rfl rfl hHeld ?_
      simp only [pS]
      refine tz (i := 2) 19 rfl rfl hHeld ?_
      simp only [pS]
      refine tk (i := 3) 20 (v := .agg #[.int .i64 a1, .int .i64 a2]) rfl rfl ?_ hHeld ?_
      · (intro w hSw; refine exec_load (by rfl) ?_; exact hl1 w hSw)
      simp only [pS]
      refine tz (i := 4) 21 rfl rfl hHeld ?_
      simp only [pS]
      refine tz (i := 5) 22 rfl rfl hHeld ?_
      simp only [pS]
      refine tz (i := 6) 23 rfl rfl hHeld ?_
      simp only [pS]
      refine tk (i := 7) 24 (v := .agg #[.int .i64 a1, .int .i64 a2]) rfl rfl ?_ hHeld ?_
      · (intro w hSw; refine exec_load (by rfl) ?_; exact hl2 w hSw)
      simp only [pS]
      refine tz (i := 8) 25 rfl rfl hHeld ?_
      simp only [pS]
      refine wpAnyH_done (by kernel_rfl) ?_ _
      refine NoPanic.normal ?_
      go_wp2
      go_roundw
      case rel => exact ⟨k + 1, by omega, by go_num, HBW.out.drew⟩
      case measure => simp [intOf]; omega
    · have hlti : ¬ (k : Int) < (n : Int) := by omega
      go_wp2
      go_ret
      exact ⟨rfl, hbw⟩

theorem bytesRow_get (s : ByteArray) (cap i : Nat) (h : i < s.size) : (bytesRow s cap)[i]? = some (.int .u8 (s.data.toList[i]'(by simpa using h)).toNat) := by
  unfold bytesRow
  have h' : i < s.data.size := h
  rw [Array.getElem?_append_left (by simpa using h'), Array.getElem?_map, Array.getElem?_eq_getElem h']
  simp
theorem convB (u : World) (xs : List UInt8) : ∃ cp u', (convert 9 34 (.string ⟨xs.toArray⟩)).run Tryz.prog u = .ok (.slice (some ⟨u.heap.size, 0, none⟩) xs.length cp) u' ∧ Rd u' (some ⟨u.heap.size, 0, none⟩) xs ∧ Below u.heap.size u u' := by
  have h1 := run_bytes_of_string (P := Tryz.prog) u 9 34 5 ⟨xs.toArray⟩ Tryz.underlying9 Tryz.underlying34 Tryz.underlying5
  refine ⟨_, _, h1, fun _ => ⟨_, _, rfl, fun i hi => ?_⟩, (Below.refl _ _).drew.alloc (Nat.le_refl _) _⟩
  have h2 := heap_alloc_new u.drew (.cells (bytesRow ⟨xs.toArray⟩ (grownCap u (⟨xs.toArray⟩ : ByteArray).size 0 5)) 5 ((bytesRow ⟨xs.toArray⟩ (grownCap u (⟨xs.toArray⟩ : ByteArray).size 0 5)).size, (bytesRow ⟨xs.toArray⟩ (grownCap u (⟨xs.toArray⟩ : ByteArray).size 0 5)).size + 1))
  show (u.drew.alloc _).cell? ⟨u.drew.heap.size, 0 + i, none⟩ = _
  rw [Nat.zero_add, cell_of_row _ _ _ _ _ _ h2, bytesRow_get _ _ i (by show i < xs.toArray.size; simpa using hi)]
/-- the law's unit of data -/
def oneU (e s : Nat) (i c : Int) (xs : List UInt8) : Un := ⟨1, e, s, 2, i, c, xs, 0, []⟩
theorem one_t (e s : Nat) (i c : Int) (xs : List UInt8) (w : World) : Calls Tryz.prog 14 #[.int .u64 (e : Int), .int .u64 (s : Int), .int .i64 i, .int .i64 c, .string ⟨xs.toArray⟩] w fun r w' => ∃ g cp, r = .returned (unV (oneU e s i c xs) (some ⟨g, 0, none⟩) xs.length cp none 0 0) ∧ Rd w' (some ⟨g, 0, none⟩) xs ∧ w.heap.size ≤ g ∧ Below w.heap.size w w' := by
  obtain ⟨w1, hw1⟩ : ∃ w1, w1 = w.alloc (.cells #[.int .i64 0, .int .u64 0, .int .u64 0, .int .i64 0, .int .i64 0, .int .i64 0, .slice none 0 0, .int .i64 0, .slice none 0 0] tUn) := ⟨_, rfl⟩
  obtain ⟨cp, w2, hcv, hrd, hb2⟩ := convB w1 xs
  have hb1 : Below w.heap.size w w1 := by rw [hw1]; exact al (Below.refl _ _) _
  have hz1 : w1.heap.size = w.heap.size + 1 := by rw [hw1]; simp
  obtain ⟨P, hP⟩ : ∃ P, P = w.heap.size := ⟨_, rfl⟩
  have hA : w2.heap[P]? = some (.cells (unC 0 0 0 0 0 0 none 0 0 0 none 0 0) tUn (0, 0)) := (hb2.block P (by omega)).trans (by rw [hw1, hP]; exact heap_alloc_new w _)
  have hc := unCell hA
  have hf : ∀ j, w2.frozen? ⟨P, j, none⟩ = false := fun j => by simp [World.frozen?, hA]
  have f0 := hf 0
  have f1 := hf 1
  have f2 := hf 2
  have f3 := hf 3
  have f4 := hf 4
  have f5 := hf 5
  have f6 := hf 6
  have f7 := hf 7
  have f8 := hf 8
  obtain ⟨g, hg⟩ : ∃ g, g = w1.heap.size := ⟨_, rfl⟩
  rw [← hg] at hcv hrd
  have HRD : Hid (Rd w2 (some ⟨g, 0, none⟩) xs) := hrd
  have HG : Hid (g = P + 1) := by unfold Hid; omega
  have HP : Hid (P = w.heap.size) := hP
  have HB2 : Hid (Below w.heap.size w w2) := below_next hb1 hb2
  have HW1 : Hid (w1 = _) := hw1
  rw [hw1] at hcv
  obtain ⟨N, hN⟩ : ∃ N, N = xs.length := ⟨_, rfl⟩
  rw [← hN] at hcv ⊢
  rw [hP] at hc f0 f1 f2 f3 f4 f5 f6 f7 f8
  clear hrd hb1 hb2 hz1 hP hw1 hg hA hf hN
  go_enter Tryz.func14, Tryz.ntmps14
  go_wp2
  refine bodyPost_ret (v := .agg #[.int .i64 1, .int .u64 (e : Int), .int .u64 (s : Int), .int .i64 2, .int .i64 i, .int .i64 c, .slice (some ⟨g, 0, none⟩) N cp, .int .i64 0, .slice none 0 0]) (by simp [results, Tryz.results14, go_sem, hc, f0, f1, f2, f3, f4, f5, f6, f7, f8]) rfl ?_
  have hgs := ((((((((gset1 w2 w.heap.size 0 (.int .i64 1)).trans' (gset1 _ w.heap.size 1 (.int .u64 (e : Int)))).trans' (gset1 _ w.heap.size 2 (.int .u64 (s : Int)))).trans' (gset1 _ w.heap.size 3 (.int .i64 2))).trans' (gset1 _ w.heap.size 4 (.int .i64 i))).trans' (gset1 _ w.heap.size 5 (.int .i64 c))).trans' (gset1 _ w.heap.size 6 (.slice (some ⟨g, 0, none⟩) N cp))).trans' (gset1 _ w.heap.size 7 (.int .i64 0))).trans' (gset1 _ w.heap.size 8 (.slice none 0 0))
  have hgp := HG.out
  have hpw := HP.out
  exact ⟨g, cp, rfl, Rd.grown HRD.out hgs (fun a ha e9 => by cases ha; have h9 : g = w.heap.size := Option.some.inj e9; omega), by omega, HB2.out.grown hgs HB2.out.size (fun k hk => by have := Option.some.inj hk; omega)⟩
end
end Go.Proofs.YtdoikcolkbjnfaaGreat
namespace Go.Proofs.YtdoikcolkbjnfaaGreat
set_option linter.unusedVariables false
set_option linter.unusedSimpArgs false
open Go.RowKit Go.Maps
def kU1 : Un := oneU 1 1 0 2 [97, 98]
def kU2 : Un := oneU 1 1 1 2 [99]
def kI0 : Ib := newI 2 2
def kI1 : Ib := takeI kI0 kU1
def kI2 : Ib := takeI kI1 kU2
def kI3 : Ib := decI kI2 (1, 1) 1
def kI4 : Ib := takeI kI3 kU1
theorem kA1 : takeA kI0 kU1 = ⟨3, 0, some [[97, 98], []]⟩ := by kernel_rfl
theorem kA2 : takeA kI1 kU2 = ⟨4, 0, some [[97, 98], [99]]⟩ := by kernel_rfl
theorem kE3 : decE kI2 (1, 1) 1 = 0 := by kernel_rfl
theorem kA4 : takeA kI3 kU1 = ⟨5, 1, none⟩ := by kernel_rfl
theorem kE4 : kI4.ep = 1 := by kernel_rfl
theorem kG1 {rs : List Rg} {xs : List UInt8} (h : AnsR ⟨3, 0, some [[97, 98], []]⟩ rs xs) : rs = [(0, 1)] ∧ xs = [] := by
  have h1 : xs = [] ∧ GotIs rs (some [[97, 98], []]) := by
    unfold AnsR at h
    simp only at h
    rw [if_neg (by decide)] at h
    exact h
  refine ⟨GotIs.uniq h1.2 ⟨⟨by simp, by simp⟩, fun i => Iff.rfl⟩, h1.1⟩
theorem kG2 {rs : List Rg} {xs : List UInt8} (h : AnsR ⟨4, 0, some [[97, 98], [99]]⟩ rs xs) : rs = [] ∧ xs = [97, 98, 99] := by
  unfold AnsR at h
  simp only at h
  rw [if_pos (by decide)] at h
  exact h
section
set_option maxRecDepth 20000
set_option maxHeartbeats 3200000
theorem knows_t (w : World) : Calls Tryz.prog 9 #[] w fun e w' => e = .returned (.bool true) ∧ Below w.heap.size w w' := by
  have HNW : Hid (Calls Tryz.prog 11 #[.int .i64 2, .int .i64 2] w _) := new_a 2 2 (by decide) (by decide) (by decide) (by decide) w
  have HO1 : Hid (∀ u : World, Calls Tryz.prog 14 #[.int .u64 1, .int .u64 1, .int .i64 0, .int .i64 2, .string ⟨#[97, 98]⟩] u _) := fun u => one_t 1 1 0 2 [97, 98] u
  have HO2 : Hid (∀ u : World, Calls Tryz.prog 14 #[.int .u64 1, .int .u64 1, .int .i64 1, .int .i64 2, .string ⟨#[99]⟩] u _) := fun u => one_t 1 1 1 2 [99] u
  go_enter Tryz.func9, Tryz.ntmps9
  go_wp2_with fail
  refine Calls.mono HNW.out ?_
  rintro e w1 ⟨p, F, rfl, hI, hF, hb1⟩
  have HI1 : Hid (IbA w1 p 0 kI0 F) := hI
  have HF1 : Hid _ := hF
  have HB1 : Hid _ := hb1
  clear hI hF hb1
  go_wp2_with fail
  refine Calls.mono (HO1.out _) ?_
  rintro e w2 ⟨g, cp, rfl, hrd, hg, hb2⟩
  have HI2 : Hid (IbA w2 p 0 kI0 F) := HI1.out.below hb2
  have HT2 : Hid (Calls _ _ _ w2 _) := take_a HI2.out kU1 (some ⟨g, 0, none⟩) 2 cp none 0 0 rfl rfl hrd (fun _ b hb a ha e9 => by cases ha; have := HI1.out.lt b hb; simp only at e9; omega) (fun h => by cases h) (by decide)
  rw [kA1] at HT2
  have HB2 : Hid (Below w.heap.size w w2) := below_next HB1.out hb2
  clear hrd hg hb2
  go_wp2_with fail
  refine Calls.mono HT2.out ?_
  rintro e w3 ⟨F3, B3, ga, ba, gn, gc, bn, bc, rs, xs, rfl, hA3, hI3, hc3, hf3, hB3⟩
  obtain ⟨rfl, rfl⟩ := kG1 hA3.is_
  obtain ⟨ga', gc', hv1, -, -, -, hrdg, -⟩ := OwnR.val hA3.gr
  obtain ⟨rfl, rfl, rfl⟩ : ga' = ga ∧ gn = 1 ∧ gc' = gc := by simp only [Value.slice.injEq] at hv1; exact ⟨hv1.1.symm, hv1.2.1, hv1.2.2.symm⟩
  have HB3 : Hid (Below w.heap.size w w3) := HB2.out.trans (hc3.below HF1.out HB2.out.size)
  have HF3 : Hid (∀ b, F3 b → w.heap.size ≤ b) := fun b hb => ((hf3 b hb).1).elim (HF1.out b) (fun h => Nat.le_trans HB2.out.size h)
  have HI3 : Hid (IbA w3 p 1 kI1 F3) := hI3
  have HRD3 : Hid (RdR w3 ga' [(0, 1)]) := hrdg
  have HRG : Hid (Calls Tryz.prog 28 #[.slice ga' 1 gc', .slice (some ⟨w3.heap.size + 1, 0, none⟩) 1 1] ((w3.alloc (.cells #[.int .i64 3, .int .i64 0, .slice ga' 1 gc', .slice ba bn bc] 44)).alloc (.cells #[.int .i64 0, .int .i64 1] 71)) _) :=
    rangesI_t ga' (some ⟨w3.heap.size + 1, 0, none⟩) 1 1 gc' 1 [(0, 1)] [(0, 1)] _ rfl rfl ((hrdg.below (al (Below.refl _ _) _)).below (al (Below.refl _ _) _)) (by have h9 := rd_lit1 (w3.alloc (.cells #[.int .i64 3, .int .i64 0, .slice ga' 1 gc', .slice ba bn bc] 44)) (0, 1); rw [World.size_alloc] at h9; exact h9) (by decide) rfl
  clear hA3 hI3 hc3 hf3 hB3 hrdg hv1
  unfold ansV
  go_wp2_with fail
  refine Calls.mono HRG.out ?_
  rintro e w4 ⟨rfl, hb4⟩
  have HB34 : Hid (Below w3.heap.size w3 w4) := (al (al (Below.refl w3.heap.size w3) _) _).trans (hb4.mono (by simp; omega))
  have HI4 : Hid (IbA w4 p 1 kI1 F3) := HI3.out.below HB34.out
  have HB4 : Hid (Below w.heap.size w w4) := below_next HB3.out HB34.out
  clear hb4
  go_wp2_with fail
  refine Calls.mono (HO2.out _) ?_
  rintro e w5 ⟨g5, cp5, rfl, hrd, hg, hb5⟩
  have HI5 : Hid (IbA w5 p 1 kI1 F3) := HI4.out.below hb5
  have HT5 : Hid (Calls _ _ _ w5 _) := take_a HI5.out kU2 (some ⟨g5, 0, none⟩) 1 cp5 none 0 0 rfl rfl hrd (fun _ b hb a ha e9 => by cases ha; have := HI4.out.lt b hb; simp only at e9; omega) (fun h => by cases h) (by decide)
  rw [kA2] at HT5
  have HB5 : Hid (Below w.heap.size w w5) := below_next HB4.out hb5
  clear hrd hg hb5
  go_wp2_with fail
  refine Calls.mono HT5.out ?_
  rintro e w6 ⟨F6, B6, ga6, ba6, gn6, gc6, bn6, bc6, rs6, xs6, rfl, hA6, hI6, hc6, hf6, hB6⟩
  obtain ⟨rfl, rfl⟩ := kG2 hA6.is_
  obtain ⟨ba', bc', hv6, -, -, -, hrd6, -⟩ := Own.val hA6.bl
  obtain ⟨rfl, rfl, rfl⟩ : ba' = ba6 ∧ bn6 = 3 ∧ bc' = bc6 := by simp only [Value.slice.injEq] at hv6; exact ⟨hv6.1.symm, hv6.2.1, hv6.2.2.symm⟩
  have HB6 : Hid (Below w.heap.size w w6) := HB5.out.trans (hc6.below HF3.out HB5.out.size)
  have HF6 : Hid (∀ b, F6 b → w.heap.size ≤ b) := fun b hb => ((hf6 b hb).1).elim (HF3.out b) (fun h => Nat.le_trans HB5.out.size h)
  have HI6 : Hid (IbA w6 p 2 kI2 F6) := hI6
  have hcv : (convert 34 9 (.slice ba' 3 bc')).run Tryz.prog (w6.alloc (.cells #[.int .i64 4, .int .i64 0, .slice ga6 gn6 gc6, .slice ba' 3 bc'] 44)) = .ok (.string ⟨#[97, 98, 99]⟩) _ := conv_rd' (Rd.below hrd6 (al (Below.refl _ _) _)) 3 bc' rfl
  have HDC : Hid (Calls Tryz.prog 29 #[.pointer (some ⟨p, 0, none⟩), .agg #[.int .u64 1, .int .u64 1], .int .i64 1] (w6.alloc (.cells #[.int .i64 4, .int .i64 0, .slice ga6 gn6 gc6, .slice ba' 3 bc'] 44)) _) := dec_a (hI6.below (al (Below.refl _ _) _)) (1, 1) 1 (by decide)
  rw [show decE (takeI kI1 kU2) (1, 1) 1 = 0 from kE3] at HDC
  clear hA6 hI6 hc6 hf6 hB6 hrd6 hv6
  unfold ansV
  go_wp2_with fail
  refine Calls.mono HDC.out ?_
  rintro e w7 ⟨rfl, F7, hI7, hc7, hf7⟩
  have HB66 : Hid (Below w.heap.size w (w6.alloc (.cells #[.int .i64 4, .int .i64 0, .slice ga6 gn6 gc6, .slice ba' 3 bc'] 44))) := al HB6.out _
  have HB7 : Hid (Below w.heap.size w w7) := HB66.out.trans (hc7.below HF6.out HB66.out.size)
  have HF7 : Hid (∀ b, F7 b → w.heap.size ≤ b) := fun b hb => (hf7 b hb).elim (HF6.out b) (fun h => Nat.le_trans HB66.out.size h)
  have HI7 : Hid (IbA w7 p 3 kI3 F7) := hI7
  clear hI7 hc7 hf7
  go_wp2_with fail
  refine Calls.mono (HO1.out _) ?_
  rintro e w8 ⟨g8, cp8, rfl, hrd, hg, hb8⟩
  have HI8 : Hid (IbA w8 p 3 kI3 F7) := HI7.out.below hb8
  have HT8 : Hid (Calls _ _ _ w8 _) := take_a HI8.out kU1 (some ⟨g8, 0, none⟩) 2 cp8 none 0 0 rfl rfl hrd (fun _ b hb a ha e9 => by cases ha; have := HI7.out.lt b hb; simp only at e9; omega) (fun h => by cases h) (by decide)
  rw [kA4] at HT8
  have HB8 : Hid (Below w.heap.size w w8) := below_next HB7.out hb8
  clear hrd hg hb8
  go_wp2_with fail
  refine Calls.mono HT8.out ?_
  rintro e w9 ⟨F9, B9, ga9, ba9, gn9, gc9, bn9, bc9, rs9, xs9, rfl, hA9, hI9, hc9, hf9, hB9⟩
  have HB9 : Hid (Below w.heap.size w w9) := HB8.out.trans (hc9.below HF7.out HB8.out.size)
  have HEP : Hid (Calls Tryz.prog 30 #[.pointer (some ⟨p, 0, none⟩)] (w9.alloc (.cells #[.int .i64 5, .int .i64 1, .slice ga9 gn9 gc9, .slice ba9 bn9 bc9] 44)) _) := epoch_a (hI9.below (al (Below.refl _ _) _))
  rw [show (takeI kI3 kU1).ep = 1 from kE4] at HEP
  clear hA9 hI9 hc9 hf9 hB9
  unfold ansV
  go_wp2_with fail
  refine Calls.mono HEP.out ?_
  rintro e w10 ⟨rfl, hq⟩
  have hq := hq.symm
  subst hq
  go_wp2
  go_ret
  exact ⟨rfl, al HB9.out _⟩
end
end Go.Proofs.YtdoikcolkbjnfaaGreat
