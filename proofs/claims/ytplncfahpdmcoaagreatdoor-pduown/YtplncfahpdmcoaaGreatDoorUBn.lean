import Derived.Test.YtplncfahpdmcoaaGreatDoorTurnO
import Derived.Test.YtplncfahpdmcoaaGreatDoorUF
import Derived.Test.YtplncfahpdmcoaaGreatDoorOne
import Derived.Test.YtplncfahpdmcoaaGreatDoorOverQ
import Derived.Test.YtplncfahpdmcoaaGreatDoorUGs
namespace Go.Proofs.YtplncfahpdmcoaaGreatDoor
set_option linter.unusedVariables false
set_option linter.unusedSimpArgs false
open Go.RowKit
theorem rNum_dgm (n m : Nat) (h : n ≤ m) (h2 : n < 18446744073709551616) (ys : List UInt8) : rNum m (dg n ++ ys) 0 = (n, (dg n).length, 0) := by
  have e := numS_dg n h2 ys
  rw [rNum_ok (by rw [e]) (by rw [e]; exact h), e]
theorem rNum_zero {m : Nat} {ys : List UInt8} {f : Int} (h : (rNum m ys f).2.2 = 0) : f = 0 ∧ (numS ys).2.2 = 0 ∧ (numS ys).1 ≤ m := by
  by_cases hf : f = 0
  · subst hf
    by_cases he : (numS ys).2.2 = 0
    · by_cases hm : (numS ys).1 ≤ m
      · exact ⟨rfl, he, hm⟩
      · rw [rNum_big he hm] at h; cases h
    · rw [rNum_bad he] at h; simp at h; exact absurd h he
  · rw [rNum_f hf] at h; exact absurd h hf
theorem nmS_dg (n m : Nat) (h : n ≤ m) (h2 : n < 18446744073709551616) (ys : List UInt8) : nmS m (dg n ++ ys, 0) = (n, ys, 0) := by
  unfold nmS
  simp only
  rw [rNum_dgm n m h h2 ys]
  simp only
  rw [List.drop_left' rfl]
theorem nmU_dg (n : Nat) (h : n ≤ 281474976710655) (ys : List UInt8) : nmS mxU (dg n ++ ys, 0) = (n, ys, 0) := nmS_dg n mxU h (by omega) ys
theorem ahS_dgm (n m : Nat) (h : n ≤ m) (h2 : n < 18446744073709551616) (ys : List UInt8) : ahS m (dg n ++ ys) = (n, (dg n).length, 0) := by
  unfold ahS
  rw [numS_dg n h2 ys]
  rw [if_neg (by simp only; omega)]
theorem byS_dg (m : Nat) (b ys : List UInt8) (h : b.length ≤ m) (h2 : b.length < 18446744073709551616) : byS (m : Int) (dg b.length ++ (b ++ ys), 0) = (b, ys, 0) := by
  have e : rBytes (m : Int) (dg b.length ++ (b ++ ys)) 0 = (b, (dg b.length).length + b.length, 0) := by
    unfold rBytes
    rw [if_pos rfl, if_neg (by omega), Int.toNat_natCast, ahS_dgm _ _ h h2]
    simp only [if_true]
    rw [if_neg (by simp only [List.length_append]; omega), List.drop_left' rfl, List.take_left' rfl]
  unfold byS
  simp only
  rw [e]
  simp only
  rw [← List.append_assoc, List.drop_left' (by rw [List.length_append])]
theorem nmS_inv {m n : Nat} {ys y : List UInt8} {f : Int} (h : nmS m (ys, f) = (n, y, 0)) : f = 0 ∧ ys = dg n ++ y ∧ n ≤ m := by
  have hle := nmS_le h
  unfold nmS at h
  simp only [Prod.mk.injEq] at h
  obtain ⟨h1, h2, h3⟩ := h
  obtain ⟨rfl, he, hm⟩ := rNum_zero h3
  rw [rNum_ok he hm] at h1 h2
  simp only at h1 h2
  have hn : numS ys = ((numS ys).1, (numS ys).2.1, 0) := by rw [← he]
  obtain ⟨-, -, ht⟩ := numS_one ys _ _ hn
  refine ⟨rfl, ?_, hle⟩
  rw [← h2, ← h1, ← ht, List.take_append_drop]
theorem byS_inv {m : Int} {ys d y : List UInt8} {f : Int} (h : byS m (ys, f) = (d, y, 0)) : f = 0 ∧ ys = dg d.length ++ (d ++ y) ∧ d.length ≤ m.toNat := by
  have hle := byS_le h
  unfold byS at h
  simp only [Prod.mk.injEq] at h
  obtain ⟨h1, h2, h3⟩ := h
  have hf : f = 0 := by
    by_cases hf : f = 0
    · exact hf
    · exfalso
      unfold rBytes at h3
      rw [if_neg hf] at h3
      exact hf h3
  have hn : rBytes m ys f = (d, (rBytes m ys f).2.1, 0) := by rw [← h1, ← h3]
  obtain ⟨k1, -, -⟩ := rBytes_ok m ys f _ _ hn
  refine ⟨hf, ?_, hle⟩
  rw [← h2, ← List.append_assoc, k1, List.take_append_drop]
theorem mustF_inv {r : Bool} {f : Int} (h : mustF r f = 0) : r = true ∧ f = 0 := by
  cases r with
  | false => exact absurd h (mustF_bad rfl)
  | true => unfold mustF at h; rw [if_pos rfl] at h; exact ⟨rfl, h⟩
theorem mustF_t (f : Int) : mustF true f = f := by unfold mustF; rw [if_pos rfl]
theorem mustF_p {p : Prop} [Decidable p] (h : p) (f : Int) : mustF (decide p) f = f := by rw [decide_eq_true h]; exact mustF_t f
/-- the text of a unit -/
def encT (u : Un) : List UInt8 :=
  if u.kind = 1 then dgs [1, u.ep.toNat, u.se.toNat] ++ dgs [u.path.toNat, u.idx.toNat, u.cnt.toNat] ++ (dg u.data.length ++ u.data)
  else if u.kind = 2 then repX (dgs [2, u.ep.toNat, u.se.toNat]) u.code.toNat u.got.length u.got
  else dgs [3, u.ep.toNat, u.se.toNat]
def validV (u : Un) : Prop := validR u.kind u.ep u.se u.path u.idx u.cnt u.data.length u.code u.got.length u.got
theorem freeR_end (l : List Rg) : endR l ≤ freeR l := by
  unfold endR freeR
  split <;> rename_i h <;> simp only [h]
  · exact Int.le_refl _
  · omega
theorem rgsS_enc : ∀ (r l : List Rg) (ys : List UInt8), gotOk (l ++ r) → rgsS r.length l (gotBF (endR l) r ++ ys, 0) = (l ++ r, ys, 0)
  | [], l, ys, _ => by simp [rgsS, gotBF]
  | x :: r, l, ys, h => by
    have h0 : gotOk ((l ++ [x]) ++ r) := by rw [List.append_assoc]; exact h
    obtain ⟨hl, h1, h2, h3⟩ := (gotOk_snoc l x).1 (gotOk_pre h0)
    have h4 := gotOk_end hl
    have h5 := freeR_end l
    have hr : rangeS l (gotBF (endR l) (x :: r) ++ ys, 0) = (x, gotBF x.2 r ++ ys, 0) := by
      have e : gotBF (endR l) (x :: r) ++ ys = dg (x.1 - endR l).toNat ++ (dg (x.2 - x.1).toNat ++ (gotBF x.2 r ++ ys)) := by simp [gotBF, dgs]
      unfold rangeS
      rw [e, nmU_dg _ (by omega)]
      simp only
      rw [nmU_dg _ (by omega)]
      simp only
      have ex : (endR l + ((x.1 - endR l).toNat : Nat), endR l + ((x.1 - endR l).toNat : Nat) + ((x.2 - x.1).toNat : Nat)) = x := by
        apply Prod.ext <;> simp only <;> omega
      rw [if_pos (by omega), ex]
    rw [List.length_cons, rgsS_step _ _ _ rfl, hr]
    simp only
    have ih := rgsS_enc r (l ++ [x]) ys h0
    rw [endR_snoc, List.append_assoc] at ih
    exact ih
theorem rgsS_inv : ∀ (n : Nat) (l L : List Rg) (ys y : List UInt8) (f : Int), rgsS n l (ys, f) = (L, y, 0) → f = 0 ∧ ∃ r, L = l ++ r ∧ r.length = n ∧ ys = gotBF (endR l) r ++ y ∧ (gotOk l → gotOk L)
  | 0, l, L, ys, y, f, h => by
    unfold rgsS at h
    simp only [Prod.mk.injEq] at h
    obtain ⟨rfl, rfl, rfl⟩ := h
    exact ⟨rfl, [], by simp, rfl, by simp [gotBF], id⟩
  | n + 1, l, L, ys, y, f, h => by
    by_cases hf : f = 0
    · subst hf
      rw [rgsS_step _ _ _ rfl] at h
      obtain ⟨x, y2, f2, e2⟩ : ∃ x y2 f2, rangeS l (ys, 0) = (x, y2, f2) := ⟨_, _, _, rfl⟩
      rw [e2] at h
      simp only at h
      obtain ⟨rfl, r, rfl, hn, hy, hg⟩ := rgsS_inv n (l ++ [x]) L y2 y f2 h
      have hok : gotOk l → gotOk (l ++ [x]) := fun hl => by
        have h9 := rangeS_ok (l := l) (s := (ys, 0)) hl (by rw [e2])
        rw [e2] at h9
        exact h9
      obtain ⟨n1, y1, g1, e1⟩ : ∃ n y g, nmS mxU (ys, 0) = (n, y, g) := ⟨_, _, _, rfl⟩
      obtain ⟨n2, z2, g2, e3⟩ : ∃ n y g, nmS mxU (y1, g1) = (n, y, g) := ⟨_, _, _, rfl⟩
      unfold rangeS at e2
      rw [e1] at e2
      simp only at e2
      rw [e3] at e2
      simp only [Prod.mk.injEq] at e2
      obtain ⟨hx, rfl, hm⟩ := e2
      have hg2 : g2 = 0 := by
        split at hm
        · exact hm
        · exact absurd hm (mustF_bad rfl)
      subst hg2
      obtain ⟨rfl, q1, -⟩ := nmS_inv e3
      obtain ⟨-, q2, -⟩ := nmS_inv e1
      refine ⟨rfl, x :: r, by simp, by simp [hn], ?_, fun hl => hg (hok hl)⟩
      have ex1 : (x.1 - endR l).toNat = n1 := by rw [← hx]; simp only; omega
      have ex2 : (x.2 - x.1).toNat = n2 := by rw [← hx]; simp only; omega
      have hs := endR_snoc l x
      rw [hs] at hy
      rw [q2, q1, hy]
      simp [gotBF, dgs, ex1, ex2]
    · rw [rgsS_bad _ _ _ hf] at h
      simp only [Prod.mk.injEq] at h
      exact absurd h.2.2 hf
theorem gotF_32 : ∀ (l : List Rg) (f : Int), gotF f l → l = [] ∨ f + 2 * (l.length : Int) ≤ 65
  | [], _, _ => .inl rfl
  | x :: l, f, h => by
    have h1 := h.1
    right
    rcases gotF_32 l (x.2 + 1) h.2 with h2 | h2
    · subst h2; simp; omega
    · simp only [List.length_cons]; omega
theorem gotOk_32 {l : List Rg} (h : gotOk l) : l.length ≤ 32 := by
  rcases gotF_32 l 0 h with h1 | h1
  · subst h1; simp
  · omega
theorem toN {z : Int} (h : 0 ≤ z) : ((z.toNat : Nat) : Int) = z := by omega
/-- what was laid is read -/
theorem readU_enc (u : Un) (h : validV u) : readU (encT u, 0) = (u, [], 0) := by
  obtain ⟨k, e, s, p, i, c, d, cd, g⟩ := u
  obtain ⟨⟨he, hs⟩, h⟩ := h
  simp only at he hs h
  unfold nameOk at he hs
  have q1 : nmB e.toNat = true := by unfold nmB; rw [decide_eq_true_iff]; omega
  have q2 : nmB s.toNat = true := by unfold nmB; rw [decide_eq_true_iff]; omega
  have z1 : ((e.toNat : Nat) : Int) = e := toN (by omega)
  have z2 : ((s.toNat : Nat) : Int) = s := toN (by omega)
  have front : ∀ (K : Nat) (ys : List UInt8), kdB K = true → K ≤ 3 → readU (dgs [K, e.toNat, s.toNat] ++ ys, 0) = if K = 1 then dataS e.toNat s.toNat (ys, 0) else if K = 2 then repS e.toNat s.toNat (ys, 0) else (⟨(K : Nat), e, s, 0, 0, 0, [], 0, []⟩, ys, 0) := by
    intro K ys hK hK3
    have e0 : dgs [K, e.toNat, s.toNat] ++ ys = dg K ++ (dg e.toNat ++ (dg s.toNat ++ ys)) := by simp [dgs]
    unfold readU
    rw [e0, nmU_dg _ (by omega)]
    simp only
    rw [hK, mustF_t, nmU_dg _ (by omega)]
    simp only
    rw [q1, mustF_t, nmU_dg _ (by omega)]
    simp only
    rw [q2, mustF_t, if_pos rfl, z1, z2]
  rcases h with ⟨rfl, hp, hi, hc, hd, rfl, hg⟩ | ⟨rfl, ⟨rfl, rfl, rfl, hd⟩, hcd, hg, hz⟩ | ⟨rfl, ⟨rfl, rfl, rfl, hd⟩, rfl, hg⟩
  · have hg0 : g = [] := List.eq_nil_of_length_eq_zero hg
    subst hg0
    unfold encT
    simp only [if_true]
    rw [List.append_assoc, front 1 _ rfl (by omega), if_pos rfl]
    have e0 : dgs [p.toNat, i.toNat, c.toNat] ++ (dg d.length ++ d) = dg p.toNat ++ (dg i.toNat ++ (dg c.toNat ++ (dg d.length ++ (d ++ [])))) := by simp [dgs]
    unfold dataS
    rw [e0, nmU_dg _ (by omega)]
    simp only
    rw [mustF_p (by omega), nmU_dg _ (by omega)]
    simp only
    rw [mustF_p (by omega), nmU_dg _ (by omega)]
    simp only
    rw [mustF_p (by omega), show byS 1024 (dg d.length ++ (d ++ []), 0) = (d, [], 0) from byS_dg 1024 d [] hd.2 (by omega)]
    simp only
    rw [mustF_p (by omega), z1, z2, toN (show 0 ≤ p by omega), toN (show 0 ≤ i by omega), toN (show 0 ≤ c by omega)]
  · have hd0 : d = [] := List.eq_nil_of_length_eq_zero hd
    subst hd0
    unfold encT
    simp only [show ¬ ((2 : Int) = 1) by decide, if_false, if_true]
    unfold repX
    by_cases h0 : cd = 0
    · subst h0
      rw [show (0 : Int).toNat = 0 from rfl, if_pos rfl, List.append_assoc, List.append_assoc, front 2 _ rfl (by omega), if_neg (by decide), if_pos rfl]
      have hc32 : g.length ≤ 32 := gotOk_32 hg
      have e0 : dgs [0] ++ (dgs [g.length] ++ gotB g) = dg 0 ++ (dg g.length ++ (gotBF (endR []) g ++ [])) := by simp [dgs, gotB, endR_nil]
      unfold repS
      rw [e0, nmU_dg _ (by omega)]
      simp only
      rw [mustF_p (by omega), if_pos trivial, nmU_dg _ (by omega)]
      simp only
      rw [mustF_p hc32, rgsS_enc g [] [] (by simpa using hg)]
      simp only
      rw [z1, z2]
      simp
    · have hg0 : g = [] := by
        rcases hz with h1 | h1
        · exact absurd h1 h0
        · exact List.eq_nil_of_length_eq_zero h1
      subst hg0
      rw [if_neg (by omega), front 2 _ rfl (by omega), if_neg (by decide), if_pos rfl]
      have e0 : dgs [cd.toNat] = dg cd.toNat ++ [] := by simp [dgs]
      unfold repS
      rw [e0, nmU_dg _ (by omega)]
      simp only
      rw [mustF_p (by omega), if_neg (by omega), z1, z2, toN (show 0 ≤ cd by omega)]
  · have hd0 : d = [] := List.eq_nil_of_length_eq_zero hd
    have hg0 : g = [] := List.eq_nil_of_length_eq_zero hg
    subst hd0 hg0
    unfold encT
    simp only [show ¬ ((3 : Int) = 1) by decide, show ¬ ((3 : Int) = 2) by decide, if_false]
    have h9 := front 3 [] rfl (by omega)
    rw [List.append_nil] at h9
    rw [h9, if_neg (by decide), if_neg (by decide)]
    rfl
/-- what is read was laid so -/
theorem readU_inv {x y : List UInt8} {u : Un} (h : readU (x, 0) = (u, y, 0)) : validV u ∧ x = encT u ++ y := by
  obtain ⟨n1, y1, f1, e1⟩ : ∃ n y g, nmS mxU (x, 0) = (n, y, g) := ⟨_, _, _, rfl⟩
  obtain ⟨n2, y2, f2, e2⟩ : ∃ n y g, nmS mxU (y1, mustF (kdB n1) f1) = (n, y, g) := ⟨_, _, _, rfl⟩
  obtain ⟨n3, y3, f3, e3⟩ : ∃ n y g, nmS mxU (y2, mustF (nmB n2) f2) = (n, y, g) := ⟨_, _, _, rfl⟩
  unfold readU at h
  simp only [e1, e2, e3] at h
  by_cases hf : mustF (nmB n3) f3 = 0
  · rw [if_pos hf, hf] at h
    obtain ⟨b3, rfl⟩ := mustF_inv hf
    obtain ⟨g2, rfl, -⟩ := nmS_inv e3
    obtain ⟨b2, rfl⟩ := mustF_inv g2
    obtain ⟨g1, rfl, -⟩ := nmS_inv e2
    obtain ⟨b1, rfl⟩ := mustF_inv g1
    obtain ⟨-, rfl, -⟩ := nmS_inv e1
    have k3 := (nmB_iff n3).1 b3
    have k2 := (nmB_iff n2).1 b2
    have k1 : n1 = 1 ∨ n1 = 2 ∨ n1 = 3 := by unfold kdB at b1; exact decide_eq_true_iff.1 b1
    rcases k1 with rfl | rfl | rfl
    · rw [if_pos rfl] at h
      obtain ⟨m1, v1, t1, E1⟩ : ∃ n y g, nmS mxU (y3, 0) = (n, y, g) := ⟨_, _, _, rfl⟩
      obtain ⟨m2, v2, t2, E2⟩ : ∃ n y g, nmS mxU (v1, mustF (decide ((m1 : Int) = 1 ∨ (m1 : Int) = 2)) t1) = (n, y, g) := ⟨_, _, _, rfl⟩
      obtain ⟨m3, v3, t3, E3⟩ : ∃ n y g, nmS mxU (v2, mustF (decide (0 ≤ (m2 : Int) ∧ (m2 : Int) < 64)) t2) = (n, y, g) := ⟨_, _, _, rfl⟩
      obtain ⟨d, v4, t4, E4⟩ : ∃ n y g, byS 1024 (v3, mustF (decide ((m2 : Int) < (m3 : Int) ∧ (m3 : Int) ≤ 64)) t3) = (n, y, g) := ⟨_, _, _, rfl⟩
      unfold dataS at h
      simp only [E1, E2, E3, E4, Prod.mk.injEq] at h
      obtain ⟨rfl, rfl, h4⟩ := h
      obtain ⟨c4, rfl⟩ := mustF_inv h4
      obtain ⟨j3, rfl, -⟩ := byS_inv E4
      obtain ⟨c3, rfl⟩ := mustF_inv j3
      obtain ⟨j2, rfl, -⟩ := nmS_inv E3
      obtain ⟨c2, rfl⟩ := mustF_inv j2
      obtain ⟨j1, rfl, -⟩ := nmS_inv E2
      obtain ⟨c1, rfl⟩ := mustF_inv j1
      obtain ⟨-, rfl, -⟩ := nmS_inv E1
      refine ⟨⟨⟨k2, k3⟩, .inl ⟨rfl, decide_eq_true_iff.1 c1, decide_eq_true_iff.1 c2, decide_eq_true_iff.1 c3, decide_eq_true_iff.1 c4, rfl, rfl⟩⟩, ?_⟩
      unfold encT
      simp [dgs]
    · rw [if_neg (by decide), if_pos rfl] at h
      obtain ⟨m1, v1, t1, E1⟩ : ∃ n y g, nmS mxU (y3, 0) = (n, y, g) := ⟨_, _, _, rfl⟩
      unfold repS at h
      simp only [E1] at h
      by_cases hm : m1 = 0
      · subst hm
        rw [if_pos rfl] at h
        obtain ⟨m2, v2, t2, E2⟩ : ∃ n y g, nmS mxU (v1, mustF (decide (0 ≤ ((0 : Nat) : Int) ∧ ((0 : Nat) : Int) ≤ 7)) t1) = (n, y, g) := ⟨_, _, _, rfl⟩
        obtain ⟨L, v3, t3, E3⟩ : ∃ n y g, rgsS m2 [] (v2, mustF (decide (m2 ≤ 32)) t2) = (n, y, g) := ⟨_, _, _, rfl⟩
        simp only [E2, E3, Prod.mk.injEq] at h
        obtain ⟨rfl, rfl, rfl⟩ := h
        obtain ⟨j2, r, rfl, hr, rfl, hg⟩ := rgsS_inv _ _ _ _ _ _ E3
        obtain ⟨c2, rfl⟩ := mustF_inv j2
        obtain ⟨j1, rfl, -⟩ := nmS_inv E2
        obtain ⟨c1, rfl⟩ := mustF_inv j1
        obtain ⟨-, rfl, -⟩ := nmS_inv E1
        refine ⟨⟨⟨k2, k3⟩, .inr (.inl ⟨rfl, ⟨rfl, rfl, rfl, rfl⟩, by simp, hg trivial, .inl rfl⟩)⟩, ?_⟩
        unfold encT repX
        simp [dgs, gotB, endR_nil, hr]
      · rw [if_neg hm] at h
        simp only [Prod.mk.injEq] at h
        obtain ⟨rfl, rfl, h4⟩ := h
        obtain ⟨c1, rfl⟩ := mustF_inv h4
        obtain ⟨-, rfl, -⟩ := nmS_inv E1
        refine ⟨⟨⟨k2, k3⟩, .inr (.inl ⟨rfl, ⟨rfl, rfl, rfl, rfl⟩, decide_eq_true_iff.1 c1, trivial, .inr rfl⟩)⟩, ?_⟩
        unfold encT repX
        simp [dgs, hm]
    · rw [if_neg (by decide), if_neg (by decide)] at h
      simp only [Prod.mk.injEq] at h
      obtain ⟨rfl, rfl, -⟩ := h
      refine ⟨⟨⟨k2, k3⟩, .inr (.inr ⟨rfl, ⟨rfl, rfl, rfl, rfl⟩, rfl, rfl⟩)⟩, ?_⟩
      unfold encT
      simp [dgs]
  · rw [if_neg hf] at h
    simp only [Prod.mk.injEq] at h
    exact absurd h.2.2 hf
theorem decU_enc (u : Un) (h : validV u) : decU (encT u ++ sealL (encT u)) = (u, 0) := by
  unfold decU
  rw [unS_seal]
  simp only [readU_enc u h]
  simp [rEnd]
theorem decU_inv {x : List UInt8} {u : Un} (h : decU (x ++ sealL x) = (u, 0)) : validV u ∧ x = encT u := by
  unfold decU at h
  rw [unS_seal] at h
  obtain ⟨v, y, f, hr⟩ : ∃ v y f, readU (x, 0) = (v, y, f) := ⟨_, _, _, rfl⟩
  simp only [hr, if_true] at h
  by_cases he : rEnd y f = 0
  · rw [if_pos he] at h
    simp only [Prod.mk.injEq] at h
    obtain ⟨rfl, -⟩ := h
    unfold rEnd at he
    by_cases hf : f = 0
    · subst hf
      rw [if_pos rfl] at he
      have hy : y = [] := by
        cases y with
        | nil => rfl
        | cons a y => simp at he
      subst hy
      have h9 := readU_inv hr
      rw [List.append_nil] at h9
      exact h9
    · rw [if_neg hf] at he
      exact absurd he hf
  · rw [if_neg he] at h
    simp only [Prod.mk.injEq] at h
    exact absurd h.2 he
/-- a burst that touches it is told -/
theorem decU_burst (x : List UInt8) (at_ : Int) (mask : Nat) (ht : tch at_ mask (x ++ sealL x).length) : decU (bst at_ mask (x ++ sealL x) 32) = (zeroU, 13) := by
  unfold decU
  rw [burst_told x at_ mask ht]
  rfl
end Go.Proofs.YtplncfahpdmcoaaGreatDoor
namespace Go.Proofs.YtplncfahpdmcoaaGreatDoor
set_option linter.unusedVariables false
set_option linter.unusedSimpArgs false
open Go.RowKit
/-- Encode of a unit that is one -/
theorem encV (k e s p i c : Int) (da : Option Addr) (dn dc : Nat) (cd : Int) (ga : Option Addr) (gn gc : Nat) (ds : List UInt8) (l : List Rg) (hdn : dn = ds.length) (hgn : gn = l.length) (hv : validV ⟨k, e, s, p, i, c, ds, cd, l⟩) (w : World) (hd : Rd w da ds) (hdnil : da = none → dc = 0) (hx : RdR w ga l) (hl : gn ≤ 8796093022208) (hc : gn ≤ gc) (ht : TabOk w) :
    Calls Tryz.prog 6 #[.agg #[.int .i64 k, .int .u64 e, .int .u64 s, .int .i64 p, .int .i64 i, .int .i64 c, .slice da dn dc, .int .i64 cd, .slice ga gn gc]] w fun er w' => EncOwn (encT ⟨k, e, s, p, i, c, ds, cd, l⟩) w er w' := by
  have hv' : validR k e s p i c dn cd gn l := by rw [hdn, hgn]; exact hv
  have hv2 := hv'
  obtain ⟨⟨hE, hS⟩, hk⟩ := hv2
  unfold nameOk at hE hS
  obtain ⟨E, rfl⟩ : ∃ E : Nat, e = (E : Int) := ⟨e.toNat, by omega⟩
  obtain ⟨S, rfl⟩ : ∃ S : Nat, s = (S : Int) := ⟨s.toNat, by omega⟩
  rcases hk with ⟨rfl, h⟩ | ⟨rfl, h⟩ | ⟨rfl, h⟩
  · obtain ⟨C, rfl⟩ : ∃ C : Nat, c = (C : Int) := ⟨c.toNat, by omega⟩
    obtain ⟨I, rfl⟩ : ∃ I : Nat, i = (I : Int) := ⟨i.toNat, by omega⟩
    obtain ⟨Q, rfl⟩ : ∃ Q : Nat, p = (Q : Int) := ⟨p.toNat, by omega⟩
    have h9 := enc_1 E S Q I C da dn dc ds cd ga gn gc l w hv' hdn hd hdnil hgn hx hl hc ht
    have e9 : encT ⟨1, (E : Int), (S : Int), (Q : Int), (I : Int), (C : Int), ds, cd, l⟩ = dgs [1, E, S] ++ dgs [Q, I, C] ++ (dg ds.length ++ ds) := by unfold encT; simp
    rw [e9]
    exact h9
  · obtain ⟨CD, rfl⟩ : ∃ CD : Nat, cd = (CD : Int) := ⟨cd.toNat, by omega⟩
    have h9 := enc_2 E S p i c da dn dc CD ga gn gc l w hv' hgn hx hl hc ht
    have e9 : encT ⟨2, (E : Int), (S : Int), p, i, c, ds, (CD : Int), l⟩ = repX (dgs [2, E, S]) CD gn l := by unfold encT; rw [hgn]; simp
    rw [e9]
    exact h9
  · have h9 := enc_3 E S p i c da dn dc cd ga gn gc l w hv' hgn hx hl hc ht
    have e9 : encT ⟨3, (E : Int), (S : Int), p, i, c, ds, cd, l⟩ = dgs [3, E, S] := by unfold encT; simp
    rw [e9]
    exact h9
theorem encX (k e s p i c : Int) (da : Option Addr) (dn dc : Nat) (cd : Int) (ga : Option Addr) (gn gc : Nat) (ds : List UInt8) (l : List Rg) (hdn : dn = ds.length) (hgn : gn = l.length) (hv : ¬ validV ⟨k, e, s, p, i, c, ds, cd, l⟩) (w : World) (hx : RdR w ga l) (hl : gn ≤ 8796093022208) (hc : gn ≤ gc) :
    Calls Tryz.prog 6 #[.agg #[.int .i64 k, .int .u64 e, .int .u64 s, .int .i64 p, .int .i64 i, .int .i64 c, .slice da dn dc, .int .i64 cd, .slice ga gn gc]] w fun er w' => er = .returned (.tuple #[.slice none 0 0, .int .i64 30]) ∧ Below w.heap.size w w' :=
  enc_bad k e s p i c da dn dc cd ga gn gc l (by rw [hdn, hgn]; exact hv) w hgn hx hl hc
theorem valV (k e s p i c : Int) (da : Option Addr) (dn dc : Nat) (cd : Int) (ga : Option Addr) (gn gc : Nat) (ds : List UInt8) (l : List Rg) (hdn : dn = ds.length) (hgn : gn = l.length) (v : Bool) (hv : v = true ↔ validV ⟨k, e, s, p, i, c, ds, cd, l⟩) (w : World) (hx : RdR w ga l) (hl : gn ≤ 8796093022208) (hc : gn ≤ gc) :
    Calls Tryz.prog 23 #[.agg #[.int .i64 k, .int .u64 e, .int .u64 s, .int .i64 p, .int .i64 i, .int .i64 c, .slice da dn dc, .int .i64 cd, .slice ga gn gc]] w fun er w' => er = .returned (.int .i64 (if v = true then 0 else 30)) ∧ Below w.heap.size w w' :=
  (valid_t k e s p i c da dn dc cd ga gn gc l v (by rw [hdn, hgn]; exact hv) w hgn hx hl hc).mono fun _ _ h => by cases v <;> exact h
theorem rvalV (k e s p i c : Int) (da : Option Addr) (dn dc : Nat) (cd : Int) (ga : Option Addr) (gn gc : Nat) (ds : List UInt8) (l : List Rg) (hdn : dn = ds.length) (hgn : gn = l.length) (v : Bool) (hv : v = true ↔ validV ⟨k, e, s, p, i, c, ds, cd, l⟩) (w : World) (hx : RdR w ga l) (hl : gn ≤ 8796093022208) :
    Calls Tryz.prog 4 #[.agg #[.int .i64 k, .int .u64 e, .int .u64 s, .int .i64 p, .int .i64 i, .int .i64 c, .slice da dn dc, .int .i64 cd, .slice ga gn gc]] w fun er w' => er = .returned (.int .i64 (if v = true then 0 else 30)) ∧ Below w.heap.size w w' :=
  (rvalid_t k e s p i c da dn dc cd ga gn gc l v (by rw [hdn, hgn]; exact hv) w hgn hx hl).mono fun _ _ h => by cases v <;> exact h
/-- what a slice of one's own gives -/
theorem Own.four {w : World} {B n c : Nat} {a : Option Addr} {xs : List UInt8} (h : Own w B (.slice a n c) xs) : n = xs.length ∧ n ≤ c ∧ c ≤ 9223372036854775807 ∧ (a = none → c = 0) ∧ Rd w a xs := by
  obtain ⟨a9, c9, hv9, h1, h2, h3, h4, -⟩ := h.val
  simp only [Value.slice.injEq] at hv9
  obtain ⟨rfl, rfl, rfl⟩ := hv9
  exact ⟨rfl, h1, Nat.le_trans h2 (by decide), h3, h4⟩
/-- Decode, by what it comes to; the unit in letters -/
theorem decV (ao : Option Addr) (n cap : Nat) (xs : List UInt8) (hn : n = xs.length) (w : World) (hx : Rd w ao xs) (hlc : n ≤ cap) (hcm : cap ≤ 9223372036854775807) (hl : n ≤ 140737488355328) (ht : TabOk w) (k e s p i c : Int) (ds : List UInt8) (cd : Int) (l : List Rg) (r : Int) (dn gn : Nat) (hdn : dn = ds.length) (hgn : gn = l.length) (hd : decU xs = (⟨k, e, s, p, i, c, ds, cd, l⟩, r)) :
    Calls Tryz.prog 7 #[.slice ao n cap] w fun er w' => ∃ da dc ga gc, er = .returned (.tuple #[.agg #[.int .i64 k, .int .u64 e, .int .u64 s, .int .i64 p, .int .i64 i, .int .i64 c, .slice da dn dc, .int .i64 cd, .slice ga gn gc], .int .i64 r]) ∧ Own w' w.heap.size (.slice da dn dc) ds ∧ OwnR w' w.heap.size (.slice ga gn gc) l ∧ Below w.heap.size w w' := by
  subst hdn hgn
  refine (decode_t ao n cap xs hn w hx hlc hcm hl ht).mono ?_
  rw [hd]
  rintro er w' ⟨da, dc, ga, gc, h1, h2, h3, h4⟩
  exact ⟨da, dc, ga, gc, h1, h2, h3, h4⟩
theorem two_newU (w : World) (o1 o2 : Obj) : ((w.alloc o1).alloc o2).heap[w.heap.size]? = some o1 ∧ ((w.alloc o1).alloc o2).heap[w.heap.size + 1]? = some o2 :=
  ⟨((al (Below.refl _ _) _).block w.heap.size (by simp)).trans (heap_alloc_new w o1), by have := heap_alloc_new (w.alloc o1) o2; simpa using this⟩
theorem rd_lit2 {w : World} {g : Nat} (h : w.heap[g]? = some (.cells #[.int .i64 0, .int .i64 2, .int .i64 5, .int .i64 6] 43 (0, 0))) : RdR w (some ⟨g, 0, none⟩) [(0, 2), (5, 6)] := fun j hj => by
  refine ⟨g, 0, rfl, ?_, ?_⟩ <;> rw [cell_of_row _ _ _ _ _ _ h] <;> (match j, hj with
    | 0, _ => rfl
    | 1, _ => rfl)
theorem dg_lo (n : Nat) (h : n < 128) : dg n = [UInt8.ofNat n] := by
  unfold dg
  rw [show n / 128 = 0 by omega, hiD_zero, show n % 128 = n by omega]
  rfl
theorem dg300U : dg 300 = [130, 44] := by
  unfold dg
  rw [hiD_pos _ (by decide), show 300 / 128 / 128 = 0 from by decide, hiD_zero]
  decide
abbrev smU : Un := ⟨2, 1, 300, 0, 0, 0, [], 0, [(0, 2), (5, 6)]⟩
theorem smU_ok : validV smU := ⟨⟨by unfold nameOk; decide, by unfold nameOk; decide⟩, .inr (.inl ⟨rfl, ⟨rfl, rfl, rfl, rfl⟩, by decide, ⟨by decide, by decide, trivial⟩, .inl rfl⟩)⟩
theorem smU_enc : encT smU = [2, 1, 130, 44, 0, 2, 0, 2, 3, 1] := by
  have e : encT smU = dg 2 ++ (dg 1 ++ (dg 300 ++ (dg 0 ++ (dg 2 ++ (dg 0 ++ (dg 2 ++ (dg 3 ++ dg 1))))))) := by
    unfold encT repX smU
    simp [dgs, gotB, gotBF]
  rw [e, dg300U, dg_lo 2 (by decide), dg_lo 1 (by decide), dg_lo 0 (by decide), dg_lo 3 (by decide)]
  rfl
section
set_option maxRecDepth 20000
set_option maxHeartbeats 3200000
end
end Go.Proofs.YtplncfahpdmcoaaGreatDoor
namespace Go.Proofs.YtplncfahpdmcoaaGreatDoor
set_option linter.unusedVariables false
set_option linter.unusedSimpArgs false
open Go.RowKit
theorem valid_got {u : Un} (h : validV u) : u.got.length ≤ 33 := by
  obtain ⟨-, h⟩ := h
  rcases h with ⟨-, -, -, -, -, -, h⟩ | ⟨-, -, -, h, -⟩ | ⟨-, -, -, h⟩
  · omega
  · exact gotOk_cnt h
  · omega
theorem valid_data {u : Un} (h : validV u) : u.data.length ≤ 1024 := by
  obtain ⟨-, h⟩ := h
  rcases h with ⟨-, -, -, -, h, -⟩ | ⟨-, ⟨-, -, -, h⟩, -⟩ | ⟨-, ⟨-, -, -, h⟩, -⟩ <;> omega
theorem encT_le {u : Un} (h : validV u) : (encT u).length ≤ 2000 := by
  have hd := valid_data h
  obtain ⟨k, e, s, p, i, c, d, cd, g⟩ := u
  obtain ⟨⟨he, hs⟩, h⟩ := h
  unfold nameOk at he hs
  simp only at he hs h hd
  have hb : ∀ K : Nat, K ≤ 3 → (dgs [K, e.toNat, s.toNat]).length ≤ 30 := fun K hK => dgs_len [K, e.toNat, s.toNat] (fun n hn => by simp at hn; omega)
  rcases h with ⟨rfl, hp, hi, hc, -, -, hg⟩ | ⟨rfl, -, hcd, hg, hz⟩ | ⟨rfl, -, -, hg⟩
  · have h1 := hb 1 (by omega)
    have h2 := dgs_len [p.toNat, i.toNat, c.toNat] (fun n hn => by simp at hn; omega)
    have h3 := dg_len d.length (by omega)
    unfold encT
    simp only [if_true, List.length_append, List.length_cons, List.length_nil] at h2 ⊢
    omega
  · have h1 := hb 2 (by omega)
    have h2 := dgs_len [cd.toNat] (fun n hn => by simp at hn; omega)
    have hg9 := gotOk_cnt hg
    have h3 := dgs_len [g.length] (fun n hn => by simp at hn; omega)
    have h4 := gotB_len hg
    unfold encT repX
    simp only [show ¬ ((2 : Int) = 1) by decide, if_false, if_true]
    simp only [List.length_cons, List.length_nil] at h2 h3
    split <;> simp only [List.length_append] <;> omega
  · have h1 := hb 3 (by omega)
    unfold encT
    simp only [show ¬ ((3 : Int) = 1) by decide, show ¬ ((3 : Int) = 2) by decide, if_false]
    omega
theorem encT_len {u : Un} (h : validV u) : (encT u ++ sealL (encT u)).length ≤ 140737488355328 := by
  have h1 := encT_le h
  rw [List.length_append, show (sealL (encT u)).length = 4 from rfl]
  omega
end Go.Proofs.YtplncfahpdmcoaaGreatDoor
