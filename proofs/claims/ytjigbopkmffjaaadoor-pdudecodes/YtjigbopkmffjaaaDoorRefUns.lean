import Derived.Test.YtjigbopkmffjaaaDoorTurnO
import Derived.Test.YtjigbopkmffjaaaDoorUF
import Derived.Test.YtjigbopkmffjaaaDoorOne
import Derived.Test.YtjigbopkmffjaaaDoorOverQ
import Derived.Test.YtjigbopkmffjaaaDoorRNew
import Derived.Test.YtjigbopkmffjaaaDoorUnseal
namespace Go.Proofs.YtjigbopkmffjaaaDoor
set_option linter.unusedVariables false
set_option linter.unusedSimpArgs false
open Go.RowKit
theorem rNum_dgm (n m : Nat) (h : n ≤ m) (h2 : n < 18446744073709551616) (ys : List UInt8) : rNum m (dg n ++ ys) 0 = (n, (dg n).length, 0) := by
  have e := numS_dg n h2 ys
  rw [rNum_ok (by rw [e]) (by rw [e]; exact h), e]
theorem rNum_zero {m : Nat} {ys : List UInt8} {f : Int} (h : (rNum m ys f).2.2 = 0) : f = 0 ∧ (numS ys).2.2 = 0 ∧ (numS ys).1 ≤ m := by
  by_cases hf : f = 0
  · subst hf
    by_cases he : (numS ys).2.2 = 0
    · by_cases hm : (numS ys).1 ≤ m
      · exact ⟨rfl, he, hm⟩
      · rw [rNum_big he hm] at h; cases h
    · rw [rNum_bad he] at h; simp at h; exact absurd h he
  · rw [rNum_f hf] at h; exact absurd h hf
theorem nmS_dg (n m : Nat) (h : n ≤ m) (h2 : n < 18446744073709551616) (ys : List UInt8) : nmS m (dg n ++ ys, 0) = (n, ys, 0) := by
  unfold nmS
  simp only
  rw [rNum_dgm n m h h2 ys]
  simp only
  rw [List.drop_left' rfl]
theorem nmU_dg (n : Nat) (h : n ≤ 281474976710655) (ys : List UInt8) : nmS mxU (dg n ++ ys, 0) = (n, ys, 0) := nmS_dg n mxU h (by omega) ys
theorem ahS_dgm (n m : Nat) (h : n ≤ m) (h2 : n < 18446744073709551616) (ys : List UInt8) : ahS m (dg n ++ ys) = (n, (dg n).length, 0) := by
  unfold ahS
  rw [numS_dg n h2 ys]
  rw [if_neg (by simp only; omega)]
theorem byS_dg (m : Nat) (b ys : List UInt8) (h : b.length ≤ m) (h2 : b.length < 18446744073709551616) : byS (m : Int) (dg b.length ++ (b ++ ys), 0) = (b, ys, 0) := by
  have e : rBytes (m : Int) (dg b.length ++ (b ++ ys)) 0 = (b, (dg b.length).length + b.length, 0) := by
    unfold rBytes
    rw [if_pos rfl, if_neg (by omega), Int.toNat_natCast, ahS_dgm _ _ h h2]
    simp only [if_true]
    rw [if_neg (by simp only [List.length_append]; omega), List.drop_left' rfl, List.take_left' rfl]
  unfold byS
  simp only
  rw [e]
  simp only
  rw [← List.append_assoc, List.drop_left' (by rw [List.length_append])]
theorem nmS_inv {m n : Nat} {ys y : List UInt8} {f : Int} (h : nmS m (ys, f) = (n, y, 0)) : f = 0 ∧ ys = dg n ++ y ∧ n ≤ m := by
  have hle := nmS_le h
  unfold nmS at h
  simp only [Prod.mk.injEq] at h
  obtain ⟨h1, h2, h3⟩ := h
  obtain ⟨rfl, he, hm⟩ := rNum_zero h3
  rw [rNum_ok he hm] at h1 h2
  simp only at h1 h2
  have hn : numS ys = ((numS ys).1, (numS ys).2.1, 0) := by rw [← he]
  obtain ⟨-, -, ht⟩ := numS_one ys _ _ hn
  refine ⟨rfl, ?_, hle⟩
  rw [← h2, ← h1, ← ht, List.take_append_drop]
theorem byS_inv {m : Int} {ys d y : List UInt8} {f : Int} (h : byS m (ys, f) = (d, y, 0)) : f = 0 ∧ ys = dg d.length ++ (d ++ y) ∧ d.length ≤ m.toNat := by
  have hle := byS_le h
  unfold byS at h
  simp only [Prod.mk.injEq] at h
  obtain ⟨h1, h2, h3⟩ := h
  have hf : f = 0 := by
    by_cases hf : f = 0
    · exact hf
    · exfalso
      unfold rBytes at h3
      rw [if_neg hf] at h3
      exact hf h3
  have hn : rBytes m ys f = (d, (rBytes m ys f).2.1, 0) := by rw [← h1, ← h3]
  obtain ⟨k1, -, -⟩ := rBytes_ok m ys f _ _ hn
  refine ⟨hf, ?_, hle⟩
  rw [← h2, ← List.append_assoc, k1, List.take_append_drop]
theorem mustF_inv {r : Bool} {f : Int} (h : mustF r f = 0) : r = true ∧ f = 0 := by
  cases r with
  | false => exact absurd h (mustF_bad rfl)
  | true => unfold mustF at h; rw [if_pos rfl] at h; exact ⟨rfl, h⟩
theorem mustF_t (f : Int) : mustF true f = f := by unfold mustF; rw [if_pos rfl]
theorem mustF_p {p : Prop} [Decidable p] (h : p) (f : Int) : mustF (decide p) f = f := by rw [decide_eq_true h]; exact mustF_t f
/-- the text of a unit -/
def encT (u : Un) : List UInt8 :=
  if u.kind = 1 then dgs [1, u.ep.toNat, u.se.toNat] ++ dgs [u.path.toNat, u.idx.toNat, u.cnt.toNat] ++ (dg u.data.length ++ u.data)
  else if u.kind = 2 then repX (dgs [2, u.ep.toNat, u.se.toNat]) u.code.toNat u.got.length u.got
  else dgs [3, u.ep.toNat, u.se.toNat]
def validV (u : Un) : Prop := validR u.kind u.ep u.se u.path u.idx u.cnt u.data.length u.code u.got.length u.got
theorem freeR_end (l : List Rg) : endR l ≤ freeR l := by
  unfold endR freeR
  split <;> rename_i h <;> simp only [h]
  · exact Int.le_refl _
  · omega
theorem rgsS_enc : ∀ (r l : List Rg) (ys : List UInt8), gotOk (l ++ r) → rgsS r.length l (gotBF (endR l) r ++ ys, 0) = (l ++ r, ys, 0)
  | [], l, ys, _ => by simp [rgsS, gotBF]
  | x :: r, l, ys, h => by
    have h0 : gotOk ((l ++ [x]) ++ r) := by rw [List.append_assoc]; exact h
    obtain ⟨hl, h1, h2, h3⟩ := (gotOk_snoc l x).1 (gotOk_pre h0)
    have h4 := gotOk_end hl
    have h5 := freeR_end l
    have hr : rangeS l (gotBF (endR l) (x :: r) ++ ys, 0) = (x, gotBF x.2 r ++ ys, 0) := by
      have e : gotBF (endR l) (x :: r) ++ ys = dg (x.1 - endR l).toNat ++ (dg (x.2 - x.1).toNat ++ (gotBF x.2 r ++ ys)) := by simp [gotBF, dgs]
      unfold rangeS
      rw [e, nmU_dg _ (by omega)]
      simp only
      rw [nmU_dg _ (by omega)]
      simp only
      have ex : (endR l + ((x.1 - endR l).toNat : Nat), endR l + ((x.1 - endR l).toNat : Nat) + ((x.2 - x.1).toNat : Nat)) = x := by
        apply Prod.ext <;> simp only <;> omega
      rw [if_pos (by omega), ex]
    rw [List.length_cons, rgsS_step _ _ _ rfl, hr]
    simp only
    have ih := rgsS_enc r (l ++ [x]) ys h0
    rw [endR_snoc, List.append_assoc] at ih
    exact ih
theorem rgsS_inv : ∀ (n : Nat) (l L : List Rg) (ys y : List UInt8) (f : Int), rgsS n l (ys, f) = (L, y, 0) → f = 0 ∧ ∃ r, L = l ++ r ∧ r.length = n ∧ ys = gotBF (endR l) r ++ y ∧ (gotOk l → gotOk L)
  | 0, l, L, ys, y, f, h => by
    unfold rgsS at h
    simp only [Prod.mk.injEq] at h
    obtain ⟨rfl, rfl, rfl⟩ := h
    exact ⟨rfl, [], by simp, rfl, by simp [gotBF], id⟩
  | n + 1, l, L, ys, y, f, h => by
    by_cases hf : f = 0
    · subst hf
      rw [rgsS_step _ _ _ rfl] at h
      obtain ⟨x, y2, f2, e2⟩ : ∃ x y2 f2, rangeS l (ys, 0) = (x, y2, f2) := ⟨_, _, _, rfl⟩
      rw [e2] at h
      simp only at h
      obtain ⟨rfl, r, rfl, hn, hy, hg⟩ := rgsS_inv n (l ++ [x]) L y2 y f2 h
      have hok : gotOk l → gotOk (l ++ [x]) := fun hl => by
        have h9 := rangeS_ok (l := l) (s := (ys, 0)) hl (by rw [e2])
        rw [e2] at h9
        exact h9
      obtain ⟨n1, y1, g1, e1⟩ : ∃ n y g, nmS mxU (ys, 0) = (n, y, g) := ⟨_, _, _, rfl⟩
      obtain ⟨n2, z2, g2, e3⟩ : ∃ n y g, nmS mxU (y1, g1) = (n, y, g) := ⟨_, _, _, rfl⟩
      unfold rangeS at e2
      rw [e1] at e2
      simp only at e2
      rw [e3] at e2
      simp only [Prod.mk.injEq] at e2
      obtain ⟨hx, rfl, hm⟩ := e2
      have hg2 : g2 = 0 := by
        split at hm
        · exact hm
        · exact absurd hm (mustF_bad rfl)
      subst hg2
      obtain ⟨rfl, q1, -⟩ := nmS_inv e3
      obtain ⟨-, q2, -⟩ := nmS_inv e1
      refine ⟨rfl, x :: r, by simp, by simp [hn], ?_, fun hl => hg (hok hl)⟩
      have ex1 : (x.1 - endR l).toNat = n1 := by rw [← hx]; simp only; omega
      have ex2 : (x.2 - x.1).toNat = n2 := by rw [← hx]; simp only; omega
      have hs := endR_snoc l x
      rw [hs] at hy
      rw [q2, q1, hy]
      simp [gotBF, dgs, ex1, ex2]
    · rw [rgsS_bad _ _ _ hf] at h
      simp only [Prod.mk.injEq] at h
      exact absurd h.2.2 hf
theorem gotF_32 : ∀ (l : List Rg) (f : Int), gotF f l → l = [] ∨ f + 2 * (l.length : Int) ≤ 65
  | [], _, _ => .inl rfl
  | x :: l, f, h => by
    have h1 := h.1
    right
    rcases gotF_32 l (x.2 + 1) h.2 with h2 | h2
    · subst h2; simp; omega
    · simp only [List.length_cons]; omega
theorem gotOk_32 {l : List Rg} (h : gotOk l) : l.length ≤ 32 := by
  rcases gotF_32 l 0 h with h1 | h1
  · subst h1; simp
  · omega
theorem toN {z : Int} (h : 0 ≤ z) : ((z.toNat : Nat) : Int) = z := by omega
/-- what was laid is read -/
theorem readU_enc (u : Un) (h : validV u) : readU (encT u, 0) = (u, [], 0) := by
  obtain ⟨k, e, s, p, i, c, d, cd, g⟩ := u
  obtain ⟨⟨he, hs⟩, h⟩ := h
  simp only at he hs h
  unfold nameOk at he hs
  have q1 : nmB e.toNat = true := by unfold nmB; rw [decide_eq_true_iff]; omega
  have q2 : nmB s.toNat = true := by unfold nmB; rw [decide_eq_true_iff]; omega
  have z1 : ((e.toNat : Nat) : Int) = e := toN (by omega)
  have z2 : ((s.toNat : Nat) : Int) = s := toN (by omega)
  have front : ∀ (K : Nat) (ys : List UInt8), kdB K = true → K ≤ 3 → readU (dgs [K, e.toNat, s.toNat] ++ ys, 0) = if K = 1 then dataS e.toNat s.toNat (ys, 0) else if K = 2 then repS e.toNat s.toNat (ys, 0) else (⟨(K : Nat), e, s, 0, 0, 0, [], 0, []⟩, ys, 0) := by
    intro K ys hK hK3
    have e0 : dgs [K, e.toNat, s.toNat] ++ ys = dg K ++ (dg e.toNat ++ (dg s.toNat ++ ys)) := by simp [dgs]
    unfold readU
    rw [e0, nmU_dg _ (by omega)]
    simp only
    rw [hK, mustF_t, nmU_dg _ (by omega)]
    simp only
    rw [q1, mustF_t, nmU_dg _ (by omega)]
    simp only
    rw [q2, mustF_t, if_pos rfl, z1, z2]
  rcases h with ⟨rfl, hp, hi, hc, hd, rfl, hg⟩ | ⟨rfl, ⟨rfl, rfl, rfl, hd⟩, hcd, hg, hz⟩ | ⟨rfl, ⟨rfl, rfl, rfl, hd⟩, rfl, hg⟩
  · have hg0 : g = [] := List.eq_nil_of_length_eq_zero hg
    subst hg0
    unfold encT
    simp only [if_true]
    rw [List.append_assoc, front 1 _ rfl (by omega), if_pos rfl]
    have e0 : dgs [p.toNat, i.toNat, c.toNat] ++ (dg d.length ++ d) = dg p.toNat ++ (dg i.toNat ++ (dg c.toNat ++ (dg d.length ++ (d ++ [])))) := by simp [dgs]
    unfold dataS
    rw [e0, nmU_dg _ (by omega)]
    simp only
    rw [mustF_p (by omega), nmU_dg _ (by omega)]
    simp only
    rw [mustF_p (by omega), nmU_dg _ (by omega)]
    simp only
    rw [mustF_p (by omega), show byS 1024 (dg d.length ++ (d ++ []), 0) = (d, [], 0) from byS_dg 1024 d [] hd.2 (by omega)]
    simp only
    rw [mustF_p (by omega), z1, z2, toN (show 0 ≤ p by omega), toN (show 0 ≤ i by omega), toN (show 0 ≤ c by omega)]
  · have hd0 : d = [] := List.eq_nil_of_length_eq_zero hd
    subst hd0
    unfold encT
    simp only [show ¬ ((2 : Int) = 1) by decide, if_false, if_true]
    unfold repX
    by_cases h0 : cd = 0
    · subst h0
      rw [show (0 : Int).toNat = 0 from rfl, if_pos rfl, List.append_assoc, List.append_assoc, front 2 _ rfl (by omega), if_neg (by decide), if_pos rfl]
      have hc32 : g.length ≤ 32 := gotOk_32 hg
      have e0 : dgs [0] ++ (dgs [g.length] ++ gotB g) = dg 0 ++ (dg g.length ++ (gotBF (endR []) g ++ [])) := by simp [dgs, gotB, endR_nil]
      unfold repS
      rw [e0, nmU_dg _ (by omega)]
      simp only
      rw [mustF_p (by omega), if_pos trivial, nmU_dg _ (by omega)]
      simp only
      rw [mustF_p hc32, rgsS_enc g [] [] (by simpa using hg)]
      simp only
      rw [z1, z2]
      simp
    · have hg0 : g = [] := by
        rcases hz with h1 | h1
        · exact absurd h1 h0
        · exact List.eq_nil_of_length_eq_zero h1
      subst hg0
      rw [if_neg (by omega), front 2 _ rfl (by omega), if_neg (by decide), if_pos rfl]
      have e0 : dgs [cd.toNat] = dg cd.toNat ++ [] := by simp [dgs]
      unfold repS
      rw [e0, nmU_dg _ (by omega)]
      simp only
      rw [mustF_p (by omega), if_neg (by omega), z1, z2, toN (show 0 ≤ cd by omega)]
  · have hd0 : d = [] := List.eq_nil_of_length_eq_zero hd
    have hg0 : g = [] := List.eq_nil_of_length_eq_zero hg
    subst hd0 hg0
    unfold encT
    simp only [show ¬ ((3 : Int) = 1) by decide, show ¬ ((3 : Int) = 2) by decide, if_false]
    have h9 := front 3 [] rfl (by omega)
    rw [List.append_nil] at h9
    rw [h9, if_neg (by decide), if_neg (by decide)]
    rfl
/-- what is read was laid so -/
theorem readU_inv {x y : List UInt8} {u : Un} (h : readU (x, 0) = (u, y, 0)) : validV u ∧ x = encT u ++ y := by
  obtain ⟨n1, y1, f1, e1⟩ : ∃ n y g, nmS mxU (x, 0) = (n, y, g) := ⟨_, _, _, rfl⟩
  obtain ⟨n2, y2, f2, e2⟩ : ∃ n y g, nmS mxU (y1, mustF (kdB n1) f1) = (n, y, g) := ⟨_, _, _, rfl⟩
  obtain ⟨n3, y3, f3, e3⟩ : ∃ n y g, nmS mxU (y2, mustF (nmB n2) f2) = (n, y, g) := ⟨_, _, _, rfl⟩
  unfold readU at h
  simp only [e1, e2, e3] at h
  by_cases hf : mustF (nmB n3) f3 = 0
  · rw [if_pos hf, hf] at h
    obtain ⟨b3, rfl⟩ := mustF_inv hf
    obtain ⟨g2, rfl, -⟩ := nmS_inv e3
    obtain ⟨b2, rfl⟩ := mustF_inv g2
    obtain ⟨g1, rfl, -⟩ := nmS_inv e2
    obtain ⟨b1, rfl⟩ := mustF_inv g1
    obtain ⟨-, rfl, -⟩ := nmS_inv e1
    have k3 := (nmB_iff n3).1 b3
    have k2 := (nmB_iff n2).1 b2
    have k1 : n1 = 1 ∨ n1 = 2 ∨ n1 = 3 := by unfold kdB at b1; exact decide_eq_true_iff.1 b1
    rcases k1 with rfl | rfl | rfl
    · rw [if_pos rfl] at h
      obtain ⟨m1, v1, t1, E1⟩ : ∃ n y g, nmS mxU (y3, 0) = (n, y, g) := ⟨_, _, _, rfl⟩
      obtain ⟨m2, v2, t2, E2⟩ : ∃ n y g, nmS mxU (v1, mustF (decide ((m1 : Int) = 1 ∨ (m1 : Int) = 2)) t1) = (n, y, g) := ⟨_, _, _, rfl⟩
      obtain ⟨m3, v3, t3, E3⟩ : ∃ n y g, nmS mxU (v2, mustF (decide (0 ≤ (m2 : Int) ∧ (m2 : Int) < 64)) t2) = (n, y, g) := ⟨_, _, _, rfl⟩
      obtain ⟨d, v4, t4, E4⟩ : ∃ n y g, byS 1024 (v3, mustF (decide ((m2 : Int) < (m3 : Int) ∧ (m3 : Int) ≤ 64)) t3) = (n, y, g) := ⟨_, _, _, rfl⟩
      unfold dataS at h
      simp only [E1, E2, E3, E4, Prod.mk.injEq] at h
      obtain ⟨rfl, rfl, h4⟩ := h
      obtain ⟨c4, rfl⟩ := mustF_inv h4
      obtain ⟨j3, rfl, -⟩ := byS_inv E4
      obtain ⟨c3, rfl⟩ := mustF_inv j3
      obtain ⟨j2, rfl, -⟩ := nmS_inv E3
      obtain ⟨c2, rfl⟩ := mustF_inv j2
      obtain ⟨j1, rfl, -⟩ := nmS_inv E2
      obtain ⟨c1, rfl⟩ := mustF_inv j1
      obtain ⟨-, rfl, -⟩ := nmS_inv E1
      refine ⟨⟨⟨k2, k3⟩, .inl ⟨rfl, decide_eq_true_iff.1 c1, decide_eq_true_iff.1 c2, decide_eq_true_iff.1 c3, decide_eq_true_iff.1 c4, rfl, rfl⟩⟩, ?_⟩
      unfold encT
      simp [dgs]
    · rw [if_neg (by decide), if_pos rfl] at h
      obtain ⟨m1, v1, t1, E1⟩ : ∃ n y g, nmS mxU (y3, 0) = (n, y, g) := ⟨_, _, _, rfl⟩
      unfold repS at h
      simp only [E1] at h
      by_cases hm : m1 = 0
      · subst hm
        rw [if_pos rfl] at h
        obtain ⟨m2, v2, t2, E2⟩ : ∃ n y g, nmS mxU (v1, mustF (decide (0 ≤ ((0 : Nat) : Int) ∧ ((0 : Nat) : Int) ≤ 7)) t1) = (n, y, g) := ⟨_, _, _, rfl⟩
        obtain ⟨L, v3, t3, E3⟩ : ∃ n y g, rgsS m2 [] (v2, mustF (decide (m2 ≤ 32)) t2) = (n, y, g) := ⟨_, _, _, rfl⟩
        simp only [E2, E3, Prod.mk.injEq] at h
        obtain ⟨rfl, rfl, rfl⟩ := h
        obtain ⟨j2, r, rfl, hr, rfl, hg⟩ := rgsS_inv _ _ _ _ _ _ E3
        obtain ⟨c2, rfl⟩ := mustF_inv j2
        obtain ⟨j1, rfl, -⟩ := nmS_inv E2
        obtain ⟨c1, rfl⟩ := mustF_inv j1
        obtain ⟨-, rfl, -⟩ := nmS_inv E1
        refine ⟨⟨⟨k2, k3⟩, .inr (.inl ⟨rfl, ⟨rfl, rfl, rfl, rfl⟩, by simp, hg trivial, .inl rfl⟩)⟩, ?_⟩
        unfold encT repX
        simp [dgs, gotB, endR_nil, hr]
      · rw [if_neg hm] at h
        simp only [Prod.mk.injEq] at h
        obtain ⟨rfl, rfl, h4⟩ := h
        obtain ⟨c1, rfl⟩ := mustF_inv h4
        obtain ⟨-, rfl, -⟩ := nmS_inv E1
        refine ⟨⟨⟨k2, k3⟩, .inr (.inl ⟨rfl, ⟨rfl, rfl, rfl, rfl⟩, decide_eq_true_iff.1 c1, trivial, .inr rfl⟩)⟩, ?_⟩
        unfold encT repX
        simp [dgs, hm]
    · rw [if_neg (by decide), if_neg (by decide)] at h
      simp only [Prod.mk.injEq] at h
      obtain ⟨rfl, rfl, -⟩ := h
      refine ⟨⟨⟨k2, k3⟩, .inr (.inr ⟨rfl, ⟨rfl, rfl, rfl, rfl⟩, rfl, rfl⟩)⟩, ?_⟩
      unfold encT
      simp [dgs]
  · rw [if_neg hf] at h
    simp only [Prod.mk.injEq] at h
    exact absurd h.2.2 hf
theorem decU_enc (u : Un) (h : validV u) : decU (encT u ++ sealL (encT u)) = (u, 0) := by
  unfold decU
  rw [unS_seal]
  simp only [readU_enc u h]
  simp [rEnd]
theorem decU_inv {x : List UInt8} {u : Un} (h : decU (x ++ sealL x) = (u, 0)) : validV u ∧ x = encT u := by
  unfold decU at h
  rw [unS_seal] at h
  obtain ⟨v, y, f, hr⟩ : ∃ v y f, readU (x, 0) = (v, y, f) := ⟨_, _, _, rfl⟩
  simp only [hr, if_true] at h
  by_cases he : rEnd y f = 0
  · rw [if_pos he] at h
    simp only [Prod.mk.injEq] at h
    obtain ⟨rfl, -⟩ := h
    unfold rEnd at he
    by_cases hf : f = 0
    · subst hf
      rw [if_pos rfl] at he
      have hy : y = [] := by
        cases y with
        | nil => rfl
        | cons a y => simp at he
      subst hy
      have h9 := readU_inv hr
      rw [List.append_nil] at h9
      exact h9
    · rw [if_neg hf] at he
      exact absurd he hf
  · rw [if_neg he] at h
    simp only [Prod.mk.injEq] at h
    exact absurd h.2 he
/-- a burst that touches it is told -/
theorem decU_burst (x : List UInt8) (at_ : Int) (mask : Nat) (ht : tch at_ mask (x ++ sealL x).length) : decU (bst at_ mask (x ++ sealL x) 32) = (zeroU, 13) := by
  unfold decU
  rw [burst_told x at_ mask ht]
  rfl
end Go.Proofs.YtjigbopkmffjaaaDoor
namespace Go.Proofs.YtjigbopkmffjaaaDoor
set_option linter.unusedVariables false
set_option linter.unusedSimpArgs false
open Go.RowKit
set_option maxRecDepth 20000 in
set_option maxHeartbeats 1600000 in
theorem bytes_d {q : Nat} {D : Option Nat} {ao : Option Addr} {cap : Nat} {ys : List UInt8} {f : Int} (n : Int) (hn64 : n ≤ 9223372036854775807) (w : World) (h : RefAt w q D ao cap ys f) :
    Calls Tryd.prog 51 #[.pointer (some ⟨q, 0, none⟩), .int .i64 n] w fun e w' => ∃ v, e = .returned v ∧ Own w' w.heap.size v (rBytes n ys f).1 ∧ (∃ ao' cap', RefAt w' q D ao' cap' (ys.drop (rBytes n ys f).2.1) (rBytes n ys f).2.2) ∧ w.grownBy w' (some q) := by
  have k0 := h.c0
  have k1 := h.c1
  have k2 := h.f0
  have hc := h.hc
  have hl := h.hl
  by_cases hf : f = 0
  · subst hf
    by_cases hn : n < 0
    · have HAV : Hid (rBytes n ys 0 = ([], 0, 1)) := by unfold Hid rBytes; rw [if_pos rfl, if_pos hn]
      clear hn64
      go_enter Tryd.func51, Tryd.ntmps51
      go_wp2_with fail
      refine (fail_d 1 w h).mono ?_
      rintro e w2 ⟨rfl, h2, hg2⟩
      go_wp2
      go_ret
      rw [HAV.out]
      exact ⟨_, rfl, World.ownsRow_nil _ _ _ _, ⟨_, _, h2⟩, hg2⟩
    · obtain ⟨m, rfl⟩ : ∃ m : Nat, n = m := ⟨n.toNat, by omega⟩
      obtain ⟨N, K, E, hN⟩ : ∃ N K E : Nat, numS ys = (N, K, E) := ⟨_, _, _, rfl⟩
      have hnv : numV ys = .tuple #[.int .u64 N, .int .i64 K, .int .i64 E] := by unfold numV; rw [hN]
      have hK := (numS_lt ys).2
      rw [hN] at hK
      have hK2 : K ≤ ys.length := by have : K ≤ min ys.length 10 := hK; omega
      clear hK
      have hcase : (E = 0 ∧ m < N ∧ Hid (rBytes m ys 0 = ([], 0, 12))) ∨ (E = 0 ∧ ¬ m < N ∧ ys.length - K < N ∧ Hid (rBytes m ys 0 = ([], 0, 10))) ∨ (E = 0 ∧ ¬ m < N ∧ N ≤ ys.length - K ∧ Hid (rBytes m ys 0 = ((ys.drop K).take N, K + N, 0))) ∨ (¬ E = 0 ∧ Hid (rBytes m ys 0 = ([], 0, (E : Int)))) := by
        unfold rBytes ahS Hid
        rw [Int.toNat_natCast, hN, if_pos rfl, if_neg hn]
        by_cases hE : E = 0
        · by_cases hm : m < N
          · refine .inl ⟨hE, hm, ?_⟩
            simp [hE, hm]
          · by_cases hl2 : ys.length - K < N
            · refine .inr (.inl ⟨hE, hm, hl2, ?_⟩)
              simp [hE, hm, hl2]
            · refine .inr (.inr (.inl ⟨hE, hm, by omega, ?_⟩))
              simp [hE, hm, hl2]
        · refine .inr (.inr (.inr ⟨hE, ?_⟩))
          simp [hE]
      have hwm : IntKind.u64.wrap (m : Int) = (m : Int) := by rw [IntKind.wrap_u64]; omega
      have hr := h.rd
      have HQ : Hid (q < w.heap.size) := World.block_lt_of_cell? w _ h.c0
      clear hN hn hn64
      obtain ⟨R, hR⟩ : ∃ R : Nat, R = ys.length - K := ⟨_, rfl⟩
      have hwR : IntKind.i64.wrap ((ys.length : Int) - (K : Int)) = (R : Int) := by rw [IntKind.wrap_i64]; omega
      have hwR2 : IntKind.u64.wrap (R : Int) = (R : Int) := by rw [IntKind.wrap_u64]; omega
      rw [← hR] at hcase
      have HR : Hid (R = ys.length - K) := hR
      clear hR
      go_enter Tryd.func51, Tryd.ntmps51
      go_wp2_with fail
      refine (refNumber_n ao _ cap ys rfl w hr h.hl).mono ?_
      rintro e w1 ⟨rfl, hw1⟩
      subst hw1
      rw [hnv]
      clear hnv
      rcases hcase with ⟨rfl, hlt, HAV⟩ | ⟨rfl, hlt, hlt2, HAV⟩ | ⟨rfl, hlt, hlt2, HAV⟩ | ⟨hlt, HAV⟩
      · go_wp2_with fail
        refine (fail_d 12 w1 h).mono ?_
        rintro e w2 ⟨rfl, h2, hg2⟩
        go_wp2
        go_ret
        rw [HAV.out]
        exact ⟨_, rfl, World.ownsRow_nil _ _ _ _, ⟨_, _, h2⟩, hg2⟩
      · go_wp2_with fail
        refine (fail_d 10 w1 h).mono ?_
        rintro e w2 ⟨rfl, h2, hg2⟩
        go_wp2
        go_ret
        rw [HAV.out]
        exact ⟨_, rfl, World.ownsRow_nil _ _ _ _, ⟨_, _, h2⟩, hg2⟩
      · have h0 : Own w1 w1.heap.size (.slice none 0 0) [] := World.ownsRow_nil _ _ _ _
        have hRR := HR.out
        rcases h.sp with hao | ⟨b, o, hao⟩
        · have hcap := h.hn hao
          subst hao
          subst hcap
          obtain rfl : ys = [] := List.eq_nil_of_length_eq_zero (by omega)
          obtain rfl : K = 0 := by simpa using hK2
          obtain rfl : R = 0 := by simpa using hRR
          obtain rfl : N = 0 := by omega
          have hrt : Rd w1 none [] := Rd.nil _ _
          have hw0 : IntKind.i64.wrap 0 = 0 := by decide
          clear hRR HR
          go_wp2_with (at_builtin; refine wp_app rfl _ _ rfl w1.heap.size (.slice none 0 0) [] [] _ _ rfl h0 rfl hrt (fun _ => rfl) (by simp <;> omega) (Nat.le_refl _) ?_; intro v2 w2 hown2 hg2; have h2 := h.grown hg2 (by simp [Value.ownBlock]) (fun _ _ => by simp [Value.ownBlock]); have k02 := h2.c0; have k22 := h2.f0)
          go_ret
          rw [HAV.out]
          refine ⟨_, rfl, own_setR (by simpa using hown2) q _ _ HQ.out, ⟨_, _, h2.setR none 0 0 0 rfl (Rd.nil _ _) (fun a ha => by cases ha) (Nat.le_refl _) (fun _ => rfl) (.inl rfl)⟩, gr_set (hg2.any _) _ _⟩
        · subst hao
          have HB : Hid (D = some b) := h.blk _ rfl
          obtain ⟨M, hM⟩ : ∃ M : Nat, M = K + N := ⟨_, rfl⟩
          have hwN : IntKind.i64.wrap (N : Int) = (N : Int) := by rw [IntKind.wrap_i64]; omega
          have hwM : IntKind.i64.wrap ((K : Int) + (N : Int)) = (M : Int) := by rw [IntKind.wrap_i64]; omega
          have HM : Hid (M = K + N) := hM
          have hM1 : M ≤ ys.length := by omega
          have hM2 : K ≤ M := by omega
          have hM3 : M ≤ cap := by omega
          have HNL : Hid (M - K = ((ys.drop K).take N).length) := by unfold Hid; simp; omega
          have hrt0 : Rd w1 (some ⟨b, o + K, none⟩) ((ys.drop K).take N) := (hr.drop K).take N
          have HS : Hid (((ys.drop K).take N).length ≤ 140737488355328) := by unfold Hid; rw [← HNL.out]; omega
          by_cases hcp : cap = K
          · have HYL : Hid (ys.length = K) := by unfold Hid; omega
            obtain rfl : N = 0 := by omega
            obtain rfl : M = K := by omega
            have hrt : Rd w1 (some ⟨b, o, none⟩) [] := Rd.nil _ _
            rw [List.take_zero] at HAV
            rw [HYL.out, hcp] at k0
            have HCP : Hid (cap = M) := hcp
            have hR0 : R = 0 := by omega
            subst hR0
            rw [HYL.out] at hwR hl
            clear hcp hc HNL hRR HR hrt0 hM3 hM1 HS hM HM
            go_wp2_with (at_builtin; refine wp_app rfl _ _ rfl w1.heap.size (.slice none 0 0) [] [] _ _ rfl h0 rfl hrt (fun h => by cases h) (by simp <;> omega) (Nat.le_refl _) ?_; intro v2 w2 hown2 hg2; have h2 := h.grown hg2 (by simp [Value.ownBlock]) (fun _ _ => by simp [Value.ownBlock]); have k02 := h2.c0; have k22 := h2.f0; rw [HYL.out, HCP.out] at k02)
            go_ret
            rw [HAV.out]
            refine ⟨_, rfl, own_setR (by simpa using hown2) q _ _ HQ.out, ⟨_, _, h2.setR (some ⟨b, o, none⟩) 0 0 M (by simp [HYL.out]) ?_ (fun a ha => by cases ha; exact HB.out) (Nat.le_refl _) (fun h => by cases h) (.inr ⟨_, _, rfl⟩)⟩, gr_set (hg2.any _) _ _⟩
            intro h9
            simp [HYL.out] at h9
          · have hcK : K ≤ cap := by omega
            have hrt := hrt0
            by_cases hcM : cap = M
            · have HYL : Hid (ys.length = M) := by unfold Hid; omega
              rw [HYL.out, hcM] at k0
              rw [HYL.out] at hwR hl
              have HCP : Hid (cap = M) := hcM
              have hcp2 : ¬ M = K := by omega
              clear hcM hcp hc hRR HR hM3 hM1 hcK hK2 hM
              go_wp2_with (at_builtin; refine wp_app rfl _ _ rfl w1.heap.size (.slice none 0 0) [] ((ys.drop K).take N) _ _ rfl h0 (by rw [← HNL.out]; rfl) hrt (fun h => by cases h) (by rw [List.length_nil, Nat.zero_add]; exact HS.out) (Nat.le_refl _) ?_; intro v2 w2 hown2 hg2; have h2 := h.grown hg2 (by simp [Value.ownBlock]) (fun _ _ => by simp [Value.ownBlock]); have k02 := h2.c0; have k22 := h2.f0; rw [HYL.out, HCP.out] at k02)
              go_ret
              rw [HAV.out]
              refine ⟨_, rfl, own_setR (by simpa using hown2) q _ _ HQ.out, ⟨_, _, h2.setR (some ⟨b, o, none⟩) 0 0 (K + N) (by simp [HYL.out, ← HM.out]) ?_ (fun a ha => by cases ha; exact HB.out) (Nat.le_refl _) (fun h => by cases h) (.inr ⟨_, _, rfl⟩)⟩, gr_set (hg2.any _) _ _⟩
              intro h9
              simp [HYL.out, ← HM.out] at h9
            · clear hRR HR hM
              go_wp2_with (at_builtin; refine wp_app rfl _ _ rfl w1.heap.size (.slice none 0 0) [] ((ys.drop K).take N) _ _ rfl h0 (by rw [← HNL.out]; rfl) hrt (fun h => by cases h) (by rw [List.length_nil, Nat.zero_add]; exact HS.out) (Nat.le_refl _) ?_; intro v2 w2 hown2 hg2; have h2 := h.grown hg2 (by simp [Value.ownBlock]) (fun _ _ => by simp [Value.ownBlock]); have k02 := h2.c0; have k22 := h2.f0)
              go_ret
              rw [HAV.out]
              refine ⟨_, rfl, own_setR (by simpa using hown2) q _ _ HQ.out, ⟨_, _, h2.setR (some ⟨b, o + M, none⟩) (ys.length - M) (cap - M) (K + N) (by simp [← HM.out]) ?_ (fun a ha => by cases ha; exact HB.out) (by omega) (fun h => by cases h) (.inr ⟨_, _, rfl⟩)⟩, gr_set (hg2.any _) _ _⟩
              rw [← HM.out]
              exact h2.rd.drop M
      · go_wp2_with fail
        refine (fail_d E w1 h).mono ?_
        rintro e w2 ⟨rfl, h2, hg2⟩
        go_wp2
        go_ret
        rw [HAV.out]
        exact ⟨_, rfl, World.ownsRow_nil _ _ _ _, ⟨_, _, h2⟩, hg2⟩
  · have HV : Hid (rBytes n ys f = ([], 0, f)) := by unfold Hid rBytes; rw [if_neg hf]
    clear hn64
    go_enter Tryd.func51, Tryd.ntmps51
    go_wp2
    go_ret
    rw [HV.out]
    exact ⟨_, rfl, World.ownsRow_nil _ _ _ _, ⟨_, _, h⟩, World.grownBy.refl _ _⟩
end Go.Proofs.YtjigbopkmffjaaaDoor
namespace Go.Proofs.YtjigbopkmffjaaaDoor
set_option linter.unusedVariables false
set_option linter.unusedSimpArgs false
open Go.RowKit
theorem refseal_n (ao : Option Addr) (n cap : Nat) (xs : List UInt8) (hn : n = xs.length) (w : World) (hx : Rd w ao xs) (hl : n ≤ 140737488355328) :
    Calls Tryd.prog 73 #[.slice ao n cap] w fun e w' => e = .returned (.slice (some ⟨w.heap.size, 0, none⟩) 4 4) ∧ Own w' w.heap.size (.slice (some ⟨w.heap.size, 0, none⟩) 4 4) (sealL xs) ∧ Below w.heap.size w w' ∧ w.heap.size < w'.heap.size := by subst hn; exact refseal_any ao cap xs w hx hl
set_option maxRecDepth 20000 in
set_option maxHeartbeats 800000 in
theorem refUnseal_n (ao : Option Addr) (l cap : Nat) (xs : List UInt8) (hl0 : l = xs.length) (w : World) (hx : Rd w ao xs) (hlc : l ≤ cap) (hcm : cap ≤ 9223372036854775807) (hl : l ≤ 140737488355328) :
    Calls Tryd.prog 46 #[.slice ao l cap] w fun e w' => ∃ v, e = .returned (.tuple #[v, .int .i64 ((unS xs).2 : Nat)]) ∧ Own w' w.heap.size v (unS xs).1 ∧ Below w.heap.size w w' := by
  subst hl0
  by_cases h4 : xs.length < 4
  · have HU : Hid (unS xs = ([], 10)) := by unfold Hid unS; rw [if_pos h4]
    have h4I : (xs.length : Int) - 4 < 0 := by omega
    go_enter Tryd.func46, Tryd.ntmps46
    go_wp2
    go_ret2
    rw [HU.out]
    exact ⟨_, rfl, World.ownsRow_nil _ _ _ _, Below.refl _ _⟩
  · obtain ⟨b, o, rfl, -⟩ := hx (by omega)
    obtain ⟨m, hm⟩ : ∃ m : Nat, m = xs.length - 4 := ⟨_, rfl⟩
    have hmI : (xs.length : Int) - 4 = (m : Int) := by omega
    have HU : Hid (unS xs = if xs.drop m = sealL (xs.take m) then (xs.take m, 0) else ([], 13)) := by
      unfold Hid unS; rw [if_neg h4, ← hm]
    have hrt := hx.take m
    have hrd := hx.dropU m
    have HTL : Hid (m = (xs.take m).length) := by unfold Hid; simp; omega
    have hmk : m < cap := by omega
    have hmk1 : ¬ cap = m := by omega
    have hmk2 : m ≤ cap := by omega
    have hcI : (m : Int) ≤ (xs.length : Int) := by omega
    have hcI2 : (xs.length : Int) ≤ (cap : Int) := by omega
    have hcv : ∀ u, Below w.heap.size w u → (convert 23 9 (.slice (some ⟨b, o + m, none⟩) (xs.length - m) (cap - m))).run Tryd.prog u = .ok (.string ⟨(xs.drop m).toArray⟩) u := fun u hu => conv_rd' (hrd.below hu) _ _ (by rw [List.length_drop])
    clear h4 hm
    by_cases he : xs.drop m = sealL (xs.take m)
    · have HU2 : Hid (unS xs = (xs.take m, 0)) := by unfold Hid; rw [HU.out, if_pos he]
      have hbt : (sealL (xs.take m) == xs.drop m) = true := by rw [he]; exact beq_self_eq_true _
      clear HU he
      go_enter Tryd.func46, Tryd.ntmps46
      go_wp2_with fail
      refine wp_region_noPanic ?_
      refine wp_region_held_drew (S := (fun u => Below w.heap.size w u)) (by kernel_rfl) (by first | exact (Below.refl _ _).drew | assumption) (fun hHeld => ?_)
      refine take_at (i := 0) 10 (v := ?_) rfl rfl (by kernel_rfl) (by kernel_rfl) (by kernel_rfl) (fun _ _ _ h => h) (by rfl) ?_ hHeld ?_
      rotate_left
      · (intro w hSw; (try dsimp only at hSw); go_simp; try with_reducible rfl)
      simp only [Act.put, List.setIfInBounds_toArray, List.set_cons_zero, List.set_cons_succ]
      refine take_at (i := 1) 11 (v := ?_) rfl rfl (by kernel_rfl) (by kernel_rfl) (by kernel_rfl) (fun _ _ _ h => h) (by rfl) ?_ hHeld ?_
      rotate_left
      · (intro w hSw; (try dsimp only at hSw); go_simp; try with_reducible rfl)
      simp only [Act.put, List.setIfInBounds_toArray, List.set_cons_zero, List.set_cons_succ]
      refine take_at (i := 2) 12 (v := ?_) rfl rfl (by kernel_rfl) (by kernel_rfl) (by kernel_rfl) (fun _ _ _ h => h) (by rfl) ?_ hHeld ?_
      rotate_left
      · (intro w hSw; (try dsimp only at hSw); go_simp; try with_reducible rfl)
      simp only [Act.put, List.setIfInBounds_toArray, List.set_cons_zero, List.set_cons_succ]
      refine take_at (i := 5) 15 (v := ?_) rfl rfl (by kernel_rfl) (by kernel_rfl) (by kernel_rfl) (fun _ _ _ h => h) (by rfl) ?_ hHeld ?_
      rotate_left
      · (intro w hSw; (try dsimp only at hSw); go_simp; try with_reducible rfl)
      simp only [Act.put, List.setIfInBounds_toArray, List.set_cons_zero, List.set_cons_succ]
      refine take_at (i := 6) 16 (v := ?_) rfl rfl (by kernel_rfl) (by kernel_rfl) (by kernel_rfl) (fun _ _ _ h => h) (by rfl) ?_ hHeld ?_
      rotate_left
      · (intro w hSw; (try dsimp only at hSw); go_simp; try with_reducible rfl)
      simp only [Act.put, List.setIfInBounds_toArray, List.set_cons_zero, List.set_cons_succ]
      refine take_at (i := 7) 17 (v := ?_) rfl rfl (by kernel_rfl) (by kernel_rfl) (by kernel_rfl) (fun _ _ _ h => h) (by rfl) ?_ hHeld ?_
      rotate_left
      · (intro w hSw; (try dsimp only at hSw); go_simp; try with_reducible rfl)
      simp only [Act.put, List.setIfInBounds_toArray, List.set_cons_zero, List.set_cons_succ]
      refine take_at (i := 8) 18 (v := ?_) rfl rfl (by kernel_rfl) (by kernel_rfl) (by kernel_rfl) (fun _ _ _ h => h) (by rfl) ?_ hHeld ?_
      rotate_left
      · (intro w hSw; (try dsimp only at hSw); go_simp; try with_reducible rfl)
      simp only [Act.put, List.setIfInBounds_toArray, List.set_cons_zero, List.set_cons_succ]
      refine run_at (i := 3) rfl (by kernel_rfl) (by rfl) (fun K hK => ?_)
      simp only [List.getElem_toArray, List.getElem_cons_zero, List.getElem_cons_succ]
      go_simp
      first | (go_at_call 73; refine (refseal_n _ _ cap (xs.take m) HTL.out _ (hrt.below (by first | exact (Below.refl _ _).drew | assumption)) (by omega)).mono ?_; rintro e w1 ⟨rfl, hown1, hb1, hs1⟩; have hS1 := below_next (B := w) (by first | exact (Below.refl _ _).drew | assumption) hb1; have hcv1 : (convert 23 9 (.slice (some ⟨w.heap.size, 0, none⟩) 4 4)).run Tryd.prog w1 = .ok (.string ⟨(sealL (xs.take m)).toArray⟩) w1 := conv_rd' (Rd.of_own hown1) 4 4 rfl)
      go_wp2_with fail
      refine hK.out _ _ (by first | exact (Below.refl _ _).drew | assumption) ?_
      clear hK K
      intro hHeld2
      clear hHeld
      have hHeld := hHeld2
      clear hHeld2
      try simp only [Act.put, List.setIfInBounds_toArray, List.set_cons_zero, List.set_cons_succ]
      refine val_at (i := 4) 14 (v := ?_) rfl rfl (by kernel_rfl) (by rfl) ?_ ?_ ?_
      rotate_left
      · (go_simp; try with_reducible rfl)
      · (first | exact (Below.refl _ _).drew | assumption)
      intro hHeld2
      clear hHeld
      have hHeld := hHeld2
      clear hHeld2
      simp only [Act.put, List.setIfInBounds_toArray, List.set_cons_zero, List.set_cons_succ]
      refine take_at (i := 9) 19 (v := ?_) rfl rfl (by kernel_rfl) (by kernel_rfl) (by kernel_rfl) (fun _ _ _ h => h) (by rfl) ?_ hHeld ?_
      rotate_left
      · (intro w hSw; (try dsimp only at hSw); go_simp; try with_reducible rfl)
      simp only [Act.put, List.setIfInBounds_toArray, List.set_cons_zero, List.set_cons_succ]
      refine wpAnyH_done (by kernel_rfl) ?_ _
      refine NoPanic.normal ?_
      have h0 : Own w1 w1.heap.size (.slice none 0 0) [] := World.ownsRow_nil _ _ _ _
      go_wp2_with (at_builtin; refine wp_app rfl _ _ rfl w1.heap.size (.slice none 0 0) [] (xs.take m) (some ⟨b, o, none⟩) cap rfl h0 (by rw [← HTL.out]; rfl) (hrt.below hS1) (fun h => by cases h) (by rw [← HTL.out]; simp; omega) (Nat.le_refl _) ?_; intro v2 w2 hown2 hg2)
      go_ret2
      rw [HU2.out]
      exact ⟨_, rfl, hown2.base hS1.size, hS1.grown hg2 hS1.size (fun k hk => by cases hk)⟩
    · have HU2 : Hid (unS xs = ([], 13)) := by unfold Hid; rw [HU.out, if_neg he]
      have hbt : (sealL (xs.take m) == xs.drop m) = false := by rw [beq_eq_false_iff_ne]; exact fun h => he h.symm
      clear HU he
      go_enter Tryd.func46, Tryd.ntmps46
      go_wp2_with fail
      refine wp_region_noPanic ?_
      refine wp_region_held_drew (S := (fun u => Below w.heap.size w u)) (by kernel_rfl) (by first | exact (Below.refl _ _).drew | assumption) (fun hHeld => ?_)
      refine take_at (i := 0) 10 (v := ?_) rfl rfl (by kernel_rfl) (by kernel_rfl) (by kernel_rfl) (fun _ _ _ h => h) (by rfl) ?_ hHeld ?_
      rotate_left
      · (intro w hSw; (try dsimp only at hSw); go_simp; try with_reducible rfl)
      simp only [Act.put, List.setIfInBounds_toArray, List.set_cons_zero, List.set_cons_succ]
      refine take_at (i := 1) 11 (v := ?_) rfl rfl (by kernel_rfl) (by kernel_rfl) (by kernel_rfl) (fun _ _ _ h => h) (by rfl) ?_ hHeld ?_
      rotate_left
      · (intro w hSw; (try dsimp only at hSw); go_simp; try with_reducible rfl)
      simp only [Act.put, List.setIfInBounds_toArray, List.set_cons_zero, List.set_cons_succ]
      refine take_at (i := 2) 12 (v := ?_) rfl rfl (by kernel_rfl) (by kernel_rfl) (by kernel_rfl) (fun _ _ _ h => h) (by rfl) ?_ hHeld ?_
      rotate_left
      · (intro w hSw; (try dsimp only at hSw); go_simp; try with_reducible rfl)
      simp only [Act.put, List.setIfInBounds_toArray, List.set_cons_zero, List.set_cons_succ]
      refine take_at (i := 5) 15 (v := ?_) rfl rfl (by kernel_rfl) (by kernel_rfl) (by kernel_rfl) (fun _ _ _ h => h) (by rfl) ?_ hHeld ?_
      rotate_left
      · (intro w hSw; (try dsimp only at hSw); go_simp; try with_reducible rfl)
      simp only [Act.put, List.setIfInBounds_toArray, List.set_cons_zero, List.set_cons_succ]
      refine take_at (i := 6) 16 (v := ?_) rfl rfl (by kernel_rfl) (by kernel_rfl) (by kernel_rfl) (fun _ _ _ h => h) (by rfl) ?_ hHeld ?_
      rotate_left
      · (intro w hSw; (try dsimp only at hSw); go_simp; try with_reducible rfl)
      simp only [Act.put, List.setIfInBounds_toArray, List.set_cons_zero, List.set_cons_succ]
      refine take_at (i := 7) 17 (v := ?_) rfl rfl (by kernel_rfl) (by kernel_rfl) (by kernel_rfl) (fun _ _ _ h => h) (by rfl) ?_ hHeld ?_
      rotate_left
      · (intro w hSw; (try dsimp only at hSw); go_simp; try with_reducible rfl)
      simp only [Act.put, List.setIfInBounds_toArray, List.set_cons_zero, List.set_cons_succ]
      refine take_at (i := 8) 18 (v := ?_) rfl rfl (by kernel_rfl) (by kernel_rfl) (by kernel_rfl) (fun _ _ _ h => h) (by rfl) ?_ hHeld ?_
      rotate_left
      · (intro w hSw; (try dsimp only at hSw); go_simp; try with_reducible rfl)
      simp only [Act.put, List.setIfInBounds_toArray, List.set_cons_zero, List.set_cons_succ]
      refine run_at (i := 3) rfl (by kernel_rfl) (by rfl) (fun K hK => ?_)
      simp only [List.getElem_toArray, List.getElem_cons_zero, List.getElem_cons_succ]
      go_simp
      first | (go_at_call 73; refine (refseal_n _ _ cap (xs.take m) HTL.out _ (hrt.below (by first | exact (Below.refl _ _).drew | assumption)) (by omega)).mono ?_; rintro e w1 ⟨rfl, hown1, hb1, hs1⟩; have hS1 := below_next (B := w) (by first | exact (Below.refl _ _).drew | assumption) hb1; have hcv1 : (convert 23 9 (.slice (some ⟨w.heap.size, 0, none⟩) 4 4)).run Tryd.prog w1 = .ok (.string ⟨(sealL (xs.take m)).toArray⟩) w1 := conv_rd' (Rd.of_own hown1) 4 4 rfl)
      go_wp2_with fail
      refine hK.out _ _ (by first | exact (Below.refl _ _).drew | assumption) ?_
      clear hK K
      intro hHeld2
      clear hHeld
      have hHeld := hHeld2
      clear hHeld2
      try simp only [Act.put, List.setIfInBounds_toArray, List.set_cons_zero, List.set_cons_succ]
      refine val_at (i := 4) 14 (v := ?_) rfl rfl (by kernel_rfl) (by rfl) ?_ ?_ ?_
      rotate_left
      · (go_simp; try with_reducible rfl)
      · (first | exact (Below.refl _ _).drew | assumption)
      intro hHeld2
      clear hHeld
      have hHeld := hHeld2
      clear hHeld2
      simp only [Act.put, List.setIfInBounds_toArray, List.set_cons_zero, List.set_cons_succ]
      refine take_at (i := 9) 19 (v := ?_) rfl rfl (by kernel_rfl) (by kernel_rfl) (by kernel_rfl) (fun _ _ _ h => h) (by rfl) ?_ hHeld ?_
      rotate_left
      · (intro w hSw; (try dsimp only at hSw); go_simp; try with_reducible rfl)
      simp only [Act.put, List.setIfInBounds_toArray, List.set_cons_zero, List.set_cons_succ]
      refine wpAnyH_done (by kernel_rfl) ?_ _
      refine NoPanic.normal ?_
      go_wp2
      go_ret2
      rw [HU2.out]
      exact ⟨_, rfl, World.ownsRow_nil _ _ _ _, hS1⟩
end Go.Proofs.YtjigbopkmffjaaaDoor
