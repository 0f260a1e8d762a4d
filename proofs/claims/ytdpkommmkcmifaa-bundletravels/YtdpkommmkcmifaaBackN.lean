import Derived.Test.YtdpkommmkcmifaaOverQ
namespace Go.Proofs.Ytdpkommmkcmifaa
set_option linter.unusedVariables false
set_option linter.unusedSimpArgs false
open Go.RowKit
theorem nmS_inv {m n : Nat} {ys y : List UInt8} {f : Int} (h : nmS m (ys, f) = (n, y, 0)) : f = 0 ∧ ys = dg n ++ y ∧ n ≤ m := by
  have hle := nmS_le h
  unfold nmS at h
  simp only [Prod.mk.injEq] at h
  obtain ⟨h1, h2, h3⟩ := h
  obtain ⟨rfl, he, hm⟩ := rNum_zero h3
  rw [rNum_ok he hm] at h1 h2
  simp only at h1 h2
  have hn : numS ys = ((numS ys).1, (numS ys).2.1, 0) := by rw [← he]
  obtain ⟨-, -, ht⟩ := numS_one ys _ _ hn
  refine ⟨rfl, ?_, hle⟩
  rw [← h2, ← h1, ← ht, List.take_append_drop]
theorem byS_inv {m : Int} {ys d y : List UInt8} {f : Int} (h : byS m (ys, f) = (d, y, 0)) : f = 0 ∧ ys = dg d.length ++ (d ++ y) ∧ d.length ≤ m.toNat := by
  have hle := byS_le h
  unfold byS at h
  simp only [Prod.mk.injEq] at h
  obtain ⟨h1, h2, h3⟩ := h
  have hf : f = 0 := by
    by_cases hf : f = 0
    · exact hf
    · exfalso
      unfold rBytes at h3
      rw [if_neg hf] at h3
      exact hf h3
  have hn : rBytes m ys f = (d, (rBytes m ys f).2.1, 0) := by rw [← h1, ← h3]
  obtain ⟨k1, -, -⟩ := rBytes_ok m ys f _ _ hn
  refine ⟨hf, ?_, hle⟩
  rw [← h2, ← List.append_assoc, k1, List.take_append_drop]
theorem tkS_inv {m : Int} {ys d y : List UInt8} {f : Int} (h : tkS m (ys, f) = (d, y, 0)) : f = 0 ∧ ys = d ++ y := by
  unfold tkS at h
  simp only [Prod.mk.injEq] at h
  obtain ⟨h1, h2, h3⟩ := h
  have hf : f = 0 := by
    by_cases hf : f = 0
    · exact hf
    · exfalso
      unfold rTake at h3
      rw [if_neg hf] at h3
      exact hf h3
  obtain ⟨k1, -, -⟩ := rTake_all m ys f _ _ _ (show rTake m ys f = ((rTake m ys f).1, (rTake m ys f).2.1, (rTake m ys f).2.2) from rfl)
  refine ⟨hf, ?_⟩
  rw [← h2, ← h1, k1, List.take_append_drop]
theorem mustF_inv {r : Bool} {f : Int} (h : mustF r f = 0) : r = true ∧ f = 0 := by
  cases r with
  | false => exact absurd h (mustF_bad rfl)
  | true => unfold mustF at h; rw [if_pos rfl] at h; exact ⟨rfl, h⟩
theorem pair3 {α : Type} (p : α × List UInt8 × Int) (h : p.2.2 = 0) : p = (p.1, p.2.1, 0) := by
  obtain ⟨a, b, c⟩ := p
  simp only at h
  rw [h]
theorem blockS_inv {l : List Blk} {x : Blk} {ys y : List UInt8} {f : Int} (h : blockS l (ys, f) = (x, y, 0)) : f = 0 ∧ ys = encBlk x ++ y ∧ blkS l x = true ∧ x.ok := by
  obtain ⟨n1, y1, g1, e1⟩ : ∃ n y g, nmS 281474976710655 (ys, f) = (n, y, g) := ⟨_, _, _, rfl⟩
  unfold blockS muS at h
  rw [e1] at h
  simp only at h
  obtain ⟨n2, y2, g2, e2⟩ : ∃ n y g, nmS 281474976710655 (y1, mustF (typeS l n1) g1) = (n, y, g) := ⟨_, _, _, rfl⟩
  rw [e2] at h
  simp only at h
  obtain ⟨n3, y3, g3, e3⟩ : ∃ n y g, nmS 281474976710655 (y2, mustF (numbS l n2) g2) = (n, y, g) := ⟨_, _, _, rfl⟩
  rw [e3] at h
  simp only at h
  obtain ⟨d, y4, g4, e4⟩ : ∃ n y g, byS 64 (y3, mustF (decide (n3 ≤ 255)) g3) = (n, y, g) := ⟨_, _, _, rfl⟩
  rw [e4] at h
  simp only [Prod.mk.injEq] at h
  obtain ⟨rfl, rfl, h3⟩ := h
  obtain ⟨r4, rfl⟩ := mustF_inv h3
  obtain ⟨f4, s4, l4⟩ := byS_inv e4
  obtain ⟨r3, rfl⟩ := mustF_inv f4
  obtain ⟨f3, s3, l3⟩ := nmS_inv e3
  obtain ⟨r2, rfl⟩ := mustF_inv f3
  obtain ⟨f2, s2, l2⟩ := nmS_inv e2
  obtain ⟨r1, rfl⟩ := mustF_inv f2
  obtain ⟨f1, s1, l1⟩ := nmS_inv e1
  have l4' : d.length ≤ 64 := l4
  refine ⟨f1, ?_, ?_, ?_⟩
  · rw [s1, s2, s3, s4]
    unfold encBlk dgs
    simp [List.append_assoc]
  · unfold blkS
    simp only [Bool.and_eq_true]
    exact ⟨r1, r2, r3, r4⟩
  · exact ⟨by simp only; omega, by simp only; omega, by simp only; omega, by simp only; omega⟩
theorem blocksS_inv : ∀ (n : Nat) (l r : List Blk) (ys y : List UInt8) (f : Int), blocksS n l (ys, f) = (r, y, 0) → f = 0 ∧ ∃ t, r = l ++ t ∧ t.length = n ∧ ys = encBlks t ++ y ∧ (∀ i (h : i < r.length), l.length ≤ i → blkS (r.take i) r[i] = true) ∧ ∀ x ∈ t, x.ok
  | 0, l, r, ys, y, f, h => by
    simp only [blocksS, Prod.mk.injEq] at h
    obtain ⟨rfl, rfl, rfl⟩ := h
    exact ⟨rfl, [], by simp, rfl, by simp [encBlks], fun i h1 h2 => absurd h1 (by omega), fun x hx => by cases hx⟩
  | n + 1, l, r, ys, y, f, h => by
    by_cases hf : f = 0
    · subst hf
      rw [blocksS_step _ _ _ rfl] at h
      obtain ⟨x, y2, f2, e⟩ : ∃ x y2 f2, blockS l (ys, 0) = (x, y2, f2) := ⟨_, _, _, rfl⟩
      rw [e] at h
      simp only at h
      obtain ⟨rfl, t, ht1, ht2, ht3, ht4, ht5⟩ := blocksS_inv n _ _ _ _ _ h
      obtain ⟨-, s1, s2, s3⟩ := blockS_inv e
      refine ⟨rfl, x :: t, ?_, by simp [ht2], ?_, ?_, ?_⟩
      · rw [ht1]; simp
      · rw [s1, ht3]; simp [encBlks, List.append_assoc]
      · intro i h1 h2
        by_cases hi : i = l.length
        · subst hi
          subst ht1
          simpa using s2
        · exact ht4 i h1 (by simp; omega)
      · intro z hz
        rcases List.mem_cons.1 hz with rfl | hz
        · exact s3
        · exact ht5 z hz
    · rw [blocksS_bad _ _ _ hf] at h
      simp only [Prod.mk.injEq] at h
      exact absurd h.2.2 hf
/-- what Decode lets in is the text of what it reads -/
theorem decS_inv {xs : List UInt8} {c : Bun} (h : decS xs = (c, 0)) : xs = encB c ∧ GoodB c ∧ c.ok ∧ (encB c).length ≤ 1024 := by
  unfold decS at h
  by_cases hl : 1024 < xs.length
  · rw [if_pos hl] at h
    simp at h
  rw [if_neg hl] at h
  obtain ⟨o, yR, gR, eR⟩ : ∃ o y g, readS (xs, 0) = (o, y, g) := ⟨_, _, _, rfl⟩
  rw [eR] at h
  simp only at h
  by_cases h0 : rEnd yR gR = 0
  rotate_left
  · rw [if_neg h0] at h
    simp only [Prod.mk.injEq] at h
    exact absurd h.2 h0
  rw [if_pos h0] at h
  simp only [Prod.mk.injEq, and_true] at h
  subst h
  have hg : gR = 0 ∧ yR = [] := by
    unfold rEnd at h0
    by_cases hg : gR = 0
    · rw [if_pos hg] at h0
      by_cases hy : 0 < yR.length
      · rw [if_pos hy] at h0; cases h0
      · exact ⟨hg, List.eq_nil_of_length_eq_zero (by omega)⟩
    · rw [if_neg hg] at h0; exact absurd h0 hg
  obtain ⟨rfl, rfl⟩ := hg
  obtain ⟨t, y0, k0, e0⟩ : ∃ n y g, tkS 1 (xs, 0) = (n, y, g) := ⟨_, _, _, rfl⟩
  unfold readS muS at eR
  rw [e0] at eR
  simp only at eR
  obtain ⟨nfl, yfl, kfl, efl'⟩ : ∃ n y g, nmS 281474976710655 (y0, mustF (t == [6]) k0) = (n, y, g) := ⟨_, _, _, rfl⟩
  rw [efl'] at eR
  simp only at eR
  obtain ⟨ne0, ye0, ke0, ee0'⟩ : ∃ n y g, nmS 281474976710655 (yfl, mustF (decide (nfl < 8)) kfl) = (n, y, g) := ⟨_, _, _, rfl⟩
  rw [ee0'] at eR
  simp only at eR
  obtain ⟨ne1, ye1, ke1, ee1'⟩ : ∃ n y g, nmS 281474976710655 (ye0, ke0) = (n, y, g) := ⟨_, _, _, rfl⟩
  rw [ee1'] at eR
  simp only at eR
  obtain ⟨ne2, ye2, ke2, ee2'⟩ : ∃ n y g, nmS 281474976710655 (ye1, ke1) = (n, y, g) := ⟨_, _, _, rfl⟩
  rw [ee2'] at eR
  simp only at eR
  obtain ⟨ne3, ye3, ke3, ee3'⟩ : ∃ n y g, nmS 281474976710655 (ye2, ke2) = (n, y, g) := ⟨_, _, _, rfl⟩
  rw [ee3'] at eR
  simp only at eR
  obtain ⟨ne4, ye4, ke4, ee4'⟩ : ∃ n y g, nmS 281474976710655 (ye3, ke3) = (n, y, g) := ⟨_, _, _, rfl⟩
  rw [ee4'] at eR
  simp only at eR
  obtain ⟨ne5, ye5, ke5, ee5'⟩ : ∃ n y g, nmS 281474976710655 (ye4, ke4) = (n, y, g) := ⟨_, _, _, rfl⟩
  rw [ee5'] at eR
  simp only at eR
  obtain ⟨ntm, ytm, ktm, etm'⟩ : ∃ n y g, nmS 281474976710655 (ye5, ke5) = (n, y, g) := ⟨_, _, _, rfl⟩
  rw [etm'] at eR
  simp only at eR
  obtain ⟨nsq, ysq, ksq, esq'⟩ : ∃ n y g, nmS 281474976710655 (ytm, ktm) = (n, y, g) := ⟨_, _, _, rfl⟩
  rw [esq'] at eR
  simp only at eR
  obtain ⟨nlf, ylf, klf, elf'⟩ : ∃ n y g, nmS 281474976710655 (ysq, ksq) = (n, y, g) := ⟨_, _, _, rfl⟩
  rw [elf'] at eR
  simp only at eR
  obtain ⟨nct, yct, kct, ect'⟩ : ∃ n y g, nmS 281474976710655 (ylf, klf) = (n, y, g) := ⟨_, _, _, rfl⟩
  rw [ect'] at eR
  simp only at eR
  obtain ⟨bl, yb, kb, eb⟩ : ∃ n y g, blocksS nct [] (yct, mustF (decide (nct ≤ 8)) kct) = (n, y, g) := ⟨_, _, _, rfl⟩
  rw [eb] at eR
  simp only at eR
  obtain ⟨py, yp, kp, ep⟩ : ∃ n y g, byS 512 (yb, kb) = (n, y, g) := ⟨_, _, _, rfl⟩
  rw [ep] at eR
  simp only [Prod.mk.injEq] at eR
  obtain ⟨rfl, rfl, rfl⟩ := eR
  obtain ⟨rfl, sp, lp⟩ := byS_inv ep
  obtain ⟨fb, bt, hb1, hb2, sb, hb4, hb5⟩ := blocksS_inv _ _ _ _ _ _ eb
  obtain ⟨rct, rfl⟩ := mustF_inv fb
  obtain ⟨rfl, sct, lct⟩ := nmS_inv ect'
  obtain ⟨rfl, slf, llf⟩ := nmS_inv elf'
  obtain ⟨rfl, ssq, lsq⟩ := nmS_inv esq'
  obtain ⟨rfl, stm, ltm⟩ := nmS_inv etm'
  obtain ⟨rfl, se5, le5⟩ := nmS_inv ee5'
  obtain ⟨rfl, se4, le4⟩ := nmS_inv ee4'
  obtain ⟨rfl, se3, le3⟩ := nmS_inv ee3'
  obtain ⟨rfl, se2, le2⟩ := nmS_inv ee2'
  obtain ⟨rfl, se1, le1⟩ := nmS_inv ee1'
  obtain ⟨fe0, se0, le0⟩ := nmS_inv ee0'
  obtain ⟨rfl', rfl⟩ := mustF_inv fe0
  obtain ⟨ffl, sfl, lfl⟩ := nmS_inv efl'
  obtain ⟨r0, rfl⟩ := mustF_inv ffl
  obtain ⟨-, s0⟩ := tkS_inv e0
  rw [List.nil_append] at hb1
  subst hb1
  have ht : t = [6] := by simpa using r0
  have h8 : nct ≤ 8 := by simpa using rct
  have hf8 : nfl < 8 := by simpa using rfl'
  subst hb2
  have lp' : py.length ≤ 512 := lp
  have e : xs = encB ⟨nfl, ne0, ne1, ne2, ne3, ne4, ne5, ntm, nsq, nlf, bl, py⟩ := by
    rw [s0, ht, sfl, se0, se1, se2, se3, se4, se5, stm, ssq, slf, sct, sb, sp]
    unfold encB dgs
    simp [List.append_assoc]
  refine ⟨e, ⟨hf8, ?_, ?_, ⟨h8, fun i hi => hb4 i hi (Nat.zero_le _)⟩, lp'⟩, ⟨?_, ?_, ?_, ?_, ?_, ?_, ?_, ?_, ?_, ?_, hb5, ?_, ?_⟩, by rw [← e]; omega⟩
  · unfold numsS; simp; omega
  · unfold numsS; simp; omega
  all_goals simp only
  all_goals omega
end Go.Proofs.Ytdpkommmkcmifaa
