import Derived.Test.YtnpcgegcoakbmaaDoorTEa
namespace Go.Proofs.YtnpcgegcoakbmaaDoor
set_option linter.unusedVariables false
set_option linter.unusedSimpArgs false
open Go.RowKit
/-- texts that came in -/
structure Tx where
  a : Option Addr
  n : Nat
  c : Nat
  xs : List UInt8
structure TxOk (w : World) (t : Tx) : Prop where
  hn : t.n = t.xs.length
  rd : Rd w t.a t.xs
  nil : t.a = none → t.c = 0
  lc : t.n ≤ t.c
  le : t.c ≤ 140737488351232
def RdT (w : World) (a : Option Addr) (ts : List Tx) : Prop := ∀ j (hj : j < ts.length), ∃ b o, a = some ⟨b, o, none⟩ ∧ TxOk w ts[j] ∧ w.cell? ⟨b, o + j, none⟩ = some (.slice ts[j].a ts[j].n ts[j].c)
theorem On.fresh' {S : Sd} {B g r : Nat} {w : World} (h : Wy S w g r (.slice none 0 0) [] []) (hB : B ≤ g) : On S B X0 w g r [] := ⟨_, _, h, fun b hb => ⟨(by
  rcases hb with hb | hb | ⟨e, he, -⟩
  · omega
  · cases hb
  · cases he), id⟩⟩
theorem size_op' : (Tryd.prog.info? tOp).map (·.size) = some 5 := by kernel_rfl
/-- a number brought into its range -/
theorem mod_in (x : Int) (n : Nat) (h : 0 < n) : ∃ (r : Int) (s : Nat), x.tmod (n : Int) = r ∧ -(n : Int) < r ∧ r < (n : Int) ∧ (r + (n : Int)).tmod (n : Int) = (s : Int) ∧ s < n := by
  have h1 : (0 : Int) < (n : Int) := by omega
  refine ⟨x.tmod n, ((x.tmod n + n).tmod n).toNat, rfl, Int.lt_tmod_of_pos x h1, Int.tmod_lt_of_pos x h1, ?_, ?_⟩
  · rw [Int.toNat_of_nonneg (Int.tmod_nonneg _ (by have := Int.lt_tmod_of_pos x h1; omega))]
  · have h2 := Int.tmod_lt_of_pos (x.tmod n + n) h1
    have h3 : 0 ≤ (x.tmod n + n).tmod n := Int.tmod_nonneg _ (by have := Int.lt_tmod_of_pos x h1; omega)
    omega
section
variable {w w' : World} {B B' p R : Nat} {X : Nat → Prop} {v v' : Value} {F : List Sc} {Bs : List Bk} {L : List Dgm}
theorem Bok.chg (h : Bok w B v F Bs) (hg : w.grownBy w' v.ownBlock) (b : Nat) (C : Array Value) (t : TypeId) (f : Nat × Nat) (hb : w.heap[b]? = some (.cells C t f)) (ht : t ≠ tSn) : w'.heap[b]? = w.heap[b]? :=
  hg.block b (Array.getElem?_eq_some_iff.1 hb).1 (fun e => by
    obtain ⟨cur, h1⟩ := h.row.at_ e.symm
    exact ht (ty_of hb h1))
theorem On.bk (h : On SP B X w p R L) (hb : Bok w B' v F Bs) (hg : w.grownBy w' v.ownBlock) : On SP B X w' p R L := h.tyk (fun b C t f h1 ht => hb.chg hg b C t f h1 (by rcases ht with rfl | rfl | rfl <;> decide))
theorem ByV.bk {d : Dc} {xs : List UInt8} (h : ByV w d xs) (hb : Bok w B' v F Bs) (hg : w.grownBy w' v.ownBlock) : ByV w' d xs := h.kept (fun ad e => by
  obtain ⟨cur, fr, h1⟩ := h.ty ad e
  exact hb.chg hg _ _ _ _ h1 (by decide))
theorem Bok.push (h : Bok w B v F Bs) (hg : w.grownBy w' v.ownBlock) {f : Sc} {b : Bk} (ho : OwnG KS w' B v' (F ++ [f])) (hf : f.at_ = b.at_ ∧ f.m = b.m ∧ ByV w' ⟨false, f.a, f.n, f.c⟩ (sl b) ∧ okBk b) : Bok w' B v' (F ++ [f]) (Bs ++ [b]) := by
  refine ⟨ho, by rw [List.length_append, List.length_append, h.len]; rfl, fun i f' b' he hd => ?_⟩
  rw [List.getElem?_append] at he hd
  rw [h.len] at he
  by_cases hi : i < Bs.length
  · rw [if_pos hi] at he hd
    obtain ⟨h1, h2, h3, h4⟩ := h.els i f' b' he hd
    exact ⟨h1, h2, h3.bk h hg, h4⟩
  · rw [if_neg hi] at he hd
    have h0 : i - Bs.length = 0 := by
      have := (List.getElem?_eq_some_iff.1 hd).1
      simp at this
      exact this
    rw [h0] at he hd
    simp at he hd
    subst he hd
    exact hf
theorem Bok.setk (h : Bok w B v F Bs) (hg : w.grownBy w' v.ownBlock) (k : Nat) {f : Sc} {b : Bk} (ho : OwnG KS w' B v (F.set k f)) (hf : f.at_ = b.at_ ∧ f.m = b.m ∧ ByV w' ⟨false, f.a, f.n, f.c⟩ (sl b) ∧ okBk b) : Bok w' B v (F.set k f) (Bs.set k b) := by
  refine ⟨ho, by rw [List.length_set, List.length_set, h.len], fun i f' b' he hd => ?_⟩
  rw [List.getElem?_set] at he hd
  by_cases hi : k = i
  · rw [if_pos hi] at he hd
    split at he
    · split at hd
      · cases he
        cases hd
        exact hf
      · cases hd
    · cases he
  · rw [if_neg hi] at he hd
    obtain ⟨h1, h2, h3, h4⟩ := h.els i f' b' he hd
    exact ⟨h1, h2, h3.bk h hg, h4⟩
theorem oLen' (h : On SP B X w p R L) {n : Nat} (hn : L.length = n) : Calls Tryd.prog 9 #[.pointer (some ⟨p, 0, none⟩)] w fun e w' => e = .returned (.int .i64 (n : Int)) ∧ w' = w := by
  subst hn
  exact oLen h
end
section
variable {R k : Nat} {Bs : List Bk} {b : Bk}
theorem inr_map (hk : k < Bs.length) : 0 ≤ (k : Int) ∧ (k : Int) < ((Bs.map toD).length : Int) := by rw [List.length_map]; omega
theorem get_map (hb : Bs[k]? = some b) : (Bs.map toD)[k]? = some (toD b) := by rw [List.getElem?_map, hb]; rfl
theorem plE_map (hk : k < Bs.length) : plE (Bs.map toD) k = 0 := by unfold plE; rw [if_pos (inr_map hk)]
theorem erase_map (l : List Bk) (k : Nat) : (l.map toD).eraseIdx k = (l.eraseIdx k).map toD := by
  rw [List.eraseIdx_eq_take_drop_succ, List.eraseIdx_eq_take_drop_succ, List.map_append, List.map_take, List.map_drop]
theorem dropL_map (hk : k < Bs.length) : dropL (Bs.map toD) k = (Bs.eraseIdx k).map toD := by
  unfold dropL
  rw [if_pos (inr_map hk), Int.toNat_natCast, erase_map]
theorem lookX_map (hb : Bs[k]? = some b) : lookX (Bs.map toD) k = (toD b).xs := by
  unfold lookX
  rw [if_pos (inr_map (List.getElem?_eq_some_iff.1 hb).1), Int.toNat_natCast, get_map hb]
  rfl
theorem dblE_map (hk : k < Bs.length) : dblE R (Bs.map toD) k = if Bs.length = R then 2 else 0 := by unfold dblE; rw [if_pos (inr_map hk), List.length_map]
theorem dblL_map (hb : Bs[k]? = some b) : dblL R (Bs.map toD) k = if Bs.length = R then Bs.map toD else (Bs ++ [b]).map toD := by
  unfold dblL
  rw [if_pos (inr_map (List.getElem?_eq_some_iff.1 hb).1), List.length_map, Int.toNat_natCast, get_map hb, List.map_append]
  rfl
theorem toD_xl (b : Bk) : (toD b).xs.length = (sl b).length := by unfold toD; rw [bst_len]
theorem trnE_map (hb : Bs[k]? = some b) (at_ : Int) (m : Nat) : trnE (Bs.map toD) k at_ m = if wOk (sl b).length at_ m then (if decide (b.m ≠ 0) then 3 else 0) else 1 := by
  unfold trnE
  rw [if_pos (inr_map (List.getElem?_eq_some_iff.1 hb).1), Int.toNat_natCast, get_map hb]
  simp only [toD_xl]
  rfl
theorem trnL_map (hb : Bs[k]? = some b) (at_ : Int) (m : Nat) : trnL (Bs.map toD) k at_ m = if wOk (sl b).length at_ m then (if decide (b.m ≠ 0) then Bs.map toD else (Bs.set k ⟨b.tx, at_, m⟩).map toD) else Bs.map toD := by
  unfold trnL
  rw [if_pos (inr_map (List.getElem?_eq_some_iff.1 hb).1), Int.toNat_natCast, get_map hb]
  simp only [toD_xl]
  by_cases h1 : wOk (sl b).length at_ m = true
  · rw [if_pos h1, if_pos h1]
    by_cases h2 : b.m = 0
    · have h3 : (toD b).tn = false := by unfold toD; simp [h2]
      have h4 : (toD b).xs = sl b := by unfold toD; simp only [h2, bst_zero]
      have h5 : m ≠ 0 := by unfold wOk at h1; simp at h1; exact h1.1
      have h6 : toD ⟨b.tx, at_, m⟩ = ⟨bst at_ m (sl b) 32, true⟩ := by
        unfold toD
        simp only [Dgm.mk.injEq]
        exact ⟨rfl, by simp [h5]⟩
      rw [h3, h4, List.map_set, h6]
      simp [h2]
    · have h3 : (toD b).tn = true := by unfold toD; simp [h2]
      rw [h3]
      simp [h2]
  · rw [if_neg h1, if_neg h1]
theorem putL_map {tx : List UInt8} (hl : tx.length ≤ 2044) : putE R (Bs.map toD) (tx ++ sealL tx) = (if Bs.length = R then 2 else 0) ∧ putL R (Bs.map toD) (tx ++ sealL tx) = if Bs.length = R then Bs.map toD else (Bs ++ [(⟨tx, 0, 0⟩ : Bk)]).map toD := by
  have h1 : ¬ 2048 < (tx ++ sealL tx).length := by simp [sealL]; omega
  unfold putE putL
  rw [if_neg h1, if_neg h1, List.length_map, List.map_append]
  refine ⟨rfl, ?_⟩
  simp only [List.map_cons, List.map_nil, toD_new]
end
end Go.Proofs.YtnpcgegcoakbmaaDoor
