import Derived.Test.YtnpcgegcoakbmaaDoorLEd
import Derived.Test.YtnpcgegcoakbmaaDoorTold
import Derived.Test.YtnpcgegcoakbmaaDoorUnseal
namespace Go.Proofs.YtnpcgegcoakbmaaDoor
set_option linter.unusedVariables false
set_option linter.unusedSimpArgs false
open Go.RowKit
/-- a row of the book, in memory -/
structure Sc where
  a : Option Addr
  n : Nat
  c : Nat
  at_ : Int
  m : Nat
abbrev tSn : TypeId := 48
abbrev scl (d : Sc) : List Value := [.slice d.a d.n d.c, .int .i64 d.at_, .int .u32 (d.m : Int)]
abbrev KS : Kd Sc := { t := 48, ts := 44, k := 3, by_ := 40, f := scl, z := .agg #[.slice none 0 0, .int .i64 0, .int .u32 0], hk := fun _ => rfl, h1 := (fun d u hu => by simp at hu; rcases hu with rfl | rfl | rfl <;> rfl), hpos := by decide, ht := Tryd.underlying44, hi := by kernel_rfl, hz := rfl }
/-- a row of the book -/
structure Bk where
  tx : List UInt8
  at_ : Int
  m : Nat
def sl (b : Bk) : List UInt8 := b.tx ++ sealL b.tx
def toD (b : Bk) : Dgm := ⟨bst b.at_ b.m (sl b) 32, decide (b.m ≠ 0)⟩
structure okBk (b : Bk) : Prop where
  l : b.tx.length ≤ 2044
  m : b.m < 4294967296
  a : -9223372036854775808 ≤ b.at_ ∧ b.at_ ≤ 9223372036854775807
  o : b.m ≠ 0 → okB (sl b).length b.at_ b.m = true
theorem sl_len (b : Bk) : (sl b).length = b.tx.length + 4 := by simp [sl, sealL]
theorem bst_zero (at_ : Int) (xs : List UInt8) : bst at_ 0 xs 32 = xs := by
  rw [bst_same]
  rintro ⟨j, -, h, -⟩
  simp at h
theorem toD_new (tx : List UInt8) : toD ⟨tx, 0, 0⟩ = ⟨tx ++ sealL tx, false⟩ := by
  unfold toD
  simp only [bst_zero]
  rfl
theorem toD_len (b : Bk) : (toD b).xs.length = b.tx.length + 4 := by unfold toD; rw [bst_len, sl_len]
/-- a burst of bits that are there is seen -/
theorem tch_ok {at_ : Int} {m n : Nat} (h0 : m ≠ 0) (hm : m < 4294967296) (h : okB n at_ m = true) : tch at_ m n := by
  obtain ⟨h1, h2, -⟩ := lowB_spec h0 hm
  rw [Nat.testBit_eq_decide_div_mod_eq] at h2
  have h3 : m / 2 ^ lowB m % 2 = 1 := by simpa using h2
  exact ⟨lowB m, h1, h3, (okB_iff n at_ m).1 h _ h1 h3⟩
theorem uns_toD (b : Bk) (h : okBk b) : unS (toD b).xs = if b.m = 0 then (b.tx, 0) else ([], 13) := by
  unfold toD
  by_cases h0 : b.m = 0
  · rw [if_pos h0]
    simp only [h0, bst_zero]
    exact unS_seal _
  · rw [if_neg h0]
    exact burst_told _ _ _ (tch_ok h0 h.m (h.o h0))
/-- the book in memory -/
structure Bok (w : World) (B : Nat) (v : Value) (F : List Sc) (Bs : List Bk) : Prop where
  row : OwnG KS w B v F
  len : F.length = Bs.length
  els : ∀ (i : Nat) f b, F[i]? = some f → Bs[i]? = some b → f.at_ = b.at_ ∧ f.m = b.m ∧ ByV w ⟨false, f.a, f.n, f.c⟩ (sl b) ∧ okBk b
section
variable {w w' : World} {B : Nat} {v : Value} {F : List Sc} {Bs : List Bk}
theorem Bok.kept (h : Bok w B v F Bs) (hk : ∀ (b : Nat) C t f, w.heap[b]? = some (.cells C t f) → (t = tSn ∨ t = 5) → w'.heap[b]? = w.heap[b]?) : Bok w' B v F Bs :=
  ⟨h.row.kept (fun b e => by obtain ⟨cur, h1⟩ := h.row.at_ e; exact hk b _ _ _ h1 (.inl rfl)), h.len, fun i f b hf hb => by
    obtain ⟨h1, h2, h3, h4⟩ := h.els i f b hf hb
    exact ⟨h1, h2, h3.kept (fun ad e => by obtain ⟨cur, fr, h5⟩ := h3.ty ad e; exact hk _ _ _ _ h5 (.inr rfl)), h4⟩⟩
theorem Bok.below (h : Bok w B v F Bs) (hb : Below w.heap.size w w') : Bok w' B v F Bs := h.kept (fun b C t f h1 _ => hb.block b (Array.getElem?_eq_some_iff.1 h1).1)
theorem Bok.fr {B' : Nat} (h : Bok w B v F Bs) (hf : Fr SP B' w w') : Bok w' B v F Bs := h.kept (fun b C t f h1 ht => hf.ty b C t f h1 (by rcases ht with rfl | rfl <;> decide) (by rcases ht with rfl | rfl <;> decide))
theorem Bok.at_ (h : Bok w B v F Bs) {g n c k : Nat} {b : Bk} (hv : v = .slice (some ⟨g, 0, none⟩) n c) (hb : Bs[k]? = some b) : ∃ f : Sc, F[k]? = some f ∧ w.cell? ⟨g, k * 3, none⟩ = some (.slice f.a f.n f.c) ∧ w.cell? ⟨g, k * 3 + 1, none⟩ = some (.int .i64 b.at_) ∧ w.cell? ⟨g, k * 3 + 2, none⟩ = some (.int .u32 (b.m : Int)) ∧ f.at_ = b.at_ ∧ f.m = b.m ∧ ByV w ⟨false, f.a, f.n, f.c⟩ (sl b) ∧ okBk b := by
  have hk : k < Bs.length := (List.getElem?_eq_some_iff.1 hb).1
  have hkF : k < F.length := by rw [h.len]; exact hk
  have ho := h.row
  rw [hv] at ho
  have hn : n = F.length := by
    obtain ⟨a, c, h1, -⟩ := ho.val
    cases h1
    rfl
  obtain ⟨h1, h2, h3, h4⟩ := h.els k F[k] b (List.getElem?_eq_getElem hkF) hb
  refine ⟨F[k], List.getElem?_eq_getElem hkF, ho.cell hn k 0 hkF (by decide), ?_, ?_, h1, h2, h3, h4⟩
  · rw [← h1]; exact ho.cell hn k 1 hkF (by decide)
  · rw [← h2]; exact ho.cell hn k 2 hkF (by decide)
theorem Bok.rowat (h : Bok w B v F Bs) {g n c k : Nat} {f : Sc} (hv : v = .slice (some ⟨g, 0, none⟩) n c) (hf : F[k]? = some f) : w.rangeAt g (k * 3) (scl f) := fun q u hu => by
  have hkF : k < F.length := (List.getElem?_eq_some_iff.1 hf).1
  have ho := h.row
  rw [hv] at ho
  have hn : n = F.length := by
    obtain ⟨a, c, h1, -⟩ := ho.val
    cases h1
    rfl
  have hq : q < 3 := by have := (List.getElem?_eq_some_iff.1 hu).1; simpa using this
  have h9 := ho.cell hn k q hkF hq
  have h8 : F[k] = f := Option.some.inj ((List.getElem?_eq_getElem hkF).symm.trans hf)
  rw [h8] at h9
  exact h9.trans hu
end
theorem On.tyk {S : Sd} {B : Nat} {X : Nat → Prop} {w w' : World} {p R : Nat} {L : List Dgm} (h : On S B X w p R L) (hk : ∀ (b : Nat) C t f, w.heap[b]? = some (.cells C t f) → (t = S.tW ∨ t = S.K.t ∨ t = 5) → w'.heap[b]? = w.heap[b]?) : On S B X w' p R L := by
  obtain ⟨v, E, h1, hf⟩ := h
  refine ⟨v, E, h1.kept (fun b hb => ?_), hf⟩
  rcases hb with rfl | hb | ⟨e, he, ad, ha, rfl⟩
  · exact hk _ _ _ _ h1.hp (.inl rfl)
  · obtain ⟨cur, h3⟩ := h1.row.at_ hb
    exact hk _ _ _ _ h3 (.inr (.inl rfl))
  · obtain ⟨xs, hx⟩ := h1.mem he
    obtain ⟨cur, fr, h3⟩ := hx.ty ad ha
    exact hk _ _ _ _ h3 (.inr (.inr rfl))
section
variable {w w' : World} {B : Nat} {v : Value} {F : List Sc} {Bs : List Bk}
set_option maxRecDepth 20000 in
set_option maxHeartbeats 1600000 in
theorem inside_t (n : Nat) (at_ : Int) (m : Nat) (hn : n ≤ 2048) (hm : m < 4294967296) (ha0 : -9223372036854775808 ≤ at_) (ha1 : at_ ≤ 9223372036854775807) :
    Calls Tryd.prog 19 #[.int .i64 (n : Int), .int .i64 at_, .int .u32 (m : Int)] w fun e w' => e = .returned (.bool (okB n at_ m)) ∧ w' = w := by
  have HI : Hid _ := okB_iff n at_ m
  go_enter Tryd.func19, Tryd.ntmps19
  go_wp2
  go_loop [7] (fun i => ∃ k : Nat, k ≤ 32 ∧ i = .int .i64 k ∧ Hid (∀ j : Nat, j < k → m / 2 ^ j % 2 = 1 → 0 ≤ at_ + j ∧ at_ + j < 8 * n)) (fun i => 32 - (intOf i).toNat)
  case atStart => exact ⟨0, by omega, rfl, fun j hj => by omega⟩
  case round =>
    obtain ⟨k, hk, rfl, HA⟩ := hrel
    by_cases hlt : k < 32
    · obtain ⟨bq, hbq⟩ : ∃ bq : Nat, bq = m / 2 ^ k := ⟨_, rfl⟩
      have hbI : (m : Int) / 2 ^ k = (bq : Int) := by rw [hbq]; simp
      have hbl : bq < 4294967296 := by rw [hbq]; exact Nat.lt_of_le_of_lt (Nat.div_le_self _ _) (by omega)
      have hand := u32_and1b bq hbl
      have HQ : Hid _ := hbq
      clear hbq
      by_cases hb : bq % 2 = 1
      · have hbb : ((bq : Int) % 2 == 1) = true := by simp; omega
        by_cases h1 : at_ < -(k : Int)
        · have HF : Hid (okB n at_ m = false) := by
            rcases hq : okB n at_ m with _ | _
            · rfl
            · have := HI.out.1 hq k hlt (by rw [← HQ.out]; exact hb)
              omega
          go_wp2
          go_ret
          rw [HF.out]
          exact ⟨rfl, rfl⟩
        · by_cases h2 : 8 * (n : Int) - 1 - (k : Int) < at_
          · have HF : Hid (okB n at_ m = false) := by
              rcases hq : okB n at_ m with _ | _
              · rfl
              · have := HI.out.1 hq k hlt (by rw [← HQ.out]; exact hb)
                omega
            go_wp2
            go_ret
            rw [HF.out]
            exact ⟨rfl, rfl⟩
          · have HA2 : Hid (∀ j : Nat, j < k + 1 → m / 2 ^ j % 2 = 1 → 0 ≤ at_ + j ∧ at_ + j < 8 * n) := fun j hj hbj => by
              by_cases e : j = k
              · subst e; omega
              · exact HA.out j (by omega) hbj
            go_wp2
            go_round
            case rel => exact ⟨k + 1, by omega, by go_num, HA2⟩
            case measure => simp [intOf]; omega
      · have hbb : ((bq : Int) % 2 == 1) = false := by simp; omega
        have HA2 : Hid (∀ j : Nat, j < k + 1 → m / 2 ^ j % 2 = 1 → 0 ≤ at_ + j ∧ at_ + j < 8 * n) := fun j hj hbj => by
          by_cases e : j = k
          · subst e; rw [← HQ.out] at hbj; omega
          · exact HA.out j (by omega) hbj
        go_wp2
        go_round
        case rel => exact ⟨k + 1, by omega, by go_num, HA2⟩
        case measure => simp [intOf]; omega
    · obtain rfl : k = 32 := by omega
      have HF : Hid (okB n at_ m = true) := HI.out.2 HA.out
      go_wp2
      go_ret
      rw [HF.out]
      exact ⟨rfl, rfl⟩
set_option maxRecDepth 20000 in
set_option maxHeartbeats 1600000 in
theorem now_t (f : Sc) (xs : List UInt8) (hb : ByV w ⟨false, f.a, f.n, f.c⟩ xs) (hl : xs.length ≤ 2048) (hm : f.m < 4294967296) (ha : -9223372036854775808 ≤ f.at_ ∧ f.at_ ≤ 9223372036854775807) :
    Calls Tryd.prog 21 #[.agg #[.slice f.a f.n f.c, .int .i64 f.at_, .int .u32 (f.m : Int)]] w fun e w' => ∃ u, e = .returned u ∧ Own w' w.heap.size u (bst f.at_ f.m xs 32) ∧ Below w.heap.size w w' := by
  obtain ⟨a, n, c, at_, m⟩ := f
  have hn := hb.n
  simp only at hn hm ha
  subst hn
  obtain ⟨ha0, ha1⟩ := ha
  have HB : Hid _ := hb.below (al (Below.refl _ w) (.cells #[.slice a xs.length c, .int .i64 at_, .int .u32 (m : Int)] tSn))
  have HA : Hid (Below w.heap.size w (w.alloc (.cells #[.slice a xs.length c, .int .i64 at_, .int .u32 (m : Int)] tSn))) := al (Below.refl _ w) _
  clear hb
  go_enter Tryd.func21, Tryd.ntmps21
  go_wp2_with (go_at_call 16; refine Calls.mono (burst_any a c xs at_ m _ HB.out.rd HB.out.nil (by omega) ha0 ha1 (by omega)) ?_; rintro e w1 ⟨u, rfl, hown, hb1⟩; have HO : Hid _ := hown; have HB1 : Hid _ := hb1; clear hown hb1)
  go_ret
  exact ⟨u, rfl, Own.base HO.out (HA.out.size), below_next HA.out HB1.out⟩
set_option maxRecDepth 20000 in
set_option maxHeartbeats 1600000 in
theorem without_t (h : Bok w B v F Bs) (k : Nat) (hk : k < Bs.length) (hN : Bs.length ≤ 1024) (hB : B ≤ w.heap.size) :
    Calls Tryd.prog 18 #[v, .int .i64 (k : Int)] w fun e w' => ∃ v', e = .returned v' ∧ Bok w' B v' (F.eraseIdx k) (Bs.eraseIdx k) ∧ Below w.heap.size w w' := by
  have HW : Hid _ := h
  obtain ⟨g, c, hv, hNc, -, -, -⟩ := h.row.one (by rw [h.len]; omega)
  rw [h.len] at hv hNc
  obtain ⟨N, hNN⟩ : ∃ N, N = Bs.length := ⟨_, rfl⟩
  rw [← hNN] at hv hk hNc hN
  subst hv
  obtain ⟨j, hj⟩ : ∃ j, j = k + 1 := ⟨_, rfl⟩
  have hk1 : ((k : Int) + 1) = (j : Int) := by omega
  have hkm : k < 1024 := by omega
  have hk0 : (0 : Int) ≤ (k : Int) := by omega
  have hj0 : (0 : Int) ≤ (j : Int) := by omega
  have hkc : (k : Int) ≤ (c : Int) := by omega
  have hkcn : k ≤ c := by omega
  have hkn : (k : Int) ≤ (N : Int) := by omega
  have hjn : (j : Int) ≤ (N : Int) := by omega
  have hjnn : j ≤ N := by omega
  have hjc : (j : Int) ≤ (c : Int) := by omega
  have hjcn : j ≤ c := by omega
  have hck : ¬ c = k := by omega
  have hNk : ¬ N = k := by omega
  have HJ : Hid _ := hj
  have HNE : Hid (N = F.length) := by rw [h.len]; exact hNN
  have hrd0 := h.row
  rw [HNE.out] at hrd0
  have HRD : Hid (RdG KS w (some ⟨g, 0, none⟩) F) := OwnG.rd hrd0
  clear h hNN hj hrd0
  by_cases hcj : c = j
  · obtain rfl : N = j := by omega
    subst hcj
    go_enter Tryd.func18, Tryd.ntmps18
    go_wp2_with (first | (at_builtin; refine wp_appG (K := KS) rfl _ _ rfl w.heap.size (.slice none 0 0) [] (F.take k) k (some ⟨g, 0, none⟩) c (by rw [List.length_take]; have := HNE.out; omega) rfl (World.ownsRow_nil _ _ _ _) rfl (RdG.take HRD.out k) (fun h => by cases h) (by show (0 + k) * 40 ≤ _; omega) (by simp only [maxLen, List.length_nil]; omega) (Nat.le_refl _) ?_; intro v2 w2 hown2 hg2; rw [List.nil_append] at hown2; obtain ⟨a2, c2, hv2, -⟩ := hown2.val; have hl2 : (F.take k).length = k := (by rw [List.length_take]; have := HNE.out; omega); rw [hl2] at hv2; subst hv2; have hb2 : Below w.heap.size w w2 := (Below.refl _ _).grown hg2 (Nat.le_refl _) (fun b hb => by cases hb); have HO2 : Hid _ := hown2; have HB2 : Hid _ := hb2; clear hown2 hg2 hb2) | (at_builtin; refine wp_appG (K := KS) rfl _ _ rfl w.heap.size (.slice a2 k c2) (F.take k) (F.drop c) _ _ _ (by rw [List.length_drop]; have := HNE.out; omega) rfl HO2.out rfl (by rw [List.drop_eq_nil_of_le (by have := HNE.out; omega)]; exact RdG.nil _ _) (fun h => by cases h) (by rw [List.length_take]; show (_ + _) * 40 ≤ _; have := HNE.out; omega) (by rw [List.length_take]; simp only [maxLen]; have := HNE.out; omega) HB2.out.size ?_; intro v3 w3 hown3 hg3; have hb3 : Below w.heap.size w w3 := HB2.out.grown hg3 HB2.out.size (fun b hb => (OwnG.lt' HO2.out hb).1); have HO3 : Hid _ := hown3; have HB3 : Hid _ := hb3; clear hown3 hg3 hb3))
    go_ret
    have he : F.eraseIdx k = F.take k ++ F.drop c := by rw [List.eraseIdx_eq_take_drop_succ, HJ.out]
    have hkF : k < F.length := by have := HNE.out; omega
    refine ⟨v3, rfl, ⟨?_, ?_, fun i f b hf hb => ?_⟩, HB3.out⟩
    · rw [he]; exact OwnG.base HO3.out hB
    · rw [List.length_eraseIdx_of_lt hkF, List.length_eraseIdx_of_lt (by rw [← HW.out.len]; exact hkF), HW.out.len]
    · have h9 := HW.out.below HB3.out
      rw [List.getElem?_eraseIdx] at hf hb
      by_cases hi : i < k
      · rw [if_pos hi] at hf hb
        exact h9.els i f b hf hb
      · rw [if_neg hi] at hf hb
        exact h9.els (i + 1) f b hf hb
  · go_enter Tryd.func18, Tryd.ntmps18
    go_wp2_with (first | (at_builtin; refine wp_appG (K := KS) rfl _ _ rfl w.heap.size (.slice none 0 0) [] (F.take k) k (some ⟨g, 0, none⟩) c (by rw [List.length_take]; have := HNE.out; omega) rfl (World.ownsRow_nil _ _ _ _) rfl (RdG.take HRD.out k) (fun h => by cases h) (by show (0 + k) * 40 ≤ _; omega) (by simp only [maxLen, List.length_nil]; omega) (Nat.le_refl _) ?_; intro v2 w2 hown2 hg2; rw [List.nil_append] at hown2; obtain ⟨a2, c2, hv2, -⟩ := hown2.val; have hl2 : (F.take k).length = k := (by rw [List.length_take]; have := HNE.out; omega); rw [hl2] at hv2; subst hv2; have hb2 : Below w.heap.size w w2 := (Below.refl _ _).grown hg2 (Nat.le_refl _) (fun b hb => by cases hb); have HO2 : Hid _ := hown2; have HB2 : Hid _ := hb2; clear hown2 hg2 hb2) | (at_builtin; refine wp_appG (K := KS) rfl _ _ rfl w.heap.size (.slice a2 k c2) (F.take k) (F.drop j) _ _ _ (by rw [List.length_drop]; have := HNE.out; omega) rfl HO2.out rfl (by have h9 := RdG.drop (HRD.out.below HB2.out) j; rw [Nat.zero_add] at h9; exact h9) (fun h => by cases h) (by rw [List.length_take]; show (_ + _) * 40 ≤ _; have := HNE.out; omega) (by rw [List.length_take]; simp only [maxLen]; have := HNE.out; omega) HB2.out.size ?_; intro v3 w3 hown3 hg3; have hb3 : Below w.heap.size w w3 := HB2.out.grown hg3 HB2.out.size (fun b hb => (OwnG.lt' HO2.out hb).1); have HO3 : Hid _ := hown3; have HB3 : Hid _ := hb3; clear hown3 hg3 hb3))
    go_ret
    have he : F.eraseIdx k = F.take k ++ F.drop j := by rw [List.eraseIdx_eq_take_drop_succ, HJ.out]
    have hkF : k < F.length := by have := HNE.out; omega
    refine ⟨v3, rfl, ⟨?_, ?_, fun i f b hf hb => ?_⟩, HB3.out⟩
    · rw [he]; exact OwnG.base HO3.out hB
    · rw [List.length_eraseIdx_of_lt hkF, List.length_eraseIdx_of_lt (by rw [← HW.out.len]; exact hkF), HW.out.len]
    · have h9 := HW.out.below HB3.out
      rw [List.getElem?_eraseIdx] at hf hb
      by_cases hi : i < k
      · rw [if_pos hi] at hf hb
        exact h9.els i f b hf hb
      · rw [if_neg hi] at hf hb
        exact h9.els (i + 1) f b hf hb
end
end Go.Proofs.YtnpcgegcoakbmaaDoor
