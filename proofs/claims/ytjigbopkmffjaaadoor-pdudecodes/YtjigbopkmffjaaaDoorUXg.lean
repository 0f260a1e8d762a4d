import Derived.Test.YtjigbopkmffjaaaDoorRefUns
import Derived.Test.YtjigbopkmffjaaaDoorUGs
namespace Go.Proofs.YtjigbopkmffjaaaDoor
set_option linter.unusedVariables false
set_option linter.unusedSimpArgs false
open Go.RowKit
/-- the document's Reader: its memory lies from block B on, below block N -/
def DX (w : World) (q B N : Nat) (ys : List UInt8) (f : Int) : Prop := ∃ D ao cap, RefAt w q D ao cap ys f ∧ B ≤ q ∧ q < N ∧ ∀ d, D = some d → B ≤ d ∧ d < N
theorem DX.grown {w w' : World} {q B N : Nat} {ys : List UInt8} {f : Int} {r : Nat} (h : DX w q B N ys f) (hg : w.grownBy w' (some r)) (hr : r < B ∨ N ≤ r) : DX w' q B N ys f := by
  obtain ⟨D, ao, cap, h1, h2, h3, h4⟩ := h
  exact ⟨D, ao, cap, h1.grown hg (by simp; omega) (fun d hd => by have := h4 d hd; simp; omega), h2, h3, h4⟩
theorem DX.grownO {w w' : World} {q B N : Nat} {ys : List UInt8} {f : Int} {row : Option Nat} (h : DX w q B N ys f) (hg : w.grownBy w' row) (hr : ∀ r, row = some r → r < B ∨ N ≤ r) : DX w' q B N ys f := by
  cases row with
  | none => exact h.grown (hg.any (some N)) (.inr (Nat.le_refl _))
  | some r => exact h.grown hg (hr r rfl)
theorem DX.below {w w' : World} {q B N : Nat} {ys : List UInt8} {f : Int} (h : DX w q B N ys f) (hb : Below w.heap.size w w') : DX w' q B N ys f := by
  obtain ⟨D, ao, cap, h1, h2⟩ := h
  exact ⟨D, ao, cap, h1.below hb, h2⟩
theorem DX.set {w : World} {q B N : Nat} {ys : List UInt8} {f : Int} (h : DX w q B N ys f) (r i : Nat) (v : Value) (hr : r < B ∨ N ≤ r) : DX (w.setCell ⟨r, i, none⟩ v) q B N ys f := h.grown (gr_set (World.grownBy.refl _ _) _ _) hr
theorem DX.lt {w : World} {q B N : Nat} {ys : List UInt8} {f : Int} (h : DX w q B N ys f) : B ≤ q ∧ q < N := by obtain ⟨_, _, _, _, h2, h3, _⟩ := h; exact ⟨h2, h3⟩
theorem DX.c1 {w : World} {q B N : Nat} {ys : List UInt8} {f : Int} (h : DX w q B N ys f) : w.cell? ⟨q, 1, none⟩ = some (.int .i64 f) := by obtain ⟨_, _, _, h1, _⟩ := h; exact h1.c1
theorem DX.c0 {w : World} {q B N : Nat} {ys : List UInt8} {f : Int} (h : DX w q B N ys f) : ∃ ao cap, w.cell? ⟨q, 0, none⟩ = some (.slice ao ys.length cap) := by obtain ⟨_, _, _, h1, _⟩ := h; exact ⟨_, _, h1.c0⟩
theorem newX (ao : Option Addr) (cap : Nat) (xs : List UInt8) (w : World) (hx : Rd w ao xs) (hnil : ao = none → cap = 0) (hl : xs.length ≤ 140737488355328) :
    Calls Tryd.prog 47 #[.slice ao xs.length cap] w fun e w' => ∃ q, e = .returned (.pointer (some ⟨q, 0, none⟩)) ∧ DX w' q w.heap.size w'.heap.size xs 0 ∧ Below w.heap.size w w' := by
  refine (new_d ao cap xs w hx hnil hl).mono ?_
  rintro e w' ⟨q, D, ao', cap', rfl, h1, h2, h3, h4⟩
  exact ⟨q, rfl, ⟨D, ao', cap', h1, h3, World.block_lt_of_cell? w' _ h1.c0, fun d hd => h4 d hd⟩, h2⟩
theorem number_x {q B N m n1 : Nat} {ys ys1 : List UInt8} {f f1 : Int} (w : World) (h : DX w q B N ys f) (hn : nmS m (ys, f) = (n1, ys1, f1)) :
    Calls Tryd.prog 49 #[.pointer (some ⟨q, 0, none⟩), .int .u64 m] w fun e w' => e = .returned (.int .u64 (n1 : Nat)) ∧ DX w' q B N ys1 f1 ∧ w.grownBy w' (some q) := by
  obtain ⟨D, ao, cap, h1, h2, h3⟩ := h
  refine (number_d m w h1).mono ?_
  rintro e w' ⟨rfl, ⟨ao', cap', k1⟩, k2⟩
  unfold nmS at hn
  simp only [Prod.mk.injEq] at hn
  obtain ⟨rfl, rfl, rfl⟩ := hn
  exact ⟨rfl, ⟨D, ao', cap', k1, h2, h3⟩, k2⟩
theorem bytes_x {q B N : Nat} {ys ys1 d : List UInt8} {f f1 : Int} (n : Int) (hn64 : n ≤ 9223372036854775807) (w : World) (h : DX w q B N ys f) (hn : byS n (ys, f) = (d, ys1, f1)) :
    Calls Tryd.prog 51 #[.pointer (some ⟨q, 0, none⟩), .int .i64 n] w fun e w' => ∃ a c, e = .returned (.slice a d.length c) ∧ Own w' w.heap.size (.slice a d.length c) d ∧ DX w' q B N ys1 f1 ∧ w.grownBy w' (some q) := by
  obtain ⟨D, ao, cap, h1, h2, h3⟩ := h
  refine (bytes_d n hn64 w h1).mono ?_
  rintro e w' ⟨v, rfl, k0, ⟨ao', cap', k1⟩, k2⟩
  unfold byS at hn
  simp only [Prod.mk.injEq] at hn
  obtain ⟨rfl, rfl, rfl⟩ := hn
  obtain ⟨a, c, rfl, -⟩ := k0.val
  exact ⟨a, c, rfl, k0, ⟨D, ao', cap', k1, h2, h3⟩, k2⟩
theorem fail_x {q B N : Nat} {ys : List UInt8} {f : Int} (g : Int) (w : World) (h : DX w q B N ys f) :
    Calls Tryd.prog 53 #[.pointer (some ⟨q, 0, none⟩), .int .i64 g] w fun e w' => e = .returned (.tuple #[]) ∧ DX w' q B N ys (if f = 0 then g else f) ∧ w.grownBy w' (some q) := by
  obtain ⟨D, ao, cap, h1, h2, h3⟩ := h
  refine (fail_d g w h1).mono ?_
  rintro e w' ⟨rfl, k1, k2⟩
  exact ⟨rfl, ⟨D, ao, cap, k1, h2, h3⟩, k2⟩
theorem want_x {q B N : Nat} {ys : List UInt8} {f : Int} (r : Bool) (w : World) (h : DX w q B N ys f) :
    Calls Tryd.prog 50 #[.pointer (some ⟨q, 0, none⟩), .bool r] w fun e w' => e = .returned (.tuple #[]) ∧ DX w' q B N ys (mustF r f) ∧ w.grownBy w' (some q) := by
  cases r
  · go_enter Tryd.func50, Tryd.ntmps50
    go_wp2_with fail
    refine (fail_x 30 w h).mono ?_
    rintro e w' ⟨rfl, k1, k2⟩
    go_wp2
    go_end0
    exact ⟨rfl, by unfold mustF; simpa using k1, k2⟩
  · go_enter Tryd.func50, Tryd.ntmps50
    go_wp2
    go_end0
    exact ⟨rfl, by unfold mustF; simpa using h, World.grownBy.refl _ _⟩
theorem new_x (ao : Option Addr) (n cap : Nat) (xs : List UInt8) (hn : n = xs.length) (w : World) (hx : Rd w ao xs) (hnil : ao = none → cap = 0) (hl : n ≤ 140737488355328) :
    Calls Tryd.prog 47 #[.slice ao n cap] w fun e w' => ∃ q, e = .returned (.pointer (some ⟨q, 0, none⟩)) ∧ DX w' q w.heap.size w'.heap.size xs 0 ∧ Below w.heap.size w w' := by
  subst hn
  exact newX ao cap xs w hx hnil hl
/-- the document's small -/
def smD (lo hi : Nat) (z : List UInt8 × Int) : Nat × List UInt8 × Int :=
  let a := nmS mxU z
  let g := mustF (decide (lo ≤ a.1 ∧ a.1 ≤ hi)) a.2.2
  (if g = 0 then a.1 else 0, a.2.1, g)
theorem smD_f {lo hi : Nat} {ys : List UInt8} {f : Int} (hf : ¬ f = 0) : smD lo hi (ys, f) = (0, ys, f) := by
  unfold smD
  rw [nmS_ff hf]
  simp only
  rw [mustF_ff hf, if_neg hf]
theorem smD_le {lo hi n : Nat} {z s : List UInt8 × Int} (h : smD lo hi z = (n, s)) : n ≤ hi ∧ n ≤ 281474976710655 := by
  obtain ⟨n1, y1, f1, e1⟩ : ∃ n y g, nmS mxU z = (n, y, g) := ⟨_, _, _, rfl⟩
  have h1 := nmS_le e1
  unfold smD at h
  rw [e1] at h
  simp only [Prod.mk.injEq] at h
  obtain ⟨rfl, -⟩ := h
  by_cases hg : mustF (decide (lo ≤ n1 ∧ n1 ≤ hi)) f1 = 0
  · rw [if_pos hg]
    have := decide_eq_true_iff.1 (mustF_inv hg).1
    exact ⟨this.2, h1⟩
  · rw [if_neg hg]
    exact ⟨Nat.zero_le _, Nat.zero_le _⟩
section
set_option maxRecDepth 20000
set_option maxHeartbeats 1600000
theorem small_x {q B N n1 : Nat} {ys y1 : List UInt8} {f f1 : Int} (lo hi : Nat) (hlo : lo ≤ 1000) (hhi : hi ≤ 1000) (w : World) (h : DX w q B N ys f) (hn : smD lo hi (ys, f) = (n1, y1, f1)) :
    Calls Tryd.prog 48 #[.pointer (some ⟨q, 0, none⟩), .int .i64 (lo : Nat), .int .i64 (hi : Nat)] w fun e w' => e = .returned (.int .i64 (n1 : Nat)) ∧ DX w' q B N y1 f1 ∧ w.grownBy w' (some q) := by
  obtain ⟨m, z1, g1, e1⟩ : ∃ n y g, nmS mxU (ys, f) = (n, y, g) := ⟨_, _, _, rfl⟩
  have hm : m ≤ 281474976710655 := nmS_le e1
  unfold smD at hn
  rw [e1] at hn
  simp only [Prod.mk.injEq] at hn
  obtain ⟨hn1, rfl, hf1⟩ := hn
  obtain ⟨b, hb⟩ : ∃ b : Bool, b = decide (lo ≤ m ∧ m ≤ hi) := ⟨_, rfl⟩
  rw [← hb] at hn1 hf1
  have hlw : IntKind.u64.wrap (lo : Int) = (lo : Int) := by rw [IntKind.wrap_u64]; omega
  have hhw : IntKind.u64.wrap (hi : Int) = (hi : Int) := by rw [IntKind.wrap_u64]; omega
  have hmw : IntKind.i64.wrap (m : Int) = (m : Int) := by rw [IntKind.wrap_i64]; omega
  have HB : Hid (b = decide (lo ≤ m ∧ m ≤ hi)) := hb
  have HN1 : Hid ((if f1 = 0 then m else 0) = n1) := by unfold Hid; rw [← hf1]; exact hn1
  have HF1 : Hid (mustF b g1 = f1) := hf1
  have HC : Hid _ := number_x (m := mxU) w h e1
  clear h hm e1 hn1 hf1 hb hlo hhi
  go_enter Tryd.func48, Tryd.ntmps48
  go_wp2_with fail
  refine Calls.mono HC.out ?_
  rintro er w1 ⟨rfl, hd1, hg1⟩
  have HD1 : Hid (DX w1 q B N z1 g1) := hd1
  have HG1 : Hid (w.grownBy w1 (some q)) := hg1
  clear hd1 hg1
  have HW : Hid (Calls Tryd.prog 50 #[.pointer (some ⟨q, 0, none⟩), .bool b] w1 fun e w' => e = .returned (.tuple #[]) ∧ DX w' q B N z1 f1 ∧ w1.grownBy w' (some q)) := by
    have h9 := want_x b w1 HD1.out
    rw [HF1.out] at h9
    exact h9
  have fin : ∀ w2, DX w2 q B N z1 f1 → w1.grownBy w2 (some q) → w.grownBy w2 (some q) := fun w2 _ h2 => grown_step HG1.out h2 (.inl rfl)
  have HFIN : Hid _ := fin
  clear fin HC
  by_cases h1 : lo ≤ m
  · have h1I : (lo : Int) ≤ (m : Int) := by omega
    by_cases h2 : m ≤ hi
    · have h2I : (m : Int) ≤ (hi : Int) := by omega
      obtain rfl : b = true := by rw [HB.out]; exact decide_eq_true ⟨h1, h2⟩
      clear h1 h2 HB
      go_wp2_with fail
      refine Calls.mono HW.out ?_
      rintro er w2 ⟨rfl, hd2, hg2⟩
      have c1 := hd2.c1
      have HD2 : Hid (DX w2 q B N z1 f1) := hd2
      have HG2 : Hid _ := HFIN.out w2 hd2 hg2
      clear hd2 hg2 h1I h2I
      by_cases hf : f1 = 0
      · have hn9 : m = n1 := by rw [← HN1.out, if_pos hf]
        subst hn9
        subst hf
        go_wp2
        go_ret
        exact ⟨rfl, HD2.out, HG2.out⟩
      · have hn9 : 0 = n1 := by rw [← HN1.out, if_neg hf]
        have hfb : (f1 == 0) = false := by simpa using hf
        subst hn9
        go_wp2
        go_ret
        exact ⟨rfl, HD2.out, HG2.out⟩
    · have h2I : ¬ (m : Int) ≤ (hi : Int) := by omega
      obtain rfl : b = false := by rw [HB.out]; exact decide_eq_false fun h => h2 h.2
      have hf : ¬ f1 = 0 := by rw [← HF1.out]; exact mustF_bad rfl
      have hn9 : 0 = n1 := by rw [← HN1.out, if_neg hf]
      have hfb : (f1 == 0) = false := by simpa using hf
      subst hn9
      have h2d : decide (m ≤ hi) = false := decide_eq_false h2
      clear h1 h2 HB
      go_wp2_with fail
      refine Calls.mono HW.out ?_
      rintro er w2 ⟨rfl, hd2, hg2⟩
      have c1 := hd2.c1
      have HD2 : Hid (DX w2 q B N z1 f1) := hd2
      have HG2 : Hid _ := HFIN.out w2 hd2 hg2
      clear hd2 hg2 h1I h2I
      go_wp2
      go_ret
      exact ⟨rfl, HD2.out, HG2.out⟩
  · have h1I : ¬ (lo : Int) ≤ (m : Int) := by omega
    obtain rfl : b = false := by rw [HB.out]; exact decide_eq_false fun h => h1 h.1
    have hf : ¬ f1 = 0 := by rw [← HF1.out]; exact mustF_bad rfl
    have hn9 : 0 = n1 := by rw [← HN1.out, if_neg hf]
    have hfb : (f1 == 0) = false := by simpa using hf
    subst hn9
    clear h1 HB
    go_wp2_with fail
    refine Calls.mono HW.out ?_
    rintro er w2 ⟨rfl, hd2, hg2⟩
    have c1 := hd2.c1
    have HD2 : Hid (DX w2 q B N z1 f1) := hd2
    have HG2 : Hid _ := HFIN.out w2 hd2 hg2
    clear hd2 hg2 h1I
    go_wp2
    go_ret
    exact ⟨rfl, HD2.out, HG2.out⟩
end
end Go.Proofs.YtjigbopkmffjaaaDoor
namespace Go.Proofs.YtjigbopkmffjaaaDoor
set_option linter.unusedVariables false
set_option linter.unusedSimpArgs false
open Go.RowKit
/-- Encode of a unit that is one -/
theorem encV (k e s p i c : Int) (da : Option Addr) (dn dc : Nat) (cd : Int) (ga : Option Addr) (gn gc : Nat) (ds : List UInt8) (l : List Rg) (hdn : dn = ds.length) (hgn : gn = l.length) (hv : validV ⟨k, e, s, p, i, c, ds, cd, l⟩) (w : World) (hd : Rd w da ds) (hdnil : da = none → dc = 0) (hx : RdR w ga l) (hl : gn ≤ 8796093022208) (hc : gn ≤ gc) (ht : TabOk w) :
    Calls Tryd.prog 9 #[.agg #[.int .i64 k, .int .u64 e, .int .u64 s, .int .i64 p, .int .i64 i, .int .i64 c, .slice da dn dc, .int .i64 cd, .slice ga gn gc]] w fun er w' => EncOwn (encT ⟨k, e, s, p, i, c, ds, cd, l⟩) w er w' := by
  have hv' : validR k e s p i c dn cd gn l := by rw [hdn, hgn]; exact hv
  have hv2 := hv'
  obtain ⟨⟨hE, hS⟩, hk⟩ := hv2
  unfold nameOk at hE hS
  obtain ⟨E, rfl⟩ : ∃ E : Nat, e = (E : Int) := ⟨e.toNat, by omega⟩
  obtain ⟨S, rfl⟩ : ∃ S : Nat, s = (S : Int) := ⟨s.toNat, by omega⟩
  rcases hk with ⟨rfl, h⟩ | ⟨rfl, h⟩ | ⟨rfl, h⟩
  · obtain ⟨C, rfl⟩ : ∃ C : Nat, c = (C : Int) := ⟨c.toNat, by omega⟩
    obtain ⟨I, rfl⟩ : ∃ I : Nat, i = (I : Int) := ⟨i.toNat, by omega⟩
    obtain ⟨Q, rfl⟩ : ∃ Q : Nat, p = (Q : Int) := ⟨p.toNat, by omega⟩
    have h9 := enc_1 E S Q I C da dn dc ds cd ga gn gc l w hv' hdn hd hdnil hgn hx hl hc ht
    have e9 : encT ⟨1, (E : Int), (S : Int), (Q : Int), (I : Int), (C : Int), ds, cd, l⟩ = dgs [1, E, S] ++ dgs [Q, I, C] ++ (dg ds.length ++ ds) := by unfold encT; simp
    rw [e9]
    exact h9
  · obtain ⟨CD, rfl⟩ : ∃ CD : Nat, cd = (CD : Int) := ⟨cd.toNat, by omega⟩
    have h9 := enc_2 E S p i c da dn dc CD ga gn gc l w hv' hgn hx hl hc ht
    have e9 : encT ⟨2, (E : Int), (S : Int), p, i, c, ds, (CD : Int), l⟩ = repX (dgs [2, E, S]) CD gn l := by unfold encT; rw [hgn]; simp
    rw [e9]
    exact h9
  · have h9 := enc_3 E S p i c da dn dc cd ga gn gc l w hv' hgn hx hl hc ht
    have e9 : encT ⟨3, (E : Int), (S : Int), p, i, c, ds, cd, l⟩ = dgs [3, E, S] := by unfold encT; simp
    rw [e9]
    exact h9
theorem encX (k e s p i c : Int) (da : Option Addr) (dn dc : Nat) (cd : Int) (ga : Option Addr) (gn gc : Nat) (ds : List UInt8) (l : List Rg) (hdn : dn = ds.length) (hgn : gn = l.length) (hv : ¬ validV ⟨k, e, s, p, i, c, ds, cd, l⟩) (w : World) (hx : RdR w ga l) (hl : gn ≤ 8796093022208) (hc : gn ≤ gc) :
    Calls Tryd.prog 9 #[.agg #[.int .i64 k, .int .u64 e, .int .u64 s, .int .i64 p, .int .i64 i, .int .i64 c, .slice da dn dc, .int .i64 cd, .slice ga gn gc]] w fun er w' => er = .returned (.tuple #[.slice none 0 0, .int .i64 30]) ∧ Below w.heap.size w w' :=
  enc_bad k e s p i c da dn dc cd ga gn gc l (by rw [hdn, hgn]; exact hv) w hgn hx hl hc
theorem valV (k e s p i c : Int) (da : Option Addr) (dn dc : Nat) (cd : Int) (ga : Option Addr) (gn gc : Nat) (ds : List UInt8) (l : List Rg) (hdn : dn = ds.length) (hgn : gn = l.length) (v : Bool) (hv : v = true ↔ validV ⟨k, e, s, p, i, c, ds, cd, l⟩) (w : World) (hx : RdR w ga l) (hl : gn ≤ 8796093022208) (hc : gn ≤ gc) :
    Calls Tryd.prog 14 #[.agg #[.int .i64 k, .int .u64 e, .int .u64 s, .int .i64 p, .int .i64 i, .int .i64 c, .slice da dn dc, .int .i64 cd, .slice ga gn gc]] w fun er w' => er = .returned (.int .i64 (if v = true then 0 else 30)) ∧ Below w.heap.size w w' :=
  (valid_t k e s p i c da dn dc cd ga gn gc l v (by rw [hdn, hgn]; exact hv) w hgn hx hl hc).mono fun _ _ h => by cases v <;> exact h
theorem rvalV (k e s p i c : Int) (da : Option Addr) (dn dc : Nat) (cd : Int) (ga : Option Addr) (gn gc : Nat) (ds : List UInt8) (l : List Rg) (hdn : dn = ds.length) (hgn : gn = l.length) (v : Bool) (hv : v = true ↔ validV ⟨k, e, s, p, i, c, ds, cd, l⟩) (w : World) (hx : RdR w ga l) (hl : gn ≤ 8796093022208) :
    Calls Tryd.prog 15 #[.agg #[.int .i64 k, .int .u64 e, .int .u64 s, .int .i64 p, .int .i64 i, .int .i64 c, .slice da dn dc, .int .i64 cd, .slice ga gn gc]] w fun er w' => er = .returned (.int .i64 (if v = true then 0 else 30)) ∧ Below w.heap.size w w' :=
  (rvalid_t k e s p i c da dn dc cd ga gn gc l v (by rw [hdn, hgn]; exact hv) w hgn hx hl).mono fun _ _ h => by cases v <;> exact h
/-- what a slice of one's own gives -/
theorem Own.four {w : World} {B n c : Nat} {a : Option Addr} {xs : List UInt8} (h : Own w B (.slice a n c) xs) : n = xs.length ∧ n ≤ c ∧ c ≤ 9223372036854775807 ∧ (a = none → c = 0) ∧ Rd w a xs := by
  obtain ⟨a9, c9, hv9, h1, h2, h3, h4, -⟩ := h.val
  simp only [Value.slice.injEq] at hv9
  obtain ⟨rfl, rfl, rfl⟩ := hv9
  exact ⟨rfl, h1, Nat.le_trans h2 (by decide), h3, h4⟩
/-- Decode, by what it comes to; the unit in letters -/
theorem decV (ao : Option Addr) (n cap : Nat) (xs : List UInt8) (hn : n = xs.length) (w : World) (hx : Rd w ao xs) (hlc : n ≤ cap) (hcm : cap ≤ 9223372036854775807) (hl : n ≤ 140737488355328) (ht : TabOk w) (k e s p i c : Int) (ds : List UInt8) (cd : Int) (l : List Rg) (r : Int) (dn gn : Nat) (hdn : dn = ds.length) (hgn : gn = l.length) (hd : decU xs = (⟨k, e, s, p, i, c, ds, cd, l⟩, r)) :
    Calls Tryd.prog 11 #[.slice ao n cap] w fun er w' => ∃ da dc ga gc, er = .returned (.tuple #[.agg #[.int .i64 k, .int .u64 e, .int .u64 s, .int .i64 p, .int .i64 i, .int .i64 c, .slice da dn dc, .int .i64 cd, .slice ga gn gc], .int .i64 r]) ∧ Own w' w.heap.size (.slice da dn dc) ds ∧ OwnR w' w.heap.size (.slice ga gn gc) l ∧ Below w.heap.size w w' := by
  subst hdn hgn
  refine (decode_t ao n cap xs hn w hx hlc hcm hl ht).mono ?_
  rw [hd]
  rintro er w' ⟨da, dc, ga, gc, h1, h2, h3, h4⟩
  exact ⟨da, dc, ga, gc, h1, h2, h3, h4⟩
theorem two_newU (w : World) (o1 o2 : Obj) : ((w.alloc o1).alloc o2).heap[w.heap.size]? = some o1 ∧ ((w.alloc o1).alloc o2).heap[w.heap.size + 1]? = some o2 :=
  ⟨((al (Below.refl _ _) _).block w.heap.size (by simp)).trans (heap_alloc_new w o1), by have := heap_alloc_new (w.alloc o1) o2; simpa using this⟩
theorem rd_lit2 {w : World} {g : Nat} (h : w.heap[g]? = some (.cells #[.int .i64 0, .int .i64 2, .int .i64 5, .int .i64 6] 53 (0, 0))) : RdR w (some ⟨g, 0, none⟩) [(0, 2), (5, 6)] := fun j hj => by
  refine ⟨g, 0, rfl, ?_, ?_⟩ <;> rw [cell_of_row _ _ _ _ _ _ h] <;> (match j, hj with
    | 0, _ => rfl
    | 1, _ => rfl)
theorem dg_lo (n : Nat) (h : n < 128) : dg n = [UInt8.ofNat n] := by
  unfold dg
  rw [show n / 128 = 0 by omega, hiD_zero, show n % 128 = n by omega]
  rfl
theorem dg300U : dg 300 = [130, 44] := by
  unfold dg
  rw [hiD_pos _ (by decide), show 300 / 128 / 128 = 0 from by decide, hiD_zero]
  decide
abbrev smU : Un := ⟨2, 1, 300, 0, 0, 0, [], 0, [(0, 2), (5, 6)]⟩
theorem smU_ok : validV smU := ⟨⟨by unfold nameOk; decide, by unfold nameOk; decide⟩, .inr (.inl ⟨rfl, ⟨rfl, rfl, rfl, rfl⟩, by decide, ⟨by decide, by decide, trivial⟩, .inl rfl⟩)⟩
theorem smU_enc : encT smU = [2, 1, 130, 44, 0, 2, 0, 2, 3, 1] := by
  have e : encT smU = dg 2 ++ (dg 1 ++ (dg 300 ++ (dg 0 ++ (dg 2 ++ (dg 0 ++ (dg 2 ++ (dg 3 ++ dg 1))))))) := by
    unfold encT repX smU
    simp [dgs, gotB, gotBF]
  rw [e, dg300U, dg_lo 2 (by decide), dg_lo 1 (by decide), dg_lo 0 (by decide), dg_lo 3 (by decide)]
  rfl
section
set_option maxRecDepth 20000
set_option maxHeartbeats 3200000
theorem small_law (w : World) (ht : TabOk w) : Calls Tryd.prog 8 #[] w fun er w' => er = .returned (.bool true) ∧ Below w.heap.size w w' := by
  have HT : Hid (∀ u, Below w.heap.size w u → TabOk u) := fun u hu => ht.below hu
  clear ht
  obtain ⟨X, hX⟩ : ∃ X, X = encT smU ++ sealL (encT smU) := ⟨_, rfl⟩
  have HXE : Hid (X = encT smU ++ sealL (encT smU)) := hX
  have HXL : Hid (X.length = 14) := by unfold Hid; rw [hX, smU_enc]; rfl
  have HXU : Hid (unS X = ([2, 1, 130, 44, 0, 2, 0, 2, 3, 1], 0)) := by unfold Hid; rw [hX, unS_seal, smU_enc]
  have HXD : Hid (decU X = (smU, 0)) := by unfold Hid; rw [hX]; exact decU_enc smU smU_ok
  clear hX
  go_enter Tryd.func8, Tryd.ntmps8
  go_wp2_with (refine wpList_load_g (by rfl) 26 _ rfl (w.heap.size + 1) 0 (by rfl) [.int .i64 2, .int .u64 1, .int .u64 300, .int .i64 0, .int .i64 0, .int .i64 0, .slice none 0 0, .int .i64 0, .slice (some ⟨w.heap.size, 0, none⟩) 2 2] _ (box_range (two_newU w _ _).2) Tryd.underlying26 rfl info_un ?_)
  refine Calls.mono (encV 2 1 300 0 0 0 none 0 0 0 (some ⟨w.heap.size, 0, none⟩) 2 2 [] [(0, 2), (5, 6)] rfl rfl smU_ok _ (Rd.nil _ _) (fun _ => rfl) (rd_lit2 (two_newU w _ _).1) (by decide) (by decide) (HT.out _ (al (al (Below.refl _ _) _) _))) ?_
  rintro er1 w1 ⟨a1, L1, c1, rfl, hL1, ho1, hb1⟩
  rw [← HXE.out] at hL1 ho1
  have HO1 : Hid (L1 = X.length ∧ L1 ≤ c1 ∧ c1 ≤ 9223372036854775807 ∧ (a1 = none → c1 = 0) ∧ Rd w1 a1 X) := ho1.four
  have HB1 : Hid (Below w.heap.size w w1) := below_next (al (al (Below.refl _ _) _) _) hb1
  have HU1 : Hid (UBx w1 (w.heap.size + 1) #[.int .i64 2, .int .u64 1, .int .u64 300, .int .i64 0, .int .i64 0, .int .i64 0, .slice none 0 0, .int .i64 0, .slice (some ⟨w.heap.size, 0, none⟩) 2 2]) := (hb1.block (w.heap.size + 1) (by simp)).trans (two_newU w _ _).2
  have HG1 : Hid (RdR w1 (some ⟨w.heap.size, 0, none⟩) [(0, 2), (5, 6)]) := RdR.below (rd_lit2 (two_newU w _ _).1) hb1
  have HS1 : Hid (w.heap.size + 1 < w1.heap.size) := (Array.getElem?_eq_some_iff.1 HU1.out).1
  clear hL1 ho1 hb1
  go_wp2_with fail
  refine Calls.mono (unseal_b a1 L1 c1 X HO1.out.1 w1 HO1.out.2.2.2.2 HO1.out.2.1 HO1.out.2.2.1 (by have h1 := HO1.out.1; have h2 := HXL.out; omega) (HT.out _ HB1.out) HXU.out) ?_
  rintro er1 w2 ⟨a2, L2, c2, rfl, hL2, hr2, hn2, hb2⟩
  have HL2 : Hid (L2 = 10) := hL2
  have HR2 : Hid (Rd w2 a2 [2, 1, 130, 44, 0, 2, 0, 2, 3, 1]) := hr2
  have HB2 : Hid (Below w1.heap.size w1 w2) := hb2
  clear hL2 hr2 hn2 hb2
  go_wp2_with fail
  refine Calls.mono (decV a1 L1 c1 X HO1.out.1 w2 (HO1.out.2.2.2.2.below HB2.out) HO1.out.2.1 HO1.out.2.2.1 (by have h1 := HO1.out.1; have h2 := HXL.out; omega) (HT.out _ (below_next HB1.out HB2.out)) 2 1 300 0 0 0 [] 0 [(0, 2), (5, 6)] 0 0 2 rfl rfl HXD.out) ?_
  rintro er1 w3 ⟨da, dc, ga, gc, rfl, ho3, hq3, hb3⟩
  have HQ3 : Hid (RdR w3 ga [(0, 2), (5, 6)]) := hq3.rdA.1
  have HB3 : Hid (Below w1.heap.size w1 w3) := below_next HB2.out hb3
  have HR3 : Hid (Rd w3 a2 [2, 1, 130, 44, 0, 2, 0, 2, 3, 1]) := HR2.out.below hb3
  clear ho3 hq3 hb3
  have HU3 : Hid (∀ ob, UBx (w3.alloc ob) (w.heap.size + 1) #[.int .i64 2, .int .u64 1, .int .u64 300, .int .i64 0, .int .i64 0, .int .i64 0, .slice none 0 0, .int .i64 0, .slice (some ⟨w.heap.size, 0, none⟩) 2 2]) := fun ob => ((below_next HB3.out (al (Below.refl _ _) ob)).block _ HS1.out).trans HU1.out
  have hcv := fun (ob : Obj) => conv_rd' (HR3.out.below (al (Below.refl _ _) ob)) L2 c2 HL2.out
  have hss := fun (u : World) (a : Addr) (o : Option Addr) (n c : Nat) => run_store Tryd.prog u a (.slice o n c) .plain rfl
  go_wp2_with (first
    | (refine wpList_load_g (by rfl) 26 _ rfl (w.heap.size + 1) 0 (by rfl) [.int .i64 2, .int .u64 1, .int .u64 300, .int .i64 0, .int .i64 0, .int .i64 0, .slice none 0 0, .int .i64 0, .slice (some ⟨w.heap.size, 0, none⟩) 2 2] _ (box_range (HU3.out _)) Tryd.underlying26 rfl info_un ?_)
    | (refine wpList_load_g (by rfl) 26 _ rfl w3.heap.size 0 (by rfl) [.int .i64 2, .int .u64 1, .int .u64 300, .int .i64 0, .int .i64 0, .int .i64 0, .slice da 0 dc, .int .i64 0, .slice ga 2 gc] _ (box_range (heap_alloc_new w3 _)) Tryd.underlying26 rfl info_un ?_)
    | (go_at_call 12; refine Calls.mono (sameUnit_t 2 1 300 0 0 0 none 0 0 0 (some ⟨w.heap.size, 0, none⟩) 2 2 da dc ga gc [] [(0, 2), (5, 6)] _ rfl rfl (Rd.nil _ _) (Rd.nil _ _) (RdR.below HG1.out (below_next HB3.out (al (Below.refl _ _) _))) (RdR.below HQ3.out (al (Below.refl _ _) _)) (by decide) (by decide)) ?_; rintro er1 w4 ⟨rfl, hb4⟩; have HB4 : Hid (Below w.heap.size w w4) := below_next (below_next HB1.out (below_next HB3.out (al (Below.refl _ _) _))) hb4; clear hb4))
  go_ret
  exact ⟨rfl, HB4.out⟩
end
end Go.Proofs.YtjigbopkmffjaaaDoor
namespace Go.Proofs.YtjigbopkmffjaaaDoor
set_option linter.unusedVariables false
set_option linter.unusedSimpArgs false
open Go.RowKit
/-- the check of the document is the program's -/
theorem okR {l : List Rg} (hl : gotOk l) (m1 m2 : Nat) : (freeR l ≤ endR l + (m1 : Int) ∧ endR l + (m1 : Int) < endR l + (m1 : Int) + (m2 : Int) ∧ endR l + (m1 : Int) + (m2 : Int) ≤ 64) ↔ ((l.length = 0 ∨ 0 < m1) ∧ 0 < m2 ∧ endR l + (m1 : Int) + (m2 : Int) ≤ 64) := by
  have he := gotOk_end hl
  rcases List.eq_nil_or_concat l with h0 | ⟨r, z, h0⟩
  · subst h0
    rw [freeR_nil, endR_nil]
    simp
    omega
  · rw [List.concat_eq_append] at h0
    subst h0
    rw [freeR_snoc, endR_snoc] at *
    simp only [List.length_append, List.length_cons, List.length_nil]
    omega
theorem DX.box {w : World} {q B N : Nat} {ys : List UInt8} {f : Int} (h : DX w q B N ys f) : B ≤ q ∧ q < N := h.lt
section
set_option maxRecDepth 20000
set_option maxHeartbeats 6400000
theorem ranges_x {q B N n : Nat} {ys y2 y3 : List UInt8} {f f2 f3 : Int} {T : List Rg} (w : World) (h : DX w q B N ys f) (hN : N ≤ w.heap.size) (e2 : smD 0 32 (ys, f) = (n, y2, f2)) (e3 : rgsS n [] (y2, f2) = (T, y3, f3)) :
    Calls Tryd.prog 52 #[.pointer (some ⟨q, 0, none⟩)] w fun er w' => ∃ L a M c, er = .returned (.slice a M c) ∧ M = L.length ∧ (f3 = 0 → L = T) ∧ OwnR w' w.heap.size (.slice a M c) L ∧ DX w' q B N y3 f3 ∧ w.grownBy w' (some q) := by
  have HQ : Hid (B ≤ q ∧ q < N ∧ N ≤ w.heap.size) := ⟨h.lt.1, h.lt.2, hN⟩
  have HSM : Hid _ := small_x 0 32 (by decide) (by decide) w h e2
  have HN32 : Hid (n ≤ 32) := (smD_le e2).1
  have H0 : Hid (f2 = 0 ∨ n = 0) := by
    by_cases hf : f2 = 0
    · exact .inl hf
    · right
      obtain ⟨m, z1, g1, e1⟩ : ∃ n y g, nmS mxU (ys, f) = (n, y, g) := ⟨_, _, _, rfl⟩
      unfold smD at e2
      rw [e1] at e2
      simp only [Prod.mk.injEq] at e2
      obtain ⟨h1, -, h3⟩ := e2
      rw [h3, if_neg hf] at h1
      exact h1.symm
  have HE3 : Hid _ := e3
  clear h hN e2 e3
  go_enter Tryd.func52, Tryd.ntmps52
  go_wp2_with fail
  refine Calls.mono HSM.out ?_
  rintro er w1 ⟨rfl, hd1, hg1⟩
  have HD1 : Hid (DX w1 q B N y2 f2) := hd1
  have HG1 : Hid (w.grownBy w1 (some q)) := hg1
  clear hd1 hg1 HSM
  go_wp2_with fail
  go_loopw [3, 5, 6] (fun lv ev iv wr => ∃ (l : List Rg) (a : Option Addr) (c : Nat) (y : List UInt8) (g : Int), lv = .slice a l.length c ∧ ev = .int .i64 (endR l) ∧ iv = .int .i64 ((l.length : Nat) : Int) ∧ OwnR wr w.heap.size (.slice a l.length c) l ∧ DX wr q B N y g ∧ w.grownBy wr (some q) ∧ Hid (rgsS (n - l.length) l (y, g) = (T, y3, f3)) ∧ l.length ≤ n ∧ (g = 0 ∨ n = l.length) ∧ gotOk l) (fun _ _ iv _ => n - (intOf iv).toNat)
  case atStart => exact ⟨[], none, 0, y2, f2, rfl, rfl, rfl, OwnR.nil _ _, HD1.out, HG1.out, (by unfold Hid; simpa using HE3.out), Nat.zero_le _, (by rcases H0.out with h1 | h1 <;> simp [h1]), trivial⟩
  case round =>
    obtain ⟨l, a, c, y, g, rfl, rfl, rfl, hrow, hdx, hgw, HBS, hlt, h0, hok⟩ := hrel
    obtain ⟨k, hk⟩ : ∃ k, k = l.length := ⟨_, rfl⟩
    have HK : Hid (k = l.length) := hk
    have HROW : Hid (OwnR wr w.heap.size (.slice a k c) l) := by rw [hk]; exact hrow
    have HDX : Hid (DX wr q B N y g) := hdx
    have HGW : Hid (w.grownBy wr (some q)) := hgw
    have HOK : Hid (gotOk l) := hok
    have hn32 := HN32.out
    rw [← hk] at hlt h0 ⊢
    have HSZ : Hid (w.heap.size ≤ wr.heap.size) := hgw.size
    clear hrow hdx hgw hok
    by_cases hlc : k < n
    · obtain rfl : g = 0 := by rcases h0 with h1 | h1; (· exact h1); (· omega)
      have hlcI : (k : Int) < (n : Int) := by omega
      have c1 := HDX.out.c1
      obtain ⟨m1, v1, t1, E1⟩ : ∃ m1 v1 t1, nmS mxU (y, 0) = (m1, v1, t1) := ⟨_, _, _, rfl⟩
      obtain ⟨m2, v2, t2, E2⟩ : ∃ m2 v2 t2, nmS mxU (v1, t1) = (m2, v2, t2) := ⟨_, _, _, rfl⟩
      have hm1 : m1 ≤ 281474976710655 := nmS_le E1
      have hm2 : m2 ≤ 281474976710655 := nmS_le E2
      obtain ⟨e, he⟩ : ∃ e : Nat, (e : Int) = endR l ∧ e ≤ 64 := by have h9 := gotOk_end HOK.out; exact ⟨(endR l).toNat, by omega, by omega⟩
      obtain ⟨A1, hA1⟩ : ∃ A : Int, A = (e : Int) + (m1 : Int) := ⟨_, rfl⟩
      obtain ⟨A2, hA2⟩ : ∃ A : Int, A = (e : Int) + (m1 : Int) + (m2 : Int) := ⟨_, rfl⟩
      obtain ⟨G, hG⟩ : ∃ G : Bool, G = decide ((k = 0 ∨ 0 < m1) ∧ 0 < m2 ∧ A2 ≤ 64) := ⟨_, rfl⟩
      have HRA : Hid (rangeS l (y, 0) = ((A1, A2), v2, mustF G t2)) := by
        unfold Hid rangeS
        simp only [E1, E2]
        by_cases hc : freeR l ≤ endR l + (m1 : Int) ∧ endR l + (m1 : Int) < endR l + (m1 : Int) + (m2 : Int) ∧ endR l + (m1 : Int) + (m2 : Int) ≤ 64
        · rw [if_pos hc, hG, mustF_p (by rw [hk, hA2, he.1]; exact (okR HOK.out m1 m2).1 hc), hA1, hA2, he.1]
        · rw [if_neg hc, hG, decide_eq_false (by rw [hk, hA2, he.1]; exact fun h9 => hc ((okR HOK.out m1 m2).2 h9)), hA1, hA2, he.1]
      have HBS2 : Hid (rgsS (n - (k + 1)) (l ++ [(A1, A2)]) (v2, mustF G t2) = (T, y3, f3)) := by
        have h1 := HBS.out
        rw [← HK.out, show n - k = (n - (k + 1)) + 1 by omega, rgsS_step _ _ _ rfl, HRA.out] at h1
        exact h1
      have HGO2 : Hid (mustF G t2 = 0 → gotOk (l ++ [(A1, A2)])) := fun h9 => by
        have h1 := rangeS_ok (l := l) (s := (y, 0)) HOK.out (by rw [HRA.out]; exact h9)
        rw [HRA.out] at h1
        exact h1
      have HBAD : Hid (¬ mustF G t2 = 0 → v2 = y3 ∧ mustF G t2 = f3) := fun h9 => by
        have h1 := HBS2.out
        rw [rgsS_bad _ _ _ h9] at h1
        simp only [Prod.mk.injEq] at h1
        exact ⟨h1.2.1, h1.2.2⟩
      have HN1 : Hid _ := number_x (m := mxU) wr HDX.out E1
      have HN2 : Hid _ := fun (u : World) (hu : DX u q B N v1 t1) => number_x (m := mxU) u hu E2
      have hw1 : IntKind.u64.wrap (e : Int) = (e : Int) := by rw [IntKind.wrap_u64]; omega
      have hw2 : IntKind.u64.wrap ((e : Int) + (m1 : Int)) = A1 := by rw [IntKind.wrap_u64]; omega
      have hw3 : IntKind.u64.wrap (A1 + (m2 : Int)) = A2 := by rw [IntKind.wrap_u64]; omega
      have HWW : Hid (IntKind.i64.wrap (m1 : Int) = (m1 : Int) ∧ IntKind.i64.wrap (m2 : Int) = (m2 : Int) ∧ IntKind.i64.wrap ((e : Int) + (m1 : Int)) = A1 ∧ IntKind.i64.wrap (A1 + (m2 : Int)) = A2 ∧ IntKind.i64.wrap ((k : Int) + 1) = ((k + 1 : Nat) : Int)) := by
        refine ⟨?_, ?_, ?_, ?_, ?_⟩ <;> rw [IntKind.wrap_i64] <;> omega
      have HEE : Hid ((e : Int) = endR l ∧ A1 = (e : Int) + (m1 : Int) ∧ A2 = (e : Int) + (m1 : Int) + (m2 : Int)) := ⟨he.1, hA1, hA2⟩
      have HG : Hid (G = decide ((k = 0 ∨ 0 < m1) ∧ 0 < m2 ∧ A2 ≤ 64)) := hG
      rw [← HEE.out.1]
      clear HBS h0 E1 E2 hm1 hm2 he hA1 hA2 hG hk
      go_wp2_with fail
      refine Calls.mono HN1.out ?_
      rintro er u1 ⟨rfl, hd, hg⟩
      have HDu1 : Hid (DX u1 q B N v1 t1) := hd
      have HGu1 : Hid (wr.grownBy u1 (some q)) := hg
      clear hd hg c1
      go_wp2_with fail
      refine Calls.mono (HN2.out _ HDu1.out) ?_
      rintro er u2 ⟨rfl, hd, hg⟩
      have HDu2 : Hid (DX u2 q B N v2 t2) := hd
      have HGu2 : Hid (wr.grownBy u2 (some q)) := grown_step HGu1.out hg (.inl rfl)
      clear hd hg
      by_cases q0 : k = 0
      · subst q0
        by_cases q2 : 0 < m2
        · have q2I : (0 : Int) < (m2 : Int) := by omega
          by_cases q3 : A2 ≤ 64
          · skip
            have hGv : G = true := by rw [HG.out]; exact decide_eq_true (by omega)
            by_cases hft : mustF G t2 = 0
            · have HFN : Hid (mustF G t2 = 0) := hft
              clear hft
              go_wp2_with fail
              refine Calls.mono (want_x true u2 HDu2.out) ?_
              rintro er u3 ⟨rfl, hd, hg⟩
              have HDu3 : Hid (DX u3 q B N v2 (mustF G t2)) := by unfold Hid; rw [hGv]; exact hd
              have HGu3 : Hid (w.grownBy u3 (some q)) := grown_step HGW.out (grown_step HGu2.out hg (.inl rfl)) (.inl rfl)
              have HGr3 : Hid (wr.grownBy u3 (some q)) := grown_step HGu2.out hg (.inl rfl)
              have c1 := HDu3.out.c1
              clear hd hg
              rw [HFN.out] at c1
              obtain ⟨hx1, hx2, hx3, hx4, hx5⟩ := HWW.out
              go_wp2_with (first
                | (refine wpList_load_g (by rfl) 53 _ rfl u3.heap.size 0 (by rfl) [.int .i64 A1, .int .i64 A2] _ (box_range (heap_alloc_new u3 _)) Tryd.underlying53 rfl (by rw [(zero_of_info info_rg).2]; rfl) ?_)
                | (refine wp_appR1 rfl _ _ rfl w.heap.size (.slice a 0 c) l 0 HK.out (A1, A2) (u3.heap.size + 1) rfl (OwnR.below (OwnR.grown HROW.out HGr3.out (by have := HQ.out; omega)) (al (al (Below.refl _ _) _) _)) rfl (two_newU u3 _ _).2 (by omega) (by have h1 := HGr3.out.size; have h2 := HSZ.out; simp; omega) ?_; intro g7 cap7 w7 hrow7 hg7 hwh7; have HROW7 : Hid (OwnR w7 w.heap.size (.slice (some ⟨g7, 0, none⟩) (0 + 1) cap7) (l ++ [(A1, A2)])) := hrow7; have hob := HROW.out.blk; have hq7 : ∀ r, (Value.slice a 0 c).ownBlock = some r → w.heap.size ≤ r ∧ r < wr.heap.size := own_blk hob; have HD7 : Hid (DX w7 q B N v2 (mustF G t2)) := DX.grownO (HDu3.out.below (al (al (Below.refl _ _) _) _)) hg7 (fun r hr => .inr (by have h1 := (hq7 r hr).1; have h2 := HQ.out; omega)); have HG7 : Hid (w.grownBy w7 (some q)) := grown_step (gr_below HGu3.out (al (al (Below.refl _ _) _) _)) hg7 (.inr fun r hr => (hq7 r hr).1); have hc7 : w7.cell? ⟨u3.heap.size, 1, none⟩ = some (.int .i64 A2) := (hg7.cell (by rw [cell_of_row _ _ _ _ _ _ (two_newU u3 _ _).1]; rfl) (by intro h9; have h8 := (hq7 u3.heap.size h9.symm).2; have h7 := HGr3.out.size; omega)); clear hrow7 hg7 hwh7 hob hq7))
              go_roundw
              case rel =>
                have hlen : (l ++ [(A1, A2)]).length = 0 + 1 := by rw [List.length_append, ← HK.out]; rfl
                refine ⟨l ++ [(A1, A2)], some ⟨g7, 0, none⟩, cap7, v2, 0, (by rw [hlen]), ?_, ?_, by rw [hlen]; exact HROW7.out, by rw [← HFN.out]; exact HD7.out, HG7.out, ?_, by rw [hlen]; omega, .inl rfl, HGO2.out HFN.out⟩
                · rw [endR_snoc]
                · rw [hlen]; first | done | rfl | simp
                · rw [hlen]; have h9 := HBS2.out; rw [HFN.out] at h9; exact h9
              case measure => simp [intOf]; omega
            · have HFN : Hid (¬ mustF G t2 = 0) := hft
              clear hft
              go_wp2_with fail
              refine Calls.mono (want_x true u2 HDu2.out) ?_
              rintro er u3 ⟨rfl, hd, hg⟩
              have HDu3 : Hid (DX u3 q B N v2 (mustF G t2)) := by unfold Hid; rw [hGv]; exact hd
              have HGu3 : Hid (w.grownBy u3 (some q)) := grown_step HGW.out (grown_step HGu2.out hg (.inl rfl)) (.inl rfl)
              have HGr3 : Hid (wr.grownBy u3 (some q)) := grown_step HGu2.out hg (.inl rfl)
              have c1 := HDu3.out.c1
              clear hd hg
              have hFn := HFN.out
              obtain ⟨F, hF⟩ : ∃ F, F = mustF G t2 := ⟨_, rfl⟩
              rw [← hF] at c1 hFn
              have hFb : (F == 0) = false := by simpa using hFn
              have HFF : Hid (F = mustF G t2) := hF
              clear hF
              go_wp2
              go_ret
              have h9 := HBAD.out HFN.out
              exact ⟨[], none, 0, 0, rfl, rfl, fun h8 => absurd h8 (by rw [← h9.2]; exact HFN.out), OwnR.nil _ _, by rw [← h9.1, ← h9.2]; exact HDu3.out, HGu3.out⟩
          · have q3d : decide (A2 ≤ 64) = false := decide_eq_false q3
            have hGv : G = false := by rw [HG.out]; exact decide_eq_false (by omega)
            have HFN : Hid (¬ mustF G t2 = 0) := by unfold Hid; rw [hGv]; exact mustF_bad rfl
            go_wp2_with fail
            refine Calls.mono (want_x false u2 HDu2.out) ?_
            rintro er u3 ⟨rfl, hd, hg⟩
            have HDu3 : Hid (DX u3 q B N v2 (mustF G t2)) := by unfold Hid; rw [hGv]; exact hd
            have HGu3 : Hid (w.grownBy u3 (some q)) := grown_step HGW.out (grown_step HGu2.out hg (.inl rfl)) (.inl rfl)
            have HGr3 : Hid (wr.grownBy u3 (some q)) := grown_step HGu2.out hg (.inl rfl)
            have c1 := HDu3.out.c1
            clear hd hg
            have hFn := HFN.out
            obtain ⟨F, hF⟩ : ∃ F, F = mustF G t2 := ⟨_, rfl⟩
            rw [← hF] at c1 hFn
            have hFb : (F == 0) = false := by simpa using hFn
            have HFF : Hid (F = mustF G t2) := hF
            clear hF
            go_wp2
            go_ret
            have h9 := HBAD.out HFN.out
            exact ⟨[], none, 0, 0, rfl, rfl, fun h8 => absurd h8 (by rw [← h9.2]; exact HFN.out), OwnR.nil _ _, by rw [← h9.1, ← h9.2]; exact HDu3.out, HGu3.out⟩
        · have q2d : decide (0 < m2) = false := decide_eq_false q2
          have q2I : ¬ (0 : Int) < (m2 : Int) := by omega
          have hGv : G = false := by rw [HG.out]; exact decide_eq_false (by omega)
          have HFN : Hid (¬ mustF G t2 = 0) := by unfold Hid; rw [hGv]; exact mustF_bad rfl
          go_wp2_with fail
          refine Calls.mono (want_x false u2 HDu2.out) ?_
          rintro er u3 ⟨rfl, hd, hg⟩
          have HDu3 : Hid (DX u3 q B N v2 (mustF G t2)) := by unfold Hid; rw [hGv]; exact hd
          have HGu3 : Hid (w.grownBy u3 (some q)) := grown_step HGW.out (grown_step HGu2.out hg (.inl rfl)) (.inl rfl)
          have HGr3 : Hid (wr.grownBy u3 (some q)) := grown_step HGu2.out hg (.inl rfl)
          have c1 := HDu3.out.c1
          clear hd hg
          have hFn := HFN.out
          obtain ⟨F, hF⟩ : ∃ F, F = mustF G t2 := ⟨_, rfl⟩
          rw [← hF] at c1 hFn
          have hFb : (F == 0) = false := by simpa using hFn
          have HFF : Hid (F = mustF G t2) := hF
          clear hF
          go_wp2
          go_ret
          have h9 := HBAD.out HFN.out
          exact ⟨[], none, 0, 0, rfl, rfl, fun h8 => absurd h8 (by rw [← h9.2]; exact HFN.out), OwnR.nil _ _, by rw [← h9.1, ← h9.2]; exact HDu3.out, HGu3.out⟩
      · have q0I : ¬ (k : Int) = 0 := by omega
        have q0b : ((k : Int) == 0) = false := by simp [q0]
        by_cases q1 : 0 < m1
        · have q1I : (0 : Int) < (m1 : Int) := by omega
          by_cases q2 : 0 < m2
          · have q2I : (0 : Int) < (m2 : Int) := by omega
            by_cases q3 : A2 ≤ 64
            · skip
              have hGv : G = true := by rw [HG.out]; exact decide_eq_true (by omega)
              by_cases hft : mustF G t2 = 0
              · have HFN : Hid (mustF G t2 = 0) := hft
                clear hft
                go_wp2_with fail
                refine Calls.mono (want_x true u2 HDu2.out) ?_
                rintro er u3 ⟨rfl, hd, hg⟩
                have HDu3 : Hid (DX u3 q B N v2 (mustF G t2)) := by unfold Hid; rw [hGv]; exact hd
                have HGu3 : Hid (w.grownBy u3 (some q)) := grown_step HGW.out (grown_step HGu2.out hg (.inl rfl)) (.inl rfl)
                have HGr3 : Hid (wr.grownBy u3 (some q)) := grown_step HGu2.out hg (.inl rfl)
                have c1 := HDu3.out.c1
                clear hd hg
                rw [HFN.out] at c1
                obtain ⟨hx1, hx2, hx3, hx4, hx5⟩ := HWW.out
                go_wp2_with (first
                  | (refine wpList_load_g (by rfl) 53 _ rfl u3.heap.size 0 (by rfl) [.int .i64 A1, .int .i64 A2] _ (box_range (heap_alloc_new u3 _)) Tryd.underlying53 rfl (by rw [(zero_of_info info_rg).2]; rfl) ?_)
                  | (refine wp_appR1 rfl _ _ rfl w.heap.size (.slice a k c) l k HK.out (A1, A2) (u3.heap.size + 1) rfl (OwnR.below (OwnR.grown HROW.out HGr3.out (by have := HQ.out; omega)) (al (al (Below.refl _ _) _) _)) rfl (two_newU u3 _ _).2 (by omega) (by have h1 := HGr3.out.size; have h2 := HSZ.out; simp; omega) ?_; intro g7 cap7 w7 hrow7 hg7 hwh7; have HROW7 : Hid (OwnR w7 w.heap.size (.slice (some ⟨g7, 0, none⟩) (k + 1) cap7) (l ++ [(A1, A2)])) := hrow7; have hob := HROW.out.blk; have hq7 : ∀ r, (Value.slice a k c).ownBlock = some r → w.heap.size ≤ r ∧ r < wr.heap.size := own_blk hob; have HD7 : Hid (DX w7 q B N v2 (mustF G t2)) := DX.grownO (HDu3.out.below (al (al (Below.refl _ _) _) _)) hg7 (fun r hr => .inr (by have h1 := (hq7 r hr).1; have h2 := HQ.out; omega)); have HG7 : Hid (w.grownBy w7 (some q)) := grown_step (gr_below HGu3.out (al (al (Below.refl _ _) _) _)) hg7 (.inr fun r hr => (hq7 r hr).1); have hc7 : w7.cell? ⟨u3.heap.size, 1, none⟩ = some (.int .i64 A2) := (hg7.cell (by rw [cell_of_row _ _ _ _ _ _ (two_newU u3 _ _).1]; rfl) (by intro h9; have h8 := (hq7 u3.heap.size h9.symm).2; have h7 := HGr3.out.size; omega)); clear hrow7 hg7 hwh7 hob hq7))
                go_roundw
                case rel =>
                  have hlen : (l ++ [(A1, A2)]).length = k + 1 := by rw [List.length_append, ← HK.out]; rfl
                  refine ⟨l ++ [(A1, A2)], some ⟨g7, 0, none⟩, cap7, v2, 0, (by rw [hlen]), ?_, ?_, by rw [hlen]; exact HROW7.out, by rw [← HFN.out]; exact HD7.out, HG7.out, ?_, by rw [hlen]; omega, .inl rfl, HGO2.out HFN.out⟩
                  · rw [endR_snoc]
                  · rw [hlen]; first | done | rfl | simp
                  · rw [hlen]; have h9 := HBS2.out; rw [HFN.out] at h9; exact h9
                case measure => simp [intOf]; omega
              · have HFN : Hid (¬ mustF G t2 = 0) := hft
                clear hft
                go_wp2_with fail
                refine Calls.mono (want_x true u2 HDu2.out) ?_
                rintro er u3 ⟨rfl, hd, hg⟩
                have HDu3 : Hid (DX u3 q B N v2 (mustF G t2)) := by unfold Hid; rw [hGv]; exact hd
                have HGu3 : Hid (w.grownBy u3 (some q)) := grown_step HGW.out (grown_step HGu2.out hg (.inl rfl)) (.inl rfl)
                have HGr3 : Hid (wr.grownBy u3 (some q)) := grown_step HGu2.out hg (.inl rfl)
                have c1 := HDu3.out.c1
                clear hd hg
                have hFn := HFN.out
                obtain ⟨F, hF⟩ : ∃ F, F = mustF G t2 := ⟨_, rfl⟩
                rw [← hF] at c1 hFn
                have hFb : (F == 0) = false := by simpa using hFn
                have HFF : Hid (F = mustF G t2) := hF
                clear hF
                go_wp2
                go_ret
                have h9 := HBAD.out HFN.out
                exact ⟨[], none, 0, 0, rfl, rfl, fun h8 => absurd h8 (by rw [← h9.2]; exact HFN.out), OwnR.nil _ _, by rw [← h9.1, ← h9.2]; exact HDu3.out, HGu3.out⟩
            · have q3d : decide (A2 ≤ 64) = false := decide_eq_false q3
              have hGv : G = false := by rw [HG.out]; exact decide_eq_false (by omega)
              have HFN : Hid (¬ mustF G t2 = 0) := by unfold Hid; rw [hGv]; exact mustF_bad rfl
              go_wp2_with fail
              refine Calls.mono (want_x false u2 HDu2.out) ?_
              rintro er u3 ⟨rfl, hd, hg⟩
              have HDu3 : Hid (DX u3 q B N v2 (mustF G t2)) := by unfold Hid; rw [hGv]; exact hd
              have HGu3 : Hid (w.grownBy u3 (some q)) := grown_step HGW.out (grown_step HGu2.out hg (.inl rfl)) (.inl rfl)
              have HGr3 : Hid (wr.grownBy u3 (some q)) := grown_step HGu2.out hg (.inl rfl)
              have c1 := HDu3.out.c1
              clear hd hg
              have hFn := HFN.out
              obtain ⟨F, hF⟩ : ∃ F, F = mustF G t2 := ⟨_, rfl⟩
              rw [← hF] at c1 hFn
              have hFb : (F == 0) = false := by simpa using hFn
              have HFF : Hid (F = mustF G t2) := hF
              clear hF
              go_wp2
              go_ret
              have h9 := HBAD.out HFN.out
              exact ⟨[], none, 0, 0, rfl, rfl, fun h8 => absurd h8 (by rw [← h9.2]; exact HFN.out), OwnR.nil _ _, by rw [← h9.1, ← h9.2]; exact HDu3.out, HGu3.out⟩
          · have q2d : decide (0 < m2) = false := decide_eq_false q2
            have q2I : ¬ (0 : Int) < (m2 : Int) := by omega
            have hGv : G = false := by rw [HG.out]; exact decide_eq_false (by omega)
            have HFN : Hid (¬ mustF G t2 = 0) := by unfold Hid; rw [hGv]; exact mustF_bad rfl
            go_wp2_with fail
            refine Calls.mono (want_x false u2 HDu2.out) ?_
            rintro er u3 ⟨rfl, hd, hg⟩
            have HDu3 : Hid (DX u3 q B N v2 (mustF G t2)) := by unfold Hid; rw [hGv]; exact hd
            have HGu3 : Hid (w.grownBy u3 (some q)) := grown_step HGW.out (grown_step HGu2.out hg (.inl rfl)) (.inl rfl)
            have HGr3 : Hid (wr.grownBy u3 (some q)) := grown_step HGu2.out hg (.inl rfl)
            have c1 := HDu3.out.c1
            clear hd hg
            have hFn := HFN.out
            obtain ⟨F, hF⟩ : ∃ F, F = mustF G t2 := ⟨_, rfl⟩
            rw [← hF] at c1 hFn
            have hFb : (F == 0) = false := by simpa using hFn
            have HFF : Hid (F = mustF G t2) := hF
            clear hF
            go_wp2
            go_ret
            have h9 := HBAD.out HFN.out
            exact ⟨[], none, 0, 0, rfl, rfl, fun h8 => absurd h8 (by rw [← h9.2]; exact HFN.out), OwnR.nil _ _, by rw [← h9.1, ← h9.2]; exact HDu3.out, HGu3.out⟩
        · have q1d : decide (0 < m1) = false := decide_eq_false q1
          have q1I : ¬ (0 : Int) < (m1 : Int) := by omega
          have hGv : G = false := by rw [HG.out]; exact decide_eq_false (by omega)
          have HFN : Hid (¬ mustF G t2 = 0) := by unfold Hid; rw [hGv]; exact mustF_bad rfl
          go_wp2_with fail
          refine Calls.mono (want_x false u2 HDu2.out) ?_
          rintro er u3 ⟨rfl, hd, hg⟩
          have HDu3 : Hid (DX u3 q B N v2 (mustF G t2)) := by unfold Hid; rw [hGv]; exact hd
          have HGu3 : Hid (w.grownBy u3 (some q)) := grown_step HGW.out (grown_step HGu2.out hg (.inl rfl)) (.inl rfl)
          have HGr3 : Hid (wr.grownBy u3 (some q)) := grown_step HGu2.out hg (.inl rfl)
          have c1 := HDu3.out.c1
          clear hd hg
          have hFn := HFN.out
          obtain ⟨F, hF⟩ : ∃ F, F = mustF G t2 := ⟨_, rfl⟩
          rw [← hF] at c1 hFn
          have hFb : (F == 0) = false := by simpa using hFn
          have HFF : Hid (F = mustF G t2) := hF
          clear hF
          go_wp2
          go_ret
          have h9 := HBAD.out HFN.out
          exact ⟨[], none, 0, 0, rfl, rfl, fun h8 => absurd h8 (by rw [← h9.2]; exact HFN.out), OwnR.nil _ _, by rw [← h9.1, ← h9.2]; exact HDu3.out, HGu3.out⟩
    · skip
      have hlcI : ¬ (k : Int) < (n : Int) := by omega
      have HT : Hid (T = l ∧ y3 = y ∧ f3 = g) := by
        have h1 := HBS.out
        rw [← HK.out, show n - k = 0 by omega] at h1
        unfold rgsS at h1
        simp only [Prod.mk.injEq] at h1
        exact ⟨h1.1.symm, h1.2.1.symm, h1.2.2.symm⟩
      clear HBS h0 hk
      go_wp2
      go_ret
      obtain ⟨r1, r2, r3⟩ := HT.out
      exact ⟨l, a, k, c, rfl, HK.out, fun _ => r1.symm, HROW.out, by rw [r2, r3]; exact HDX.out, HGW.out⟩
end
end Go.Proofs.YtjigbopkmffjaaaDoor
