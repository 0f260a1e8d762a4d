import Derived.Test.YtiedgcanndgmoaaGreatDoorZI
namespace Go.Proofs.YtiedgcanndgmoaaGreatDoor
set_option linter.unusedVariables false
set_option linter.unusedSimpArgs false
open Go.RowKit Go.Maps
/-- what a Begin of the program leaves, refused or not -/
structure BgP (w w' : World) (p ms mn pw mw : Nat) (V V' : Nat → Nat → Value) (s' : Xs) (ep n : Nat) (va : Value) (E : List Dc) (T : List (List UInt8)) : Prop where
  row : OwnG KBu w' w.heap.size va (uns ep n E.length E)
  txt : Fml w' w.heap.size E T
  st : XSt w' p ms mn pw mw V' s'
  stp : XStp w w' p ms mn pw mw V V'
  farU : ∀ b, va.ownBlock = some b → ¬ footX p ms mn pw mw V' b
  farT : ∀ b, XV E b → ¬ footX p ms mn pw mw V' b
structure BgD (w w' : World) (q : Nat) (v v' : Value) (X : Value × Value × Value × Value) (s' : Xs) (ep n : Nat) (va : Value) (E : List Dc) (T : List (List UInt8)) : Prop where
  row : OwnG KBu w' w.heap.size va (uns ep n E.length E)
  txt : Fml w' w.heap.size E T
  st : Rx w' q v' X s'
  stp : RxStp w w' q v v'
def BegP (s : Xs) (n : Nat) (k : Fk) (l now : Nat) (xs : List UInt8) (er : Int) (T : List (List UInt8)) (s' : Xs) : Prop := ∀ (w : World) (p ms mn pw mw : Nat) (V : Nat → Nat → Value), XSt w p ms mn pw mw V s → ∀ (ao : Option Addr) (c : Nat), Rd w ao xs → l ≤ c →
  Calls Tryz.prog 8 #[.pointer (some ⟨p, 0, none⟩), .int .u64 (n : Int), fv k, .slice ao l c, .int .u64 (now : Int)] w fun e w' => ∃ va V' E, e = .returned (.tuple #[va, .int .i64 er]) ∧ BgP w w' p ms mn pw mw V V' s' s.ep n va E T
def BegD (s : Xs) (n : Nat) (k : Fk) (l now : Nat) (xs : List UInt8) (er : Int) (T : List (List UInt8)) (s' : Xs) : Prop := ∀ (w : World) (q : Nat) (v : Value) (X : Value × Value × Value × Value), Rx w q v X s → ∀ (ao : Option Addr) (c : Nat), Rd w ao xs → l ≤ c →
  Calls Tryz.prog 38 #[.pointer (some ⟨q, 0, none⟩), .int .u64 (n : Int), fv k, .slice ao l c, .int .u64 (now : Int)] w fun e w' => ∃ va v' E, e = .returned (.tuple #[va, .int .i64 er]) ∧ BgD w w' q v v' X s' s.ep n va E T
theorem fml_nil (w : World) (B : Nat) : Fml w B [] [] := ⟨rfl, fun i d t h => by simp at h, fun i j d e b h => by simp at h⟩
theorem refP {w : World} {p ms mn pw mw : Nat} {V : Nat → Nat → Value} {s : Xs} (h : XSt w p ms mn pw mw V s) {arg : Array Value} {f : Nat} {er : Int} (n : Nat) (H : Calls Tryz.prog f arg w fun e w' => e = .returned (.tuple #[.slice none 0 0, .int .i64 er]) ∧ Below w.heap.size w w') : Calls Tryz.prog f arg w fun e w' => ∃ va V' E, e = .returned (.tuple #[va, .int .i64 er]) ∧ BgP w w' p ms mn pw mw V V' s s.ep n va E [] :=
  H.mono (fun e w' h9 => ⟨.slice none 0 0, V, [], h9.1, ⟨World.ownsRow_nil _ _ _ _, fml_nil _ _, h.below h9.2, XStp.below h9.2 p ms mn pw mw V, (fun b hb => by cases hb), (fun b hb => by obtain ⟨i, d, h1, -⟩ := hb; simp at h1)⟩⟩)
theorem refD {w : World} {q : Nat} {v : Value} {X : Value × Value × Value × Value} {s : Xs} (h : Rx w q v X s) {arg : Array Value} {f : Nat} {er : Int} (n : Nat) (H : Calls Tryz.prog f arg w fun e w' => e = .returned (.tuple #[.slice none 0 0, .int .i64 er]) ∧ Below w.heap.size w w') : Calls Tryz.prog f arg w fun e w' => ∃ va v' E, e = .returned (.tuple #[va, .int .i64 er]) ∧ BgD w w' q v v' X s s.ep n va E [] :=
  H.mono (fun e w' h9 => ⟨.slice none 0 0, v, [], h9.1, ⟨World.ownsRow_nil _ _ _ _, fml_nil _ _, h.below h9.2, RxStp.below h9.2 q v⟩⟩)
theorem cutN_64 {l m : Nat} (h1 : 16 ≤ m) (h2 : l ≤ 1024) : cutN l m ≤ 64 := by
  unfold cutN
  refine Nat.le_of_lt_succ ((Nat.div_lt_iff_lt_mul (by omega)).2 ?_)
  omega
/-- both Begins answer the same and leave the same -/
theorem begin_pair (s : Xs) (hm : 16 ≤ s.mtu) (hm2 : s.mtu ≤ 1024) (hbg : s.beg < 9223372036854775807) (n : Nat) (k : Fk) (l now : Nat) (xs : List UInt8) (hlx : l = xs.length) (hlb : l ≤ 140737488355328) : ∃ er T s', BegP s n k l now xs er T s' ∧ BegD s n k l now xs er T s' ∧ s'.beg ≤ s.beg + 1 ∧ T.length ≤ 64 ∧ ∀ t, t ∈ T → t.length ≤ 1024 := by
  by_cases hn : 1 ≤ n ∧ n ≤ mxX
  · by_cases hk : goodK k
    · by_cases hl : 1 ≤ l ∧ l ≤ 1024
      · by_cases ht : n ∈ s.L.map Xe.n ∨ k ∈ s.L.map Xe.k
        · refine ⟨3, [], s, fun w p ms mn pw mw V h ao c hr hc => refP h n (xbegin_twice h n k ao l c now hn hk hl ?_), fun w q v X h ao c hr hc => refD h n (rbegin_twice h n k ao l c now xs hlx hr hc hlb hn hk hl ht), Nat.le_succ _, by simp, fun t ht => by cases ht⟩
          exact ht
        · have ht' : n ∉ s.L.map Xe.n ∧ k ∉ s.L.map Xe.k := ⟨fun h9 => ht (.inl h9), fun h9 => ht (.inr h9)⟩
          by_cases hf : s.L.length < 64
          · refine ⟨0, segN xs s.mtu (cutN xs.length s.mtu), { s with clk := max s.clk (min now mxX), beg := s.beg + 1, L := s.L ++ [begX { s with clk := max s.clk (min now mxX) } n k] }, fun w p ms mn pw mw V h ao c hr hc => (xbegin_t h n k ao l c now xs hlx hr hc hn hk hl ht' hf hbg).mono ?_, fun w q v X h ao c hr hc => (rbegin_t h n k ao l c now xs hlx hr hc hlb hn hk hl ht' hf).mono ?_, Nat.le_refl _, ?_, ?_⟩
            · rintro e w' ⟨va, V', E, he, hb⟩
              exact ⟨va, V', E, he, ⟨hb.row, hb.txt, hb.st, hb.stp, hb.farU, hb.farT⟩⟩
            · rintro e w' ⟨va, v', E, he, hb⟩
              exact ⟨va, v', E, he, ⟨hb.row, hb.txt, hb.st, hb.stp⟩⟩
            · rw [segN_len]
              exact cutN_64 hm (by omega)
            · intro t ht
              obtain ⟨i, -, rfl⟩ := List.mem_map.1 ht
              rw [List.length_take]
              omega
          · exact ⟨2, [], s, fun w p ms mn pw mw V h ao c hr hc => refP h n (xbegin_full h n k ao l c now hn hk hl ht' (by omega)), fun w q v X h ao c hr hc => refD h n (rbegin_full h n k ao l c now xs hlx hr hc hlb hn hk hl ht' (by omega)), Nat.le_succ _, by simp, fun t ht => by cases ht⟩
      · refine ⟨1, [], s, fun w p ms mn pw mw V h ao c hr hc => refP h n ?_, fun w q v X h ao c hr hc => refD h n (rbegin_arg h n k ao l c now xs hlx hr hc hlb (fun h9 => hl h9.2.2)), Nat.le_succ _, by simp, fun t ht => by cases ht⟩
        by_cases h0 : l = 0
        · exact xbegin_nil h n k ao l c now hn hk h0
        · exact xbegin_big h n k ao l c now hn hk (by omega)
    · exact ⟨1, [], s, fun w p ms mn pw mw V h ao c hr hc => refP h n (xbegin_key h n k ao l c now hn hk), fun w q v X h ao c hr hc => refD h n (rbegin_arg h n k ao l c now xs hlx hr hc hlb (fun h9 => hk h9.2.1)), Nat.le_succ _, by simp, fun t ht => by cases ht⟩
  · exact ⟨1, [], s, fun w p ms mn pw mw V h ao c hr hc => refP h n (xbegin_num h n k ao l c now hn), fun w q v X h ao c hr hc => refD h n (rbegin_arg h n k ao l c now xs hlx hr hc hlb (fun h9 => hn h9.1)), Nat.le_succ _, by simp, fun t ht => by cases ht⟩
end Go.Proofs.YtiedgcanndgmoaaGreatDoor
namespace Go.Proofs.YtiedgcanndgmoaaGreatDoor
set_option linter.unusedVariables false
set_option linter.unusedSimpArgs false
open Go.RowKit Go.Maps
/-- nothing is lost by stores -/
structure Sty (w w' : World) : Prop where
  some : ∀ x : Addr, (w.cell? x).isSome = true → (w'.cell? x).isSome = true
  frz : ∀ x : Addr, w'.frozen? x = w.frozen? x
theorem Sty.refl (w : World) : Sty w w := ⟨fun _ h => h, fun _ => rfl⟩
theorem Sty.trans {a b c : World} (h : Sty a b) (k : Sty b c) : Sty a c := ⟨fun x hx => k.some x (h.some x hx), fun x => (k.frz x).trans (h.frz x)⟩
theorem Sty.set1 (w : World) (b i : Nat) (u : Value) (hx : (w.cell? ⟨b, i, none⟩).isSome = true) : Sty w (w.setCell ⟨b, i, none⟩ u) := by
  refine ⟨fun x h => ?_, fun x => World.frozen?_setCell _ _ _ _⟩
  by_cases e : x = ⟨b, i, none⟩
  · subst e
    have h9 := World.cell?_setCells_in b [u] i w (fun j hj => by
      have : j = 0 := by simp at hj; omega
      subst this
      rw [Nat.add_zero]
      exact hx) 0 (by simp)
    rw [Nat.add_zero] at h9
    have h8 : (w.setCell ⟨b, i, none⟩ u).cell? ⟨b, i, none⟩ = _ := h9
    rw [h8]
    rfl
  · have h9 := World.cell?_setCells_out b [u] i w x (fun h1 h2 => by
      obtain ⟨xb, xo, xs⟩ := x
      simp only at h1 h2
      subst h1 h2
      have : xo ≠ i := fun e2 => e (by rw [e2])
      simp
      omega)
    have h8 : (w.setCell ⟨b, i, none⟩ u).cell? x = _ := h9
    rw [h8]
    exact h
theorem Sty.setN (b : Nat) : ∀ (vs : List Value) (o : Nat) (w : World), (∀ j, j < vs.length → (w.cell? ⟨b, o + j, none⟩).isSome = true) → Sty w (w.setCells b o vs)
  | [], o, w, _ => Sty.refl w
  | u :: r, o, w, h => by
    have h1 := Sty.set1 w b o u (by have := h 0 (by simp); rw [Nat.add_zero] at this; exact this)
    rw [World.setCells]
    exact h1.trans (Sty.setN b r (o + 1) _ (fun j hj => h1.some _ (by have := h (j + 1) (by simp; omega); rw [show o + (j + 1) = o + 1 + j by omega] at this; exact this)))
/-- a row of bytes whose cells can be written -/
def WrB (w : World) (a : Option Addr) (n : Nat) : Prop := ∀ j, j < n → ∃ g, a = some ⟨g, 0, none⟩ ∧ (w.cell? ⟨g, j, none⟩).isSome = true ∧ w.frozen? ⟨g, j, none⟩ = false
theorem WrB.of_own {w : World} {B n m c : Nat} {a : Option Addr} {xs : List UInt8} (h : Own w B (.slice a m c) xs) (hn : n ≤ xs.length) : WrB w a n := fun j hj => by
  obtain ⟨a', c', hv, hle, -, hnil, -, -⟩ := h.val
  simp only [Value.slice.injEq] at hv
  obtain ⟨rfl, rfl, rfl⟩ := hv
  cases a with
  | none => have := hnil rfl; omega
  | some ad =>
    have h2 := h
    rcases h2.2 with h1 | ⟨g, cap, cur, h1, -, hg, -⟩
    · have := h1.1
      cases this
    · cases h1
      refine ⟨g, rfl, ?_, by simp [World.frozen?, hg]⟩
      rw [World.ownsRow.cellAt h j (by omega), bv_get _ _ (by omega)]
      rfl
theorem WrB.belowW {w w' : World} {a : Option Addr} {n : Nat} (h : WrB w a n) (hb : Below w.heap.size w w') : WrB w' a n := fun j hj => by
  obtain ⟨g, h1, h2, h3⟩ := h j hj
  obtain ⟨u, hu⟩ := Option.isSome_iff_exists.1 h2
  have hl := World.block_lt_of_cell? w _ hu
  refine ⟨g, h1, ?_, (World.frozen?_of_block (a := ⟨g, j, none⟩) (hb.block g hl)).trans h3⟩
  rw [(hb.cell hl).trans hu]
  rfl
theorem WrB.sty {w w' : World} {a : Option Addr} {n : Nat} (h : WrB w a n) (hs : Sty w w') : WrB w' a n := fun j hj => by
  obtain ⟨g, h1, h2, h3⟩ := h j hj
  exact ⟨g, h1, hs.some _ h2, (hs.frz _).trans h3⟩
section
variable {w w' : World} {H : Nat → Prop} {p ms mn pw mw : Nat} {V V' : Nat → Nat → Value} {q : Nat} {v v' : Value} {X : Value × Value × Value × Value} {s s' t t' : Xs}
set_option maxRecDepth 20000
set_option maxHeartbeats 6400000
theorem Exx.mores (h : Exx w H p ms mn pw mw V q v X s t) {G : Nat → Prop} (hG : ∀ b, G b → b < w.heap.size ∧ ¬ footX p ms mn pw mw V b ∧ ¬ footR q v b) : Exx w (fun b => H b ∨ G b) p ms mn pw mw V q v X s t :=
  ⟨h.a, h.b, h.ap, fun b hb => by
    rcases hb with hb | hb
    · exact h.av b hb
    · exact hG b hb, h.tz, .inl h.h0⟩
theorem step_begin (h : Exx w H p ms mn pw mw V q v X s s) (y : Oe) (k1 : (y.kd == 1) = true) (ok : ∀ u, Chg (fun b => ¬ H b) w u → OeOk u y) (hbg : s.beg < 9223372036854775807) :
    Calls Tryz.prog 20 #[.pointer (some ⟨p, 0, none⟩), .pointer (some ⟨q, 0, none⟩), .agg y.c] w fun e w' => e = .returned (.bool true) ∧ ∃ V' v' s', StpOut w w' H p ms mn pw mw V' q v' X s s' := by
  obtain ⟨w1, hw1⟩ : ∃ w1, w1 = w.alloc (.cells y.c tOe) := ⟨_, rfl⟩
  have h1 := h.box (.cells y.c tOe)
  rw [← hw1] at h1
  have hbx1 : w1.heap[w.heap.size]? = some (.cells y.c tOe (0, 0)) := by rw [hw1]; exact heap_alloc_new w _
  have hoc := fun (u : World) (hu : u.heap[w.heap.size]? = some (.cells y.c tOe (0, 0))) => oeCells hu
  have hc1 : (w.alloc (.cells y.c tOe)).cell? ⟨w.heap.size, 0, none⟩ = some (.int .i64 y.kd) := by rw [← hw1]; exact (hoc w1 hbx1).1
  have HCW : Hid (Chg (fun b => ¬ H b) w w1) := by unfold Hid; rw [hw1]; exact Chg.of_below (alw (Below.refl _ _) _)
  have HW1 : Hid (w1 = _) := hw1
  have HH : Hid _ := h1
  have HZ0 : Hid (H 0) := h.h0
  have HBX : Hid _ := hbx1
  have HAV : Hid (∀ u u', Chg (fun b => ¬ (H b ∨ b = w.heap.size)) u u' → w.heap.size < u.heap.size → u'.heap[w.heap.size]? = u.heap[w.heap.size]?) := fun u u' hc hl => hc.block _ hl (fun h9 => h9 (.inr rfl))
  have HLS : Hid (∀ u u', Chg (fun b => ¬ (H b ∨ b = w.heap.size)) u u' → Chg (fun b => ¬ H b) u u') := fun u u' hc => hc.mono (fun b hb hh => hb (.inl hh))
  have hcs := hoc w1 hbx1
  rw [hw1] at hcs
  have ok1 := ok w1 HCW.out
  obtain ⟨er, T, s', HP, HD, hbeg, hT, hTb⟩ := begin_pair s h.a.inv.mt.1 h.a.inv.mt.2 hbg y.n y.k y.bn y.now y.xs ok1.bn (by have := ok1.bl; have := ok1.bb; omega)
  obtain ⟨M4, hM4⟩ : ∃ M4, M4 = y.bn + 4 := ⟨_, rfl⟩
  have hBY := bytes_own y.ba y.bc y.xs w1 ok1.br (by have := ok1.bl; have := ok1.bb; have := ok1.bn; omega)
  rw [← ok1.bn, ← hM4] at hBY
  have HBY : Hid _ := hBY
  have HHP : Hid _ := HP
  have HHD : Hid _ := HD
  have HBEG : Hid _ := hbeg
  have HT : Hid _ := hT
  have HTB : Hid _ := hTb
  have HOK : Hid _ := ok
  have HM4 : Hid _ := hM4
  have hbnb : y.bn ≤ 140737488351232 := by have := ok1.bl; have := ok1.bb; omega
  have HLO : Hid (∀ b, H b → b < w.heap.size) := fun b hb => (h.av b hb).1
  have HBN : Hid _ := ok1.bn
  clear h h1 hw1 hbx1 ok ok1 HP HD hbeg hT hTb hBY hM4 hbg
  go_enter Tryz.func20, Tryz.ntmps20
  go_wp2_with fail
  rw [← HW1.out]
  refine Calls.mono HBY.out ?_
  rintro e9 w2 ⟨g, rfl, hgw, hown2, hb2⟩
  have hg2 : g < w2.heap.size := by
    rcases hown2.2 with ⟨h1, -⟩ | ⟨g', cap, cur, h1, -, hg, -⟩
    · cases h1
    · cases h1
      exact (Array.getElem?_eq_some_iff.1 hg).1
  have hP2 := (HH.out.below hb2).more hg2 (HH.out.fresh hgw).1 (HH.out.fresh hgw).2
  have hbx2 := (hb2.block _ (Array.getElem?_eq_some_iff.1 HBX.out).1).trans HBX.out
  have hrd2 : Rd w2 (some ⟨g, 0, none⟩) (y.xs ++ m4) := by
    obtain ⟨a, c, hv, -, -, -, hrd, -⟩ := hown2.val
    simp only [Value.slice.injEq] at hv
    rw [hv.1]
    exact hrd
  have hrd2' : Rd w2 (some ⟨g, 0, none⟩) y.xs := by
    have h9 := Rd.take hrd2 y.xs.length
    rw [List.take_left' rfl] at h9
    exact h9
  have hc2 := hoc w2 hbx2
  have HPB : Hid _ := HHP.out w2 p ms mn pw mw V hP2.a (some ⟨g, 0, none⟩) M4 hrd2' (by rw [HM4.out]; omega)
  have HP2 : Hid _ := hP2
  have HBX2 : Hid _ := hbx2
  have HR2 : Hid (Rd w2 (some ⟨g, 0, none⟩) (y.xs ++ m4)) := hrd2
  have HO2 : Hid _ := hown2
  have HG2 : Hid (w1.heap.size ≤ g ∧ g < w2.heap.size) := ⟨hgw, hg2⟩
  have HC2 : Hid (Chg (fun b => ¬ H b) w w2) := HCW.out.trans (Chg.of_below hb2) (fun b hb => .inl hb)
  have HSZ : Hid (w.heap.size < w1.heap.size) := (Array.getElem?_eq_some_iff.1 HBX.out).1
  have HSZ2 : Hid (w1.heap.size ≤ w2.heap.size) := hb2.size
  clear hgw hg2 hown2 hb2 hbx2 hrd2 hrd2' hP2 hcs hc1
  go_wp2_with fail
  refine Calls.mono HPB.out ?_
  rintro e9 w3 ⟨va, V', E, rfl, hbp⟩
  have hp3 := HP2.out.prog hbp.st hbp.stp
  have hP3 : Exx w3 (fun b => ((H b ∨ b = w.heap.size) ∨ b = g) ∨ (va.ownBlock = some b ∨ XV E b)) p ms mn pw mw V' q v X s' s := hp3.1.mores (fun b hb => by
    rcases hb with hb | hb
    · have h1 := hbp.row.lt' hb
      exact ⟨h1.2, hbp.farU b hb, fun hf => by have := HP2.out.b.lt hf; omega⟩
    · have h1 := hbp.txt.lt hb
      exact ⟨h1.2, hbp.farT b hb, fun hf => by have := HP2.out.b.lt hf; omega⟩)
  have hK3 : ∀ b, ((H b ∨ b = w.heap.size) ∨ b = g) → w3.heap[b]? = w2.heap[b]? := fun b hb => hp3.2.block b (HP2.out.av b hb).1 (fun h9 => h9 hb)
  have hbx3 := (hK3 w.heap.size (.inl (.inr rfl))).trans HBX2.out
  have hc3 : Chg (fun b => ¬ H b) w w3 := HC2.out.trans (hp3.2.mono (fun b hb hh => hb (.inl (.inl hh)))) (fun b hb => .inl hb)
  have hcs3 := hoc w3 hbx3
  have HDB : Hid _ := HHD.out w3 q v X hP3.b y.ba y.bc (HOK.out w3 hc3).br (HOK.out w3 hc3).bl
  have HP3 : Hid _ := hP3
  have HBX3 : Hid _ := hbx3
  have HC3 : Hid _ := hc3
  have HK3 : Hid _ := hK3
  have HBP : Hid _ := hbp
  clear hbp hp3 hP3 hK3 hbx3 hc3 hc2
  go_wp2_with fail
  refine Calls.mono HDB.out ?_
  rintro e9 w4 ⟨vb, v', E2, rfl, hbd⟩
  have hp4 := HP3.out.doc hbd.st hbd.stp
  have hK4 : ∀ b, (((H b ∨ b = w.heap.size) ∨ b = g) ∨ (va.ownBlock = some b ∨ XV E b)) → w4.heap[b]? = w3.heap[b]? := fun b hb => hp4.2.block b (HP3.out.av b hb).1 (fun h9 => h9 hb)
  have hbx4 := (hK4 w.heap.size (.inl (.inl (.inr rfl)))).trans HBX3.out
  have hc4 : Chg (fun b => ¬ H b) w w4 := HC3.out.trans (hp4.2.mono (fun b hb hh => hb (.inl (.inl (.inl hh))))) (fun b hb => .inl hb)
  have hrowA : OwnG KBu w4 w2.heap.size va (uns s.ep y.n E.length E) := HBP.out.row.kept (fun b hb => hK4 b (.inr (.inl hb)))
  have htxtA : Fml w4 w2.heap.size E T := HBP.out.txt.kept (fun b hb => hK4 b (.inr (.inr hb)))
  have hg4 : w4.heap[g]? = w2.heap[g]? := (hK4 g (.inl (.inr rfl))).trans (HK3.out g (.inr rfl))
  have hlenE : E.length = E2.length := by rw [htxtA.len, hbd.txt.len]
  obtain ⟨N, hN⟩ : ∃ N, N = E.length := ⟨_, rfl⟩
  have hN64 : N ≤ 64 := by rw [hN, htxtA.len]; exact HT.out
  obtain ⟨aa, ca, hva, -, -, -, hra⟩ := hrowA.val
  obtain ⟨ab, cb, hvb, -, -, -, hrb⟩ := hbd.row.val
  rw [uns_len, ← hN] at hva
  rw [uns_len, ← hlenE, ← hN] at hvb
  have HSU : Hid (Calls Tryz.prog 39 #[.slice aa N ca, .slice ab N cb] w4 fun r w' => r = .returned (.bool true) ∧ Below w4.heap.size w4 w') := by
    refine sameUnits_t aa ab N ca cb ((uns s.ep y.n E.length E).map uvB) ((uns s.ep y.n E2.length E2).map uvB) (by rw [List.length_map, uns_len]; exact hN) (by rw [List.length_map, uns_len, ← hlenE]; exact hN) (by omega) (rdUB hra) (rdUB hrb) ?_
    intro i h1 h2
    have hi1 : i < E.length := by rw [List.length_map, uns_len] at h1; exact h1
    have hi2 : i < E2.length := by omega
    have hiT : i < T.length := by rw [← htxtA.len]; exact hi1
    have o1 := htxtA.own i E[i] T[i] (List.getElem?_eq_getElem hi1) (List.getElem?_eq_getElem hiT)
    have o2 := hbd.txt.own i E2[i] T[i] (List.getElem?_eq_getElem hi2) (List.getElem?_eq_getElem hiT)
    obtain ⟨a1, c1, e1, l1, m1, -, r1, -⟩ := o1.val
    obtain ⟨a2, c2, e2, l2, m2, -, r2, -⟩ := o2.val
    simp only [Dc.v, Value.slice.injEq] at e1 e2
    rw [List.getElem_map, List.getElem_map, uns_get s.ep y.n E.length E i hi1, uns_get s.ep y.n E2.length E2 i hi2]
    refine ⟨T[i], [], ⟨rfl, rfl, rfl, rfl, rfl, by show ((E.length : Nat) : Int) = (E2.length : Int); rw [hlenE], rfl⟩, e1.2.1, e2.2.1, ?_, ?_, rfl, rfl, (fun j hj => by simp at hj), (fun j hj => by simp at hj), ?_, by simp⟩
    · show Rd w4 E[i].a T[i]
      rw [e1.1]; exact r1
    · show Rd w4 E2[i].a T[i]
      rw [e2.1]; exact r2
    · have := HTB.out T[i] (List.getElem_mem hiT); omega
  have ok4 := HOK.out w4 hc4
  have HST : Hid (∀ u, Below w4.heap.size w4 u → Calls Tryz.prog 40 #[.slice (some ⟨g, 0, none⟩) y.bn M4, .slice y.ba y.bn y.bc] u fun e w' => e = .returned (.bool true) ∧ Below u.heap.size u w') := fun u hu => by
    rw [HM4.out, ok4.bn]
    exact stays_t g y.ba y.bc y.xs u ((HR2.out.kept (fun ad e => by cases e; exact hg4)).below hu) (ok4.br.below hu) (by have := ok4.bn; omega)
  have hoB : WrB w4 (some ⟨g, 0, none⟩) y.bn := WrB.of_own (Own.keptb HO2.out (fun b e => by cases e; exact hg4)) (by rw [List.length_append, HBN.out]; omega)
  have HOC5 : Hid (∀ u, Below w4.heap.size w4 u → _) := fun u hu => oeCells ((hu.block _ (Array.getElem?_eq_some_iff.1 hbx4).1).trans hbx4)
  -- the rows that may be written to
  have hXV : ∀ i (hi : i < E.length), WrB w4 E[i].a E[i].n ∧ (∀ b, E[i].v.ownBlock = some b → XV E b) ∧ E[i].n ≤ 1024 := fun i hi => by
    have hiT : i < T.length := by rw [← htxtA.len]; exact hi
    have o1 := htxtA.own i E[i] T[i] (List.getElem?_eq_getElem hi) (List.getElem?_eq_getElem hiT)
    obtain ⟨a1, c1, e1, -⟩ := o1.val
    simp only [Dc.v, Value.slice.injEq] at e1
    exact ⟨WrB.of_own o1 (by omega), fun b hb => ⟨i, E[i], List.getElem?_eq_getElem hi, hb⟩, by have := HTB.out T[i] (List.getElem_mem hiT); omega⟩
  have hXU : ∀ b, XV E b → va.ownBlock ≠ some b := fun b hb e => by
    obtain ⟨i, d, h1, h2⟩ := hb
    have hi := (List.getElem?_eq_some_iff.1 h1).1
    have hiT : i < T.length := by rw [← htxtA.len]; exact hi
    obtain ⟨C, h3⟩ := Own.blk (htxtA.own i d T[i] h1 (List.getElem?_eq_getElem hiT)) h2
    obtain ⟨C2, h4⟩ := hrowA.at_ e
    exact absurd (ty_of h3 h4) (by decide)
  have hU : 0 < N → ∃ gU, aa = some ⟨gU, 0, none⟩ ∧ va.ownBlock = some gU ∧ (∀ i (hi : i < E.length), w4.cell? ⟨gU, i * 9 + 6, none⟩ = some E[i].v) ∧ ∀ j, j < N * 9 → (w4.cell? ⟨gU, j, none⟩).isSome = true ∧ w4.frozen? ⟨gU, j, none⟩ = false := fun hp => by
    obtain ⟨gU, c9, h1, -⟩ := hrowA.one (by rw [uns_len, ← hN]; exact hp)
    rw [uns_len, ← hN] at h1
    have h2 : va = .slice (some ⟨gU, 0, none⟩) N c9 := h1
    rw [hva] at h1
    simp only [Value.slice.injEq] at h1
    have hr := hrowA
    rw [h2] at hr
    refine ⟨gU, h1.1, by rw [h2]; rfl, fun i hi => ?_, fun j hj => ?_⟩
    · have h9 := hr.cell (by rw [uns_len]; exact hN) i 6 (by rw [uns_len]; exact hi) (by decide)
      rw [uns_get s.ep y.n E.length E i hi] at h9
      exact h9
    · have h9 := hr.cell (by rw [uns_len]; exact hN) (j / 9) (j % 9) (by rw [uns_len, ← hN]; omega) (Nat.mod_lt _ (by decide))
      have e9 : j / 9 * KBu.k + j % 9 = j := by show j / 9 * 9 + j % 9 = j; omega
      rw [e9] at h9
      refine ⟨?_, hr.fz j⟩
      rw [h9, List.getElem?_eq_getElem (by rw [KBu.hk]; exact Nat.mod_lt _ (by decide))]
      rfl
  obtain ⟨F, hF⟩ : ∃ F : Nat → Prop, F = fun b => b = g ∨ (va.ownBlock = some b ∨ XV E b) := ⟨_, rfl⟩
  have hFg : F g := by rw [hF]; exact .inl rfl
  have hFU : ∀ b, va.ownBlock = some b → F b := fun b hb => by rw [hF]; exact .inr (.inl hb)
  have hFX : ∀ b, XV E b → F b := fun b hb => by rw [hF]; exact .inr (.inr hb)
  have hP4 : Exx w4 H p ms mn pw mw V' q v' X s' s' := hp4.1.less (fun b hb => .inl (.inl (.inl hb))) HZ0.out
  have hFo : ∀ b, F b → ¬ footX p ms mn pw mw V' b ∧ ¬ footR q v' b ∧ ¬ H b := fun b hb => by
    rw [hF] at hb
    have hb' : (((H b ∨ b = w.heap.size) ∨ b = g) ∨ (va.ownBlock = some b ∨ XV E b)) := by
      rcases hb with rfl | hb
      · exact .inl (.inr rfl)
      · exact .inr hb
    refine ⟨(hp4.1.av b hb').2.1, (hp4.1.av b hb').2.2, fun hh => ?_⟩
    have h1 := HLO.out b hh
    have h2 := HSZ.out
    have h3 := HSZ2.out
    rcases hb with rfl | hb | hb
    · have := HG2.out.1; omega
    · have := (HBP.out.row.lt' hb).1; omega
    · have := (HBP.out.txt.lt hb).1; omega
  have HXV : Hid _ := hXV
  have HNG : Hid (∀ b, va.ownBlock = some b → ¬ b = g) := fun b hb e => by have h1 := (HBP.out.row.lt' hb).1; have h2 := HG2.out.2; omega
  have HXU : Hid _ := hXU
  have HU : Hid _ := hU
  have HFG : Hid _ := hFg
  have HFU : Hid _ := hFU
  have HFX : Hid _ := hFX
  have HP4 : Hid _ := hP4
  have HFO : Hid _ := hFo
  have HOB : Hid (WrB w4 (some ⟨g, 0, none⟩) y.bn) := hoB
  have HC4 : Hid _ := hc4
  have HN : Hid _ := hN
  have HVA : Hid (va.ownBlock = (Value.slice aa N ca).ownBlock) := by unfold Hid; rw [hva]
  clear hbd hp4 hK4 hbx4 hc4 hrowA htxtA hg4 hlenE hra hrb ok4 hoB hXV hXU hU hF hFg hFU hFX hP4 hFo hcs3 hN hoc HPB HDB HHP HHD
  obtain ⟨vA, hvA⟩ : ∃ vA, vA = va := ⟨_, rfl⟩
  rw [← hvA] at HXU HU HFU HVA HNG
  have HvA : Hid _ := hvA
  clear hvA
  subst hva hvb
  go_wp2_with (first
    | (go_at_call 39; refine Calls.mono HSU.out ?_; rintro e1 w5 ⟨rfl, hb5⟩; have HB5 : Hid _ := hb5; have hbx5 := HOC5.out w5 hb5; clear hb5)
    | (go_at_call 40; refine Calls.mono (HST.out _ HB5.out) ?_; rintro e1 w6 ⟨rfl, hb6⟩; have HB6 : Hid _ := below_next HB5.out hb6; clear hb6))
  clear hbx5 HOC5 HSU HST
  go_loopw [13] (fun j wr => ∃ k : Nat, k ≤ y.bn ∧ j = .int .i64 (k : Int) ∧ Sty w6 wr ∧ Chg (fun b => b = g) w6 wr) (fun j _ => y.bn - (intOf j).toNat)
  case atStart => exact ⟨0, Nat.zero_le _, rfl, Sty.refl _, Chg.refl _ _⟩
  case round =>
    obtain ⟨k, hkn, rfl, hsty, hchg⟩ := hrel
    have hkw : IntKind.i64.wrap ((k : Int) + 1) = ((k + 1 : Nat) : Int) := by rw [IntKind.wrap_i64]; omega
    by_cases hlt : k < y.bn
    · have hlti : (k : Int) < (y.bn : Int) := by omega
      have hk0 : (0 : Int) ≤ (k : Int) := by omega
      obtain ⟨g', e1, h2, h3⟩ := (HOB.out.belowW HB6.out).sty hsty k hlt
      cases e1
      obtain ⟨u, hu⟩ := Option.isSome_iff_exists.1 h2
      have HS : Hid (Sty w6 (wr.setCell ⟨g, k, none⟩ (.int .u8 90))) := hsty.trans (Sty.set1 wr g k _ h2)
      have HC : Hid (Chg (fun b => b = g) w6 (wr.setCell ⟨g, k, none⟩ (.int .u8 90))) := hchg.trans (Chg.of_grown (F := fun b => b = g) (gset1 wr g k _) (fun b e => (Option.some.inj e).symm)) (fun b hb => .inl hb)
      clear h2 hsty hchg
      go_wp2
      go_roundw
      case rel => exact ⟨k + 1, by omega, by go_num, HS.out, HC.out⟩
      case measure => simp [intOf]; omega
    · have hlti : ¬ (k : Int) < (y.bn : Int) := by omega
      obtain ⟨w7, hw7⟩ : ∃ w7, w7 = wr := ⟨_, rfl⟩
      have HS7 : Hid (Sty w6 wr) := hsty
      have HC7 : Hid (Chg (fun b => b = g) w6 wr) := hchg
      clear hsty hchg
      go_wp2
      rw [← hw7]
      rw [← hw7] at HS7 HC7
      clear hw7
      go_loopw [14] (fun j2 wv => ∃ k2 : Nat, k2 ≤ N ∧ j2 = .int .i64 (k2 : Int) ∧ Sty w6 wv ∧ Chg F w6 wv ∧ Hid (∀ gU, vA.ownBlock = some gU → ∀ i (hi : i < E.length), k2 ≤ i → wv.cell? ⟨gU, i * 9 + 6, none⟩ = some E[i].v)) (fun j2 _ => N - (intOf j2).toNat)
      case atStart =>
        refine ⟨0, Nat.zero_le _, rfl, HS7.out, HC7.out.mono (fun b e => by rw [e]; exact HFG.out), fun gU hgU i hi _ => ?_⟩
        obtain ⟨gU', -, e2, h3, -⟩ := HU.out (by have := HN.out; omega)
        rw [hgU] at e2
        cases e2
        have h4 := h3 i hi
        have h5 := (HB6.out.cell (World.block_lt_of_cell? w4 _ h4)).trans h4
        have h6 : w7.heap[gU]? = w6.heap[gU]? := HC7.out.block gU (World.block_lt_of_cell? w6 _ h5) (HNG.out gU hgU)
        exact (World.cell?_of_block h6).trans h5
      case round =>
        rename World => wv
        obtain ⟨k2, hkn2, rfl, hsty2, hchg2, HCL⟩ := hrel
        have hkw2 : IntKind.i64.wrap ((k2 : Int) + 1) = ((k2 + 1 : Nat) : Int) := by rw [IntKind.wrap_i64]; omega
        by_cases hlt2 : k2 < N
        · have hlti2 : (k2 : Int) < (N : Int) := by omega
          have hk02 : (0 : Int) ≤ (k2 : Int) := by omega
          have hkE : k2 < E.length := by rw [← HN.out]; exact hlt2
          obtain ⟨gU, rfl, hgU, -, hex⟩ := HU.out (by omega)
          obtain ⟨d, hd⟩ : ∃ d, d = E[k2] := ⟨_, rfl⟩
          obtain ⟨hwr, hxv, hdnb⟩ := HXV.out k2 hkE
          have hcd := HCL.out gU hgU k2 hkE (Nat.le_refl _)
          rw [← hd] at hcd hwr hxv hdnb
          obtain ⟨da, dn, dc⟩ := d
          have hcd' : wv.cell? ⟨gU, k2 * 9 + 6, none⟩ = some (.slice da dn dc) := hcd
          have HWR : Hid (WrB w6 da dn) := hwr.belowW HB6.out
          have HXVD : Hid (∀ b, (Value.slice da dn dc).ownBlock = some b → XV E b) := hxv
          have HEX : Hid (∀ j, j < N * 9 → (w6.cell? ⟨gU, j, none⟩).isSome = true ∧ w6.frozen? ⟨gU, j, none⟩ = false) := fun j hj => by
            obtain ⟨u, hu⟩ := Option.isSome_iff_exists.1 (hex j hj).1
            have hl := World.block_lt_of_cell? w4 _ hu
            refine ⟨?_, (World.frozen?_of_block (a := ⟨gU, j, none⟩) (HB6.out.block gU hl)).trans (hex j hj).2⟩
            rw [(HB6.out.cell hl).trans hu]
            rfl
          have HGU : Hid _ := hgU
          have HS2 : Hid (Sty w6 wv) := hsty2
          have HC2 : Hid (Chg F w6 wv) := hchg2
          have hdn : dn ≤ 1024 := hdnb
          clear hcd hwr hxv hdnb hd hex hgU hsty2 hchg2 hkE
          go_wp2
          go_loopw [15] (fun j3 wx => ∃ k3 : Nat, k3 ≤ dn ∧ j3 = .int .i64 (k3 : Int) ∧ Sty w6 wx ∧ Chg F w6 wx ∧ Chg (fun b => XV E b) wv wx) (fun j3 _ => dn - (intOf j3).toNat)
          case atStart => exact ⟨0, Nat.zero_le _, rfl, HS2.out, HC2.out, Chg.refl _ _⟩
          case round =>
            rename World => wx
            obtain ⟨k3, hkn3, rfl, hsty3, hchg3, hcx3⟩ := hrel
            have hkw3 : IntKind.i64.wrap ((k3 : Int) + 1) = ((k3 + 1 : Nat) : Int) := by rw [IntKind.wrap_i64]; omega
            have hcx : wx.cell? ⟨gU, k2 * 9 + 6, none⟩ = some (.slice da dn dc) := (World.cell?_of_block (hcx3.block gU (World.block_lt_of_cell? wv _ hcd') (fun hx => HXU.out gU hx HGU.out))).trans hcd'
            by_cases hlt3 : k3 < dn
            · have hlti3 : (k3 : Int) < (dn : Int) := by omega
              have hk03 : (0 : Int) ≤ (k3 : Int) := by omega
              obtain ⟨gk, e1, h2, h3⟩ := HWR.out.sty hsty3 k3 hlt3
              subst e1
              obtain ⟨u, hu⟩ := Option.isSome_iff_exists.1 h2
              have hxk : XV E gk := HXVD.out gk rfl
              have HS3 : Hid (Sty w6 (wx.setCell ⟨gk, k3, none⟩ (.int .u8 51))) := hsty3.trans (Sty.set1 wx gk k3 _ h2)
              have HC3 : Hid (Chg F w6 (wx.setCell ⟨gk, k3, none⟩ (.int .u8 51))) := hchg3.trans (Chg.of_grown (F := F) (gset1 wx gk k3 _) (fun b e => by cases e; exact HFX.out gk hxk)) (fun b hb => .inl hb)
              have HX3 : Hid (Chg (fun b => XV E b) wv (wx.setCell ⟨gk, k3, none⟩ (.int .u8 51))) := hcx3.trans (Chg.of_grown (F := fun b => XV E b) (gset1 wx gk k3 _) (fun b e => by cases e; exact hxk)) (fun b hb => .inl hb)
              clear h2 hsty3 hchg3 hcx3 hxk
              go_wp2
              go_roundw
              case rel => exact ⟨k3 + 1, by omega, by go_num, HS3.out, HC3.out, HX3.out⟩
              case measure => simp [intOf]; omega
            · have hlti3 : ¬ (k3 : Int) < (dn : Int) := by omega
              have HS3 : Hid (Sty w6 wx) := hsty3
              have HTH : Hid (wx.there gU (k2 * 9) 9) := fun i hi => ⟨hsty3.some _ (HEX.out (k2 * 9 + i) (by omega)).1, (hsty3.frz _).trans (HEX.out (k2 * 9 + i) (by omega)).2⟩
              have HSN : Hid (Sty w6 (wx.setCells gU (k2 * 9) [.int .i64 0, .int .u64 0, .int .u64 0, .int .i64 0, .int .i64 0, .int .i64 0, .slice none 0 0, .int .i64 0, .slice none 0 0])) := hsty3.trans (Sty.setN gU [.int .i64 0, .int .u64 0, .int .u64 0, .int .i64 0, .int .i64 0, .int .i64 0, .slice none 0 0, .int .i64 0, .slice none 0 0] (k2 * 9) wx (fun j hj => hsty3.some _ (HEX.out (k2 * 9 + j) (by simp at hj; omega)).1))
              have HCN : Hid (Chg F w6 (wx.setCells gU (k2 * 9) [.int .i64 0, .int .u64 0, .int .u64 0, .int .i64 0, .int .i64 0, .int .i64 0, .slice none 0 0, .int .i64 0, .slice none 0 0])) := hchg3.trans (Chg.of_grown (F := F) (setCells_grown gU [.int .i64 0, .int .u64 0, .int .u64 0, .int .i64 0, .int .i64 0, .int .i64 0, .slice none 0 0, .int .i64 0, .slice none 0 0] (k2 * 9) wx) (fun b e => by cases e; exact HFU.out gU HGU.out)) (fun b hb => .inl hb)
              have HCLN : Hid (∀ gU', vA.ownBlock = some gU' → ∀ i (hi : i < E.length), k2 + 1 ≤ i → (wx.setCells gU (k2 * 9) [.int .i64 0, .int .u64 0, .int .u64 0, .int .i64 0, .int .i64 0, .int .i64 0, .slice none 0 0, .int .i64 0, .slice none 0 0]).cell? ⟨gU', i * 9 + 6, none⟩ = some E[i].v) := fun gU' hgU' i hi hki => by
                have e : gU' = gU := by rw [HGU.out] at hgU'; exact (Option.some.inj hgU').symm
                subst e
                have h4 := HCL.out gU' HGU.out i hi (by omega)
                have h5 := (World.cell?_of_block (a := ⟨gU', i * 9 + 6, none⟩) (hcx3.block gU' (World.block_lt_of_cell? wv _ h4) (fun hx => HXU.out gU' hx HGU.out))).trans h4
                rw [World.cell?_setCells_out gU' [.int .i64 0, .int .u64 0, .int .u64 0, .int .i64 0, .int .i64 0, .int .i64 0, .slice none 0 0, .int .i64 0, .slice none 0 0] (k2 * 9) wx ⟨gU', i * 9 + 6, none⟩ (fun _ _ => .inr (by simp; omega))]
                exact h5
              clear hsty3 hchg3 hcx3
              go_wp2_with (refine wpList_store_mid rfl 41 _ _ rfl gU (k2 * 9) #[.int .i64 0, .int .u64 0, .int .u64 0, .int .i64 0, .int .i64 0, .int .i64 0, .slice none 0 0, .int .i64 0, .slice none 0 0] ?_ ?_ ?_ infoU9 (by simp [Value.oneCell']) ?_)
              · exact HTH.out
              go_roundw
              case rel => exact ⟨k2 + 1, by omega, by go_num, HSN.out, HCN.out, HCLN⟩
              case measure => simp [intOf]; omega
        · have hlti2 : ¬ (k2 : Int) < (N : Int) := by omega
          have HC2 : Hid (Chg F w6 wv) := hchg2
          clear hsty2 hchg2 HCL
          go_wp2
          go_ret
          have h9 := (HP4.out.below HB6.out).chg0 HC2.out (fun b hb => (HFO.out b hb).1) (fun b hb => (HFO.out b hb).2.1) (fun b hb => (HFO.out b hb).2.2)
          exact ⟨rfl, V', v', s', ⟨h9, (HC4.out.trans (Chg.of_below HB6.out) (fun b hb => .inl hb)).trans (HC2.out.mono (fun b hb => (HFO.out b hb).2.2)) (fun b hb => .inl hb), HBEG.out⟩⟩
end
end Go.Proofs.YtiedgcanndgmoaaGreatDoor
namespace Go.Proofs.YtiedgcanndgmoaaGreatDoor
set_option linter.unusedVariables false
set_option linter.unusedSimpArgs false
open Go.RowKit Go.Maps
section
variable {w w' : World} {H : Nat → Prop} {p ms mn pw mw : Nat} {V V' : Nat → Nat → Value} {q : Nat} {v v' : Value} {X : Value × Value × Value × Value} {s s' t t' : Xs}
/-- one call of a script: both senders answer the same and are in one state again -/
theorem step_t (h : Exx w H p ms mn pw mw V q v X s s) (y : Oe) (ok : ∀ u, Chg (fun b => ¬ H b) w u → OeOk u y) (hbg : s.beg < 9223372036854775807) :
    Calls Tryz.prog 20 #[.pointer (some ⟨p, 0, none⟩), .pointer (some ⟨q, 0, none⟩), .agg y.c] w fun e w' => e = .returned (.bool true) ∧ ∃ V' v' s', StpOut w w' H p ms mn pw mw V' q v' X s s' := by
  by_cases k1 : (y.kd == 1) = true
  · exact step_begin h y k1 ok hbg
  · have k1 : (y.kd == 1) = false := by simpa using k1
    by_cases k2 : (y.kd == 2) = true
    · exact step_hear h y k1 k2 ok
    · have k2 : (y.kd == 2) = false := by simpa using k2
      by_cases k3 : (y.kd == 3) = true
      · exact step_tick h y k1 k2 k3
      · have k3 : (y.kd == 3) = false := by simpa using k3
        by_cases k4 : (y.kd == 4) = true
        · exact step_stop h y k1 k2 k3 k4 (ok w (Chg.refl _ _)).kf
        · have k4 : (y.kd == 4) = false := by simpa using k4
          exact step_busy h y k1 k2 k3 k4
/-- a script that came in -/
def RdOe (w : World) (a : Option Addr) (xs : List Oe) : Prop := ∀ j (hj : j < xs.length), ∃ b o, a = some ⟨b, o, none⟩ ∧ OeOk w xs[j] ∧ w.rangeAt b (o + j * 15) xs[j].c.toList
theorem below_of_chg {w u u' : World} (hb : Below w.heap.size w u) (hc : Chg (fun b => ¬ b < w.heap.size) u u') : Below w.heap.size w u' :=
  ⟨hc.os.trans hb.os, hc.tape.trans hb.tape, hc.output.trans hb.output, Nat.le_trans hb.size hc.size, fun k hk => (hc.block k (Nat.lt_of_lt_of_le hk hb.size) (fun h => h hk)).trans (hb.block k hk)⟩
/-- two new senders, side by side -/
theorem Exx.fresh2 {w0 : World} (ha : XSt w p ms mn pw mw V s) (hb : Rx w q v X s) (h0 : 0 < w0.heap.size) (hl : w0.heap.size ≤ w.heap.size) (h1 : ∀ b, footX p ms mn pw mw V b → w0.heap.size ≤ b ∧ ¬ footR q v b) (h2 : ∀ b, footR q v b → w0.heap.size ≤ b) (tz : Wh.TabZ w) : Exx w (fun b => b < w0.heap.size) p ms mn pw mw V q v X s s :=
  ⟨ha, hb, fun b hb => (h1 b hb).2, fun b hb => ⟨Nat.lt_of_lt_of_le hb hl, fun h => by have := (h1 b h).1; omega, fun h => by have := h2 b h; omega⟩, tz, h0⟩
theorem infoOe : (Tryz.prog.info? tOe).map (·.size) = some 15 := by kernel_rfl
end
end Go.Proofs.YtiedgcanndgmoaaGreatDoor
namespace Go.Proofs.YtiedgcanndgmoaaGreatDoor
set_option linter.unusedVariables false
set_option linter.unusedSimpArgs false
open Go.RowKit Go.Maps
theorem info_cf : (Tryz.prog.info? 25).map (·.size) = some 6 := by kernel_rfl
theorem Wh.TabZ.pos {w : World} (h : Wh.TabZ w) : 0 < w.heap.size := World.block_lt_of_cell? w _ (h 0 (by decide))
set_option maxRecDepth 20000 in
set_option maxHeartbeats 6400000 in
theorem expressCalls_walk (m : Int) (a r : Nat) (t vw i : Int) (ep now : Nat) (ao : Option Addr) (len cap : Nat) (xs : List Oe) (w : World) (hep : ep < 18446744073709551616) (hnow : now < 18446744073709551616) (hx : len = xs.length) (hr : RdOe w ao xs) (hl : len ≤ 4398046511103) (ht : Wh.TabZ w) :
    Calls Tryz.prog 4 #[cfgv m a r t vw i, .int .u64 (ep : Int), .int .u64 (now : Int), .slice ao len cap] w fun e w' => e = .returned (.bool true) ∧ Below w.heap.size w w' := by
  subst hx
  obtain ⟨w1, hw1⟩ : ∃ w1, w1 = w.alloc (.cells #[.int .i64 m, .int .u64 (a : Int), .int .u64 (r : Int), .int .i64 t, .int .i64 vw, .int .i64 i] 25) := ⟨_, rfl⟩
  have hb1 : Below w.heap.size w w1 := by rw [hw1]; exact alw (Below.refl _ _) _
  have hbox : w1.heap[w.heap.size]? = some (.cells #[.int .i64 m, .int .u64 (a : Int), .int .u64 (r : Int), .int .i64 t, .int .i64 vw, .int .i64 i] 25 (0, 0)) := by rw [hw1]; exact heap_alloc_new w _
  have HB1 : Hid _ := hb1
  have HW1 : Hid (w1 = _) := hw1
  have HBOX : Hid _ := hbox
  have HR : Hid _ := hr
  have HT : Hid (Wh.TabZ w) := ht
  have HPOS : Hid _ := ht.pos
  have hcg : (w.alloc (.cells #[.int .i64 m, .int .u64 (a : Int), .int .u64 (r : Int), .int .i64 t, .int .i64 vw, .int .i64 i] 25)).heap[w.heap.size]? = some (.cells #[.int .i64 m, .int .u64 (a : Int), .int .u64 (r : Int), .int .i64 t, .int .i64 vw, .int .i64 i] 25 (0, 0)) := heap_alloc_new w _
  by_cases hc : CfgOk m a r t vw i ∧ 1 ≤ ep ∧ ep ≤ mxX
  · obtain ⟨M, rfl⟩ : ∃ M : Nat, m = (M : Int) := ⟨m.toNat, by have := hc.1.1; omega⟩
    have HN : Hid _ := xnew_t (w := w1) M a r t vw i ep now (Nat.lt_of_lt_of_le ht.pos hb1.size) hc.1 hc.2
    have HM : Hid (∀ u : World, Calls _ _ _ u _) := fun u => rnew_t (w := u) M a r t vw i ep now hc.1 hc.2
    clear hr ht hc hw1 hb1 hbox
    go_enter Tryz.func4, Tryz.ntmps4
    go_wp2_with (first
      | (refine wpList_load_g (by rfl) 25 _ rfl w.heap.size 0 (by rfl) [.int .i64 (M : Int), .int .u64 (a : Int), .int .u64 (r : Int), .int .i64 t, .int .i64 vw, .int .i64 i] _ (box_range hcg) Tryz.underlying25 rfl info_cf ?_))
    rw [← HW1.out]
    clear hcg
    refine Calls.mono HN.out ?_
    rintro e9 w2 ⟨p, ms, mn, pw, mw, V, rfl, hst, hb2, hf2⟩
    have hbx2 := (hb2.block _ (Array.getElem?_eq_some_iff.1 HBOX.out).1).trans HBOX.out
    have HB2 : Hid (Below w1.heap.size w1 w2) := hb2
    have HX2 : Hid _ := hst
    have HF2 : Hid _ := hf2
    clear hb2 hst hf2
    go_wp2_with (first
      | (refine wpList_load_g (by rfl) 25 _ rfl w.heap.size 0 (by rfl) [.int .i64 (M : Int), .int .u64 (a : Int), .int .u64 (r : Int), .int .i64 t, .int .i64 vw, .int .i64 i] _ (box_range hbx2) Tryz.underlying25 rfl info_cf ?_))
    clear hbx2
    refine Calls.mono (HM.out w2) ?_
    rintro e9 w3 ⟨q, rfl, hrx, hb3, hq3⟩
    have hBW : Below w.heap.size w w3 := HB1.out.trans ((below_next HB2.out hb3).mono HB1.out.size)
    have HE3 : Hid (Exx w3 (fun b => b < w.heap.size) p ms mn pw mw V q (.slice none 0 0) (.int .u64 (r : Int), .int .i64 t, .int .i64 vw, .int .i64 i) (newX M a ep now) (newX M a ep now)) := Exx.fresh2 (HX2.out.below hb3) hrx HPOS.out hBW.size (fun b hb => ⟨Nat.le_trans HB1.out.size (HF2.out b hb), fun hf => by
        have h1 := HX2.out.lt hb
        rcases hf with hf | hf
        · omega
        · cases hf⟩) (fun b hb => by
        rcases hb with hb | hb
        · have := HB2.out.size; have := HB1.out.size; omega
        · cases hb) (Wh.TabZ.below HT.out hBW)
    have HB3 : Hid _ := hBW
    clear hrx hb3 hq3 hBW
    go_wp2
    go_loopw [13] (fun j wr => ∃ (k : Nat) (V : Nat → Nat → Value) (v : Value) (s : Xs), k ≤ xs.length ∧ j = .int .i64 k ∧ s.beg ≤ k ∧ Exx wr (fun b => b < w.heap.size) p ms mn pw mw V q v (.int .u64 (r : Int), .int .i64 t, .int .i64 vw, .int .i64 i) s s ∧ Below w.heap.size w wr) (fun j _ => xs.length - (intOf j).toNat)
    case atStart => exact ⟨0, V, .slice none 0 0, newX M a ep now, Nat.zero_le _, rfl, Nat.le_refl _, HE3.out, HB3.out⟩
    case round =>
      obtain ⟨k, V1, v1, s, hk, rfl, hsb, hE, hB⟩ := hrel
      have HEr : Hid _ := hE
      have HBr : Hid _ := hB
      have HSB : Hid _ := hsb
      clear hE hB hsb
      by_cases hlt : k < xs.length
      · obtain ⟨b, o, rfl, hok, hrg⟩ := HR.out k hlt
        obtain ⟨y, hy⟩ : ∃ y, y = xs[k] := ⟨_, rfl⟩
        rw [← hy] at hok hrg
        have HOK : Hid _ := hok
        have hk0 : (0 : Int) ≤ (k : Int) := by omega
        have hkI : (k : Int) < (xs.length : Int) := by omega
        have hLD := rangeAt_below hrg HBr.out
        have HST : Hid _ := step_t HEr.out y (fun u hu => HOK.out.below (below_of_chg HBr.out hu)) (by have := HSB.out; omega)
        clear hy hok hrg
        go_wp2_with (first
          | (refine wpList_load_g (by rfl) tOe _ rfl b (o + k * 15) (by rfl) y.c.toList _ hLD Tryz.underlying43 rfl infoOe ?_)
          | (go_at_call 20; refine Calls.mono HST.out ?_; rintro e9 w4 ⟨rfl, V2, v2, s2, ho⟩; have HO : Hid _ := ho; have HB4 : Hid (Below w.heap.size w w4) := below_of_chg HBr.out ho.chg; clear ho; obtain ⟨n, hn⟩ : ∃ n, n = (s2.L.map Xe.k).length := ⟨_, rfl⟩; have hn64 : n ≤ 64 := (by rw [hn, List.length_map]; exact HO.out.st.a.inv.len); have HN9 : Hid _ := hn; clear hn hLD)
          | (go_at_call 18; refine Calls.mono (xbusy_t HO.out.st.a) ?_; rintro e9 w5 ⟨va, rfl, hown, hb5⟩; obtain ⟨aa, ca, hva, -, -, -, hra⟩ := hown.val; rw [← HN9.out] at hva; subst hva; have HP5 : Hid _ := HO.out.st.below hb5; have HRA : Hid (RdG KKy w5 aa (s2.L.map Xe.k)) := hra; have HB5 : Hid _ := hb5; clear hown hb5 hra)
          | (go_at_call 21; refine Calls.mono (rbusy_t HP5.out.b) ?_; rintro e9 w6 ⟨vb, rfl, hownb, hb6⟩; obtain ⟨ab, cb, hvb, -, -, -, hrb⟩ := hownb.val; rw [← HN9.out] at hvb; subst hvb; have HP6 : Hid _ := HP5.out.below hb6; have HRB : Hid (RdG KKy w6 ab (s2.L.map Xe.k)) := hrb; have HRA6 : Hid (RdG KKy w6 aa (s2.L.map Xe.k)) := RdG.below HRA.out hb6; have HB6 : Hid _ := hb6; clear hownb hb6 hrb)
          | (go_at_call 15; refine Calls.mono (sameKeys_t aa ab n ca cb (s2.L.map Xe.k) HN9.out (by omega) HRA6.out HRB.out) ?_; rintro e9 w7 ⟨rfl, hb7⟩; have HB7 : Hid _ := hb7; clear hb7))
        go_roundw
        case rel => exact ⟨k + 1, V2, v2, s2, by omega, by go_num, Nat.le_trans HO.out.bg (Nat.succ_le_succ HSB.out), HP6.out.below HB7.out, HB4.out.trans ((below_next (below_next HB5.out HB6.out) HB7.out).mono HB4.out.size)⟩
        case measure => simp [intOf]; omega
      · obtain rfl : k = xs.length := by omega
        go_wp2
        go_ret
        exact ⟨rfl, HBr.out⟩
  · have HN : Hid _ := xnew_no (w := w1) m a r t vw i ep now hc
    have HM : Hid (∀ u : World, Calls _ _ _ u _) := fun u => rnew_no (w := u) m a r t vw i ep now hc
    clear hr ht hc hw1 hb1 hbox
    go_enter Tryz.func4, Tryz.ntmps4
    go_wp2_with (first
      | (refine wpList_load_g (by rfl) 25 _ rfl w.heap.size 0 (by rfl) [.int .i64 m, .int .u64 (a : Int), .int .u64 (r : Int), .int .i64 t, .int .i64 vw, .int .i64 i] _ (box_range hcg) Tryz.underlying25 rfl info_cf ?_))
    rw [← HW1.out]
    clear hcg
    refine Calls.mono HN.out ?_
    rintro e9 w2 ⟨rfl, hb2⟩
    have hbx2 := (hb2.block _ (Array.getElem?_eq_some_iff.1 HBOX.out).1).trans HBOX.out
    have HB2 : Hid (Below w1.heap.size w1 w2) := hb2
    clear hb2
    go_wp2_with (first
      | (refine wpList_load_g (by rfl) 25 _ rfl w.heap.size 0 (by rfl) [.int .i64 m, .int .u64 (a : Int), .int .u64 (r : Int), .int .i64 t, .int .i64 vw, .int .i64 i] _ (box_range hbx2) Tryz.underlying25 rfl info_cf ?_))
    clear hbx2
    refine Calls.mono (HM.out w2) ?_
    rintro e9 w3 ⟨rfl, hb3⟩
    have HB3 : Hid (Below w.heap.size w w3) := HB1.out.trans ((below_next HB2.out hb3).mono HB1.out.size)
    clear hb3
    go_wp2
    go_ret
    exact ⟨rfl, HB3.out⟩
end Go.Proofs.YtiedgcanndgmoaaGreatDoor
