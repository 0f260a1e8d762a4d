import Derived.Test.YtgdkiejlggiakacDMore
namespace Go.Proofs.Ytgdkiejlggiakac
set_option linter.unusedVariables false
set_option linter.unusedSimpArgs false
open Go.RowKit Go.Maps
/-- bytes that can be read, and lie in a block of bytes that is the disk's -/
structure ByAt (w : World) (Fp : Nat → Prop) (v : Value) (xs : List UInt8) : Prop where
  ex : ∃ b o c, v = .slice (some ⟨b, o, none⟩) xs.length c ∧ Fp b ∧ Rd w (some ⟨b, o, none⟩) xs ∧ ∃ cs fr, w.heap[b]? = some (.cells cs 5 fr)
theorem ByAt.kept {w w' : World} {Fp Fp' F : Nat → Prop} {v : Value} {xs : List UInt8} (h : ByAt w Fp v xs) (hc : Chg F w w') (hF : ∀ b cs fr, Fp b → w.heap[b]? = some (.cells cs 5 fr) → ¬ F b) (hp : ∀ b, Fp b → Fp' b) : ByAt w' Fp' v xs := by
  obtain ⟨b, o, c, rfl, h1, h2, cs, fr, h3⟩ := h.ex
  exact ⟨b, o, c, rfl, hp b h1, h2.chg hc (fun a ha => by cases ha; exact hF b cs fr h1 h3), cs, fr, (hc.block b (Array.getElem?_eq_some_iff.1 h3).1 (hF b cs fr h1 h3)).trans h3⟩
def TextAt (w : World) (Fp : Nat → Prop) (v : Value) (s : Sec) : Prop := (v = nilS ∧ s.text = List.replicate 128 0) ∨ (s.torn = false ∧ ByAt w Fp v s.text)
def OwnV (w : World) (v : Value) (l : List Value) : Prop := w.ownsRow 0 40 1 v l.length l
def VersAt (w : World) (Fp : Nat → Prop) (l : List Value) (c : List (List UInt8)) : Prop := l.length = c.length ∧ ∀ k (h : k < c.length), ∃ u, l[k]? = some u ∧ c[k].length = 128 ∧ ByAt w Fp u c[k]
/-- the document's disk -/
structure RDk (w : World) (rp gs N : Nat) (d : Dst) (VT VV : Nat → Value) (vs : Nat → List Value) (Fp : Nat → Prop) : Prop where
  one : 1 ≤ N
  most : N ≤ 65536
  len : d.S.length = N
  fit : ∀ s ∈ d.S, s.fit
  hp : w.heap[rp]? = some (.cells #[.slice (some ⟨gs, 0, none⟩) N N, .bool d.off, .int .i64 d.fuse] 96 (0, 0))
  hs : ∃ cur, w.heap[gs]? = some (.cells cur 98 (0, 0)) ∧ ∀ i, i < N → cur[i * 3]? = some (VT i) ∧ cur[i * 3 + 1]? = some (.bool (d.S.getD i Sec.zero).torn) ∧ cur[i * 3 + 2]? = some (VV i)
  txt : ∀ i, i < N → TextAt w Fp (VT i) (d.S.getD i Sec.zero)
  own : ∀ i, i < N → OwnV w (VV i) (vs i)
  vers : ∀ i, i < N → VersAt w Fp (vs i) (d.C i)
  apart : ∀ i j, i < N → j < N → i ≠ j → ∀ b, (VV i).ownBlock = some b → (VV j).ownBlock ≠ some b
  frp : Fp rp
  fgs : Fp gs
  fvv : ∀ i, i < N → ∀ b, (VV i).ownBlock = some b → Fp b
  flt : ∀ b, Fp b → b < w.heap.size
  pow : d.off = true → d.fuse = -1
  fu : d.fuse ≤ 9223372036854775807
variable {w w' : World} {rp gs N : Nat} {d : Dst} {VT VV : Nat → Value} {vs : Nat → List Value} {Fp : Nat → Prop}
theorem OwnV.chg {v : Value} {l : List Value} {F : Nat → Prop} (h : OwnV w v l) (hc : Chg F w w') (hne : ∀ b, v.ownBlock = some b → ¬ F b) : OwnV w' v l := by
  refine ⟨h.1, ?_⟩
  rcases h.2 with h0 | ⟨g, cap, cur, e, hB, hg, r⟩
  · exact .inl h0
  · exact .inr ⟨g, cap, cur, e, hB, (hc.block g (Array.getElem?_eq_some_iff.1 hg).1 (hne g (by rw [e]; rfl))).trans hg, r⟩
theorem OwnV.at_ {b : Nat} {v : Value} {l : List Value} (h : OwnV w v l) (hb : v.ownBlock = some b) : ∃ cur, w.heap[b]? = some (.cells cur 40 (0, 0)) := by
  rcases h.2 with ⟨rfl, -⟩ | ⟨g, cap, cur, rfl, -, hg, -⟩
  · simp [Value.ownBlock] at hb
  · simp [Value.ownBlock] at hb
    subst hb
    exact ⟨cur, hg⟩
theorem RDk.kept (h : RDk w rp gs N d VT VV vs Fp) {F : Nat → Prop} (hc : Chg F w w') (hF : ∀ b, Fp b → ¬ F b) : RDk w' rp gs N d VT VV vs Fp := by
  obtain ⟨cur, h1, h2⟩ := h.hs
  refine ⟨h.one, h.most, h.len, h.fit, (hc.block rp (Array.getElem?_eq_some_iff.1 h.hp).1 (hF rp h.frp)).trans h.hp, ⟨cur, (hc.block gs (Array.getElem?_eq_some_iff.1 h1).1 (hF gs h.fgs)).trans h1, h2⟩, fun i hi => ?_, fun i hi => (h.own i hi).chg hc (fun b hb => hF b (h.fvv i hi b hb)), fun i hi => ?_, h.apart, h.frp, h.fgs, h.fvv, fun b hb => Nat.lt_of_lt_of_le (h.flt b hb) hc.size, h.pow, h.fu⟩
  · rcases h.txt i hi with h3 | ⟨h3, h4⟩
    · exact .inl h3
    · exact .inr ⟨h3, h4.kept hc (fun b _ _ hb _ => hF b hb) (fun _ hb => hb)⟩
  · obtain ⟨h3, h4⟩ := h.vers i hi
    refine ⟨h3, fun k hk => ?_⟩
    obtain ⟨u, h5, h6, h7⟩ := h4 k hk
    exact ⟨u, h5, h6, h7.kept hc (fun b _ _ hb _ => hF b hb) (fun _ hb => hb)⟩
theorem RDk.below (h : RDk w rp gs N d VT VV vs Fp) (hb : Below w.heap.size w w') : RDk w' rp gs N d VT VV vs Fp := h.kept (F := fun _ => False) (Chg.of_below hb) (fun _ _ hf => hf)
theorem RDk.c0 (h : RDk w rp gs N d VT VV vs Fp) : w.cell? ⟨rp, 0, none⟩ = some (.slice (some ⟨gs, 0, none⟩) N N) := by rw [cell_of_row _ _ 0 _ _ _ h.hp]; rfl
theorem RDk.c1 (h : RDk w rp gs N d VT VV vs Fp) : w.cell? ⟨rp, 1, none⟩ = some (.bool d.off) := by rw [cell_of_row _ _ 1 _ _ _ h.hp]; rfl
theorem RDk.c2 (h : RDk w rp gs N d VT VV vs Fp) : w.cell? ⟨rp, 2, none⟩ = some (.int .i64 d.fuse) := by rw [cell_of_row _ _ 2 _ _ _ h.hp]; rfl
theorem RDk.s0 (h : RDk w rp gs N d VT VV vs Fp) (i : Nat) (hi : i < N) : w.cell? ⟨gs, i * 3, none⟩ = some (VT i) := by
  obtain ⟨cur, h1, h2⟩ := h.hs
  rw [cell_of_row _ _ _ _ _ _ h1, (h2 i hi).1]
theorem RDk.s1 (h : RDk w rp gs N d VT VV vs Fp) (i : Nat) (hi : i < N) : w.cell? ⟨gs, i * 3 + 1, none⟩ = some (.bool (d.S.getD i Sec.zero).torn) := by
  obtain ⟨cur, h1, h2⟩ := h.hs
  rw [cell_of_row _ _ _ _ _ _ h1, (h2 i hi).2.1]
theorem RDk.s2 (h : RDk w rp gs N d VT VV vs Fp) (i : Nat) (hi : i < N) : w.cell? ⟨gs, i * 3 + 2, none⟩ = some (VV i) := by
  obtain ⟨cur, h1, h2⟩ := h.hs
  rw [cell_of_row _ _ _ _ _ _ h1, (h2 i hi).2.2]
theorem infoRS : (Try.prog.info? 98).map (fun i => (i.zero, i.size, i.bytes)) = some (some (.agg #[.slice none 0 0, .bool false, .slice none 0 0]), 3, 56) := by kernel_rfl
def zR : Array Value := #[.slice none 0 0, .bool false, .slice none 0 0]
theorem make_rsecs (n : Nat) (hn : n ≤ 65536) (w : World) : (Instr.makeSlice 94 (.int .i64 (n : Int)) (.int .i64 (n : Int))).run Try.prog w = .ok (.slice (some ⟨w.heap.size, 0, none⟩) n n) (w.alloc (.cells (madeCells zR (n * 3)) 98)) := by
  obtain ⟨i, hi, hzz⟩ := Option.map_eq_some_iff.1 infoRS
  simp only [Prod.mk.injEq] at hzz
  obtain ⟨hz, hs, hb⟩ := hzz
  have hr := run_make (P := Try.prog) (w := w) 94 98 i _ Try.underlying94 hi hz .i64 .i64 n n (by omega) (Int.le_refl _) (by rw [hb]; omega) (by omega)
  simp only [Int.toNat_natCast, hs] at hr
  exact hr
theorem made_at (n k j : Nat) (hk : k < n) (hj : j < 3) : (madeCells zR (n * 3))[k * 3 + j]? = zR[j]? := by
  have h1 : k * 3 + j < n * 3 := by omega
  unfold madeCells
  rw [Array.getElem?_map, Array.getElem?_range]
  rw [if_pos h1]
  have h2 : (k * 3 + j) % zR.size = j := by
    have : zR.size = 3 := rfl
    rw [this]
    omega
  simp only [Option.map_some, h2]
  match j, hj with
  | 0, _ => rfl
  | 1, _ => rfl
  | 2, _ => rfl
/-- the world behind the document's New -/
def rnewW (w : World) (n : Nat) : World := (w.alloc (.cells (madeCells zR (n * 3)) 98)).alloc (.cells #[.slice (some ⟨w.heap.size, 0, none⟩) n n, .bool false, .int .i64 (-1)] 96)
theorem rnewW_below (w : World) (n : Nat) : Below w.heap.size w (rnewW w n) := al (al (Below.refl _ _) _) _
theorem rnewW_at (w : World) (n : Nat) (h1 : 1 ≤ n) (h2 : n ≤ 65536) : RDk (rnewW w n) (w.heap.size + 1) w.heap.size n (d0 n) (fun _ => nilS) (fun _ => nilS) (fun _ => []) (fun b => b = w.heap.size ∨ b = w.heap.size + 1) := by
  have hsz : (w.alloc (.cells (madeCells zR (n * 3)) 98)).heap.size = w.heap.size + 1 := by simp
  have hg : (rnewW w n).heap[w.heap.size]? = some (.cells (madeCells zR (n * 3)) 98 (0, 0)) := by
    unfold rnewW
    rw [heap_alloc_old (h := by simp)]
    exact heap_alloc_new w _
  have hd : (d0 n).S.length = n := by simp [d0]
  have hgt : ∀ i, i < n → (d0 n).S.getD i Sec.zero = Sec.zero := fun i hi => by simp [d0, hi]
  refine ⟨h1, h2, hd, rep_fit n, ?_, ⟨_, hg, fun i hi => ?_⟩, fun i hi => .inl ⟨rfl, by rw [hgt i hi]; rfl⟩, fun i hi => World.ownsRow_nil _ _ _ _, fun i hi => ⟨rfl, fun k hk => absurd hk (Nat.not_lt_zero _)⟩, (fun i j _ _ _ b hb => (by simp [nilS, Value.ownBlock] at hb)), .inr rfl, .inl rfl, (fun i _ b hb => (by simp [nilS, Value.ownBlock] at hb)), fun b hb => ?_, (fun h => (by simp [d0] at h)), (show (-1 : Int) ≤ 9223372036854775807 by decide)⟩
  · unfold rnewW
    have := heap_alloc_new (w.alloc (.cells (madeCells zR (n * 3)) 98)) (.cells #[.slice (some ⟨w.heap.size, 0, none⟩) n n, .bool false, .int .i64 (-1)] 96)
    rw [hsz] at this
    exact this
  · have e0 := made_at n i 0 hi (by decide)
    have e1 := made_at n i 1 hi (by decide)
    have e2 := made_at n i 2 hi (by decide)
    rw [hgt i hi]
    have e0' : (madeCells zR (n * 3))[i * 3 + 0]? = some nilS := e0
    rw [Nat.add_zero] at e0'
    exact ⟨e0', e1, e2⟩
  · have : (rnewW w n).heap.size = w.heap.size + 2 := by unfold rnewW; simp
    omega
set_option maxRecDepth 20000 in
theorem rnew_bad (n : Int) (hn : n < 1 ∨ 65536 < n) (w : World) :
    Calls Try.prog 46 #[.int .i64 n] w fun e w' => e = .returned (.tuple #[.pointer none, .int .i64 1]) ∧ w' = w := by
  by_cases h1 : n < 1
  · go_enter Try.func46, Try.ntmps46
    go_wp2
    go_ret2
    exact ⟨rfl, rfl⟩
  · have h2 : 65536 < n := by omega
    go_enter Try.func46, Try.ntmps46
    go_wp2
    go_ret2
    exact ⟨rfl, rfl⟩
set_option maxRecDepth 20000 in
theorem rnew_t (n : Nat) (h1 : 1 ≤ n) (h2 : n ≤ 65536) (w : World) :
    Calls Try.prog 46 #[.int .i64 (n : Int)] w fun e w' => e = .returned (.tuple #[.pointer (some ⟨w.heap.size + 1, 0, none⟩), .int .i64 0]) ∧ w' = rnewW w n := by
  have hm := make_rsecs n h2
  have a1 : ¬ (n : Int) < 1 := by omega
  have a2 : ¬ (65536 : Int) < (n : Int) := by omega
  unfold rnewW
  go_enter Try.func46, Try.ntmps46
  go_wp2
  go_ret2
  exact ⟨rfl, rfl⟩
set_option maxRecDepth 20000 in
theorem rnone_t (rp gs n c : Nat) (hn : 0 < n) (w : World) (h : w.cell? ⟨rp, 0, none⟩ = some (.slice (some ⟨gs, 0, none⟩) n c)) : Calls Try.prog 58 #[.pointer (some ⟨rp, 0, none⟩)] w fun e w' => e = .returned (.bool false) ∧ w' = w := by
  have a1 : ¬ (n : Int) = 0 := by omega
  have a2 : ((n : Int) == 0) = false := by simpa using a1
  go_enter Try.func58, Try.ntmps58
  go_wp2
  go_ret
  exact ⟨rfl, rfl⟩
set_option maxRecDepth 20000 in
theorem rnone_nil (w : World) : Calls Try.prog 58 #[.pointer none] w fun e w' => e = .returned (.bool true) ∧ w' = w := by
  go_enter Try.func58, Try.ntmps58
  go_wp2
  go_ret
  exact ⟨rfl, rfl⟩
theorem rnone_d (h : RDk w rp gs N d VT VV vs Fp) : Calls Try.prog 58 #[.pointer (some ⟨rp, 0, none⟩)] w fun e w' => e = .returned (.bool false) ∧ w' = w := rnone_t rp gs N N h.one w h.c0
set_option maxRecDepth 20000 in
theorem rsectors_t (h : RDk w rp gs N d VT VV vs Fp) : Calls Try.prog 55 #[.pointer (some ⟨rp, 0, none⟩)] w fun e w' => e = .returned (.int .i64 (N : Int)) ∧ w' = w := by
  have HN : Hid _ := rnone_d h
  have c0 := h.c0
  clear h
  go_enter Try.func55, Try.ntmps55
  go_wp2_with fail
  refine Calls.mono HN.out ?_
  rintro e w1 ⟨rfl, hq⟩
  have hq := hq.symm
  subst hq
  go_wp2
  go_ret
  exact ⟨rfl, rfl⟩
set_option maxRecDepth 20000 in
theorem rsectors_nil (w : World) : Calls Try.prog 55 #[.pointer none] w fun e w' => e = .returned (.int .i64 0) ∧ w' = w := by
  have HN : Hid _ := rnone_nil w
  go_enter Try.func55, Try.ntmps55
  go_wp2_with fail
  refine Calls.mono HN.out ?_
  rintro e w1 ⟨rfl, hq⟩
  have hq := hq.symm
  subst hq
  go_wp2
  go_ret
  exact ⟨rfl, rfl⟩
set_option maxRecDepth 20000 in
theorem zeros_t (n : Nat) (hn : n ≤ 65536) (w : World) : Calls Try.prog 59 #[.int .i64 (n : Int)] w fun e w' => e = .returned (.slice (some ⟨w.heap.size, 0, none⟩) n n) ∧ w' = w.alloc (.cells (List.replicate n (Value.int .u8 0)).toArray 5) := by
  have hm := make_bytes n (by omega)
  go_enter Try.func59, Try.ntmps59
  go_wp2
  go_ret
  exact ⟨rfl, rfl⟩
theorem zeros_rd (n : Nat) (hn : n ≤ 65536) (w : World) : Calls Try.prog 59 #[.int .i64 (n : Int)] w fun e w' => ∃ g, e = .returned (.slice (some ⟨g, 0, none⟩) n n) ∧ w.heap.size ≤ g ∧ w'.heap[g]? = some (.cells (bv (List.replicate n 0)).toArray 5 (0, 0)) ∧ Below w.heap.size w w' := by
  refine (zeros_t n hn w).mono ?_
  rintro e w' ⟨rfl, rfl⟩
  refine ⟨_, rfl, Nat.le_refl _, ?_, al (Below.refl _ _) _⟩
  have h := heap_alloc_new w (.cells (List.replicate n (Value.int .u8 0)).toArray 5)
  rw [show bv (List.replicate n 0) = List.replicate n (Value.int .u8 0) from by simp [bv]]
  exact h
set_option maxRecDepth 20000 in
theorem copied_t (ao : Option Addr) (n cap : Nat) (xs : List UInt8) (w : World) (hn : n = xs.length) (hx : Rd w ao xs) (hnil : ao = none → cap = 0) (hl : n ≤ 140737488355328) :
    Calls Try.prog 74 #[.slice ao n cap] w fun e w' => ∃ v, e = .returned v ∧ Own w' w.heap.size v xs ∧ Below w.heap.size w w' := by
  subst hn
  have HN : Hid _ := hnil
  clear hnil
  go_enter Try.func74, Try.ntmps74
  go_wp2_with (at_builtin; refine wp_app rfl _ _ rfl w.heap.size (.slice none 0 0) [] xs ao cap rfl (World.ownsRow_nil _ _ _ _) rfl hx HN.out (by simpa using hl) (Nat.le_refl _) ?_; intro v2 w2 hown2 hg2)
  go_ret
  exact ⟨_, rfl, hown2, (Below.refl _ w).grown hg2 (Nat.le_refl _) (fun k hk => by simp [Value.ownBlock] at hk)⟩
set_option maxRecDepth 20000 in
set_option maxHeartbeats 800000 in
theorem only_t (ao : Option Addr) (n cap : Nat) (xs : List UInt8) (w : World) (hn : n = xs.length) (hx : Rd w ao xs) (hl : n ≤ 140737488355328) :
    Calls Try.prog 73 #[.slice ao n cap] w fun e w' => e = .returned (.bool (xs.all (· == 0))) ∧ w' = w := by
  have HN : Hid _ := hn
  clear hn
  go_enter Try.func73, Try.ntmps73
  go_wp2
  go_loopw [3] (fun i wr => ∃ k : Nat, k ≤ n ∧ i = .int .i64 k ∧ (xs.take k).all (· == 0) = true ∧ wr = w) (fun i _ => n - (intOf i).toNat)
  case atStart => exact ⟨0, Nat.zero_le _, rfl, rfl, rfl⟩
  case round =>
    obtain ⟨k, hk, rfl, hall, hq⟩ := hrel
    subst hq
    have hkw : IntKind.i64.wrap ((k : Int) + 1) = ((k + 1 : Nat) : Int) := by rw [IntKind.wrap_i64]; omega
    have HA : Hid _ := hall
    clear hall
    by_cases hlt : k < n
    · have hk1 : k < xs.length := by rw [← HN.out]; exact hlt
      have hlti : (k : Int) < (n : Int) := by omega
      have hk0 : (0 : Int) ≤ (k : Int) := by omega
      obtain ⟨b, o, rfl, hc⟩ := hx (by omega)
      have hck := hc k hk1
      by_cases hz : xs[k] = 0
      · have hz' : xs[k].toNat = 0 := by rw [hz]; rfl
        rw [hz'] at hck
        have HT : Hid ((xs.take (k + 1)).all (· == 0) = true) := by
          unfold Hid
          rw [List.take_succ_eq_append_getElem hk1, List.all_append, HA.out]
          simp [hz]
        clear hc hz hz'
        go_wp2
        go_roundw
        case rel => exact ⟨k + 1, by omega, by go_num, HT.out, trivial⟩
        case measure => simp [intOf]; omega
      · have hzn : ¬ ((xs[k].toNat : Nat) : Int) = 0 := fun e => hz (UInt8.toNat_inj.1 (by simpa using e))
        have HF : Hid (xs.all (· == 0) = false) := by
          unfold Hid
          rw [List.all_eq_false]
          exact ⟨xs[k], List.getElem_mem hk1, by simpa using hz⟩
        obtain ⟨z, hzz⟩ : ∃ z : Int, z = ((xs[k].toNat : Nat) : Int) := ⟨_, rfl⟩
        rw [← hzz] at hck hzn
        have hzb : (z == 0) = false := by simpa using hzn
        clear hc hz hzz
        go_wp2
        go_ret
        rw [HF.out]
        exact ⟨rfl, rfl⟩
    · have hlti : ¬ (k : Int) < (n : Int) := by omega
      have HF : Hid (xs.all (· == 0) = true) := by
        have h9 := HA.out
        rw [List.take_of_length_le (by rw [← HN.out]; omega)] at h9
        exact h9
      go_wp2
      go_ret
      rw [HF.out]
      exact ⟨rfl, rfl⟩
end Go.Proofs.Ytgdkiejlggiakac
namespace Go.Proofs.Ytgdkiejlggiakac
set_option linter.unusedVariables false
set_option linter.unusedSimpArgs false
open Go.RowKit Go.Maps
theorem img_take (S : List Sec) (k : Nat) (h : k < S.length) : img (S.take (k + 1)) = img (S.take k) ++ (S.getD k Sec.zero).row := by
  unfold img
  rw [List.take_succ_eq_append_getElem h, List.flatMap_append]
  simp [h]
theorem wp_appL {w : World} {ops : Array Oper} {rest : List Oper} {o : Oper} {a : Act} {Q : Exit → Act → World → Prop} (hgd : o.guard = none) (s x : Operand)
    (ho : o.op = .call { callee := .builtin .append, args := #[s, x], argTypes := #[40, 40] }) (B : Nat) (v : Value) (xs ys : List UInt8) (n : Nat) (ao : Option Addr) (cap : Nat) (hn : n = ys.length)
    (hs : a.eval s = v) (hown : Own w B v xs) (hx : a.eval x = .slice ao n cap) (hr : Rd w ao ys) (hnil : ao = none → cap = 0)
    (hb : xs.length + n ≤ 140737488355328) (hbase : B ≤ w.heap.size)
    (h : ∀ v' w', Own w' B v' (xs ++ ys) → w.grownBy w' v.ownBlock → wpList Try.prog ops Q rest (a.put o.dst v') w') : wpList Try.prog ops Q (o :: rest) a w := by
  subst hn
  exact wp_app hgd s x ho B v xs ys ao cap hs hown hx hr hnil hb hbase h
set_option maxRecDepth 20000 in
set_option maxHeartbeats 1600000 in
theorem rimage_t {w : World} {rp gs N : Nat} {d : Dst} {VT VV : Nat → Value} {vs : Nat → List Value} {Fp : Nat → Prop} (h : RDk w rp gs N d VT VV vs Fp) :
    Calls Try.prog 37 #[.pointer (some ⟨rp, 0, none⟩)] w fun e w' => ∃ v, e = .returned v ∧ Own w' w.heap.size v (img d.S) ∧ Below w.heap.size w w' := by
  have HN : Hid _ := rnone_d h
  have H : Hid _ := h
  have hN := h.most
  have q22 : ∀ (w : World) (a : Option Addr) (n c n' c' : Nat), (binOp .eql 40 (.slice a n c) (.slice none n' c')).run Try.prog w = .ok (.bool a.isNone) w := fun w a n c n' c' => Lib.run_eql_slice_nil w _ _ a n c n' c' Try.underlying40
  clear h
  go_enter Try.func37, Try.ntmps37
  go_wp2_with fail
  refine Calls.mono HN.out ?_
  rintro e w1 ⟨rfl, hq⟩
  have hq := hq.symm
  subst hq
  go_wp2_with fail
  go_loopw [3, 4, 30, 45] (fun b i _ _ wr => ∃ (v : Value) (k : Nat), v = b ∧ k ≤ N ∧ i = .int .i64 (k : Int) ∧ Own wr w.heap.size v (img (d.S.take k)) ∧ Below w.heap.size w wr) (fun _ i _ _ _ => N - (intOf i).toNat)
  case atStart => exact ⟨_, 0, rfl, Nat.zero_le _, rfl, World.ownsRow_nil _ _ _ _, Below.refl _ _⟩
  case round =>
    obtain ⟨v, k, rfl, hk, rfl, hown, hbw⟩ := hrel
    have hrd := RDk.below H.out hbw
    have c0 := hrd.c0
    have hk0 : (0 : Int) ≤ (k : Int) := by omega
    have hkw : IntKind.i64.wrap ((k : Int) + 1) = ((k + 1 : Nat) : Int) := by rw [IntKind.wrap_i64]; omega
    have HO : Hid _ := hown
    have HBW : Hid _ := hbw
    have hws : w.heap.size ≤ wr.heap.size := hbw.size
    clear hown hbw
    by_cases hlt : k < N
    · have hlti : (k : Int) < (N : Int) := by omega
      have hlen := H.out.len
      have hks : k < d.S.length := by omega
      obtain ⟨s, hs⟩ : ∃ s, s = d.S.getD k Sec.zero := ⟨_, rfl⟩
      have HTK : Hid (img (d.S.take (k + 1)) = img (d.S.take k) ++ s.row) := by rw [hs]; exact img_take d.S k hks
      have s1 := hrd.s1 k hlt
      have s0 := hrd.s0 k hlt
      have htx := H.out.txt k hlt
      rw [← hs] at s1 htx
      have HIL : Hid ((img (d.S.take k)).length ≤ 8454144) := by
        unfold Hid
        rw [img_len (fun s hs => (fit_ok H.out.fit) s (List.mem_of_mem_take hs))]
        simp
        omega
      obtain ⟨I, hI⟩ : ∃ I, I = img (d.S.take k) := ⟨_, rfl⟩
      rw [← hI] at HO HTK HIL
      have HZ : Hid (∀ u, Calls Try.prog 59 #[.int .i64 128] u fun e w' => ∃ g, e = .returned (.slice (some ⟨g, 0, none⟩) 128 128) ∧ u.heap.size ≤ g ∧ w'.heap[g]? = some (.cells (bv (List.replicate 128 0)).toArray 5 (0, 0)) ∧ Below u.heap.size u w') := fun u => zeros_rd 128 (by decide) u
      have HZ9 : Hid (∀ u, Calls Try.prog 59 #[.int .i64 129] u fun e w' => ∃ g, e = .returned (.slice (some ⟨g, 0, none⟩) 129 129) ∧ u.heap.size ≤ g ∧ w'.heap[g]? = some (.cells (bv (List.replicate 129 0)).toArray 5 (0, 0)) ∧ Below u.heap.size u w') := fun u => zeros_rd 129 (by decide) u
      have HTL : Hid (s.text.length = 128) := by
        rw [hs]
        have e9 : d.S.getD k Sec.zero = d.S[k] := by simp [hks]
        rw [e9]
        exact (H.out.fit _ (List.getElem_mem hks)).1
      clear hs hI hrd hlen hks
      cases ht : s.torn
      · rw [ht] at s1
        rcases htx with ⟨hv, hz⟩ | ⟨-, hby⟩
        · rw [hv] at s0
          have HRW : Hid (s.row = List.replicate 129 0) := by
            unfold Hid Sec.row rmk
            rw [ht, hz]
            rfl
          unfold nilS at s0
          clear hv hz
          go_wp2_with fail
          refine (HZ9.out wr).mono ?_
          rintro e w3 ⟨g3, rfl, hg3, hr3, hb3⟩
          have hs3 := hb3.size
          go_wp2_with (at_builtin; refine wp_app rfl _ _ rfl w.heap.size v I (List.replicate 129 0) (some ⟨g3, 0, none⟩) 129 rfl (Own.below HO.out hb3) rfl (rd_row hr3) (fun h => by cases h) (by have := HIL.out; simp; omega) (by omega) ?_; intro v4 w4 hown4 hg4)
          have hb4 : Below w.heap.size w w4 := (below_next HBW.out hb3).grown hg4 (by omega) (fun b hb => (World.ownsRow.lt HO.out b hb).1)
          go_roundw
          case rel => exact ⟨v4, k + 1, rfl, by omega, rfl, by rw [HTK.out, HRW.out]; exact hown4, hb4⟩
          case measure => simp [intOf]; omega
        · obtain ⟨b, o, c, hv, hfb, hrd, -⟩ := hby.ex
          obtain ⟨T, hT⟩ : ∃ T, T = s.text := ⟨_, rfl⟩
          rw [← hT] at hv hrd HTL
          rw [hv, HTL.out] at s0
          obtain ⟨X, hX⟩ : ∃ X : World, X = wr.alloc (.cells #[.int .u8 0] 5) := ⟨_, rfl⟩
          have hXb : Below wr.heap.size wr X := by rw [hX]; exact al (Below.refl _ _) _
          have hXr : X.heap[wr.heap.size]? = some (.cells (bv [0]).toArray 5 (0, 0)) := by rw [hX]; exact heap_alloc_new wr _
          have hXs := hXb.size
          have HRW : Hid (s.row = [0] ++ T) := by
            unfold Hid Sec.row rmk
            rw [ht, hT]
            rfl
          have HRD : Hid _ := hrd
          have HVT : Hid (VT k = .slice (some ⟨b, o, none⟩) 128 c) := by rw [← HTL.out]; exact hv
          have HXB : Hid _ := hXb
          clear hv hT hrd hby hXb
          go_wp2_with (first
            | (at_builtin; rw [← hX]; refine wp_app rfl _ _ rfl w.heap.size v I [0] (some ⟨wr.heap.size, 0, none⟩) 1 rfl (Own.below HO.out HXB.out) rfl (rd_row hXr) (fun h => by cases h) (by have := HIL.out; simp; omega) (by omega) ?_; intro v4 w4 hown4 hg4; have hb4 : Below w.heap.size w w4 := (below_next HBW.out HXB.out).grown hg4 (by omega) (fun b hb => (World.ownsRow.lt HO.out b hb).1); have c04 := (RDk.below H.out hb4).c0; have s04 : w4.cell? ⟨gs, k * 3, none⟩ = some (.slice (some ⟨b, o, none⟩) 128 c) := (by rw [(RDk.below H.out hb4).s0 k hlt, HVT.out]); have hs4 := hb4.size; clear hX)
            | (at_builtin; refine wp_appL rfl _ _ rfl w.heap.size v4 (I ++ [0]) T 128 (some ⟨b, o, none⟩) c HTL.out.symm rfl hown4 rfl (Rd.below HRD.out hb4) (fun h => by cases h) (by have := HIL.out; simp; omega) (by omega) ?_; intro v5 w5 hown5 hg5))
          have hb5 : Below w.heap.size w w5 := hb4.grown hg5 (by omega) (fun b hb => (World.ownsRow.lt hown4 b hb).1)
          go_roundw
          case rel => exact ⟨v5, k + 1, rfl, by omega, rfl, by rw [HTK.out, HRW.out, ← List.append_assoc]; exact hown5, hb5⟩
          case measure => simp [intOf]; omega
      · rw [ht] at s1
        have hz : s.text = List.replicate 128 0 := by
          rcases htx with ⟨-, hz⟩ | ⟨h9, -⟩
          · exact hz
          · rw [ht] at h9; cases h9
        have HRW : Hid (s.row = [1] ++ List.replicate 128 0) := by
          unfold Hid Sec.row rmk
          rw [ht, hz]
          rfl
        obtain ⟨X, hX⟩ : ∃ X : World, X = wr.alloc (.cells #[.int .u8 1] 5) := ⟨_, rfl⟩
        have hXb : Below wr.heap.size wr X := by rw [hX]; exact al (Below.refl _ _) _
        have hXr : X.heap[wr.heap.size]? = some (.cells (bv [1]).toArray 5 (0, 0)) := by rw [hX]; exact heap_alloc_new wr _
        have hXs := hXb.size
        have HXB : Hid _ := hXb
        clear hz htx hXb
        go_wp2_with (first
          | (at_builtin; rw [← hX]; refine wp_app rfl _ _ rfl w.heap.size v I [1] (some ⟨wr.heap.size, 0, none⟩) 1 rfl (Own.below HO.out HXB.out) rfl (rd_row hXr) (fun h => by cases h) (by have := HIL.out; simp; omega) (by omega) ?_; intro v4 w4 hown4 hg4; have hb4 : Below w.heap.size w w4 := (below_next HBW.out HXB.out).grown hg4 (by omega) (fun b hb => (World.ownsRow.lt HO.out b hb).1); have hs4 := hb4.size; clear hX))
        have HO4 : Hid _ := hown4
        refine (HZ.out w4).mono ?_
        rintro e w5 ⟨g5, rfl, hg5, hr5, hb5⟩
        have hs5 := hb5.size
        go_wp2_with (at_builtin; refine wp_app rfl _ _ rfl w.heap.size v4 (I ++ [1]) (List.replicate 128 0) (some ⟨g5, 0, none⟩) 128 rfl (Own.below HO4.out hb5) rfl (rd_row hr5) (fun h => by cases h) (by have := HIL.out; simp; omega) (by omega) ?_; intro v6 w6 hown6 hg6)
        have hb6 : Below w.heap.size w w6 := (below_next hb4 hb5).grown hg6 (by omega) (fun b hb => (World.ownsRow.lt HO4.out b hb).1)
        go_roundw
        case rel => exact ⟨v6, k + 1, rfl, by omega, rfl, by rw [HTK.out, HRW.out, ← List.append_assoc]; exact hown6, hb6⟩
        case measure => simp [intOf]; omega
    · have hlti : ¬ (k : Int) < (N : Int) := by omega
      obtain rfl : k = N := by omega
      have HFIN : Hid (Own wr w.heap.size v (img d.S)) := by
        have h9 := HO.out
        rw [List.take_of_length_le (by rw [H.out.len]; omega)] at h9
        exact h9
      clear hrd
      go_wp2
      go_ret
      exact ⟨_, rfl, HFIN.out, HBW.out⟩
end Go.Proofs.Ytgdkiejlggiakac
namespace Go.Proofs.Ytgdkiejlggiakac
set_option linter.unusedVariables false
set_option linter.unusedSimpArgs false
open Go.RowKit Go.Maps
theorem getD_set_same (S : List Sec) (i : Nat) (s : Sec) (h : i < S.length) : (S.set i s).getD i Sec.zero = s := by simp [h]
theorem getD_set_ne (S : List Sec) {i j : Nat} (s : Sec) (h : j ≠ i) : (S.set i s).getD j Sec.zero = S.getD j Sec.zero := by
  have h' : ¬ i = j := fun e => h e.symm
  simp [List.getElem?_set, h']
/-- a sector is laid anew -/
theorem RDk.put {w w' : World} {rp gs N : Nat} {d : Dst} {VT VV : Nat → Value} {vs : Nat → List Value} {Fp Fp' : Nat → Prop} (h : RDk w rp gs N d VT VV vs Fp) (i : Nat) (hi : i < N) (s' : Sec) (c' : List (List UInt8)) (v' u' : Value) (l' : List Value) (hfit : s'.fit)
    (hc : Chg (fun b => b = gs ∨ (VV i).ownBlock = some b) w w')
    (hgs : ∀ cur, w.heap[gs]? = some (.cells cur 98 (0, 0)) → ∃ cur', w'.heap[gs]? = some (.cells cur' 98 (0, 0)) ∧ (∀ j, j / 3 ≠ i → cur'[j]? = cur[j]?) ∧ cur'[i * 3]? = some v' ∧ cur'[i * 3 + 1]? = some (.bool s'.torn) ∧ cur'[i * 3 + 2]? = some u')
    (hFp : ∀ b, Fp b → Fp' b) (hFl : ∀ b, Fp' b → b < w'.heap.size) (ht : TextAt w' Fp' v' s') (ho : OwnV w' u' l') (hv : VersAt w' Fp' l' c') (hap : u'.ownBlock = (VV i).ownBlock ∨ ∀ b, u'.ownBlock = some b → w.heap.size ≤ b) (hfu : ∀ b, u'.ownBlock = some b → Fp' b) :
    RDk w' rp gs N ⟨d.S.set i s', upd d.C i c', d.off, d.fuse⟩ (upd VT i v') (upd VV i u') (upd vs i l') Fp' := by
  obtain ⟨cur, h1, h2⟩ := h.hs
  obtain ⟨cur', k1, k2, k3, k4, k5⟩ := hgs cur h1
  have hrow : ∀ b, (VV i).ownBlock = some b → ∃ c, w.heap[b]? = some (.cells c 40 (0, 0)) := fun b hb => (h.own i hi).at_ hb
  have h5 : ∀ b cs fr, w.heap[b]? = some (.cells cs 5 fr) → ¬ (b = gs ∨ (VV i).ownBlock = some b) := by
    rintro b cs fr hb (rfl | e)
    · rw [h1] at hb; simp only [Option.some.injEq, Obj.cells.injEq] at hb; exact absurd hb.2.1 (by decide)
    · obtain ⟨c, h3⟩ := hrow b e
      rw [hb] at h3; simp only [Option.some.injEq, Obj.cells.injEq] at h3; exact absurd h3.2.1 (by decide)
  have hl : d.S.length = N := h.len
  refine ⟨h.one, h.most, by simp [hl], fun s hs => ?_, ?_, ⟨cur', k1, fun j hj => ?_⟩, fun j hj => ?_, fun j hj => ?_, fun j hj => ?_, fun j k hj hk hne b hb => ?_, hFp _ h.frp, hFp _ h.fgs, fun j hj b hb => ?_, hFl, h.pow, h.fu⟩
  · rcases List.mem_or_eq_of_mem_set hs with h3 | rfl
    · exact h.fit s h3
    · exact hfit
  · refine (hc.block rp (Array.getElem?_eq_some_iff.1 h.hp).1 ?_).trans h.hp
    rintro (e | e)
    · have := h.hp; rw [e, h1] at this; simp only [Option.some.injEq, Obj.cells.injEq] at this; exact absurd this.2.1 (by decide)
    · obtain ⟨c, h3⟩ := hrow rp e
      rw [h.hp] at h3; simp only [Option.some.injEq, Obj.cells.injEq] at h3; exact absurd h3.2.1 (by decide)
  · by_cases e : j = i
    · subst e
      rw [upd_same, upd_same, getD_set_same _ _ _ (by omega)]
      exact ⟨k3, k4, k5⟩
    · rw [upd_other _ e, upd_other _ e, getD_set_ne _ _ e, k2 (j * 3) (by omega), k2 (j * 3 + 1) (by omega), k2 (j * 3 + 2) (by omega)]
      exact h2 j hj
  · by_cases e : j = i
    · subst e
      rw [upd_same, getD_set_same _ _ _ (by omega)]
      exact ht
    · rw [upd_other _ e, getD_set_ne _ _ e]
      rcases h.txt j hj with h3 | ⟨h3, h4⟩
      · exact .inl h3
      · exact .inr ⟨h3, h4.kept hc (fun b cs fr _ hb => h5 b cs fr hb) hFp⟩
  · by_cases e : j = i
    · subst e
      rw [upd_same, upd_same]
      exact ho
    · rw [upd_other _ e, upd_other _ e]
      refine (h.own j hj).chg hc (fun b hb hf => ?_)
      rcases hf with rfl | hf
      · obtain ⟨c, h3⟩ := (h.own j hj).at_ hb
        rw [h1] at h3; simp only [Option.some.injEq, Obj.cells.injEq] at h3; exact absurd h3.2.1 (by decide)
      · exact h.apart j i hj hi e b hb hf
  · show VersAt w' Fp' (upd vs i l' j) (upd d.C i c' j)
    by_cases e : j = i
    · subst e
      rw [upd_same, upd_same]
      exact hv
    · rw [upd_other _ e, upd_other _ e]
      obtain ⟨h3, h4⟩ := h.vers j hj
      refine ⟨h3, fun k hk => ?_⟩
      obtain ⟨u, h6, h7, h8⟩ := h4 k hk
      exact ⟨u, h6, h7, h8.kept hc (fun b cs fr _ hb => h5 b cs fr hb) hFp⟩
  · have hnew : ∀ t, t < N → t ≠ i → ∀ b, u'.ownBlock = some b → (VV t).ownBlock ≠ some b := fun t ht' hti b hb e => by
      rcases hap with h3 | h3
      · exact h.apart t i ht' hi hti b e (h3 ▸ hb)
      · have := h3 b hb
        have := (World.ownsRow.lt (h.own t ht') b e).2
        omega
    by_cases e : j = i
    · subst e
      rw [upd_same] at hb
      rw [upd_other _ (fun e => hne e.symm)]
      exact hnew k hk (fun e => hne e.symm) b hb
    · rw [upd_other _ e] at hb
      by_cases e2 : k = i
      · subst e2
        rw [upd_same]
        exact fun e3 => hnew j hj e b e3 hb
      · rw [upd_other _ e2]
        exact h.apart j k hj hk hne b hb
  · by_cases e : j = i
    · subst e
      rw [upd_same] at hb
      exact hfu b hb
    · rw [upd_other _ e] at hb
      exact hFp b (h.fvv j hj b hb)
/-- one cell of the sectors' row -/
theorem set_sec {w : World} {gs : Nat} {cur : Array Value} {T : TypeId} (h : w.heap[gs]? = some (.cells cur T (0, 0))) (i j : Nat) (hj : j < 3) (v : Value) : (w.setCell ⟨gs, i * 3 + j, none⟩ v).heap[gs]? = some (.cells (cur.setIfInBounds (i * 3 + j) v) T (0, 0)) ∧ ∀ k, k ≠ i * 3 + j → (cur.setIfInBounds (i * 3 + j) v)[k]? = cur[k]? :=
  ⟨heap_setCell_same w gs _ _ _ _ h, fun k hk => by rw [Array.getElem?_setIfInBounds_ne (fun e => hk e.symm)]⟩
theorem upd_id {α : Type} (V : Nat → α) (i : Nat) : upd V i (V i) = V := by
  funext j
  by_cases e : j = i
  · subst e; exact upd_same _ _ _
  · exact upd_other _ e _
theorem set_getD (S : List Sec) (i : Nat) : S.set i (S.getD i Sec.zero) = S := by
  apply List.ext_getElem
  · simp
  · intro k h1 h2
    by_cases e : k = i
    · subst e; simp at h1; simp [h1]
    · have e2 : ¬ i = k := fun e' => e e'.symm
      simp [List.getElem_set, e2]
/-- whether a sector whose text is zeros can be read -/
theorem RDk.setBad {w : World} {rp gs N : Nat} {d : Dst} {VT VV : Nat → Value} {vs : Nat → List Value} {Fp : Nat → Prop} (h : RDk w rp gs N d VT VV vs Fp) (i : Nat) (hi : i < N) (b : Bool) (hn : VT i = nilS) :
    RDk (w.setCell ⟨gs, i * 3 + 1, none⟩ (.bool b)) rp gs N ⟨d.S.set i ⟨List.replicate 128 0, b⟩, d.C, d.off, d.fuse⟩ VT VV vs Fp := by
  obtain ⟨cur, h1, h2⟩ := h.hs
  have hc : Chg (fun b => b = gs ∨ (VV i).ownBlock = some b) w (w.setCell ⟨gs, i * 3 + 1, none⟩ (.bool b)) := (set_chg w gs (i * 3 + 1) (.bool b)).mono (fun _ hb => .inl hb)
  have hk := h.kept (F := fun _ => False) (Chg.refl _ w) (fun _ _ hf => hf)
  have hp := h.put (w' := w.setCell ⟨gs, i * 3 + 1, none⟩ (.bool b)) (Fp' := Fp) i hi ⟨List.replicate 128 0, b⟩ (d.C i) (VT i) (VV i) (vs i) ⟨by simp, fun _ => by simp⟩ hc ?_ (fun _ hb => hb) (fun b' hb => Nat.lt_of_lt_of_le (h.flt b' hb) hc.size) (.inl ⟨hn, rfl⟩) ?_ ?_ (.inl rfl) (fun b' hb => h.fvv i hi b' hb)
  · rw [upd_id, upd_id, upd_id, upd_id] at hp
    exact hp
  · intro cur' hcur'
    rw [h1] at hcur'
    simp only [Option.some.injEq, Obj.cells.injEq] at hcur'
    obtain ⟨rfl, -⟩ := hcur'
    obtain ⟨k1, k2⟩ := set_sec h1 i 1 (by decide) (.bool b)
    have hsz : i * 3 + 1 < cur.size := (Array.getElem?_eq_some_iff.1 (h2 i hi).2.1).1
    refine ⟨_, k1, fun j hj => k2 j (fun e => hj (by omega)), by rw [k2 _ (by omega)]; exact (h2 i hi).1, by rw [Array.getElem?_setIfInBounds_self_of_lt hsz], by rw [k2 _ (by omega)]; exact (h2 i hi).2.2⟩
  · refine (h.own i hi).chg (set_chg w gs (i * 3 + 1) (.bool b)) (fun b' hb e => ?_)
    subst e
    obtain ⟨c, h3⟩ := (h.own i hi).at_ hb
    rw [h1] at h3; simp only [Option.some.injEq, Obj.cells.injEq] at h3; exact absurd h3.2.1 (by decide)
  · obtain ⟨h3, h4⟩ := h.vers i hi
    refine ⟨h3, fun k hk => ?_⟩
    obtain ⟨u, h6, h7, h8⟩ := h4 k hk
    exact ⟨u, h6, h7, h8.kept (set_chg w gs (i * 3 + 1) (.bool b)) (fun b' cs fr _ hb e => by subst e; rw [h1] at hb; simp only [Option.some.injEq, Obj.cells.injEq] at hb; exact absurd hb.2.1 (by decide)) (fun _ hb => hb)⟩
/-- a new text of a sector that can be read -/
theorem RDk.setText {w : World} {rp gs N : Nat} {d : Dst} {VT VV : Nat → Value} {vs : Nat → List Value} {Fp : Nat → Prop} (h : RDk w rp gs N d VT VV vs Fp) (i : Nat) (hi : i < N) (T : List UInt8) (hT : T.length = 128) (ht : (d.S.getD i Sec.zero).torn = false) (v : Value) (g : Nat) (hg : g < w.heap.size) (hb : ByAt w (fun b => b = g) v T) :
    RDk (w.setCell ⟨gs, i * 3, none⟩ v) rp gs N ⟨d.S.set i ⟨T, false⟩, d.C, d.off, d.fuse⟩ (upd VT i v) VV vs (fun b => Fp b ∨ b = g) := by
  obtain ⟨cur, h1, h2⟩ := h.hs
  have hc0 := set_chg w gs (i * 3) v
  have hc : Chg (fun b => b = gs ∨ (VV i).ownBlock = some b) w (w.setCell ⟨gs, i * 3, none⟩ v) := hc0.mono (fun _ hb => .inl hb)
  have hn5 : ∀ (b : Nat) cs fr, w.heap[b]? = some (.cells cs 5 fr) → ¬ b = gs := fun b' cs fr hb e => by subst e; rw [h1] at hb; simp only [Option.some.injEq, Obj.cells.injEq] at hb; exact absurd hb.2.1 (by decide)
  have hp := h.put (w' := w.setCell ⟨gs, i * 3, none⟩ v) (Fp' := fun b => Fp b ∨ b = g) i hi ⟨T, false⟩ (d.C i) v (VV i) (vs i) ⟨hT, fun h => by cases h⟩ hc ?_ (fun _ hb => .inl hb) (fun b' hb => by
    rcases hb with hb | rfl
    · exact Nat.lt_of_lt_of_le (h.flt b' hb) hc.size
    · exact Nat.lt_of_lt_of_le hg hc.size) (.inr ⟨rfl, hb.kept hc0 (fun b' cs fr _ hb => hn5 b' cs fr hb) (fun _ hb => .inr hb)⟩) ?_ ?_ (.inl rfl) (fun b' hb => .inl (h.fvv i hi b' hb))
  · rw [upd_id, upd_id, upd_id] at hp
    exact hp
  · intro cur' hcur'
    rw [h1] at hcur'
    simp only [Option.some.injEq, Obj.cells.injEq] at hcur'
    obtain ⟨rfl, -⟩ := hcur'
    obtain ⟨k1, k2⟩ := set_sec h1 i 0 (by decide) v
    rw [Nat.add_zero] at k1 k2
    have hsz : i * 3 < cur.size := (Array.getElem?_eq_some_iff.1 (h2 i hi).1).1
    refine ⟨_, k1, fun j hj => k2 j (fun e => hj (by omega)), by rw [Array.getElem?_setIfInBounds_self_of_lt hsz], by rw [k2 _ (by omega), (h2 i hi).2.1, ht], by rw [k2 _ (by omega)]; exact (h2 i hi).2.2⟩
  · refine (h.own i hi).chg hc0 (fun b' hb e => ?_)
    subst e
    obtain ⟨c, h3⟩ := (h.own i hi).at_ hb
    rw [h1] at h3; simp only [Option.some.injEq, Obj.cells.injEq] at h3; exact absurd h3.2.1 (by decide)
  · obtain ⟨h3, h4⟩ := h.vers i hi
    refine ⟨h3, fun k hk => ?_⟩
    obtain ⟨u, h6, h7, h8⟩ := h4 k hk
    exact ⟨u, h6, h7, h8.kept hc0 (fun b' cs fr _ hb => hn5 b' cs fr hb) (fun _ hb => .inl hb)⟩
end Go.Proofs.Ytgdkiejlggiakac
