import Derived.Test.YtgdkiejlggiakaaDMore
namespace Go.Proofs.Ytgdkiejlggiakaa
set_option linter.unusedVariables false
set_option linter.unusedSimpArgs false
open Go.RowKit Go.Maps
/-- bytes that can be read, and lie in a block of bytes that is the disk's -/
structure ByAt (w : World) (Fp : Nat → Prop) (v : Value) (xs : List UInt8) : Prop where
  ex : ∃ b o c, v = .slice (some ⟨b, o, none⟩) xs.length c ∧ Fp b ∧ Rd w (some ⟨b, o, none⟩) xs ∧ ∃ cs fr, w.heap[b]? = some (.cells cs 5 fr)
theorem ByAt.kept {w w' : World} {Fp Fp' F : Nat → Prop} {v : Value} {xs : List UInt8} (h : ByAt w Fp v xs) (hc : Chg F w w') (hF : ∀ b cs fr, Fp b → w.heap[b]? = some (.cells cs 5 fr) → ¬ F b) (hp : ∀ b, Fp b → Fp' b) : ByAt w' Fp' v xs := by
  obtain ⟨b, o, c, rfl, h1, h2, cs, fr, h3⟩ := h.ex
  exact ⟨b, o, c, rfl, hp b h1, h2.chg hc (fun a ha => by cases ha; exact hF b cs fr h1 h3), cs, fr, (hc.block b (Array.getElem?_eq_some_iff.1 h3).1 (hF b cs fr h1 h3)).trans h3⟩
def TextAt (w : World) (Fp : Nat → Prop) (v : Value) (s : Sec) : Prop := (v = nilS ∧ s.text = List.replicate 128 0) ∨ (s.torn = false ∧ ByAt w Fp v s.text)
def OwnV (w : World) (v : Value) (l : List Value) : Prop := w.ownsRow 0 28 1 v l.length l
def VersAt (w : World) (Fp : Nat → Prop) (l : List Value) (c : List (List UInt8)) : Prop := l.length = c.length ∧ ∀ k (h : k < c.length), ∃ u, l[k]? = some u ∧ c[k].length = 128 ∧ ByAt w Fp u c[k]
/-- the document's disk -/
structure RDk (w : World) (rp gs N : Nat) (d : Dst) (VT VV : Nat → Value) (vs : Nat → List Value) (Fp : Nat → Prop) : Prop where
  one : 1 ≤ N
  most : N ≤ 65536
  len : d.S.length = N
  fit : ∀ s ∈ d.S, s.fit
  hp : w.heap[rp]? = some (.cells #[.slice (some ⟨gs, 0, none⟩) N N, .bool d.off, .int .i64 d.fuse] 81 (0, 0))
  hs : ∃ cur, w.heap[gs]? = some (.cells cur 84 (0, 0)) ∧ ∀ i, i < N → cur[i * 3]? = some (VT i) ∧ cur[i * 3 + 1]? = some (.bool (d.S.getD i Sec.zero).torn) ∧ cur[i * 3 + 2]? = some (VV i)
  txt : ∀ i, i < N → TextAt w Fp (VT i) (d.S.getD i Sec.zero)
  own : ∀ i, i < N → OwnV w (VV i) (vs i)
  vers : ∀ i, i < N → VersAt w Fp (vs i) (d.C i)
  apart : ∀ i j, i < N → j < N → i ≠ j → ∀ b, (VV i).ownBlock = some b → (VV j).ownBlock ≠ some b
  frp : Fp rp
  fgs : Fp gs
  fvv : ∀ i, i < N → ∀ b, (VV i).ownBlock = some b → Fp b
  flt : ∀ b, Fp b → b < w.heap.size
  pow : d.off = true → d.fuse = -1
  fu : d.fuse ≤ 9223372036854775807
variable {w w' : World} {rp gs N : Nat} {d : Dst} {VT VV : Nat → Value} {vs : Nat → List Value} {Fp : Nat → Prop}
theorem OwnV.chg {v : Value} {l : List Value} {F : Nat → Prop} (h : OwnV w v l) (hc : Chg F w w') (hne : ∀ b, v.ownBlock = some b → ¬ F b) : OwnV w' v l := by
  refine ⟨h.1, ?_⟩
  rcases h.2 with h0 | ⟨g, cap, cur, e, hB, hg, r⟩
  · exact .inl h0
  · exact .inr ⟨g, cap, cur, e, hB, (hc.block g (Array.getElem?_eq_some_iff.1 hg).1 (hne g (by rw [e]; rfl))).trans hg, r⟩
theorem OwnV.at_ {b : Nat} {v : Value} {l : List Value} (h : OwnV w v l) (hb : v.ownBlock = some b) : ∃ cur, w.heap[b]? = some (.cells cur 28 (0, 0)) := by
  rcases h.2 with ⟨rfl, -⟩ | ⟨g, cap, cur, rfl, -, hg, -⟩
  · simp [Value.ownBlock] at hb
  · simp [Value.ownBlock] at hb
    subst hb
    exact ⟨cur, hg⟩
theorem RDk.kept (h : RDk w rp gs N d VT VV vs Fp) {F : Nat → Prop} (hc : Chg F w w') (hF : ∀ b, Fp b → ¬ F b) : RDk w' rp gs N d VT VV vs Fp := by
  obtain ⟨cur, h1, h2⟩ := h.hs
  refine ⟨h.one, h.most, h.len, h.fit, (hc.block rp (Array.getElem?_eq_some_iff.1 h.hp).1 (hF rp h.frp)).trans h.hp, ⟨cur, (hc.block gs (Array.getElem?_eq_some_iff.1 h1).1 (hF gs h.fgs)).trans h1, h2⟩, fun i hi => ?_, fun i hi => (h.own i hi).chg hc (fun b hb => hF b (h.fvv i hi b hb)), fun i hi => ?_, h.apart, h.frp, h.fgs, h.fvv, fun b hb => Nat.lt_of_lt_of_le (h.flt b hb) hc.size, h.pow, h.fu⟩
  · rcases h.txt i hi with h3 | ⟨h3, h4⟩
    · exact .inl h3
    · exact .inr ⟨h3, h4.kept hc (fun b _ _ hb _ => hF b hb) (fun _ hb => hb)⟩
  · obtain ⟨h3, h4⟩ := h.vers i hi
    refine ⟨h3, fun k hk => ?_⟩
    obtain ⟨u, h5, h6, h7⟩ := h4 k hk
    exact ⟨u, h5, h6, h7.kept hc (fun b _ _ hb _ => hF b hb) (fun _ hb => hb)⟩
theorem RDk.below (h : RDk w rp gs N d VT VV vs Fp) (hb : Below w.heap.size w w') : RDk w' rp gs N d VT VV vs Fp := h.kept (F := fun _ => False) (Chg.of_below hb) (fun _ _ hf => hf)
theorem RDk.c0 (h : RDk w rp gs N d VT VV vs Fp) : w.cell? ⟨rp, 0, none⟩ = some (.slice (some ⟨gs, 0, none⟩) N N) := by rw [cell_of_row _ _ 0 _ _ _ h.hp]; rfl
theorem RDk.c1 (h : RDk w rp gs N d VT VV vs Fp) : w.cell? ⟨rp, 1, none⟩ = some (.bool d.off) := by rw [cell_of_row _ _ 1 _ _ _ h.hp]; rfl
theorem RDk.c2 (h : RDk w rp gs N d VT VV vs Fp) : w.cell? ⟨rp, 2, none⟩ = some (.int .i64 d.fuse) := by rw [cell_of_row _ _ 2 _ _ _ h.hp]; rfl
theorem RDk.s0 (h : RDk w rp gs N d VT VV vs Fp) (i : Nat) (hi : i < N) : w.cell? ⟨gs, i * 3, none⟩ = some (VT i) := by
  obtain ⟨cur, h1, h2⟩ := h.hs
  rw [cell_of_row _ _ _ _ _ _ h1, (h2 i hi).1]
theorem RDk.s1 (h : RDk w rp gs N d VT VV vs Fp) (i : Nat) (hi : i < N) : w.cell? ⟨gs, i * 3 + 1, none⟩ = some (.bool (d.S.getD i Sec.zero).torn) := by
  obtain ⟨cur, h1, h2⟩ := h.hs
  rw [cell_of_row _ _ _ _ _ _ h1, (h2 i hi).2.1]
theorem RDk.s2 (h : RDk w rp gs N d VT VV vs Fp) (i : Nat) (hi : i < N) : w.cell? ⟨gs, i * 3 + 2, none⟩ = some (VV i) := by
  obtain ⟨cur, h1, h2⟩ := h.hs
  rw [cell_of_row _ _ _ _ _ _ h1, (h2 i hi).2.2]
theorem infoRS : (Try.prog.info? 84).map (fun i => (i.zero, i.size, i.bytes)) = some (some (.agg #[.slice none 0 0, .bool false, .slice none 0 0]), 3, 56) := by kernel_rfl
def zR : Array Value := #[.slice none 0 0, .bool false, .slice none 0 0]
theorem make_rsecs (n : Nat) (hn : n ≤ 65536) (w : World) : (Instr.makeSlice 79 (.int .i64 (n : Int)) (.int .i64 (n : Int))).run Try.prog w = .ok (.slice (some ⟨w.heap.size, 0, none⟩) n n) (w.alloc (.cells (madeCells zR (n * 3)) 84)) := by
  obtain ⟨i, hi, hzz⟩ := Option.map_eq_some_iff.1 infoRS
  simp only [Prod.mk.injEq] at hzz
  obtain ⟨hz, hs, hb⟩ := hzz
  have hr := run_make (P := Try.prog) (w := w) 79 84 i _ Try.underlying79 hi hz .i64 .i64 n n (by omega) (Int.le_refl _) (by rw [hb]; omega) (by omega)
  simp only [Int.toNat_natCast, hs] at hr
  exact hr
theorem made_at (n k j : Nat) (hk : k < n) (hj : j < 3) : (madeCells zR (n * 3))[k * 3 + j]? = zR[j]? := by
  have h1 : k * 3 + j < n * 3 := by omega
  unfold madeCells
  rw [Array.getElem?_map, Array.getElem?_range]
  rw [if_pos h1]
  have h2 : (k * 3 + j) % zR.size = j := by
    have : zR.size = 3 := rfl
    rw [this]
    omega
  simp only [Option.map_some, h2]
  match j, hj with
  | 0, _ => rfl
  | 1, _ => rfl
  | 2, _ => rfl
/-- the world behind the document's New -/
def rnewW (w : World) (n : Nat) : World := (w.alloc (.cells (madeCells zR (n * 3)) 84)).alloc (.cells #[.slice (some ⟨w.heap.size, 0, none⟩) n n, .bool false, .int .i64 (-1)] 81)
theorem rnewW_below (w : World) (n : Nat) : Below w.heap.size w (rnewW w n) := al (al (Below.refl _ _) _) _
theorem rnewW_at (w : World) (n : Nat) (h1 : 1 ≤ n) (h2 : n ≤ 65536) : RDk (rnewW w n) (w.heap.size + 1) w.heap.size n (d0 n) (fun _ => nilS) (fun _ => nilS) (fun _ => []) (fun b => b = w.heap.size ∨ b = w.heap.size + 1) := by
  have hsz : (w.alloc (.cells (madeCells zR (n * 3)) 84)).heap.size = w.heap.size + 1 := by simp
  have hg : (rnewW w n).heap[w.heap.size]? = some (.cells (madeCells zR (n * 3)) 84 (0, 0)) := by
    unfold rnewW
    rw [heap_alloc_old (h := by simp)]
    exact heap_alloc_new w _
  have hd : (d0 n).S.length = n := by simp [d0]
  have hgt : ∀ i, i < n → (d0 n).S.getD i Sec.zero = Sec.zero := fun i hi => by simp [d0, hi]
  refine ⟨h1, h2, hd, rep_fit n, ?_, ⟨_, hg, fun i hi => ?_⟩, fun i hi => .inl ⟨rfl, by rw [hgt i hi]; rfl⟩, fun i hi => World.ownsRow_nil _ _ _ _, fun i hi => ⟨rfl, fun k hk => absurd hk (Nat.not_lt_zero _)⟩, (fun i j _ _ _ b hb => (by simp [nilS, Value.ownBlock] at hb)), .inr rfl, .inl rfl, (fun i _ b hb => (by simp [nilS, Value.ownBlock] at hb)), fun b hb => ?_, (fun h => (by simp [d0] at h)), (show (-1 : Int) ≤ 9223372036854775807 by decide)⟩
  · unfold rnewW
    have := heap_alloc_new (w.alloc (.cells (madeCells zR (n * 3)) 84)) (.cells #[.slice (some ⟨w.heap.size, 0, none⟩) n n, .bool false, .int .i64 (-1)] 81)
    rw [hsz] at this
    exact this
  · have e0 := made_at n i 0 hi (by decide)
    have e1 := made_at n i 1 hi (by decide)
    have e2 := made_at n i 2 hi (by decide)
    rw [hgt i hi]
    have e0' : (madeCells zR (n * 3))[i * 3 + 0]? = some nilS := e0
    rw [Nat.add_zero] at e0'
    exact ⟨e0', e1, e2⟩
  · have : (rnewW w n).heap.size = w.heap.size + 2 := by unfold rnewW; simp
    omega
set_option maxRecDepth 20000 in
theorem rnew_bad (n : Int) (hn : n < 1 ∨ 65536 < n) (w : World) :
    Calls Try.prog 38 #[.int .i64 n] w fun e w' => e = .returned (.tuple #[.pointer none, .int .i64 1]) ∧ w' = w := by
  by_cases h1 : n < 1
  · go_enter Try.func38, Try.ntmps38
    go_wp2
    go_ret2
    exact ⟨rfl, rfl⟩
  · have h2 : 65536 < n := by omega
    go_enter Try.func38, Try.ntmps38
    go_wp2
    go_ret2
    exact ⟨rfl, rfl⟩
set_option maxRecDepth 20000 in
theorem rnew_t (n : Nat) (h1 : 1 ≤ n) (h2 : n ≤ 65536) (w : World) :
    Calls Try.prog 38 #[.int .i64 (n : Int)] w fun e w' => e = .returned (.tuple #[.pointer (some ⟨w.heap.size + 1, 0, none⟩), .int .i64 0]) ∧ w' = rnewW w n := by
  have hm := make_rsecs n h2
  have a1 : ¬ (n : Int) < 1 := by omega
  have a2 : ¬ (65536 : Int) < (n : Int) := by omega
  unfold rnewW
  go_enter Try.func38, Try.ntmps38
  go_wp2
  go_ret2
  exact ⟨rfl, rfl⟩
set_option maxRecDepth 20000 in
theorem rnone_t (rp gs n c : Nat) (hn : 0 < n) (w : World) (h : w.cell? ⟨rp, 0, none⟩ = some (.slice (some ⟨gs, 0, none⟩) n c)) : Calls Try.prog 40 #[.pointer (some ⟨rp, 0, none⟩)] w fun e w' => e = .returned (.bool false) ∧ w' = w := by
  have a1 : ¬ (n : Int) = 0 := by omega
  have a2 : ((n : Int) == 0) = false := by simpa using a1
  go_enter Try.func40, Try.ntmps40
  go_wp2
  go_ret
  exact ⟨rfl, rfl⟩
set_option maxRecDepth 20000 in
theorem rnone_nil (w : World) : Calls Try.prog 40 #[.pointer none] w fun e w' => e = .returned (.bool true) ∧ w' = w := by
  go_enter Try.func40, Try.ntmps40
  go_wp2
  go_ret
  exact ⟨rfl, rfl⟩
theorem rnone_d (h : RDk w rp gs N d VT VV vs Fp) : Calls Try.prog 40 #[.pointer (some ⟨rp, 0, none⟩)] w fun e w' => e = .returned (.bool false) ∧ w' = w := rnone_t rp gs N N h.one w h.c0
set_option maxRecDepth 20000 in
theorem rsectors_t (h : RDk w rp gs N d VT VV vs Fp) : Calls Try.prog 21 #[.pointer (some ⟨rp, 0, none⟩)] w fun e w' => e = .returned (.int .i64 (N : Int)) ∧ w' = w := by
  have HN : Hid _ := rnone_d h
  have c0 := h.c0
  clear h
  go_enter Try.func21, Try.ntmps21
  go_wp2_with fail
  refine Calls.mono HN.out ?_
  rintro e w1 ⟨rfl, hq⟩
  have hq := hq.symm
  subst hq
  go_wp2
  go_ret
  exact ⟨rfl, rfl⟩
set_option maxRecDepth 20000 in
theorem rsectors_nil (w : World) : Calls Try.prog 21 #[.pointer none] w fun e w' => e = .returned (.int .i64 0) ∧ w' = w := by
  have HN : Hid _ := rnone_nil w
  go_enter Try.func21, Try.ntmps21
  go_wp2_with fail
  refine Calls.mono HN.out ?_
  rintro e w1 ⟨rfl, hq⟩
  have hq := hq.symm
  subst hq
  go_wp2
  go_ret
  exact ⟨rfl, rfl⟩
set_option maxRecDepth 20000 in
theorem zeros_t (n : Nat) (hn : n ≤ 65536) (w : World) : Calls Try.prog 41 #[.int .i64 (n : Int)] w fun e w' => e = .returned (.slice (some ⟨w.heap.size, 0, none⟩) n n) ∧ w' = w.alloc (.cells (List.replicate n (Value.int .u8 0)).toArray 5) := by
  have hm := make_bytes n (by omega)
  go_enter Try.func41, Try.ntmps41
  go_wp2
  go_ret
  exact ⟨rfl, rfl⟩
theorem zeros_rd (n : Nat) (hn : n ≤ 65536) (w : World) : Calls Try.prog 41 #[.int .i64 (n : Int)] w fun e w' => ∃ g, e = .returned (.slice (some ⟨g, 0, none⟩) n n) ∧ w.heap.size ≤ g ∧ w'.heap[g]? = some (.cells (bv (List.replicate n 0)).toArray 5 (0, 0)) ∧ Below w.heap.size w w' := by
  refine (zeros_t n hn w).mono ?_
  rintro e w' ⟨rfl, rfl⟩
  refine ⟨_, rfl, Nat.le_refl _, ?_, al (Below.refl _ _) _⟩
  have h := heap_alloc_new w (.cells (List.replicate n (Value.int .u8 0)).toArray 5)
  rw [show bv (List.replicate n 0) = List.replicate n (Value.int .u8 0) from by simp [bv]]
  exact h
set_option maxRecDepth 20000 in
theorem copied_t (ao : Option Addr) (n cap : Nat) (xs : List UInt8) (w : World) (hn : n = xs.length) (hx : Rd w ao xs) (hnil : ao = none → cap = 0) (hl : n ≤ 140737488355328) :
    Calls Try.prog 46 #[.slice ao n cap] w fun e w' => ∃ v, e = .returned v ∧ Own w' w.heap.size v xs ∧ Below w.heap.size w w' := by
  subst hn
  have HN : Hid _ := hnil
  clear hnil
  go_enter Try.func46, Try.ntmps46
  go_wp2_with (at_builtin; refine wp_app rfl _ _ rfl w.heap.size (.slice none 0 0) [] xs ao cap rfl (World.ownsRow_nil _ _ _ _) rfl hx HN.out (by simpa using hl) (Nat.le_refl _) ?_; intro v2 w2 hown2 hg2)
  go_ret
  exact ⟨_, rfl, hown2, (Below.refl _ w).grown hg2 (Nat.le_refl _) (fun k hk => by simp [Value.ownBlock] at hk)⟩
set_option maxRecDepth 20000 in
set_option maxHeartbeats 800000 in
theorem only_t (ao : Option Addr) (n cap : Nat) (xs : List UInt8) (w : World) (hn : n = xs.length) (hx : Rd w ao xs) (hl : n ≤ 140737488355328) :
    Calls Try.prog 45 #[.slice ao n cap] w fun e w' => e = .returned (.bool (xs.all (· == 0))) ∧ w' = w := by
  have HN : Hid _ := hn
  clear hn
  go_enter Try.func45, Try.ntmps45
  go_wp2
  go_loopw [3] (fun i wr => ∃ k : Nat, k ≤ n ∧ i = .int .i64 k ∧ (xs.take k).all (· == 0) = true ∧ wr = w) (fun i _ => n - (intOf i).toNat)
  case atStart => exact ⟨0, Nat.zero_le _, rfl, rfl, rfl⟩
  case round =>
    obtain ⟨k, hk, rfl, hall, hq⟩ := hrel
    subst hq
    have hkw : IntKind.i64.wrap ((k : Int) + 1) = ((k + 1 : Nat) : Int) := by rw [IntKind.wrap_i64]; omega
    have HA : Hid _ := hall
    clear hall
    by_cases hlt : k < n
    · have hk1 : k < xs.length := by rw [← HN.out]; exact hlt
      have hlti : (k : Int) < (n : Int) := by omega
      have hk0 : (0 : Int) ≤ (k : Int) := by omega
      obtain ⟨b, o, rfl, hc⟩ := hx (by omega)
      have hck := hc k hk1
      by_cases hz : xs[k] = 0
      · have hz' : xs[k].toNat = 0 := by rw [hz]; rfl
        rw [hz'] at hck
        have HT : Hid ((xs.take (k + 1)).all (· == 0) = true) := by
          unfold Hid
          rw [List.take_succ_eq_append_getElem hk1, List.all_append, HA.out]
          simp [hz]
        clear hc hz hz'
        go_wp2
        go_roundw
        case rel => exact ⟨k + 1, by omega, by go_num, HT.out, trivial⟩
        case measure => simp [intOf]; omega
      · have hzn : ¬ ((xs[k].toNat : Nat) : Int) = 0 := fun e => hz (UInt8.toNat_inj.1 (by simpa using e))
        have HF : Hid (xs.all (· == 0) = false) := by
          unfold Hid
          rw [List.all_eq_false]
          exact ⟨xs[k], List.getElem_mem hk1, by simpa using hz⟩
        obtain ⟨z, hzz⟩ : ∃ z : Int, z = ((xs[k].toNat : Nat) : Int) := ⟨_, rfl⟩
        rw [← hzz] at hck hzn
        have hzb : (z == 0) = false := by simpa using hzn
        clear hc hz hzz
        go_wp2
        go_ret
        rw [HF.out]
        exact ⟨rfl, rfl⟩
    · have hlti : ¬ (k : Int) < (n : Int) := by omega
      have HF : Hid (xs.all (· == 0) = true) := by
        have h9 := HA.out
        rw [List.take_of_length_le (by rw [← HN.out]; omega)] at h9
        exact h9
      go_wp2
      go_ret
      rw [HF.out]
      exact ⟨rfl, rfl⟩
end Go.Proofs.Ytgdkiejlggiakaa
