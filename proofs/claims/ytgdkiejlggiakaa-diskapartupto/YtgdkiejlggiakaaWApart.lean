import Derived.Test.YtgdkiejlggiakaaDMany
namespace Go.Proofs.Ytgdkiejlggiakaa
set_option linter.unusedVariables false
set_option linter.unusedSimpArgs false
open Go.RowKit Go.Maps
/-- a row of pointers of the call's own -/
def OwnP (w : World) (B : Nat) (v : Value) (ps : List Nat) : Prop := w.ownsRow B 22 1 v ps.length (ps.map fun p => .pointer (some ⟨p, 0, none⟩))
theorem infoP : (Try.prog.info? 22).map (fun i => (i.zero, i.size, i.bytes)) = some (some (.pointer none), 1, 8) := by kernel_rfl
theorem OwnP.below {w w' : World} {B : Nat} {v : Value} {xs : List Nat} (h : OwnP w B v xs) (hb : Below w.heap.size w w') : OwnP w' B v xs :=
  World.ownsRow.kept h (gr_below (World.grownBy.refl w none) hb) (by cases hv : v.ownBlock <;> simp)
theorem wp_appP {w : World} {ops : Array Oper} {rest : List Oper} {o : Oper} {a : Act} {Q : Exit → Act → World → Prop} (hgd : o.guard = none) (s x : Operand)
    (ho : o.op = .call { callee := .builtin .append, args := #[s, x], argTypes := #[50, 50] }) (B : Nat) (v : Value) (xs : List Nat) (y : Nat) (g : Nat)
    (hs : a.eval s = v) (hown : OwnP w B v xs) (hx : a.eval x = .slice (some ⟨g, 0, none⟩) 1 1) (hg : w.heap[g]? = some (.cells #[.pointer (some ⟨y, 0, none⟩)] 22 (0, 0))) (hb : xs.length ≤ 1099511627776) (hbase : B ≤ w.heap.size)
    (h : ∀ g' cap w', OwnP w' B (.slice (some ⟨g', 0, none⟩) (xs.length + 1) cap) (xs ++ [y]) → w.grownBy w' v.ownBlock → (v.ownBlock = some g' ∨ g' = w.heap.size) → wpList Try.prog ops Q rest (a.put o.dst (.slice (some ⟨g', 0, none⟩) (xs.length + 1) cap)) w') : wpList Try.prog ops Q (o :: rest) a w := by
  obtain ⟨i0, hi, hz0, hz1, hz2⟩ := info_parts infoP
  refine wpList_append_lies w hgd s x 50 ho B 22 i0 (.pointer none) 1 8 Try.underlying50 hi hz0 hz1 hz2 rfl (by decide) v xs.length (xs.map fun p => .pointer (some ⟨p, 0, none⟩)) hs hown ⟨g, 0, none⟩ 1 1 [.pointer (some ⟨y, 0, none⟩)] hx rfl (World.news_of_block hg) (by intro u hu; simp at hu; subst hu; rfl) (by decide) (by simp only [maxLen]; omega) (by omega) hbase w.heap.size rfl ?_
  intro g' cap w' h1 h2 h3 _
  refine h g' cap w' ?_ h2 h3
  unfold OwnP
  rw [List.length_append, List.map_append]
  exact h1
theorem farP : farT 22 := ⟨by decide, by decide, by decide⟩
theorem row_atB {w : World} {v : Value} {n b B : Nat} {xs : List Value} {e : TypeId} {s : Nat} (h : w.ownsRow B e s v n xs) (hb : v.ownBlock = some b) : ∃ cur, w.heap[b]? = some (.cells cur e (0, 0)) := by
  rcases h.2 with ⟨rfl, -⟩ | ⟨g, cap, cur, rfl, -, hg, -⟩
  · simp [Value.ownBlock] at hb
  · simp [Value.ownBlock] at hb
    subst hb
    exact ⟨cur, hg⟩
/-- the row grows by a pointer: the disks stay -/
theorem Ap.rowGrows {W w w' : World} {N : Nat} {P : Nat → Nat} {ds : Nat → Dst} {c B : Nat} {v : Value} {xs : List Nat} (h : Ap W w N [] P ds c) (ho : OwnP w W.heap.size v xs) (hg : w.grownBy w' v.ownBlock) : Ap W w' N [] P ds c := by
  obtain ⟨D, h1, h2⟩ := h.ex
  refine ⟨⟨D, h1.kept (F := fun b => v.ownBlock = some b) (Chg.of_grown hg (fun b hb => hb)) (fun i hi b hb hv => ?_), h2⟩, fun _ hx => absurd hx List.not_mem_nil, fun _ hx => absurd hx List.not_mem_nil, ?_⟩
  · obtain ⟨cur, h3⟩ := row_atB ho hv
    exact DK.notT (h1.ok i hi) hb farP h3
  · exact h.bel.trans ((Chg.of_grown (F := fun b => v.ownBlock = some b) hg (fun b hb => hb)).below (fun b hb => (World.ownsRow.lt ho b hb).1) h.bel.size)
def st4 (x y z u : Dst) : Nat → Dst := fun j => if j = 0 then x else if j = 1 then y else if j = 2 then z else u
theorem st4_0 (x y z u x' : Dst) : ∀ j, j < 4 → updS (st4 x y z u) 0 x' j = st4 x' y z u j := fun j _ => by unfold updS st4; split <;> simp_all
theorem st4_1 (x y z u x' : Dst) : ∀ j, j < 4 → updS (st4 x y z u) 1 x' j = st4 x x' z u j := fun j _ => by unfold updS st4; split <;> simp_all
theorem st4_2 (x y z u x' : Dst) : ∀ j, j < 4 → updS (st4 x y z u) 2 x' j = st4 x y x' u j := fun j _ => by unfold updS st4; split <;> simp_all
theorem st4_3 (x y z u x' : Dst) : ∀ j, j < 4 → updS (st4 x y z u) 3 x' j = st4 x y z x' j := fun j hj => by
  unfold updS st4
  match j, hj with
  | 0, _ => rfl
  | 1, _ => rfl
  | 2, _ => rfl
  | 3, _ => rfl
/-- the row of the four, and the disks -/
structure Four (W : World) (gl : Nat) (P : Nat → Nat) (ds : Nat → Dst) (c : Nat) (u : World) : Prop where
  ap : ∃ cur, Ap W u 4 [(gl, .cells cur 22 (0, 0))] P ds c
  at0 : ∀ j, j < 4 → u.cell? ⟨gl, j, none⟩ = some (.pointer (some ⟨P j, 0, none⟩))
theorem Four.below {W u u' : World} {gl : Nat} {P : Nat → Nat} {ds : Nat → Dst} {c : Nat} (h : Four W gl P ds c u) (hb : Below u.heap.size u u') : Four W gl P ds c u' := by
  obtain ⟨cur, h1⟩ := h.ap
  exact ⟨⟨cur, h1.below hb⟩, fun j hj => (hb.cell (World.block_lt_of_cell? u _ (h.at0 j hj))).trans (h.at0 j hj)⟩
theorem Four.mk' {W u u' : World} {gl : Nat} {P : Nat → Nat} {ds ds' : Nat → Dst} {c c' : Nat} (h : Four W gl P ds c u) {cur : Array Value} (h1 : Ap W u 4 [(gl, .cells cur 22 (0, 0))] P ds c) (h2 : Ap W u' 4 [(gl, .cells cur 22 (0, 0))] P ds' c') : Four W gl P ds' c' u' := by
  refine ⟨⟨cur, h2⟩, fun j hj => ?_⟩
  rw [← h.at0 j hj]
  exact World.cell?_of_block ((h2.row (gl, .cells cur 22 (0, 0)) (by simp)).trans (h1.row (gl, .cells cur 22 (0, 0)) (by simp)).symm)
theorem Four.run1 {W u : World} {gl : Nat} {P : Nat → Nat} {ds ds' : Nat → Dst} {c : Nat} (h : Four W gl P ds c u) (hc : c < 1099511627776) (i : Nat) (hi : i < 4) (b o : Nat) (xs : List Stp) (hx : RdSt W (some ⟨b, o, none⟩) xs) (k : Nat) (hk : k < xs.length) (cap : Nat) (he : ∀ j, j < 4 → updS ds i ((ds i).step 0 xs[k]) j = ds' j) :
    Calls Try.prog 24 #[.pointer (some ⟨P i, 0, none⟩), .slice (some ⟨b, o + k * 3, none⟩) 1 cap, .int .i64 1] u fun e w' => ∃ z, e = .returned (.int .i64 z) ∧ Four W gl P ds' (c + 1) w' := by
  obtain ⟨cur, h1⟩ := h.ap
  refine (h1.run1 hc i hi b o xs hx k hk cap).mono ?_
  rintro e w' ⟨z, rfl, h2⟩
  exact ⟨z, rfl, h.mk' h1 (h2.eq he)⟩
theorem Four.more {W u : World} {gl : Nat} {P : Nat → Nat} {ds : Nat → Dst} {c c' : Nat} (h : Four W gl P ds c u) (hc : c ≤ c') : Four W gl P ds c' u := by
  obtain ⟨cur, h1⟩ := h.ap
  exact ⟨⟨cur, h1.more hc⟩, h.at0⟩
theorem Four.bel {W u : World} {gl : Nat} {P : Nat → Nat} {ds : Nat → Dst} {c : Nat} (h : Four W gl P ds c u) : Below W.heap.size W u := by
  obtain ⟨cur, h1⟩ := h.ap
  exact h1.bel
/-- the four, whatever they are -/
def FourE (W : World) (gl : Nat) (P : Nat → Nat) (u : World) : Prop := ∃ ds c, Four W gl P ds c u
theorem FourE.at0 {W u : World} {gl : Nat} {P : Nat → Nat} (h : FourE W gl P u) (j : Nat) (hj : j < 4) : u.cell? ⟨gl, j, none⟩ = some (.pointer (some ⟨P j, 0, none⟩)) := by obtain ⟨_, _, h⟩ := h; exact h.at0 j hj
theorem dirty_lens (N : Nat) (C : Nat → List (List UInt8)) (h : N ≤ 65536) : (dirtyL N C).length ≤ 65536 ∧ (dirtyC N C).length ≤ 65536 := by
  have h1 : (dirtyN N C).length ≤ N := by unfold dirtyN; exact Nat.le_trans (List.length_filter_le _ _) (by simp)
  unfold dirtyL dirtyC
  simp only [List.length_map]
  omega
theorem takeD (d : Dst) (xs : List Stp) (k : Nat) (h : xs.length ≤ k) : foldD d (xs.take k) = foldD d xs := by rw [List.take_of_length_le h]
set_option maxRecDepth 20000 in
set_option maxHeartbeats 1600000 in
theorem diskApart_walk (n0 : Int) (a1 : Option Addr) (cap1 : Nat) (xs1 : List Stp) (a2 : Option Addr) (cap2 : Nat) (xs2 : List Stp) (W : World) (hn0 : -9223372036854775808 ≤ n0 ∧ n0 ≤ 9223372036854775807)
    (hr1 : RdSt W a1 xs1) (hl1 : xs1.length ≤ cap1) (ha1 : a1 = none → cap1 = 0) (hc1 : cap1 ≤ 1048575) (hr2 : RdSt W a2 xs2) (hl2 : xs2.length ≤ cap2) (ha2 : a2 = none → cap2 = 0) (hc2 : cap2 ≤ 1048575) :
    Calls Try.prog 8 #[.int .i64 n0, .slice a1 xs1.length cap1, .slice a2 xs2.length cap2] W fun e w' => e = .returned (.bool true) ∧ Below W.heap.size W w' := by
  have HN0 : Hid _ := hn0
  have HR1 : Hid _ := hr1
  have HR2 : Hid _ := hr2
  have HA1 : Hid _ := ha1
  have HA2 : Hid _ := ha2
  have hin := spanS_in n0 1 65536 (by decide)
  have HSP := span_t n0 1 65536 W HN0.out.1 HN0.out.2 (by decide) (by decide)
  obtain ⟨N, hN⟩ : ∃ N : Nat, N = spanS n0 1 65536 := ⟨_, rfl⟩
  rw [← hN] at hin HSP
  have HIN : Hid _ := hin
  have HSP : Hid _ := HSP
  obtain ⟨L1, hL1⟩ : ∃ L : Nat, L = xs1.length := ⟨_, rfl⟩
  obtain ⟨L2, hL2⟩ : ∃ L : Nat, L = xs2.length := ⟨_, rfl⟩
  rw [← hL1, ← hL2]
  have HL1 : Hid _ := hL1
  have HL2 : Hid _ := hL2
  have HB1 : Hid (L1 ≤ cap1 ∧ cap1 ≤ 1048575) := ⟨by omega, hc1⟩
  have HB2 : Hid (L2 ≤ cap2 ∧ cap2 ≤ 1048575) := ⟨by omega, hc2⟩
  clear hn0 hr1 hr2 ha1 ha2 hin hN hL1 hL2 hl1 hl2 hc1 hc2
  go_enter Try.func8, Try.ntmps8
  go_wp2_with fail
  refine Calls.mono HSP.out ?_
  rintro e w1 ⟨rfl, hq⟩
  have hq := hq.symm
  subst hq
  go_wp2_with fail
  go_loopw [8, 9, 10, 11] (fun l i _ _ wr => ∃ (v : Value) (k : Nat) (P : Nat → Nat) (ds : Nat → Dst), v = l ∧ k ≤ 4 ∧ i = .int .i64 (k : Int) ∧ Ap W wr k [] P ds 0 ∧ (∀ j, j < k → ds j = d0 N) ∧ OwnP wr W.heap.size v ((List.range k).map P)) (fun _ i _ _ _ => 4 - (intOf i).toNat)
  case atStart => exact ⟨_, 0, fun _ => 0, fun _ => d0 N, rfl, Nat.zero_le _, rfl, Ap.start W _ _, fun j hj => absurd hj (Nat.not_lt_zero _), World.ownsRow_nil _ _ _ _⟩
  case round =>
    obtain ⟨v8, k, P, ds, rfl, hk, rfl, hap, hds, hown⟩ := hrel
    have HAP : Hid _ := hap
    have HDS : Hid _ := hds
    have HOW : Hid _ := hown
    clear hap hds
    by_cases hlt : k < 4
    · have HNEW : Hid _ := Ap.new HAP.out N HIN.out.1 HIN.out.2
      go_wp2_with fail
      refine Calls.mono HNEW.out ?_
      rintro e w2 ⟨p, rfl, hap2, hb2⟩
      have HAP2 : Hid _ := hap2
      obtain ⟨X, hX⟩ : ∃ X : World, X = w2.alloc (.cells #[.pointer (some ⟨p, 0, none⟩)] 22) := ⟨_, rfl⟩
      have hXb : Below w2.heap.size w2 X := by rw [hX]; exact al (Below.refl _ _) _
      have hXr : X.heap[w2.heap.size]? = some (.cells #[.pointer (some ⟨p, 0, none⟩)] 22 (0, 0)) := by rw [hX]; exact heap_alloc_new w2 _
      have hownX : OwnP X W.heap.size v8 ((List.range k).map P) := (OwnP.below HOW.out hb2).below hXb
      have HAPX : Hid _ := Ap.below HAP2.out hXb
      have hkl : ((List.range k).map P).length = k := by simp
      have hWX : W.heap.size ≤ X.heap.size := Below.size (Ap.bel HAPX.out)
      clear hb2 hap2 HNEW HAP HOW hown hXb
      go_wp2_with (first
        | (at_builtin; rw [← hX]; refine wp_appP rfl _ _ rfl W.heap.size v8 ((List.range k).map P) p w2.heap.size (by rfl) hownX (by rfl) hXr (by rw [hkl]; omega) hWX ?_; intro g' cap' w3 how3 hg3 hd3; rw [hkl] at how3 ⊢))
      have hapx := Ap.rowGrows (B := 0) HAPX.out hownX hg3
      go_wp2
      go_roundw
      case rel =>
        refine ⟨_, k + 1, updN P k p, updS ds k (d0 N), rfl, by omega, by go_num, hapx, fun j hj => ?_, ?_⟩
        · unfold updS
          split
          · rfl
          · exact HDS.out j (by omega)
        · have e9 : (List.range (k + 1)).map (updN P k p) = (List.range k).map P ++ [p] := by
            rw [List.range_succ, List.map_append]
            congr 1
            · refine List.map_congr_left fun j hj => ?_
              have := List.mem_range.1 hj
              unfold updN
              rw [if_neg (by omega)]
            · simp [updN]
          rw [e9]
          exact how3
      case measure => simp [intOf]; omega
    · obtain rfl : k = 4 := by omega
      rw [show ((4 : Nat) : Int) = 4 from rfl]
      have HF4 : Hid (∃ gl cap, v8 = .slice (some ⟨gl, 0, none⟩) 4 cap ∧ Four W gl P (st4 (d0 N) (d0 N) (d0 N) (d0 N)) 0 wr) := by
        have h9 := HOW.out
        rcases h9.2 with ⟨-, h0⟩ | ⟨gl, cap, cur, rfl, hB, hg, r⟩
        · simp at h0
        · refine ⟨gl, cap, rfl, ⟨cur, ?_⟩, fun j hj => ?_⟩
          · refine (Ap.eq HAP.out fun j hj => ?_).addRow hg farP
            rw [HDS.out j hj]
            unfold st4
            repeat' split
            all_goals rfl
          · have h10 := World.ownsRow.cellAt h9 j (by simpa using hj)
            rw [h10]
            simp [hj]
      obtain ⟨gl, cap, rfl, hf4⟩ := HF4.out
      have HF : Hid _ := hf4
      clear hf4 HF4 HOW HAP HDS hown
      obtain ⟨d, hd⟩ : ∃ d : Dst, d = d0 N := ⟨_, rfl⟩
      rw [← hd] at HF
      have hc0 : ∀ u, FourE W gl P u → u.cell? ⟨gl, 0, none⟩ = some (.pointer (some ⟨P 0, 0, none⟩)) := fun u h => h.at0 0 (by decide)
      have hc1 : ∀ u, FourE W gl P u → u.cell? ⟨gl, 1, none⟩ = some (.pointer (some ⟨P 1, 0, none⟩)) := fun u h => h.at0 1 (by decide)
      have hc2 : ∀ u, FourE W gl P u → u.cell? ⟨gl, 2, none⟩ = some (.pointer (some ⟨P 2, 0, none⟩)) := fun u h => h.at0 2 (by decide)
      have hc3 : ∀ u, FourE W gl P u → u.cell? ⟨gl, 3, none⟩ = some (.pointer (some ⟨P 3, 0, none⟩)) := fun u h => h.at0 3 (by decide)
      go_wp2_with fail
      go_loopw [12] (fun i wq => ∃ k : Nat, (k ≤ L1 ∨ k ≤ L2) ∧ i = .int .i64 (k : Int) ∧ Four W gl P (st4 (foldD d (xs1.take k)) (foldD d (xs2.take k)) d d) (2 * k) wq) (fun i _ => (L1 + L2) - (intOf i).toNat)
      case atStart => exact ⟨0, .inl (Nat.zero_le _), rfl, HF.out⟩
      case round =>
        obtain ⟨k, hk, rfl, hf⟩ := hrel
        have HF2 : Hid _ := hf
        clear hf HF
        obtain ⟨M, hM⟩ : ∃ M : Nat, M = k + 1 := ⟨_, rfl⟩
        have hkw : IntKind.i64.wrap ((k : Int) + 1) = (M : Int) := by rw [IntKind.wrap_i64]; have := HB1.out; have := HB2.out; omega
        have HM : Hid _ := hM
        clear hM
        have hk0 : (0 : Int) ≤ (k : Int) := by omega
        by_cases q1 : k < L1
        · have q1i : (k : Int) < (L1 : Int) := by omega
          by_cases q2 : k < L2
          · have q2i : (k : Int) < (L2 : Int) := by omega
            have hE0 : FourE W gl P wr.drew := ⟨_, _, Four.below HF2.out (Below.refl _ _).drew⟩
            obtain ⟨bb1, oo1, rfl⟩ := RdSt.addr HR1.out (by have := HL1.out; omega)
            have hsl1 := fun u => sub_steps bb1 oo1 L1 cap1 k M HM.out (by have := HM.out; have := HB1.out; omega) u
            have HRN : Hid _ := Four.run1 (ds' := st4 (foldD d (xs1.take (k + 1))) (foldD d (xs2.take k)) d d) (Four.below HF2.out (Below.refl _ _).drew) (by have := HB1.out; have := HB2.out; omega) 0 (by decide) bb1 oo1 xs1 HR1.out k (by have := HL1.out; omega) (cap1 - k) (by have h9 := foldD_step d xs1 k (by have := HL1.out; omega); intro j hj; rw [h9]; exact st4_0 _ _ _ _ _ j hj)
            go_wp2_with fail
            refine wp_region_noPanic ?_
            refine wp_region_held_drew (S := (fun u => FourE W gl P u)) (by kernel_rfl) (by first | exact hE0 | assumption) (fun hHeld => ?_)
            refine take_at (i := 0) 57 (v := ?_) rfl rfl (by kernel_rfl) (by kernel_rfl) (by kernel_rfl) (fun _ _ _ h => h) (by rfl) ?_ hHeld ?_
            rotate_left
            · (intro w hSw; (try dsimp only at hSw); go_simp; try with_reducible rfl)
            simp only [Act.put, List.setIfInBounds_toArray, List.set_cons_zero, List.set_cons_succ]
            refine take_at (i := 1) 58 (v := ?_) rfl rfl (by kernel_rfl) (by kernel_rfl) (by kernel_rfl) (fun _ _ _ h => h) (by rfl) ?_ hHeld ?_
            rotate_left
            · (intro w hSw; (try dsimp only at hSw); go_simp; try with_reducible rfl)
            simp only [Act.put, List.setIfInBounds_toArray, List.set_cons_zero, List.set_cons_succ]
            refine take_at (i := 2) 59 (v := ?_) rfl rfl (by kernel_rfl) (by kernel_rfl) (by kernel_rfl) (fun _ _ _ h => h) (by rfl) ?_ hHeld ?_
            rotate_left
            · (intro w hSw; (try dsimp only at hSw); go_simp; try with_reducible rfl)
            simp only [Act.put, List.setIfInBounds_toArray, List.set_cons_zero, List.set_cons_succ]
            refine take_at (i := 3) 60 (v := ?_) rfl rfl (by kernel_rfl) (by kernel_rfl) (by kernel_rfl) (fun _ _ _ h => h) (by rfl) ?_ hHeld ?_
            rotate_left
            · (intro w hSw; (try dsimp only at hSw); go_simp; try with_reducible rfl)
            simp only [Act.put, List.setIfInBounds_toArray, List.set_cons_zero, List.set_cons_succ]
            refine take_at (i := 4) 61 (v := ?_) rfl rfl (by kernel_rfl) (by kernel_rfl) (by kernel_rfl) (fun _ _ _ h => h) (by rfl) ?_ hHeld ?_
            rotate_left
            · (intro w hSw; (try dsimp only at hSw); go_simp; try with_reducible rfl)
            simp only [Act.put, List.setIfInBounds_toArray, List.set_cons_zero, List.set_cons_succ]
            refine take_at (i := 5) 62 (v := ?_) rfl rfl (by kernel_rfl) (by kernel_rfl) (by kernel_rfl) (fun _ _ _ h => h) (by rfl) ?_ hHeld ?_
            rotate_left
            · (intro w hSw; (try dsimp only at hSw); go_simp; try with_reducible rfl)
            simp only [Act.put, List.setIfInBounds_toArray, List.set_cons_zero, List.set_cons_succ]
            refine take_at (i := 6) 63 (v := ?_) rfl rfl (by kernel_rfl) (by kernel_rfl) (by kernel_rfl) (fun _ _ _ h => h) (by rfl) ?_ hHeld ?_
            rotate_left
            · (intro w hSw; (try dsimp only at hSw); go_simp; try with_reducible rfl)
            simp only [Act.put, List.setIfInBounds_toArray, List.set_cons_zero, List.set_cons_succ]
            refine take_at (i := 7) 64 (v := ?_) rfl rfl (by kernel_rfl) (by kernel_rfl) (by kernel_rfl) (fun _ _ _ h => h) (by rfl) ?_ hHeld ?_
            rotate_left
            · (intro w hSw; (try dsimp only at hSw); go_simp; try with_reducible rfl)
            simp only [Act.put, List.setIfInBounds_toArray, List.set_cons_zero, List.set_cons_succ]
            refine run_at (i := 8) rfl (by kernel_rfl) (by rfl) (fun K hK => ?_)
            simp only [List.getElem_toArray, List.getElem_cons_zero, List.getElem_cons_succ]
            go_simp
            (go_at_call 24; refine Calls.mono HRN.out ?_; rintro e w5 ⟨z0, rfl, hf0⟩; have hS0 : FourE W gl P w5 := ⟨_, _, hf0⟩; have HF3 : Hid _ := hf0; clear hf0)
            go_wp2_with fail
            refine hK.out _ _ (by first | exact hE0 | assumption) ?_
            clear hK K
            intro hHeld2
            clear hHeld
            have hHeld := hHeld2
            clear hHeld2
            try simp only [Act.put, List.setIfInBounds_toArray, List.set_cons_zero, List.set_cons_succ]
            refine wpAnyH_done (by kernel_rfl) ?_ _
            refine NoPanic.normal ?_
            clear HRN
            have hE1 : FourE W gl P w5.drew := ⟨_, _, Four.below HF3.out (Below.refl _ _).drew⟩
            obtain ⟨bb2, oo2, rfl⟩ := RdSt.addr HR2.out (by have := HL2.out; omega)
            have hsl2 := fun u => sub_steps bb2 oo2 L2 cap2 k M HM.out (by have := HM.out; have := HB2.out; omega) u
            have HRN : Hid _ := Four.run1 (ds' := st4 (foldD d (xs1.take (k + 1))) (foldD d (xs2.take (k + 1))) d d) (Four.below HF3.out (Below.refl _ _).drew) (by have := HB1.out; have := HB2.out; omega) 1 (by decide) bb2 oo2 xs2 HR2.out k (by have := HL2.out; omega) (cap2 - k) (by have h9 := foldD_step d xs2 k (by have := HL2.out; omega); intro j hj; rw [h9]; exact st4_1 _ _ _ _ _ j hj)
            go_wp2_with fail
            refine wp_region_noPanic ?_
            refine wp_region_held_drew (S := (fun u => FourE W gl P u)) (by kernel_rfl) (by first | exact hE1 | assumption) (fun hHeld => ?_)
            refine take_at (i := 0) 70 (v := ?_) rfl rfl (by kernel_rfl) (by kernel_rfl) (by kernel_rfl) (fun _ _ _ h => h) (by rfl) ?_ hHeld ?_
            rotate_left
            · (intro w hSw; (try dsimp only at hSw); go_simp; try with_reducible rfl)
            simp only [Act.put, List.setIfInBounds_toArray, List.set_cons_zero, List.set_cons_succ]
            refine take_at (i := 1) 71 (v := ?_) rfl rfl (by kernel_rfl) (by kernel_rfl) (by kernel_rfl) (fun _ _ _ h => h) (by rfl) ?_ hHeld ?_
            rotate_left
            · (intro w hSw; (try dsimp only at hSw); go_simp; try with_reducible rfl)
            simp only [Act.put, List.setIfInBounds_toArray, List.set_cons_zero, List.set_cons_succ]
            refine take_at (i := 2) 72 (v := ?_) rfl rfl (by kernel_rfl) (by kernel_rfl) (by kernel_rfl) (fun _ _ _ h => h) (by rfl) ?_ hHeld ?_
            rotate_left
            · (intro w hSw; (try dsimp only at hSw); go_simp; try with_reducible rfl)
            simp only [Act.put, List.setIfInBounds_toArray, List.set_cons_zero, List.set_cons_succ]
            refine take_at (i := 3) 73 (v := ?_) rfl rfl (by kernel_rfl) (by kernel_rfl) (by kernel_rfl) (fun _ _ _ h => h) (by rfl) ?_ hHeld ?_
            rotate_left
            · (intro w hSw; (try dsimp only at hSw); go_simp; try with_reducible rfl)
            simp only [Act.put, List.setIfInBounds_toArray, List.set_cons_zero, List.set_cons_succ]
            refine take_at (i := 4) 74 (v := ?_) rfl rfl (by kernel_rfl) (by kernel_rfl) (by kernel_rfl) (fun _ _ _ h => h) (by rfl) ?_ hHeld ?_
            rotate_left
            · (intro w hSw; (try dsimp only at hSw); go_simp; try with_reducible rfl)
            simp only [Act.put, List.setIfInBounds_toArray, List.set_cons_zero, List.set_cons_succ]
            refine take_at (i := 5) 75 (v := ?_) rfl rfl (by kernel_rfl) (by kernel_rfl) (by kernel_rfl) (fun _ _ _ h => h) (by rfl) ?_ hHeld ?_
            rotate_left
            · (intro w hSw; (try dsimp only at hSw); go_simp; try with_reducible rfl)
            simp only [Act.put, List.setIfInBounds_toArray, List.set_cons_zero, List.set_cons_succ]
            refine take_at (i := 6) 76 (v := ?_) rfl rfl (by kernel_rfl) (by kernel_rfl) (by kernel_rfl) (fun _ _ _ h => h) (by rfl) ?_ hHeld ?_
            rotate_left
            · (intro w hSw; (try dsimp only at hSw); go_simp; try with_reducible rfl)
            simp only [Act.put, List.setIfInBounds_toArray, List.set_cons_zero, List.set_cons_succ]
            refine take_at (i := 7) 77 (v := ?_) rfl rfl (by kernel_rfl) (by kernel_rfl) (by kernel_rfl) (fun _ _ _ h => h) (by rfl) ?_ hHeld ?_
            rotate_left
            · (intro w hSw; (try dsimp only at hSw); go_simp; try with_reducible rfl)
            simp only [Act.put, List.setIfInBounds_toArray, List.set_cons_zero, List.set_cons_succ]
            refine run_at (i := 8) rfl (by kernel_rfl) (by rfl) (fun K hK => ?_)
            simp only [List.getElem_toArray, List.getElem_cons_zero, List.getElem_cons_succ]
            go_simp
            (go_at_call 24; refine Calls.mono HRN.out ?_; rintro e w6 ⟨z1, rfl, hf1⟩; have hS1 : FourE W gl P w6 := ⟨_, _, hf1⟩; have HF4 : Hid _ := hf1; clear hf1)
            go_wp2_with fail
            refine hK.out _ _ (by first | exact hE1 | assumption) ?_
            clear hK K
            intro hHeld2
            clear hHeld
            have hHeld := hHeld2
            clear hHeld2
            try simp only [Act.put, List.setIfInBounds_toArray, List.set_cons_zero, List.set_cons_succ]
            refine wpAnyH_done (by kernel_rfl) ?_ _
            refine NoPanic.normal ?_
            clear HRN
            go_wp2
            go_roundw
            case rel => exact ⟨k + 1, .inl (by omega), by rw [HM.out], Four.more HF4.out (by omega)⟩
            case measure => have := HM.out; simp [intOf]; omega
          · have q2i : ¬ (k : Int) < (L2 : Int) := by omega
            have hE0 : FourE W gl P wr.drew := ⟨_, _, Four.below HF2.out (Below.refl _ _).drew⟩
            obtain ⟨bb1, oo1, rfl⟩ := RdSt.addr HR1.out (by have := HL1.out; omega)
            have hsl1 := fun u => sub_steps bb1 oo1 L1 cap1 k M HM.out (by have := HM.out; have := HB1.out; omega) u
            have HRN : Hid _ := Four.run1 (ds' := st4 (foldD d (xs1.take (k + 1))) (foldD d (xs2.take k)) d d) (Four.below HF2.out (Below.refl _ _).drew) (by have := HB1.out; have := HB2.out; omega) 0 (by decide) bb1 oo1 xs1 HR1.out k (by have := HL1.out; omega) (cap1 - k) (by have h9 := foldD_step d xs1 k (by have := HL1.out; omega); intro j hj; rw [h9]; exact st4_0 _ _ _ _ _ j hj)
            go_wp2_with fail
            refine wp_region_noPanic ?_
            refine wp_region_held_drew (S := (fun u => FourE W gl P u)) (by kernel_rfl) (by first | exact hE0 | assumption) (fun hHeld => ?_)
            refine take_at (i := 0) 57 (v := ?_) rfl rfl (by kernel_rfl) (by kernel_rfl) (by kernel_rfl) (fun _ _ _ h => h) (by rfl) ?_ hHeld ?_
            rotate_left
            · (intro w hSw; (try dsimp only at hSw); go_simp; try with_reducible rfl)
            simp only [Act.put, List.setIfInBounds_toArray, List.set_cons_zero, List.set_cons_succ]
            refine take_at (i := 1) 58 (v := ?_) rfl rfl (by kernel_rfl) (by kernel_rfl) (by kernel_rfl) (fun _ _ _ h => h) (by rfl) ?_ hHeld ?_
            rotate_left
            · (intro w hSw; (try dsimp only at hSw); go_simp; try with_reducible rfl)
            simp only [Act.put, List.setIfInBounds_toArray, List.set_cons_zero, List.set_cons_succ]
            refine take_at (i := 2) 59 (v := ?_) rfl rfl (by kernel_rfl) (by kernel_rfl) (by kernel_rfl) (fun _ _ _ h => h) (by rfl) ?_ hHeld ?_
            rotate_left
            · (intro w hSw; (try dsimp only at hSw); go_simp; try with_reducible rfl)
            simp only [Act.put, List.setIfInBounds_toArray, List.set_cons_zero, List.set_cons_succ]
            refine take_at (i := 3) 60 (v := ?_) rfl rfl (by kernel_rfl) (by kernel_rfl) (by kernel_rfl) (fun _ _ _ h => h) (by rfl) ?_ hHeld ?_
            rotate_left
            · (intro w hSw; (try dsimp only at hSw); go_simp; try with_reducible rfl)
            simp only [Act.put, List.setIfInBounds_toArray, List.set_cons_zero, List.set_cons_succ]
            refine take_at (i := 4) 61 (v := ?_) rfl rfl (by kernel_rfl) (by kernel_rfl) (by kernel_rfl) (fun _ _ _ h => h) (by rfl) ?_ hHeld ?_
            rotate_left
            · (intro w hSw; (try dsimp only at hSw); go_simp; try with_reducible rfl)
            simp only [Act.put, List.setIfInBounds_toArray, List.set_cons_zero, List.set_cons_succ]
            refine take_at (i := 5) 62 (v := ?_) rfl rfl (by kernel_rfl) (by kernel_rfl) (by kernel_rfl) (fun _ _ _ h => h) (by rfl) ?_ hHeld ?_
            rotate_left
            · (intro w hSw; (try dsimp only at hSw); go_simp; try with_reducible rfl)
            simp only [Act.put, List.setIfInBounds_toArray, List.set_cons_zero, List.set_cons_succ]
            refine take_at (i := 6) 63 (v := ?_) rfl rfl (by kernel_rfl) (by kernel_rfl) (by kernel_rfl) (fun _ _ _ h => h) (by rfl) ?_ hHeld ?_
            rotate_left
            · (intro w hSw; (try dsimp only at hSw); go_simp; try with_reducible rfl)
            simp only [Act.put, List.setIfInBounds_toArray, List.set_cons_zero, List.set_cons_succ]
            refine take_at (i := 7) 64 (v := ?_) rfl rfl (by kernel_rfl) (by kernel_rfl) (by kernel_rfl) (fun _ _ _ h => h) (by rfl) ?_ hHeld ?_
            rotate_left
            · (intro w hSw; (try dsimp only at hSw); go_simp; try with_reducible rfl)
            simp only [Act.put, List.setIfInBounds_toArray, List.set_cons_zero, List.set_cons_succ]
            refine run_at (i := 8) rfl (by kernel_rfl) (by rfl) (fun K hK => ?_)
            simp only [List.getElem_toArray, List.getElem_cons_zero, List.getElem_cons_succ]
            go_simp
            (go_at_call 24; refine Calls.mono HRN.out ?_; rintro e w5 ⟨z0, rfl, hf0⟩; have hS0 : FourE W gl P w5 := ⟨_, _, hf0⟩; have HF3 : Hid _ := hf0; clear hf0)
            go_wp2_with fail
            refine hK.out _ _ (by first | exact hE0 | assumption) ?_
            clear hK K
            intro hHeld2
            clear hHeld
            have hHeld := hHeld2
            clear hHeld2
            try simp only [Act.put, List.setIfInBounds_toArray, List.set_cons_zero, List.set_cons_succ]
            refine wpAnyH_done (by kernel_rfl) ?_ _
            refine NoPanic.normal ?_
            clear HRN
            go_wp2
            go_roundw
            case rel => exact ⟨k + 1, .inl (by omega), by rw [HM.out], by rw [takeD d xs2 (k + 1) (by have := HL2.out; omega), ← takeD d xs2 k (by have := HL2.out; omega)]; exact Four.more HF3.out (by omega)⟩
            case measure => have := HM.out; simp [intOf]; omega
        · have q1i : ¬ (k : Int) < (L1 : Int) := by omega
          by_cases q2 : k < L2
          · have q2i : (k : Int) < (L2 : Int) := by omega
            have hE1 : FourE W gl P wr.drew := ⟨_, _, Four.below HF2.out (Below.refl _ _).drew⟩
            obtain ⟨bb2, oo2, rfl⟩ := RdSt.addr HR2.out (by have := HL2.out; omega)
            have hsl2 := fun u => sub_steps bb2 oo2 L2 cap2 k M HM.out (by have := HM.out; have := HB2.out; omega) u
            have HRN : Hid _ := Four.run1 (ds' := st4 (foldD d (xs1.take k)) (foldD d (xs2.take (k + 1))) d d) (Four.below HF2.out (Below.refl _ _).drew) (by have := HB1.out; have := HB2.out; omega) 1 (by decide) bb2 oo2 xs2 HR2.out k (by have := HL2.out; omega) (cap2 - k) (by have h9 := foldD_step d xs2 k (by have := HL2.out; omega); intro j hj; rw [h9]; exact st4_1 _ _ _ _ _ j hj)
            go_wp2_with fail
            refine wp_region_noPanic ?_
            refine wp_region_held_drew (S := (fun u => FourE W gl P u)) (by kernel_rfl) (by first | exact hE1 | assumption) (fun hHeld => ?_)
            refine take_at (i := 0) 70 (v := ?_) rfl rfl (by kernel_rfl) (by kernel_rfl) (by kernel_rfl) (fun _ _ _ h => h) (by rfl) ?_ hHeld ?_
            rotate_left
            · (intro w hSw; (try dsimp only at hSw); go_simp; try with_reducible rfl)
            simp only [Act.put, List.setIfInBounds_toArray, List.set_cons_zero, List.set_cons_succ]
            refine take_at (i := 1) 71 (v := ?_) rfl rfl (by kernel_rfl) (by kernel_rfl) (by kernel_rfl) (fun _ _ _ h => h) (by rfl) ?_ hHeld ?_
            rotate_left
            · (intro w hSw; (try dsimp only at hSw); go_simp; try with_reducible rfl)
            simp only [Act.put, List.setIfInBounds_toArray, List.set_cons_zero, List.set_cons_succ]
            refine take_at (i := 2) 72 (v := ?_) rfl rfl (by kernel_rfl) (by kernel_rfl) (by kernel_rfl) (fun _ _ _ h => h) (by rfl) ?_ hHeld ?_
            rotate_left
            · (intro w hSw; (try dsimp only at hSw); go_simp; try with_reducible rfl)
            simp only [Act.put, List.setIfInBounds_toArray, List.set_cons_zero, List.set_cons_succ]
            refine take_at (i := 3) 73 (v := ?_) rfl rfl (by kernel_rfl) (by kernel_rfl) (by kernel_rfl) (fun _ _ _ h => h) (by rfl) ?_ hHeld ?_
            rotate_left
            · (intro w hSw; (try dsimp only at hSw); go_simp; try with_reducible rfl)
            simp only [Act.put, List.setIfInBounds_toArray, List.set_cons_zero, List.set_cons_succ]
            refine take_at (i := 4) 74 (v := ?_) rfl rfl (by kernel_rfl) (by kernel_rfl) (by kernel_rfl) (fun _ _ _ h => h) (by rfl) ?_ hHeld ?_
            rotate_left
            · (intro w hSw; (try dsimp only at hSw); go_simp; try with_reducible rfl)
            simp only [Act.put, List.setIfInBounds_toArray, List.set_cons_zero, List.set_cons_succ]
            refine take_at (i := 5) 75 (v := ?_) rfl rfl (by kernel_rfl) (by kernel_rfl) (by kernel_rfl) (fun _ _ _ h => h) (by rfl) ?_ hHeld ?_
            rotate_left
            · (intro w hSw; (try dsimp only at hSw); go_simp; try with_reducible rfl)
            simp only [Act.put, List.setIfInBounds_toArray, List.set_cons_zero, List.set_cons_succ]
            refine take_at (i := 6) 76 (v := ?_) rfl rfl (by kernel_rfl) (by kernel_rfl) (by kernel_rfl) (fun _ _ _ h => h) (by rfl) ?_ hHeld ?_
            rotate_left
            · (intro w hSw; (try dsimp only at hSw); go_simp; try with_reducible rfl)
            simp only [Act.put, List.setIfInBounds_toArray, List.set_cons_zero, List.set_cons_succ]
            refine take_at (i := 7) 77 (v := ?_) rfl rfl (by kernel_rfl) (by kernel_rfl) (by kernel_rfl) (fun _ _ _ h => h) (by rfl) ?_ hHeld ?_
            rotate_left
            · (intro w hSw; (try dsimp only at hSw); go_simp; try with_reducible rfl)
            simp only [Act.put, List.setIfInBounds_toArray, List.set_cons_zero, List.set_cons_succ]
            refine run_at (i := 8) rfl (by kernel_rfl) (by rfl) (fun K hK => ?_)
            simp only [List.getElem_toArray, List.getElem_cons_zero, List.getElem_cons_succ]
            go_simp
            (go_at_call 24; refine Calls.mono HRN.out ?_; rintro e w5 ⟨z1, rfl, hf1⟩; have hS1 : FourE W gl P w5 := ⟨_, _, hf1⟩; have HF3 : Hid _ := hf1; clear hf1)
            go_wp2_with fail
            refine hK.out _ _ (by first | exact hE1 | assumption) ?_
            clear hK K
            intro hHeld2
            clear hHeld
            have hHeld := hHeld2
            clear hHeld2
            try simp only [Act.put, List.setIfInBounds_toArray, List.set_cons_zero, List.set_cons_succ]
            refine wpAnyH_done (by kernel_rfl) ?_ _
            refine NoPanic.normal ?_
            clear HRN
            go_wp2
            go_roundw
            case rel => exact ⟨k + 1, .inr (by omega), by rw [HM.out], by rw [takeD d xs1 (k + 1) (by have := HL1.out; omega), ← takeD d xs1 k (by have := HL1.out; omega)]; exact Four.more HF3.out (by omega)⟩
            case measure => have := HM.out; simp [intOf]; omega
          · have q2i : ¬ (k : Int) < (L2 : Int) := by omega
            have HF : Hid (Four W gl P (st4 (foldD d xs1) (foldD d xs2) d d) 4194304 wr) := by
              have h9 := HF2.out
              rw [takeD d xs1 k (by have := HL1.out; omega), takeD d xs2 k (by have := HL2.out; omega)] at h9
              exact Four.more h9 (by have := HB1.out; have := HB2.out; omega)
            obtain ⟨A, hA⟩ : ∃ A : Dst, A = foldD d xs1 := ⟨_, rfl⟩
            obtain ⟨B, hB⟩ : ∃ B : Dst, B = foldD d xs2 := ⟨_, rfl⟩
            rw [← hA, ← hB] at HF
            have HAe : Hid _ := hA
            have HBe : Hid _ := hB
            clear hA hB HF2 HM hkw hk0 hk
            go_wp2_with fail
            go_loopw [13] (fun i wq => ∃ k : Nat, k ≤ L1 ∧ i = .int .i64 (k : Int) ∧ Four W gl P (st4 A B (foldD d (xs1.take k)) d) (4194304 + k) wq) (fun i _ => L1 - (intOf i).toNat)
            case atStart => exact ⟨0, Nat.zero_le _, rfl, HF.out⟩
            case round =>
              obtain ⟨k, hk, rfl, hf⟩ := hrel
              have HF2 : Hid _ := hf
              clear hf HF
              obtain ⟨M, hM⟩ : ∃ M : Nat, M = k + 1 := ⟨_, rfl⟩
              have hkw : IntKind.i64.wrap ((k : Int) + 1) = (M : Int) := by rw [IntKind.wrap_i64]; have := HB1.out; have := HB2.out; omega
              have HM : Hid _ := hM
              clear hM
              have hk0 : (0 : Int) ≤ (k : Int) := by omega
              by_cases qq : k < L1
              · have qqi : (k : Int) < (L1 : Int) := by omega
                have hE2 : FourE W gl P wr.drew := ⟨_, _, Four.below HF2.out (Below.refl _ _).drew⟩
                obtain ⟨bb1, oo1, rfl⟩ := RdSt.addr HR1.out (by have := HL1.out; omega)
                have hsl1 := fun u => sub_steps bb1 oo1 L1 cap1 k M HM.out (by have := HM.out; have := HB1.out; omega) u
                have HRN : Hid _ := Four.run1 (ds' := st4 A B (foldD d (xs1.take (k + 1))) d) (Four.below HF2.out (Below.refl _ _).drew) (by have := HB1.out; have := HB2.out; omega) 2 (by decide) bb1 oo1 xs1 HR1.out k (by have := HL1.out; omega) (cap1 - k) (by have h9 := foldD_step d xs1 k (by have := HL1.out; omega); intro j hj; rw [h9]; exact st4_2 _ _ _ _ _ j hj)
                go_wp2_with fail
                refine wp_region_noPanic ?_
                refine wp_region_held_drew (S := (fun u => FourE W gl P u)) (by kernel_rfl) (by first | exact hE2 | assumption) (fun hHeld => ?_)
                refine take_at (i := 0) 85 (v := ?_) rfl rfl (by kernel_rfl) (by kernel_rfl) (by kernel_rfl) (fun _ _ _ h => h) (by rfl) ?_ hHeld ?_
                rotate_left
                · (intro w hSw; (try dsimp only at hSw); go_simp; try with_reducible rfl)
                simp only [Act.put, List.setIfInBounds_toArray, List.set_cons_zero, List.set_cons_succ]
                refine take_at (i := 1) 86 (v := ?_) rfl rfl (by kernel_rfl) (by kernel_rfl) (by kernel_rfl) (fun _ _ _ h => h) (by rfl) ?_ hHeld ?_
                rotate_left
                · (intro w hSw; (try dsimp only at hSw); go_simp; try with_reducible rfl)
                simp only [Act.put, List.setIfInBounds_toArray, List.set_cons_zero, List.set_cons_succ]
                refine take_at (i := 2) 87 (v := ?_) rfl rfl (by kernel_rfl) (by kernel_rfl) (by kernel_rfl) (fun _ _ _ h => h) (by rfl) ?_ hHeld ?_
                rotate_left
                · (intro w hSw; (try dsimp only at hSw); go_simp; try with_reducible rfl)
                simp only [Act.put, List.setIfInBounds_toArray, List.set_cons_zero, List.set_cons_succ]
                refine take_at (i := 3) 88 (v := ?_) rfl rfl (by kernel_rfl) (by kernel_rfl) (by kernel_rfl) (fun _ _ _ h => h) (by rfl) ?_ hHeld ?_
                rotate_left
                · (intro w hSw; (try dsimp only at hSw); go_simp; try with_reducible rfl)
                simp only [Act.put, List.setIfInBounds_toArray, List.set_cons_zero, List.set_cons_succ]
                refine take_at (i := 4) 89 (v := ?_) rfl rfl (by kernel_rfl) (by kernel_rfl) (by kernel_rfl) (fun _ _ _ h => h) (by rfl) ?_ hHeld ?_
                rotate_left
                · (intro w hSw; (try dsimp only at hSw); go_simp; try with_reducible rfl)
                simp only [Act.put, List.setIfInBounds_toArray, List.set_cons_zero, List.set_cons_succ]
                refine take_at (i := 5) 90 (v := ?_) rfl rfl (by kernel_rfl) (by kernel_rfl) (by kernel_rfl) (fun _ _ _ h => h) (by rfl) ?_ hHeld ?_
                rotate_left
                · (intro w hSw; (try dsimp only at hSw); go_simp; try with_reducible rfl)
                simp only [Act.put, List.setIfInBounds_toArray, List.set_cons_zero, List.set_cons_succ]
                refine take_at (i := 6) 91 (v := ?_) rfl rfl (by kernel_rfl) (by kernel_rfl) (by kernel_rfl) (fun _ _ _ h => h) (by rfl) ?_ hHeld ?_
                rotate_left
                · (intro w hSw; (try dsimp only at hSw); go_simp; try with_reducible rfl)
                simp only [Act.put, List.setIfInBounds_toArray, List.set_cons_zero, List.set_cons_succ]
                refine take_at (i := 7) 92 (v := ?_) rfl rfl (by kernel_rfl) (by kernel_rfl) (by kernel_rfl) (fun _ _ _ h => h) (by rfl) ?_ hHeld ?_
                rotate_left
                · (intro w hSw; (try dsimp only at hSw); go_simp; try with_reducible rfl)
                simp only [Act.put, List.setIfInBounds_toArray, List.set_cons_zero, List.set_cons_succ]
                refine run_at (i := 8) rfl (by kernel_rfl) (by rfl) (fun K hK => ?_)
                simp only [List.getElem_toArray, List.getElem_cons_zero, List.getElem_cons_succ]
                go_simp
                (go_at_call 24; refine Calls.mono HRN.out ?_; rintro e w5 ⟨z2, rfl, hf2⟩; have hS2 : FourE W gl P w5 := ⟨_, _, hf2⟩; have HF3 : Hid _ := hf2; clear hf2)
                go_wp2_with fail
                refine hK.out _ _ (by first | exact hE2 | assumption) ?_
                clear hK K
                intro hHeld2
                clear hHeld
                have hHeld := hHeld2
                clear hHeld2
                try simp only [Act.put, List.setIfInBounds_toArray, List.set_cons_zero, List.set_cons_succ]
                refine wpAnyH_done (by kernel_rfl) ?_ _
                refine NoPanic.normal ?_
                clear HRN
                go_wp2
                go_roundw
                case rel => exact ⟨k + 1, by omega, by rw [HM.out], HF3.out⟩
                case measure => have := HM.out; simp [intOf]; omega
              · have qqi : ¬ (k : Int) < (L1 : Int) := by omega
                have HF : Hid (Four W gl P (st4 A B A d) 8388608 wr) := by
                  have h9 := HF2.out
                  rw [takeD d xs1 k (by have := HL1.out; omega), ← HAe.out] at h9
                  exact Four.more h9 (by have := HB1.out; omega)
                clear HF2 HM hkw hk0 hk
                go_wp2_with fail
                go_loopw [14] (fun i wq => ∃ k : Nat, k ≤ L2 ∧ i = .int .i64 (k : Int) ∧ Four W gl P (st4 A B A (foldD d (xs2.take k))) (8388608 + k) wq) (fun i _ => L2 - (intOf i).toNat)
                case atStart => exact ⟨0, Nat.zero_le _, rfl, HF.out⟩
                case round =>
                  obtain ⟨k, hk, rfl, hf⟩ := hrel
                  have HF2 : Hid _ := hf
                  clear hf HF
                  obtain ⟨M, hM⟩ : ∃ M : Nat, M = k + 1 := ⟨_, rfl⟩
                  have hkw : IntKind.i64.wrap ((k : Int) + 1) = (M : Int) := by rw [IntKind.wrap_i64]; have := HB1.out; have := HB2.out; omega
                  have HM : Hid _ := hM
                  clear hM
                  have hk0 : (0 : Int) ≤ (k : Int) := by omega
                  by_cases qq : k < L2
                  · have qqi : (k : Int) < (L2 : Int) := by omega
                    have hE3 : FourE W gl P wr.drew := ⟨_, _, Four.below HF2.out (Below.refl _ _).drew⟩
                    obtain ⟨bb2, oo2, rfl⟩ := RdSt.addr HR2.out (by have := HL2.out; omega)
                    have hsl2 := fun u => sub_steps bb2 oo2 L2 cap2 k M HM.out (by have := HM.out; have := HB2.out; omega) u
                    have HRN : Hid _ := Four.run1 (ds' := st4 A B A (foldD d (xs2.take (k + 1)))) (Four.below HF2.out (Below.refl _ _).drew) (by have := HB1.out; have := HB2.out; omega) 3 (by decide) bb2 oo2 xs2 HR2.out k (by have := HL2.out; omega) (cap2 - k) (by have h9 := foldD_step d xs2 k (by have := HL2.out; omega); intro j hj; rw [h9]; exact st4_3 _ _ _ _ _ j hj)
                    go_wp2_with fail
                    refine wp_region_noPanic ?_
                    refine wp_region_held_drew (S := (fun u => FourE W gl P u)) (by kernel_rfl) (by first | exact hE3 | assumption) (fun hHeld => ?_)
                    refine take_at (i := 0) 100 (v := ?_) rfl rfl (by kernel_rfl) (by kernel_rfl) (by kernel_rfl) (fun _ _ _ h => h) (by rfl) ?_ hHeld ?_
                    rotate_left
                    · (intro w hSw; (try dsimp only at hSw); go_simp; try with_reducible rfl)
                    simp only [Act.put, List.setIfInBounds_toArray, List.set_cons_zero, List.set_cons_succ]
                    refine take_at (i := 1) 101 (v := ?_) rfl rfl (by kernel_rfl) (by kernel_rfl) (by kernel_rfl) (fun _ _ _ h => h) (by rfl) ?_ hHeld ?_
                    rotate_left
                    · (intro w hSw; (try dsimp only at hSw); go_simp; try with_reducible rfl)
                    simp only [Act.put, List.setIfInBounds_toArray, List.set_cons_zero, List.set_cons_succ]
                    refine take_at (i := 2) 102 (v := ?_) rfl rfl (by kernel_rfl) (by kernel_rfl) (by kernel_rfl) (fun _ _ _ h => h) (by rfl) ?_ hHeld ?_
                    rotate_left
                    · (intro w hSw; (try dsimp only at hSw); go_simp; try with_reducible rfl)
                    simp only [Act.put, List.setIfInBounds_toArray, List.set_cons_zero, List.set_cons_succ]
                    refine take_at (i := 3) 103 (v := ?_) rfl rfl (by kernel_rfl) (by kernel_rfl) (by kernel_rfl) (fun _ _ _ h => h) (by rfl) ?_ hHeld ?_
                    rotate_left
                    · (intro w hSw; (try dsimp only at hSw); go_simp; try with_reducible rfl)
                    simp only [Act.put, List.setIfInBounds_toArray, List.set_cons_zero, List.set_cons_succ]
                    refine take_at (i := 4) 104 (v := ?_) rfl rfl (by kernel_rfl) (by kernel_rfl) (by kernel_rfl) (fun _ _ _ h => h) (by rfl) ?_ hHeld ?_
                    rotate_left
                    · (intro w hSw; (try dsimp only at hSw); go_simp; try with_reducible rfl)
                    simp only [Act.put, List.setIfInBounds_toArray, List.set_cons_zero, List.set_cons_succ]
                    refine take_at (i := 5) 105 (v := ?_) rfl rfl (by kernel_rfl) (by kernel_rfl) (by kernel_rfl) (fun _ _ _ h => h) (by rfl) ?_ hHeld ?_
                    rotate_left
                    · (intro w hSw; (try dsimp only at hSw); go_simp; try with_reducible rfl)
                    simp only [Act.put, List.setIfInBounds_toArray, List.set_cons_zero, List.set_cons_succ]
                    refine take_at (i := 6) 106 (v := ?_) rfl rfl (by kernel_rfl) (by kernel_rfl) (by kernel_rfl) (fun _ _ _ h => h) (by rfl) ?_ hHeld ?_
                    rotate_left
                    · (intro w hSw; (try dsimp only at hSw); go_simp; try with_reducible rfl)
                    simp only [Act.put, List.setIfInBounds_toArray, List.set_cons_zero, List.set_cons_succ]
                    refine take_at (i := 7) 107 (v := ?_) rfl rfl (by kernel_rfl) (by kernel_rfl) (by kernel_rfl) (fun _ _ _ h => h) (by rfl) ?_ hHeld ?_
                    rotate_left
                    · (intro w hSw; (try dsimp only at hSw); go_simp; try with_reducible rfl)
                    simp only [Act.put, List.setIfInBounds_toArray, List.set_cons_zero, List.set_cons_succ]
                    refine run_at (i := 8) rfl (by kernel_rfl) (by rfl) (fun K hK => ?_)
                    simp only [List.getElem_toArray, List.getElem_cons_zero, List.getElem_cons_succ]
                    go_simp
                    (go_at_call 24; refine Calls.mono HRN.out ?_; rintro e w5 ⟨z3, rfl, hf3⟩; have hS3 : FourE W gl P w5 := ⟨_, _, hf3⟩; have HF3 : Hid _ := hf3; clear hf3)
                    go_wp2_with fail
                    refine hK.out _ _ (by first | exact hE3 | assumption) ?_
                    clear hK K
                    intro hHeld2
                    clear hHeld
                    have hHeld := hHeld2
                    clear hHeld2
                    try simp only [Act.put, List.setIfInBounds_toArray, List.set_cons_zero, List.set_cons_succ]
                    refine wpAnyH_done (by kernel_rfl) ?_ _
                    refine NoPanic.normal ?_
                    clear HRN
                    go_wp2
                    go_roundw
                    case rel => exact ⟨k + 1, by omega, by rw [HM.out], HF3.out⟩
                    case measure => have := HM.out; simp [intOf]; omega
                  · have qqi : ¬ (k : Int) < (L2 : Int) := by omega
                    have HF : Hid (Four W gl P (st4 A B A B) 16777216 wr) := by
                      have h9 := HF2.out
                      rw [takeD d xs2 k (by have := HL2.out; omega), ← HBe.out] at h9
                      exact Four.more h9 (by have := HB2.out; omega)
                    clear HF2 HM hkw hk0 hk HAe HBe
                    obtain ⟨ds, hds⟩ : ∃ ds : Nat → Dst, ds = st4 A B A B := ⟨_, rfl⟩
                    have HTW : Hid (∀ k, k < 2 → ds (k + 2) = ds k) := by
                      intro k hk
                      rw [hds]
                      match k, hk with
                      | 0, _ => rfl
                      | 1, _ => rfl
                    rw [← hds] at HF
                    clear hds
                    go_wp2_with fail
                    go_loopw [15, 16, 17, 18, 19] (fun i _ _ _ _ wq => ∃ k : Nat, k ≤ 2 ∧ i = .int .i64 (k : Int) ∧ Four W gl P ds 16777216 wq) (fun i _ _ _ _ _ => 2 - (intOf i).toNat)
                    case atStart => exact ⟨0, Nat.zero_le _, rfl, HF.out⟩
                    case round =>
                      obtain ⟨k, hk, rfl, hf⟩ := hrel
                      have HF2 : Hid _ := hf
                      clear hf HF
                      have hk0 : (0 : Int) ≤ (k : Int) := by omega
                      by_cases qq : k < 2
                      · have qqi : (k : Int) < 2 := by omega
                        have qqj : (k : Int) < 4 := by omega
                        obtain ⟨J2, hK⟩ : ∃ J2 : Nat, J2 = k + 2 := ⟨_, rfl⟩
                        have hkw : IntKind.i64.wrap ((k : Int) + 2) = (J2 : Int) := by rw [IntKind.wrap_i64]; omega
                        have hK0 : (0 : Int) ≤ (J2 : Int) := by omega
                        have hK4 : (J2 : Int) < 4 := by omega
                        have hKN : J2 < 4 := by omega
                        have hkN : k < 4 := by omega
                        have hkk : IntKind.i64.wrap ((k : Int) + 1) = ((k + 1 : Nat) : Int) := by rw [IntKind.wrap_i64]; omega
                        have hdK : ds J2 = ds k := by rw [hK]; exact HTW.out k qq
                        obtain ⟨dd, hdd⟩ : ∃ dd : Dst, dd = ds k := ⟨_, rfl⟩
                        rw [← hdd] at hdK
                        have HK : Hid _ := hK
                        have HdK : Hid _ := hdK
                        have Hdk : Hid _ := hdd
                        clear hK hdK hdd
                        have hcw := HF2.out.at0 k hkN
                        have HDI : Hid (∀ u i, i = k ∨ i = J2 → Four W gl P ds 16777216 u → Calls Try.prog 20 #[.pointer (some ⟨P i, 0, none⟩)] u fun e w' => ∃ v x, e = .returned (.tuple #[v, x]) ∧ OwnI w' u.heap.size v (dirtyL dd.S.length dd.C) ∧ OwnI w' u.heap.size x (dirtyC dd.S.length dd.C) ∧ (x.ownBlock = none ∨ v.ownBlock ≠ x.ownBlock) ∧ Below u.heap.size u w') := by
                          intro u i hi h9
                          obtain ⟨cur, h10⟩ := h9.ap
                          have h11 := h10.dirty i (by omega)
                          rcases hi with rfl | rfl
                          · rw [← Hdk.out] at h11; exact h11
                          · rw [HdK.out] at h11; exact h11
                        go_wp2_with fail
                        refine (HDI.out wr k (.inl rfl) HF2.out).mono ?_
                        rintro e w6 ⟨x1, y1, rfl, hox1, hoy1, -, hb6⟩
                        have HF6 : Hid _ := Four.below HF2.out hb6
                        have HOX1 : Hid _ := hox1
                        have HOY1 : Hid _ := hoy1
                        have hcw6 := HF6.out.at0 J2 hKN
                        clear hox1 hoy1 hb6 hcw HF2
                        go_wp2_with fail
                        refine (HDI.out w6 J2 (.inr rfl) HF6.out).mono ?_
                        rintro e w7 ⟨x2, y2, rfl, hox2, hoy2, -, hb7⟩
                        have HF7 : Hid _ := Four.below HF6.out hb7
                        obtain ⟨ax1, cx1, rfl, hx1⟩ := OwnI.ints (OwnI.below HOX1.out hb7)
                        obtain ⟨ay1, cy1, rfl, hy1⟩ := OwnI.ints (OwnI.below HOY1.out hb7)
                        obtain ⟨ax2, cx2, rfl, hx2⟩ := OwnI.ints hox2
                        obtain ⟨ay2, cy2, rfl, hy2⟩ := OwnI.ints hoy2
                        have hfit := HF7.out
                        have HFIT : Hid (∀ s ∈ dd.S, s.fit) := by obtain ⟨cur, h10⟩ := hfit.ap; rw [Hdk.out]; exact (h10.fit k hkN).1
                        have HFL : Hid (dd.S.length ≤ 65536) := by obtain ⟨cur, h10⟩ := hfit.ap; rw [Hdk.out]; exact (h10.fit k hkN).2.2
                        have HDL : Hid ((dirtyL dd.S.length dd.C).length ≤ 65536 ∧ (dirtyC dd.S.length dd.C).length ≤ 65536) := dirty_lens dd.S.length dd.C HFL.out
                        obtain ⟨XL, hXL⟩ : ∃ X, X = dirtyL dd.S.length dd.C := ⟨_, rfl⟩
                        obtain ⟨XC, hXC⟩ : ∃ X, X = dirtyC dd.S.length dd.C := ⟨_, rfl⟩
                        rw [← hXL] at hx1 hx2 HDL
                        rw [← hXC] at hy1 hy2 HDL
                        rw [← hXL, ← hXC]
                        have HX1 : Hid (∀ u, Below w7.heap.size w7 u → Calls Try.prog 25 #[.slice ax1 XL.length cx1, .slice ax2 XL.length cx2] u fun e w' => e = .returned (.bool true) ∧ Below u.heap.size u w') := by
                          intro u hu
                          have h9 := ints_t ax1 ax2 cx1 cx2 XL XL u (Ints.below hx1 hu) (Ints.below hx2 hu) (by have := HDL.out; omega) (by have := HDL.out; omega)
                          rw [beq_self_eq_true] at h9
                          exact h9
                        have HY1 : Hid (∀ u, Below w7.heap.size w7 u → Calls Try.prog 25 #[.slice ay1 XC.length cy1, .slice ay2 XC.length cy2] u fun e w' => e = .returned (.bool true) ∧ Below u.heap.size u w') := by
                          intro u hu
                          have h9 := ints_t ay1 ay2 cy1 cy2 XC XC u (Ints.below hy1 hu) (Ints.below hy2 hu) (by have := HDL.out; omega) (by have := HDL.out; omega)
                          rw [beq_self_eq_true] at h9
                          exact h9
                        obtain ⟨IM, hIM⟩ : ∃ X, X = img dd.S := ⟨_, rfl⟩
                        obtain ⟨M, hM⟩ : ∃ M : Nat, M = IM.length := ⟨_, rfl⟩
                        have hML : M ≤ 8454144 := by rw [hM, hIM, img_len (fit_ok HFIT.out)]; have := HFL.out; omega
                        have HI1 : Hid (∀ u, Below w7.heap.size w7 u → Calls Try.prog 13 #[.pointer (some ⟨P k, 0, none⟩)] u fun e w' => ∃ g1, e = .returned (.slice (some ⟨g1, 0, none⟩) M M) ∧ w'.heap[g1]? = some (.cells (bv IM).toArray 5 (0, 0)) ∧ Below u.heap.size u w') := by
                          intro u hu
                          obtain ⟨cur, h10⟩ := (Four.below HF7.out hu).ap
                          have h11 := h10.image k hkN
                          rw [← Hdk.out, ← hIM, ← hM] at h11
                          exact h11.mono fun e w' h => ⟨_, h⟩
                        have HI2 : Hid (∀ u, Below w7.heap.size w7 u → Calls Try.prog 13 #[.pointer (some ⟨P J2, 0, none⟩)] u fun e w' => ∃ g1, e = .returned (.slice (some ⟨g1, 0, none⟩) M M) ∧ w'.heap[g1]? = some (.cells (bv IM).toArray 5 (0, 0)) ∧ Below u.heap.size u w') := by
                          intro u hu
                          obtain ⟨cur, h10⟩ := (Four.below HF7.out hu).ap
                          have h11 := h10.image J2 hKN
                          rw [HdK.out, ← hIM, ← hM] at h11
                          exact h11.mono fun e w' h => ⟨_, h⟩
                        have HBT : Hid (∀ u g1 g2, u.heap[g1]? = some (.cells (bv IM).toArray 5 (0, 0)) → u.heap[g2]? = some (.cells (bv IM).toArray 5 (0, 0)) → Calls Try.prog 12 #[.slice (some ⟨g1, 0, none⟩) M M, .slice (some ⟨g2, 0, none⟩) M M] u fun e w' => e = .returned (.bool true) ∧ Below u.heap.size u w') := by
                          intro u g1 g2 h1 h2
                          have h9 := byt_n (some ⟨g1, 0, none⟩) (some ⟨g2, 0, none⟩) M M M M IM IM u hM hM (rd_row h1) (rd_row h2) (by omega) (by omega)
                          rw [beq_self_eq_true] at h9
                          exact h9
                        have HD1 : Hid (∀ u, Below w7.heap.size w7 u → Calls Try.prog 22 #[.pointer (some ⟨P k, 0, none⟩)] u fun e w' => e = .returned (.bool dd.off) ∧ w' = u) := by
                          intro u hu
                          obtain ⟨cur, h10⟩ := (Four.below HF7.out hu).ap
                          have h11 := h10.down k hkN
                          rw [← Hdk.out] at h11
                          exact h11
                        have HD2 : Hid (∀ u, Below w7.heap.size w7 u → Calls Try.prog 22 #[.pointer (some ⟨P J2, 0, none⟩)] u fun e w' => e = .returned (.bool dd.off) ∧ w' = u) := by
                          intro u hu
                          obtain ⟨cur, h10⟩ := (Four.below HF7.out hu).ap
                          have h11 := h10.down J2 hKN
                          rw [HdK.out] at h11
                          exact h11
                        have hlk : ∀ u, Below w7.heap.size w7 u → u.cell? ⟨gl, k, none⟩ = some (.pointer (some ⟨P k, 0, none⟩)) := fun u hu => (Four.below HF7.out hu).at0 k hkN
                        have hlK : ∀ u, Below w7.heap.size w7 u → u.cell? ⟨gl, J2, none⟩ = some (.pointer (some ⟨P J2, 0, none⟩)) := fun u hu => (Four.below HF7.out hu).at0 J2 hKN
                        obtain ⟨off, hoff⟩ : ∃ b, b = dd.off := ⟨_, rfl⟩
                        rw [← hoff] at HD1 HD2
                        obtain ⟨nL, hnL⟩ : ∃ n, n = XL.length := ⟨_, rfl⟩
                        obtain ⟨nC, hnC⟩ : ∃ n, n = XC.length := ⟨_, rfl⟩
                        rw [← hnL] at HX1
                        rw [← hnC] at HY1
                        rw [← hnL, ← hnC]
                        clear hx1 hx2 hy1 hy2 hox2 hoy2 hb7 hXL hXC hIM hM hML hfit HOX1 HOY1 HDI HF6 hcw6 hc0 hc1 hc2 hc3 hoff hnL hnC HDL HFIT HFL
                        go_wp2_with fail
                        refine wp_region_noPanic ?_
                        refine wp_region_held_drew (S := (fun u => Below w7.heap.size w7 u)) (by kernel_rfl) (by first | exact (Below.refl _ _).drew | assumption) (fun hHeld => ?_)
                        refine take_at (i := 0) 130 (v := ?_) rfl rfl (by kernel_rfl) (by kernel_rfl) (by kernel_rfl) (fun _ _ _ h => h) (by rfl) ?_ hHeld ?_
                        rotate_left
                        · (intro w hSw; (try dsimp only at hSw); go_simp; try with_reducible rfl)
                        simp only [Act.put, List.setIfInBounds_toArray, List.set_cons_zero, List.set_cons_succ]
                        refine take_at (i := 1) 131 (v := ?_) rfl rfl (by kernel_rfl) (by kernel_rfl) (by kernel_rfl) (fun _ _ _ h => h) (by rfl) ?_ hHeld ?_
                        rotate_left
                        · (intro w hSw; (try dsimp only at hSw); go_simp; try with_reducible rfl)
                        simp only [Act.put, List.setIfInBounds_toArray, List.set_cons_zero, List.set_cons_succ]
                        refine take_at (i := 2) 132 (v := ?_) rfl rfl (by kernel_rfl) (by kernel_rfl) (by kernel_rfl) (fun _ _ _ h => h) (by rfl) ?_ hHeld ?_
                        rotate_left
                        · (intro w hSw; (try dsimp only at hSw); go_simp; try with_reducible rfl)
                        simp only [Act.put, List.setIfInBounds_toArray, List.set_cons_zero, List.set_cons_succ]
                        refine take_at (i := 3) 133 (v := ?_) rfl rfl (by kernel_rfl) (by kernel_rfl) (by kernel_rfl) (fun _ _ _ h => h) (by rfl) ?_ hHeld ?_
                        rotate_left
                        · (intro w hSw; (try dsimp only at hSw); go_simp; try with_reducible rfl)
                        simp only [Act.put, List.setIfInBounds_toArray, List.set_cons_zero, List.set_cons_succ]
                        refine take_at (i := 5) 135 (v := ?_) rfl rfl (by kernel_rfl) (by kernel_rfl) (by kernel_rfl) (fun _ _ _ h => h) (by rfl) ?_ hHeld ?_
                        rotate_left
                        · (intro w hSw; (try dsimp only at hSw); go_simp; try with_reducible rfl)
                        simp only [Act.put, List.setIfInBounds_toArray, List.set_cons_zero, List.set_cons_succ]
                        refine take_at (i := 6) 136 (v := ?_) rfl rfl (by kernel_rfl) (by kernel_rfl) (by kernel_rfl) (fun _ _ _ h => h) (by rfl) ?_ hHeld ?_
                        rotate_left
                        · (intro w hSw; (try dsimp only at hSw); go_simp; try with_reducible rfl)
                        simp only [Act.put, List.setIfInBounds_toArray, List.set_cons_zero, List.set_cons_succ]
                        refine take_at (i := 7) 137 (v := ?_) rfl rfl (by kernel_rfl) (by kernel_rfl) (by kernel_rfl) (fun _ _ _ h => h) (by rfl) ?_ hHeld ?_
                        rotate_left
                        · (intro w hSw; (try dsimp only at hSw); go_simp; try with_reducible rfl)
                        simp only [Act.put, List.setIfInBounds_toArray, List.set_cons_zero, List.set_cons_succ]
                        refine take_at (i := 8) 138 (v := ?_) rfl rfl (by kernel_rfl) (by kernel_rfl) (by kernel_rfl) (fun _ _ _ h => h) (by rfl) ?_ hHeld ?_
                        rotate_left
                        · (intro w hSw; (try dsimp only at hSw); go_simp; try with_reducible rfl)
                        simp only [Act.put, List.setIfInBounds_toArray, List.set_cons_zero, List.set_cons_succ]
                        refine take_at (i := 9) 139 (v := ?_) rfl rfl (by kernel_rfl) (by kernel_rfl) (by kernel_rfl) (fun _ _ _ h => h) (by rfl) ?_ hHeld ?_
                        rotate_left
                        · (intro w hSw; (try dsimp only at hSw); go_simp; try with_reducible rfl)
                        simp only [Act.put, List.setIfInBounds_toArray, List.set_cons_zero, List.set_cons_succ]
                        refine run_at (i := 4) rfl (by kernel_rfl) (by rfl) (fun K hK => ?_)
                        simp only [List.getElem_toArray, List.getElem_cons_zero, List.getElem_cons_succ]
                        go_simp
                        first | (go_at_call_of 13 (Value.pointer (some ⟨P k, 0, none⟩)); refine (HI1.out _ (by first | exact (Below.refl _ _).drew | assumption)).mono ?_; rintro e z1 ⟨g1, rfl, hr1, hb1⟩; have hS1 : Below w7.heap.size w7 z1 := below_next (B := w7) (by first | exact (Below.refl _ _).drew | assumption) hb1; clear hb1) | (go_at_call_of 13 (Value.pointer (some ⟨P J2, 0, none⟩)); refine (HI2.out _ (by first | exact (Below.refl _ _).drew | assumption)).mono ?_; rintro e z2 ⟨g2, rfl, hr2, hb2⟩; have hS2 : Below w7.heap.size w7 z2 := below_next (B := w7) (by first | exact (Below.refl _ _).drew | assumption) hb2; have hr12 := (hb2.block g1 (Array.getElem?_eq_some_iff.1 hr1).1).trans hr1; clear hb2) | (go_at_call 12; refine (HBT.out _ g1 g2 hr12 hr2).mono ?_; rintro e z3 ⟨rfl, hb3⟩; have hS3 : Below w7.heap.size w7 z3 := below_next (B := w7) hS2 hb3; clear hb3) | (go_at_call_of 25 (Value.slice ax1 nL cx1); refine (HX1.out _ hS3).mono ?_; rintro e z4 ⟨rfl, hb4⟩; have hS4 : Below w7.heap.size w7 z4 := below_next (B := w7) hS3 hb4; clear hb4) | (go_at_call_of 25 (Value.slice ay1 nC cy1); refine (HY1.out _ hS4).mono ?_; rintro e z5 ⟨rfl, hb5⟩; have hS5 : Below w7.heap.size w7 z5 := below_next (B := w7) hS4 hb5; clear hb5) | (go_at_call_of 22 (Value.pointer (some ⟨P k, 0, none⟩)); refine (HD1.out _ hS5).mono ?_; rintro e z6 ⟨rfl, hz6⟩; have hz6 := hz6.symm; subst hz6) | (go_at_call_of 22 (Value.pointer (some ⟨P J2, 0, none⟩)); refine (HD2.out _ hS5).mono ?_; rintro e z7 ⟨rfl, hz7⟩; have hz7 := hz7.symm; subst hz7)
                        go_wp2_with fail
                        refine hK.out _ _ (by first | exact (Below.refl _ _).drew | assumption) ?_
                        clear hK K
                        intro hHeld2
                        clear hHeld
                        have hHeld := hHeld2
                        clear hHeld2
                        try simp only [Act.put, List.setIfInBounds_toArray, List.set_cons_zero, List.set_cons_succ]
                        refine run_at (i := 10) rfl (by kernel_rfl) (by rfl) (fun K hK => ?_)
                        simp only [List.getElem_toArray, List.getElem_cons_zero, List.getElem_cons_succ]
                        go_simp
                        first | (go_at_call_of 13 (Value.pointer (some ⟨P k, 0, none⟩)); refine (HI1.out _ (by first | exact (Below.refl _ _).drew | assumption)).mono ?_; rintro e z1 ⟨g1, rfl, hr1, hb1⟩; have hS1 : Below w7.heap.size w7 z1 := below_next (B := w7) (by first | exact (Below.refl _ _).drew | assumption) hb1; clear hb1) | (go_at_call_of 13 (Value.pointer (some ⟨P J2, 0, none⟩)); refine (HI2.out _ (by first | exact (Below.refl _ _).drew | assumption)).mono ?_; rintro e z2 ⟨g2, rfl, hr2, hb2⟩; have hS2 : Below w7.heap.size w7 z2 := below_next (B := w7) (by first | exact (Below.refl _ _).drew | assumption) hb2; have hr12 := (hb2.block g1 (Array.getElem?_eq_some_iff.1 hr1).1).trans hr1; clear hb2) | (go_at_call 12; refine (HBT.out _ g1 g2 hr12 hr2).mono ?_; rintro e z3 ⟨rfl, hb3⟩; have hS3 : Below w7.heap.size w7 z3 := below_next (B := w7) hS2 hb3; clear hb3) | (go_at_call_of 25 (Value.slice ax1 nL cx1); refine (HX1.out _ hS3).mono ?_; rintro e z4 ⟨rfl, hb4⟩; have hS4 : Below w7.heap.size w7 z4 := below_next (B := w7) hS3 hb4; clear hb4) | (go_at_call_of 25 (Value.slice ay1 nC cy1); refine (HY1.out _ hS4).mono ?_; rintro e z5 ⟨rfl, hb5⟩; have hS5 : Below w7.heap.size w7 z5 := below_next (B := w7) hS4 hb5; clear hb5) | (go_at_call_of 22 (Value.pointer (some ⟨P k, 0, none⟩)); refine (HD1.out _ hS5).mono ?_; rintro e z6 ⟨rfl, hz6⟩; have hz6 := hz6.symm; subst hz6) | (go_at_call_of 22 (Value.pointer (some ⟨P J2, 0, none⟩)); refine (HD2.out _ hS5).mono ?_; rintro e z7 ⟨rfl, hz7⟩; have hz7 := hz7.symm; subst hz7)
                        go_wp2_with fail
                        refine hK.out _ _ (by first | exact (Below.refl _ _).drew | assumption) ?_
                        clear hK K
                        intro hHeld2
                        clear hHeld
                        have hHeld := hHeld2
                        clear hHeld2
                        try simp only [Act.put, List.setIfInBounds_toArray, List.set_cons_zero, List.set_cons_succ]
                        refine run_at (i := 11) rfl (by kernel_rfl) (by rfl) (fun K hK => ?_)
                        simp only [List.getElem_toArray, List.getElem_cons_zero, List.getElem_cons_succ]
                        go_simp
                        first | (go_at_call_of 13 (Value.pointer (some ⟨P k, 0, none⟩)); refine (HI1.out _ (by first | exact (Below.refl _ _).drew | assumption)).mono ?_; rintro e z1 ⟨g1, rfl, hr1, hb1⟩; have hS1 : Below w7.heap.size w7 z1 := below_next (B := w7) (by first | exact (Below.refl _ _).drew | assumption) hb1; clear hb1) | (go_at_call_of 13 (Value.pointer (some ⟨P J2, 0, none⟩)); refine (HI2.out _ (by first | exact (Below.refl _ _).drew | assumption)).mono ?_; rintro e z2 ⟨g2, rfl, hr2, hb2⟩; have hS2 : Below w7.heap.size w7 z2 := below_next (B := w7) (by first | exact (Below.refl _ _).drew | assumption) hb2; have hr12 := (hb2.block g1 (Array.getElem?_eq_some_iff.1 hr1).1).trans hr1; clear hb2) | (go_at_call 12; refine (HBT.out _ g1 g2 hr12 hr2).mono ?_; rintro e z3 ⟨rfl, hb3⟩; have hS3 : Below w7.heap.size w7 z3 := below_next (B := w7) hS2 hb3; clear hb3) | (go_at_call_of 25 (Value.slice ax1 nL cx1); refine (HX1.out _ hS3).mono ?_; rintro e z4 ⟨rfl, hb4⟩; have hS4 : Below w7.heap.size w7 z4 := below_next (B := w7) hS3 hb4; clear hb4) | (go_at_call_of 25 (Value.slice ay1 nC cy1); refine (HY1.out _ hS4).mono ?_; rintro e z5 ⟨rfl, hb5⟩; have hS5 : Below w7.heap.size w7 z5 := below_next (B := w7) hS4 hb5; clear hb5) | (go_at_call_of 22 (Value.pointer (some ⟨P k, 0, none⟩)); refine (HD1.out _ hS5).mono ?_; rintro e z6 ⟨rfl, hz6⟩; have hz6 := hz6.symm; subst hz6) | (go_at_call_of 22 (Value.pointer (some ⟨P J2, 0, none⟩)); refine (HD2.out _ hS5).mono ?_; rintro e z7 ⟨rfl, hz7⟩; have hz7 := hz7.symm; subst hz7)
                        go_wp2_with fail
                        refine hK.out _ _ (by first | exact (Below.refl _ _).drew | assumption) ?_
                        clear hK K
                        intro hHeld2
                        clear hHeld
                        have hHeld := hHeld2
                        clear hHeld2
                        try simp only [Act.put, List.setIfInBounds_toArray, List.set_cons_zero, List.set_cons_succ]
                        refine take_at (i := 12) 142 (v := ?_) rfl rfl (by kernel_rfl) (by kernel_rfl) (by kernel_rfl) (fun _ _ _ h => h) (by rfl) ?_ hHeld ?_
                        rotate_left
                        · (intro w hSw; (try dsimp only at hSw); go_simp; try with_reducible rfl)
                        simp only [Act.put, List.setIfInBounds_toArray, List.set_cons_zero, List.set_cons_succ]
                        refine take_at (i := 13) 143 (v := ?_) rfl rfl (by kernel_rfl) (by kernel_rfl) (by kernel_rfl) (fun _ _ _ h => h) (by rfl) ?_ hHeld ?_
                        rotate_left
                        · (intro w hSw; (try dsimp only at hSw); go_simp; try with_reducible rfl)
                        simp only [Act.put, List.setIfInBounds_toArray, List.set_cons_zero, List.set_cons_succ]
                        refine take_at (i := 14) 144 (v := ?_) rfl rfl (by kernel_rfl) (by kernel_rfl) (by kernel_rfl) (fun _ _ _ h => h) (by rfl) ?_ hHeld ?_
                        rotate_left
                        · (intro w hSw; (try dsimp only at hSw); go_simp; try with_reducible rfl)
                        simp only [Act.put, List.setIfInBounds_toArray, List.set_cons_zero, List.set_cons_succ]
                        refine take_at (i := 15) 145 (v := ?_) rfl rfl (by kernel_rfl) (by kernel_rfl) (by kernel_rfl) (fun _ _ _ h => h) (by rfl) ?_ hHeld ?_
                        rotate_left
                        · (intro w hSw; (try dsimp only at hSw); go_simp; try with_reducible rfl)
                        simp only [Act.put, List.setIfInBounds_toArray, List.set_cons_zero, List.set_cons_succ]
                        refine run_at (i := 16) rfl (by kernel_rfl) (by rfl) (fun K hK => ?_)
                        simp only [List.getElem_toArray, List.getElem_cons_zero, List.getElem_cons_succ]
                        go_simp
                        first | (go_at_call_of 13 (Value.pointer (some ⟨P k, 0, none⟩)); refine (HI1.out _ (by first | exact (Below.refl _ _).drew | assumption)).mono ?_; rintro e z1 ⟨g1, rfl, hr1, hb1⟩; have hS1 : Below w7.heap.size w7 z1 := below_next (B := w7) (by first | exact (Below.refl _ _).drew | assumption) hb1; clear hb1) | (go_at_call_of 13 (Value.pointer (some ⟨P J2, 0, none⟩)); refine (HI2.out _ (by first | exact (Below.refl _ _).drew | assumption)).mono ?_; rintro e z2 ⟨g2, rfl, hr2, hb2⟩; have hS2 : Below w7.heap.size w7 z2 := below_next (B := w7) (by first | exact (Below.refl _ _).drew | assumption) hb2; have hr12 := (hb2.block g1 (Array.getElem?_eq_some_iff.1 hr1).1).trans hr1; clear hb2) | (go_at_call 12; refine (HBT.out _ g1 g2 hr12 hr2).mono ?_; rintro e z3 ⟨rfl, hb3⟩; have hS3 : Below w7.heap.size w7 z3 := below_next (B := w7) hS2 hb3; clear hb3) | (go_at_call_of 25 (Value.slice ax1 nL cx1); refine (HX1.out _ hS3).mono ?_; rintro e z4 ⟨rfl, hb4⟩; have hS4 : Below w7.heap.size w7 z4 := below_next (B := w7) hS3 hb4; clear hb4) | (go_at_call_of 25 (Value.slice ay1 nC cy1); refine (HY1.out _ hS4).mono ?_; rintro e z5 ⟨rfl, hb5⟩; have hS5 : Below w7.heap.size w7 z5 := below_next (B := w7) hS4 hb5; clear hb5) | (go_at_call_of 22 (Value.pointer (some ⟨P k, 0, none⟩)); refine (HD1.out _ hS5).mono ?_; rintro e z6 ⟨rfl, hz6⟩; have hz6 := hz6.symm; subst hz6) | (go_at_call_of 22 (Value.pointer (some ⟨P J2, 0, none⟩)); refine (HD2.out _ hS5).mono ?_; rintro e z7 ⟨rfl, hz7⟩; have hz7 := hz7.symm; subst hz7)
                        go_wp2_with fail
                        refine hK.out _ _ (by first | exact (Below.refl _ _).drew | assumption) ?_
                        clear hK K
                        intro hHeld2
                        clear hHeld
                        have hHeld := hHeld2
                        clear hHeld2
                        try simp only [Act.put, List.setIfInBounds_toArray, List.set_cons_zero, List.set_cons_succ]
                        refine take_at (i := 17) 147 (v := ?_) rfl rfl (by kernel_rfl) (by kernel_rfl) (by kernel_rfl) (fun _ _ _ h => h) (by rfl) ?_ hHeld ?_
                        rotate_left
                        · (intro w hSw; (try dsimp only at hSw); go_simp; try with_reducible rfl)
                        simp only [Act.put, List.setIfInBounds_toArray, List.set_cons_zero, List.set_cons_succ]
                        refine take_at (i := 18) 148 (v := ?_) rfl rfl (by kernel_rfl) (by kernel_rfl) (by kernel_rfl) (fun _ _ _ h => h) (by rfl) ?_ hHeld ?_
                        rotate_left
                        · (intro w hSw; (try dsimp only at hSw); go_simp; try with_reducible rfl)
                        simp only [Act.put, List.setIfInBounds_toArray, List.set_cons_zero, List.set_cons_succ]
                        refine take_at (i := 19) 149 (v := ?_) rfl rfl (by kernel_rfl) (by kernel_rfl) (by kernel_rfl) (fun _ _ _ h => h) (by rfl) ?_ hHeld ?_
                        rotate_left
                        · (intro w hSw; (try dsimp only at hSw); go_simp; try with_reducible rfl)
                        simp only [Act.put, List.setIfInBounds_toArray, List.set_cons_zero, List.set_cons_succ]
                        refine take_at (i := 20) 150 (v := ?_) rfl rfl (by kernel_rfl) (by kernel_rfl) (by kernel_rfl) (fun _ _ _ h => h) (by rfl) ?_ hHeld ?_
                        rotate_left
                        · (intro w hSw; (try dsimp only at hSw); go_simp; try with_reducible rfl)
                        simp only [Act.put, List.setIfInBounds_toArray, List.set_cons_zero, List.set_cons_succ]
                        refine take_at (i := 21) 151 (v := ?_) rfl rfl (by kernel_rfl) (by kernel_rfl) (by kernel_rfl) (fun _ _ _ h => h) (by rfl) ?_ hHeld ?_
                        rotate_left
                        · (intro w hSw; (try dsimp only at hSw); go_simp; try with_reducible rfl)
                        simp only [Act.put, List.setIfInBounds_toArray, List.set_cons_zero, List.set_cons_succ]
                        refine run_at (i := 22) rfl (by kernel_rfl) (by rfl) (fun K hK => ?_)
                        simp only [List.getElem_toArray, List.getElem_cons_zero, List.getElem_cons_succ]
                        go_simp
                        first | (go_at_call_of 13 (Value.pointer (some ⟨P k, 0, none⟩)); refine (HI1.out _ (by first | exact (Below.refl _ _).drew | assumption)).mono ?_; rintro e z1 ⟨g1, rfl, hr1, hb1⟩; have hS1 : Below w7.heap.size w7 z1 := below_next (B := w7) (by first | exact (Below.refl _ _).drew | assumption) hb1; clear hb1) | (go_at_call_of 13 (Value.pointer (some ⟨P J2, 0, none⟩)); refine (HI2.out _ (by first | exact (Below.refl _ _).drew | assumption)).mono ?_; rintro e z2 ⟨g2, rfl, hr2, hb2⟩; have hS2 : Below w7.heap.size w7 z2 := below_next (B := w7) (by first | exact (Below.refl _ _).drew | assumption) hb2; have hr12 := (hb2.block g1 (Array.getElem?_eq_some_iff.1 hr1).1).trans hr1; clear hb2) | (go_at_call 12; refine (HBT.out _ g1 g2 hr12 hr2).mono ?_; rintro e z3 ⟨rfl, hb3⟩; have hS3 : Below w7.heap.size w7 z3 := below_next (B := w7) hS2 hb3; clear hb3) | (go_at_call_of 25 (Value.slice ax1 nL cx1); refine (HX1.out _ hS3).mono ?_; rintro e z4 ⟨rfl, hb4⟩; have hS4 : Below w7.heap.size w7 z4 := below_next (B := w7) hS3 hb4; clear hb4) | (go_at_call_of 25 (Value.slice ay1 nC cy1); refine (HY1.out _ hS4).mono ?_; rintro e z5 ⟨rfl, hb5⟩; have hS5 : Below w7.heap.size w7 z5 := below_next (B := w7) hS4 hb5; clear hb5) | (go_at_call_of 22 (Value.pointer (some ⟨P k, 0, none⟩)); refine (HD1.out _ hS5).mono ?_; rintro e z6 ⟨rfl, hz6⟩; have hz6 := hz6.symm; subst hz6) | (go_at_call_of 22 (Value.pointer (some ⟨P J2, 0, none⟩)); refine (HD2.out _ hS5).mono ?_; rintro e z7 ⟨rfl, hz7⟩; have hz7 := hz7.symm; subst hz7)
                        go_wp2_with fail
                        refine hK.out _ _ (by first | exact (Below.refl _ _).drew | assumption) ?_
                        clear hK K
                        intro hHeld2
                        clear hHeld
                        have hHeld := hHeld2
                        clear hHeld2
                        try simp only [Act.put, List.setIfInBounds_toArray, List.set_cons_zero, List.set_cons_succ]
                        refine take_at (i := 23) 153 (v := ?_) rfl rfl (by kernel_rfl) (by kernel_rfl) (by kernel_rfl) (fun _ _ _ h => h) (by rfl) ?_ hHeld ?_
                        rotate_left
                        · (intro w hSw; (try dsimp only at hSw); go_simp; try with_reducible rfl)
                        simp only [Act.put, List.setIfInBounds_toArray, List.set_cons_zero, List.set_cons_succ]
                        refine take_at (i := 24) 154 (v := ?_) rfl rfl (by kernel_rfl) (by kernel_rfl) (by kernel_rfl) (fun _ _ _ h => h) (by rfl) ?_ hHeld ?_
                        rotate_left
                        · (intro w hSw; (try dsimp only at hSw); go_simp; try with_reducible rfl)
                        simp only [Act.put, List.setIfInBounds_toArray, List.set_cons_zero, List.set_cons_succ]
                        refine take_at (i := 25) 155 (v := ?_) rfl rfl (by kernel_rfl) (by kernel_rfl) (by kernel_rfl) (fun _ _ _ h => h) (by rfl) ?_ hHeld ?_
                        rotate_left
                        · (intro w hSw; (try dsimp only at hSw); go_simp; try with_reducible rfl)
                        simp only [Act.put, List.setIfInBounds_toArray, List.set_cons_zero, List.set_cons_succ]
                        refine take_at (i := 26) 156 (v := ?_) rfl rfl (by kernel_rfl) (by kernel_rfl) (by kernel_rfl) (fun _ _ _ h => h) (by rfl) ?_ hHeld ?_
                        rotate_left
                        · (intro w hSw; (try dsimp only at hSw); go_simp; try with_reducible rfl)
                        simp only [Act.put, List.setIfInBounds_toArray, List.set_cons_zero, List.set_cons_succ]
                        refine take_at (i := 27) 157 (v := ?_) rfl rfl (by kernel_rfl) (by kernel_rfl) (by kernel_rfl) (fun _ _ _ h => h) (by rfl) ?_ hHeld ?_
                        rotate_left
                        · (intro w hSw; (try dsimp only at hSw); go_simp; try with_reducible rfl)
                        simp only [Act.put, List.setIfInBounds_toArray, List.set_cons_zero, List.set_cons_succ]
                        refine take_at (i := 28) 158 (v := ?_) rfl rfl (by kernel_rfl) (by kernel_rfl) (by kernel_rfl) (fun _ _ _ h => h) (by rfl) ?_ hHeld ?_
                        rotate_left
                        · (intro w hSw; (try dsimp only at hSw); go_simp; try with_reducible rfl)
                        simp only [Act.put, List.setIfInBounds_toArray, List.set_cons_zero, List.set_cons_succ]
                        refine take_at (i := 29) 159 (v := ?_) rfl rfl (by kernel_rfl) (by kernel_rfl) (by kernel_rfl) (fun _ _ _ h => h) (by rfl) ?_ hHeld ?_
                        rotate_left
                        · (intro w hSw; (try dsimp only at hSw); go_simp; try with_reducible rfl)
                        simp only [Act.put, List.setIfInBounds_toArray, List.set_cons_zero, List.set_cons_succ]
                        refine take_at (i := 31) 161 (v := ?_) rfl rfl (by kernel_rfl) (by kernel_rfl) (by kernel_rfl) (fun _ _ _ h => h) (by rfl) ?_ hHeld ?_
                        rotate_left
                        · (intro w hSw; (try dsimp only at hSw); go_simp; try with_reducible rfl)
                        simp only [Act.put, List.setIfInBounds_toArray, List.set_cons_zero, List.set_cons_succ]
                        refine take_at (i := 32) 162 (v := ?_) rfl rfl (by kernel_rfl) (by kernel_rfl) (by kernel_rfl) (fun _ _ _ h => h) (by rfl) ?_ hHeld ?_
                        rotate_left
                        · (intro w hSw; (try dsimp only at hSw); go_simp; try with_reducible rfl)
                        simp only [Act.put, List.setIfInBounds_toArray, List.set_cons_zero, List.set_cons_succ]
                        refine take_at (i := 33) 163 (v := ?_) rfl rfl (by kernel_rfl) (by kernel_rfl) (by kernel_rfl) (fun _ _ _ h => h) (by rfl) ?_ hHeld ?_
                        rotate_left
                        · (intro w hSw; (try dsimp only at hSw); go_simp; try with_reducible rfl)
                        simp only [Act.put, List.setIfInBounds_toArray, List.set_cons_zero, List.set_cons_succ]
                        refine take_at (i := 34) 164 (v := ?_) rfl rfl (by kernel_rfl) (by kernel_rfl) (by kernel_rfl) (fun _ _ _ h => h) (by rfl) ?_ hHeld ?_
                        rotate_left
                        · (intro w hSw; (try dsimp only at hSw); go_simp; try with_reducible rfl)
                        simp only [Act.put, List.setIfInBounds_toArray, List.set_cons_zero, List.set_cons_succ]
                        refine take_at (i := 35) 165 (v := ?_) rfl rfl (by kernel_rfl) (by kernel_rfl) (by kernel_rfl) (fun _ _ _ h => h) (by rfl) ?_ hHeld ?_
                        rotate_left
                        · (intro w hSw; (try dsimp only at hSw); go_simp; try with_reducible rfl)
                        simp only [Act.put, List.setIfInBounds_toArray, List.set_cons_zero, List.set_cons_succ]
                        refine run_at (i := 30) rfl (by kernel_rfl) (by rfl) (fun K hK => ?_)
                        simp only [List.getElem_toArray, List.getElem_cons_zero, List.getElem_cons_succ]
                        go_simp
                        first | (go_at_call_of 13 (Value.pointer (some ⟨P k, 0, none⟩)); refine (HI1.out _ (by first | exact (Below.refl _ _).drew | assumption)).mono ?_; rintro e z1 ⟨g1, rfl, hr1, hb1⟩; have hS1 : Below w7.heap.size w7 z1 := below_next (B := w7) (by first | exact (Below.refl _ _).drew | assumption) hb1; clear hb1) | (go_at_call_of 13 (Value.pointer (some ⟨P J2, 0, none⟩)); refine (HI2.out _ (by first | exact (Below.refl _ _).drew | assumption)).mono ?_; rintro e z2 ⟨g2, rfl, hr2, hb2⟩; have hS2 : Below w7.heap.size w7 z2 := below_next (B := w7) (by first | exact (Below.refl _ _).drew | assumption) hb2; have hr12 := (hb2.block g1 (Array.getElem?_eq_some_iff.1 hr1).1).trans hr1; clear hb2) | (go_at_call 12; refine (HBT.out _ g1 g2 hr12 hr2).mono ?_; rintro e z3 ⟨rfl, hb3⟩; have hS3 : Below w7.heap.size w7 z3 := below_next (B := w7) hS2 hb3; clear hb3) | (go_at_call_of 25 (Value.slice ax1 nL cx1); refine (HX1.out _ hS3).mono ?_; rintro e z4 ⟨rfl, hb4⟩; have hS4 : Below w7.heap.size w7 z4 := below_next (B := w7) hS3 hb4; clear hb4) | (go_at_call_of 25 (Value.slice ay1 nC cy1); refine (HY1.out _ hS4).mono ?_; rintro e z5 ⟨rfl, hb5⟩; have hS5 : Below w7.heap.size w7 z5 := below_next (B := w7) hS4 hb5; clear hb5) | (go_at_call_of 22 (Value.pointer (some ⟨P k, 0, none⟩)); refine (HD1.out _ hS5).mono ?_; rintro e z6 ⟨rfl, hz6⟩; have hz6 := hz6.symm; subst hz6) | (go_at_call_of 22 (Value.pointer (some ⟨P J2, 0, none⟩)); refine (HD2.out _ hS5).mono ?_; rintro e z7 ⟨rfl, hz7⟩; have hz7 := hz7.symm; subst hz7)
                        go_wp2_with fail
                        refine hK.out _ _ (by first | exact (Below.refl _ _).drew | assumption) ?_
                        clear hK K
                        intro hHeld2
                        clear hHeld
                        have hHeld := hHeld2
                        clear hHeld2
                        try simp only [Act.put, List.setIfInBounds_toArray, List.set_cons_zero, List.set_cons_succ]
                        refine run_at (i := 36) rfl (by kernel_rfl) (by rfl) (fun K hK => ?_)
                        simp only [List.getElem_toArray, List.getElem_cons_zero, List.getElem_cons_succ]
                        go_simp
                        first | (go_at_call_of 13 (Value.pointer (some ⟨P k, 0, none⟩)); refine (HI1.out _ (by first | exact (Below.refl _ _).drew | assumption)).mono ?_; rintro e z1 ⟨g1, rfl, hr1, hb1⟩; have hS1 : Below w7.heap.size w7 z1 := below_next (B := w7) (by first | exact (Below.refl _ _).drew | assumption) hb1; clear hb1) | (go_at_call_of 13 (Value.pointer (some ⟨P J2, 0, none⟩)); refine (HI2.out _ (by first | exact (Below.refl _ _).drew | assumption)).mono ?_; rintro e z2 ⟨g2, rfl, hr2, hb2⟩; have hS2 : Below w7.heap.size w7 z2 := below_next (B := w7) (by first | exact (Below.refl _ _).drew | assumption) hb2; have hr12 := (hb2.block g1 (Array.getElem?_eq_some_iff.1 hr1).1).trans hr1; clear hb2) | (go_at_call 12; refine (HBT.out _ g1 g2 hr12 hr2).mono ?_; rintro e z3 ⟨rfl, hb3⟩; have hS3 : Below w7.heap.size w7 z3 := below_next (B := w7) hS2 hb3; clear hb3) | (go_at_call_of 25 (Value.slice ax1 nL cx1); refine (HX1.out _ hS3).mono ?_; rintro e z4 ⟨rfl, hb4⟩; have hS4 : Below w7.heap.size w7 z4 := below_next (B := w7) hS3 hb4; clear hb4) | (go_at_call_of 25 (Value.slice ay1 nC cy1); refine (HY1.out _ hS4).mono ?_; rintro e z5 ⟨rfl, hb5⟩; have hS5 : Below w7.heap.size w7 z5 := below_next (B := w7) hS4 hb5; clear hb5) | (go_at_call_of 22 (Value.pointer (some ⟨P k, 0, none⟩)); refine (HD1.out _ hS5).mono ?_; rintro e z6 ⟨rfl, hz6⟩; have hz6 := hz6.symm; subst hz6) | (go_at_call_of 22 (Value.pointer (some ⟨P J2, 0, none⟩)); refine (HD2.out _ hS5).mono ?_; rintro e z7 ⟨rfl, hz7⟩; have hz7 := hz7.symm; subst hz7)
                        go_wp2_with fail
                        refine hK.out _ _ (by first | exact (Below.refl _ _).drew | assumption) ?_
                        clear hK K
                        intro hHeld2
                        clear hHeld
                        have hHeld := hHeld2
                        clear hHeld2
                        try simp only [Act.put, List.setIfInBounds_toArray, List.set_cons_zero, List.set_cons_succ]
                        refine take_at (i := 37) 167 (v := ?_) rfl rfl (by kernel_rfl) (by kernel_rfl) (by kernel_rfl) (fun _ _ _ h => h) (by rfl) ?_ hHeld ?_
                        rotate_left
                        · (intro w hSw; (try dsimp only at hSw); go_simp; try with_reducible rfl)
                        simp only [Act.put, List.setIfInBounds_toArray, List.set_cons_zero, List.set_cons_succ]
                        refine take_at (i := 38) 168 (v := ?_) rfl rfl (by kernel_rfl) (by kernel_rfl) (by kernel_rfl) (fun _ _ _ h => h) (by rfl) ?_ hHeld ?_
                        rotate_left
                        · (intro w hSw; (try dsimp only at hSw); go_simp; try with_reducible rfl)
                        simp only [Act.put, List.setIfInBounds_toArray, List.set_cons_zero, List.set_cons_succ]
                        refine wpAnyH_done (by kernel_rfl) ?_ _
                        refine NoPanic.normal ?_
                        go_wp2
                        go_roundw
                        case rel => exact ⟨k + 1, by omega, rfl, Four.below HF7.out hS5⟩
                        case measure => simp [intOf]; omega
                      · have qqi : ¬ (k : Int) < 2 := by omega
                        go_wp2
                        go_ret
                        exact ⟨rfl, Four.bel HF2.out⟩
end Go.Proofs.Ytgdkiejlggiakaa
