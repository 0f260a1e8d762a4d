import Derived.Test.YtibolgpaolnheaaNBl
import Derived.Test.YtibolgpaolnheaaOpenL
import Derived.Deep.CutRange
import Derived.Laws.BytesArg
namespace Go.Proofs.Ytibolgpaolnheaa
set_option linter.unusedVariables false
set_option linter.unusedSimpArgs false
open Go.RowKit
theorem info_opB : (Try.prog.info? tOp).map (·.size) = some 4 := by kernel_rfl
theorem box_offB {w : World} {b : Nat} {a : Value} {s1 s2 n : Nat} (h : w.heap[b]? = some (.cells #[a, .int .u64 (s1 : Int), .int .u64 (s2 : Int), .int .u64 (n : Int)] tOp (0, 0))) : w.rangeAt b 1 (sc (s1, s2)) := fun j v hv => by
  rw [cell_of_row _ _ _ _ _ _ h]
  match j with
  | 0 => simpa using hv
  | 1 => simpa using hv
  | j + 2 => simp at hv
theorem new_noU (z : Int) (hz : z < 4 ∨ 64 < z) (w : World) : Calls Try.prog 12 #[.int .i64 z] w fun er w' => er = .returned (.tuple #[.pointer none, .int .i64 1]) ∧ w' = w := by
  by_cases h1 : z < 4
  · go_enter Try.func12, Try.ntmps12
    go_wp2
    refine bodyPost_ret (results_tmp2 rfl _ _ _) rfl ?_
    exact ⟨rfl, rfl⟩
  · have h2 : 64 < z := by omega
    go_enter Try.func12, Try.ntmps12
    go_wp2
    refine bodyPost_ret (results_tmp2 rfl _ _ _) rfl ?_
    exact ⟨rfl, rfl⟩
theorem new_noS (z : Int) (hz : z < 4 ∨ 64 < z) (w : World) : Calls Try.prog 9 #[.int .i64 z] w fun er w' => er = .returned (.tuple #[.pointer none, .int .i64 1]) ∧ w' = w := by
  by_cases h1 : z < 4
  · go_enter Try.func9, Try.ntmps9
    go_wp2
    refine bodyPost_ret (results_tmp2 rfl _ _ _) rfl ?_
    exact ⟨rfl, rfl⟩
  · have h2 : 64 < z := by omega
    go_enter Try.func9, Try.ntmps9
    go_wp2
    refine bodyPost_ret (results_tmp2 rfl _ _ _) rfl ?_
    exact ⟨rfl, rfl⟩
/-- a text of one byte -/
theorem conv_one (w : World) (N n : Nat) (h : w.heap[N]? = some (.cells #[.int .u8 ((n : Int) % 256)] 5 (0, 0))) :
    (convert 37 9 (.slice (some ⟨N, 0, none⟩) 1 1)).run Try.prog w = .ok (Str.tw n) w := by
  rw [run_convert_bytes_arg w 37 5 Try.underlying37 Try.underlying5 N 0 1 1 [(n : Int) % 256] (by simp) (fun i hi => by
    obtain rfl : i = 0 := by omega
    rw [cell_of_row _ _ _ _ _ _ h]; rfl) 9 Try.underlying9]
  unfold strOfNums Str.tw
  have e0 : ((n : Int) % 256).toNat = n % 256 := by omega
  simp only [List.map_cons, List.map_nil, e0]
  have e : UInt8.ofNat (n % 256) = UInt8.ofNat n := by
    apply UInt8.toNat_inj.1
    simp
  rw [e]
section
set_option maxRecDepth 20000
set_option maxHeartbeats 25600000
theorem pagesBlind_walk (size : Int) (a : Option Addr) (cap : Nat) (xs : List Stp) (W : World) (hsz : -9223372036854775808 ≤ size ∧ size ≤ 9223372036854775807) (hr : RdO W a xs) (hl : xs.length ≤ cap) (hn : a = none → cap = 0) (hc : xs.length ≤ 4398046511103) :
    Calls Try.prog 4 #[.int .i64 size, .slice a xs.length cap] W fun e W' => e = .returned (.bool true) ∧ Below W.heap.size W W' := by
  obtain ⟨N, hN⟩ : ∃ N, N = xs.length := ⟨_, rfl⟩
  rw [← hN] at hl hc ⊢
  have HR : Hid (RdO W a xs) := hr
  have HN : Hid (N = xs.length) := hN
  obtain ⟨B, hB⟩ : ∃ B, B = W.heap.size := ⟨_, rfl⟩
  have HBB : Hid (B = W.heap.size) := hB
  have HBL : Hid (∀ u, Below B W u → Below W.heap.size W u) := (fun u hu => by rw [← hB]; exact hu)
  clear hr hN hB
  go_enter Try.func4, Try.ntmps4
  go_wp2_with fail
  by_cases hz : 4 ≤ size ∧ size ≤ 64
  · obtain ⟨S, hSz⟩ : ∃ S : Nat, size = (S : Int) := ⟨size.toNat, by omega⟩
    subst hSz
    have hS4 : 4 ≤ S ∧ S ≤ 64 := by omega
    have hs4 : (4 : Int) ≤ (S : Int) := by omega
    have hs64 : (S : Int) ≤ 64 := by omega
    clear hz
    refine Calls.mono (newU_t S hS4 W) ?_
    rintro e w1 ⟨rfl, hi1, hb1⟩
    obtain ⟨g, hg⟩ : ∃ g, g = W.heap.size := ⟨_, rfl⟩
    rw [← hg] at hi1 ⊢
    have HI1 : Hid (IdxAt w1 g S [] (.slice none 0 0) []) := hi1
    have HB1 : Hid (Below W.heap.size W w1) := hb1
    have HG : Hid (g = W.heap.size) := hg
    clear hi1 hb1 hg
    go_wp2_with fail
    refine Calls.mono (Str.newU_t S hS4 w1) ?_
    rintro e w2 ⟨rfl, hi2, hb2⟩
    obtain ⟨r, hrr⟩ : ∃ r, r = w1.heap.size := ⟨_, rfl⟩
    rw [← hrr] at hi2 ⊢
    have HT0 : Hid (Twn B w2 (.pointer (some ⟨g, 0, none⟩)) (.pointer (some ⟨r, 0, none⟩)) (fun b => foot g (.slice none 0 0) b ∨ foot r (.slice none 0 0) b) 0) := .inr ⟨g, S, [], _, _, r, _, _, rfl, rfl, hS4, HI1.out.below hb2, hi2, ⟨⟨(fun q hq => (by cases hq)), List.Pairwise.nil⟩, (fun q hq => (by cases hq))⟩, Nat.le_refl _, rfl, (by
      rintro b ((rfl | hb) | (rfl | hb))
      · have := HG.out; have := HBB.out; omega
      · cases hb
      · have := HB1.out.size; have := HBB.out; omega
      · cases hb)⟩
    have HB0 : Hid (Below B W w2) := (show Below _ _ _ by rw [HBB.out]; exact below_next HB1.out hb2)
    clear hi2 hb2 hrr
    go_wp2_with fail
    refine Calls.mono (num_t _ _) ?_
    rintro e w9 ⟨rfl, hw9⟩
    have hw9 := hw9.symm
    subst hw9
    go_wp2_with fail
    refine Calls.mono (num_t _ _) ?_
    rintro e w9 ⟨rfl, hw9⟩
    have hw9 := hw9.symm
    subst hw9
    go_wp2_with fail
    refine Calls.mono (num_t _ _) ?_
    rintro e w9 ⟨rfl, hw9⟩
    have hw9 := hw9.symm
    subst hw9
    go_wp2_with fail
    go_loopw [10] (fun i wr => ∃ (k : Nat) (F : Nat → Prop), k ≤ N ∧ i = .int .i64 (k : Int) ∧ Twn B wr (.pointer (some ⟨g, 0, none⟩)) (.pointer (some ⟨r, 0, none⟩)) F k ∧ Below B W wr) (fun i _ => N - (intOf i).toNat)
    case atStart => exact ⟨0, _, Nat.zero_le _, rfl, HT0.out, HB0.out⟩
    case round =>
      obtain ⟨k, F, hk, rfl, htw, hbel⟩ := hrel
      have HT : Hid (Twn B wr (.pointer (some ⟨g, 0, none⟩)) (.pointer (some ⟨r, 0, none⟩)) F k) := htw
      have HBEL : Hid (Below B W wr) := hbel
      have HSZ : Hid (B ≤ wr.heap.size) := (show _ ≤ _ by rw [HBB.out]; exact hbel.size)
      clear htw hbel
      by_cases hlt : k < N
      · have hkx : k < xs.length := by have := HN.out; omega
        obtain ⟨b, o, rfl, hr⟩ := HR.out k hkx
        obtain ⟨kd, t1, t2, tn, hx⟩ : ∃ kd t1 t2 tn, xs[k] = (kd, ⟨(t1, t2), tn⟩) := ⟨_, _, _, _, rfl⟩
        rw [hx] at hr
        have HRX : Hid (wr.rangeAt b (o + k * 4) (opv (kd, ⟨(t1, t2), tn⟩))) := rangeAt_below hr (HBL.out wr HBEL.out)
        have hki : (k : Int) < (N : Int) := by omega
        have hk0 : (0 : Int) ≤ (k : Int) := by omega
        have hk42 : k ≤ 4398046511104 := by omega
        obtain ⟨w3, hw3⟩ : ∃ X : World, X = wr.alloc (.cells #[.int .i64 kd, .int .u64 (t1 : Int), .int .u64 (t2 : Int), .int .u64 (tn : Int)] tOp) := ⟨_, rfl⟩
        obtain ⟨E, hE⟩ : ∃ E, E = wr.heap.size := ⟨_, rfl⟩
        have HB3 : Hid (Below wr.heap.size wr w3) := (show Below _ _ _ by rw [hw3]; exact al (Below.refl _ _) _)
        have HE3 : Hid (w3.heap[E]? = some (.cells #[.int .i64 kd, .int .u64 (t1 : Int), .int .u64 (t2 : Int), .int .u64 (tn : Int)] tOp (0, 0))) := (show _ = _ by rw [hw3, hE]; exact heap_alloc_new wr _)
        have HFE : Hid (¬ F E) := (fun h9 => by have := HT.out.lt E h9; omega)
        clear hr hx
        go_upto_region 10 with (first | (refine wpList_load_mid rfl tOp _ rfl b (o + k * 4) rfl (opv (kd, ⟨(t1, t2), tn⟩)) _ HRX.out Try.underlying36 rfl info_opB ?_))
        rw [← hw3]
        simp only [← hE]
        clear hw3 hE
        obtain ⟨w4, hw4⟩ : ∃ X : World, X = w3.alloc (.cells #[.int .u8 ((tn : Int) % 256)] 5) := ⟨_, rfl⟩
        have HB4 : Hid (Below wr.heap.size wr w4) := (show Below _ _ _ by rw [hw4]; exact below_next HB3.out (al (Below.refl _ _) _))
        have hcv : (convert 37 9 (.slice (some ⟨w3.heap.size, 0, none⟩) 1 1)).run Try.prog (w3.alloc (.cells #[.int .u8 ((tn : Int) % 256)] 5)) = .ok (Str.tw tn) (w3.alloc (.cells #[.int .u8 ((tn : Int) % 256)] 5)) := conv_one _ _ tn (heap_alloc_new w3 _)
        have HCV : Hid (∀ (u : World) (n : Nat), (convert 37 9 (.slice (some ⟨u.heap.size, 0, none⟩) 1 1)).run Try.prog (u.alloc (.cells #[.int .u8 ((n : Int) % 256)] 5)) = .ok (Str.tw n) (u.alloc (.cells #[.int .u8 ((n : Int) % 256)] 5))) := (fun u n => conv_one _ _ n (heap_alloc_new u _))
        have hE3 : w3.cell? ⟨E, 3, none⟩ = some (.int .u64 (tn : Int)) := by rw [cell_of_row _ _ _ _ _ _ HE3.out]; rfl
        have HE4 : Hid (w4.heap[E]? = some (.cells #[.int .i64 kd, .int .u64 (t1 : Int), .int .u64 (t2 : Int), .int .u64 (tn : Int)] tOp (0, 0))) := (show _ = _ by rw [hw4]; exact ((al (Below.refl w3.heap.size w3) _).block E (Array.getElem?_eq_some_iff.1 HE3.out).1).trans HE3.out)
        go_upto_region 11 with fail
        rw [← hw4]
        clear hw4 hcv hE3
        have hE4 : w4.cell? ⟨E, 0, none⟩ = some (.int .i64 kd) := by rw [cell_of_row _ _ _ _ _ _ HE4.out]; rfl
        have HT4 : Hid (Twn B w4 (.pointer (some ⟨g, 0, none⟩)) (.pointer (some ⟨r, 0, none⟩)) F k) := HT.out.below HB4.out
        have HB14 : Hid (Below B W w4) := HBEL.out.trans (HB4.out.mono HSZ.out)
        have HSZ4 : Hid (B ≤ w4.heap.size) := (show _ ≤ _ from Nat.le_trans HSZ.out HB4.out.size)
        have HLS : Hid (∀ u, (u.heap[E]? = some (.cells #[.int .i64 kd, .int .u64 (t1 : Int), .int .u64 (t2 : Int), .int .u64 (tn : Int)] tOp (0, 0))) → World.rangeAt u E 1 (sc (t1, t2))) := (fun u hu => box_offB hu)
        have HCB : Hid (∀ u, Chg F w4 u → Below B W u) := (fun u hu => HB14.out.trans (hu.below HT4.out.ge HSZ4.out))
        have HCE : Hid (∀ u, Chg F w4 u → u.heap[E]? = some (.cells #[.int .i64 kd, .int .u64 (t1 : Int), .int .u64 (t2 : Int), .int .u64 (tn : Int)] tOp (0, 0))) := (fun u hu => hu.old HE4.out HFE.out)
        by_cases h1 : kd = 1
        · subst h1
          have hls : ∀ u, (u.heap[E]? = some (.cells #[.int .i64 1, .int .u64 (t1 : Int), .int .u64 (t2 : Int), .int .u64 (tn : Int)] tOp (0, 0))) → (Instr.loadAt tSt (.pointer (some ⟨E, 1, none⟩))).run Try.prog u = .ok (sv (t1, t2)) u := fun u hu => load_st u _ _ (t1, t2) (HLS.out u hu)
          have hlv : ∀ u : World, (u.heap[E]? = some (.cells #[.int .i64 1, .int .u64 (t1 : Int), .int .u64 (t2 : Int), .int .u64 (tn : Int)] tOp (0, 0))) → u.cell? ⟨E, 3, none⟩ = some (.int .u64 (tn : Int)) := fun u hu => by rw [cell_of_row _ _ _ _ _ _ hu]; rfl
          have hE9 : w4.drew.heap[E]? = some (.cells #[.int .i64 1, .int .u64 (t1 : Int), .int .u64 (t2 : Int), .int .u64 (tn : Int)] tOp (0, 0)) := HE4.out
          go_upto_region 13 with fail
          refine wp_region_held_drew (S := (fun u => u.heap[E]? = some (.cells #[.int .i64 1, .int .u64 (t1 : Int), .int .u64 (t2 : Int), .int .u64 (tn : Int)] tOp (0, 0)))) (by kernel_rfl) (by first | exact hE9 | assumption) (fun hHeld => ?_)
          refine take_at (i := 0) 89 (v := ?_) rfl rfl (by kernel_rfl) (by kernel_rfl) (by kernel_rfl) (fun _ _ _ h => h) (by rfl) ?_ hHeld ?_
          rotate_left
          · (intro w hSw; (try dsimp only at hSw); go_simp; try with_reducible rfl)
          simp only [Act.put, List.setIfInBounds_toArray, List.set_cons_zero, List.set_cons_succ]
          refine take_at (i := 1) 90 (v := ?_) rfl rfl (by kernel_rfl) (by kernel_rfl) (by kernel_rfl) (fun _ _ _ h => h) (by rfl) ?_ hHeld ?_
          rotate_left
          · (intro w hSw; (try dsimp only at hSw); go_simp; try with_reducible rfl)
          simp only [Act.put, List.setIfInBounds_toArray, List.set_cons_zero, List.set_cons_succ]
          refine take_at (i := 2) 91 (v := sv (t1, t2)) rfl rfl (by kernel_rfl) (by kernel_rfl) (by kernel_rfl) (fun _ _ _ h => h) (by rfl) ?_ hHeld ?_
          · (intro w hSw; refine exec_load (by rfl) ?_; exact hls w hSw)
          simp only [Act.put, List.setIfInBounds_toArray, List.set_cons_zero, List.set_cons_succ]
          refine take_at (i := 3) 92 (v := ?_) rfl rfl (by kernel_rfl) (by kernel_rfl) (by kernel_rfl) (fun _ _ _ h => h) (by rfl) ?_ hHeld ?_
          rotate_left
          · (intro w hSw; (try dsimp only at hSw); go_simp; try with_reducible rfl)
          simp only [Act.put, List.setIfInBounds_toArray, List.set_cons_zero, List.set_cons_succ]
          refine take_at (i := 4) 93 (v := ?_) rfl rfl (by kernel_rfl) (by kernel_rfl) (by kernel_rfl) (fun _ _ _ h => h) (by rfl) ?_ hHeld ?_
          rotate_left
          · (intro w hSw; (try dsimp only at hSw); go_simp; try with_reducible rfl)
          simp only [Act.put, List.setIfInBounds_toArray, List.set_cons_zero, List.set_cons_succ]
          refine take_at (i := 6) 95 (v := ?_) rfl rfl (by kernel_rfl) (by kernel_rfl) (by kernel_rfl) (fun _ _ _ h => h) (by rfl) ?_ hHeld ?_
          rotate_left
          · (intro w hSw; (try dsimp only at hSw); go_simp; try with_reducible rfl)
          simp only [Act.put, List.setIfInBounds_toArray, List.set_cons_zero, List.set_cons_succ]
          refine take_at (i := 7) 96 (v := ?_) rfl rfl (by kernel_rfl) (by kernel_rfl) (by kernel_rfl) (fun _ _ _ h => h) (by rfl) ?_ hHeld ?_
          rotate_left
          · (intro w hSw; (try dsimp only at hSw); go_simp; try with_reducible rfl)
          simp only [Act.put, List.setIfInBounds_toArray, List.set_cons_zero, List.set_cons_succ]
          refine take_at (i := 8) 97 (v := sv (t1, t2)) rfl rfl (by kernel_rfl) (by kernel_rfl) (by kernel_rfl) (fun _ _ _ h => h) (by rfl) ?_ hHeld ?_
          · (intro w hSw; refine exec_load (by rfl) ?_; exact hls w hSw)
          simp only [Act.put, List.setIfInBounds_toArray, List.set_cons_zero, List.set_cons_succ]
          refine take_at (i := 9) 98 (v := ?_) rfl rfl (by kernel_rfl) (by kernel_rfl) (by kernel_rfl) (fun _ _ _ h => h) (by rfl) ?_ hHeld ?_
          rotate_left
          · (intro w hSw; (try dsimp only at hSw); go_simp; try with_reducible rfl)
          simp only [Act.put, List.setIfInBounds_toArray, List.set_cons_zero, List.set_cons_succ]
          refine run_at (i := 5) rfl (by kernel_rfl) (by rfl) (fun K hK => ?_)
          simp only [List.getElem_toArray, List.getElem_cons_zero, List.getElem_cons_succ]
          go_simp
          first | (go_at_call 13; refine Calls.mono (tput (HT4.out.below (Below.refl _ _).drew) hk42 HSZ4.out t1 t2 tn) ?_; rintro e v1 ⟨ok, rfl, hch1, hnx⟩; have hE5 := HCE.out v1 ((Chg.of_below (F := F) (Below.refl w4.heap.size w4).drew).trans hch1 (fun b hb => .inl hb)); have HNX : Hid _ := hnx; clear hnx hch1) | (go_at_call 14; refine Calls.mono HNX.out ?_; rintro e v2 ⟨rfl, hch2, F2, htw2⟩; have HCH2 : Hid (Chg F w4 v2) := ((Chg.of_below (F := F) (Below.refl w4.heap.size w4).drew).trans hch2 (fun b hb => .inl hb)); have hE6 := HCE.out v2 HCH2.out; have HTW2 : Hid (Twn B v2 (.pointer (some ⟨g, 0, none⟩)) (.pointer (some ⟨r, 0, none⟩)) F2 (k + 1)) := htw2; clear htw2 hch2)
          go_wp2_with fail
          refine hK.out _ _ (by first | exact hE9 | assumption) ?_
          clear hK K
          intro hHeld2
          clear hHeld
          have hHeld := hHeld2
          clear hHeld2
          try simp only [Act.put, List.setIfInBounds_toArray, List.set_cons_zero, List.set_cons_succ]
          refine run_at (i := 10) rfl (by kernel_rfl) (by rfl) (fun K hK => ?_)
          simp only [List.getElem_toArray, List.getElem_cons_zero, List.getElem_cons_succ]
          go_simp
          first | (go_at_call 13; refine Calls.mono (tput (HT4.out.below (Below.refl _ _).drew) hk42 HSZ4.out t1 t2 tn) ?_; rintro e v1 ⟨ok, rfl, hch1, hnx⟩; have hE5 := HCE.out v1 ((Chg.of_below (F := F) (Below.refl w4.heap.size w4).drew).trans hch1 (fun b hb => .inl hb)); have HNX : Hid _ := hnx; clear hnx hch1) | (go_at_call 14; refine Calls.mono HNX.out ?_; rintro e v2 ⟨rfl, hch2, F2, htw2⟩; have HCH2 : Hid (Chg F w4 v2) := ((Chg.of_below (F := F) (Below.refl w4.heap.size w4).drew).trans hch2 (fun b hb => .inl hb)); have hE6 := HCE.out v2 HCH2.out; have HTW2 : Hid (Twn B v2 (.pointer (some ⟨g, 0, none⟩)) (.pointer (some ⟨r, 0, none⟩)) F2 (k + 1)) := htw2; clear htw2 hch2)
          go_wp2_with fail
          refine hK.out _ _ (by first | exact hE9 | assumption) ?_
          clear hK K
          intro hHeld2
          clear hHeld
          have hHeld := hHeld2
          clear hHeld2
          try simp only [Act.put, List.setIfInBounds_toArray, List.set_cons_zero, List.set_cons_succ]
          refine take_at (i := 11) 100 (v := ?_) rfl rfl (by kernel_rfl) (by kernel_rfl) (by kernel_rfl) (fun _ _ _ h => h) (by rfl) ?_ hHeld ?_
          rotate_left
          · (intro w hSw; (try dsimp only at hSw); go_simp; try with_reducible rfl)
          simp only [Act.put, List.setIfInBounds_toArray, List.set_cons_zero, List.set_cons_succ]
          refine wpAnyH_done (by kernel_rfl) ?_ _
          clear hE5 hE6 hE9 hls hlv hE4
          go_wp2
          go_roundw
          case rel => exact ⟨k + 1, _, by omega, by go_num, HTW2.out, HCB.out _ HCH2.out⟩
          case measure => simp [intOf]; omega
        · have g1 : (kd == 1) = false := by simpa using h1
          by_cases h2 : kd = 2
          · subst h2
            go_wp2_with (first | (refine wpList_load_mid rfl tSt _ rfl E 1 rfl (sc (t1, t2)) _ (HLS.out _ HE4.out) Try.underlying34 rfl info_st ?_))
            refine Calls.mono (trem HT4.out hk42 HSZ4.out t1 t2) ?_
            rintro e v1 ⟨vv, ok, rfl, hch1, hnx⟩
            have HNX : Hid _ := hnx
            have HCH1 : Hid (Chg F w4 v1) := hch1
            clear hnx hch1 hE4
            go_wp2_with (first | (refine wpList_load_mid rfl tSt _ rfl E 1 rfl (sc (t1, t2)) _ (HLS.out _ (HCE.out v1 HCH1.out)) Try.underlying34 rfl info_st ?_))
            refine Calls.mono HNX.out ?_
            rintro e v2 ⟨ww, rfl, hch2, F2, htw2⟩
            have HCH2 : Hid (Chg F w4 v2) := hch2
            have HTW2 : Hid (Twn B v2 (.pointer (some ⟨g, 0, none⟩)) (.pointer (some ⟨r, 0, none⟩)) F2 k) := htw2
            clear htw2 hch2 HNX
            go_wp2
            go_roundw
            case rel => exact ⟨k + 1, _, by omega, by go_num, HTW2.out.mono (Nat.le_succ _), HCB.out _ HCH2.out⟩
            case measure => simp [intOf]; omega
          · have g2 : (kd == 2) = false := by simpa using h2
            by_cases h3 : kd = 3
            · subst h3
              go_wp2_with (first | (refine wpList_load_mid rfl tSt _ rfl E 1 rfl (sc (t1, t2)) _ (HLS.out _ HE4.out) Try.underlying34 rfl info_st ?_))
              refine Calls.mono (tget HT4.out hk42 t1 t2) ?_
              rintro e v1 ⟨n9, ok, rfl, hb1, hnx⟩
              have HNX : Hid _ := hnx
              have HBV1 : Hid (Below w4.heap.size w4 v1) := hb1
              clear hnx hb1 hE4
              go_wp2_with (first | (refine wpList_load_mid rfl tSt _ rfl E 1 rfl (sc (t1, t2)) _ (HLS.out _ (HCE.out v1 (Chg.of_below HBV1.out))) Try.underlying34 rfl info_st ?_))
              refine Calls.mono HNX.out ?_
              rintro e v2 ⟨rfl, hb2⟩
              have HBV2 : Hid (Below w4.heap.size w4 v2) := below_next HBV1.out hb2
              have HAB : Hid (∀ ob, Below w4.heap.size w4 (v2.alloc ob)) := (fun ob => al HBV2.out ob)
              clear hb2 HNX
              cases ok
              case false =>
                simp only [Bool.false_eq_true, if_false]
                go_wp2
                go_roundw
                case rel => exact ⟨k + 1, _, by omega, by go_num, (HT4.out.below HBV2.out).mono (Nat.le_succ _), HCB.out _ (Chg.of_below HBV2.out)⟩
                case measure => simp [intOf]; omega
              case true =>
                simp only [if_true]
                have hcv := HCV.out v2 n9
                go_wp2
                go_roundw
                case rel => exact ⟨k + 1, _, by omega, by go_num, (HT4.out.below (HAB.out _)).mono (Nat.le_succ _), HCB.out _ (Chg.of_below (HAB.out _))⟩
                case measure => simp [intOf]; omega
            · have g3 : (kd == 3) = false := by simpa using h3
              by_cases h6 : kd = 6
              · subst h6
                go_wp2_with (first | (refine wpList_load_mid rfl tSt _ rfl E 1 rfl (sc (t1, t2)) _ (HLS.out _ HE4.out) Try.underlying34 rfl info_st ?_))
                refine Calls.mono (tplace HT4.out hk42 t1 t2) ?_
                rintro e v1 ⟨p9, i9, ok, rfl, hb1, hnx⟩
                have HNX : Hid _ := hnx
                have HBV1 : Hid (Below w4.heap.size w4 v1) := hb1
                clear hnx hb1 hE4
                go_wp2_with (first | (refine wpList_load_mid rfl tSt _ rfl E 1 rfl (sc (t1, t2)) _ (HLS.out _ (HCE.out v1 (Chg.of_below HBV1.out))) Try.underlying34 rfl info_st ?_))
                refine Calls.mono HNX.out ?_
                rintro e v2 ⟨rfl, hb2⟩
                have HBV2 : Hid (Below w4.heap.size w4 v2) := below_next HBV1.out hb2
                clear hb2 HNX
                go_wp2
                go_roundw
                case rel => exact ⟨k + 1, _, by omega, by go_num, (HT4.out.below HBV2.out).mono (Nat.le_succ _), HCB.out _ (Chg.of_below HBV2.out)⟩
                case measure => simp [intOf]; omega
              · have g6 : (kd == 6) = false := by simpa using h6
                go_wp2
                go_roundw
                case rel => exact ⟨k + 1, _, by omega, by go_num, HT4.out.mono (Nat.le_succ _), HB14.out⟩
                case measure => simp [intOf]; omega
      · obtain rfl : k = N := by omega
        have hkI : ¬ ((k : Int) < (k : Int)) := by omega
        obtain ⟨Q, hQl, hpx, hpy, hlx, hly⟩ := tpages HT.out (by omega)
        have HPX : Hid _ := hpx
        have HPY : Hid _ := hpy
        have HLX : Hid _ := hlx
        have HLY : Hid _ := hly
        obtain ⟨M, hM⟩ : ∃ M, M = Q.length := ⟨_, rfl⟩
        have HM : Hid (M = Q.length) := hM
        rw [← hM] at hQl
        obtain ⟨T, hT⟩ : ∃ T, T = Q.flatten.length := ⟨_, rfl⟩
        have HTT : Hid (T = Q.flatten.length) := hT
        clear hpx hpy hlx hly hM hT
        go_wp2_with fail
        refine Calls.mono (HPX.out wr (Below.refl _ _)) ?_
        rintro e v1 ⟨va, rfl, hoa, hb1⟩
        rw [← HM.out] at hoa
        have HB1 : Hid (Below wr.heap.size wr v1) := hb1
        have HOA : Hid (v1.ownsRow wr.heap.size 3 1 va M (cnt Q)) := hoa
        obtain ⟨pa, qa, hva⟩ : ∃ pa qa, va = .slice pa M qa := by
          rcases hoa.2 with ⟨e, h0⟩ | ⟨g9, c9, cur, e, -⟩
          · exact ⟨none, 0, by rw [h0]; exact e⟩
          · exact ⟨_, _, e⟩
        subst hva
        clear hoa hb1
        go_wp2_with fail
        refine Calls.mono (HPY.out v1 HB1.out) ?_
        rintro e v2 ⟨vb, rfl, hob, hb2⟩
        rw [← HM.out] at hob
        have HB2 : Hid (Below v1.heap.size v1 v2) := hb2
        have HOB : Hid (v2.ownsRow v1.heap.size 3 1 vb M (cnt Q)) := hob
        obtain ⟨pb, qb, hvb⟩ : ∃ pb qb, vb = .slice pb M qb := by
          rcases hob.2 with ⟨e, h0⟩ | ⟨g9, c9, cur, e, -⟩
          · exact ⟨none, 0, by rw [h0]; exact e⟩
          · exact ⟨_, _, e⟩
        subst hvb
        clear hob hb2
        have HCEL : Hid (∀ u, Below v2.heap.size v2 u → ∀ m, m < M → ∃ (ga gb : Nat), pa = some ⟨ga, 0, none⟩ ∧ pb = some ⟨gb, 0, none⟩ ∧ u.cell? ⟨ga, m, none⟩ = some (.int .i64 ((Q.getD m []).length : Int)) ∧ u.cell? ⟨gb, m, none⟩ = some (.int .i64 ((Q.getD m []).length : Int))) := (fun u hu m hm => by
          have hmQ : m < Q.length := by have := HM.out; omega
          have hcn : (cnt Q)[m]? = some (.int .i64 ((Q.getD m []).length : Int)) := by
            unfold cnt
            rw [List.getElem?_map, List.getElem?_eq_getElem hmQ]
            simp [List.getD, hmQ]
          have h1 := HOA.out
          have h2 := HOB.out
          rcases HOA.out.2 with ⟨e, h0⟩ | ⟨ga, c9, cur, e, -, hga, -⟩
          · omega
          · rcases HOB.out.2 with ⟨e', h0⟩ | ⟨gb, c9', cur', e', -, hgb, -⟩
            · omega
            · cases e; cases e'
              have q1 := (World.ownsRow.cellAt h1 m (by omega)).trans hcn
              have q2 := (World.ownsRow.cellAt h2 m (by omega)).trans hcn
              refine ⟨ga, gb, rfl, rfl, ?_, ?_⟩
              · have h12 := below_next HB2.out hu
                exact (h12.cell (World.block_lt_of_cell? v1 _ q1)).trans q1
              · exact (hu.cell (World.block_lt_of_cell? v2 _ q2)).trans q2)
        go_wp2_with fail
        go_loopw [29] (fun j wr5 => ∃ m : Nat, m ≤ M ∧ j = .int .i64 (m : Int) ∧ Below v2.heap.size v2 wr5) (fun j _ => M - (intOf j).toNat)
        case atStart => exact ⟨0, Nat.zero_le _, rfl, Below.refl _ _⟩
        case round =>
          obtain ⟨m, hm, rfl, hb6⟩ := hrel
          rename World => v6
          have HB6 : Hid (Below v2.heap.size v2 v6) := hb6
          by_cases hlm : m < M
          · obtain ⟨ga, gb, rfl, rfl, -⟩ := HCEL.out v6 hb6 m hlm
            obtain ⟨zz, hzz⟩ : ∃ zz : Int, zz = ((Q.getD m []).length : Int) := ⟨_, rfl⟩
            have hA : ∀ u, Below v2.heap.size v2 u → u.cell? ⟨ga, m, none⟩ = some (.int .i64 zz) := fun u hu => by
              obtain ⟨_, _, e1, e2, h4, h5⟩ := HCEL.out u hu m hlm
              cases e1; cases e2
              rw [hzz]; exact h4
            have hBb : ∀ u, Below v2.heap.size v2 u → u.cell? ⟨gb, m, none⟩ = some (.int .i64 zz) := fun u hu => by
              obtain ⟨_, _, e1, e2, h4, h5⟩ := HCEL.out u hu m hlm
              cases e1; cases e2
              rw [hzz]; exact h5
            have hmi : (m : Int) < (M : Int) := by omega
            have hm0 : (0 : Int) ≤ (m : Int) := by omega
            clear hzz
            go_upto_region 34 with fail
            refine wp_region_held_drew (S := (fun u => Below v2.heap.size v2 u)) (by kernel_rfl) (by first | exact hb6.drew | assumption) (fun hHeld => ?_)
            refine take_at (i := 0) 205 (v := ?_) rfl rfl (by kernel_rfl) (by kernel_rfl) (by kernel_rfl) (fun _ _ _ h => h) (by rfl) ?_ hHeld ?_
            rotate_left
            · (intro w hSw; (try dsimp only at hSw); go_simp; try with_reducible rfl)
            simp only [Act.put, List.setIfInBounds_toArray, List.set_cons_zero, List.set_cons_succ]
            refine take_at (i := 1) 206 (v := ?_) rfl rfl (by kernel_rfl) (by kernel_rfl) (by kernel_rfl) (fun _ _ _ h => h) (by rfl) ?_ hHeld ?_
            rotate_left
            · (intro w hSw; (try dsimp only at hSw); go_simp; try with_reducible rfl)
            simp only [Act.put, List.setIfInBounds_toArray, List.set_cons_zero, List.set_cons_succ]
            refine take_at (i := 2) 207 (v := ?_) rfl rfl (by kernel_rfl) (by kernel_rfl) (by kernel_rfl) (fun _ _ _ h => h) (by rfl) ?_ hHeld ?_
            rotate_left
            · (intro w hSw; (try dsimp only at hSw); go_simp; try with_reducible rfl)
            simp only [Act.put, List.setIfInBounds_toArray, List.set_cons_zero, List.set_cons_succ]
            refine take_at (i := 3) 208 (v := ?_) rfl rfl (by kernel_rfl) (by kernel_rfl) (by kernel_rfl) (fun _ _ _ h => h) (by rfl) ?_ hHeld ?_
            rotate_left
            · (intro w hSw; (try dsimp only at hSw); go_simp; try with_reducible rfl)
            simp only [Act.put, List.setIfInBounds_toArray, List.set_cons_zero, List.set_cons_succ]
            refine take_at (i := 4) 209 (v := ?_) rfl rfl (by kernel_rfl) (by kernel_rfl) (by kernel_rfl) (fun _ _ _ h => h) (by rfl) ?_ hHeld ?_
            rotate_left
            · (intro w hSw; (try dsimp only at hSw); go_simp; try with_reducible rfl)
            simp only [Act.put, List.setIfInBounds_toArray, List.set_cons_zero, List.set_cons_succ]
            refine take_at (i := 5) 210 (v := ?_) rfl rfl (by kernel_rfl) (by kernel_rfl) (by kernel_rfl) (fun _ _ _ h => h) (by rfl) ?_ hHeld ?_
            rotate_left
            · (intro w hSw; (try dsimp only at hSw); go_simp; try with_reducible rfl)
            simp only [Act.put, List.setIfInBounds_toArray, List.set_cons_zero, List.set_cons_succ]
            refine take_at (i := 6) 211 (v := ?_) rfl rfl (by kernel_rfl) (by kernel_rfl) (by kernel_rfl) (fun _ _ _ h => h) (by rfl) ?_ hHeld ?_
            rotate_left
            · (intro w hSw; (try dsimp only at hSw); go_simp; try with_reducible rfl)
            simp only [Act.put, List.setIfInBounds_toArray, List.set_cons_zero, List.set_cons_succ]
            refine take_at (i := 7) 212 (v := ?_) rfl rfl (by kernel_rfl) (by kernel_rfl) (by kernel_rfl) (fun _ _ _ h => h) (by rfl) ?_ hHeld ?_
            rotate_left
            · (intro w hSw; (try dsimp only at hSw); go_simp; try with_reducible rfl)
            simp only [Act.put, List.setIfInBounds_toArray, List.set_cons_zero, List.set_cons_succ]
            refine take_at (i := 8) 213 (v := ?_) rfl rfl (by kernel_rfl) (by kernel_rfl) (by kernel_rfl) (fun _ _ _ h => h) (by rfl) ?_ hHeld ?_
            rotate_left
            · (intro w hSw; (try dsimp only at hSw); go_simp; try with_reducible rfl)
            simp only [Act.put, List.setIfInBounds_toArray, List.set_cons_zero, List.set_cons_succ]
            refine wpAnyH_done (by kernel_rfl) ?_ _
            go_wp2
            go_roundw
            case rel => exact ⟨m + 1, by omega, by go_num, HB6.out.drew⟩
            case measure => simp [intOf]; omega
          · obtain rfl : m = M := by omega
            have hmI : ¬ ((m : Int) < (m : Int)) := by omega
            clear hb6
            have HV6 : Hid (Below wr.heap.size wr v6) := below_next (below_next HB1.out HB2.out) HB6.out
            go_wp2_with fail
            refine Calls.mono (HLX.out v6 HV6.out) ?_
            rintro e w9 ⟨rfl, hw9⟩
            have hw9 := hw9.symm
            subst hw9
            rw [← HTT.out]
            go_wp2_with fail
            refine Calls.mono (HLY.out v6 HV6.out) ?_
            rintro e w9 ⟨rfl, hw9⟩
            have hw9 := hw9.symm
            subst hw9
            rw [← HTT.out]
            go_wp2
            go_ret
            exact ⟨rfl, HBL.out _ (HBEL.out.trans (HV6.out.mono HSZ.out))⟩
  · have hzo : size < 4 ∨ 64 < size := by omega
    refine Calls.mono (new_noU size hzo W) ?_
    rintro e w1 ⟨rfl, hw1⟩
    have hw1 := hw1.symm
    subst hw1
    go_wp2_with fail
    refine Calls.mono (new_noS size hzo W) ?_
    rintro e w1 ⟨rfl, hw1⟩
    have hw1 := hw1.symm
    subst hw1
    have HT0 : Hid (Twn B W (.pointer none) (.pointer none) (fun _ => False) 0) := .inl ⟨rfl, rfl, rfl⟩
    have HB0 : Hid (Below B W W) := Below.refl _ _
    go_upto_region 3 with fail
    go_cut [9] from 40 to 45 (fun c9 wx => c9 = .bool false ∧ wx = W)
    case first =>
      by_cases h4 : 4 ≤ size
      · have h5 : ¬ size ≤ 64 := by omega
        clear hz
        go_wp2
        go_meet
        exact ⟨rfl, rfl⟩
      · clear hz
        go_wp2
        go_meet
        exact ⟨rfl, rfl⟩
    case rest =>
      obtain ⟨rfl, hwc⟩ := hcut
      have hwc := hwc.symm
      subst hwc
      go_wp2_with fail
      refine Calls.mono (num_t _ _) ?_
      rintro e w9 ⟨rfl, hw9⟩
      have hw9 := hw9.symm
      subst hw9
      go_wp2_with fail
      refine Calls.mono (num_t _ _) ?_
      rintro e w9 ⟨rfl, hw9⟩
      have hw9 := hw9.symm
      subst hw9
      go_wp2_with fail
      refine Calls.mono (num_t _ _) ?_
      rintro e w9 ⟨rfl, hw9⟩
      have hw9 := hw9.symm
      subst hw9
      go_wp2_with fail
      go_loopw [10] (fun i wr => ∃ (k : Nat) (F : Nat → Prop), k ≤ N ∧ i = .int .i64 (k : Int) ∧ Twn B wr (.pointer none) (.pointer none) F k ∧ Below B W wr) (fun i _ => N - (intOf i).toNat)
      case atStart => exact ⟨0, _, Nat.zero_le _, rfl, HT0.out, HB0.out⟩
      case round =>
        obtain ⟨k, F, hk, rfl, htw, hbel⟩ := hrel
        have HT : Hid (Twn B wr (.pointer none) (.pointer none) F k) := htw
        have HBEL : Hid (Below B W wr) := hbel
        have HSZ : Hid (B ≤ wr.heap.size) := (show _ ≤ _ by rw [HBB.out]; exact hbel.size)
        clear htw hbel
        by_cases hlt : k < N
        · have hkx : k < xs.length := by have := HN.out; omega
          obtain ⟨b, o, rfl, hr⟩ := HR.out k hkx
          obtain ⟨kd, t1, t2, tn, hx⟩ : ∃ kd t1 t2 tn, xs[k] = (kd, ⟨(t1, t2), tn⟩) := ⟨_, _, _, _, rfl⟩
          rw [hx] at hr
          have HRX : Hid (wr.rangeAt b (o + k * 4) (opv (kd, ⟨(t1, t2), tn⟩))) := rangeAt_below hr (HBL.out wr HBEL.out)
          have hki : (k : Int) < (N : Int) := by omega
          have hk0 : (0 : Int) ≤ (k : Int) := by omega
          have hk42 : k ≤ 4398046511104 := by omega
          obtain ⟨w3, hw3⟩ : ∃ X : World, X = wr.alloc (.cells #[.int .i64 kd, .int .u64 (t1 : Int), .int .u64 (t2 : Int), .int .u64 (tn : Int)] tOp) := ⟨_, rfl⟩
          obtain ⟨E, hE⟩ : ∃ E, E = wr.heap.size := ⟨_, rfl⟩
          have HB3 : Hid (Below wr.heap.size wr w3) := (show Below _ _ _ by rw [hw3]; exact al (Below.refl _ _) _)
          have HE3 : Hid (w3.heap[E]? = some (.cells #[.int .i64 kd, .int .u64 (t1 : Int), .int .u64 (t2 : Int), .int .u64 (tn : Int)] tOp (0, 0))) := (show _ = _ by rw [hw3, hE]; exact heap_alloc_new wr _)
          have HFE : Hid (¬ F E) := (fun h9 => by have := HT.out.lt E h9; omega)
          clear hr hx
          go_upto_region 10 with (first | (refine wpList_load_mid rfl tOp _ rfl b (o + k * 4) rfl (opv (kd, ⟨(t1, t2), tn⟩)) _ HRX.out Try.underlying36 rfl info_opB ?_))
          rw [← hw3]
          simp only [← hE]
          clear hw3 hE
          obtain ⟨w4, hw4⟩ : ∃ X : World, X = w3.alloc (.cells #[.int .u8 ((tn : Int) % 256)] 5) := ⟨_, rfl⟩
          have HB4 : Hid (Below wr.heap.size wr w4) := (show Below _ _ _ by rw [hw4]; exact below_next HB3.out (al (Below.refl _ _) _))
          have hcv : (convert 37 9 (.slice (some ⟨w3.heap.size, 0, none⟩) 1 1)).run Try.prog (w3.alloc (.cells #[.int .u8 ((tn : Int) % 256)] 5)) = .ok (Str.tw tn) (w3.alloc (.cells #[.int .u8 ((tn : Int) % 256)] 5)) := conv_one _ _ tn (heap_alloc_new w3 _)
          have HCV : Hid (∀ (u : World) (n : Nat), (convert 37 9 (.slice (some ⟨u.heap.size, 0, none⟩) 1 1)).run Try.prog (u.alloc (.cells #[.int .u8 ((n : Int) % 256)] 5)) = .ok (Str.tw n) (u.alloc (.cells #[.int .u8 ((n : Int) % 256)] 5))) := (fun u n => conv_one _ _ n (heap_alloc_new u _))
          have hE3 : w3.cell? ⟨E, 3, none⟩ = some (.int .u64 (tn : Int)) := by rw [cell_of_row _ _ _ _ _ _ HE3.out]; rfl
          have HE4 : Hid (w4.heap[E]? = some (.cells #[.int .i64 kd, .int .u64 (t1 : Int), .int .u64 (t2 : Int), .int .u64 (tn : Int)] tOp (0, 0))) := (show _ = _ by rw [hw4]; exact ((al (Below.refl w3.heap.size w3) _).block E (Array.getElem?_eq_some_iff.1 HE3.out).1).trans HE3.out)
          go_upto_region 11 with fail
          rw [← hw4]
          clear hw4 hcv hE3
          have hE4 : w4.cell? ⟨E, 0, none⟩ = some (.int .i64 kd) := by rw [cell_of_row _ _ _ _ _ _ HE4.out]; rfl
          have HT4 : Hid (Twn B w4 (.pointer none) (.pointer none) F k) := HT.out.below HB4.out
          have HB14 : Hid (Below B W w4) := HBEL.out.trans (HB4.out.mono HSZ.out)
          have HSZ4 : Hid (B ≤ w4.heap.size) := (show _ ≤ _ from Nat.le_trans HSZ.out HB4.out.size)
          have HLS : Hid (∀ u, (u.heap[E]? = some (.cells #[.int .i64 kd, .int .u64 (t1 : Int), .int .u64 (t2 : Int), .int .u64 (tn : Int)] tOp (0, 0))) → World.rangeAt u E 1 (sc (t1, t2))) := (fun u hu => box_offB hu)
          have HCB : Hid (∀ u, Chg F w4 u → Below B W u) := (fun u hu => HB14.out.trans (hu.below HT4.out.ge HSZ4.out))
          have HCE : Hid (∀ u, Chg F w4 u → u.heap[E]? = some (.cells #[.int .i64 kd, .int .u64 (t1 : Int), .int .u64 (t2 : Int), .int .u64 (tn : Int)] tOp (0, 0))) := (fun u hu => hu.old HE4.out HFE.out)
          by_cases h1 : kd = 1
          · subst h1
            have hls : ∀ u, (u.heap[E]? = some (.cells #[.int .i64 1, .int .u64 (t1 : Int), .int .u64 (t2 : Int), .int .u64 (tn : Int)] tOp (0, 0))) → (Instr.loadAt tSt (.pointer (some ⟨E, 1, none⟩))).run Try.prog u = .ok (sv (t1, t2)) u := fun u hu => load_st u _ _ (t1, t2) (HLS.out u hu)
            have hlv : ∀ u : World, (u.heap[E]? = some (.cells #[.int .i64 1, .int .u64 (t1 : Int), .int .u64 (t2 : Int), .int .u64 (tn : Int)] tOp (0, 0))) → u.cell? ⟨E, 3, none⟩ = some (.int .u64 (tn : Int)) := fun u hu => by rw [cell_of_row _ _ _ _ _ _ hu]; rfl
            have hE9 : w4.drew.heap[E]? = some (.cells #[.int .i64 1, .int .u64 (t1 : Int), .int .u64 (t2 : Int), .int .u64 (tn : Int)] tOp (0, 0)) := HE4.out
            go_upto_region 13 with fail
            refine wp_region_held_drew (S := (fun u => u.heap[E]? = some (.cells #[.int .i64 1, .int .u64 (t1 : Int), .int .u64 (t2 : Int), .int .u64 (tn : Int)] tOp (0, 0)))) (by kernel_rfl) (by first | exact hE9 | assumption) (fun hHeld => ?_)
            refine take_at (i := 0) 89 (v := ?_) rfl rfl (by kernel_rfl) (by kernel_rfl) (by kernel_rfl) (fun _ _ _ h => h) (by rfl) ?_ hHeld ?_
            rotate_left
            · (intro w hSw; (try dsimp only at hSw); go_simp; try with_reducible rfl)
            simp only [Act.put, List.setIfInBounds_toArray, List.set_cons_zero, List.set_cons_succ]
            refine take_at (i := 1) 90 (v := ?_) rfl rfl (by kernel_rfl) (by kernel_rfl) (by kernel_rfl) (fun _ _ _ h => h) (by rfl) ?_ hHeld ?_
            rotate_left
            · (intro w hSw; (try dsimp only at hSw); go_simp; try with_reducible rfl)
            simp only [Act.put, List.setIfInBounds_toArray, List.set_cons_zero, List.set_cons_succ]
            refine take_at (i := 2) 91 (v := sv (t1, t2)) rfl rfl (by kernel_rfl) (by kernel_rfl) (by kernel_rfl) (fun _ _ _ h => h) (by rfl) ?_ hHeld ?_
            · (intro w hSw; refine exec_load (by rfl) ?_; exact hls w hSw)
            simp only [Act.put, List.setIfInBounds_toArray, List.set_cons_zero, List.set_cons_succ]
            refine take_at (i := 3) 92 (v := ?_) rfl rfl (by kernel_rfl) (by kernel_rfl) (by kernel_rfl) (fun _ _ _ h => h) (by rfl) ?_ hHeld ?_
            rotate_left
            · (intro w hSw; (try dsimp only at hSw); go_simp; try with_reducible rfl)
            simp only [Act.put, List.setIfInBounds_toArray, List.set_cons_zero, List.set_cons_succ]
            refine take_at (i := 4) 93 (v := ?_) rfl rfl (by kernel_rfl) (by kernel_rfl) (by kernel_rfl) (fun _ _ _ h => h) (by rfl) ?_ hHeld ?_
            rotate_left
            · (intro w hSw; (try dsimp only at hSw); go_simp; try with_reducible rfl)
            simp only [Act.put, List.setIfInBounds_toArray, List.set_cons_zero, List.set_cons_succ]
            refine take_at (i := 6) 95 (v := ?_) rfl rfl (by kernel_rfl) (by kernel_rfl) (by kernel_rfl) (fun _ _ _ h => h) (by rfl) ?_ hHeld ?_
            rotate_left
            · (intro w hSw; (try dsimp only at hSw); go_simp; try with_reducible rfl)
            simp only [Act.put, List.setIfInBounds_toArray, List.set_cons_zero, List.set_cons_succ]
            refine take_at (i := 7) 96 (v := ?_) rfl rfl (by kernel_rfl) (by kernel_rfl) (by kernel_rfl) (fun _ _ _ h => h) (by rfl) ?_ hHeld ?_
            rotate_left
            · (intro w hSw; (try dsimp only at hSw); go_simp; try with_reducible rfl)
            simp only [Act.put, List.setIfInBounds_toArray, List.set_cons_zero, List.set_cons_succ]
            refine take_at (i := 8) 97 (v := sv (t1, t2)) rfl rfl (by kernel_rfl) (by kernel_rfl) (by kernel_rfl) (fun _ _ _ h => h) (by rfl) ?_ hHeld ?_
            · (intro w hSw; refine exec_load (by rfl) ?_; exact hls w hSw)
            simp only [Act.put, List.setIfInBounds_toArray, List.set_cons_zero, List.set_cons_succ]
            refine take_at (i := 9) 98 (v := ?_) rfl rfl (by kernel_rfl) (by kernel_rfl) (by kernel_rfl) (fun _ _ _ h => h) (by rfl) ?_ hHeld ?_
            rotate_left
            · (intro w hSw; (try dsimp only at hSw); go_simp; try with_reducible rfl)
            simp only [Act.put, List.setIfInBounds_toArray, List.set_cons_zero, List.set_cons_succ]
            refine run_at (i := 5) rfl (by kernel_rfl) (by rfl) (fun K hK => ?_)
            simp only [List.getElem_toArray, List.getElem_cons_zero, List.getElem_cons_succ]
            go_simp
            first | (go_at_call 13; refine Calls.mono (tput (HT4.out.below (Below.refl _ _).drew) hk42 HSZ4.out t1 t2 tn) ?_; rintro e v1 ⟨ok, rfl, hch1, hnx⟩; have hE5 := HCE.out v1 ((Chg.of_below (F := F) (Below.refl w4.heap.size w4).drew).trans hch1 (fun b hb => .inl hb)); have HNX : Hid _ := hnx; clear hnx hch1) | (go_at_call 14; refine Calls.mono HNX.out ?_; rintro e v2 ⟨rfl, hch2, F2, htw2⟩; have HCH2 : Hid (Chg F w4 v2) := ((Chg.of_below (F := F) (Below.refl w4.heap.size w4).drew).trans hch2 (fun b hb => .inl hb)); have hE6 := HCE.out v2 HCH2.out; have HTW2 : Hid (Twn B v2 (.pointer none) (.pointer none) F2 (k + 1)) := htw2; clear htw2 hch2)
            go_wp2_with fail
            refine hK.out _ _ (by first | exact hE9 | assumption) ?_
            clear hK K
            intro hHeld2
            clear hHeld
            have hHeld := hHeld2
            clear hHeld2
            try simp only [Act.put, List.setIfInBounds_toArray, List.set_cons_zero, List.set_cons_succ]
            refine run_at (i := 10) rfl (by kernel_rfl) (by rfl) (fun K hK => ?_)
            simp only [List.getElem_toArray, List.getElem_cons_zero, List.getElem_cons_succ]
            go_simp
            first | (go_at_call 13; refine Calls.mono (tput (HT4.out.below (Below.refl _ _).drew) hk42 HSZ4.out t1 t2 tn) ?_; rintro e v1 ⟨ok, rfl, hch1, hnx⟩; have hE5 := HCE.out v1 ((Chg.of_below (F := F) (Below.refl w4.heap.size w4).drew).trans hch1 (fun b hb => .inl hb)); have HNX : Hid _ := hnx; clear hnx hch1) | (go_at_call 14; refine Calls.mono HNX.out ?_; rintro e v2 ⟨rfl, hch2, F2, htw2⟩; have HCH2 : Hid (Chg F w4 v2) := ((Chg.of_below (F := F) (Below.refl w4.heap.size w4).drew).trans hch2 (fun b hb => .inl hb)); have hE6 := HCE.out v2 HCH2.out; have HTW2 : Hid (Twn B v2 (.pointer none) (.pointer none) F2 (k + 1)) := htw2; clear htw2 hch2)
            go_wp2_with fail
            refine hK.out _ _ (by first | exact hE9 | assumption) ?_
            clear hK K
            intro hHeld2
            clear hHeld
            have hHeld := hHeld2
            clear hHeld2
            try simp only [Act.put, List.setIfInBounds_toArray, List.set_cons_zero, List.set_cons_succ]
            refine take_at (i := 11) 100 (v := ?_) rfl rfl (by kernel_rfl) (by kernel_rfl) (by kernel_rfl) (fun _ _ _ h => h) (by rfl) ?_ hHeld ?_
            rotate_left
            · (intro w hSw; (try dsimp only at hSw); go_simp; try with_reducible rfl)
            simp only [Act.put, List.setIfInBounds_toArray, List.set_cons_zero, List.set_cons_succ]
            refine wpAnyH_done (by kernel_rfl) ?_ _
            clear hE5 hE6 hE9 hls hlv hE4
            go_wp2
            go_roundw
            case rel => exact ⟨k + 1, _, by omega, by go_num, HTW2.out, HCB.out _ HCH2.out⟩
            case measure => simp [intOf]; omega
          · have g1 : (kd == 1) = false := by simpa using h1
            by_cases h2 : kd = 2
            · subst h2
              go_wp2_with (first | (refine wpList_load_mid rfl tSt _ rfl E 1 rfl (sc (t1, t2)) _ (HLS.out _ HE4.out) Try.underlying34 rfl info_st ?_))
              refine Calls.mono (trem HT4.out hk42 HSZ4.out t1 t2) ?_
              rintro e v1 ⟨vv, ok, rfl, hch1, hnx⟩
              have HNX : Hid _ := hnx
              have HCH1 : Hid (Chg F w4 v1) := hch1
              clear hnx hch1 hE4
              go_wp2_with (first | (refine wpList_load_mid rfl tSt _ rfl E 1 rfl (sc (t1, t2)) _ (HLS.out _ (HCE.out v1 HCH1.out)) Try.underlying34 rfl info_st ?_))
              refine Calls.mono HNX.out ?_
              rintro e v2 ⟨ww, rfl, hch2, F2, htw2⟩
              have HCH2 : Hid (Chg F w4 v2) := hch2
              have HTW2 : Hid (Twn B v2 (.pointer none) (.pointer none) F2 k) := htw2
              clear htw2 hch2 HNX
              go_wp2
              go_roundw
              case rel => exact ⟨k + 1, _, by omega, by go_num, HTW2.out.mono (Nat.le_succ _), HCB.out _ HCH2.out⟩
              case measure => simp [intOf]; omega
            · have g2 : (kd == 2) = false := by simpa using h2
              by_cases h3 : kd = 3
              · subst h3
                go_wp2_with (first | (refine wpList_load_mid rfl tSt _ rfl E 1 rfl (sc (t1, t2)) _ (HLS.out _ HE4.out) Try.underlying34 rfl info_st ?_))
                refine Calls.mono (tget HT4.out hk42 t1 t2) ?_
                rintro e v1 ⟨n9, ok, rfl, hb1, hnx⟩
                have HNX : Hid _ := hnx
                have HBV1 : Hid (Below w4.heap.size w4 v1) := hb1
                clear hnx hb1 hE4
                go_wp2_with (first | (refine wpList_load_mid rfl tSt _ rfl E 1 rfl (sc (t1, t2)) _ (HLS.out _ (HCE.out v1 (Chg.of_below HBV1.out))) Try.underlying34 rfl info_st ?_))
                refine Calls.mono HNX.out ?_
                rintro e v2 ⟨rfl, hb2⟩
                have HBV2 : Hid (Below w4.heap.size w4 v2) := below_next HBV1.out hb2
                have HAB : Hid (∀ ob, Below w4.heap.size w4 (v2.alloc ob)) := (fun ob => al HBV2.out ob)
                clear hb2 HNX
                cases ok
                case false =>
                  simp only [Bool.false_eq_true, if_false]
                  go_wp2
                  go_roundw
                  case rel => exact ⟨k + 1, _, by omega, by go_num, (HT4.out.below HBV2.out).mono (Nat.le_succ _), HCB.out _ (Chg.of_below HBV2.out)⟩
                  case measure => simp [intOf]; omega
                case true =>
                  simp only [if_true]
                  have hcv := HCV.out v2 n9
                  go_wp2
                  go_roundw
                  case rel => exact ⟨k + 1, _, by omega, by go_num, (HT4.out.below (HAB.out _)).mono (Nat.le_succ _), HCB.out _ (Chg.of_below (HAB.out _))⟩
                  case measure => simp [intOf]; omega
              · have g3 : (kd == 3) = false := by simpa using h3
                by_cases h6 : kd = 6
                · subst h6
                  go_wp2_with (first | (refine wpList_load_mid rfl tSt _ rfl E 1 rfl (sc (t1, t2)) _ (HLS.out _ HE4.out) Try.underlying34 rfl info_st ?_))
                  refine Calls.mono (tplace HT4.out hk42 t1 t2) ?_
                  rintro e v1 ⟨p9, i9, ok, rfl, hb1, hnx⟩
                  have HNX : Hid _ := hnx
                  have HBV1 : Hid (Below w4.heap.size w4 v1) := hb1
                  clear hnx hb1 hE4
                  go_wp2_with (first | (refine wpList_load_mid rfl tSt _ rfl E 1 rfl (sc (t1, t2)) _ (HLS.out _ (HCE.out v1 (Chg.of_below HBV1.out))) Try.underlying34 rfl info_st ?_))
                  refine Calls.mono HNX.out ?_
                  rintro e v2 ⟨rfl, hb2⟩
                  have HBV2 : Hid (Below w4.heap.size w4 v2) := below_next HBV1.out hb2
                  clear hb2 HNX
                  go_wp2
                  go_roundw
                  case rel => exact ⟨k + 1, _, by omega, by go_num, (HT4.out.below HBV2.out).mono (Nat.le_succ _), HCB.out _ (Chg.of_below HBV2.out)⟩
                  case measure => simp [intOf]; omega
                · have g6 : (kd == 6) = false := by simpa using h6
                  go_wp2
                  go_roundw
                  case rel => exact ⟨k + 1, _, by omega, by go_num, HT4.out.mono (Nat.le_succ _), HB14.out⟩
                  case measure => simp [intOf]; omega
        · obtain rfl : k = N := by omega
          have hkI : ¬ ((k : Int) < (k : Int)) := by omega
          obtain ⟨Q, hQl, hpx, hpy, hlx, hly⟩ := tpages HT.out (by omega)
          have HPX : Hid _ := hpx
          have HPY : Hid _ := hpy
          have HLX : Hid _ := hlx
          have HLY : Hid _ := hly
          obtain ⟨M, hM⟩ : ∃ M, M = Q.length := ⟨_, rfl⟩
          have HM : Hid (M = Q.length) := hM
          rw [← hM] at hQl
          obtain ⟨T, hT⟩ : ∃ T, T = Q.flatten.length := ⟨_, rfl⟩
          have HTT : Hid (T = Q.flatten.length) := hT
          clear hpx hpy hlx hly hM hT
          go_wp2_with fail
          refine Calls.mono (HPX.out wr (Below.refl _ _)) ?_
          rintro e v1 ⟨va, rfl, hoa, hb1⟩
          rw [← HM.out] at hoa
          have HB1 : Hid (Below wr.heap.size wr v1) := hb1
          have HOA : Hid (v1.ownsRow wr.heap.size 3 1 va M (cnt Q)) := hoa
          obtain ⟨pa, qa, hva⟩ : ∃ pa qa, va = .slice pa M qa := by
            rcases hoa.2 with ⟨e, h0⟩ | ⟨g9, c9, cur, e, -⟩
            · exact ⟨none, 0, by rw [h0]; exact e⟩
            · exact ⟨_, _, e⟩
          subst hva
          clear hoa hb1
          go_wp2_with fail
          refine Calls.mono (HPY.out v1 HB1.out) ?_
          rintro e v2 ⟨vb, rfl, hob, hb2⟩
          rw [← HM.out] at hob
          have HB2 : Hid (Below v1.heap.size v1 v2) := hb2
          have HOB : Hid (v2.ownsRow v1.heap.size 3 1 vb M (cnt Q)) := hob
          obtain ⟨pb, qb, hvb⟩ : ∃ pb qb, vb = .slice pb M qb := by
            rcases hob.2 with ⟨e, h0⟩ | ⟨g9, c9, cur, e, -⟩
            · exact ⟨none, 0, by rw [h0]; exact e⟩
            · exact ⟨_, _, e⟩
          subst hvb
          clear hob hb2
          have HCEL : Hid (∀ u, Below v2.heap.size v2 u → ∀ m, m < M → ∃ (ga gb : Nat), pa = some ⟨ga, 0, none⟩ ∧ pb = some ⟨gb, 0, none⟩ ∧ u.cell? ⟨ga, m, none⟩ = some (.int .i64 ((Q.getD m []).length : Int)) ∧ u.cell? ⟨gb, m, none⟩ = some (.int .i64 ((Q.getD m []).length : Int))) := (fun u hu m hm => by
            have hmQ : m < Q.length := by have := HM.out; omega
            have hcn : (cnt Q)[m]? = some (.int .i64 ((Q.getD m []).length : Int)) := by
              unfold cnt
              rw [List.getElem?_map, List.getElem?_eq_getElem hmQ]
              simp [List.getD, hmQ]
            have h1 := HOA.out
            have h2 := HOB.out
            rcases HOA.out.2 with ⟨e, h0⟩ | ⟨ga, c9, cur, e, -, hga, -⟩
            · omega
            · rcases HOB.out.2 with ⟨e', h0⟩ | ⟨gb, c9', cur', e', -, hgb, -⟩
              · omega
              · cases e; cases e'
                have q1 := (World.ownsRow.cellAt h1 m (by omega)).trans hcn
                have q2 := (World.ownsRow.cellAt h2 m (by omega)).trans hcn
                refine ⟨ga, gb, rfl, rfl, ?_, ?_⟩
                · have h12 := below_next HB2.out hu
                  exact (h12.cell (World.block_lt_of_cell? v1 _ q1)).trans q1
                · exact (hu.cell (World.block_lt_of_cell? v2 _ q2)).trans q2)
          go_wp2_with fail
          go_loopw [29] (fun j wr5 => ∃ m : Nat, m ≤ M ∧ j = .int .i64 (m : Int) ∧ Below v2.heap.size v2 wr5) (fun j _ => M - (intOf j).toNat)
          case atStart => exact ⟨0, Nat.zero_le _, rfl, Below.refl _ _⟩
          case round =>
            obtain ⟨m, hm, rfl, hb6⟩ := hrel
            rename World => v6
            have HB6 : Hid (Below v2.heap.size v2 v6) := hb6
            by_cases hlm : m < M
            · obtain ⟨ga, gb, rfl, rfl, -⟩ := HCEL.out v6 hb6 m hlm
              obtain ⟨zz, hzz⟩ : ∃ zz : Int, zz = ((Q.getD m []).length : Int) := ⟨_, rfl⟩
              have hA : ∀ u, Below v2.heap.size v2 u → u.cell? ⟨ga, m, none⟩ = some (.int .i64 zz) := fun u hu => by
                obtain ⟨_, _, e1, e2, h4, h5⟩ := HCEL.out u hu m hlm
                cases e1; cases e2
                rw [hzz]; exact h4
              have hBb : ∀ u, Below v2.heap.size v2 u → u.cell? ⟨gb, m, none⟩ = some (.int .i64 zz) := fun u hu => by
                obtain ⟨_, _, e1, e2, h4, h5⟩ := HCEL.out u hu m hlm
                cases e1; cases e2
                rw [hzz]; exact h5
              have hmi : (m : Int) < (M : Int) := by omega
              have hm0 : (0 : Int) ≤ (m : Int) := by omega
              clear hzz
              go_upto_region 34 with fail
              refine wp_region_held_drew (S := (fun u => Below v2.heap.size v2 u)) (by kernel_rfl) (by first | exact hb6.drew | assumption) (fun hHeld => ?_)
              refine take_at (i := 0) 205 (v := ?_) rfl rfl (by kernel_rfl) (by kernel_rfl) (by kernel_rfl) (fun _ _ _ h => h) (by rfl) ?_ hHeld ?_
              rotate_left
              · (intro w hSw; (try dsimp only at hSw); go_simp; try with_reducible rfl)
              simp only [Act.put, List.setIfInBounds_toArray, List.set_cons_zero, List.set_cons_succ]
              refine take_at (i := 1) 206 (v := ?_) rfl rfl (by kernel_rfl) (by kernel_rfl) (by kernel_rfl) (fun _ _ _ h => h) (by rfl) ?_ hHeld ?_
              rotate_left
              · (intro w hSw; (try dsimp only at hSw); go_simp; try with_reducible rfl)
              simp only [Act.put, List.setIfInBounds_toArray, List.set_cons_zero, List.set_cons_succ]
              refine take_at (i := 2) 207 (v := ?_) rfl rfl (by kernel_rfl) (by kernel_rfl) (by kernel_rfl) (fun _ _ _ h => h) (by rfl) ?_ hHeld ?_
              rotate_left
              · (intro w hSw; (try dsimp only at hSw); go_simp; try with_reducible rfl)
              simp only [Act.put, List.setIfInBounds_toArray, List.set_cons_zero, List.set_cons_succ]
              refine take_at (i := 3) 208 (v := ?_) rfl rfl (by kernel_rfl) (by kernel_rfl) (by kernel_rfl) (fun _ _ _ h => h) (by rfl) ?_ hHeld ?_
              rotate_left
              · (intro w hSw; (try dsimp only at hSw); go_simp; try with_reducible rfl)
              simp only [Act.put, List.setIfInBounds_toArray, List.set_cons_zero, List.set_cons_succ]
              refine take_at (i := 4) 209 (v := ?_) rfl rfl (by kernel_rfl) (by kernel_rfl) (by kernel_rfl) (fun _ _ _ h => h) (by rfl) ?_ hHeld ?_
              rotate_left
              · (intro w hSw; (try dsimp only at hSw); go_simp; try with_reducible rfl)
              simp only [Act.put, List.setIfInBounds_toArray, List.set_cons_zero, List.set_cons_succ]
              refine take_at (i := 5) 210 (v := ?_) rfl rfl (by kernel_rfl) (by kernel_rfl) (by kernel_rfl) (fun _ _ _ h => h) (by rfl) ?_ hHeld ?_
              rotate_left
              · (intro w hSw; (try dsimp only at hSw); go_simp; try with_reducible rfl)
              simp only [Act.put, List.setIfInBounds_toArray, List.set_cons_zero, List.set_cons_succ]
              refine take_at (i := 6) 211 (v := ?_) rfl rfl (by kernel_rfl) (by kernel_rfl) (by kernel_rfl) (fun _ _ _ h => h) (by rfl) ?_ hHeld ?_
              rotate_left
              · (intro w hSw; (try dsimp only at hSw); go_simp; try with_reducible rfl)
              simp only [Act.put, List.setIfInBounds_toArray, List.set_cons_zero, List.set_cons_succ]
              refine take_at (i := 7) 212 (v := ?_) rfl rfl (by kernel_rfl) (by kernel_rfl) (by kernel_rfl) (fun _ _ _ h => h) (by rfl) ?_ hHeld ?_
              rotate_left
              · (intro w hSw; (try dsimp only at hSw); go_simp; try with_reducible rfl)
              simp only [Act.put, List.setIfInBounds_toArray, List.set_cons_zero, List.set_cons_succ]
              refine take_at (i := 8) 213 (v := ?_) rfl rfl (by kernel_rfl) (by kernel_rfl) (by kernel_rfl) (fun _ _ _ h => h) (by rfl) ?_ hHeld ?_
              rotate_left
              · (intro w hSw; (try dsimp only at hSw); go_simp; try with_reducible rfl)
              simp only [Act.put, List.setIfInBounds_toArray, List.set_cons_zero, List.set_cons_succ]
              refine wpAnyH_done (by kernel_rfl) ?_ _
              go_wp2
              go_roundw
              case rel => exact ⟨m + 1, by omega, by go_num, HB6.out.drew⟩
              case measure => simp [intOf]; omega
            · obtain rfl : m = M := by omega
              have hmI : ¬ ((m : Int) < (m : Int)) := by omega
              clear hb6
              have HV6 : Hid (Below wr.heap.size wr v6) := below_next (below_next HB1.out HB2.out) HB6.out
              go_wp2_with fail
              refine Calls.mono (HLX.out v6 HV6.out) ?_
              rintro e w9 ⟨rfl, hw9⟩
              have hw9 := hw9.symm
              subst hw9
              rw [← HTT.out]
              go_wp2_with fail
              refine Calls.mono (HLY.out v6 HV6.out) ?_
              rintro e w9 ⟨rfl, hw9⟩
              have hw9 := hw9.symm
              subst hw9
              rw [← HTT.out]
              go_wp2
              go_ret
              exact ⟨rfl, HBL.out _ (HBEL.out.trans (HV6.out.mono HSZ.out))⟩
end
end Go.Proofs.Ytibolgpaolnheaa
