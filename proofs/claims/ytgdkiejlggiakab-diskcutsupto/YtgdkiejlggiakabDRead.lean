import Derived.Test.YtgdkiejlggiakabDPres
namespace Go.Proofs.Ytgdkiejlggiakab
set_option linter.unusedVariables false
set_option linter.unusedSimpArgs false
open Go.RowKit
set_option maxRecDepth 20000 in
theorem read_out (p : Nat) (a : Option Addr) (n c : Nat) (i : Int) (w : World) (h0 : w.cell? ⟨p, 0, none⟩ = some (.slice a n c)) (h : inB i n = false) :
    Calls Try.prog 16 #[.pointer (some ⟨p, 0, none⟩), .int .i64 i] w fun e w' => e = .returned (.tuple #[.slice none 0 0, .int .i64 1]) ∧ w' = w := by
  go_enter Try.func16, Try.ntmps16
  go_wp2_with (go_at_call 28; refine (has_t p a n c i _ h0).mono ?_; rintro e w1 ⟨rfl, hq⟩; have hq := hq.symm; subst hq; rw [h])
  go_ret2
  exact ⟨rfl, rfl⟩
set_option maxRecDepth 20000 in
theorem read_nil (i : Int) (w : World) : Calls Try.prog 16 #[.pointer none, .int .i64 i] w fun e w' => e = .returned (.tuple #[.slice none 0 0, .int .i64 1]) ∧ w' = w := by
  go_enter Try.func16, Try.ntmps16
  go_wp2_with (go_at_call 28; refine (has_nil i _).mono ?_; rintro e w1 ⟨rfl, hq⟩; have hq := hq.symm; subst hq)
  go_ret2
  exact ⟨rfl, rfl⟩
set_option maxRecDepth 20000 in
theorem read_off (p : Nat) (a : Option Addr) (n c : Nat) (i : Int) (w : World) (h0 : w.cell? ⟨p, 0, none⟩ = some (.slice a n c)) (h2 : w.cell? ⟨p, 2, none⟩ = some (.bool true)) (h : inB i n = true) :
    Calls Try.prog 16 #[.pointer (some ⟨p, 0, none⟩), .int .i64 i] w fun e w' => e = .returned (.tuple #[.slice none 0 0, .int .i64 5]) ∧ w' = w := by
  go_enter Try.func16, Try.ntmps16
  go_wp2_with (go_at_call 28; refine (has_t p a n c i _ h0).mono ?_; rintro e w1 ⟨rfl, hq⟩; have hq := hq.symm; subst hq; rw [h])
  go_ret2
  exact ⟨rfl, rfl⟩
/-- what Read answers of a sector -/
def readE (s : Sec) : Int := if s.torn then 40 else 0
def readB (s : Sec) : List UInt8 := if s.torn then [] else s.text
set_option maxRecDepth 20000 in
set_option maxHeartbeats 800000 in
theorem read_t (p g m i : Nat) (S : List Sec) (a : Option Addr) (c : Nat) (vs : List (List UInt8)) (w : World) (h : SecAt w p g S) (hi : i < S.length) (hm : w.cell? ⟨p, 1, none⟩ = some (.map (some m))) (h2 : w.cell? ⟨p, 2, none⟩ = some (.bool false)) (hL : Looks w m i a c vs) :
    Calls Try.prog 16 #[.pointer (some ⟨p, 0, none⟩), .int .i64 (i : Int)] w fun e w' => ∃ v, e = .returned (.tuple #[v, .int .i64 (readE (presS S[i] vs))]) ∧ Own w' w.heap.size v (readB (presS S[i] vs)) ∧ Below w.heap.size w w' := by
  have hso := afterS_ok (h.ok _ (List.getElem_mem hi)) (vs.length : Int) hL.len
  have HPR : Hid (Calls Try.prog 32 #[.pointer (some ⟨p, 0, none⟩), .int .i64 (i : Int)] w fun e w' => e = .returned (.agg (presS S[i] vs).cells.toArray) ∧ Below w.heap.size w w') := present_t p g m i S a c vs w h hi hm hL
  obtain ⟨cap, hp, -, -⟩ := h.head
  obtain ⟨s, hs⟩ : ∃ s : Sec, s = presS S[i] vs := ⟨_, rfl⟩
  rw [← hs] at HPR ⊢
  have hsok : s.ok := by rw [hs]; exact hso
  have hz := (zero_of_info info_sect).1
  obtain ⟨Z, hZ⟩ : ∃ Z : Array Value, Z = z129 := ⟨_, rfl⟩
  rw [← hZ] at hz
  have HZs : Hid (Z.size = 129) := by unfold Hid; rw [hZ]; exact z129_size
  have HIs : Hid ((Try.prog.info? 71).map (·.size) = some 129) := (zero_of_info info_sect).2
  obtain ⟨Y, hY⟩ : ∃ Y : List Value, Y = s.cells := ⟨_, rfl⟩
  have HY : Hid (Y = s.cells) := hY
  have HYl : Hid (Y.length = 129) := by unfold Hid; rw [hY]; exact Sec.cells_len hsok
  have HYs : Hid (Y.toArray.size = 129) := by unfold Hid; rw [List.size_toArray]; exact HYl.out
  have HY1 : Hid (∀ v ∈ Y, v.oneCell' = true) := by unfold Hid; rw [hY]; exact secV_one _ _
  rw [← hY] at HPR
  have hin : inB (i : Int) S.length = true := by simp [inB]; omega
  obtain ⟨xs, t⟩ := s
  have hxl : xs.length = 128 := hsok
  clear hs hso hsok hZ hY hL h
  cases t
  all_goals
    go_enter Try.func16, Try.ntmps16
    go_wp2_with (first
      | (go_at_call 28; refine (has_t p _ S.length cap i _ hp).mono ?_; rintro e w1 ⟨rfl, hq⟩; have hq := hq.symm; subst hq; rw [hin])
      | (go_at_call 32; refine HPR.out.mono ?_; rintro e w1 ⟨rfl, hb1⟩)
      | (refine wpList_store_mid rfl 71 _ _ rfl w1.heap.size 0 Y.toArray rfl rfl (by rw [HYs.out]; exact there_new _ Z _ 129 (by rw [HZs.out]; exact Nat.le_refl _)) (by rw [HIs.out, HYs.out]) (all_oneCell_toArray HY1.out) ?_
         obtain ⟨U, hU⟩ : ∃ U : World, U = (w1.alloc (.cells Z 71)).setCells w1.heap.size 0 Y := ⟨_, rfl⟩
         have hUG : U.heap[w1.heap.size]? = some (.cells Y.toArray 71 (0, 0)) := (by
           rw [hU, heap_setCells _ _ _ _ Z.toList _ (by rw [Array.toArray_toList]; exact heap_alloc_new w1 _) (by rw [HYl.out, Array.length_toList, HZs.out]; decide), splice_all _ _ (by rw [HYl.out, Array.length_toList, HZs.out])])
         have hUb : Below w.heap.size w U := (by rw [hU]; exact below_setCells (al hb1 _) hb1.size _ _)
         have hc8 : U.cell? ⟨w1.heap.size, 128, none⟩ = some (.bool _) := (by
           rw [cell_of_row _ _ 128 _ _ _ hUG, HY.out]
           simp [Sec.cells, secV, bv_length, hxl]; rfl)
         have hRd : Rd U (some ⟨w1.heap.size, 0, none⟩) xs := (by
           intro _
           refine ⟨_, _, rfl, fun j hj => ?_⟩
           rw [Nat.zero_add, cell_of_row _ _ j _ _ _ hUG, HY.out]
           simp only [Sec.cells, secV, List.getElem?_toArray]
           rw [List.getElem?_append_left (by rw [bv_length]; exact hj), bv_get xs j hj])
         show wpList _ _ _ _ _ ((w1.alloc (.cells Z 71)).setCells w1.heap.size 0 Y)
         rw [← hU]
         clear hU)
      | (go_at_call 37; refine (clone_n _ 128 128 xs hxl.symm _ hRd (fun h => by cases h) (by omega)).mono ?_; rintro e w3 ⟨v, rfl, hown, hb3⟩))
    go_ret2
    first
    | exact ⟨v, rfl, hown.base hUb.size, hUb.trans (hb3.mono hUb.size)⟩
    | exact ⟨_, rfl, World.ownsRow_nil _ _ _ _, hUb⟩
end Go.Proofs.Ytgdkiejlggiakab
