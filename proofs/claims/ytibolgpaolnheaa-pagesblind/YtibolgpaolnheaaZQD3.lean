import Derived.Test.YtibolgpaolnheaaQD3
import Derived.Test.YtibolgpaolnheaaZQD2
namespace Go.Proofs.Ytibolgpaolnheaa.Str
set_option linter.unusedVariables false
set_option linter.unusedSimpArgs false
open Go.RowKit
section
set_option maxRecDepth 20000
set_option maxHeartbeats 3200000
variable {w : World} {g n cap : Nat} {vs : List Value}
theorem row_pre (h : w.ownsRow 0 tPg 1 (.slice (some ⟨g, 0, none⟩) n cap) n vs) (i : Nat) (hi : i ≤ n) : w.ownsRow 0 tPg 1 (.slice (some ⟨g, 0, none⟩) i cap) i (vs.take i) := by
  obtain ⟨cur, h1, h2, h3, h4, h5, h6, -⟩ := row_open h
  exact row_shut h1 h2 (take_of_take h3 hi) (by omega) h5 (Nat.zero_le _)
theorem news2 {gv : Nat} {x y : Value} (hgv : w.heap[gv]? = some (.cells #[x, y] tPg (0, 0))) : ∀ t u, [x, y][t]? = some u → w.cell? ((⟨gv, 0, none⟩ : Addr).add t) = some u := World.news_of_block hgv
/-- the last page becomes two -/
theorem splitA (h : w.ownsRow 0 tPg 1 (.slice (some ⟨g, 0, none⟩) n cap) n vs) (i : Nat) (hn : n = i + 1) (gv : Nat) (x y : Value) (hgv : w.heap[gv]? = some (.cells #[x, y] tPg (0, 0))) (hx1 : x.oneCell' = true) (hy1 : y.oneCell' = true) (hl : n ≤ 4398046511104) :
    Calls Try.prog 63 #[.slice (some ⟨g, 0, none⟩) n cap, .int .i64 (i : Int), .int .i64 (n : Int), .slice (some ⟨gv, 0, none⟩) 2 2] w fun e w' => ∃ g' cap', e = .returned (.slice (some ⟨g', 0, none⟩) (n + 1) cap') ∧ w'.ownsRow 0 tPg 1 (.slice (some ⟨g', 0, none⟩) (n + 1) cap') (n + 1) (repL vs i n [x, y]) ∧ w.grownBy w' (some g) ∧ (g' = g ∨ w.heap.size ≤ g') := by
  obtain ⟨cur, hrow, hcl, htk, hnc, hcm, hvl, -⟩ := row_open h
  obtain ⟨i0, hi, hz0, hz1, hz2⟩ := info_parts info_pg
  have HOW : Hid _ := row_pre h i (by omega)
  have HVL : Hid _ := hvl
  have HGV : Hid _ := news2 hgv
  have HONE : Hid (∀ u ∈ [x, y], u.oneCell' = true) := fun u hu => by
    rcases List.mem_cons.1 hu with rfl | hu
    · exact hx1
    · obtain rfl := List.mem_singleton.1 hu; exact hy1
  have hi0 : (0 : Int) ≤ (i : Int) := by omega
  have hin : (i : Int) ≤ (n : Int) := by omega
  have hinn : i ≤ n := by omega
  have hncI : (n : Int) ≤ (cap : Int) := by omega
  have hic : (i : Int) ≤ (cap : Int) := by omega
  have hicn : i ≤ cap := by omega
  have hci : ¬ cap = i := by omega
  have hne : ¬ (i : Int) = (n : Int) := by omega
  have hneb : ((i : Int) == (n : Int)) = false := by simpa using hne
  have hlt : ¬ ((i : Int) + 2 < (n : Int)) := by omega
  have HN : Hid (n = i + 1) := hn
  clear h hrow hcl htk hcm hvl hgv hx1 hy1 hn
  go_enter Try.func63, Try.ntmps63
  go_wp2_with (at_builtin; refine wpList_append_lies _ rfl _ _ tPsl rfl 0 tPg i0 _ 1 24 Try.underlying68 hi hz0 hz1 hz2 rfl (by decide) (.slice (some ⟨g, 0, none⟩) i cap) i (vs.take i) rfl HOW.out ⟨gv, 0, none⟩ 2 2 [x, y] rfl rfl HGV.out HONE.out (by decide) (by simp only [maxLen]; omega) (by omega) (Nat.zero_le _) w.heap.size rfl ?_; intro g5 cap5 w5 hown5 hg5 hl5 _; have HO5 : Hid _ := hown5; have HG5 : Hid _ := hg5; have HL5 : Hid _ := hl5; clear hown5 hg5 hl5)
  go_ret
  have e : i + 2 = n + 1 := by have := HN.out; omega
  have ho := HO5.out
  rw [e] at ho ⊢
  refine ⟨g5, cap5, rfl, ?_, HG5.out, ?_⟩
  · have e2 : repL vs i n [x, y] = vs.take i ++ [x, y] := by
      unfold repL
      rw [List.drop_eq_nil_of_le (by rw [HVL.out]; exact Nat.le_refl _), List.append_nil]
    rw [e2]; exact ho
  · rcases HL5.out with e9 | e9
    · left; cases e9; rfl
    · right; omega
end
end Go.Proofs.Ytibolgpaolnheaa.Str
