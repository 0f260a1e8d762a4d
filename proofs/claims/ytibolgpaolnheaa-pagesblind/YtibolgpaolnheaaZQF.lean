import Derived.Test.YtibolgpaolnheaaQF
import Derived.Test.YtibolgpaolnheaaZQN
namespace Go.Proofs.Ytibolgpaolnheaa.Str
set_option linter.unusedVariables false
set_option linter.unusedSimpArgs false
open Go.RowKit
variable {w w' w5 : World} {g S : Nat} {P P' : List (List Ent)} {v v' : Value} {vs vs' : List Value}
theorem row_blk {w : World} {v : Value} {n : Nat} {vs : List Value} (h : w.ownsRow 0 tPg 1 v n vs) (b : Nat) (hb : v.ownBlock = some b) : ∃ cur, w.heap[b]? = some (.cells cur tPg (0, 0)) := by
  rcases h.2 with ⟨rfl, -⟩ | ⟨g', cap, cur, rfl, -, hg, -⟩
  · cases hb
  · cases hb; exact ⟨cur, hg⟩
/-- the row of pages is another one from now on -/
theorem IdxAt.setRow (h : IdxAt w g S P v vs) (hg : w.grownBy w5 v.ownBlock) (hrow : w5.ownsRow 0 tPg 1 v' P'.length vs') (hpg : ∀ j (hj : j < P'.length), ∃ a c, vs'[j]? = some (.slice a P'[j].length c) ∧ P'[j].length ≤ c ∧ (a = none → c = 0) ∧ RdE w5 a P'[j]) :
    IdxAt (w5.setCell ⟨g, 1, none⟩ v') g S P' v' vs' ∧ Chg (foot g v) w (w5.setCell ⟨g, 1, none⟩ v') := by
  have hd5 : w5.heap[g]? = some (.cells #[.int .i64 (S : Int), v] tIx (0, 0)) := (hg.block g (Array.getElem?_eq_some_iff.1 h.hd).1 (fun e => h.ne e.symm)).trans h.hd
  have hgr : w5.grownBy (w5.setCell ⟨g, 1, none⟩ v') (some g) := ⟨rfl, rfl, rfl, by simp, fun k _ hk => heap_setCell_other w5 ⟨g, 1, none⟩ k v' (fun e => hk (by simp [e]))⟩
  have hC : Chg (fun b => b = g) w5 (w5.setCell ⟨g, 1, none⟩ v') := Chg.of_grown hgr (fun b e => by cases e; rfl)
  have hN : ∀ b, b = g → NoNum w5 b := fun b e => by subst e; exact ⟨_, _, _, hd5, by decide⟩
  refine ⟨⟨?_, ⟨hrow.1, ?_⟩, fun j hj => ?_⟩, ?_⟩
  · rw [heap_setCell_same w5 g 1 _ tIx v' hd5]
    rfl
  · rcases hrow.2 with h0 | ⟨g', cap, cur, e, hB, hg', r⟩
    · exact .inl h0
    · refine .inr ⟨g', cap, cur, e, hB, (hC.block g' (Array.getElem?_eq_some_iff.1 hg').1 (fun e2 => ?_)).trans hg', r⟩
      subst e2
      rw [hd5] at hg'
      injection hg' with h1
      injection h1 with h2 h3 h4
      exact absurd h3 (by decide)
  · obtain ⟨a, c, h1, h2, h3, h4⟩ := hpg j hj
    exact ⟨a, c, h1, h2, h3, h4.kept hC hN⟩
  · exact (Chg.of_grown (F := foot g v) hg (fun b e => .inr e)).trans hC (fun i e => .inl (.inl e))
theorem info_pg : (Try.prog.info? tPg).map (fun i => (i.zero, i.size, i.bytes)) = some (some (.slice none 0 0), 1, 24) := by kernel_rfl
section
set_option maxRecDepth 20000
set_option maxHeartbeats 3200000
theorem put_first (h : IdxAt w g S [] v vs) (hS : 1 ≤ S ∧ S ≤ 64) (s1 s2 n : Nat) :
    Calls Try.prog 14 #[.pointer (some ⟨g, 0, none⟩), sv (s1, s2), .string ⟨#[UInt8.ofNat n]⟩] w fun e w' => e = .returned (.bool true) ∧ (∃ v' vs', IdxAt w' g S [[mkE (s1, s2) n]] v' vs' ∧ (v'.ownBlock = v.ownBlock ∨ ∃ b, v'.ownBlock = some b ∧ w.heap.size ≤ b)) ∧ Chg (foot g v) w w' := by
  obtain ⟨w1, hw1⟩ : ∃ X : World, X = w.alloc (.cells #[.int .u64 (s1 : Int), .int .u64 (s2 : Int)] tSt) := ⟨_, rfl⟩
  have hb1 : Below w.heap.size w w1 := by rw [hw1]; exact al (Below.refl _ _) _
  have h1 := h.below hb1
  have HI1 : Hid (IdxAt w1 g S [] v vs) := h1
  obtain ⟨pa, cap, hv, hcap, hnil, hrd, hpg⟩ := h1.rd
  have HPL : Hid _ := place_t (.pointer (some ⟨g, 0, none⟩)) pa 0 cap [] (s1, s2) w1 hpg rfl hrd ⟨(fun p hp => by cases hp), List.Pairwise.nil⟩ (by decide) (fun p hp => by cases hp)
  have hcg0 : w.cell? ⟨g, 0, none⟩ = some (.int .i64 (S : Int)) := by rw [cell_of_row _ _ _ _ _ _ h.hd]; rfl
  have hgl : g < w.heap.size := (Array.getElem?_eq_some_iff.1 h.hd).1
  have hl3 : w1.rangeAt w.heap.size 0 (sc (s1, s2)) := by rw [hw1]; exact box_range (heap_alloc_new w _)
  have hSi : ¬ (S : Int) = 0 := by omega
  have hSb : ((S : Int) == 0) = false := by simpa using hSi
  have HB1 : Hid (Below w.heap.size w w1) := hb1
  have HV : Hid (v = .slice pa 0 cap) := hv
  clear h1 hb1 hrd hpg hcap hnil h hv
  go_enter Try.func14, Try.ntmps14
  go_wp2_with fail
  rw [← hw1]
  refine Calls.mono HPL.out ?_
  rintro e w2 ⟨p', i', ok', rfl, hpl', hb2⟩
  obtain ⟨rfl, rfl, rfl⟩ : p' = 0 ∧ i' = 0 ∧ ok' = false := by
    rcases hpl' with ⟨-, e1, e2, e3⟩ | ⟨r, -, -, h3, -⟩
    · exact ⟨e1, e2, e3⟩
    · exact absurd h3 (Nat.not_lt_zero _)
  have HI2 : Hid (IdxAt w2 g S [] v vs) := HI1.out.below hb2
  have HB2 : Hid (Below w.heap.size w w2) := below_next HB1.out hb2
  have hl4 : w2.rangeAt w.heap.size 0 (sc (s1, s2)) := rangeAt_below hl3 hb2
  have hcg1 : w2.cell? ⟨g, 1, none⟩ = some (.slice pa 0 cap) := by rw [cell_of_row _ _ _ _ _ _ HI2.out.hd, ← HV.out]; rfl
  have hgl2 : g < w2.heap.size := (Array.getElem?_eq_some_iff.1 HI2.out.hd).1
  obtain ⟨w3, hw3⟩ : ∃ X : World, X = w2.alloc (.cells #[.int .u64 (s1 : Int), .int .u64 (s2 : Int), .string ⟨#[UInt8.ofNat n]⟩] tEn) := ⟨_, rfl⟩
  have hb3 : Below w2.heap.size w2 w3 := by rw [hw3]; exact al (Below.refl _ _) _
  have HE3 : Hid (RdE w3 (some ⟨w2.heap.size, 0, none⟩) [mkE (s1, s2) n]) := rdE_one s1 s2 n (by rw [hw3]; exact heap_alloc_new w2 _)
  obtain ⟨w4, hw4⟩ : ∃ X : World, X = w3.alloc (.cells #[.slice (some ⟨w2.heap.size, 0, none⟩) 1 1] tPg) := ⟨_, rfl⟩
  have hb4 : Below w3.heap.size w3 w4 := by rw [hw4]; exact al (Below.refl _ _) _
  have HI4 : Hid (IdxAt w4 g S [] v vs) := HI2.out.below (below_next hb3 hb4)
  have HE4 : Hid (RdE w4 (some ⟨w2.heap.size, 0, none⟩) [mkE (s1, s2) n]) := HE3.out.below hb4
  have HB4 : Hid (Below w.heap.size w w4) := below_next HB2.out (below_next hb3 hb4)
  have HG4 : Hid (w4.heap[w3.heap.size]? = some (.cells #[.slice (some ⟨w2.heap.size, 0, none⟩) 1 1] tPg (0, 0))) := (show w4.heap[w3.heap.size]? = some (.cells #[.slice (some ⟨w2.heap.size, 0, none⟩) 1 1] tPg (0, 0)) by rw [hw4]; exact heap_alloc_new w3 _)
  clear hb2 hb3 hb4 hl3 hpl' HPL HI1 HB1 hw1
  obtain ⟨i0, hi, hz0, hz1, hz2⟩ := info_parts info_pg
  have HOW : Hid (w4.ownsRow 0 tPg 1 (.slice pa 0 cap) 0 vs) := (show w4.ownsRow 0 tPg 1 (.slice pa 0 cap) 0 vs by rw [← HV.out]; exact HI4.out.row)
  have hlw3 : w3.heap.size = w2.heap.size + 1 := by rw [hw3]; simp
  have HGB : Hid (w4.heap[w2.heap.size + 1]? = some (.cells #[.slice (some ⟨w2.heap.size, 0, none⟩) 1 1] tPg (0, 0))) := (show w4.heap[w2.heap.size + 1]? = some (.cells #[.slice (some ⟨w2.heap.size, 0, none⟩) 1 1] tPg (0, 0)) by rw [← hlw3]; exact HG4.out)
  clear hlw3 HG4
  go_wp2_with (first | (refine wpList_load_mid rfl tSt _ rfl w.heap.size 0 rfl (sc (s1, s2)) _ hl4 Try.underlying34 rfl info_st ?_) | (at_builtin; rw [← hw3, ← hw4]; refine wpList_append_lies _ rfl _ _ tPs rfl 0 tPg i0 _ 1 24 Try.underlying68 hi hz0 hz1 hz2 rfl (by decide) (.slice pa 0 cap) 0 vs rfl HOW.out ⟨w2.heap.size + 1, 0, none⟩ 1 1 [.slice (some ⟨w2.heap.size, 0, none⟩) 1 1] rfl rfl (World.news_of_block HGB.out) (by intro u hu; simp at hu; subst hu; rfl) (by decide) (by simp only [maxLen]; omega) (by omega) (Nat.zero_le _) w4.heap.size rfl ?_; intro g5 cap5 w5 hown5 hg5 hl5 _; have hd5 : w5.heap[g]? = some (.cells #[.int .i64 (S : Int), v] tIx (0, 0)) := (hg5.block g (Array.getElem?_eq_some_iff.1 HI4.out.hd).1 (fun e => HI4.out.ne (by rw [HV.out]; exact e.symm))).trans HI4.out.hd; have hc5 : w5.cell? ⟨g, 1, none⟩ = some (.slice pa 0 cap) := (by rw [cell_of_row _ _ _ _ _ _ hd5, ← HV.out]; rfl); have hf5 : w5.frozen? ⟨g, 1, none⟩ = false := (by simp [World.frozen?, hd5]); have HO5 : Hid (w5.ownsRow 0 tPg 1 (.slice (some ⟨g5, 0, none⟩) 1 cap5) 1 (vs ++ [.slice (some ⟨w2.heap.size, 0, none⟩) 1 1])) := hown5; have HG5 : Hid (w4.grownBy w5 v.ownBlock) := (by rw [HV.out]; exact hg5); have HL5 : Hid _ := hl5; clear hown5 hg5 hl5 hd5))
  go_ret
  have hvs : vs = [] := List.eq_nil_of_length_eq_zero HI4.out.len
  have ho5 := HO5.out
  rw [hvs, List.nil_append] at ho5
  have hE5 : RdE w5 (some ⟨w2.heap.size, 0, none⟩) [mkE (s1, s2) n] := HE4.out.kept (Chg.of_grown (F := foot g v) HG5.out (fun b e => .inr e)) (fun b e => HI4.out.noF b e)
  have h9 := HI4.out.setRow (P' := [[mkE (s1, s2) n]]) HG5.out ho5 (fun j hj => by
    have : j = 0 := by simpa using hj
    subst this
    exact ⟨_, 1, rfl, Nat.le_refl _, fun e => (by cases e), hE5⟩)
  refine ⟨rfl, ⟨_, _, h9.1, ?_⟩, (Chg.of_below HB4.out).trans h9.2 (fun i hi => .inl hi)⟩
  rcases HL5.out with e | e
  · left; rw [HV.out, e]; rfl
  · right; exact ⟨g5, rfl, by rw [e]; exact HB4.out.size⟩
end
end Go.Proofs.Ytibolgpaolnheaa.Str
