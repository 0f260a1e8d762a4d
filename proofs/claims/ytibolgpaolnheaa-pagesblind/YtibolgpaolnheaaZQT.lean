import Derived.Test.YtibolgpaolnheaaQT
import Derived.Test.YtibolgpaolnheaaZQN
namespace Go.Proofs.Ytibolgpaolnheaa.Str
set_option linter.unusedVariables false
set_option linter.unusedSimpArgs false
open Go.RowKit
section
set_option maxRecDepth 20000
set_option maxHeartbeats 3200000
theorem get_t (x : Value) (pa : Option Addr) (n cap : Nat) (P : List (List Ent)) (s1 s2 : Nat) (w : World) (hx : PgV w x pa n cap) (hn : n = P.length) (hp : RdP w pa P) (hsp : SP P) (hl : n ≤ 4398046511104) (hlp : ∀ p ∈ P, p.length ≤ 100) :
    Calls Try.prog 18 #[x, sv (s1, s2)] w fun e w' => ∃ (p i : Nat) (ok : Bool) (vv : Value) (v : Nat), e = .returned (.tuple #[vv, .bool ok]) ∧ PlaceIs P (s1, s2) p i ok ∧ (ok = false → vv = .string ⟨#[]⟩) ∧ (ok = true → vv = tw v ∧ ∃ h : i < (P.getD p []).length, v = (P.getD p [])[i].n) ∧ Below w.heap.size w w' := by
  obtain ⟨w1, hw1⟩ : ∃ X : World, X = w.alloc (.cells #[.int .u64 (s1 : Int), .int .u64 (s2 : Int)] tSt) := ⟨_, rfl⟩
  have hb1 : Below w.heap.size w w1 := by rw [hw1]; exact al (Below.refl _ _) _
  have HPL : Hid _ := place_t x pa n cap P (s1, s2) w1 (hx.below hb1) hn (hp.below hb1) hsp hl hlp
  have HX : Hid (PgV w x pa n cap) := hx
  have HB1 : Hid _ := hb1
  have HN : Hid _ := hn
  have HP : Hid (RdP w pa P) := hp
  clear hx hp hsp hlp hn hb1
  go_enter Try.func18, Try.ntmps18
  go_wp2_with fail
  rw [← hw1]
  refine Calls.mono HPL.out ?_
  rintro e w2 ⟨p, i, ok, rfl, hpl, hb2⟩
  have HB2 : Hid (Below w.heap.size w w2) := below_next HB1.out hb2
  have HPI : Hid (PlaceIs P (s1, s2) p i ok) := hpl
  cases ok
  · clear hpl hb2 hw1
    go_wp2
    refine bodyPost_ret (results_tmp2 rfl _ _ _) rfl ?_
    exact ⟨p, i, false, _, 0, rfl, HPI.out, fun _ => rfl, (fun h => by cases h), HB2.out⟩
  · obtain ⟨hpP, hiP, -⟩ : ∃ (hpP : p < P.length) (hiP : i < P[p].length), True := by
      rcases hpl with ⟨-, -, -, h⟩ | ⟨r, -, -, h3, -, h5⟩
      · cases h
      · obtain ⟨h6, -⟩ := h5.1 rfl
        rw [show P.getD p [] = P[p] by simp [List.getD, h3]] at h6
        exact ⟨h3, h6, trivial⟩
    have eP : P.getD p [] = P[p] := by simp [List.getD, hpP]
    obtain ⟨b, o, hpa, a, c, hcp, hkc, hnc, hre⟩ := (RdP.below HP.out HB2.out) p hpP
    subst hpa
    obtain ⟨b2, o2, ha, hr2, -⟩ := hre i hiP
    subst ha
    obtain ⟨g, hxg, hcg⟩ : ∃ g, x = .pointer (some ⟨g, 0, none⟩) ∧ w2.cell? ⟨g, 1, none⟩ = some (.slice (some ⟨b, o, none⟩) n cap) := by
      rcases PgV.below HX.out HB2.out with ⟨-, h, -⟩ | h
      · cases h
      · exact h
    subst hxg
    obtain ⟨K0, hK0⟩ : ∃ K0, K0 = P[p].length := ⟨_, rfl⟩
    rw [← hK0] at hcp
    obtain ⟨vn, hvn⟩ : ∃ vn, vn = P[p][i].n := ⟨_, rfl⟩
    have hq2 := hr2 2 _ rfl
    simp only [ev, Ent.tv] at hq2
    rw [← hvn] at hq2
    have hpi : (p : Int) < (n : Int) := by have := HN.out; omega
    have hp0 : (0 : Int) ≤ (p : Int) := by omega
    have hii : (i : Int) < (K0 : Int) := by omega
    have hi0 : (0 : Int) ≤ (i : Int) := by omega
    have HVN : Hid (vn = P[p][i].n) := hvn
    clear hpl hb2 hw1 hr2 hre hkc hnc hK0 hvn
    go_wp2
    refine bodyPost_ret (results_tmp2 rfl _ _ _) rfl ?_
    exact ⟨p, i, true, _, vn, rfl, HPI.out, (fun h => by cases h), fun _ => ⟨rfl, by rw [eP]; exact hiP, by rw [HVN.out]; congr 1; simp only [eP]⟩, HB2.out⟩
theorem pages_t (x : Value) (pa : Option Addr) (n cap : Nat) (P : List (List Ent)) (w : World) (hx : PgV w x pa n cap) (hn : n = P.length) (hp : RdP w pa P) (hl : n ≤ 4398046511104) :
    Calls Try.prog 22 #[x] w fun e w' => ∃ v, e = .returned v ∧ w'.ownsRow w.heap.size 3 1 v n (cnt P) ∧ Below w.heap.size w w' := by
  have HA : Hid _ := all_t x pa n cap w hx
  have HN : Hid (n = P.length) := hn
  have HP : Hid (RdP w pa P) := hp
  obtain ⟨i0, hi, hz0, hz1, hz2⟩ := info_parts info_int
  clear hx hn hp
  go_enter Try.func22, Try.ntmps22
  go_wp2_with fail
  refine Calls.mono HA.out ?_
  rintro e z ⟨rfl, hz⟩
  have hz := hz.symm
  subst hz
  go_wp2
  go_loopw [3, 9] (fun v i wr => ∃ k : Nat, k ≤ n ∧ i = .int .i64 (k : Int) ∧ wr.ownsRow w.heap.size 3 1 v k (cnt (P.take k)) ∧ Below w.heap.size w wr) (fun _ i _ => n - (intOf i).toNat)
  case atStart => exact ⟨0, Nat.zero_le _, rfl, World.ownsRow_nil _ _ _ _, Below.refl _ _⟩
  case round =>
    obtain ⟨k, hk, rfl, hown, hbw⟩ := hrel
    have HBW : Hid (Below w.heap.size w wr) := hbw
    by_cases hlt : k < n
    · have hkP : k < P.length := by have := HN.out; omega
      obtain ⟨b, o, hpa, a, c, hcp, hkc, hnc, -⟩ := (RdP.below HP.out hbw) k hkP
      subst hpa
      obtain ⟨K0, hK0⟩ : ∃ K0, K0 = P[k].length := ⟨_, rfl⟩
      rw [← hK0] at hcp
      have HE : Hid (cnt (P.take (k + 1)) = cnt (P.take k) ++ [.int .i64 (K0 : Int)]) := (show cnt (P.take (k + 1)) = cnt (P.take k) ++ [.int .i64 (K0 : Int)] by rw [List.take_succ_eq_append_getElem hkP, hK0]; unfold cnt; rw [List.map_append]; rfl)
      obtain ⟨X, hX⟩ : ∃ X : World, X = wr.alloc (.cells #[.int .i64 (K0 : Int)] 3) := ⟨_, rfl⟩
      have hbX : Below wr.heap.size wr X := by rw [hX]; exact al (Below.refl _ _) _
      have HXG : Hid (X.heap[wr.heap.size]? = some (.cells #[.int .i64 (K0 : Int)] 3 (0, 0))) := (show X.heap[wr.heap.size]? = some (.cells #[.int .i64 (K0 : Int)] 3 (0, 0)) by rw [hX]; exact heap_alloc_new wr _)
      obtain ⟨V, hV⟩ : ∃ V, V = u3 := ⟨_, rfl⟩
      have HOX : Hid (X.ownsRow w.heap.size 3 1 u3 k (cnt (P.take k))) := (show X.ownsRow w.heap.size 3 1 u3 k (cnt (P.take k)) from ⟨hown.1, by
        rcases hown.2 with h0 | ⟨g', cap', cur, e, hB, hg', r⟩
        · exact .inl h0
        · exact .inr ⟨g', cap', cur, e, hB, (hbX.block g' (Array.getElem?_eq_some_iff.1 hg').1).trans hg', r⟩⟩)
      have HBX : Hid (Below w.heap.size w X) := below_next hbw hbX
      have hki : (k : Int) < (n : Int) := by omega
      have hk0 : (0 : Int) ≤ (k : Int) := by omega
      clear hK0 hbX hown hbw hkc hnc hV
      go_wp2_with (at_builtin; rw [← hX]; refine wpList_append_own_at _ rfl _ _ 46 rfl w.heap.size 3 i0 (.int .i64 0) 1 8 Try.underlying46 hi hz0 hz1 hz2 rfl (by decide) _ _ _ rfl HOX.out ⟨wr.heap.size, 0, none⟩ 1 1 [.int .i64 (K0 : Int)] rfl rfl (World.news_of_block HXG.out) (by intro u hu; simp at hu; subst hu; rfl) (by simp only [maxLen]; omega) (by omega) HBX.out.size ?_; intro v' w1 hown' hgrow _ _; have HO1 : Hid _ := hown'; have HG1 : Hid _ := hgrow; clear hown' hgrow)
      go_roundw
      case rel => exact ⟨k + 1, by omega, by go_num, by rw [HE.out]; exact HO1.out, HBX.out.grown HG1.out HBX.out.size (fun j hj => (World.ownsRow.lt HOX.out j hj).1)⟩
      case measure => simp [intOf]; omega
    · obtain rfl : k = n := by omega
      have HOW : Hid _ := hown
      clear hown
      go_wp2
      go_ret
      have h9 := HOW.out
      rw [HN.out, List.take_length] at h9
      rw [HN.out]
      exact ⟨_, rfl, h9, HBW.out⟩
end
end Go.Proofs.Ytibolgpaolnheaa.Str
