import Derived.Test.YtnhjkipaclchiabQFo
namespace Go.Proofs.Ytnhjkipaclchiab
set_option linter.unusedVariables false
set_option linter.unusedSimpArgs false
open Go.RowKit Go.Shelf
section
set_option maxRecDepth 20000
set_option maxHeartbeats 3200000
/-- the entry that Greatest answers -/
theorem greatest_t (x : Value) (b o : Nat) (n cap : Nat) (P : List (List Ent)) (s1 s2 : Nat) (w : World) (hx : PgV w x (some ⟨b, o, none⟩) n cap) (hn : n = P.length) (hcap : n ≤ cap) (h0 : 0 < n) (hp : RdP w (some ⟨b, o, none⟩) P) (hsp : SP P) (hl : n ≤ 4398046511104) (hlp : ∀ p ∈ P, p.length ≤ 100) :
    Calls Try.prog 28 #[x, sv (s1, s2)] w fun e w' => ∃ (p i : Nat) (ok0 : Bool) (s : St) (v : Value) (ok : Bool), e = .returned (.tuple #[sv s, v, .bool ok]) ∧ PlaceIs P (s1, s2) p i ok0 ∧ ((downL P (s1, s2) = [] ∧ s = (0, 0) ∧ v = .int .u64 0 ∧ ok = false) ∨ (∃ y, (downL P (s1, s2)).head? = some y ∧ s = y.st ∧ v = y.v ∧ ok = true)) ∧ Below w.heap.size w w' := by
  obtain ⟨w1, hw1⟩ : ∃ X : World, X = (w.alloc (.cells #[.int .u64 (s1 : Int), .int .u64 (s2 : Int)] tSt)).alloc (.cells #[.int .u64 0, .int .u64 0] tSt) := ⟨_, rfl⟩
  have hb1 : Below w.heap.size w w1 := by rw [hw1]; exact al (al (Below.refl _ _) _) _
  have HFR : Hid _ := upTo_t x b o n cap P s1 s2 w1 (hx.below hb1) hn hcap h0 (hp.below hb1) hsp hl hlp
  have hr1 : w1.heap[w.heap.size + 1]? = some (.cells #[.int .u64 0, .int .u64 0] tSt (0, 0)) := by rw [hw1]; exact (two_new w _ _).2
  have HB1 : Hid (Below w.heap.size w w1) := hb1
  have HR1 : Hid _ := hr1
  have HP : Hid (RdP w (some ⟨b, o, none⟩) P) := hp
  have HSP : Hid (SP P) := hsp
  have HLP : Hid (∀ p ∈ P, p.length ≤ 100) := hlp
  have HN : Hid (n = P.length) := hn
  clear hx hp hsp hlp hn hb1 hr1
  go_enter Try.func28, Try.ntmps28
  go_wp2_with fail
  rw [← hw1]
  refine Calls.mono HFR.out ?_
  rintro e w2 ⟨p, i, ok0, rfl, hpl, hpn, hb2⟩
  obtain ⟨np, hnp⟩ : ∃ np, np = p + 1 := ⟨_, rfl⟩
  obtain ⟨cnt9, hc9⟩ : ∃ c : Nat, c = (if ok0 then i + 1 else i) := ⟨_, rfl⟩
  rw [← hnp, ← hc9]
  have HB2 : Hid (Below w.heap.size w w2) := below_next HB1.out hb2
  have HR2 : Hid (w2.heap[w.heap.size + 1]? = some (.cells #[.int .u64 0, .int .u64 0] tSt (0, 0))) := (hb2.block (w.heap.size + 1) (Array.getElem?_eq_some_iff.1 HR1.out).1).trans HR1.out
  have HPL : Hid (PlaceIs P (s1, s2) p i ok0) := hpl
  have HRI : Hid _ := falling_t (some ⟨b, o, none⟩) np cap cnt9 w2
  obtain ⟨w3, hw3⟩ : ∃ X : World, X = (w2.alloc (.cells #[.slice (some ⟨b, o, none⟩) np cap] tPs)).alloc (.cells #[.int .i64 (cnt9 : Int)] 3) := ⟨_, rfl⟩
  have hb3 : Below w2.heap.size w2 w3 := by rw [hw3]; exact al (al (Below.refl _ _) _) _
  have hrd3 : RdP w3 (some ⟨b, o, none⟩) (P.take np) := ((HP.out.below HB2.out).below hb3).take np
  obtain ⟨A, C, hA⟩ := hrd3.fix
  have hz2 := two_new w2 (.cells #[.slice (some ⟨b, o, none⟩) np cap] tPs) (.cells #[.int .i64 (cnt9 : Int)] 3)
  rw [← hw3] at hz2
  have hc2 : w3.cell? ⟨w2.heap.size, 0, none⟩ = some (.slice (some ⟨b, o, none⟩) np cap) := by rw [cell_of_row _ _ _ _ _ _ hz2.1]; rfl
  have hc3 : w3.cell? ⟨w2.heap.size + 1, 0, none⟩ = some (.int .i64 (cnt9 : Int)) := by rw [cell_of_row _ _ _ _ _ _ hz2.2]; rfl
  have hpP : p < P.length := by have := HN.out; omega
  have hml : np = (P.take np).length := by rw [List.length_take]; omega
  have hlastp : (P.take np).getD (np - 1) [] = P[p] := by
    rw [show np - 1 = p by omega]
    simp [List.getD, List.getElem?_take, hnp, hpP]
  have hcnt : cnt9 ≤ ((P.take np).getD (np - 1) []).length := by
    rw [hlastp, hc9]
    obtain ⟨h8, h7, -⟩ := HPL.out.cut HSP.out hpP
    by_cases hb9 : ok0 = true
    · rw [if_pos hb9]; have := h7 hb9; omega
    · rw [if_neg hb9]; exact h8
  have HFA : Hid (∀ ps : List (Fin (P.take np).length), ps.map Fin.val = bkP (P.take np).length → fallF (P.take np) cnt9 ps = downL P (s1, s2)) := fun ps h9 => by
    rw [down_cut HPL.out HSP.out hpP cnt9 hc9, fall_all (P.take np) cnt9 p (by rw [List.length_take]; omega) ps h9, List.take_take, Nat.min_eq_left (by omega)]
    congr 2
    have h8 := hlastp
    rw [show np - 1 = p by omega] at h8
    rw [h8]
  have HFO : Hid _ := callsIn_wide.1 (firstOf_G 12 (by decide) w2.heap.size (w2.heap.size + 1) 1125899906842624 (downL P (s1, s2)) w3 (fun u hu => by
    have hku : ∀ v, KeepZ (fun k => k < w3.heap.size) u v → ∀ k, k < w3.heap.size → v.heap[k]? = w3.heap[k]? := fun v hv k hk => (hv k hk).trans (hu.block k hk)
    refine (falling_G 11 (by decide) w2.heap.size (w2.heap.size + 1) (P.take np) cnt9 np cap (some ⟨b, o, none⟩) A C (fun k => k < w3.heap.size) u hml (by omega) (fun q hq => HLP.out q (List.mem_of_mem_take hq)) (fun q hq => HSP.out.1 q (List.mem_of_mem_take hq)) hcnt 1125899906842624 (fun k hk => by omega) (fun k hk => Nat.lt_of_lt_of_le hk hu.size) (fun v hv => ⟨hA.old (hku v hv), cell_heap hc2 (hku v hv _ (World.block_lt_of_cell? w3 _ hc2)), cell_heap hc3 (hku v hv _ (World.block_lt_of_cell? w3 _ hc3))⟩)).imp ?_ ?_
    · rintro xs ⟨ps, h9, rfl⟩
      exact HFA.out ps h9
    · rintro xs ⟨ps, x, k, h9, rfl⟩
      obtain ⟨qs, hqs⟩ := bkF_ex (P.take np).length
      show _ <+: downL P (s1, s2)
      rw [← HFA.out qs hqs]
      exact fall_pre ps x k qs hqs h9))
  have HB3 : Hid (Below w.heap.size w w3) := below_next HB2.out hb3
  have HR3 : Hid (w3.heap[w.heap.size + 1]? = some (.cells #[.int .u64 0, .int .u64 0] tSt (0, 0))) := (hb3.block (w.heap.size + 1) (Array.getElem?_eq_some_iff.1 HR2.out).1).trans HR2.out
  clear hpl hb2 hnp hc9 hw1 hb3 hrd3 hA hz2 hc2 hc3 hml hlastp hcnt HFR
  go_wp2_with fail
  refine Calls.mono HRI.out ?_
  rintro e z ⟨rfl, hz⟩
  rw [← hw3] at hz
  subst hz
  clear hw3
  go_wp2_with fail
  refine Calls.mono HFO.out ?_
  rintro e w4 ⟨⟨s, v, ok, rfl, hcase⟩, hb4⟩
  have hr4 : w4.heap[w.heap.size + 1]? = some (.cells #[.int .u64 0, .int .u64 0] tSt (0, 0)) := (hb4.block (w.heap.size + 1) (Array.getElem?_eq_some_iff.1 HR3.out).1).trans HR3.out
  have HCS : Hid _ := hcase
  have HB4 : Hid (Below w.heap.size w w4) := below_next HB3.out hb4
  obtain ⟨y1, y2⟩ := s
  clear hcase hb4
  go_wp2_with (first | (refine wpList_store_row rfl tSt _ _ rfl (w.heap.size + 1) #[.int .u64 (y1 : Int), .int .u64 (y2 : Int)] rfl rfl tSt _ hr4 info_st rfl (by simp [Value.oneCell']) ?_))
  refine bodyPost_ret (results_ctt rfl _ _ (w.heap.size + 1) tSt #[.int .u64 (y1 : Int), .int .u64 (y2 : Int)] (0, 0) _ rfl (setRow_heap w4 (w.heap.size + 1) _ _ tSt _ hr4) Try.underlying33 rfl info_st) rfl ?_
  exact ⟨p, i, ok0, (y1, y2), v, ok, rfl, HPL.out, HCS.out, below_setRow HB4.out (Nat.le_succ _) _⟩
end
end Go.Proofs.Ytnhjkipaclchiab
