import Derived.Test.YtnhjkipaclchiaaQH
namespace Go.Proofs.Ytnhjkipaclchiaa
set_option linter.unusedVariables false
set_option linter.unusedSimpArgs false
open Go.RowKit Go.Shelf
theorem RdP.drop {w : World} {b o : Nat} {P : List (List Ent)} (h : RdP w (some ⟨b, o, none⟩) P) (k : Nat) : RdP w (some ⟨b, o + k, none⟩) (P.drop k) := fun j hj => by
  have h1 : k + j < P.length := by have := hj; rw [List.length_drop] at this; omega
  obtain ⟨b', o', h2, a, c, h3, h4, h5, h6⟩ := h (k + j) h1
  cases h2
  refine ⟨b, o + k, rfl, a, c, ?_, ?_, h5, ?_⟩
  · rw [List.getElem_drop, show o + k + j = o + (k + j) by omega]; exact h3
  · rw [List.getElem_drop]; exact h4
  · rw [List.getElem_drop]; exact h6
theorem results_ctt {P : Program} {fn : Func} {p u v : Tmp} {ty : TypeId} (h : fn.results = #[.cell p ty, .tmp u, .tmp v]) (tmps : Array Value) (w : World) (g : Nat) (t : TypeId) (cs : Array Value) (fr : Nat × Nat) (d : TypeDesc)
    (hp : tmps.getD p undef = .pointer (some ⟨g, 0, none⟩)) (hg : w.heap[g]? = some (.cells cs t fr))
    (hu : P.underlying ty = some d) (hd : (match d with | .struct _ | .array _ _ => true | _ => false) = true) (hi : (P.info? ty).map (·.size) = some cs.size) :
    (results fn tmps).run P w = .ok (.tuple #[.agg cs, tmps.getD u undef, tmps.getD v undef]) w := by
  have hp' : tmps[p]?.getD undef = .pointer (some ⟨g, 0, none⟩) := by simpa using hp
  simp only [results, h]
  simp [Sem.run_bind, Result.andThen, hp', asAddr, run_loadVar_row w g t ty cs fr d hg hu hd hi]
section
set_option maxRecDepth 20000
set_option maxHeartbeats 3200000
theorem rising_t (pa : Option Addr) (np cap ahead : Nat) (w : World) : Calls Try.prog 54 #[.slice pa np cap, .int .i64 (ahead : Int)] w fun e w' => e = .returned (.func (.func 66) #[] #[.pointer (some ⟨w.heap.size, 0, none⟩), .pointer (some ⟨w.heap.size + 1, 0, none⟩)]) ∧ w' = (w.alloc (.cells #[.slice pa np cap] tPs)).alloc (.cells #[.int .i64 (ahead : Int)] 3) := by
  go_enter Try.func54, Try.ntmps54
  go_wp2
  go_ret
  exact ⟨rfl, rfl⟩
theorem from_t (x : Value) (b o : Nat) (n cap : Nat) (P : List (List Ent)) (s1 s2 : Nat) (w : World) (hx : PgV w x (some ⟨b, o, none⟩) n cap) (hn : n = P.length) (hcap : n ≤ cap) (h0 : 0 < n) (hp : RdP w (some ⟨b, o, none⟩) P) (hsp : SP P) (hl : n ≤ 4398046511104) (hlp : ∀ p ∈ P, p.length ≤ 100) :
    Calls Try.prog 53 #[x, sv (s1, s2)] w fun e w' => ∃ (p i : Nat) (ok : Bool), e = .returned (.tuple #[.slice (some ⟨b, o + p, none⟩) (n - p) (cap - p), .int .i64 (i : Int)]) ∧ PlaceIs P (s1, s2) p i ok ∧ p < n ∧ Below w.heap.size w w' := by
  obtain ⟨w1, hw1⟩ : ∃ X : World, X = w.alloc (.cells #[.int .u64 (s1 : Int), .int .u64 (s2 : Int)] tSt) := ⟨_, rfl⟩
  have hb1 : Below w.heap.size w w1 := by rw [hw1]; exact al (Below.refl _ _) _
  have HPL : Hid _ := place_t x (some ⟨b, o, none⟩) n cap P (s1, s2) w1 (hx.below hb1) hn (hp.below hb1) hsp hl hlp
  have HX : Hid (PgV w x (some ⟨b, o, none⟩) n cap) := hx
  have HB1 : Hid _ := hb1
  have HN : Hid _ := hn
  clear hx hp hsp hlp hn hb1
  go_enter Try.func53, Try.ntmps53
  go_wp2_with fail
  rw [← hw1]
  refine Calls.mono HPL.out ?_
  rintro e w2 ⟨p, i, ok, rfl, hpl, hb2⟩
  have hpn : p < n := by
    rcases hpl with ⟨h1, -⟩ | ⟨r, -, -, h3, -⟩
    · have := HN.out; rw [h1] at this; simp at this; omega
    · have := HN.out; omega
  have HB2 : Hid (Below w.heap.size w w2) := below_next HB1.out hb2
  have HA : Hid _ := all_t x (some ⟨b, o, none⟩) n cap w2 (PgV.below HX.out HB2.out)
  have HP : Hid _ := hpl
  have hpi : (p : Int) ≤ (n : Int) := by omega
  have hp0 : (0 : Int) ≤ (p : Int) := by omega
  have hpc : p ≤ cap := by omega
  have hpc2 : ¬ cap = p := by omega
  have hpn2 : p ≤ n := by omega
  clear hpl hb2 hw1
  go_wp2_with fail
  refine Calls.mono HA.out ?_
  rintro e z ⟨rfl, hz⟩
  have hz := hz.symm
  subst hz
  go_wp2
  refine bodyPost_ret (results_tmp2 rfl _ _ _) rfl ?_
  exact ⟨p, i, ok, by simp, HP.out, hpn, HB2.out⟩
/-- the entry that Least answers -/
theorem least_t (x : Value) (b o : Nat) (n cap : Nat) (P : List (List Ent)) (s1 s2 : Nat) (w : World) (hx : PgV w x (some ⟨b, o, none⟩) n cap) (hn : n = P.length) (hcap : n ≤ cap) (h0 : 0 < n) (hp : RdP w (some ⟨b, o, none⟩) P) (hsp : SP P) (hl : n ≤ 4398046511104) (hlp : ∀ p ∈ P, p.length ≤ 100) :
    Calls Try.prog 33 #[x, sv (s1, s2)] w fun e w' => ∃ (p i : Nat) (ok0 : Bool) (s : St) (v : Value) (ok : Bool), e = .returned (.tuple #[sv s, v, .bool ok]) ∧ PlaceIs P (s1, s2) p i ok0 ∧ ((((P.drop p).flatten.drop i) = [] ∧ s = (0, 0) ∧ v = .int .u64 0 ∧ ok = false) ∨ (∃ y, ((P.drop p).flatten.drop i).head? = some y ∧ s = y.st ∧ v = y.v ∧ ok = true)) ∧ Below w.heap.size w w' := by
  obtain ⟨w1, hw1⟩ : ∃ X : World, X = (w.alloc (.cells #[.int .u64 (s1 : Int), .int .u64 (s2 : Int)] tSt)).alloc (.cells #[.int .u64 0, .int .u64 0] tSt) := ⟨_, rfl⟩
  have hb1 : Below w.heap.size w w1 := by rw [hw1]; exact al (al (Below.refl _ _) _) _
  have HFR : Hid _ := from_t x b o n cap P s1 s2 w1 (hx.below hb1) hn hcap h0 (hp.below hb1) hsp hl hlp
  have hr1 : w1.heap[w.heap.size + 1]? = some (.cells #[.int .u64 0, .int .u64 0] tSt (0, 0)) := by rw [hw1]; exact (two_new w _ _).2
  have HB1 : Hid (Below w.heap.size w w1) := hb1
  have HR1 : Hid _ := hr1
  have HP : Hid (RdP w (some ⟨b, o, none⟩) P) := hp
  have HSP : Hid (SP P) := hsp
  have HLP : Hid (∀ p ∈ P, p.length ≤ 100) := hlp
  have HN : Hid (n = P.length) := hn
  clear hx hp hsp hlp hn hb1 hr1
  go_enter Try.func33, Try.ntmps33
  go_wp2_with fail
  rw [← hw1]
  refine Calls.mono HFR.out ?_
  rintro e w2 ⟨p, i, ok0, rfl, hpl, hpn, hb2⟩
  obtain ⟨np, hnp⟩ : ∃ np, np = n - p := ⟨_, rfl⟩
  obtain ⟨cp, hcp⟩ : ∃ cp, cp = cap - p := ⟨_, rfl⟩
  rw [← hnp, ← hcp]
  have HB2 : Hid (Below w.heap.size w w2) := below_next HB1.out hb2
  have HR2 : Hid (w2.heap[w.heap.size + 1]? = some (.cells #[.int .u64 0, .int .u64 0] tSt (0, 0))) := (hb2.block (w.heap.size + 1) (Array.getElem?_eq_some_iff.1 HR1.out).1).trans HR1.out
  have HPL : Hid (PlaceIs P (s1, s2) p i ok0) := hpl
  have HRI : Hid _ := rising_t (some ⟨b, o + p, none⟩) np cp i w2
  obtain ⟨w3, hw3⟩ : ∃ X : World, X = (w2.alloc (.cells #[.slice (some ⟨b, o + p, none⟩) np cp] tPs)).alloc (.cells #[.int .i64 (i : Int)] 3) := ⟨_, rfl⟩
  have hb3 : Below w2.heap.size w2 w3 := by rw [hw3]; exact al (al (Below.refl _ _) _) _
  have hrd3 : RdP w3 (some ⟨b, o + p, none⟩) (P.drop p) := ((HP.out.below HB2.out).below hb3).drop p
  obtain ⟨A, C, hA⟩ := hrd3.fix
  have hz2 := two_new w2 (.cells #[.slice (some ⟨b, o + p, none⟩) np cp] tPs) (.cells #[.int .i64 (i : Int)] 3)
  rw [← hw3] at hz2
  have hc2 : w3.cell? ⟨w2.heap.size, 0, none⟩ = some (.slice (some ⟨b, o + p, none⟩) np cp) := by rw [cell_of_row _ _ _ _ _ _ hz2.1]; rfl
  have hc3 : w3.cell? ⟨w2.heap.size + 1, 0, none⟩ = some (.int .i64 (i : Int)) := by rw [cell_of_row _ _ _ _ _ _ hz2.2]; rfl
  have hiP : i ≤ ((P.drop p).getD 0 []).length := by
    rcases HPL.out with ⟨h1, -⟩ | ⟨r, -, -, h3, h4, -⟩
    · have := HN.out; rw [h1] at this; simp at this; omega
    · have e9 : (P.drop p).getD 0 [] = P.getD p [] := by simp [List.getD, List.getElem?_drop]
      rw [e9]; exact h4.1
  have HFO : Hid _ := callsIn_wide.1 (firstOf_in Fence.wide 4 trivial trivial rfl (by decide) w2.heap.size (w2.heap.size + 1) ((P.drop p).flatten.drop i) w3 (fun u hu => by
    have hseq := rising_stops Fence.wide 3 trivial rfl (by decide) w2.heap.size (w2.heap.size + 1) (P.drop p) i (some ⟨b, o + p, none⟩) np cp (by rw [List.length_drop, ← HN.out]; exact hnp) (by omega) (fun q hq => HLP.out q (List.mem_of_mem_drop hq)) hiP A C (fun q hq => HSP.out.1 q (List.mem_of_mem_drop hq)) w3 hA hc2 hc3
    exact fun l J Jx W hW hJ hJx hY h0 => hseq l J Jx W (hu.trans (hW.mono hu.size)) hJ hJx hY h0))
  have HB3 : Hid (Below w.heap.size w w3) := below_next HB2.out hb3
  have HR3 : Hid (w3.heap[w.heap.size + 1]? = some (.cells #[.int .u64 0, .int .u64 0] tSt (0, 0))) := (hb3.block (w.heap.size + 1) (Array.getElem?_eq_some_iff.1 HR2.out).1).trans HR2.out
  clear hpl hb2 hnp hcp hw1 hb3 hrd3 hA hz2 hc2 hc3 hiP HFR
  go_wp2_with fail
  refine Calls.mono HRI.out ?_
  rintro e z ⟨rfl, hz⟩
  rw [← hw3] at hz
  subst hz
  clear hw3
  go_wp2_with fail
  refine Calls.mono HFO.out ?_
  rintro e w4 ⟨⟨s, v, ok, rfl, hcase⟩, hb4⟩
  have hr4 : w4.heap[w.heap.size + 1]? = some (.cells #[.int .u64 0, .int .u64 0] tSt (0, 0)) := (hb4.block (w.heap.size + 1) (Array.getElem?_eq_some_iff.1 HR3.out).1).trans HR3.out
  have HCS : Hid _ := hcase
  have HB4 : Hid (Below w.heap.size w w4) := below_next HB3.out hb4
  obtain ⟨y1, y2⟩ := s
  clear hcase hb4
  go_wp2_with (first | (refine wpList_store_row rfl tSt _ _ rfl (w.heap.size + 1) #[.int .u64 (y1 : Int), .int .u64 (y2 : Int)] rfl rfl tSt _ hr4 info_st rfl (by simp [Value.oneCell']) ?_))
  refine bodyPost_ret (results_ctt rfl _ _ (w.heap.size + 1) tSt #[.int .u64 (y1 : Int), .int .u64 (y2 : Int)] (0, 0) _ rfl (setRow_heap w4 (w.heap.size + 1) _ _ tSt _ hr4) Try.underlying34 rfl info_st) rfl ?_
  exact ⟨p, i, ok0, (y1, y2), v, ok, rfl, HPL.out, HCS.out, below_setRow HB4.out (Nat.le_succ _) _⟩
end
end Go.Proofs.Ytnhjkipaclchiaa
