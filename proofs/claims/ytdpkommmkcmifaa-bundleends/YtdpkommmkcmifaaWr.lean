import Derived.Test.YtdpkommmkcmifaaAppB
import Derived.Test.YtdpkommmkcmifaaRegn
namespace Go.Proofs.Ytdpkommmkcmifaa
set_option linter.unusedVariables false
set_option linter.unusedSimpArgs false
open Go.RowKit
theorem rdu_new (w : World) (n : Nat) (hn : n = w.heap.size) (C : Array Value) (t : TypeId) (fr : Nat × Nat) (ns : List Nat) (h : C.toList = ns.map fun m => .int .u64 (m : Nat)) : RdU (w.alloc (.cells C t fr)) (some ⟨n, 0, none⟩) ns := by
  subst hn
  intro _
  refine ⟨_, _, rfl, fun i hi => ?_⟩
  rw [World.cell?_alloc_mark, Nat.zero_add, ← Array.getElem?_toList, h, List.getElem?_map, List.getElem?_eq_getElem hi]
  rfl
theorem RdU.below {w w' : World} {ao : Option Addr} {ns : List Nat} (h : RdU w ao ns) (hb : Below w.heap.size w w') : RdU w' ao ns := by
  intro hp
  obtain ⟨b, o, rfl, hc⟩ := h hp
  exact ⟨b, o, rfl, fun i hi => cell_on hb (hc i hi)⟩
def dgs (ns : List Nat) : List UInt8 := ns.flatMap dg
theorem dgs_snoc (ns : List Nat) (k : Nat) (h : k < ns.length) : dgs (ns.take (k + 1)) = dgs (ns.take k) ++ dg ns[k] := by
  unfold dgs
  rw [List.take_succ_eq_append_getElem h, List.flatMap_append]
  simp
theorem dgs_len : ∀ (ns : List Nat), (∀ n ∈ ns, n < 18446744073709551616) → (dgs ns).length ≤ 10 * ns.length
  | [], _ => by simp [dgs]
  | n :: r, h => by
    have h1 := dgs_len r (fun m hm => h m (by simp [hm]))
    have h2 := (dg_len n (h n (by simp))).2
    have e : (dgs (n :: r)).length = (dg n).length + (dgs r).length := by unfold dgs; rw [List.flatMap_cons, List.length_append]
    simp only [List.length_cons]
    omega
set_option maxRecDepth 20000 in
set_option maxHeartbeats 800000 in
theorem lay_any (ao : Option Addr) (cap : Nat) (xs : List UInt8) (so : Option Addr) (m cap' : Nat) (ns : List Nat) (hm : m = ns.length) (w : World) (hx : Rd w ao xs) (hnil : ao = none → cap = 0) (hu : RdU w so ns) (hns : ∀ n ∈ ns, n < 18446744073709551616) (hp : 0 < ns.length) (hb : ns.length ≤ 1000) (hl : xs.length + 10 * ns.length ≤ 140737488351232) :
    Calls Try.prog 34 #[.slice ao xs.length cap, .slice so m cap'] w fun e w' => ∃ v, e = .returned v ∧ Own w' w.heap.size v (xs ++ dgs ns) ∧ Below w.heap.size w w' := by
  subst hm
  have HN : Hid (ao = none → cap = 0) := hnil
  have HX : Hid (Rd w ao xs) := hx
  clear hnil hx
  go_enter Try.func34, Try.ntmps34
  go_wp2
  go_loopw [0, 9] (fun v i wr => ∃ (k : Nat) (a : Option Addr) (c n : Nat), k ≤ ns.length ∧ i = .int .i64 k ∧ v = .slice a n c ∧ Hid (n = (xs ++ dgs (ns.take k)).length) ∧ Hid (Rd wr a (xs ++ dgs (ns.take k))) ∧ Hid (a = none → c = 0) ∧ Hid (0 < k → Own wr w.heap.size (.slice a n c) (xs ++ dgs (ns.take k))) ∧ Below w.heap.size w wr) (fun _ i _ => ns.length - (intOf i).toNat)
  case atStart => exact ⟨0, ao, cap, xs.length, Nat.zero_le _, rfl, rfl, by simp [Hid, dgs], by simpa [Hid, dgs] using HX.out, HN, fun h => absurd h (Nat.lt_irrefl 0), Below.refl _ _⟩
  case round =>
    obtain ⟨k, a, c, n, hk, rfl, rfl, HL, HR, HA, HO, hbel⟩ := hrel
    by_cases hlt : k < ns.length
    · obtain ⟨b, o, rfl, hc⟩ := hu hp
      have hck := cell_on hbel (hc k hlt)
      have HK : Hid (ns[k] < 18446744073709551616) := hns _ (List.getElem_mem hlt)
      have HS : Hid (xs ++ dgs (ns.take (k + 1)) = xs ++ dgs (ns.take k) ++ dg ns[k]) := by unfold Hid; rw [dgs_snoc ns k hlt, List.append_assoc]
      have HB : Hid ((xs ++ dgs (ns.take k)).length + 10 ≤ 140737488355328) := by
        have h1 := dgs_len (ns.take k) (fun m hm => hns m (List.mem_of_mem_take hm))
        unfold Hid
        rw [List.length_append]
        simp at h1
        omega
      clear hc hu
      go_wp2_with fail
      refine (appendNumber_n a n c _ HL.out ns[k] wr HR.out HA.out (by rw [HL.out]; exact HB.out) HK.out).mono ?_
      rintro e w2 ⟨v2, rfl, hown2, hb2⟩
      rw [← HS.out] at hown2
      obtain ⟨a2, c2, hv2, -, -, hn2, hr2, -⟩ := hown2.val
      obtain ⟨m2, hm2⟩ : ∃ m2, m2 = (xs ++ dgs (ns.take (k + 1))).length := ⟨_, rfl⟩
      rw [← hm2] at hv2
      subst hv2
      have HM2 : Hid (m2 = (xs ++ dgs (ns.take (k + 1))).length) := hm2
      have HN2 : Hid _ := hn2
      clear hm2 hn2
      go_wp2
      go_roundw
      case rel => exact ⟨k + 1, a2, c2, m2, by omega, by go_num, rfl, HM2, hr2, HN2, fun _ => hown2.base hbel.size, below_next hbel hb2⟩
      case measure => simp [intOf]; omega
    · obtain rfl : k = ns.length := by omega
      have HO2 : Hid (Own wr w.heap.size (.slice a n c) (xs ++ dgs ns)) := by have := HO.out hp; rwa [List.take_length] at this
      clear HO HR HL
      go_wp2
      go_ret
      exact ⟨_, rfl, HO2.out, hbel⟩
/-- the bytes of a block, of a bundle -/
def encBlk (x : Blk) : List UInt8 := dgs [x.t, x.n, x.f] ++ (dg x.d.length ++ x.d)
def encBlks (l : List Blk) : List UInt8 := l.flatMap encBlk
def encB (b : Bun) : List UInt8 := [6] ++ dgs [b.fl, b.e0, b.e1, b.e2, b.e3, b.e4, b.e5, b.tm, b.sq, b.lf, b.bl.length] ++ encBlks b.bl ++ (dg b.py.length ++ b.py)
theorem encBlks_snoc (l : List Blk) (k : Nat) (h : k < l.length) : encBlks (l.take (k + 1)) = encBlks (l.take k) ++ encBlk l[k] := by
  unfold encBlks
  rw [List.take_succ_eq_append_getElem h, List.flatMap_append]
  simp
theorem encBlk_len (x : Blk) (h : x.ok) (hd : x.d.length ≤ 64) : (encBlk x).length ≤ 104 := by
  unfold encBlk
  have h1 := dgs_len [x.t, x.n, x.f] (fun n hn => by simp at hn; rcases hn with rfl | rfl | rfl; exact h.1; exact h.2.1; exact h.2.2.1)
  have h2 := (dg_len x.d.length (by omega)).2
  simp only [List.length_append]
  simp at h1
  omega
theorem encBlks_len : ∀ (l : List Blk), (∀ x ∈ l, x.ok ∧ x.d.length ≤ 64) → (encBlks l).length ≤ 104 * l.length
  | [], _ => by simp [encBlks]
  | x :: r, h => by
    have h1 := encBlks_len r (fun m hm => h m (by simp [hm]))
    have h2 := encBlk_len x (h x (by simp)).1 (h x (by simp)).2
    have e : (encBlks (x :: r)).length = (encBlk x).length + (encBlks r).length := by unfold encBlks; rw [List.flatMap_cons, List.length_append]
    simp only [List.length_cons]
    omega
structure GoodB (b : Bun) : Prop where
  fl : b.fl < 8
  es : numsS [b.e0, b.e1, b.e2, b.e3, b.e4, b.e5] = true
  ts : numsS [b.tm, b.sq, b.lf] = true
  bl : GoodBlks b.bl
  py : b.py.length ≤ 512
theorem GoodBlks.data {l : List Blk} (h : GoodBlks l) {x : Blk} (hx : x ∈ l) : x.d.length ≤ 64 := by
  obtain ⟨i, hi, rfl⟩ := List.getElem_of_mem hx
  have := h.2 i hi
  unfold blkS dataS at this
  simp at this
  exact this.2.2.2.1
end Go.Proofs.Ytdpkommmkcmifaa
namespace Go.Proofs.Ytdpkommmkcmifaa
set_option linter.unusedVariables false
set_option linter.unusedSimpArgs false
open Go.RowKit
/-- a Bool is answered that says whether p -/
def RetB (e : Ending) (p : Prop) : Prop := ∃ r : Bool, e = .returned (.bool r) ∧ (r = true ↔ p)
theorem retB_t {e : Ending} {p : Prop} (h : e = .returned (.bool true)) (hp : p) : RetB e p := ⟨true, h, ⟨fun _ => hp, fun _ => rfl⟩⟩
theorem retB_f {e : Ending} {p : Prop} (h : e = .returned (.bool false)) (hp : ¬ p) : RetB e p := ⟨false, h, ⟨fun h => (by cases h), fun h => absurd h hp⟩⟩
set_option maxRecDepth 20000 in
set_option maxHeartbeats 3200000 in
theorem good_any (b : Bun) (ba : Option Addr) (bc : Nat) (pa : Option Addr) (pc : Nat) (w : World) (h : BunR w b ba bc pa pc) :
    Calls Try.prog 47 #[bunV b ba bc pa pc] w fun e w' => RetB e (GoodB b) ∧ Below w.heap.size w w' := by
  have hbn := h.ok.bn
  have hpn := h.ok.py
  unfold bunV
  obtain ⟨W0, hW0⟩ : ∃ W0 : World, W0 = w.alloc (.cells #[.int .u64 b.fl, .int .u64 b.e0, .int .u64 b.e1, .int .u64 b.e2, .int .u64 b.e3, .int .u64 b.e4, .int .u64 b.e5, .int .u64 b.tm, .int .u64 b.sq, .int .u64 b.lf, .slice ba b.bl.length bc, .slice pa b.py.length pc] 34) := ⟨_, rfl⟩
  have hI : W0.heap[w.heap.size]? = some (.cells #[.int .u64 b.fl, .int .u64 b.e0, .int .u64 b.e1, .int .u64 b.e2, .int .u64 b.e3, .int .u64 b.e4, .int .u64 b.e5, .int .u64 b.tm, .int .u64 b.sq, .int .u64 b.lf, .slice ba b.bl.length bc, .slice pa b.py.length pc] 34 (0, 0)) := by rw [hW0]; exact heap_alloc_new w _
  have hb0 : Below w.heap.size w W0 := by rw [hW0]; exact al (Below.refl _ _) _
  have HS0 : Hid (w.heap.size + 1 = W0.heap.size) := by unfold Hid; rw [hW0]; simp
  by_cases h8 : b.fl < 8
  · go_enter Try.func47, Try.ntmps47
    go_wp2_with fail
    rw [← hW0]
    clear hW0
    obtain ⟨W1, hW1⟩ : ∃ W1 : World, W1 = W0.alloc (.cells #[.int .u64 b.e0, .int .u64 b.e1, .int .u64 b.e2, .int .u64 b.e3, .int .u64 b.e4, .int .u64 b.e5] 22) := ⟨_, rfl⟩
    have hb1 : Below W0.heap.size W0 W1 := by rw [hW1]; exact al (Below.refl _ _) _
    have hU1 : RdU W1 (some ⟨w.heap.size + 1, 0, none⟩) [b.e0, b.e1, b.e2, b.e3, b.e4, b.e5] := by rw [hW1]; exact rdu_new W0 _ HS0.out _ _ _ _ rfl
    rw [← hW1]
    clear hW1
    refine (numbers_any _ 6 6 [b.e0, b.e1, b.e2, b.e3, b.e4, b.e5] W1 rfl hU1 (by simp)).mono ?_
    rintro e w1 ⟨rfl, hw1⟩
    subst hw1
    rcases hE : numsS [b.e0, b.e1, b.e2, b.e3, b.e4, b.e5] with _ | _
    · have HG : Hid (¬ GoodB b) := fun hg => by have := hg.es; rw [hE] at this; cases this
      go_wp2
      go_ret
      exact ⟨retB_f rfl HG.out, below_next hb0 hb1⟩
    · have hI1 := box_on hI hb1
      obtain ⟨i0, i1, i2, i3, i4, i5, i6, i7, i8, i9, i10, i11, -⟩ := cells12 hI1
      go_wp2_with fail
      obtain ⟨W2, hW2⟩ : ∃ W2 : World, W2 = w1.alloc (.cells #[.int .u64 b.tm, .int .u64 b.sq, .int .u64 b.lf] 22) := ⟨_, rfl⟩
      have hb2 : Below w1.heap.size w1 W2 := by rw [hW2]; exact al (Below.refl _ _) _
      have hU2 : RdU W2 (some ⟨w1.heap.size, 0, none⟩) [b.tm, b.sq, b.lf] := by rw [hW2]; exact rdu_new w1 _ rfl _ _ _ _ rfl
      rw [← hW2]
      clear hW2
      refine (numbers_any _ 3 3 [b.tm, b.sq, b.lf] W2 rfl hU2 (by simp)).mono ?_
      rintro e w2 ⟨rfl, hw2⟩
      subst hw2
      rcases hT : numsS [b.tm, b.sq, b.lf] with _ | _
      · have HG : Hid (¬ GoodB b) := fun hg => by have := hg.ts; rw [hT] at this; cases this
        go_wp2
        go_ret
        exact ⟨retB_f rfl HG.out, below_next hb0 (below_next hb1 hb2)⟩
      · have hI2 := box_on hI1 hb2
        clear i0 i1 i2 i3 i4 i5 i6 i7 i8 i9 i10 i11
        obtain ⟨i0, i1, i2, i3, i4, i5, i6, i7, i8, i9, i10, i11, -⟩ := cells12 hI2
        have hbb := below_next hb0 (below_next hb1 hb2)
        go_wp2_with fail
        refine (goodBlocks_any ba bc b.bl w2 (h.rb.below hbb) h.lb h.nb h.ok.bl (by omega)).mono ?_
        rintro e w3 ⟨⟨r, rfl, hr⟩, hb3⟩
        have hI3 := box_on hI2 hb3
        clear i0 i1 i2 i3 i4 i5 i6 i7 i8 i9 i10 i11
        obtain ⟨i0, i1, i2, i3, i4, i5, i6, i7, i8, i9, i10, i11, -⟩ := cells12 hI3
        have hbw := below_next hbb hb3
        have HR : Hid (r = true ↔ GoodBlks b.bl) := hr
        clear hr hI hI1 hI2 hI3
        rcases r with _ | _
        · have HG : Hid (¬ GoodB b) := fun hg => by have := HR.out.2 hg.bl; cases this
          go_wp2
          go_ret
          exact ⟨retB_f rfl HG.out, hbw⟩
        · by_cases hp : b.py.length ≤ 512
          · have HG : Hid (GoodB b) := ⟨h8, hE, hT, HR.out.1 rfl, hp⟩
            go_wp2
            go_ret
            exact ⟨retB_t (by simp; omega) HG.out, hbw⟩
          · have HG : Hid (¬ GoodB b) := fun hg => hp hg.py
            go_wp2
            go_ret
            exact ⟨retB_f (by simp; omega) HG.out, hbw⟩
  · have HG : Hid (¬ GoodB b) := fun hg => h8 hg.fl
    go_enter Try.func47, Try.ntmps47
    go_wp2
    rw [← hW0]
    go_ret
    exact ⟨retB_f rfl HG.out, hb0⟩
end Go.Proofs.Ytdpkommmkcmifaa
namespace Go.Proofs.Ytdpkommmkcmifaa
set_option linter.unusedVariables false
set_option linter.unusedSimpArgs false
open Go.RowKit
/-- what stands ahead of block k -/
def pref (b : Bun) (k : Nat) : List UInt8 := [6] ++ dgs [b.fl, b.e0, b.e1, b.e2, b.e3, b.e4, b.e5, b.tm, b.sq, b.lf, b.bl.length] ++ encBlks (b.bl.take k)
theorem pref_snoc (b : Bun) (k : Nat) (h : k < b.bl.length) : pref b (k + 1) = pref b k ++ dgs [b.bl[k].t, b.bl[k].n, b.bl[k].f] ++ (dg b.bl[k].d.length ++ b.bl[k].d) := by
  unfold pref
  rw [encBlks_snoc _ _ h]
  unfold encBlk
  simp only [List.append_assoc]
theorem pref_all (b : Bun) : pref b b.bl.length ++ (dg b.py.length ++ b.py) = encB b := by unfold pref encB; rw [List.take_length]
theorem hdr_lt {b : Bun} (h : b.ok) : ∀ n ∈ [b.fl, b.e0, b.e1, b.e2, b.e3, b.e4, b.e5, b.tm, b.sq, b.lf, b.bl.length], n < 18446744073709551616 := by
  intro n hn
  have hbn := h.bn
  simp only [List.mem_cons, List.not_mem_nil, or_false] at hn
  rcases hn with rfl | rfl | rfl | rfl | rfl | rfl | rfl | rfl | rfl | rfl | rfl
  all_goals first | exact h.fl | exact h.e0 | exact h.e1 | exact h.e2 | exact h.e3 | exact h.e4 | exact h.e5 | exact h.tm | exact h.sq | exact h.lf | omega
theorem pref_len {b : Bun} (h : b.ok) (hg : GoodBlks b.bl) (k : Nat) : (pref b k).length ≤ 1000 := by
  unfold pref
  have h1 := dgs_len [b.fl, b.e0, b.e1, b.e2, b.e3, b.e4, b.e5, b.tm, b.sq, b.lf, b.bl.length] (hdr_lt h)
  have h2 := encBlks_len (b.bl.take k) (fun x hx => ⟨h.bl x (List.mem_of_mem_take hx), hg.data (List.mem_of_mem_take hx)⟩)
  have h3 := hg.1
  simp only [List.length_append, List.length_take] at h2 ⊢
  simp at h1 ⊢
  omega
theorem trip_lt {x : Blk} (h : x.ok) : ∀ n ∈ [x.t, x.n, x.f], n < 18446744073709551616 := by
  intro n hn
  simp only [List.mem_cons, List.not_mem_nil, or_false] at hn
  rcases hn with rfl | rfl | rfl
  all_goals first | exact h.1 | exact h.2.1 | exact h.2.2.1
set_option maxRecDepth 20000 in
set_option maxHeartbeats 3200000 in
theorem written_any (b : Bun) (ba : Option Addr) (bc : Nat) (pa : Option Addr) (pc : Nat) (w : World) (h : BunR w b ba bc pa pc) (hg : GoodB b) :
    Calls Try.prog 46 #[bunV b ba bc pa pc] w fun e w' => ∃ v, e = .returned v ∧ Own w' w.heap.size v (encB b) ∧ Below w.heap.size w w' := by
  have hbn := hg.bl.1
  have hpn := hg.py
  unfold bunV
  obtain ⟨W0, hW0⟩ : ∃ W0 : World, W0 = w.alloc (.cells #[.int .u64 b.fl, .int .u64 b.e0, .int .u64 b.e1, .int .u64 b.e2, .int .u64 b.e3, .int .u64 b.e4, .int .u64 b.e5, .int .u64 b.tm, .int .u64 b.sq, .int .u64 b.lf, .slice ba b.bl.length bc, .slice pa b.py.length pc] 34) := ⟨_, rfl⟩
  have hI : W0.heap[w.heap.size]? = some (.cells #[.int .u64 b.fl, .int .u64 b.e0, .int .u64 b.e1, .int .u64 b.e2, .int .u64 b.e3, .int .u64 b.e4, .int .u64 b.e5, .int .u64 b.tm, .int .u64 b.sq, .int .u64 b.lf, .slice ba b.bl.length bc, .slice pa b.py.length pc] 34 (0, 0)) := by rw [hW0]; exact heap_alloc_new w _
  have hb0 : Below w.heap.size w W0 := by rw [hW0]; exact al (Below.refl _ _) _
  have HS0 : Hid (w.heap.size + 1 = W0.heap.size) := by unfold Hid; rw [hW0]; simp
  have hwl : IntKind.u64.wrap (b.bl.length : Int) = (b.bl.length : Int) := by rw [IntKind.wrap_u64]; omega
  have HG : Hid (GoodB b) := hg
  clear hg
  go_enter Try.func46, Try.ntmps46
  go_wp2_with fail
  rw [← hW0]
  clear hW0
  obtain ⟨W1, hW1⟩ : ∃ W1 : World, W1 = W0.alloc (.cells #[.int .u8 6] 5) := ⟨_, rfl⟩
  rw [← hW1]
  obtain ⟨W2, hW2⟩ : ∃ W2 : World, W2 = W1.alloc (.cells #[.int .u64 b.fl, .int .u64 b.e0, .int .u64 b.e1, .int .u64 b.e2, .int .u64 b.e3, .int .u64 b.e4, .int .u64 b.e5, .int .u64 b.tm, .int .u64 b.sq, .int .u64 b.lf, .int .u64 b.bl.length] 22) := ⟨_, rfl⟩
  rw [← hW2]
  have hb1 : Below W0.heap.size W0 W1 := by rw [hW1]; exact al (Below.refl _ _) _
  have hb2 : Below W1.heap.size W1 W2 := by rw [hW2]; exact al (Below.refl _ _) _
  have hs1 : w.heap.size + 1 + 1 = W1.heap.size := by rw [hW1]; have := HS0.out; simp; omega
  have hU : RdU W2 (some ⟨w.heap.size + 1 + 1, 0, none⟩) [b.fl, b.e0, b.e1, b.e2, b.e3, b.e4, b.e5, b.tm, b.sq, b.lf, b.bl.length] := by rw [hW2]; exact rdu_new W1 _ hs1 _ _ _ _ rfl
  have h6 : Rd W2 (some ⟨w.heap.size + 1, 0, none⟩) [6] := by
    refine Rd.below ?_ hb2
    rw [hW1]
    exact rd_lit W0 _ HS0.out _ _ _ _ rfl
  clear hW1 hW2 hs1
  refine (lay_any _ 1 [6] _ 11 11 [b.fl, b.e0, b.e1, b.e2, b.e3, b.e4, b.e5, b.tm, b.sq, b.lf, b.bl.length] rfl W2 h6 (fun e => by cases e) hU (hdr_lt h.ok) (by simp) (by simp) (by simp)).mono ?_
  rintro e w3 ⟨v3, rfl, hown3, hb3⟩
  obtain ⟨a3, c3, hv3, hlc3, -, hn3, hr3, -⟩ := hown3.val
  obtain ⟨m3, hm3⟩ : ∃ m3, m3 = ([6] ++ dgs [b.fl, b.e0, b.e1, b.e2, b.e3, b.e4, b.e5, b.tm, b.sq, b.lf, b.bl.length]).length := ⟨_, rfl⟩
  rw [← hm3] at hv3
  subst hv3
  have HM3 : Hid (m3 = (pref b 0).length) := by unfold Hid pref; rw [hm3]; simp [encBlks]
  have HO3 : Hid (Own w3 w.heap.size (.slice a3 m3 c3) (pref b 0)) := by
    have h1 := hown3.base (show w.heap.size ≤ W2.heap.size from Nat.le_trans hb0.size (Nat.le_trans hb1.size hb2.size))
    unfold Hid pref
    simpa [encBlks] using h1
  have hI3 := box_on (box_on (box_on hI hb1) hb2) hb3
  obtain ⟨i0, i1, i2, i3, i4, i5, i6, i7, i8, i9, i10, i11, -⟩ := cells12 hI3
  have hbw3 := below_next hb0 (below_next hb1 (below_next hb2 hb3))
  clear hm3 hn3 hr3 hown3 hI hI3 hb1 hb2 hb3 hlc3 h6 hU
  go_wp2
  go_loopw [3, 44] (fun v i wr => ∃ (k : Nat) (a : Option Addr) (c n : Nat), k ≤ b.bl.length ∧ i = .int .i64 k ∧ v = .slice a n c ∧ Hid (n = (pref b k).length) ∧ Hid (Own wr w.heap.size (.slice a n c) (pref b k)) ∧ Below w3.heap.size w3 wr) (fun _ i _ => b.bl.length - (intOf i).toNat)
  case atStart => exact ⟨0, a3, c3, m3, Nat.zero_le _, rfl, rfl, HM3, HO3, Below.refl _ _⟩
  case round =>
    obtain ⟨k, a, c, n, hk, rfl, rfl, HL, HO, hbel⟩ := hrel
    have hbw := below_next hbw3 hbel
    have i11r := cell_on hbel i11
    clear i0 i1 i2 i3 i4 i5 i6 i7 i8 i9 i10 i11
    by_cases hlt : k < b.bl.length
    · obtain ⟨b1, o1, rfl, hx⟩ := h.rb.at k hlt
      obtain ⟨a1, c1, d0, d1, d2, d3, hr, hdc, hdn⟩ := hx.below hbw
      have hok := h.ok.bl _ (List.getElem_mem hlt)
      have hdl := HG.out.bl.data (List.getElem_mem hlt)
      obtain ⟨W4, hW4⟩ : ∃ W4 : World, W4 = wr.alloc (.cells #[.int .u64 b.bl[k].t, .int .u64 b.bl[k].n, .int .u64 b.bl[k].f, .slice a1 b.bl[k].d.length c1] 37) := ⟨_, rfl⟩
      have hX4 : W4.heap[wr.heap.size]? = some (.cells #[.int .u64 b.bl[k].t, .int .u64 b.bl[k].n, .int .u64 b.bl[k].f, .slice a1 b.bl[k].d.length c1] 37 (0, 0)) := by rw [hW4]; exact heap_alloc_new _ _
      have hb4 : Below wr.heap.size wr W4 := by rw [hW4]; exact al (Below.refl _ _) _
      obtain ⟨x0, x1, x2, x3⟩ := box4b hX4
      have HX : Hid (Rd W4 a1 b.bl[k].d) := hr.below hb4
      have HDN : Hid (a1 = none → c1 = 0) := hdn
      have HOK : Hid b.bl[k].ok := hok
      have HPL : Hid ((pref b k).length ≤ 1000) := pref_len h.ok HG.out.bl k
      have HS : Hid (pref b (k + 1) = pref b k ++ dgs [b.bl[k].t, b.bl[k].n, b.bl[k].f] ++ (dg b.bl[k].d.length ++ b.bl[k].d)) := pref_snoc b k hlt
      obtain ⟨HR1, HN1⟩ : Hid (Rd W4 a (pref b k)) ∧ Hid (a = none → c = 0) := by
        obtain ⟨aq, cq, hv, -, -, hn, hrq, -⟩ := HO.out.val
        simp only [Value.slice.injEq] at hv
        obtain ⟨rfl, -, rfl⟩ := hv
        exact ⟨hrq.below hb4, hn⟩
      have hself := Below.refl W4.heap.size W4
      have HU : Hid (RdU (W4.alloc (.cells #[.int .u64 b.bl[k].t, .int .u64 b.bl[k].n, .int .u64 b.bl[k].f] 22)).drew (some ⟨W4.heap.size, 0, none⟩) [b.bl[k].t, b.bl[k].n, b.bl[k].f]) := (rdu_new W4 _ rfl _ _ _ _ rfl).below (Below.refl _ _).drew
      have HBU : Hid (Below W4.heap.size W4 (W4.alloc (.cells #[.int .u64 b.bl[k].t, .int .u64 b.bl[k].n, .int .u64 b.bl[k].f] 22)).drew) := (al (Below.refl _ _) _).drew
      have hnl : n = (pref b k).length := HL.out
      rw [hnl]
      clear hdn hok hr hx
      go_wp2_with fail
      rw [← hW4]
      clear hW4
      refine wp_region_noPanic ?_
      refine wp_region_held_drew (S := (fun u => Below W4.heap.size W4 u)) (by kernel_rfl) (by with_reducible first | assumption | exact (Below.refl _ _).drew | exact al (by assumption) _ | exact al (Below.refl _ _).drew _ | exact (al (Below.refl _ _) _).drew) (fun hHeld => ?_)
      refine take_at (i := 0) 48 (v := ?_) rfl rfl (by kernel_rfl) (by kernel_rfl) (by kernel_rfl) (fun _ _ _ h => h) (by rfl) ?_ hHeld ?_
      rotate_left
      · (intro w hSw; (try dsimp only at hSw); go_simp; try with_reducible rfl)
      simp only [Act.put, List.setIfInBounds_toArray, List.set_cons_zero, List.set_cons_succ]
      refine take_at (i := 1) 49 (v := ?_) rfl rfl (by kernel_rfl) (by kernel_rfl) (by kernel_rfl) (fun _ _ _ h => h) (by rfl) ?_ hHeld ?_
      rotate_left
      · (intro w hSw; (try dsimp only at hSw); go_simp; try with_reducible rfl)
      simp only [Act.put, List.setIfInBounds_toArray, List.set_cons_zero, List.set_cons_succ]
      refine take_at (i := 2) 50 (v := ?_) rfl rfl (by kernel_rfl) (by kernel_rfl) (by kernel_rfl) (fun _ _ _ h => h) (by rfl) ?_ hHeld ?_
      rotate_left
      · (intro w hSw; (try dsimp only at hSw); go_simp; try with_reducible rfl)
      simp only [Act.put, List.setIfInBounds_toArray, List.set_cons_zero, List.set_cons_succ]
      refine take_at (i := 3) 51 (v := ?_) rfl rfl (by kernel_rfl) (by kernel_rfl) (by kernel_rfl) (fun _ _ _ h => h) (by rfl) ?_ hHeld ?_
      rotate_left
      · (intro w hSw; (try dsimp only at hSw); go_simp; try with_reducible rfl)
      simp only [Act.put, List.setIfInBounds_toArray, List.set_cons_zero, List.set_cons_succ]
      refine take_at (i := 4) 52 (v := ?_) rfl rfl (by kernel_rfl) (by kernel_rfl) (by kernel_rfl) (fun _ _ _ h => h) (by rfl) ?_ hHeld ?_
      rotate_left
      · (intro w hSw; (try dsimp only at hSw); go_simp; try with_reducible rfl)
      simp only [Act.put, List.setIfInBounds_toArray, List.set_cons_zero, List.set_cons_succ]
      refine take_at (i := 5) 53 (v := ?_) rfl rfl (by kernel_rfl) (by kernel_rfl) (by kernel_rfl) (fun _ _ _ h => h) (by rfl) ?_ hHeld ?_
      rotate_left
      · (intro w hSw; (try dsimp only at hSw); go_simp; try with_reducible rfl)
      simp only [Act.put, List.setIfInBounds_toArray, List.set_cons_zero, List.set_cons_succ]
      refine take_at (i := 6) 54 (v := ?_) rfl rfl (by kernel_rfl) (by kernel_rfl) (by kernel_rfl) (fun _ _ _ h => h) (by rfl) ?_ hHeld ?_
      rotate_left
      · (intro w hSw; (try dsimp only at hSw); go_simp; try with_reducible rfl)
      simp only [Act.put, List.setIfInBounds_toArray, List.set_cons_zero, List.set_cons_succ]
      refine take_at (i := 9) 57 (v := ?_) rfl rfl (by kernel_rfl) (by kernel_rfl) (by kernel_rfl) (fun _ _ _ h => h) (by rfl) ?_ hHeld ?_
      rotate_left
      · (intro w hSw; (try dsimp only at hSw); go_simp; try with_reducible rfl)
      simp only [Act.put, List.setIfInBounds_toArray, List.set_cons_zero, List.set_cons_succ]
      refine take_at (i := 10) 58 (v := ?_) rfl rfl (by kernel_rfl) (by kernel_rfl) (by kernel_rfl) (fun _ _ _ h => h) (by rfl) ?_ hHeld ?_
      rotate_left
      · (intro w hSw; (try dsimp only at hSw); go_simp; try with_reducible rfl)
      simp only [Act.put, List.setIfInBounds_toArray, List.set_cons_zero, List.set_cons_succ]
      refine run_at (i := 7) rfl (by kernel_rfl) (by rfl) (fun K hK => ?_)
      simp only [List.getElem_toArray, List.getElem_cons_zero, List.getElem_cons_succ]
      go_simp
      go_wp2_with fail
      refine hK.out _ _ (by with_reducible first | assumption | exact (Below.refl _ _).drew | exact al (by assumption) _ | exact al (Below.refl _ _).drew _ | exact (al (Below.refl _ _) _).drew) ?_
      clear hK K
      intro hHeld2
      clear hHeld
      have hHeld := hHeld2
      clear hHeld2
      try simp only [Act.put, List.setIfInBounds_toArray, List.set_cons_zero, List.set_cons_succ]
      refine run_at (i := 8) rfl (by kernel_rfl) (by rfl) (fun K hK => ?_)
      simp only [List.getElem_toArray, List.getElem_cons_zero, List.getElem_cons_succ]
      go_simp
      first | (go_at_call 34; refine (lay_any a c (pref b k) _ 3 3 [b.bl[k].t, b.bl[k].n, b.bl[k].f] rfl _ (HR1.out.below HBU.out) HN1.out HU.out (trip_lt HOK.out) (by simp) (by simp) (by have := HPL.out; simp; omega)).mono ?_; rintro e w5 ⟨v5, rfl, hown5, hb5⟩; have hS5 : Below W4.heap.size W4 w5 := below_next (B := W4) HBU.out hb5; obtain ⟨a5, c5, hv5, -, -, hn5, hr5, -⟩ := hown5.val; obtain ⟨m5, hm5⟩ : ∃ m5, m5 = (pref b k ++ dgs [b.bl[k].t, b.bl[k].n, b.bl[k].f]).length := ⟨_, rfl⟩; rw [← hm5] at hv5; subst hv5; have HM5 : Hid _ := hm5; have HN5 : Hid _ := hn5; have HR5 : Hid (Rd w5 a5 (pref b k ++ dgs [b.bl[k].t, b.bl[k].n, b.bl[k].f])) := hr5; clear hm5 hn5 hr5 hown5) | (go_at_call 69; refine (appendBytes_n a5 m5 c5 _ HM5.out a1 _ c1 b.bl[k].d rfl _ (HR5.out.below (by first | exact (Below.refl _ _).drew | exact Below.refl _ _ | assumption)) (HX.out.below (by first | exact (Below.refl _ _).drew | assumption)) HN5.out HDN.out (by have h1 := dgs_len _ (trip_lt HOK.out); have h2 := HPL.out; have h3 := HM5.out; simp at h1 h3; omega)).mono ?_; rintro e w6 ⟨v6, rfl, hown6, hb6⟩; have hS6 : Below W4.heap.size W4 w6 := below_next (B := W4) (by first | exact (Below.refl _ _).drew | assumption) hb6; rw [← HS.out] at hown6; obtain ⟨a6, c6, hv6, -, -, hn6, hr6, -⟩ := hown6.val; obtain ⟨m6, hm6⟩ : ∃ m6, m6 = (pref b (k + 1)).length := ⟨_, rfl⟩; rw [← hm6] at hv6; subst hv6; have HM6 : Hid (m6 = (pref b (k + 1)).length) := hm6; have HO6 : Hid (Own w6 w.heap.size (.slice a6 m6 c6) (pref b (k + 1))) := hown6.base (Nat.le_trans hbw.size (Nat.le_trans hb4.size hS5.size)); clear hm6 hn6 hr6 hown6)
      go_wp2_with fail
      refine hK.out _ _ (by with_reducible first | assumption | exact (Below.refl _ _).drew | exact al (by assumption) _ | exact al (Below.refl _ _).drew _ | exact (al (Below.refl _ _) _).drew) ?_
      clear hK K
      intro hHeld2
      clear hHeld
      have hHeld := hHeld2
      clear hHeld2
      try simp only [Act.put, List.setIfInBounds_toArray, List.set_cons_zero, List.set_cons_succ]
      refine run_at (i := 11) rfl (by kernel_rfl) (by rfl) (fun K hK => ?_)
      simp only [List.getElem_toArray, List.getElem_cons_zero, List.getElem_cons_succ]
      go_simp
      first | (go_at_call 34; refine (lay_any a c (pref b k) _ 3 3 [b.bl[k].t, b.bl[k].n, b.bl[k].f] rfl _ (HR1.out.below HBU.out) HN1.out HU.out (trip_lt HOK.out) (by simp) (by simp) (by have := HPL.out; simp; omega)).mono ?_; rintro e w5 ⟨v5, rfl, hown5, hb5⟩; have hS5 : Below W4.heap.size W4 w5 := below_next (B := W4) HBU.out hb5; obtain ⟨a5, c5, hv5, -, -, hn5, hr5, -⟩ := hown5.val; obtain ⟨m5, hm5⟩ : ∃ m5, m5 = (pref b k ++ dgs [b.bl[k].t, b.bl[k].n, b.bl[k].f]).length := ⟨_, rfl⟩; rw [← hm5] at hv5; subst hv5; have HM5 : Hid _ := hm5; have HN5 : Hid _ := hn5; have HR5 : Hid (Rd w5 a5 (pref b k ++ dgs [b.bl[k].t, b.bl[k].n, b.bl[k].f])) := hr5; clear hm5 hn5 hr5 hown5) | (go_at_call 69; refine (appendBytes_n a5 m5 c5 _ HM5.out a1 _ c1 b.bl[k].d rfl _ (HR5.out.below (by first | exact (Below.refl _ _).drew | exact Below.refl _ _ | assumption)) (HX.out.below (by first | exact (Below.refl _ _).drew | assumption)) HN5.out HDN.out (by have h1 := dgs_len _ (trip_lt HOK.out); have h2 := HPL.out; have h3 := HM5.out; simp at h1 h3; omega)).mono ?_; rintro e w6 ⟨v6, rfl, hown6, hb6⟩; have hS6 : Below W4.heap.size W4 w6 := below_next (B := W4) (by first | exact (Below.refl _ _).drew | assumption) hb6; rw [← HS.out] at hown6; obtain ⟨a6, c6, hv6, -, -, hn6, hr6, -⟩ := hown6.val; obtain ⟨m6, hm6⟩ : ∃ m6, m6 = (pref b (k + 1)).length := ⟨_, rfl⟩; rw [← hm6] at hv6; subst hv6; have HM6 : Hid (m6 = (pref b (k + 1)).length) := hm6; have HO6 : Hid (Own w6 w.heap.size (.slice a6 m6 c6) (pref b (k + 1))) := hown6.base (Nat.le_trans hbw.size (Nat.le_trans hb4.size hS5.size)); clear hm6 hn6 hr6 hown6)
      go_wp2_with fail
      refine hK.out _ _ (by with_reducible first | assumption | exact (Below.refl _ _).drew | exact al (by assumption) _ | exact al (Below.refl _ _).drew _ | exact (al (Below.refl _ _) _).drew) ?_
      clear hK K
      intro hHeld2
      clear hHeld
      have hHeld := hHeld2
      clear hHeld2
      try simp only [Act.put, List.setIfInBounds_toArray, List.set_cons_zero, List.set_cons_succ]
      refine take_at (i := 12) 3 (v := ?_) rfl rfl (by kernel_rfl) (by kernel_rfl) (by kernel_rfl) (fun _ _ _ h => h) (by rfl) ?_ hHeld ?_
      rotate_left
      · (intro w hSw; (try dsimp only at hSw); go_simp; try with_reducible rfl)
      simp only [Act.put, List.setIfInBounds_toArray, List.set_cons_zero, List.set_cons_succ]
      refine wpAnyH_done (by kernel_rfl) ?_ _
      refine NoPanic.normal ?_
      all_goals go_wp2
      all_goals go_roundw
      all_goals first
        | (case rel => exact ⟨k + 1, a6, c6, m6, by omega, by go_num, rfl, HM6, HO6, below_next hbel (below_next hb4 hS6)⟩)
        | (case measure => simp [intOf]; omega)
    · obtain rfl : k = b.bl.length := by omega
      have HPL : Hid ((pref b b.bl.length).length ≤ 1000) := pref_len h.ok HG.out.bl _
      obtain ⟨HR1, HN1⟩ : Hid (Rd wr a (pref b b.bl.length)) ∧ Hid (a = none → c = 0) := by
        obtain ⟨aq, cq, hv, -, -, hn, hrq, -⟩ := HO.out.val
        simp only [Value.slice.injEq] at hv
        obtain ⟨rfl, -, rfl⟩ := hv
        exact ⟨hrq, hn⟩
      go_wp2_with fail
      refine (appendBytes_n a n c _ HL.out pa _ pc b.py rfl wr HR1.out (h.rp.below hbw) HN1.out h.np (by have h1 := HPL.out; have h2 := HL.out; omega)).mono ?_
      rintro e w6 ⟨v6, rfl, hown6, hb6⟩
      rw [pref_all] at hown6
      go_wp2
      go_ret
      exact ⟨_, rfl, hown6.base hbw.size, below_next hbw hb6⟩
def fitsS (b : Bun) : Int := if 1024 < (encB b).length then 81 else 0
theorem encB_len {b : Bun} (h : b.ok) (hg : GoodB b) : (encB b).length ≤ 2000 := by
  have h1 := pref_len h hg.bl b.bl.length
  have h2 := hg.py
  have h3 := (dg_len b.py.length (by omega)).2
  rw [← pref_all]
  simp only [List.length_append]
  omega
set_option maxRecDepth 20000 in
set_option maxHeartbeats 800000 in
theorem fits_any (b : Bun) (ba : Option Addr) (bc : Nat) (pa : Option Addr) (pc : Nat) (w : World) (h : BunR w b ba bc pa pc) (hg : GoodB b) :
    Calls Try.prog 48 #[bunV b ba bc pa pc] w fun e w' => e = .returned (.int .i64 (fitsS b)) ∧ Below w.heap.size w w' := by
  have HL : Hid ((encB b).length ≤ 2000) := encB_len h.ok hg
  unfold bunV
  obtain ⟨W0, hW0⟩ : ∃ W0 : World, W0 = w.alloc (.cells #[.int .u64 b.fl, .int .u64 b.e0, .int .u64 b.e1, .int .u64 b.e2, .int .u64 b.e3, .int .u64 b.e4, .int .u64 b.e5, .int .u64 b.tm, .int .u64 b.sq, .int .u64 b.lf, .slice ba b.bl.length bc, .slice pa b.py.length pc] 34) := ⟨_, rfl⟩
  have hI : W0.heap[w.heap.size]? = some (.cells #[.int .u64 b.fl, .int .u64 b.e0, .int .u64 b.e1, .int .u64 b.e2, .int .u64 b.e3, .int .u64 b.e4, .int .u64 b.e5, .int .u64 b.tm, .int .u64 b.sq, .int .u64 b.lf, .slice ba b.bl.length bc, .slice pa b.py.length pc] 34 (0, 0)) := by rw [hW0]; exact heap_alloc_new w _
  have hb0 : Below w.heap.size w W0 := by rw [hW0]; exact al (Below.refl _ _) _
  have HS0 : Hid (w.heap.size + 1 = W0.heap.size) := by unfold Hid; rw [hW0]; simp
  go_enter Try.func48, Try.ntmps48
  go_wp2_with fail
  rw [← hW0]
  clear hW0
  refine (written_any b ba bc pa pc W0 (h.below hb0) hg).mono ?_
  rintro e w1 ⟨v1, rfl, hown1, hb1⟩
  obtain ⟨a1, c1, hv1, -, -, -, -, -⟩ := hown1.val
  obtain ⟨m1, hm1⟩ : ∃ m1, m1 = (encB b).length := ⟨_, rfl⟩
  rw [← hm1] at hv1
  subst hv1
  have hml : m1 ≤ 2000 := by rw [hm1]; exact HL.out
  by_cases hb : 1024 < m1
  · have HV : Hid (fitsS b = 81) := by unfold Hid fitsS; rw [← hm1, if_pos hb]
    clear hm1 hown1
    go_wp2
    go_ret
    exact ⟨by rw [HV.out]; rfl, below_next hb0 hb1⟩
  · have HV : Hid (fitsS b = 0) := by unfold Hid fitsS; rw [← hm1, if_neg hb]
    clear hm1 hown1
    go_wp2
    go_ret
    exact ⟨by rw [HV.out]; rfl, below_next hb0 hb1⟩
/-- what Valid answers -/
def ValidIs (b : Bun) (e : Int) : Prop := (¬ GoodB b ∧ e = 20) ∨ (GoodB b ∧ e = fitsS b)
set_option maxRecDepth 20000 in
set_option maxHeartbeats 800000 in
theorem valid_any (b : Bun) (ba : Option Addr) (bc : Nat) (pa : Option Addr) (pc : Nat) (w : World) (h : BunR w b ba bc pa pc) :
    Calls Try.prog 23 #[bunV b ba bc pa pc] w fun e w' => (∃ n, e = .returned (.int .i64 n) ∧ ValidIs b n) ∧ Below w.heap.size w w' := by
  unfold bunV
  obtain ⟨W0, hW0⟩ : ∃ W0 : World, W0 = w.alloc (.cells #[.int .u64 b.fl, .int .u64 b.e0, .int .u64 b.e1, .int .u64 b.e2, .int .u64 b.e3, .int .u64 b.e4, .int .u64 b.e5, .int .u64 b.tm, .int .u64 b.sq, .int .u64 b.lf, .slice ba b.bl.length bc, .slice pa b.py.length pc] 34) := ⟨_, rfl⟩
  have hI : W0.heap[w.heap.size]? = some (.cells #[.int .u64 b.fl, .int .u64 b.e0, .int .u64 b.e1, .int .u64 b.e2, .int .u64 b.e3, .int .u64 b.e4, .int .u64 b.e5, .int .u64 b.tm, .int .u64 b.sq, .int .u64 b.lf, .slice ba b.bl.length bc, .slice pa b.py.length pc] 34 (0, 0)) := by rw [hW0]; exact heap_alloc_new w _
  have hb0 : Below w.heap.size w W0 := by rw [hW0]; exact al (Below.refl _ _) _
  have HS0 : Hid (w.heap.size + 1 = W0.heap.size) := by unfold Hid; rw [hW0]; simp
  go_enter Try.func23, Try.ntmps23
  go_wp2_with fail
  rw [← hW0]
  clear hW0
  refine (good_any b ba bc pa pc W0 (h.below hb0)).mono ?_
  rintro e w1 ⟨⟨r, rfl, hr⟩, hb1⟩
  have HR : Hid (r = true ↔ GoodB b) := hr
  clear hr
  rcases r with _ | _
  · have HG : Hid (¬ GoodB b) := fun hg => by have := HR.out.2 hg; cases this
    clear HR
    go_wp2
    go_ret
    exact ⟨⟨20, rfl, .inl ⟨HG.out, rfl⟩⟩, below_next hb0 hb1⟩
  · have HG : Hid (GoodB b) := HR.out.1 rfl
    have hI1 := box_on hI hb1
    obtain ⟨i0, i1, i2, i3, i4, i5, i6, i7, i8, i9, i10, i11, -⟩ := cells12 hI1
    clear HR
    go_wp2_with fail
    refine (fits_any b ba bc pa pc w1 (h.below (below_next hb0 hb1)) HG.out).mono ?_
    rintro e w2 ⟨rfl, hb2⟩
    clear i0 i1 i2 i3 i4 i5 i6 i7 i8 i9 i10 i11
    go_wp2
    go_ret
    exact ⟨⟨fitsS b, rfl, .inr ⟨HG.out, rfl⟩⟩, below_next hb0 (below_next hb1 hb2)⟩
set_option maxRecDepth 20000 in
set_option maxHeartbeats 800000 in
theorem encode_any (b : Bun) (ba : Option Addr) (bc : Nat) (pa : Option Addr) (pc : Nat) (w : World) (h : BunR w b ba bc pa pc) :
    Calls Try.prog 22 #[bunV b ba bc pa pc] w fun e w' => (∃ v n xs, e = .returned (.tuple #[v, .int .i64 n]) ∧ ValidIs b n ∧ Own w' w.heap.size v xs ∧ xs = if n = 0 then encB b else []) ∧ Below w.heap.size w w' := by
  unfold bunV
  obtain ⟨W0, hW0⟩ : ∃ W0 : World, W0 = w.alloc (.cells #[.int .u64 b.fl, .int .u64 b.e0, .int .u64 b.e1, .int .u64 b.e2, .int .u64 b.e3, .int .u64 b.e4, .int .u64 b.e5, .int .u64 b.tm, .int .u64 b.sq, .int .u64 b.lf, .slice ba b.bl.length bc, .slice pa b.py.length pc] 34) := ⟨_, rfl⟩
  have hI : W0.heap[w.heap.size]? = some (.cells #[.int .u64 b.fl, .int .u64 b.e0, .int .u64 b.e1, .int .u64 b.e2, .int .u64 b.e3, .int .u64 b.e4, .int .u64 b.e5, .int .u64 b.tm, .int .u64 b.sq, .int .u64 b.lf, .slice ba b.bl.length bc, .slice pa b.py.length pc] 34 (0, 0)) := by rw [hW0]; exact heap_alloc_new w _
  have hb0 : Below w.heap.size w W0 := by rw [hW0]; exact al (Below.refl _ _) _
  have HS0 : Hid (w.heap.size + 1 = W0.heap.size) := by unfold Hid; rw [hW0]; simp
  go_enter Try.func22, Try.ntmps22
  go_wp2_with fail
  rw [← hW0]
  clear hW0
  refine (valid_any b ba bc pa pc W0 (h.below hb0)).mono ?_
  rintro e w1 ⟨⟨n, rfl, hv⟩, hb1⟩
  have HV : Hid (ValidIs b n) := hv
  clear hv
  by_cases h0 : n = 0
  · subst h0
    have HG : Hid (GoodB b) := by
      rcases HV.out with ⟨_, h⟩ | ⟨h, _⟩
      · cases h
      · exact h
    have hI1 := box_on hI hb1
    obtain ⟨i0, i1, i2, i3, i4, i5, i6, i7, i8, i9, i10, i11, -⟩ := cells12 hI1
    go_wp2_with fail
    refine (written_any b ba bc pa pc w1 (h.below (below_next hb0 hb1)) HG.out).mono ?_
    rintro e w2 ⟨v2, rfl, hown2, hb2⟩
    clear i0 i1 i2 i3 i4 i5 i6 i7 i8 i9 i10 i11
    go_wp2
    go_ret2
    exact ⟨⟨_, 0, _, rfl, HV.out, hown2.base (below_next hb0 hb1).size, by rw [if_pos rfl]⟩, below_next hb0 (below_next hb1 hb2)⟩
  · go_wp2
    go_ret2
    exact ⟨⟨_, n, [], rfl, HV.out, World.ownsRow_nil _ _ _ _, by rw [if_neg h0]⟩, below_next hb0 hb1⟩
end Go.Proofs.Ytdpkommmkcmifaa
