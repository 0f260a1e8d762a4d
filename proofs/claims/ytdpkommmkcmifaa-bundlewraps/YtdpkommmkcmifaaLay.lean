import Derived.Test.YtdpkommmkcmifaaGoodB
import Derived.Test.YtdpkommmkcmifaaAppB
namespace Go.Proofs.Ytdpkommmkcmifaa
set_option linter.unusedVariables false
set_option linter.unusedSimpArgs false
open Go.RowKit
theorem rdu_new (w : World) (n : Nat) (hn : n = w.heap.size) (C : Array Value) (t : TypeId) (fr : Nat × Nat) (ns : List Nat) (h : C.toList = ns.map fun m => .int .u64 (m : Nat)) : RdU (w.alloc (.cells C t fr)) (some ⟨n, 0, none⟩) ns := by
  subst hn
  intro _
  refine ⟨_, _, rfl, fun i hi => ?_⟩
  rw [World.cell?_alloc_mark, Nat.zero_add, ← Array.getElem?_toList, h, List.getElem?_map, List.getElem?_eq_getElem hi]
  rfl
theorem RdU.below {w w' : World} {ao : Option Addr} {ns : List Nat} (h : RdU w ao ns) (hb : Below w.heap.size w w') : RdU w' ao ns := by
  intro hp
  obtain ⟨b, o, rfl, hc⟩ := h hp
  exact ⟨b, o, rfl, fun i hi => cell_on hb (hc i hi)⟩
def dgs (ns : List Nat) : List UInt8 := ns.flatMap dg
theorem dgs_snoc (ns : List Nat) (k : Nat) (h : k < ns.length) : dgs (ns.take (k + 1)) = dgs (ns.take k) ++ dg ns[k] := by
  unfold dgs
  rw [List.take_succ_eq_append_getElem h, List.flatMap_append]
  simp
theorem dgs_len : ∀ (ns : List Nat), (∀ n ∈ ns, n < 18446744073709551616) → (dgs ns).length ≤ 10 * ns.length
  | [], _ => by simp [dgs]
  | n :: r, h => by
    have h1 := dgs_len r (fun m hm => h m (by simp [hm]))
    have h2 := (dg_len n (h n (by simp))).2
    have e : (dgs (n :: r)).length = (dg n).length + (dgs r).length := by unfold dgs; rw [List.flatMap_cons, List.length_append]
    simp only [List.length_cons]
    omega
set_option maxRecDepth 20000 in
set_option maxHeartbeats 800000 in
theorem lay_any (ao : Option Addr) (cap : Nat) (xs : List UInt8) (so : Option Addr) (m cap' : Nat) (ns : List Nat) (hm : m = ns.length) (w : World) (hx : Rd w ao xs) (hnil : ao = none → cap = 0) (hu : RdU w so ns) (hns : ∀ n ∈ ns, n < 18446744073709551616) (hp : 0 < ns.length) (hb : ns.length ≤ 1000) (hl : xs.length + 10 * ns.length ≤ 140737488351232) :
    Calls Try.prog 34 #[.slice ao xs.length cap, .slice so m cap'] w fun e w' => ∃ v, e = .returned v ∧ Own w' w.heap.size v (xs ++ dgs ns) ∧ Below w.heap.size w w' := by
  subst hm
  have HN : Hid (ao = none → cap = 0) := hnil
  have HX : Hid (Rd w ao xs) := hx
  clear hnil hx
  go_enter Try.func34, Try.ntmps34
  go_wp2
  go_loopw [0, 9] (fun v i wr => ∃ (k : Nat) (a : Option Addr) (c n : Nat), k ≤ ns.length ∧ i = .int .i64 k ∧ v = .slice a n c ∧ Hid (n = (xs ++ dgs (ns.take k)).length) ∧ Hid (Rd wr a (xs ++ dgs (ns.take k))) ∧ Hid (a = none → c = 0) ∧ Hid (0 < k → Own wr w.heap.size (.slice a n c) (xs ++ dgs (ns.take k))) ∧ Below w.heap.size w wr) (fun _ i _ => ns.length - (intOf i).toNat)
  case atStart => exact ⟨0, ao, cap, xs.length, Nat.zero_le _, rfl, rfl, by simp [Hid, dgs], by simpa [Hid, dgs] using HX.out, HN, fun h => absurd h (Nat.lt_irrefl 0), Below.refl _ _⟩
  case round =>
    obtain ⟨k, a, c, n, hk, rfl, rfl, HL, HR, HA, HO, hbel⟩ := hrel
    by_cases hlt : k < ns.length
    · obtain ⟨b, o, rfl, hc⟩ := hu hp
      have hck := cell_on hbel (hc k hlt)
      have HK : Hid (ns[k] < 18446744073709551616) := hns _ (List.getElem_mem hlt)
      have HS : Hid (xs ++ dgs (ns.take (k + 1)) = xs ++ dgs (ns.take k) ++ dg ns[k]) := by unfold Hid; rw [dgs_snoc ns k hlt, List.append_assoc]
      have HB : Hid ((xs ++ dgs (ns.take k)).length + 10 ≤ 140737488355328) := by
        have h1 := dgs_len (ns.take k) (fun m hm => hns m (List.mem_of_mem_take hm))
        unfold Hid
        rw [List.length_append]
        simp at h1
        omega
      clear hc hu
      go_wp2_with fail
      refine (appendNumber_n a n c _ HL.out ns[k] wr HR.out HA.out (by rw [HL.out]; exact HB.out) HK.out).mono ?_
      rintro e w2 ⟨v2, rfl, hown2, hb2⟩
      rw [← HS.out] at hown2
      obtain ⟨a2, c2, hv2, -, -, hn2, hr2, -⟩ := hown2.val
      obtain ⟨m2, hm2⟩ : ∃ m2, m2 = (xs ++ dgs (ns.take (k + 1))).length := ⟨_, rfl⟩
      rw [← hm2] at hv2
      subst hv2
      have HM2 : Hid (m2 = (xs ++ dgs (ns.take (k + 1))).length) := hm2
      have HN2 : Hid _ := hn2
      clear hm2 hn2
      go_wp2
      go_roundw
      case rel => exact ⟨k + 1, a2, c2, m2, by omega, by go_num, rfl, HM2, hr2, HN2, fun _ => hown2.base hbel.size, below_next hbel hb2⟩
      case measure => simp [intOf]; omega
    · obtain rfl : k = ns.length := by omega
      have HO2 : Hid (Own wr w.heap.size (.slice a n c) (xs ++ dgs ns)) := by have := HO.out hp; rwa [List.take_length] at this
      clear HO HR HL
      go_wp2
      go_ret
      exact ⟨_, rfl, HO2.out, hbel⟩
/-- the bytes of a block, of a bundle -/
def encBlk (x : Blk) : List UInt8 := dgs [x.t, x.n, x.f] ++ (dg x.d.length ++ x.d)
def encBlks (l : List Blk) : List UInt8 := l.flatMap encBlk
def encB (b : Bun) : List UInt8 := [6] ++ dgs [b.fl, b.e0, b.e1, b.e2, b.e3, b.e4, b.e5, b.tm, b.sq, b.lf, b.bl.length] ++ encBlks b.bl ++ (dg b.py.length ++ b.py)
theorem encBlks_snoc (l : List Blk) (k : Nat) (h : k < l.length) : encBlks (l.take (k + 1)) = encBlks (l.take k) ++ encBlk l[k] := by
  unfold encBlks
  rw [List.take_succ_eq_append_getElem h, List.flatMap_append]
  simp
theorem encBlk_len (x : Blk) (h : x.ok) (hd : x.d.length ≤ 64) : (encBlk x).length ≤ 104 := by
  unfold encBlk
  have h1 := dgs_len [x.t, x.n, x.f] (fun n hn => by simp at hn; rcases hn with rfl | rfl | rfl; exact h.1; exact h.2.1; exact h.2.2.1)
  have h2 := (dg_len x.d.length (by omega)).2
  simp only [List.length_append]
  simp at h1
  omega
theorem encBlks_len : ∀ (l : List Blk), (∀ x ∈ l, x.ok ∧ x.d.length ≤ 64) → (encBlks l).length ≤ 104 * l.length
  | [], _ => by simp [encBlks]
  | x :: r, h => by
    have h1 := encBlks_len r (fun m hm => h m (by simp [hm]))
    have h2 := encBlk_len x (h x (by simp)).1 (h x (by simp)).2
    have e : (encBlks (x :: r)).length = (encBlk x).length + (encBlks r).length := by unfold encBlks; rw [List.flatMap_cons, List.length_append]
    simp only [List.length_cons]
    omega
structure GoodB (b : Bun) : Prop where
  fl : b.fl < 8
  es : numsS [b.e0, b.e1, b.e2, b.e3, b.e4, b.e5] = true
  ts : numsS [b.tm, b.sq, b.lf] = true
  bl : GoodBlks b.bl
  py : b.py.length ≤ 512
theorem GoodBlks.data {l : List Blk} (h : GoodBlks l) {x : Blk} (hx : x ∈ l) : x.d.length ≤ 64 := by
  obtain ⟨i, hi, rfl⟩ := List.getElem_of_mem hx
  have := h.2 i hi
  unfold blkS dataS at this
  simp at this
  exact this.2.2.2.1
end Go.Proofs.Ytdpkommmkcmifaa
