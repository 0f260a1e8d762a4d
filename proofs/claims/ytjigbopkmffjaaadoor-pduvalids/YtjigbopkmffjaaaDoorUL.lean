import Derived.Test.YtjigbopkmffjaaaDoorUR
import Derived.Test.YtjigbopkmffjaaaDoorUVd
import Derived.Test.YtjigbopkmffjaaaDoorAppB
import Derived.Test.YtjigbopkmffjaaaDoorSeal
namespace Go.Proofs.YtjigbopkmffjaaaDoor
set_option linter.unusedVariables false
set_option linter.unusedSimpArgs false
open Go.RowKit
def RdN (w : World) (g : Nat) (ns : List Nat) : Prop := ∀ j (hj : j < ns.length), w.cell? ⟨g, j, none⟩ = some (.int .u64 (ns[j] : Nat))
theorem RdN.below {w w' : World} {g : Nat} {ns : List Nat} (h : RdN w g ns) (hb : Below w.heap.size w w') : RdN w' g ns := fun j hj => (hb.cell (p := ⟨g, j, none⟩) (World.block_lt_of_cell? w _ (h j hj))).trans (h j hj)
def dgs (ns : List Nat) : List UInt8 := ns.flatMap dg
theorem dgs_snoc (ns : List Nat) (k : Nat) (h : k < ns.length) : dgs (ns.take (k + 1)) = dgs (ns.take k) ++ dg ns[k] := by
  unfold dgs
  rw [List.take_succ_eq_append_getElem h, List.flatMap_append]
  simp
theorem dgs_len (ns : List Nat) (h : ∀ n ∈ ns, n < 18446744073709551616) : (dgs ns).length ≤ ns.length * 10 := by
  induction ns with
  | nil => simp [dgs]
  | cons x ns ih =>
    have h1 := ih (fun n hn => h n (by simp [hn]))
    have h2 := dg_len x (h x (by simp))
    unfold dgs at *
    rw [List.flatMap_cons, List.length_append, List.length_cons]
    omega
/-- a string of bytes came back -/
def StrOut (ys : List UInt8) (w : World) (e : Ending) (w' : World) : Prop := ∃ (a : Option Addr) (L c : Nat), e = .returned (.slice a L c) ∧ L = ys.length ∧ Rd w' a ys ∧ (a = none → c = 0) ∧ Below w.heap.size w w'
theorem StrOut.base {ys : List UInt8} {w0 w w' : World} {e : Ending} (h : StrOut ys w e w') (hb : Below w0.heap.size w0 w) : StrOut ys w0 e w' := by
  obtain ⟨a, L, c, h1, h2, h3, h4, h5⟩ := h
  exact ⟨a, L, c, h1, h2, h3, h4, below_next hb h5⟩
theorem StrOut.own {ys : List UInt8} {w w' : World} {v : Value} (h : Own w' w.heap.size v ys) (hb : Below w.heap.size w w') : StrOut ys w (.returned v) w' := by
  obtain ⟨a, c, hv, -, -, h3, hr, -⟩ := h.val
  exact ⟨a, _, c, by rw [hv], rfl, hr, h3, hb⟩
section
set_option maxRecDepth 20000
set_option maxHeartbeats 1600000
def LyRel (xs : List UInt8) (ns : List Nat) (m : Nat) (w : World) (ov j : Value) (wr : World) : Prop := ∃ (k : Nat) (a : Option Addr) (L c : Nat), k ≤ m ∧ j = .int .i64 (k : Int) ∧ ov = .slice a L c ∧ L = (xs ++ dgs (ns.take k)).length ∧ Rd wr a (xs ++ dgs (ns.take k)) ∧ (a = none → c = 0) ∧ Below w.heap.size w wr
theorem lay_t (ao : Option Addr) (n cap : Nat) (xs : List UInt8) (hn : n = xs.length) (g m mc : Nat) (ns : List Nat) (hm : m = ns.length) (w : World) (hx : Rd w ao xs) (hnil : ao = none → cap = 0) (hns : RdN w g ns) (hlt : ∀ n ∈ ns, n < 18446744073709551616) (hl : n ≤ 1099511627776) (hm2 : m ≤ 1000) :
    Calls Tryd.prog 32 #[.slice ao n cap, .slice (some ⟨g, 0, none⟩) m mc] w fun e w' => StrOut (xs ++ dgs ns) w e w' := by
  have HN : Hid (n = xs.length) := hn
  have HM : Hid (m = ns.length) := hm
  have HLT : Hid (∀ n ∈ ns, n < 18446744073709551616) := hlt
  have HS : Hid (LyRel xs ns m w (.slice ao n cap) (.int .i64 0) w) := ⟨0, ao, n, cap, Nat.zero_le _, rfl, rfl, by simp [dgs]; omega, by simpa [dgs] using hx, hnil, Below.refl _ _⟩
  clear hn hm hlt hx hnil
  go_enter Tryd.func32, Tryd.ntmps32
  go_wp2
  go_loopw [0, 9] (fun ov j wr => LyRel xs ns m w ov j wr) (fun _ j _ => m - (intOf j).toNat)
  case atStart => exact HS.out
  case round =>
    obtain ⟨k, a, L, c, hk, rfl, rfl, hL, hr, hnl, hbw⟩ := hrel
    have hkw : IntKind.i64.wrap ((k : Int) + 1) = ((k + 1 : Nat) : Int) := by rw [IntKind.wrap_i64]; omega
    have HLL : Hid (L = (xs ++ dgs (ns.take k)).length) := hL
    have HR : Hid (Rd wr a (xs ++ dgs (ns.take k))) := hr
    have HNL : Hid (a = none → c = 0) := hnl
    have HB : Hid (Below w.heap.size w wr) := hbw
    clear hL hr hnl HS
    by_cases hlt : k < m
    · have hk1 : k < ns.length := by rw [← HM.out]; exact hlt
      have hlti : (k : Int) < (m : Int) := by omega
      have hk0 : (0 : Int) ≤ (k : Int) := by omega
      have hc : wr.cell? ⟨g, k, none⟩ = some (.int .u64 (ns[k] : Nat)) := (hns.below hbw) k hk1
      have HD : Hid (dgs (ns.take (k + 1)) = dgs (ns.take k) ++ dg ns[k]) := dgs_snoc ns k hk1
      have HQ : Hid (ns[k] < 18446744073709551616) := HLT.out _ (List.getElem_mem hk1)
      have HLB : Hid (L + 10 ≤ 140737488355328) := by
        have h1 := dgs_len (ns.take k) (fun n hn => HLT.out n (List.mem_of_mem_take hn))
        have h2 := HLL.out
        have h3 := HN.out
        rw [List.length_append] at h2
        rw [List.length_take] at h1
        unfold Hid
        omega
      obtain ⟨q, hq⟩ : ∃ q : Nat, q = ns[k] := ⟨_, rfl⟩
      rw [← hq] at hc HD HQ
      clear hq hbw
      go_wp2_with (go_at_call 62; refine (appendNumber_n a L c (xs ++ dgs (ns.take k)) HLL.out q _ HR.out HNL.out HLB.out HQ.out).mono ?_; rintro e w1 ⟨v1, rfl, hown1, hb1⟩; obtain ⟨a1, c1, hv1, -, -, hn1, hr1, -⟩ := hown1.val; obtain ⟨L1, hL1⟩ : ∃ L : Nat, L = ((xs ++ dgs (ns.take k)) ++ dg q).length := ⟨_, rfl⟩; rw [← hL1] at hv1; subst hv1; have HL1 : Hid _ := hL1; clear hL1)
      go_roundw
      case rel => exact ⟨k + 1, a1, L1, c1, by omega, by go_num, rfl, by rw [HD.out, ← List.append_assoc]; exact HL1.out, by rw [HD.out, ← List.append_assoc]; exact hr1, hn1, below_next HB.out hb1⟩
      case measure => simp [intOf]; omega
    · have hlti : ¬ (k : Int) < (m : Int) := by omega
      have HT : Hid (ns.take k = ns) := List.take_of_length_le (by rw [← HM.out]; omega)
      rw [HT.out] at HLL HR
      clear hbw
      go_wp2
      go_ret
      exact ⟨a, L, c, rfl, HLL.out, HR.out, HNL.out, HB.out⟩
end
end Go.Proofs.YtjigbopkmffjaaaDoor
