import Derived.Test.YtjigbopkmffjaaaDoorRefApp
namespace Go.Proofs.YtjigbopkmffjaaaDoor
set_option linter.unusedVariables false
set_option linter.unusedSimpArgs false
open Go.RowKit
theorem cells3 {w : World} {b : Nat} {p q r : Part} (h0 : w.cell? ⟨b, 0, none⟩ = some p.v) (h1 : w.cell? ⟨b, 1, none⟩ = some q.v) (h2 : w.cell? ⟨b, 2, none⟩ = some r.v) (hp : p.ok w) (hq : q.ok w) (hr : r.ok w) :
    ∀ j (h : j < [p, q, r].length), w.cell? ⟨b, 0 + j, none⟩ = some [p, q, r][j].v ∧ [p, q, r][j].ok w := by
  intro j hj
  match j, hj with
  | 0, _ => exact ⟨h0, hp⟩
  | 1, _ => exact ⟨h1, hq⟩
  | 2, _ => exact ⟨h2, hr⟩
theorem catL3 (p q r : Part) : catL [p, q, r] = p.xs ++ (q.xs ++ r.xs) := by simp [catL]
set_option maxRecDepth 20000 in
set_option maxHeartbeats 800000 in
theorem appendBytes_n (ao : Option Addr) (l cap : Nat) (xs : List UInt8) (hl0 : l = xs.length) (bo : Option Addr) (m cap' : Nat) (ys : List UInt8) (hm0 : m = ys.length) (w : World) (hx : Rd w ao xs) (hy : Rd w bo ys) (hnil : ao = none → cap = 0) (hnil' : bo = none → cap' = 0) (hl : l + m + 10 ≤ 140737488355328) :
    Calls Tryd.prog 106 #[.slice ao l cap, .slice bo m cap'] w fun e w' => ∃ v, e = .returned v ∧ Own w' w.heap.size v (xs ++ (dg ys.length ++ ys)) ∧ Below w.heap.size w w' := by
  subst hl0 hm0
  have hyb : ys.length < 18446744073709551616 := by omega
  have hdl := dg_len ys.length hyb
  have HN : Hid (ao = none → cap = 0) := hnil
  have HN' : Hid (bo = none → cap' = 0) := hnil'
  have HY : Hid (ys.length < 18446744073709551616) := hyb
  clear hnil hnil' hyb
  go_enter Tryd.func106, Tryd.ntmps106
  go_wp2_with fail
  refine (digits_any ys.length w HY.out).mono ?_
  rintro e w1 ⟨k, hk, rfl, hr1, hb1, hs1⟩
  have HK : Hid (k + (dg ys.length).length = 10) := hk
  clear hk
  go_wp2_with fail
  refine (concat_any w1.heap.size 0 3 [⟨ao, cap, xs⟩, ⟨some ⟨w.heap.size, k, none⟩, (dg ys.length).length, dg ys.length⟩, ⟨bo, cap', ys⟩] _ (by simp) (cells3 (by simp [Part.v]) (by simp [Part.v]) (by simp [Part.v]) ⟨(hx.below hb1).alloc _, HN.out⟩ ⟨hr1.alloc _, fun h => by cases h⟩ ⟨(hy.below hb1).alloc _, HN'.out⟩) (by rw [catL3]; simp only [List.length_append]; omega)).mono ?_
  rintro e w2 ⟨v, rfl, hown, hb2⟩
  go_wp2
  go_ret
  rw [catL3] at hown
  have hz : w.heap.size ≤ (w1.alloc (.cells #[.slice ao xs.length cap, .slice (some ⟨w.heap.size, k, none⟩) (dg ys.length).length (dg ys.length).length, .slice bo ys.length cap'] 23)).heap.size := by simp; omega
  exact ⟨v, rfl, hown.base hz, (hb1.alloc (by omega) _).trans (hb2.mono hz)⟩
set_option maxRecDepth 20000 in
set_option maxHeartbeats 800000 in
theorem refAppendBytes_n (ao : Option Addr) (l cap : Nat) (xs : List UInt8) (hl0 : l = xs.length) (bo : Option Addr) (m cap' : Nat) (ys : List UInt8) (hm0 : m = ys.length) (w : World) (hx : Rd w ao xs) (hy : Rd w bo ys) (hnil : ao = none → cap = 0) (hnil' : bo = none → cap' = 0) (hl : l + m + 10 ≤ 140737488355328) :
    Calls Tryd.prog 43 #[.slice ao l cap, .slice bo m cap'] w fun e w' => ∃ v, e = .returned v ∧ Own w' w.heap.size v (xs ++ (dg ys.length ++ ys)) ∧ Below w.heap.size w w' := by
  subst hl0 hm0
  have hyb : ys.length < 18446744073709551616 := by omega
  have hdl := dg_len ys.length hyb
  have HN : Hid (ao = none → cap = 0) := hnil
  have HN' : Hid (bo = none → cap' = 0) := hnil'
  have HY : Hid (ys.length < 18446744073709551616) := hyb
  clear hnil hnil' hyb
  go_enter Tryd.func43, Tryd.ntmps43
  go_wp2_with fail
  refine (refAppendNumber_n ao _ cap xs rfl ys.length w hx HN.out (by omega) HY.out).mono ?_
  rintro e w1 ⟨v1, rfl, hown1, hb1⟩
  have hz := hb1.size
  go_wp2_with (at_builtin; refine wp_app rfl _ _ rfl w.heap.size v1 (xs ++ dg ys.length) ys bo cap' rfl hown1 rfl (hy.below hb1) HN'.out (by simp only [List.length_append]; omega) hz ?_; intro v2 w2 hown2 hg2)
  go_ret
  refine ⟨_, rfl, by simpa [List.append_assoc] using hown2, hb1.grown hg2 hz (fun k hk => (World.ownsRow.lt hown1 k hk).1)⟩
end Go.Proofs.YtjigbopkmffjaaaDoor
