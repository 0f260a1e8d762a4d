import Derived.Test.YtkbpdcjaimbioaaGRLeast
namespace Go.Proofs.Ytkbpdcjaimbioaa
set_option linter.unusedVariables false
set_option linter.unusedSimpArgs false
open Go.RowKit
theorem RI.app {l m : List Rg} (h1 : RI l) (h2 : RI m) : RI (l ++ m) := fun x hx => by
  rcases List.mem_append.1 hx with h | h
  · exact h1 x h
  · exact h2 x h
def addL (l : List Rg) (i : Int) : List Rg := if i = 9223372036854775807 then l else l ++ [(i, i + 1)]
theorem LeastOut.base {xs : List Rg} {w0 w : World} {e : Ending} {w' : World} (h : LeastOut xs w e w') (hb : Below w0.heap.size w0 w) : LeastOut xs w0 e w' := by
  obtain ⟨v, out, h1, h2, h3, h4, h5, h6⟩ := h
  exact ⟨v, out, h1, h2.base hb.size, h3, h4, h5, below_next hb h6⟩
theorem rd_lit1 (w : World) (x : Rg) : RdR (w.alloc (.cells #[.int .i64 x.1, .int .i64 x.2] 31 (0, 0))) (some ⟨w.heap.size, 0, none⟩) [x] := fun j hj => by
  obtain rfl : j = 0 := by simp at hj; omega
  refine ⟨_, 0, rfl, ?_, ?_⟩
  · rw [cell_of_row _ _ _ _ _ _ (heap_alloc_new w _)]; rfl
  · rw [cell_of_row _ _ _ _ _ _ (heap_alloc_new w _)]; rfl
section
set_option maxRecDepth 20000
set_option maxHeartbeats 1600000
theorem runion_t (ao bo : Option Addr) (n m c1 c2 : Nat) (xs ys : List Rg) (w : World) (hn : n = xs.length) (hm : m = ys.length) (hx : RdR w ao xs) (hy : RdR w bo ys) (hl : n + m ≤ 1099511627776) (h1 : RI xs) (h2 : RI ys) (ha : ao = none → c1 = 0) (hb : bo = none → c2 = 0) :
    Calls Try.prog 9 #[.slice ao n c1, .slice bo m c2] w fun e w' => LeastOut (xs ++ ys) w e w' := by
  have HRI : Hid _ := RI.app h1 h2
  have HN : Hid _ := hn
  have HM : Hid _ := hm
  have hl2 : xs.length + ys.length ≤ 1099511627776 := by omega
  have HL2 : Hid _ := hl2
  clear h1 h2 hn hm hl2
  go_enter Try.func9, Try.ntmps9
  go_wp2_with (first
    | (at_builtin; refine wp_appR rfl _ _ rfl w.heap.size _ [] xs n ao c1 HN.out rfl (OwnR.nil _ _) rfl hx ha (by simp; omega) (Nat.le_refl _) ?_; intro v1 w1 hown1 hg1; have hb1 : Below w.heap.size w w1 := (Below.refl _ _).grown hg1 (Nat.le_refl _) (fun k hk => by cases hk); have hs1 := hb1.size; rw [List.nil_append] at hown1; have HO1 : Hid (OwnR w1 w.heap.size v1 xs) := hown1; clear hown1)
    | (at_builtin; refine wp_appR rfl _ _ rfl w.heap.size v1 xs ys m bo c2 HM.out rfl HO1.out rfl (hy.below hb1) hb (by have := HN.out; omega) hs1 ?_; intro v2 w2 hown2 hg2; have hb2 : Below w.heap.size w w2 := hb1.grown hg2 hs1 (fun k hk => (World.ownsRow.lt HO1.out k hk).1); obtain ⟨a, c, hv, hc1, hc2, hc3, hrd, hq⟩ := hown2.val; obtain ⟨L, hL⟩ : ∃ L : Nat, L = (xs ++ ys).length := ⟨_, rfl⟩; rw [← hL] at hv; subst hv; have HLL : Hid (L ≤ 1099511627776) := by unfold Hid; rw [hL, List.length_append]; exact HL2.out
       have HR : Hid _ := rleast_t a L c (xs ++ ys) w2 hL hrd HLL.out HRI.out
       have HB2 : Hid _ := hb2; clear hown2 hrd hq hL hc1 hc2 hc3 hg1 hg2)
    | (go_at_call 7; refine Calls.mono HR.out ?_; rintro e w3 ⟨v3, out, rfl, h1, h2, h3, h4, h5⟩))
  go_ret
  exact LeastOut.base ⟨v3, out, rfl, h1, h2, h3, h4, h5⟩ HB2.out
theorem radd_t (ao : Option Addr) (n cap : Nat) (xs : List Rg) (i : Int) (w : World) (hn : n = xs.length) (hx : RdR w ao xs) (hl : n + 1 ≤ 1099511627776) (h1 : RI xs) (hi : I64 i) (ha : ao = none → cap = 0) :
    Calls Try.prog 11 #[.slice ao n cap, .int .i64 i] w fun e w' => LeastOut (addL xs i) w e w' := by
  by_cases hm : i = 9223372036854775807
  · subst hm
    have HR : Hid _ := rleast_t ao n cap xs w hn hx (by omega) h1
    have HA : Hid (addL xs 9223372036854775807 = xs) := by unfold Hid addL; simp
    rw [HA.out]
    clear hn hx h1 hi
    go_enter Try.func11, Try.ntmps11
    go_wp2_with (go_at_call 7; refine Calls.mono HR.out ?_; rintro e w3 ⟨v3, out, rfl, h1, h2, h3, h4, h5⟩)
    go_ret
    exact ⟨v3, out, rfl, h1, h2, h3, h4, h5⟩
  · have HA : Hid (addL xs i = xs ++ [(i, i + 1)]) := by unfold Hid addL; simp [hm]
    rw [HA.out]
    unfold I64 at hi
    have hiw : IntKind.i64.wrap (i + 1) = i + 1 := by rw [IntKind.wrap_i64]; omega
    have HR : Hid _ := runion_t ao (some ⟨w.heap.size, 0, none⟩) n 1 cap 1 xs [(i, i + 1)] _ hn rfl (hx.below (al (Below.refl _ _) _)) (rd_lit1 w (i, i + 1)) (by omega) h1 (fun x hx => by rw [List.mem_singleton.1 hx]; constructor <;> (unfold I64; constructor <;> simp only <;> omega)) ha (fun h => by cases h)
    clear hn hx h1 hi
    go_enter Try.func11, Try.ntmps11
    go_wp2_with (go_at_call 9; refine Calls.mono HR.out ?_; rintro e w3 ⟨v3, out, rfl, h1, h2, h3, h4, h5⟩)
    go_ret
    exact LeastOut.base ⟨v3, out, rfl, h1, h2, h3, h4, h5⟩ (al (Below.refl _ _) _)
end
end Go.Proofs.Ytkbpdcjaimbioaa
