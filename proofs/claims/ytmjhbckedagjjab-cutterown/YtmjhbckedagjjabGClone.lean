import Derived.Test.YtmjhbckedagjjabGSort
import Derived.Shelf.SlSortCmp.NoneTotal
import Derived.Lib.SliceRun
namespace Go.Proofs.Ytmjhbckedagjjab
set_option linter.unusedVariables false
set_option linter.unusedSimpArgs false
open Go.RowKit Go.Shelf Go.Sort
theorem ownR_made0 (w : World) : OwnR (w.alloc (.cells #[] 79 (0, 0))) w.heap.size (.slice (some ⟨w.heap.size, 0, none⟩) 0 0) [] := World.ownsRow_made w #[] 0 (Nat.le_refl _) (Nat.zero_le _) rfl
section
set_option maxRecDepth 20000
set_option maxHeartbeats 1600000
theorem clone_t (ao : Option Addr) (n cap : Nat) (xs : List Rg) (w : World) (hn : n = xs.length) (hx : RdR w ao xs) (ha : ao = none → cap = 0) (hl : n ≤ 1099511627776) :
    Calls Try.prog 44 #[.slice ao n cap] w fun e w' => ∃ v, e = .returned v ∧ OwnR w' w.heap.size v xs ∧ Below w.heap.size w w' := by
  have q22 : ∀ (w : World) (a : Option Addr) (n c n' c' : Nat), (binOp .eql 64 (.slice a n c) (.slice none n' c')).run Try.prog w = .ok (.bool a.isNone) w := fun w a n c n' c' => Lib.run_eql_slice_nil w _ _ a n c n' c' Try.underlying64
  have HN : Hid _ := hn
  clear hn
  rcases ao with _ | a
  · obtain rfl := ha rfl
    have h0 : xs = [] := by
      rcases xs with _ | ⟨y, ys⟩
      · rfl
      · obtain ⟨b, o, h1, _⟩ := hx 0 (by simp); cases h1
    subst h0
    clear ha
    go_enter Try.func44, Try.ntmps44
    go_wp2
    go_ret
    exact ⟨_, rfl, World.ownsRow_nil _ _ _ _, Below.refl _ _⟩
  · clear ha
    go_enter Try.func44, Try.ntmps44
    go_wp2_with (at_builtin; refine wp_appR rfl _ _ rfl w.heap.size _ [] xs n _ cap HN.out rfl (ownR_made0 w) rfl (hx.below (al (Below.refl _ _) _)) (fun h => by cases h) (by simpa using hl) (by simp) ?_; intro v2 w2 hown2 hg2)
    go_ret
    refine ⟨_, rfl, hown2, ?_⟩
    exact (al (Below.refl _ w) _).grown hg2 (by simp) (fun k hk => (World.ownsRow.lt (ownR_made0 w) k hk).1)
theorem sort_t (B : Nat) (v : Value) (xs : List Rg) (w : World) (h : OwnR w B v xs) (hl : xs.length ≤ 1099511627776) :
    Calls Try.prog 45 #[v, .func (.func 46) #[] #[]] w fun e w' => e = .returned (.tuple #[]) ∧ ∃ ys : List Rg, ys.Perm xs ∧ ys.Pairwise (fun x y => x.1 ≤ y.1) ∧ OwnR w' B v ys ∧ w.grownBy w' v.ownBlock := by
  rcases h.2 with ⟨rfl, h0⟩ | ⟨g, cap, cur, rfl, r⟩
  · obtain rfl : xs = [] := List.eq_nil_of_length_eq_zero h0
    refine (AnyF.slices_SortFunc_none Try.sortR none 0 (.func (.func 46) #[] #[]) w).mono ?_
    rintro e w' ⟨rfl, rfl⟩
    exact ⟨rfl, [], .refl _, List.Pairwise.nil, h, World.grownBy.refl _ _⟩
  · exact sort_s B g cap xs w h hl
end
end Go.Proofs.Ytmjhbckedagjjab
