import Derived.Test.YtdpkommmkcmifaaRdr
namespace Go.Proofs.Ytdpkommmkcmifaa
set_option linter.unusedVariables false
set_option linter.unusedSimpArgs false
open Go.RowKit
/-- what ahead answers, of what lies ahead -/
def ahS (m : Nat) (ys : List UInt8) : Nat × Nat × Nat := if (numS ys).2.2 = 0 ∧ m < (numS ys).1 then (0, 0, 12) else numS ys
def ahV (m : Nat) (ys : List UInt8) : Value := .tuple #[.int .u64 ((ahS m ys).1 : Nat), .int .i64 ((ahS m ys).2.1 : Nat), .int .i64 ((ahS m ys).2.2 : Nat)]
/-- Number's call on what lies ahead -/
def NumAt (w : World) (v : Value) (ys : List UInt8) : Prop := ∀ q : Nat, Calls Try.prog 83 #[v] (w.drewN q) fun e w' => e = .returned (numV ys) ∧ w' = w.drewN q
set_option maxRecDepth 20000 in
set_option maxHeartbeats 800000 in
theorem ahead_r {p : Nat} {ao : Option Addr} {cap : Nat} {xs : List UInt8} {pl : Nat} {f : Int} (m : Nat) (w : World) (h : RdrAt w p ao cap xs pl f) :
    Calls Try.prog 74 #[.pointer (some ⟨p, 0, none⟩), .int .u64 m] w fun e w' => e = .returned (ahV m (xs.drop pl)) ∧ ∃ q, w' = w.drewN q := by
  obtain ⟨h0, h1, h2, h3, -, -, hr, -, hp, hl, hc, hn, hs⟩ := h
  obtain ⟨N, K, E, hN⟩ : ∃ N K E : Nat, numS (xs.drop pl) = (N, K, E) := ⟨_, _, _, rfl⟩
  have hnv : numV (xs.drop pl) = .tuple #[.int .u64 N, .int .i64 K, .int .i64 E] := by unfold numV; rw [hN]
  have hcase : (E = 0 ∧ m < N ∧ Hid (ahV m (xs.drop pl) = .tuple #[.int .u64 0, .int .i64 0, .int .i64 12])) ∨ (E = 0 ∧ ¬ m < N ∧ Hid (ahV m (xs.drop pl) = .tuple #[.int .u64 N, .int .i64 K, .int .i64 0])) ∨ (¬ E = 0 ∧ Hid (ahV m (xs.drop pl) = .tuple #[.int .u64 N, .int .i64 K, .int .i64 E])) := by
    unfold ahV ahS Hid
    rw [hN]
    by_cases hE : E = 0
    · by_cases hm : m < N
      · exact .inl ⟨hE, hm, by rw [if_pos ⟨hE, hm⟩]; rfl⟩
      · exact .inr (.inl ⟨hE, hm, by rw [if_neg (fun h => hm h.2), hE]; rfl⟩)
    · exact .inr (.inr ⟨hE, by rw [if_neg (fun h => hE h.1)]⟩)
  clear hN
  rcases hs with rfl | ⟨b, o, rfl⟩
  · obtain rfl := hn rfl
    obtain rfl : xs = [] := List.eq_nil_of_length_eq_zero (by omega)
    simp only [List.length_nil, Nat.le_zero] at hp
    subst hp
    have HN : Hid (∀ q : Nat, Calls Try.prog 83 #[.slice none 0 0] (w.drewN q) fun e w' => e = .returned (.tuple #[.int .u64 N, .int .i64 K, .int .i64 E]) ∧ w' = w.drewN q) := fun q => by
      rw [← hnv]
      exact number_any none 0 [] (w.drewN q) (Rd.nil _ _) (Nat.le_refl _) (by decide)
    clear hn hr hnv
    rcases hcase with ⟨rfl, hlt, HAV⟩ | ⟨rfl, hlt, HAV⟩ | ⟨hlt, HAV⟩
    · go_enter Try.func74, Try.ntmps74
      go_wp2
      go_quiet ((go_at_call 83; exact Calls.quiet_of_same (HN.out _)))
      go_wp2
      go_ret3
      exact ⟨by rw [HAV.out]; rfl, _, rfl⟩
    · go_enter Try.func74, Try.ntmps74
      go_wp2
      go_quiet ((go_at_call 83; exact Calls.quiet_of_same (HN.out _)))
      go_wp2
      go_ret3
      exact ⟨by rw [HAV.out]; rfl, _, rfl⟩
    · go_enter Try.func74, Try.ntmps74
      go_wp2
      go_quiet ((go_at_call 83; exact Calls.quiet_of_same (HN.out _)))
      go_wp2
      go_ret3
      exact ⟨by rw [HAV.out]; rfl, _, rfl⟩
  · have hld : xs.length - pl = (xs.drop pl).length := by simp
    have HN : Hid (∀ q : Nat, ∀ o' : Nat, (o' = o + pl ∨ cap = pl) → Calls Try.prog 83 #[.slice (some ⟨b, o', none⟩) (xs.length - pl) (cap - pl)] (w.drewN q) fun e w' => e = .returned (.tuple #[.int .u64 N, .int .i64 K, .int .i64 E]) ∧ w' = w.drewN q) := fun q o' ho => by
      rw [← hnv, hld]
      refine number_any _ _ _ (w.drewN q) ?_ (by rw [← hld]; omega) (by rw [← hld]; omega)
      rcases ho with rfl | ho
      · exact (hr.drop pl).below (below_drewN (Below.refl _ _) q)
      · intro h0
        rw [← hld] at h0
        omega
    clear hn hr hnv hld
    by_cases hcp : cap = pl
    · have hxl : xs.length = pl := by omega
      have HN' : Hid (∀ q : Nat, Calls Try.prog 83 #[.slice (some ⟨b, o, none⟩) 0 0] (w.drewN q) fun e w' => e = .returned (.tuple #[.int .u64 N, .int .i64 K, .int .i64 E]) ∧ w' = w.drewN q) := fun q => by
        have h := HN.out q o (.inr hcp)
        rwa [hxl, hcp, Nat.sub_self] at h
      rw [hxl, hcp] at h1
      clear hxl hcp hp hc hl HN
      rcases hcase with ⟨rfl, hlt, HAV⟩ | ⟨rfl, hlt, HAV⟩ | ⟨hlt, HAV⟩
      · go_enter Try.func74, Try.ntmps74
        go_wp2
        go_quiet ((go_at_call 83; exact Calls.quiet_of_same (HN'.out _)))
        go_wp2
        go_ret3
        exact ⟨by rw [HAV.out]; rfl, _, rfl⟩
      · go_enter Try.func74, Try.ntmps74
        go_wp2
        go_quiet ((go_at_call 83; exact Calls.quiet_of_same (HN'.out _)))
        go_wp2
        go_ret3
        exact ⟨by rw [HAV.out]; rfl, _, rfl⟩
      · go_enter Try.func74, Try.ntmps74
        go_wp2
        go_quiet ((go_at_call 83; exact Calls.quiet_of_same (HN'.out _)))
        go_wp2
        go_ret3
        exact ⟨by rw [HAV.out]; rfl, _, rfl⟩
    · have hc' : pl ≤ cap := by omega
      have HN' : Hid _ := fun q => HN.out q (o + pl) (.inl rfl)
      clear HN
      rcases hcase with ⟨rfl, hlt, HAV⟩ | ⟨rfl, hlt, HAV⟩ | ⟨hlt, HAV⟩
      · go_enter Try.func74, Try.ntmps74
        go_wp2
        go_quiet ((go_at_call 83; exact Calls.quiet_of_same (HN'.out _)))
        go_wp2
        go_ret3
        exact ⟨by rw [HAV.out]; rfl, _, rfl⟩
      · go_enter Try.func74, Try.ntmps74
        go_wp2
        go_quiet ((go_at_call 83; exact Calls.quiet_of_same (HN'.out _)))
        go_wp2
        go_ret3
        exact ⟨by rw [HAV.out]; rfl, _, rfl⟩
      · go_enter Try.func74, Try.ntmps74
        go_wp2
        go_quiet ((go_at_call 83; exact Calls.quiet_of_same (HN'.out _)))
        go_wp2
        go_ret3
        exact ⟨by rw [HAV.out]; rfl, _, rfl⟩
end Go.Proofs.Ytdpkommmkcmifaa
