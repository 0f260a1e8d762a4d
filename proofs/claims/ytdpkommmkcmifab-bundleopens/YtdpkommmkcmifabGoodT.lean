import Derived.Test.YtdpkommmkcmifabGoodD
namespace Go.Proofs.Ytdpkommmkcmifab
set_option linter.unusedVariables false
set_option linter.unusedSimpArgs false
open Go.RowKit
def knownB (t : Nat) : Bool := t == 6 || t == 7 || t == 10
theorem ruleOf_any (kind : Nat) (w : World) : Calls Try.prog 85 #[.int .u64 kind] w fun e w' => (∃ k g, e = .returned (.tuple #[.agg #[.int .u64 k, .func (.func g) #[] #[]], .bool true]) ∧ knownB kind = true ∨ e = .returned (.tuple #[.agg #[.int .u64 0, .nilFunc], .bool false]) ∧ knownB kind = false) ∧ Below w.heap.size w w' := by
  by_cases h6 : kind = 6
  · subst h6; exact (ruleOf_six 6 rfl w).mono fun e w' ⟨h1, h2⟩ => ⟨⟨_, _, .inl ⟨h1, rfl⟩⟩, h2⟩
  by_cases h7 : kind = 7
  · subst h7; exact (ruleOf_seven 7 rfl w).mono fun e w' ⟨h1, h2⟩ => ⟨⟨_, _, .inl ⟨h1, rfl⟩⟩, h2⟩
  by_cases h10 : kind = 10
  · subst h10; exact (ruleOf_ten 10 rfl w).mono fun e w' ⟨h1, h2⟩ => ⟨⟨_, _, .inl ⟨h1, rfl⟩⟩, h2⟩
  exact (ruleOf_none kind h6 h7 h10 w).mono fun e w' ⟨h1, h2⟩ => ⟨⟨0, 0, .inr ⟨h1, by simp [knownB, h6, h7, h10]⟩⟩, h2⟩
def typeS (l : List Blk) (t : Nat) : Bool := decide (2 ≤ t) && (decide (t ≤ 255) && !(knownB t && decide (0 ≤ placeS l t)))
set_option maxRecDepth 20000 in
set_option maxHeartbeats 1600000 in
theorem goodType_n (so : Option Addr) (n cap : Nat) (l : List Blk) (t : Nat) (w : World) (hn : n = l.length) (hl : RdBlks w so l) (hlc : l.length ≤ cap) (hb : l.length ≤ 140737488351232) :
    Calls Try.prog 75 #[.slice so n cap, .int .u64 t] w fun e w' => e = .returned (.bool (typeS l t)) ∧ Below w.heap.size w w' := by
  subst hn
  go_enter Try.func75, Try.ntmps75
  go_wp2_with fail
  refine (ruleOf_any t w).mono ?_
  rintro e w1 ⟨⟨k, g, ⟨rfl, hK⟩ | ⟨rfl, hK⟩⟩, hb1⟩
  · by_cases h2 : 2 ≤ t
    · by_cases h255 : t ≤ 255
      · go_wp2_with fail
        refine (place_any so cap l t _ ((hl.below hb1).alloc _) hlc hb).mono ?_
        rintro e w2 ⟨rfl, hb2⟩
        have hbb := below_next hb1 (below_next (al (Below.refl _ _) _) hb2)
        by_cases h0 : 0 ≤ placeS l t
        · have HV : Hid (typeS l t = false) := by unfold Hid typeS; simp [h2, h255, hK, h0]
          go_wp2
          go_ret
          exact ⟨by rw [HV.out]; first | rfl | simp [h0], hbb⟩
        · have HV : Hid (typeS l t = true) := by unfold Hid typeS; simp [h2, h255, hK, h0]
          go_wp2
          go_ret
          exact ⟨by rw [HV.out]; first | rfl | simp [h0], hbb⟩
      · have HV : Hid (typeS l t = false) := by unfold Hid typeS; simp [h255]
        go_wp2
        go_ret
        exact ⟨by rw [HV.out]; rfl, al hb1 _⟩
    · have HV : Hid (typeS l t = false) := by unfold Hid typeS; simp [h2]
      go_wp2
      go_ret
      exact ⟨by rw [HV.out]; rfl, al hb1 _⟩
  · by_cases h2 : 2 ≤ t
    · by_cases h255 : t ≤ 255
      · have HV : Hid (typeS l t = true) := by unfold Hid typeS; simp [h2, h255, hK]
        go_wp2
        go_ret
        exact ⟨by rw [HV.out]; rfl, al hb1 _⟩
      · have HV : Hid (typeS l t = false) := by unfold Hid typeS; simp [h255]
        go_wp2
        go_ret
        exact ⟨by rw [HV.out]; rfl, al hb1 _⟩
    · have HV : Hid (typeS l t = false) := by unfold Hid typeS; simp [h2]
      go_wp2
      go_ret
      exact ⟨by rw [HV.out]; rfl, al hb1 _⟩
def numbS (l : List Blk) (n : Nat) : Bool := l.all (fun x => x.n != n) && (decide (2 ≤ n) && decide (n ≤ 255))
theorem numbS_hit (l : List Blk) (n k : Nat) (hk : k < l.length) (he : l[k].n = n) : numbS l n = false := by
  have : l.all (fun x => x.n != n) = false := by
    rw [List.all_eq_false]
    exact ⟨l[k], List.getElem_mem _, by simp [he]⟩
  unfold numbS
  rw [this, Bool.false_and]
theorem numbS_miss (l : List Blk) (n : Nat) (h : ∀ j (hj : j < l.length), l[j].n ≠ n) : numbS l n = (decide (2 ≤ n) && decide (n ≤ 255)) := by
  have : l.all (fun x => x.n != n) = true := by
    rw [List.all_eq_true]
    intro x hx
    obtain ⟨j, hj, rfl⟩ := List.getElem_of_mem hx
    simpa using h j hj
  unfold numbS
  rw [this, Bool.true_and]
set_option maxRecDepth 20000 in
set_option maxHeartbeats 800000 in
theorem goodNumber_n (so : Option Addr) (m cap : Nat) (l : List Blk) (n : Nat) (w : World) (hm : m = l.length) (hl : RdBlks w so l) (hlc : l.length ≤ cap) (hb : l.length ≤ 140737488351232) :
    Calls Try.prog 76 #[.slice so m cap, .int .u64 n] w fun e w' => e = .returned (.bool (numbS l n)) ∧ Below w.heap.size w w' := by
  subst hm
  go_enter Try.func76, Try.ntmps76
  go_wp2
  go_loopw [9] (fun i wr => ∃ k : Nat, k ≤ l.length ∧ i = .int .i64 k ∧ (∀ j (hj : j < l.length), j < k → l[j].n ≠ n) ∧ Below w.heap.size w wr) (fun i _ => l.length - (intOf i).toNat)
  case atStart => exact ⟨0, Nat.zero_le _, rfl, fun j _ h => absurd h (Nat.not_lt_zero j), Below.refl _ _⟩
  case round =>
    obtain ⟨k, hk, rfl, hall, hbel⟩ := hrel
    have HA : Hid (∀ j (hj : j < l.length), j < k → l[j].n ≠ n) := hall
    clear hall
    by_cases hlt : k < l.length
    · obtain ⟨b, o, rfl, hx⟩ := hl.at k hlt
      obtain ⟨a, c, h0, h1, h2, h3, -⟩ := hx.below hbel
      have hsz := hbel.size
      by_cases he : l[k].n = n
      · have HP : Hid (numbS l n = false) := numbS_hit l n k hlt he
        go_wp2
        go_ret
        exact ⟨by rw [HP.out]; rfl, (hbel.alloc hsz _)⟩
      · go_wp2
        go_roundw
        case rel =>
          refine ⟨k + 1, by omega, by go_num, fun j hj hjk => ?_, hbel.alloc hsz _⟩
          by_cases e : j = k
          · subst e; exact he
          · exact HA.out j hj (by omega)
        case measure => simp [intOf]; omega
    · have HP : Hid (numbS l n = (decide (2 ≤ n) && decide (n ≤ 255))) := numbS_miss l n (fun j hj => HA.out j hj (by omega))
      obtain rfl : k = l.length := by omega
      by_cases h2 : 2 ≤ n
      · by_cases h255 : n ≤ 255
        · go_wp2
          go_ret
          exact ⟨by rw [HP.out]; simp [h2, h255]; omega, hbel⟩
        · go_wp2
          go_ret
          exact ⟨by rw [HP.out]; simp [h255]; omega, hbel⟩
      · go_wp2
        go_ret
        exact ⟨by rw [HP.out]; simp [h2], hbel⟩
set_option maxRecDepth 20000 in
theorem goodFlags_any (f : Nat) (w : World) : Calls Try.prog 77 #[.int .u64 f] w fun e w' => e = .returned (.bool (decide (f ≤ 255))) ∧ w' = w := by
  by_cases h : f ≤ 255
  · go_enter Try.func77, Try.ntmps77
    go_wp2
    go_ret
    exact ⟨by simp [h]; omega, rfl⟩
  · go_enter Try.func77, Try.ntmps77
    go_wp2
    go_ret
    exact ⟨by simp [h]; omega, rfl⟩
def RdU (w : World) (so : Option Addr) (ns : List Nat) : Prop := 0 < ns.length → ∃ b o, so = some ⟨b, o, none⟩ ∧ ∀ i (h : i < ns.length), w.cell? ⟨b, o + i, none⟩ = some (.int .u64 (ns[i] : Nat))
def numsS (ns : List Nat) : Bool := ns.all (fun n => decide (n ≤ 281474976710655))
set_option maxRecDepth 20000 in
set_option maxHeartbeats 800000 in
theorem numbers_any (so : Option Addr) (m cap : Nat) (ns : List Nat) (w : World) (hm : m = ns.length) (hl : RdU w so ns) (hb : ns.length ≤ 1000) :
    Calls Try.prog 28 #[.slice so m cap] w fun e w' => e = .returned (.bool (numsS ns)) ∧ w' = w := by
  subst hm
  go_enter Try.func28, Try.ntmps28
  go_wp2
  go_loop [7] (fun i => ∃ k : Nat, k ≤ ns.length ∧ i = .int .i64 k ∧ (∀ j (hj : j < ns.length), j < k → ns[j] ≤ 281474976710655)) (fun i => ns.length - (intOf i).toNat)
  case atStart => exact ⟨0, Nat.zero_le _, rfl, fun j _ h => absurd h (Nat.not_lt_zero j)⟩
  case round =>
    obtain ⟨k, hk, rfl, hall⟩ := hrel
    have HA : Hid (∀ j (hj : j < ns.length), j < k → ns[j] ≤ 281474976710655) := hall
    clear hall
    by_cases hlt : k < ns.length
    · obtain ⟨b, o, rfl, hc⟩ := hl (by omega)
      have hck := hc k hlt
      clear hc hl
      by_cases he : ns[k] ≤ 281474976710655
      · have he' : decide ((281474976710655 : Int) < (ns[k] : Nat)) = false := by simp; omega
        go_wp2
        go_round
        case rel =>
          refine ⟨k + 1, by omega, by go_num, fun j hj hjk => ?_⟩
          by_cases e : j = k
          · subst e; exact he
          · exact HA.out j hj (by omega)
        case measure => simp [intOf]; omega
      · have he' : decide ((281474976710655 : Int) < (ns[k] : Nat)) = true := by simp; omega
        have HP : Hid (numsS ns = false) := by
          unfold Hid numsS
          rw [List.all_eq_false]
          exact ⟨ns[k], List.getElem_mem _, by simpa using he⟩
        go_wp2
        go_ret
        exact ⟨by rw [HP.out]; rfl, rfl⟩
    · have HP : Hid (numsS ns = true) := by
        unfold Hid numsS
        rw [List.all_eq_true]
        intro x hx
        obtain ⟨j, hj, rfl⟩ := List.getElem_of_mem hx
        simpa using HA.out j hj (by omega)
      obtain rfl : k = ns.length := by omega
      go_wp2
      go_ret
      exact ⟨by rw [HP.out]; rfl, rfl⟩
end Go.Proofs.Ytdpkommmkcmifab
