import Derived.Test.YtinphflminaijabDoorOpenIt
import Derived.Test.YtinphflminaijabDoorAppB
namespace Go.Proofs.YtinphflminaijabDoor
set_option linter.unusedVariables false
set_option linter.unusedSimpArgs false
open Go.RowKit
theorem own_sl {w : World} {B : Nat} {v : Value} {xs : List UInt8} (h : Own w B v xs) : ∃ a c, v = .slice a xs.length c ∧ Rd w a xs ∧ (a = none → c = 0) ∧ ∀ d, a = some d → B ≤ d.block ∧ d.block < w.heap.size := by
  obtain ⟨a, c, hv, -, -, hn, hr, hb⟩ := h.val
  exact ⟨a, c, hv, hr, hn, hb⟩
set_option maxRecDepth 20000 in
set_option maxHeartbeats 1600000 in
theorem laid_any (a0 : Option Addr) (cap0 : Nat) (is : List It) (w : World) (hi : RdIts w a0 is) (hok : ∀ i ∈ is, i.ok) (hb : (layAll is).length ≤ 10485760) (hlen : is.length ≤ 1048576) (hbl : ∀ i ∈ is, i.b.length ≤ 1048576) :
    Calls Tryd.prog 28 #[.slice a0 is.length cap0] w fun e w' => ∃ v, e = .returned v ∧ Own w' w.heap.size v (layAll is) ∧ Below w.heap.size w w' := by
  have h0 : Own w w.heap.size (.slice none 0 0) (layAll (is.take 0)) := World.ownsRow_nil _ _ _ _
  go_enter Tryd.func28, Tryd.ntmps28
  go_wp2
  go_loopw [3, 4] (fun v i wr => ∃ k : Nat, k ≤ is.length ∧ i = .int .i64 k ∧ Own wr w.heap.size v (layAll (is.take k)) ∧ Below w.heap.size w wr) (fun _ i _ => is.length - (intOf i).toNat)
  case atStart => exact ⟨0, Nat.zero_le _, rfl, h0, Below.refl _ _⟩
  case round =>
    obtain ⟨k, hk, rfl, hown, hbel⟩ := hrel
    clear h0
    by_cases hlt : k < is.length
    · obtain ⟨b, o, rfl, hat⟩ := hi.at k hlt
      obtain ⟨a2, c2, k0, k1, k2, hr2, -, hn2⟩ := hat.below hbel
      have hN : is[k].n < 18446744073709551616 := (ok_at hok k hlt).1
      have hbk := hbl _ (List.getElem_mem hlt)
      have HS : Hid (layAll (is.take (k + 1)) = layAll (is.take k) ++ is[k].lay) := layAll_snoc is k hlt
      have HL : Hid ((layAll (is.take (k + 1))).length ≤ 10485760) := Nat.le_trans (layAll_le is (k + 1)) hb
      have HN : Hid (is[k].n < 18446744073709551616) := hN
      have HN2 : Hid (a2 = none → c2 = 0) := hn2
      generalize is[k] = it at *
      obtain ⟨l, n, ys⟩ := it
      simp only at k0 k1 k2 hr2 hbk HN
      clear hN hn2 hat
      cases l with
      | true =>
        have HS' : Hid (layAll (is.take (k + 1)) = layAll (is.take k) ++ ([] ++ (dg ys.length ++ ys))) := by unfold Hid; rw [HS.out]; simp [It.lay]
        go_wp2_with fail
        refine (appendBytes_n none 0 0 [] rfl a2 ys.length c2 ys rfl wr (Rd.nil _ _) hr2 (fun _ => rfl) HN2.out (by omega)).mono ?_
        rintro e w5 ⟨v5, rfl, ho5, hb5⟩
        obtain ⟨a5, c5, rfl, hr5, hn5, -⟩ := own_sl ho5
        have HN5 : Hid (a5 = none → c5 = 0) := hn5
        have hown5 := hown.below hb5
        have hsz := hbel.size
        have hsz5 := hb5.size
        have HLL : Hid ((layAll (is.take k)).length + ([] ++ (dg ys.length ++ ys)).length ≤ 140737488355328) := by
          have := HL.out
          unfold Hid
          rw [HS'.out, List.length_append] at this
          omega
        generalize [] ++ (dg ys.length ++ ys) = zs at *
        clear hn5 ho5 hown k0 k1 k2 hr2
        go_wp2_with (at_builtin; refine wp_app rfl _ _ rfl _ _ _ _ _ _ rfl hown5 rfl hr5 HN5.out HLL.out (by omega) ?_; intro v6 w6 hown6 hg6)
        go_roundw
        case rel => exact ⟨k + 1, by omega, by go_num, HS'.out ▸ hown6, (below_next hbel hb5).grown hg6 (by omega) (fun g hg => (World.ownsRow.lt hown5 g hg).1)⟩
        case measure => simp [intOf]; omega
      | false =>
        have HS' : Hid (layAll (is.take (k + 1)) = layAll (is.take k) ++ ([] ++ dg n)) := by unfold Hid; rw [HS.out]; simp [It.lay]
        go_wp2_with fail
        refine (appendNumber_n none 0 0 [] rfl n wr (Rd.nil _ _) (fun _ => rfl) (by omega) HN.out).mono ?_
        rintro e w5 ⟨v5, rfl, ho5, hb5⟩
        obtain ⟨a5, c5, rfl, hr5, hn5, -⟩ := own_sl ho5
        have HN5 : Hid (a5 = none → c5 = 0) := hn5
        have hown5 := hown.below hb5
        have hsz := hbel.size
        have hsz5 := hb5.size
        have HLL : Hid ((layAll (is.take k)).length + ([] ++ dg n).length ≤ 140737488355328) := by
          have := HL.out
          unfold Hid
          rw [HS'.out, List.length_append] at this
          omega
        generalize [] ++ dg n = zs at *
        clear hn5 ho5 hown k0 k1 k2 hr2
        go_wp2_with (at_builtin; refine wp_app rfl _ _ rfl _ _ _ _ _ _ rfl hown5 rfl hr5 HN5.out HLL.out (by omega) ?_; intro v6 w6 hown6 hg6)
        go_roundw
        case rel => exact ⟨k + 1, by omega, by go_num, HS'.out ▸ hown6, (below_next hbel hb5).grown hg6 (by omega) (fun g hg => (World.ownsRow.lt hown5 g hg).1)⟩
        case measure => simp [intOf]; omega
    · obtain rfl : k = is.length := by omega
      rw [List.take_length] at hown
      go_wp2
      go_ret
      exact ⟨_, rfl, hown, hbel⟩
end Go.Proofs.YtinphflminaijabDoor
