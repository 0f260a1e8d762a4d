import Derived.Test.YtdpkommmkcmifaaRRdr
namespace Go.Proofs.Ytdpkommmkcmifaa
set_option linter.unusedVariables false
set_option linter.unusedSimpArgs false
open Go.RowKit
set_option maxRecDepth 20000 in
set_option maxHeartbeats 1600000 in
theorem take_d {q : Nat} {D : Option Nat} {ao : Option Addr} {cap : Nat} {ys : List UInt8} {f : Int} (n : Int) (w : World) (h : RefAt w q D ao cap ys f) :
    Calls Try.prog 40 #[.pointer (some ⟨q, 0, none⟩), .int .i64 n] w fun e w' => ∃ v, e = .returned v ∧ Own w' w.heap.size v (rTake n ys f).1 ∧ (∃ ao' cap', RefAt w' q D ao' cap' (ys.drop (rTake n ys f).2.1) (rTake n ys f).2.2) ∧ w.grownBy w' (some q) := by
  have k0 := h.c0
  have k1 := h.c1
  have k2 := h.f0
  have hc := h.hc
  have hl := h.hl
  by_cases hf : f = 0
  · subst hf
    by_cases hn : n < 0
    · have HAV : Hid (rTake n ys 0 = ([], 0, 1)) := by unfold Hid rTake; rw [if_pos rfl, if_pos hn]
      go_enter Try.func40, Try.ntmps40
      go_wp2_with fail
      refine (fail_d 1 w h).mono ?_
      rintro e w2 ⟨rfl, h2, hg2⟩
      go_wp2
      go_ret
      rw [HAV.out]
      exact ⟨_, rfl, World.ownsRow_nil _ _ _ _, ⟨_, _, h2⟩, hg2⟩
    · obtain ⟨N, rfl⟩ : ∃ N : Nat, n = N := ⟨n.toNat, by omega⟩
      by_cases hlt : ys.length < N
      · have HAV : Hid (rTake N ys 0 = ([], 0, 10)) := by unfold Hid rTake; rw [if_pos rfl, if_neg hn, if_pos (by omega)]
        clear hn
        go_enter Try.func40, Try.ntmps40
        go_wp2_with fail
        refine (fail_d 10 w h).mono ?_
        rintro e w2 ⟨rfl, h2, hg2⟩
        go_wp2
        go_ret
        rw [HAV.out]
        exact ⟨_, rfl, World.ownsRow_nil _ _ _ _, ⟨_, _, h2⟩, hg2⟩
      · have HAV : Hid (rTake N ys 0 = (ys.take N, N, 0)) := by unfold Hid rTake; rw [if_pos rfl, if_neg hn, if_neg (by omega)]; rfl
        have hNle : N ≤ ys.length := by omega
        have HNL : Hid (N = (ys.take N).length) := by unfold Hid; simp; omega
        have h0 : Own w w.heap.size (.slice none 0 0) [] := World.ownsRow_nil _ _ _ _
        clear hlt hn
        rcases h.sp with hao | ⟨b, o, hao⟩
        · have hcap := h.hn hao
          subst hao
          subst hcap
          obtain rfl : ys = [] := List.eq_nil_of_length_eq_zero (by omega)
          obtain rfl : N = 0 := by simpa using hNle
          have hrt : Rd w none [] := Rd.nil _ _
          clear HNL
          go_enter Try.func40, Try.ntmps40
          go_wp2_with (at_builtin; refine wp_app rfl _ _ rfl w.heap.size (.slice none 0 0) [] [] _ _ rfl h0 rfl hrt (fun _ => rfl) (by simp <;> omega) (Nat.le_refl _) ?_; intro v2 w2 hown2 hg2; have h2 := h.grown hg2 (by simp [Value.ownBlock]) (fun _ _ => by simp [Value.ownBlock]); have k02 := h2.c0; have k22 := h2.f0)
          go_ret
          rw [HAV.out]
          have hq : q < w.heap.size := World.block_lt_of_cell? w _ h.c0
          refine ⟨_, rfl, own_setR (by simpa using hown2) q _ _ hq, ⟨_, _, h2.setR none 0 0 0 rfl (Rd.nil _ _) (fun a ha => by cases ha) (Nat.le_refl _) (fun _ => rfl) (.inl rfl)⟩, gr_set (hg2.any _) _ _⟩
        · subst hao
          have HB : Hid (D = some b) := h.blk _ rfl
          have hrt : Rd w (some ⟨b, o, none⟩) (ys.take N) := h.rd.take N
          by_cases hcp : cap = N
          · have HYL : Hid (ys.length = N) := by unfold Hid; omega
            have HYE : Hid (ys.take N = ys) := by unfold Hid; rw [List.take_of_length_le]; have := HYL.out; omega
            rw [HYL.out, hcp] at k0
            have hN47 : N ≤ 140737488355328 := by omega
            have hcp0 := hcp
            by_cases hN0 : N = 0
            · subst hN0
              rw [List.take_zero] at hrt HAV
              clear hcp hNle hc hl HNL HYE
              go_enter Try.func40, Try.ntmps40
              go_wp2_with (at_builtin; refine wp_app rfl _ _ rfl w.heap.size (.slice none 0 0) [] [] _ _ rfl h0 rfl hrt (fun h => by cases h) (by simp <;> omega) (Nat.le_refl _) ?_; intro v2 w2 hown2 hg2; have h2 := h.grown hg2 (by simp [Value.ownBlock]) (fun _ _ => by simp [Value.ownBlock]); have k02 := h2.c0; have k22 := h2.f0; rw [HYL.out, hcp0] at k02)
              go_ret
              rw [HAV.out]
              have hq : q < w.heap.size := World.block_lt_of_cell? w _ h.c0
              refine ⟨_, rfl, own_setR (by simpa using hown2) q _ _ hq, ⟨_, _, h2.setR (some ⟨b, o, none⟩) 0 0 0 (by simp [HYL.out]) ?_ (fun a ha => by cases ha; exact HB.out) (Nat.le_refl _) (fun h => by cases h) (.inr ⟨_, _, rfl⟩)⟩, gr_set (hg2.any _) _ _⟩
              intro h9
              simp [HYL.out] at h9
            · clear hcp hNle hc hl
              go_enter Try.func40, Try.ntmps40
              go_wp2_with (at_builtin; refine wp_app rfl _ _ rfl w.heap.size (.slice none 0 0) [] (ys.take N) _ _ rfl h0 (by rw [← HNL.out]; rfl) hrt (fun h => by cases h) (by simp <;> omega) (Nat.le_refl _) ?_; intro v2 w2 hown2 hg2; have h2 := h.grown hg2 (by simp [Value.ownBlock]) (fun _ _ => by simp [Value.ownBlock]); have k02 := h2.c0; have k22 := h2.f0; rw [HYL.out, hcp0] at k02)
              go_ret
              rw [HAV.out]
              have hq : q < w.heap.size := World.block_lt_of_cell? w _ h.c0
              refine ⟨_, rfl, own_setR (by simpa using hown2) q _ _ hq, ⟨_, _, h2.setR (some ⟨b, o, none⟩) 0 0 N (by simp [HYL.out]) ?_ (fun a ha => by cases ha; exact HB.out) (Nat.le_refl _) (fun h => by cases h) (.inr ⟨_, _, rfl⟩)⟩, gr_set (hg2.any _) _ _⟩
              intro h9
              simp [HYL.out] at h9
          · have hc' : N ≤ cap := by omega
            have hc0 : ¬ cap = 0 := by omega
            go_enter Try.func40, Try.ntmps40
            go_wp2_with (at_builtin; refine wp_app rfl _ _ rfl w.heap.size (.slice none 0 0) [] (ys.take N) _ _ rfl h0 (by rw [← HNL.out]; rfl) hrt (fun h => by cases h) (by simp <;> omega) (Nat.le_refl _) ?_; intro v2 w2 hown2 hg2; have h2 := h.grown hg2 (by simp [Value.ownBlock]) (fun _ _ => by simp [Value.ownBlock]); have k02 := h2.c0; have k22 := h2.f0)
            go_ret
            rw [HAV.out]
            have hq : q < w.heap.size := World.block_lt_of_cell? w _ h.c0
            refine ⟨_, rfl, own_setR (by simpa using hown2) q _ _ hq, ⟨_, _, h2.setR (some ⟨b, o + N, none⟩) (ys.length - N) (cap - N) N (by simp) (h2.rd.drop N) (fun a ha => by cases ha; exact HB.out) (by omega) (fun h => by cases h) (.inr ⟨_, _, rfl⟩)⟩, gr_set (hg2.any _) _ _⟩
  · have HV : Hid (rTake n ys f = ([], 0, f)) := by unfold Hid rTake; rw [if_neg hf]
    go_enter Try.func40, Try.ntmps40
    go_wp2
    go_ret
    rw [HV.out]
    exact ⟨_, rfl, World.ownsRow_nil _ _ _ _, ⟨_, _, h⟩, World.grownBy.refl _ _⟩
end Go.Proofs.Ytdpkommmkcmifaa
