import Derived.Test.YtdpkommmkcmifaaRRdr2
namespace Go.Proofs.Ytdpkommmkcmifaa
set_option linter.unusedVariables false
set_option linter.unusedSimpArgs false
open Go.RowKit
set_option maxRecDepth 20000 in
set_option maxHeartbeats 1600000 in
theorem bytes_d {q : Nat} {D : Option Nat} {ao : Option Addr} {cap : Nat} {ys : List UInt8} {f : Int} (n : Int) (hn64 : n ≤ 9223372036854775807) (w : World) (h : RefAt w q D ao cap ys f) :
    Calls Try.prog 44 #[.pointer (some ⟨q, 0, none⟩), .int .i64 n] w fun e w' => ∃ v, e = .returned v ∧ Own w' w.heap.size v (rBytes n ys f).1 ∧ (∃ ao' cap', RefAt w' q D ao' cap' (ys.drop (rBytes n ys f).2.1) (rBytes n ys f).2.2) ∧ w.grownBy w' (some q) := by
  have k0 := h.c0
  have k1 := h.c1
  have k2 := h.f0
  have hc := h.hc
  have hl := h.hl
  by_cases hf : f = 0
  · subst hf
    by_cases hn : n < 0
    · have HAV : Hid (rBytes n ys 0 = ([], 0, 1)) := by unfold Hid rBytes; rw [if_pos rfl, if_pos hn]
      clear hn64
      go_enter Try.func44, Try.ntmps44
      go_wp2_with fail
      refine (fail_d 1 w h).mono ?_
      rintro e w2 ⟨rfl, h2, hg2⟩
      go_wp2
      go_ret
      rw [HAV.out]
      exact ⟨_, rfl, World.ownsRow_nil _ _ _ _, ⟨_, _, h2⟩, hg2⟩
    · obtain ⟨m, rfl⟩ : ∃ m : Nat, n = m := ⟨n.toNat, by omega⟩
      obtain ⟨N, K, E, hN⟩ : ∃ N K E : Nat, numS ys = (N, K, E) := ⟨_, _, _, rfl⟩
      have hnv : numV ys = .tuple #[.int .u64 N, .int .i64 K, .int .i64 E] := by unfold numV; rw [hN]
      have hK := (numS_lt ys).2
      rw [hN] at hK
      have hK2 : K ≤ ys.length := by have : K ≤ min ys.length 10 := hK; omega
      clear hK
      have hcase : (E = 0 ∧ m < N ∧ Hid (rBytes m ys 0 = ([], 0, 12))) ∨ (E = 0 ∧ ¬ m < N ∧ ys.length - K < N ∧ Hid (rBytes m ys 0 = ([], 0, 10))) ∨ (E = 0 ∧ ¬ m < N ∧ N ≤ ys.length - K ∧ Hid (rBytes m ys 0 = ((ys.drop K).take N, K + N, 0))) ∨ (¬ E = 0 ∧ Hid (rBytes m ys 0 = ([], 0, (E : Int)))) := by
        unfold rBytes ahS Hid
        rw [Int.toNat_natCast, hN, if_pos rfl, if_neg hn]
        by_cases hE : E = 0
        · by_cases hm : m < N
          · refine .inl ⟨hE, hm, ?_⟩
            simp [hE, hm]
          · by_cases hl2 : ys.length - K < N
            · refine .inr (.inl ⟨hE, hm, hl2, ?_⟩)
              simp [hE, hm, hl2]
            · refine .inr (.inr (.inl ⟨hE, hm, by omega, ?_⟩))
              simp [hE, hm, hl2]
        · refine .inr (.inr (.inr ⟨hE, ?_⟩))
          simp [hE]
      have hwm : IntKind.u64.wrap (m : Int) = (m : Int) := by rw [IntKind.wrap_u64]; omega
      have hr := h.rd
      have HQ : Hid (q < w.heap.size) := World.block_lt_of_cell? w _ h.c0
      clear hN hn hn64
      obtain ⟨R, hR⟩ : ∃ R : Nat, R = ys.length - K := ⟨_, rfl⟩
      have hwR : IntKind.i64.wrap ((ys.length : Int) - (K : Int)) = (R : Int) := by rw [IntKind.wrap_i64]; omega
      have hwR2 : IntKind.u64.wrap (R : Int) = (R : Int) := by rw [IntKind.wrap_u64]; omega
      rw [← hR] at hcase
      have HR : Hid (R = ys.length - K) := hR
      clear hR
      go_enter Try.func44, Try.ntmps44
      go_wp2_with fail
      refine (refNumber_n ao _ cap ys rfl w hr h.hl).mono ?_
      rintro e w1 ⟨rfl, hw1⟩
      subst hw1
      rw [hnv]
      clear hnv
      rcases hcase with ⟨rfl, hlt, HAV⟩ | ⟨rfl, hlt, hlt2, HAV⟩ | ⟨rfl, hlt, hlt2, HAV⟩ | ⟨hlt, HAV⟩
      · go_wp2_with fail
        refine (fail_d 12 w1 h).mono ?_
        rintro e w2 ⟨rfl, h2, hg2⟩
        go_wp2
        go_ret
        rw [HAV.out]
        exact ⟨_, rfl, World.ownsRow_nil _ _ _ _, ⟨_, _, h2⟩, hg2⟩
      · go_wp2_with fail
        refine (fail_d 10 w1 h).mono ?_
        rintro e w2 ⟨rfl, h2, hg2⟩
        go_wp2
        go_ret
        rw [HAV.out]
        exact ⟨_, rfl, World.ownsRow_nil _ _ _ _, ⟨_, _, h2⟩, hg2⟩
      · have h0 : Own w1 w1.heap.size (.slice none 0 0) [] := World.ownsRow_nil _ _ _ _
        have hRR := HR.out
        rcases h.sp with hao | ⟨b, o, hao⟩
        · have hcap := h.hn hao
          subst hao
          subst hcap
          obtain rfl : ys = [] := List.eq_nil_of_length_eq_zero (by omega)
          obtain rfl : K = 0 := by simpa using hK2
          obtain rfl : R = 0 := by simpa using hRR
          obtain rfl : N = 0 := by omega
          have hrt : Rd w1 none [] := Rd.nil _ _
          have hw0 : IntKind.i64.wrap 0 = 0 := by decide
          clear hRR HR
          go_wp2_with (at_builtin; refine wp_app rfl _ _ rfl w1.heap.size (.slice none 0 0) [] [] _ _ rfl h0 rfl hrt (fun _ => rfl) (by simp <;> omega) (Nat.le_refl _) ?_; intro v2 w2 hown2 hg2; have h2 := h.grown hg2 (by simp [Value.ownBlock]) (fun _ _ => by simp [Value.ownBlock]); have k02 := h2.c0; have k22 := h2.f0)
          go_ret
          rw [HAV.out]
          refine ⟨_, rfl, own_setR (by simpa using hown2) q _ _ HQ.out, ⟨_, _, h2.setR none 0 0 0 rfl (Rd.nil _ _) (fun a ha => by cases ha) (Nat.le_refl _) (fun _ => rfl) (.inl rfl)⟩, gr_set (hg2.any _) _ _⟩
        · subst hao
          have HB : Hid (D = some b) := h.blk _ rfl
          obtain ⟨M, hM⟩ : ∃ M : Nat, M = K + N := ⟨_, rfl⟩
          have hwN : IntKind.i64.wrap (N : Int) = (N : Int) := by rw [IntKind.wrap_i64]; omega
          have hwM : IntKind.i64.wrap ((K : Int) + (N : Int)) = (M : Int) := by rw [IntKind.wrap_i64]; omega
          have HM : Hid (M = K + N) := hM
          have hM1 : M ≤ ys.length := by omega
          have hM2 : K ≤ M := by omega
          have hM3 : M ≤ cap := by omega
          have HNL : Hid (M - K = ((ys.drop K).take N).length) := by unfold Hid; simp; omega
          have hrt0 : Rd w1 (some ⟨b, o + K, none⟩) ((ys.drop K).take N) := (hr.drop K).take N
          have HS : Hid (((ys.drop K).take N).length ≤ 140737488355328) := by unfold Hid; rw [← HNL.out]; omega
          by_cases hcp : cap = K
          · have HYL : Hid (ys.length = K) := by unfold Hid; omega
            obtain rfl : N = 0 := by omega
            obtain rfl : M = K := by omega
            have hrt : Rd w1 (some ⟨b, o, none⟩) [] := Rd.nil _ _
            rw [List.take_zero] at HAV
            rw [HYL.out, hcp] at k0
            have HCP : Hid (cap = M) := hcp
            have hR0 : R = 0 := by omega
            subst hR0
            rw [HYL.out] at hwR hl
            clear hcp hc HNL hRR HR hrt0 hM3 hM1 HS hM HM
            go_wp2_with (at_builtin; refine wp_app rfl _ _ rfl w1.heap.size (.slice none 0 0) [] [] _ _ rfl h0 rfl hrt (fun h => by cases h) (by simp <;> omega) (Nat.le_refl _) ?_; intro v2 w2 hown2 hg2; have h2 := h.grown hg2 (by simp [Value.ownBlock]) (fun _ _ => by simp [Value.ownBlock]); have k02 := h2.c0; have k22 := h2.f0; rw [HYL.out, HCP.out] at k02)
            go_ret
            rw [HAV.out]
            refine ⟨_, rfl, own_setR (by simpa using hown2) q _ _ HQ.out, ⟨_, _, h2.setR (some ⟨b, o, none⟩) 0 0 M (by simp [HYL.out]) ?_ (fun a ha => by cases ha; exact HB.out) (Nat.le_refl _) (fun h => by cases h) (.inr ⟨_, _, rfl⟩)⟩, gr_set (hg2.any _) _ _⟩
            intro h9
            simp [HYL.out] at h9
          · have hcK : K ≤ cap := by omega
            have hrt := hrt0
            by_cases hcM : cap = M
            · have HYL : Hid (ys.length = M) := by unfold Hid; omega
              rw [HYL.out, hcM] at k0
              rw [HYL.out] at hwR hl
              have HCP : Hid (cap = M) := hcM
              have hcp2 : ¬ M = K := by omega
              clear hcM hcp hc hRR HR hM3 hM1 hcK hK2 hM
              go_wp2_with (at_builtin; refine wp_app rfl _ _ rfl w1.heap.size (.slice none 0 0) [] ((ys.drop K).take N) _ _ rfl h0 (by rw [← HNL.out]; rfl) hrt (fun h => by cases h) (by rw [List.length_nil, Nat.zero_add]; exact HS.out) (Nat.le_refl _) ?_; intro v2 w2 hown2 hg2; have h2 := h.grown hg2 (by simp [Value.ownBlock]) (fun _ _ => by simp [Value.ownBlock]); have k02 := h2.c0; have k22 := h2.f0; rw [HYL.out, HCP.out] at k02)
              go_ret
              rw [HAV.out]
              refine ⟨_, rfl, own_setR (by simpa using hown2) q _ _ HQ.out, ⟨_, _, h2.setR (some ⟨b, o, none⟩) 0 0 (K + N) (by simp [HYL.out, ← HM.out]) ?_ (fun a ha => by cases ha; exact HB.out) (Nat.le_refl _) (fun h => by cases h) (.inr ⟨_, _, rfl⟩)⟩, gr_set (hg2.any _) _ _⟩
              intro h9
              simp [HYL.out, ← HM.out] at h9
            · clear hRR HR hM
              go_wp2_with (at_builtin; refine wp_app rfl _ _ rfl w1.heap.size (.slice none 0 0) [] ((ys.drop K).take N) _ _ rfl h0 (by rw [← HNL.out]; rfl) hrt (fun h => by cases h) (by rw [List.length_nil, Nat.zero_add]; exact HS.out) (Nat.le_refl _) ?_; intro v2 w2 hown2 hg2; have h2 := h.grown hg2 (by simp [Value.ownBlock]) (fun _ _ => by simp [Value.ownBlock]); have k02 := h2.c0; have k22 := h2.f0)
              go_ret
              rw [HAV.out]
              refine ⟨_, rfl, own_setR (by simpa using hown2) q _ _ HQ.out, ⟨_, _, h2.setR (some ⟨b, o + M, none⟩) (ys.length - M) (cap - M) (K + N) (by simp [← HM.out]) ?_ (fun a ha => by cases ha; exact HB.out) (by omega) (fun h => by cases h) (.inr ⟨_, _, rfl⟩)⟩, gr_set (hg2.any _) _ _⟩
              rw [← HM.out]
              exact h2.rd.drop M
      · go_wp2_with fail
        refine (fail_d E w1 h).mono ?_
        rintro e w2 ⟨rfl, h2, hg2⟩
        go_wp2
        go_ret
        rw [HAV.out]
        exact ⟨_, rfl, World.ownsRow_nil _ _ _ _, ⟨_, _, h2⟩, hg2⟩
  · have HV : Hid (rBytes n ys f = ([], 0, f)) := by unfold Hid rBytes; rw [if_neg hf]
    clear hn64
    go_enter Try.func44, Try.ntmps44
    go_wp2
    go_ret
    rw [HV.out]
    exact ⟨_, rfl, World.ownsRow_nil _ _ _ _, ⟨_, _, h⟩, World.grownBy.refl _ _⟩
end Go.Proofs.Ytdpkommmkcmifaa
