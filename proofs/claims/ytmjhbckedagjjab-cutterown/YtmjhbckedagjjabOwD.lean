import Derived.Test.YtmjhbckedagjjabOwC
namespace Go.Proofs.Ytmjhbckedagjjab
set_option linter.unusedVariables false
set_option linter.unusedSimpArgs false
open Go.RowKit
theorem ob_len (a : Option Addr) (n m c d : Nat) : (Value.slice a n c).ownBlock = (Value.slice a m d).ownBlock := by cases a <;> rfl
theorem row_lit2 (w : World) (B : Nat) (hB : B ≤ w.heap.size) (t : TypeId) (a b : Value) : (w.alloc (.cells #[a, b] t)).ownsRow B t 1 (.slice (some ⟨w.heap.size, 0, none⟩) 2 2) [a, b].length [a, b] :=
  ⟨rfl, .inr ⟨w.heap.size, 2, #[a, b], rfl, hB, heap_alloc_new w _, Nat.le_refl _, by decide, rfl, rfl⟩⟩
set_option maxRecDepth 20000 in
set_option maxHeartbeats 3200000 in
theorem ranges_t {w0 w : World} {pv qv : Option Addr} (h : Ply w0 w pv qv) :
    Calls Try.prog 18 #[.pointer pv, .pointer qv] w fun e w' => e = .returned (.bool true) ∧ Below w0.heap.size w0 w' := by
  obtain ⟨St, H, h1, h2⟩ := h.ex
  obtain ⟨F, G, hp, hq, hFG, hFH, hGH⟩ := h1.ex
  have HB0 : Hid _ := h.bel
  have HPB : Hid (PBx w pv St F) := hp
  have HQB : Hid (RBx w qv St G) := hq
  clear h h1 h2 hp hq hFG hFH hGH
  go_enter Try.func18, Try.ntmps18
  go_wp2_with fail
  refine Calls.mono (pgot HPB.out) ?_
  rintro e w1 ⟨u1, rs, rfl, hown1, hgot1, hlen1, hb1⟩
  obtain ⟨a1, c1, hv1, -, -, -, hrd1, -⟩ := OwnR.val hown1
  subst hv1
  have HO1 : Hid (OwnR w1 w.heap.size (.slice a1 rs.length c1) rs) := hown1
  have HG1 : Hid (GotIs rs St) := hgot1
  have HB1 : Hid _ := hb1
  have HL1 : Hid _ := hlen1
  clear hown1 hgot1 hlen1 hb1 hrd1
  go_wp2_with fail
  refine Calls.mono (pgot (HPB.out.below HB1.out)) ?_
  rintro e w2 ⟨u2, ss, rfl, hown2, hgot2, hlen2, hb2⟩
  have hss : ss = rs := GotIs.uniq hgot2 HG1.out
  subst hss
  obtain ⟨a2, c2, hv2, -, -, -, hrd2, -⟩ := OwnR.val hown2
  subst hv2
  have HO2 : Hid (OwnR w2 w1.heap.size (.slice a2 ss.length c2) ss) := hown2
  have HB2 : Hid _ := hb2
  clear hown2 hgot2 hlen2 hb2 hrd2
  go_wp2_with fail
  refine Calls.mono (qgot (HQB.out.below (below_next HB1.out HB2.out))) ?_
  rintro e w3 ⟨u3, ts, rfl, hown3, hgot3, hlen3, hb3⟩
  have hss : ts = ss := GotIs.uniq hgot3 HG1.out
  subst hss
  obtain ⟨a3, c3, hv3, -, -, -, hrd3, -⟩ := OwnR.val hown3
  subst hv3
  obtain ⟨n, hn⟩ : ∃ n, n = ts.length := ⟨_, rfl⟩
  have HN : Hid _ := hn
  have hO1 : OwnR w3 w.heap.size (.slice a1 n c1) ts := by rw [hn]; exact rowI_below HO1.out (below_next HB2.out hb3)
  have hO2 : OwnR w3 w1.heap.size (.slice a2 n c2) ts := by rw [hn]; exact rowI_below HO2.out hb3
  have hO3 : OwnR w3 w2.heap.size (.slice a3 n c3) ts := by rw [hn]; exact hown3
  have hR1 : RdR w3 a1 ts := by
    obtain ⟨a9, c9, hv9, -, -, -, h9, -⟩ := OwnR.val hO1
    cases hv9; exact h9
  have hR2 : RdR w3 a2 ts := by
    obtain ⟨a9, c9, hv9, -, -, -, h9, -⟩ := OwnR.val hO2
    cases hv9; exact h9
  have hn64 : n ≤ 64 := by rw [hn]; exact HL1.out
  rw [← hn]
  have HS1 : Hid (∀ u, Below w3.heap.size w3 u → Calls _ _ _ u _) := fun u hu => sameR_t a1 a3 n n c1 c3 ts ts u HN.out HN.out (RdR.below hR1 hu) (RdR.below hrd3 hu) (by omega) rfl
  have HS2 : Hid (∀ u, Below w3.heap.size w3 u → Calls _ _ _ u _) := fun u hu => sameR_t a2 a3 n n c2 c3 ts ts u HN.out HN.out (RdR.below hR2 hu) (RdR.below hrd3 hu) (by omega) rfl
  have HO1' : Hid (OwnR w3 w.heap.size (.slice a1 n c1) ts) := hO1
  have HO2' : Hid (OwnR w3 w1.heap.size (.slice a2 n c2) ts) := hO2
  have HO3' : Hid (OwnR w3 w2.heap.size (.slice a3 n c3) ts) := hO3
  have HB3 : Hid _ := hb3
  clear hO1 hO2 hO3 hR1 hR2 hrd3 hown3 hgot3 hlen3 hb3 hn
  go_wp2_with fail
  refine Calls.mono (HS1.out _ (Below.refl _ _)) ?_
  rintro e w4 ⟨rfl, hb4⟩
  have HB4 : Hid _ := hb4
  clear hb4
  go_wp2_with fail
  refine Calls.mono (HS2.out _ HB4.out) ?_
  rintro e w5 ⟨rfl, hb5⟩
  have HB5 : Hid (Below w3.heap.size w3 w5) := below_next HB4.out hb5
  clear hb5
  go_wp2_with fail
  have hsz : w.heap.size ≤ w5.heap.size := Nat.le_trans HB1.out.size (Nat.le_trans HB2.out.size (Nat.le_trans HB3.out.size HB5.out.size))
  have hb6 : Below w3.heap.size w3 (w5.alloc (.cells #[.slice a1 n c1, .slice a2 n c2] 64)) := below_next HB5.out (al (Below.refl _ _) _)
  have hrows : RowsAt KRg (w5.alloc (.cells #[.slice a1 n c1, .slice a2 n c2] 64)) w.heap.size [.slice a1 n c1, .slice a2 n c2] (fun _ => ts) := by
    refine ⟨fun j v hv => ?_, ?_⟩
    · rcases j with _ | _ | j
      · simp at hv
        subst hv
        exact own_KRg.2 (rowI_below HO1'.out hb6)
      · simp at hv
        subst hv
        have h9 : OwnG KRg (w5.alloc (.cells #[.slice a1 n c1, .slice a2 n c2] 64)) w1.heap.size (.slice a2 n c2) ts := own_KRg.2 (rowI_below HO2'.out hb6)
        exact h9.base HB1.out.size
      · simp at hv
    · simp only [List.pairwise_cons, List.mem_singleton, List.not_mem_nil, false_implies, implies_true, List.Pairwise.nil, and_true]
      intro x hx b e1 e2
      subst hx
      have g1 := (World.ownsRow.lt HO1.out b ((ob_len a1 _ _ _ _).trans e1)).2
      have g2 := (World.ownsRow.lt HO2.out b ((ob_len a2 _ _ _ _).trans e2)).1
      omega
  refine Calls.mono (apartRanges_t w.heap.size _ [.slice a1 n c1, .slice a2 n c2] (fun _ => ts) _ (row_lit2 w5 _ hsz _ _ _) hrows (by show 2 ≤ _; omega) (fun _ => by rw [← HN.out]; omega) (Nat.le_trans hsz (by simp))) ?_
  rintro e w7 ⟨rfl, hch⟩
  have hfar : ∀ b, (b < w.heap.size ∨ w2.heap.size ≤ b) → ¬ ∃ v ∈ ([.slice a1 n c1, .slice a2 n c2] : List Value), v.ownBlock = some b := by
    rintro b hb ⟨v, hv, e⟩
    simp at hv
    rcases hv with rfl | rfl
    · have g1 := World.ownsRow.lt HO1.out b ((ob_len a1 _ _ _ _).trans e)
      have := HB2.out.size
      omega
    · have g1 := World.ownsRow.lt HO2.out b ((ob_len a2 _ _ _ _).trans e)
      have := HB1.out.size
      omega
  have hkeep : ∀ b, b < w3.heap.size → (b < w.heap.size ∨ w2.heap.size ≤ b) → w7.heap[b]? = w3.heap[b]? := fun b h1 h2 => (hch.block b (Nat.lt_of_lt_of_le h1 hb6.size) (hfar b h2)).trans (hb6.block b h1)
  have hp7 : PBx w7 pv St F := HPB.out.kept (Nat.le_trans hsz (Nat.le_trans (by simp) hch.size)) (fun b hf => by
    have hlt := HPB.out.lt b hf
    rw [hkeep b (Nat.lt_of_lt_of_le hlt (Nat.le_trans HB1.out.size (Nat.le_trans HB2.out.size HB3.out.size))) (.inl hlt)]
    exact (below_next (below_next HB1.out HB2.out) HB3.out).block b hlt)
  have hO7 : OwnR w7 w2.heap.size (.slice a3 n c3) ts := rowI_kept HO3'.out (fun b e => hkeep b (World.ownsRow.lt HO3'.out b e).2 (.inr (World.ownsRow.lt HO3'.out b e).1))
  have hR7 : RdR w7 a3 ts := by
    obtain ⟨a9, c9, hv9, -, -, -, h9, -⟩ := OwnR.val hO7
    cases hv9; exact h9
  have hbel7 : Below w.heap.size w w7 := (below_next (below_next (below_next HB1.out HB2.out) HB3.out) hb6).trans (hch.bel (fun b hb => by
    apply Classical.byContradiction
    intro h9
    exact hfar b (.inl (by omega)) hb) (Nat.le_trans hsz (by simp)))
  have HBE : Hid (Below w0.heap.size w0 w7) := below_next HB0.out hbel7
  have HP7 : Hid _ := hp7
  have HR7 : Hid _ := hR7
  clear hrows hch hfar hkeep hp7 hO7 hR7 hbel7 hb6 hsz HS1 HS2
  go_wp2_with fail
  refine Calls.mono (pgot HP7.out) ?_
  rintro e w8 ⟨u8, rs, rfl, hown8, hgot8, hlen8, hb8⟩
  have hss : rs = ts := GotIs.uniq hgot8 HG1.out
  subst hss
  obtain ⟨a8, c8, hv8, -, -, -, hrd8, -⟩ := OwnR.val hown8
  subst hv8
  rw [← HN.out]
  have HS3 : Hid _ := sameR_t a8 a3 n n c8 c3 rs rs w8 HN.out HN.out hrd8 (RdR.below HR7.out hb8) (by omega) rfl
  have HB8 : Hid _ := hb8
  clear hown8 hgot8 hlen8 hb8 hrd8
  go_wp2_with fail
  refine Calls.mono HS3.out ?_
  rintro e w9 ⟨rfl, hb9⟩
  have HB9 : Hid _ := hb9
  clear hb9
  go_wp2
  go_ret
  exact ⟨rfl, below_next (below_next HBE.out HB8.out) HB9.out⟩
end Go.Proofs.Ytmjhbckedagjjab
