import Derived.Test.YtgdkiejlggiakacROps4
namespace Go.Proofs.Ytgdkiejlggiakac
set_option linter.unusedVariables false
set_option linter.unusedSimpArgs false
open Go.RowKit Go.Maps
def cntC (C : Nat → List (List UInt8)) (i : Nat) : Nat := (List.range i).countP fun j => !(C j).isEmpty
theorem cntC_succ (C : Nat → List (List UInt8)) (i : Nat) : cntC C (i + 1) = cntC C i + if C i = [] then 0 else 1 := by
  unfold cntC
  rw [List.range_succ, List.countP_append]
  cases h : C i <;> simp [List.countP_cons, h]
theorem posN_cnt (N : Nat) (C : Nat → List (List UInt8)) (i : Nat) (hi : i ≤ N) : posN N C i = cntC C i := by
  unfold posN dirtyL dirtyN cntC
  rw [List.countP_map, List.countP_filter]
  obtain ⟨k, rfl⟩ : ∃ k, N = i + k := ⟨N - i, by omega⟩
  rw [List.range_add, List.countP_append]
  have h2 : ((List.range k).map (i + ·)).countP (fun a => ((fun x : Int => decide (x < (i : Int))) ∘ fun (k : Nat) => (k : Int)) a && !(C a).isEmpty) = 0 := by
    rw [List.countP_eq_zero]
    intro a ha
    obtain ⟨b, -, rfl⟩ := List.mem_map.1 ha
    simp
    omega
  rw [h2, Nat.add_zero]
  apply List.countP_congr
  intro j hj
  have hji := List.mem_range.1 hj
  simp only [Function.comp, Bool.and_eq_true, decide_eq_true_eq]
  constructor
  · rintro ⟨-, h4⟩; exact h4
  · intro h4; exact ⟨by omega, h4⟩
def crE (S : List Sec) (C : Nat → List (List UInt8)) (chs : List Int) (j : Nat) (s : Sec) : Sec := if C j = [] then s else afterS s (told S.length C chs j) (C j)
def crS (S : List Sec) (C : Nat → List (List UInt8)) (chs : List Int) (k : Nat) : List Sec := S.mapIdx fun j s => if j < k then crE S C chs j s else s
theorem crS_zero (S : List Sec) (C : Nat → List (List UInt8)) (chs : List Int) : crS S C chs 0 = S := by
  apply List.ext_getElem
  · simp [crS]
  · intro j h1 h2; simp [crS]
theorem crS_all (S : List Sec) (C : Nat → List (List UInt8)) (chs : List Int) : crS S C chs S.length = crashed S C chs := by
  apply List.ext_getElem
  · simp [crS, crashed]
  · intro j h1 h2
    have : j < S.length := by simpa [crS] using h1
    simp [crS, crashed, crE, this]
theorem crS_succ (S : List Sec) (C : Nat → List (List UInt8)) (chs : List Int) (k : Nat) (hk : k < S.length) : crS S C chs (k + 1) = (crS S C chs k).set k (crE S C chs k (S.getD k Sec.zero)) := by
  apply List.ext_getElem
  · simp [crS]
  · intro j h1 h2
    have hj : j < S.length := by simpa [crS] using h1
    by_cases e : j = k
    · subst e; simp [crS, hj]
    · have e1 : ¬ k = j := fun e' => e e'.symm
      by_cases e2 : j < k
      · simp [crS, List.getElem_set, e1, e2, show j < k + 1 by omega]
      · simp [crS, List.getElem_set, e1, e2, show ¬ j < k + 1 by omega]
theorem crS_at (S : List Sec) (C : Nat → List (List UInt8)) (chs : List Int) (k : Nat) (hk : k < S.length) : (crS S C chs k).getD k Sec.zero = S.getD k Sec.zero := by simp [crS, hk]
theorem crS_same (S : List Sec) (C : Nat → List (List UInt8)) (chs : List Int) (k : Nat) (hk : k < S.length) (h : crE S C chs k (S.getD k Sec.zero) = S.getD k Sec.zero) : crS S C chs (k + 1) = crS S C chs k := by
  rw [crS_succ _ _ _ _ hk, h, ← crS_at S C chs k hk, set_getD]
set_option maxRecDepth 20000 in
set_option maxHeartbeats 1600000 in
theorem rcrash_t {w : World} {rp gs N : Nat} {d : Dst} {VT VV : Nat → Value} {vs : Nat → List Value} {Fp : Nat → Prop} (h : RDk w rp gs N d VT VV vs Fp) (hfew : ∀ i, i < N → (d.C i).length ≤ 1099511627776) (ca : Option Addr) (cc : Nat) (chs : List Int) (hch : Ints w ca chs) (hcb : 0 < chs.length → ∀ q, ca = some q → ¬ Fp q.block) :
    Calls Try.prog 52 #[.pointer (some ⟨rp, 0, none⟩), .slice ca chs.length cc] w fun e w' => e = .returned (.tuple #[]) ∧ ∃ VT' VV' vs', RDk w' rp gs N (d.crash chs) VT' VV' vs' Fp ∧ Chg Fp w w' := by
  have HN : Hid _ := rnone_d h
  have H : Hid _ := h
  have HFEW : Hid _ := hfew
  have hN := h.most
  have HCH : Hid _ := hch
  have HCB : Hid _ := hcb
  obtain ⟨Lc, hLc⟩ : ∃ L : Nat, L = chs.length := ⟨_, rfl⟩
  rw [← hLc]
  have HLc : Hid _ := hLc
  clear h hfew hch hcb hLc
  go_enter Try.func52, Try.ntmps52
  go_wp2_with fail
  refine Calls.mono HN.out ?_
  rintro e w1 ⟨rfl, hq⟩
  have hq := hq.symm
  subst hq
  go_wp2_with fail
  go_loopw [4, 5, 6, 7, 47, 57] (fun a i _ _ _ _ wr => ∃ (k m : Nat) (VT' VV' : Nat → Value) (vs' : Nat → List Value), k ≤ N ∧ m = cntC d.C k ∧ m ≤ k ∧ i = .int .i64 (k : Int) ∧ a = .int .i64 (m : Int) ∧ RDk wr rp gs N ⟨crS d.S d.C chs k, flC d.C k, d.off, d.fuse⟩ VT' VV' vs' Fp ∧ Chg (fun b => b = gs) w wr) (fun _ i _ _ _ _ _ => N - (intOf i).toNat)
  case atStart => exact ⟨0, 0, VT, VV, vs, Nat.zero_le _, rfl, Nat.le_refl _, rfl, rfl, by rw [crS_zero]; exact H.out, Chg.refl _ _⟩
  case round =>
    obtain ⟨k, m, VT', VV', vs', hk, hm, hmk, rfl, rfl, hrd, hcg⟩ := hrel
    have c0 := hrd.c0
    have hk0 : (0 : Int) ≤ (k : Int) := by omega
    have hkw : IntKind.i64.wrap ((k : Int) + 1) = ((k + 1 : Nat) : Int) := by rw [IntKind.wrap_i64]; omega
    have hmw : IntKind.i64.wrap ((m : Int) + 1) = ((m + 1 : Nat) : Int) := by rw [IntKind.wrap_i64]; omega
    have HRD : Hid _ := hrd
    have HCG : Hid _ := hcg
    have HMM : Hid _ := hm
    clear hm
    by_cases hlt : k < N
    · have hlti : (k : Int) < (N : Int) := by omega
      have hkS : k < d.S.length := by rw [H.out.len]; exact hlt
      have s2 := hrd.s2 k hlt
      obtain ⟨av, cv, hvv, -, hvers⟩ := hrd.versV k hlt
      have hCk : flC d.C k k = d.C k := by simp [flC]
      simp only at hvv hvers
      rw [hCk] at hvv
      obtain ⟨n, hn⟩ : ∃ n, n = (d.C k).length := ⟨_, rfl⟩
      rw [hvv, ← hn] at s2
      have hnb : n ≤ 1099511627776 := by rw [hn]; exact HFEW.out k hlt
      obtain ⟨cur9, hcur9, -⟩ := hrd.hs
      have hf2 := frozen_of_row wr gs (k * 3 + 2) _ _ hcur9
      have HTD : Hid (told d.S.length d.C chs k = chs.getD m 0) := by unfold Hid told; rw [posN_cnt _ _ _ (by omega), HMM.out]
      clear hrd hcg
      by_cases h0 : n = 0
      · have hCe : d.C k = [] := List.eq_nil_of_length_eq_zero (by omega)
        have HNX : Hid (RDk wr rp gs N ⟨crS d.S d.C chs (k + 1), flC d.C (k + 1), d.off, d.fuse⟩ VT' VV' vs' Fp) := by
          unfold Hid
          rw [crS_same _ _ _ _ hkS (by unfold crE; rw [if_pos hCe]), flC_skip _ _ hCe]
          exact HRD.out
        have HM2 : Hid (m = cntC d.C (k + 1)) := by unfold Hid; rw [cntC_succ, if_pos hCe, HMM.out]; rfl
        subst h0
        clear hvers hvv hn hCe hCk hcur9
        go_wp2
        go_roundw
        case rel => exact ⟨k + 1, m, VT', VV', vs', by omega, HM2.out, by omega, rfl, rfl, HNX.out, HCG.out⟩
        case measure => simp [intOf]; omega
      · have h0i : ¬ (n : Int) = 0 := by omega
        have h0b : ((n : Int) == 0) = false := by simpa using h0i
        have hCe : d.C k ≠ [] := fun e => h0 (by rw [hn, e]; rfl)
        have HM2 : Hid (m + 1 = cntC d.C (k + 1)) := by unfold Hid; rw [cntC_succ, if_neg hCe, HMM.out]
        have HCE : Hid (crE d.S d.C chs k (d.S.getD k Sec.zero) = afterS (d.S.getD k Sec.zero) (chs.getD m 0) (d.C k)) := by unfold Hid crE; rw [if_neg hCe, HTD.out]
        by_cases h2 : m < Lc
        · have h2i : (m : Int) < (Lc : Int) := by omega
          have hm0 : (0 : Int) ≤ (m : Int) := by omega
          have hmc : m < chs.length := by rw [← HLc.out]; exact h2
          obtain ⟨cb, co, rfl, hcell0⟩ := HCH.out m hmc
          have hcell : wr.cell? ⟨cb, co + m, none⟩ = some (.int .i64 (chs[m]'hmc)) := by
            rw [← hcell0]
            refine World.cell?_of_block (Chg.block HCG.out cb (World.block_lt_of_cell? w _ hcell0) (fun e => ?_))
            exact HCB.out (by omega) _ rfl (by simp only; rw [e]; exact H.out.fgs)
          obtain ⟨c, hc⟩ : ∃ c, c = chs[m]'hmc := ⟨_, rfl⟩
          have hgd : chs.getD m 0 = c := by rw [hc]; simp [List.getD, List.getElem?_eq_getElem hmc]
          rw [← hc] at hcell
          clear hc hcell0 hmc
          by_cases c1 : c = 0
          · subst c1
            have HFG : Hid _ := RDk.forget HRD.out k hlt
            have HNX : Hid (RDk (wr.setCell ⟨gs, k * 3 + 2, none⟩ (.slice none 0 0)) rp gs N ⟨crS d.S d.C chs (k + 1), flC d.C (k + 1), d.off, d.fuse⟩ VT' (upd VV' k nilS) (upd vs' k []) Fp) := by
              unfold Hid
              rw [crS_same _ _ _ _ hkS (by rw [HCE.out, hgd]; unfold afterS; rw [if_pos rfl]), flC_succ]
              exact HFG.out.1
            clear hvers hvv hn hCe hCk hcur9 hgd
            go_wp2
            go_roundw
            case rel => exact ⟨k + 1, m + 1, VT', upd VV' k nilS, upd vs' k [], by omega, HM2.out, by omega, rfl, rfl, HNX.out, Chg.trans HCG.out HFG.out.2 (fun b hb => .inl hb)⟩
            case measure => simp [intOf]; omega
          · have c1b : (c == 0) = false := by simpa using c1
            by_cases c2 : 0 < c ∧ c ≤ (n : Int)
            · obtain ⟨c2a, c2b⟩ := c2
              obtain ⟨y, hy⟩ : ∃ y : Nat, (y : Int) = c - 1 := ⟨(c - 1).toNat, by omega⟩
              obtain ⟨g, u, rfl, hcu, hul, hby⟩ := hvers y (by rw [hCk]; omega)
              have hyw : IntKind.i64.wrap (c - 1) = (y : Int) := by rw [IntKind.wrap_i64]; omega
              have hy0 : (0 : Int) ≤ (y : Int) := by omega
              have hyn : (y : Int) < (n : Int) := by omega
              have hpS : crE d.S d.C chs k (d.S.getD k Sec.zero) = ⟨(flC d.C k k)[y]'(by rw [hCk]; omega), false⟩ := by
                rw [HCE.out, hgd]
                unfold afterS
                rw [if_neg c1, if_pos ⟨c2a, by omega⟩]
                congr 1
                have hy2 : c.toNat - 1 = y := by omega
                simp only [hCk, hy2]
                simp [List.getD, List.getElem?_eq_getElem (show y < (d.C k).length by omega)]
              obtain ⟨ub, uo, uc, rfl, hufb, hurd, -⟩ := hby.ex
              rw [hul] at hcu
              obtain ⟨u, hu⟩ : ∃ u, u = Value.slice (some ⟨ub, uo, none⟩) 128 uc := ⟨_, rfl⟩
              have hby2 := hby
              rw [hul, ← hu] at hby2
              have HLY := RDk.lay HRD.out k hlt ⟨(flC d.C k k)[y]'(by rw [hCk]; omega), false⟩ ⟨hul, fun h => by cases h⟩ u hby2.text
              rw [← hpS] at HLY
              simp only at HLY
              have hnx : RDk (wr.setCells gs (k * 3) [u, .bool false, .slice none 0 0]) rp gs N ⟨crS d.S d.C chs (k + 1), flC d.C (k + 1), d.off, d.fuse⟩ (upd VT' k u) (upd VV' k nilS) (upd vs' k []) Fp := by
                have h9 := HLY.1
                rw [show (crE d.S d.C chs k (d.S.getD k Sec.zero)).torn = false from by rw [hpS]] at h9
                rw [crS_succ _ _ _ _ hkS, flC_succ]
                exact h9
              have hcx : Chg (fun b => b = gs) wr (wr.setCells gs (k * 3) [u, .bool false, .slice none 0 0]) := Chg.of_grown (setCells_grown gs _ (k * 3) wr) (fun b hb => by cases hb; rfl)
              have HNX : Hid _ := hnx
              have HCX : Hid _ := hcx
              have HTH : Hid _ := RDk.there HRD.out k hlt
              have hgg : g ≠ gs := fun e => by
                obtain ⟨c9, h9⟩ := OwnV.at_ (RDk.own HRD.out k hlt) (b := g) (by rw [hvv]; rfl)
                rw [e, hcur9] at h9
                simp only [Option.some.injEq, Obj.cells.injEq] at h9
                exact absurd h9.2.1 (by decide)
              have hgl : g < wr.heap.size := World.block_lt_of_cell? wr _ hcu
              have hb1 : ∀ x, BRf rp gs N g y (.slice (some ⟨ub, uo, none⟩) 128 uc) x → x.cell? ⟨rp, 0, none⟩ = some (.slice (some ⟨gs, 0, none⟩) N N) := fun x hx => hx.1
              have hb2 : ∀ x, BRf rp gs N g y (.slice (some ⟨ub, uo, none⟩) 128 uc) x → x.cell? ⟨g, y, none⟩ = some (.slice (some ⟨ub, uo, none⟩) 128 uc) := fun x hx => hx.2
              have hB0 : BRf rp gs N g y (.slice (some ⟨ub, uo, none⟩) 128 uc) wr.drew := ⟨c0, hcu⟩
              have hB1 : BRf rp gs N g y (.slice (some ⟨ub, uo, none⟩) 128 uc) (wr.setCells gs (k * 3) [u, .bool false, .slice none 0 0]) := ⟨hnx.c0, by rw [← hcu]; exact World.cell?_of_block (hcx.block g hgl hgg)⟩
              have hB2 : BRf rp gs N g y (.slice (some ⟨ub, uo, none⟩) 128 uc) (wr.drew.setCells gs (k * 3) [u, .bool false, .slice none 0 0]) := by
                rw [setCells_drew]
                exact hB1
              rw [hu] at hB1 hB2 HNX HCX
              clear hvers hvv hn hy hpS hnx hcx hby hby2 HLY hul hurd hufb hcur9 hCk hu hCe hgd
              go_wp2_with fail
              refine wp_region_noPanic ?_
              refine wp_region_held_drew (S := (fun x => BRf rp gs N g y (.slice (some ⟨ub, uo, none⟩) 128 uc) x)) (by kernel_rfl) (by first | exact hB0 | exact hB1 | exact hB2 | assumption) (fun hHeld => ?_)
              refine take_at (i := 0) 65 (v := ?_) rfl rfl (by kernel_rfl) (by kernel_rfl) (by kernel_rfl) (fun _ _ _ h => h) (by rfl) ?_ hHeld ?_
              rotate_left
              · (intro w hSw; (try dsimp only at hSw); go_simp; try with_reducible rfl)
              simp only [Act.put, List.setIfInBounds_toArray, List.set_cons_zero, List.set_cons_succ]
              refine take_at (i := 1) 66 (v := ?_) rfl rfl (by kernel_rfl) (by kernel_rfl) (by kernel_rfl) (fun _ _ _ h => h) (by rfl) ?_ hHeld ?_
              rotate_left
              · (intro w hSw; (try dsimp only at hSw); go_simp; try with_reducible rfl)
              simp only [Act.put, List.setIfInBounds_toArray, List.set_cons_zero, List.set_cons_succ]
              refine take_at (i := 2) 67 (v := ?_) rfl rfl (by kernel_rfl) (by kernel_rfl) (by kernel_rfl) (fun _ _ _ h => h) (by rfl) ?_ hHeld ?_
              rotate_left
              · (intro w hSw; (try dsimp only at hSw); go_simp; try with_reducible rfl)
              simp only [Act.put, List.setIfInBounds_toArray, List.set_cons_zero, List.set_cons_succ]
              refine take_at (i := 3) 68 (v := ?_) rfl rfl (by kernel_rfl) (by kernel_rfl) (by kernel_rfl) (fun _ _ _ h => h) (by rfl) ?_ hHeld ?_
              rotate_left
              · (intro w hSw; (try dsimp only at hSw); go_simp; try with_reducible rfl)
              simp only [Act.put, List.setIfInBounds_toArray, List.set_cons_zero, List.set_cons_succ]
              refine take_at (i := 4) 69 (v := ?_) rfl rfl (by kernel_rfl) (by kernel_rfl) (by kernel_rfl) (fun _ _ _ h => h) (by rfl) ?_ hHeld ?_
              rotate_left
              · (intro w hSw; (try dsimp only at hSw); go_simp; try with_reducible rfl)
              simp only [Act.put, List.setIfInBounds_toArray, List.set_cons_zero, List.set_cons_succ]
              refine take_at (i := 5) 70 (v := ?_) rfl rfl (by kernel_rfl) (by kernel_rfl) (by kernel_rfl) (fun _ _ _ h => h) (by rfl) ?_ hHeld ?_
              rotate_left
              · (intro w hSw; (try dsimp only at hSw); go_simp; try with_reducible rfl)
              simp only [Act.put, List.setIfInBounds_toArray, List.set_cons_zero, List.set_cons_succ]
              refine take_at (i := 6) 71 (v := ?_) rfl rfl (by kernel_rfl) (by kernel_rfl) (by kernel_rfl) (fun _ _ _ h => h) (by rfl) ?_ hHeld ?_
              rotate_left
              · (intro w hSw; (try dsimp only at hSw); go_simp; try with_reducible rfl)
              simp only [Act.put, List.setIfInBounds_toArray, List.set_cons_zero, List.set_cons_succ]
              refine take_at (i := 7) 72 (v := ?_) rfl rfl (by kernel_rfl) (by kernel_rfl) (by kernel_rfl) (fun _ _ _ h => h) (by rfl) ?_ hHeld ?_
              rotate_left
              · (intro w hSw; (try dsimp only at hSw); go_simp; try with_reducible rfl)
              simp only [Act.put, List.setIfInBounds_toArray, List.set_cons_zero, List.set_cons_succ]
              refine take_at (i := 8) 73 (v := ?_) rfl rfl (by kernel_rfl) (by kernel_rfl) (by kernel_rfl) (fun _ _ _ h => h) (by rfl) ?_ hHeld ?_
              rotate_left
              · (intro w hSw; (try dsimp only at hSw); go_simp; try with_reducible rfl)
              simp only [Act.put, List.setIfInBounds_toArray, List.set_cons_zero, List.set_cons_succ]
              refine take_at (i := 9) 74 (v := ?_) rfl rfl (by kernel_rfl) (by kernel_rfl) (by kernel_rfl) (fun _ _ _ h => h) (by rfl) ?_ hHeld ?_
              rotate_left
              · (intro w hSw; (try dsimp only at hSw); go_simp; try with_reducible rfl)
              simp only [Act.put, List.setIfInBounds_toArray, List.set_cons_zero, List.set_cons_succ]
              refine take_at (i := 10) 75 (v := ?_) rfl rfl (by kernel_rfl) (by kernel_rfl) (by kernel_rfl) (fun _ _ _ h => h) (by rfl) ?_ hHeld ?_
              rotate_left
              · (intro w hSw; (try dsimp only at hSw); go_simp; try with_reducible rfl)
              simp only [Act.put, List.setIfInBounds_toArray, List.set_cons_zero, List.set_cons_succ]
              refine take_at (i := 11) 76 (v := ?_) rfl rfl (by kernel_rfl) (by kernel_rfl) (by kernel_rfl) (fun _ _ _ h => h) (by rfl) ?_ hHeld ?_
              rotate_left
              · (intro w hSw; (try dsimp only at hSw); go_simp; try with_reducible rfl)
              simp only [Act.put, List.setIfInBounds_toArray, List.set_cons_zero, List.set_cons_succ]
              refine take_at (i := 13) 78 (v := ?_) rfl rfl (by kernel_rfl) (by kernel_rfl) (by kernel_rfl) (fun _ _ _ h => h) (by rfl) ?_ hHeld ?_
              rotate_left
              · (intro w hSw; (try dsimp only at hSw); go_simp; try with_reducible rfl)
              simp only [Act.put, List.setIfInBounds_toArray, List.set_cons_zero, List.set_cons_succ]
              refine take_at (i := 14) 79 (v := ?_) rfl rfl (by kernel_rfl) (by kernel_rfl) (by kernel_rfl) (fun _ _ _ h => h) (by rfl) ?_ hHeld ?_
              rotate_left
              · (intro w hSw; (try dsimp only at hSw); go_simp; try with_reducible rfl)
              simp only [Act.put, List.setIfInBounds_toArray, List.set_cons_zero, List.set_cons_succ]
              refine val_at (i := 12) 77 (v := ?_) rfl rfl (by kernel_rfl) (by rfl) ?_ ?_ ?_
              rotate_left
              · (go_simp; try with_reducible rfl)
              · (first | exact hB0 | exact hB1 | exact hB2 | assumption)
              intro hHeld2
              clear hHeld
              have hHeld := hHeld2
              clear hHeld2
              simp only [Act.put, List.setIfInBounds_toArray, List.set_cons_zero, List.set_cons_succ]
              refine take_at (i := 15) 80 (v := ?_) rfl rfl (by kernel_rfl) (by kernel_rfl) (by kernel_rfl) (fun _ _ _ h => h) (by rfl) ?_ hHeld ?_
              rotate_left
              · (intro w hSw; (try dsimp only at hSw); go_simp; try with_reducible rfl)
              simp only [Act.put, List.setIfInBounds_toArray, List.set_cons_zero, List.set_cons_succ]
              refine take_at (i := 16) 81 (v := ?_) rfl rfl (by kernel_rfl) (by kernel_rfl) (by kernel_rfl) (fun _ _ _ h => h) (by rfl) ?_ hHeld ?_
              rotate_left
              · (intro w hSw; (try dsimp only at hSw); go_simp; try with_reducible rfl)
              simp only [Act.put, List.setIfInBounds_toArray, List.set_cons_zero, List.set_cons_succ]
              refine take_at (i := 17) 82 (v := ?_) rfl rfl (by kernel_rfl) (by kernel_rfl) (by kernel_rfl) (fun _ _ _ h => h) (by rfl) ?_ hHeld ?_
              rotate_left
              · (intro w hSw; (try dsimp only at hSw); go_simp; try with_reducible rfl)
              simp only [Act.put, List.setIfInBounds_toArray, List.set_cons_zero, List.set_cons_succ]
              refine take_at (i := 18) 83 (v := ?_) rfl rfl (by kernel_rfl) (by kernel_rfl) (by kernel_rfl) (fun _ _ _ h => h) (by rfl) ?_ hHeld ?_
              rotate_left
              · (intro w hSw; (try dsimp only at hSw); go_simp; try with_reducible rfl)
              simp only [Act.put, List.setIfInBounds_toArray, List.set_cons_zero, List.set_cons_succ]
              refine run_at (i := 19) rfl (by kernel_rfl) (by rfl) (fun K hK => ?_)
              simp only [List.getElem_toArray, List.getElem_cons_zero, List.getElem_cons_succ]
              refine wp_store_mid 98 _ _ rfl gs (k * 3) #[.slice (some ⟨ub, uo, none⟩) 128 uc, .bool false, .slice none 0 0] rfl rfl HTH.out (by kernel_rfl) (all_oneCell_toArray (cs := [.slice (some ⟨ub, uo, none⟩) 128 uc, .bool false, .slice none 0 0]) (fun v hv => by simp at hv; rcases hv with rfl | rfl | rfl <;> rfl)) ?_
              refine hK.out _ _ (by first | exact hB0 | exact hB1 | exact hB2 | assumption) ?_
              clear hK K
              intro hHeld2
              clear hHeld
              have hHeld := hHeld2
              clear hHeld2
              try simp only [Act.put, List.setIfInBounds_toArray, List.set_cons_zero, List.set_cons_succ]
              refine wpAnyH_done (by kernel_rfl) ?_ _
              refine NoPanic.normal ?_
              go_wp2
              go_roundw
              case rel =>
                refine ⟨k + 1, m + 1, upd VT' k (.slice (some ⟨ub, uo, none⟩) 128 uc), upd VV' k nilS, upd vs' k [], by omega, HM2.out, by omega, rfl, rfl, ?_, ?_⟩
                · rw [setCells_drew]
                  exact RDk.below HNX.out (Below.refl _ _).drew
                · have h9 := Chg.trans HCG.out HCX.out (fun b hb => .inl hb)
                  rw [setCells_drew]
                  exact h9.trans (Chg.of_below (F := fun _ => False) (Below.refl _ _).drew) (fun _ hf => hf.elim)
              case measure => simp [intOf]; omega
            · have hpS : crE d.S d.C chs k (d.S.getD k Sec.zero) = Sec.bad := by
                rw [HCE.out, hgd]
                unfold afterS
                rw [if_neg c1, if_neg (by rw [← hn]; exact c2)]
              have HLY := RDk.lay HRD.out k hlt Sec.bad Sec.bad_fit (.slice none 0 0) (.inl ⟨rfl, rfl⟩)
              have HNX : Hid (RDk (wr.setCells gs (k * 3) [.slice none 0 0, .bool true, .slice none 0 0]) rp gs N ⟨crS d.S d.C chs (k + 1), flC d.C (k + 1), d.off, d.fuse⟩ (upd VT' k (.slice none 0 0)) (upd VV' k nilS) (upd vs' k []) Fp) := by
                unfold Hid
                rw [crS_succ _ _ _ _ hkS, flC_succ, hpS]
                exact HLY.1
              have HCX : Hid (Chg (fun b => b = gs) wr (wr.setCells gs (k * 3) [.slice none 0 0, .bool true, .slice none 0 0])) := HLY.2
              have HTH : Hid _ := RDk.there HRD.out k hlt
              clear hvers hvv hn hpS HLY hcur9 hCk hCe hgd
              by_cases c3 : 0 < c
              · have c4 : ¬ c ≤ (n : Int) := fun h => c2 ⟨c3, h⟩
                clear c2
                go_wp2_with (first
                  | (refine wpList_store_mid rfl 98 _ _ rfl gs (k * 3) #[.slice none 0 0, .bool true, .slice none 0 0] rfl rfl HTH.out (by kernel_rfl) (all_oneCell_toArray (cs := [.slice none 0 0, .bool true, .slice none 0 0]) (fun v hv => by simp at hv; rcases hv with rfl | rfl | rfl <;> rfl)) ?_))
                go_roundw
                case rel => exact ⟨k + 1, m + 1, _, _, _, by omega, HM2.out, by omega, rfl, rfl, HNX.out, Chg.trans HCG.out HCX.out (fun b hb => .inl hb)⟩
                case measure => simp [intOf]; omega
              · clear c2
                go_wp2_with (first
                  | (refine wpList_store_mid rfl 98 _ _ rfl gs (k * 3) #[.slice none 0 0, .bool true, .slice none 0 0] rfl rfl HTH.out (by kernel_rfl) (all_oneCell_toArray (cs := [.slice none 0 0, .bool true, .slice none 0 0]) (fun v hv => by simp at hv; rcases hv with rfl | rfl | rfl <;> rfl)) ?_))
                go_roundw
                case rel => exact ⟨k + 1, m + 1, _, _, _, by omega, HM2.out, by omega, rfl, rfl, HNX.out, Chg.trans HCG.out HCX.out (fun b hb => .inl hb)⟩
                case measure => simp [intOf]; omega
        · have h2i : ¬ (m : Int) < (Lc : Int) := by omega
          have hgd : chs.getD m 0 = 0 := by simp [List.getD, List.getElem?_eq_none (show chs.length ≤ m by rw [← HLc.out]; omega)]
          have HFG : Hid _ := RDk.forget HRD.out k hlt
          have HNX : Hid (RDk (wr.setCell ⟨gs, k * 3 + 2, none⟩ (.slice none 0 0)) rp gs N ⟨crS d.S d.C chs (k + 1), flC d.C (k + 1), d.off, d.fuse⟩ VT' (upd VV' k nilS) (upd vs' k []) Fp) := by
            unfold Hid
            rw [crS_same _ _ _ _ hkS (by rw [HCE.out, hgd]; unfold afterS; rw [if_pos rfl]), flC_succ]
            exact HFG.out.1
          clear hvers hvv hn hCe hCk hcur9 hgd
          go_wp2
          go_roundw
          case rel => exact ⟨k + 1, m + 1, VT', upd VV' k nilS, upd vs' k [], by omega, HM2.out, by omega, rfl, rfl, HNX.out, Chg.trans HCG.out HFG.out.2 (fun b hb => .inl hb)⟩
          case measure => simp [intOf]; omega
    · have hlti : ¬ (k : Int) < (N : Int) := by omega
      obtain rfl : k = N := by omega
      have hrp := hrd.hp
      have c1 := hrd.c1
      have c2 := hrd.c2
      have f1 := frozen_of_row wr rp 1 _ _ hrp
      have f2 := frozen_of_row wr rp 2 _ _ hrp
      have k1 := (heap_set3 hrp (.bool false)).1
      have k2 := (heap_set3 k1 (.int .i64 (-1))).2
      have hg := (gset1 wr rp 1 (.bool false)).trans' (gset1 (wr.setCell ⟨rp, 1, none⟩ (.bool false)) rp 2 (.int .i64 (-1)))
      have HFIN : Hid (RDk ((wr.setCell ⟨rp, 1, none⟩ (.bool false)).setCell ⟨rp, 2, none⟩ (.int .i64 (-1))) rp gs k (d.crash chs) VT' VV' vs' Fp) := by
        have h9 := RDk.pow' hrd k2 hg (fun h => by cases h) (by decide)
        have h10 := h9.eqD (crashed d.S d.C chs) (fun _ => []) (by show crS d.S d.C chs k = _; rw [← H.out.len, crS_all]) (fun i hi => by simp [flC, hi])
        exact h10
      have HCF : Hid (Chg Fp w ((wr.setCell ⟨rp, 1, none⟩ (.bool false)).setCell ⟨rp, 2, none⟩ (.int .i64 (-1)))) := (hcg.mono (G := Fp) (fun b hb => by rw [hb]; exact H.out.fgs)).trans (Chg.of_grown (F := Fp) hg (fun b hb => by cases hb; exact H.out.frp)) (fun b hb => .inl hb)
      clear hrd hcg hrp k1 k2 hg
      go_wp2
      go_end0
      exact ⟨rfl, ⟨VT', VV', vs', HFIN.out⟩, HCF.out⟩
end Go.Proofs.Ytgdkiejlggiakac
