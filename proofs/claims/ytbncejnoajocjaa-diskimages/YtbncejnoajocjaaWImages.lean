import Derived.Test.YtbncejnoajocjaaDImM
import Derived.Test.YtbncejnoajocjaaDByt
import Derived.Test.YtbncejnoajocjaaDSpan
import Derived.Test.YtbncejnoajocjaaOpenD
import Derived.Maps.OwnSet
namespace Go.Proofs.Ytbncejnoajocjaa
set_option linter.unusedVariables false
set_option linter.unusedSimpArgs false
open Go.RowKit Go.Maps
/-- an element of a map, read as itself -/
def selfR (v : Value) : Option (DataW Value × List MemPlace) := some (.held v, [])
theorem keyI : Keyed Try.prog 3 := int_keyed Try.underlying3
theorem zeroT (w : World) : (zeroValue 70).run Try.prog w = .ok (.slice none 0 0) w := by kernel_rfl
/-- nothing is in the cache -/
theorem looks_none {w : World} {m : Nat} (h : w.heap[m]? = some (.map #[] 0)) (i : Nat) (hi : i ≤ 65536) : Looks w m i none 0 [] := by
  refine ⟨fun u hu => ?_, by simp, by simp, Texts.nil _ _⟩
  have hm : u.heap[m]? = some (.map #[] 0) := (hu.block m (Array.getElem?_eq_some_iff.1 h).1).trans h
  have hown : u.ownsMap Try.prog 3 selfR m 0 (.map []) := ⟨#[], 0, hm, ⟨Nat.zero_le _, by simp [MapKept.Stamped], fun x hx => by simp at hx⟩, Nat.le_refl _, rfl⟩
  obtain ⟨v, ps, hrun, hR⟩ := hown.lookup keyI Try.underlying55 (zeroT u) (zd := .held (.slice none 0 0)) (zp := []) rfl (keyOf_int_mk Try.underlying3 (a := (i : Int)) (by simp [Lit.wf, IntKind.min, IntKind.max, IntKind.signed, IntKind.bits]; omega))
  rw [hrun]
  simp only [selfR, Option.some.injEq, Prod.mk.injEq] at hR
  have h5 := hR.1
  simp only [DataW.atKey] at h5
  rw [List.find?_nil] at h5
  cases h5
  rfl
theorem rd_row {w : World} {B : Nat} {xs : List UInt8} (h : w.heap[B]? = some (.cells (bv xs).toArray 5 (0, 0))) : Rd w (some ⟨B, 0, none⟩) xs := by
  intro _
  refine ⟨_, _, rfl, fun i hi => ?_⟩
  rw [Nat.zero_add, cell_of_row _ _ i _ _ _ h, List.getElem?_toArray, bv_get xs i hi]
theorem presS_none (s : Sec) : presS s [] = s := by simp [presS, afterS]
def plainT (T : List Sec) : Prop := ∀ s ∈ T, s = Sec.zero ∨ s = Sec.bad
theorem plainT.fit {T : List Sec} (h : plainT T) : ∀ s ∈ T, s.fit := fun s hs => by
  rcases h s hs with rfl | rfl
  · exact Sec.zero_fit
  · exact Sec.bad_fit
theorem plainT.text {T : List Sec} (h : plainT T) (k : Nat) (hk : k < T.length) : T[k].text = List.replicate 128 0 := by
  rcases h _ (List.getElem_mem hk) with e | e <;> rw [e] <;> rfl
theorem plainT.set {T : List Sec} (h : plainT T) (k : Nat) : plainT (T.set k Sec.bad) := fun s hs => by
  rcases List.mem_or_eq_of_mem_set hs with h1 | rfl
  · exact h s h1
  · exact .inr rfl
theorem imgP_rep (n : Nat) : bv (img (List.replicate n Sec.zero)) = List.replicate (n * 129) (.int .u8 0) := by
  have h1 : (img (List.replicate n Sec.zero)).length = n * 129 := by rw [img_len (SOk.rep n), List.length_replicate]
  rw [← h1, ← bv_length]
  refine List.eq_replicate_of_mem (fun v hv => ?_)
  simp only [bv, List.mem_map] at hv
  obtain ⟨c, hc, rfl⟩ := hv
  unfold img at hc
  obtain ⟨s, hs, hcs⟩ := List.mem_flatMap.1 hc
  rw [List.eq_of_mem_replicate hs] at hcs
  have : c = 0 := by simpa [Sec.row, Sec.zero, rmk] using hcs
  rw [this]; rfl
set_option maxRecDepth 20000 in
set_option maxHeartbeats 1600000 in
theorem diskImages_walk (a0 : Option Addr) (cap0 : Nat) (xs0 : List UInt8) (n1 : Int) (a2 : Option Addr) (cap2 : Nat) (xs2 : List Int) (W : World)
    (hr0 : Rd W a0 xs0) (hl0 : xs0.length ≤ cap0) (hn0 : a0 = none → cap0 = 0) (hc0 : cap0 ≤ 140737488351232) (h1 : -9223372036854775808 ≤ n1 ∧ n1 ≤ 9223372036854775807)
    (hr2 : RdI W a2 xs2) (hi2 : ∀ n ∈ xs2, I64 n) (hl2 : xs2.length ≤ cap2) (hn2 : a2 = none → cap2 = 0) (hc2 : cap2 ≤ 17592186043904) :
    Calls Try.prog 4 #[.slice a0 xs0.length cap0, .int .i64 n1, .slice a2 xs2.length cap2] W fun e W' => e = .returned (.bool true) ∧ Below W.heap.size W W' := by
  obtain ⟨N, hN⟩ : ∃ N : Nat, N = spanS n1 1 65536 := ⟨_, rfl⟩
  have hNin := spanS_in n1 1 65536 (by decide)
  rw [← hN] at hNin
  obtain ⟨hN1, hN2⟩ := hNin
  have HSP : Hid (∀ u, Calls Try.prog 14 #[.int .i64 n1, .int .i64 1, .int .i64 65536] u fun e w' => e = .returned (.int .i64 (N : Int)) ∧ w' = u) := fun u => by rw [hN]; exact span_t n1 1 65536 u h1.1 h1.2 (by decide) (by decide)
  obtain ⟨M, hM⟩ : ∃ M : Nat, M = N * 129 := ⟨_, rfl⟩
  have HM : Hid (M = N * 129) := hM
  have hMw : IntKind.i64.wrap (129 * (N : Int)) = (M : Int) := by rw [IntKind.wrap_i64]; omega
  have hMb : M ≤ 8454144 := by omega
  have hM1 : 129 ≤ M := by omega
  have hmk := make_bytes M (by omega)
  obtain ⟨Z, hZ⟩ : ∃ Z : Array Value, Z = (List.replicate M (Value.int .u8 0)).toArray := ⟨_, rfl⟩
  rw [← hZ] at hmk
  have HZ : Hid (Z = (bv (img (List.replicate N Sec.zero))).toArray) := by unfold Hid; rw [hZ, imgP_rep, hM]
  obtain ⟨K, hK⟩ : ∃ K : Nat, K = N - 1 := ⟨_, rfl⟩
  have HK : Hid (K = N - 1) := hK
  have hKw : IntKind.i64.wrap ((N : Int) - 1) = (K : Int) := by rw [IntKind.wrap_i64]; omega
  have hKb : K ≤ 65536 := by omega
  clear hN hM hZ hK
  rcases hL : loadS xs0 with _ | S
  · go_enter Try.func4, Try.ntmps4
    go_wp2_with fail
    refine (load_t a0 cap0 xs0 W hr0 hl0 (by omega)).mono ?_
    intro e V hout
    rw [hL] at hout
    obtain ⟨rfl, hV⟩ := hout
    go_wp2_with (first | (go_at_call 14; refine (HSP.out _).mono ?_; rintro e w2 ⟨rfl, hq⟩; have hq := hq.symm; subst hq))
    obtain ⟨B, hB⟩ : ∃ B : Nat, B = V.heap.size := ⟨_, rfl⟩
    have hVb : Below W.heap.size W (V.alloc (.cells Z 5)) := hV.alloc hV.size _
    have hBW : W.heap.size ≤ B := by rw [hB]; exact hV.size
    have hrow0 : (V.alloc (.cells Z 5)).heap[B]? = some (.cells (bv (img (List.replicate N Sec.zero))).toArray 5 (0, 0)) := by rw [hB, ← HZ.out]; exact heap_alloc_new V _
    rw [← hB]
    go_loopw [11] (fun i wr => ∃ k : Nat, k ≤ xs2.length ∧ i = .int .i64 k ∧ (∃ T, T.length = N ∧ plainT T ∧ wr.heap[B]? = some (.cells (bv (img T)).toArray 5 (0, 0))) ∧ Below W.heap.size W wr) (fun i _ => xs2.length - (intOf i).toNat)
    case atStart => exact ⟨0, Nat.zero_le _, rfl, ⟨List.replicate N Sec.zero, by simp, fun s hs => .inl (List.eq_of_mem_replicate hs), hrow0⟩, hVb⟩
    case round =>
      clear hrow0 hVb hB hV
      obtain ⟨k, hk, rfl, ⟨T, hTl, hTp, hrow⟩, hbk⟩ := hrel
      have HTl : Hid _ := hTl
      clear hTl
      by_cases hlt : k < xs2.length
      · obtain ⟨b2, o2, rfl, hcc⟩ := hr2.below hbk (by omega)
        have hcx := hcc k hlt
        obtain ⟨x, hxx⟩ : ∃ x : Int, x = xs2[k] := ⟨_, rfl⟩
        rw [← hxx] at hcx
        have hxb : I64 x := by rw [hxx]; exact hi2 _ (List.getElem_mem hlt)
        obtain ⟨j, hj⟩ : ∃ j : Nat, j = spanS x 0 K := ⟨_, rfl⟩
        have hjK := spanS_in x 0 K (Nat.zero_le _)
        rw [← hj] at hjK
        have HS2 : Hid (∀ u, Calls Try.prog 14 #[.int .i64 x, .int .i64 0, .int .i64 (K : Int)] u fun e w' => e = .returned (.int .i64 (j : Int)) ∧ w' = u) := fun u => by rw [hj]; exact span_t x 0 K u hxb.1 hxb.2 (Nat.zero_le _) hKb
        obtain ⟨J, hJ⟩ : ∃ J : Nat, J = j * 129 := ⟨_, rfl⟩
        have hJw : IntKind.i64.wrap (129 * (j : Int)) = (J : Int) := by rw [IntKind.wrap_i64]; omega
        have hjN : j < T.length := by have := HTl.out; have := HK.out; omega
        have hJM : J < M := by have := HTl.out; have := HM.out; omega
        have hJ0 : (0 : Int) ≤ (J : Int) := by omega
        have hJ1 : (J : Int) < (M : Int) := by omega
        have hok := fit_ok hTp.fit
        have hlen : (bv (img T)).length = M := by rw [bv_length, img_len hok, HTl.out, HM.out]
        obtain ⟨u0, hu0⟩ : ∃ u0, wr.cell? ⟨B, J, none⟩ = some u0 := by
          rw [cell_of_row _ _ J _ _ _ hrow, List.getElem?_toArray, List.getElem?_eq_getElem (by omega)]
          exact ⟨_, rfl⟩
        have hf0 := frozen_of_row wr B J _ _ hrow
        have HNX : Hid ((wr.setCell ⟨B, J, none⟩ (.int .u8 1)).heap[B]? = some (.cells (bv (img (T.set j Sec.bad))).toArray 5 (0, 0))) := by
          unfold Hid
          rw [heap_setCell_same wr B J _ _ _ hrow, List.setIfInBounds_toArray, hJ, img_set hok j hjN (hTp.text j hjN)]
        have hk0 : (0 : Int) ≤ (k : Int) := by omega
        have hk1 : (k : Int) < (xs2.length : Int) := by omega
        clear hxx hj hJ hlen hcc
        go_wp2_with (first | (go_at_call 14; refine (HS2.out _).mono ?_; rintro e w9 ⟨rfl, hq⟩; have hq := hq.symm; subst hq))
        go_roundw
        case rel => exact ⟨k + 1, by omega, by go_num, ⟨T.set j Sec.bad, by rw [List.length_set]; exact HTl.out, hTp.set j, HNX.out⟩, hbk.setCell (p := ⟨B, J, none⟩) hBW _⟩
        case measure => simp [intOf]; omega
      · have hok := fit_ok hTp.fit
        have hTN := HTl.out
        have hlen : (img T).length = M := by rw [img_len hok, hTN, HM.out]
        have HLT : Hid (loadS (img T) = some T) := img_load hTp.fit (by omega) (by omega)
        have hRb : Rd wr (some ⟨B, 0, none⟩) (img T) := rd_row hrow
        have HLN : Hid ((img T).length = M) := hlen
        have HLD : Hid (Calls Try.prog 11 #[.slice (some ⟨B, 0, none⟩) M M] wr fun e w' => LoadOut wr e w' (some T)) := by
          have h9 := load_t (some ⟨B, 0, none⟩) M (img T) wr hRb (by omega) (by omega)
          rw [HLT.out, HLN.out] at h9
          exact h9
        clear hlen hTN
        go_wp2_with fail
        refine HLD.out.mono ?_
        rintro e w3 ⟨rfl, hat, hb3⟩
        have hm3 := hb3.size
        have hRb3 := hRb.below hb3
        have hown : Own wr 0 (.slice (some ⟨B, 0, none⟩) M M) (img T) := own_rowD (Nat.zero_le _) HLN.out.symm (by simp only [maxLen]; omega) hrow
        obtain ⟨P, hP⟩ : ∃ P : Nat, P = wr.heap.size + 2 := ⟨_, rfl⟩
        rw [← hP] at hat ⊢
        have HIM : Hid _ := image_t P wr.heap.size T w3 hat.secAt
        clear hP
        go_wp2_with (first
          | (go_at_call 13; refine Calls.mono HIM.out ?_; rintro e w4 ⟨v4, rfl, hown4, hb4⟩; obtain ⟨a4, c4, rfl, hlc4, hc4, hnil4, hrd4, -⟩ := hown4.val)
          | (go_at_call 12; refine (byt_n _ _ _ _ _ _ (img T) (img T) _ rfl HLN.out.symm hrd4 (hRb3.below hb4) (by have := HLN.out; omega) (by have := HLN.out; omega)).mono ?_; rintro e w5 ⟨rfl, hb5⟩; rw [beq_self_eq_true]))
        have hat5 := (hat.below hb4).below hb5
        have hRb5 := (hRb3.below hb4).below hb5
        have hb35 : Below W.heap.size W w5 := ((hbk.trans (hb3.mono hbk.size)).trans (hb4.mono (Nat.le_trans hbk.size hm3))).trans (hb5.mono (Nat.le_trans (Nat.le_trans hbk.size hm3) hb4.size))
        clear hat hRb hRb3 hrow hbk hb3 hb4 hb5 hrd4 hown4 hnil4 hlc4 hc4 hown
        go_loopw [15] (fun i wr => ∃ k : Nat, k ≤ N ∧ i = .int .i64 k ∧ Below w5.heap.size w5 wr) (fun i _ => N - (intOf i).toNat)
        case atStart => exact ⟨0, Nat.zero_le _, rfl, Below.refl _ _⟩
        case round =>
          obtain ⟨k6, hk6, rfl, hb6⟩ := hrel
          have hat6 := hat5.below hb6
          have hRb6 := hRb5.below hb6
          by_cases hlt6 : k6 < N
          · have hkT : k6 < T.length := by rw [HTl.out]; exact hlt6
            have hL6 := looks_none hat6.hm k6 (by omega)
            have HRD : Hid _ := read_t P _ _ k6 T none 0 [] _ hat6.secAt hkT (by rw [cell_of_row _ _ 1 _ _ _ hat6.hp]; rfl) (by rw [cell_of_row _ _ 2 _ _ _ hat6.hp]; rfl) hL6
            rw [presS_none] at HRD
            obtain ⟨J, hJ⟩ : ∃ J : Nat, J = k6 * 129 := ⟨_, rfl⟩
            have hJw : IntKind.i64.wrap (129 * (k6 : Int)) = (J : Int) := by rw [IntKind.wrap_i64]; omega
            have hJM : J < M := by have := HM.out; omega
            have hJ0 : (0 : Int) ≤ (J : Int) := by omega
            have hJ1 : (J : Int) < (M : Int) := by omega
            have hc6 : ∀ u, Below wr.heap.size wr u → u.cell? ⟨B, J, none⟩ = some (.int .u8 ((rmk T[k6].torn).toNat : Int)) := by
              intro u hu
              obtain ⟨b', o', e', hcc⟩ := (hRb6.below hu) (by have := HLN.out; omega)
              cases e'
              have h8 := hcc J (by have := HLN.out; omega)
              rw [Nat.zero_add] at h8
              rw [h8]
              have h9 := img_get hok k6 0 hkT (by decide)
              rw [Nat.add_zero, ← hJ, List.getElem?_eq_getElem (by have := HLN.out; omega)] at h9
              have h10 : (img T)[J]'(by have := HLN.out; omega) = rmk T[k6].torn := by simpa [Sec.row] using h9
              rw [h10]
            obtain ⟨t, ht⟩ : ∃ t : Bool, t = T[k6].torn := ⟨_, rfl⟩
            rw [← ht] at hc6
            have HRE : Hid (readE T[k6] = if t then 40 else 0) := by unfold Hid; rw [ht]; rfl
            clear ht hJ hat5 hRb5 hat6 hRb6
            cases t
            all_goals
              simp only [rmk, if_true, Bool.false_eq_true, if_false] at hc6
              have hre := HRE.out
              simp only [if_true, Bool.false_eq_true, if_false] at hre
              rw [hre] at HRD
              clear hre
              go_wp2_with (first | (go_at_call 15; refine Calls.mono HRD.out ?_; rintro e w7 ⟨v7, rfl, -, hb7⟩; have hc7 := hc6 w7 hb7))
              go_roundw
              case rel => exact ⟨k6 + 1, by omega, by go_num, hb6.trans (hb7.mono hb6.size)⟩
              case measure => simp [intOf]; omega
          · have hMm : IntKind.i64.wrap ((M : Int) - 1) = ((M - 1 : Nat) : Int) := by rw [IntKind.wrap_i64]; omega
            obtain ⟨R, hR⟩ : ∃ R : Nat, R = M - 1 := ⟨_, rfl⟩
            rw [← hR] at hMm
            have hR1 : R ≤ M := by omega
            have hR2 : ¬ M = R := by omega
            have hRl : ((img T).take R).length = R := by rw [List.length_take, HLN.out]; omega
            have HLN2 : Hid (loadS ((img T).take R) = none) := by
              unfold Hid loadS
              rw [if_neg]
              rintro ⟨h9, -⟩
              rw [hRl] at h9
              have := HM.out
              omega
            have HLD2 : Hid (Calls Try.prog 11 #[.slice (some ⟨B, 0, none⟩) R M] wr fun e w' => LoadOut wr e w' none) := by
              have h9 := load_t (some ⟨B, 0, none⟩) M ((img T).take R) wr (hRb6.take R) (by rw [hRl]; omega) (by omega)
              rw [HLN2.out, hRl] at h9
              exact h9
            clear hR hRl hat5 hRb5 hat6 hRb6
            go_wp2_with (first | (go_at_call 11; refine HLD2.out.mono ?_; rintro e w8 ⟨rfl, hb8⟩))
            go_ret
            exact ⟨rfl, (hb35.trans (hb6.mono hb35.size)).trans (hb8.mono (Nat.le_trans hb35.size hb6.size))⟩
  · obtain ⟨hSi, hSf, hS1, hS2, hSl⟩ := load_img hL
    obtain ⟨Q, hQ⟩ : ∃ Q : Nat, Q = xs0.length := ⟨_, rfl⟩
    have hQw : IntKind.i64.wrap ((S.length : Int) * 129) = (Q : Int) := by rw [IntKind.wrap_i64]; omega
    have HSi : Hid _ := hSi
    have HQ : Hid (Q = xs0.length) := hQ
    rw [← hQ]
    have hQb : Q ≤ 140737488351232 := by omega
    have HLD0 : Hid (Calls Try.prog 11 #[.slice a0 Q cap0] W fun e w' => LoadOut W e w' (some S)) := by
      have h9 := load_t a0 cap0 xs0 W hr0 hl0 (by omega)
      rw [hL, ← hQ] at h9
      exact h9
    clear hSi hQ hSl
    go_enter Try.func4, Try.ntmps4
    go_wp2_with fail
    refine HLD0.out.mono ?_
    rintro e w1 ⟨rfl, hat0, hb1⟩
    have hr1 := hr0.below hb1
    obtain ⟨P, hP⟩ : ∃ P : Nat, P = W.heap.size + 2 := ⟨_, rfl⟩
    rw [← hP] at hat0 ⊢
    have HIM : Hid _ := image_t P W.heap.size S w1 hat0.secAt
    clear hP
    go_wp2_with (first
      | (go_at_call 13; refine Calls.mono HIM.out ?_; rintro e w4 ⟨v4, rfl, hown4, hb4⟩; obtain ⟨a4, c4, rfl, hlc4, hc4, hnil4, hrd4, -⟩ := hown4.val; rw [HSi.out] at hrd4)
      | (go_at_call 12; refine (byt_n _ _ _ _ _ _ xs0 xs0 _ (by rw [HSi.out]) HQ.out hrd4 (hr1.below hb4) (by omega) (by omega)).mono ?_; rintro e w5 ⟨rfl, hb5⟩; rw [beq_self_eq_true])
      | (go_at_call 10; refine (sectors_t P _ S.length S.length _ (by rw [cell_of_row _ _ 0 _ _ _ ((hat0.below hb4).below hb5).hp]; rfl)).mono ?_; rintro e w6 ⟨rfl, hq⟩; have hq := hq.symm; subst hq)
      | (go_at_call 14; refine (HSP.out _).mono ?_; rintro e w2 ⟨rfl, hq2⟩; have hq2 := hq2.symm; subst hq2))
    obtain ⟨V, hVe⟩ : ∃ V : World, V = w5 := ⟨_, rfl⟩
    have hV : Below W.heap.size W V := by rw [hVe]; exact (hb1.trans (hb4.mono hb1.size)).trans (hb5.mono (Nat.le_trans hb1.size hb4.size))
    rw [← hVe]
    clear hVe hat0 hb1 hb4 hb5 hr1 hrd4 hown4 hnil4 hlc4 hc4
    obtain ⟨B, hB⟩ : ∃ B : Nat, B = V.heap.size := ⟨_, rfl⟩
    have hVb : Below W.heap.size W (V.alloc (.cells Z 5)) := hV.alloc hV.size _
    have hBW : W.heap.size ≤ B := by rw [hB]; exact hV.size
    have hrow0 : (V.alloc (.cells Z 5)).heap[B]? = some (.cells (bv (img (List.replicate N Sec.zero))).toArray 5 (0, 0)) := by rw [hB, ← HZ.out]; exact heap_alloc_new V _
    rw [← hB]
    go_loopw [11] (fun i wr => ∃ k : Nat, k ≤ xs2.length ∧ i = .int .i64 k ∧ (∃ T, T.length = N ∧ plainT T ∧ wr.heap[B]? = some (.cells (bv (img T)).toArray 5 (0, 0))) ∧ Below W.heap.size W wr) (fun i _ => xs2.length - (intOf i).toNat)
    case atStart => exact ⟨0, Nat.zero_le _, rfl, ⟨List.replicate N Sec.zero, by simp, fun s hs => .inl (List.eq_of_mem_replicate hs), hrow0⟩, hVb⟩
    case round =>
      clear hrow0 hVb hB hV
      obtain ⟨k, hk, rfl, ⟨T, hTl, hTp, hrow⟩, hbk⟩ := hrel
      have HTl : Hid _ := hTl
      clear hTl
      by_cases hlt : k < xs2.length
      · obtain ⟨b2, o2, rfl, hcc⟩ := hr2.below hbk (by omega)
        have hcx := hcc k hlt
        obtain ⟨x, hxx⟩ : ∃ x : Int, x = xs2[k] := ⟨_, rfl⟩
        rw [← hxx] at hcx
        have hxb : I64 x := by rw [hxx]; exact hi2 _ (List.getElem_mem hlt)
        obtain ⟨j, hj⟩ : ∃ j : Nat, j = spanS x 0 K := ⟨_, rfl⟩
        have hjK := spanS_in x 0 K (Nat.zero_le _)
        rw [← hj] at hjK
        have HS2 : Hid (∀ u, Calls Try.prog 14 #[.int .i64 x, .int .i64 0, .int .i64 (K : Int)] u fun e w' => e = .returned (.int .i64 (j : Int)) ∧ w' = u) := fun u => by rw [hj]; exact span_t x 0 K u hxb.1 hxb.2 (Nat.zero_le _) hKb
        obtain ⟨J, hJ⟩ : ∃ J : Nat, J = j * 129 := ⟨_, rfl⟩
        have hJw : IntKind.i64.wrap (129 * (j : Int)) = (J : Int) := by rw [IntKind.wrap_i64]; omega
        have hjN : j < T.length := by have := HTl.out; have := HK.out; omega
        have hJM : J < M := by have := HTl.out; have := HM.out; omega
        have hJ0 : (0 : Int) ≤ (J : Int) := by omega
        have hJ1 : (J : Int) < (M : Int) := by omega
        have hok := fit_ok hTp.fit
        have hlen : (bv (img T)).length = M := by rw [bv_length, img_len hok, HTl.out, HM.out]
        obtain ⟨u0, hu0⟩ : ∃ u0, wr.cell? ⟨B, J, none⟩ = some u0 := by
          rw [cell_of_row _ _ J _ _ _ hrow, List.getElem?_toArray, List.getElem?_eq_getElem (by omega)]
          exact ⟨_, rfl⟩
        have hf0 := frozen_of_row wr B J _ _ hrow
        have HNX : Hid ((wr.setCell ⟨B, J, none⟩ (.int .u8 1)).heap[B]? = some (.cells (bv (img (T.set j Sec.bad))).toArray 5 (0, 0))) := by
          unfold Hid
          rw [heap_setCell_same wr B J _ _ _ hrow, List.setIfInBounds_toArray, hJ, img_set hok j hjN (hTp.text j hjN)]
        have hk0 : (0 : Int) ≤ (k : Int) := by omega
        have hk1 : (k : Int) < (xs2.length : Int) := by omega
        clear hxx hj hJ hlen hcc
        go_wp2_with (first | (go_at_call 14; refine (HS2.out _).mono ?_; rintro e w9 ⟨rfl, hq⟩; have hq := hq.symm; subst hq))
        go_roundw
        case rel => exact ⟨k + 1, by omega, by go_num, ⟨T.set j Sec.bad, by rw [List.length_set]; exact HTl.out, hTp.set j, HNX.out⟩, hbk.setCell (p := ⟨B, J, none⟩) hBW _⟩
        case measure => simp [intOf]; omega
      · have hok := fit_ok hTp.fit
        have hTN := HTl.out
        have hlen : (img T).length = M := by rw [img_len hok, hTN, HM.out]
        have HLT : Hid (loadS (img T) = some T) := img_load hTp.fit (by omega) (by omega)
        have hRb : Rd wr (some ⟨B, 0, none⟩) (img T) := rd_row hrow
        have HLN : Hid ((img T).length = M) := hlen
        have HLD : Hid (Calls Try.prog 11 #[.slice (some ⟨B, 0, none⟩) M M] wr fun e w' => LoadOut wr e w' (some T)) := by
          have h9 := load_t (some ⟨B, 0, none⟩) M (img T) wr hRb (by omega) (by omega)
          rw [HLT.out, HLN.out] at h9
          exact h9
        clear hlen hTN
        go_wp2_with fail
        refine HLD.out.mono ?_
        rintro e w3 ⟨rfl, hat, hb3⟩
        have hm3 := hb3.size
        have hRb3 := hRb.below hb3
        have hown : Own wr 0 (.slice (some ⟨B, 0, none⟩) M M) (img T) := own_rowD (Nat.zero_le _) HLN.out.symm (by simp only [maxLen]; omega) hrow
        obtain ⟨P, hP⟩ : ∃ P : Nat, P = wr.heap.size + 2 := ⟨_, rfl⟩
        rw [← hP] at hat ⊢
        have HIM : Hid _ := image_t P wr.heap.size T w3 hat.secAt
        clear hP
        go_wp2_with (first
          | (go_at_call 13; refine Calls.mono HIM.out ?_; rintro e w4 ⟨v4, rfl, hown4, hb4⟩; obtain ⟨a4, c4, rfl, hlc4, hc4, hnil4, hrd4, -⟩ := hown4.val)
          | (go_at_call 12; refine (byt_n _ _ _ _ _ _ (img T) (img T) _ rfl HLN.out.symm hrd4 (hRb3.below hb4) (by have := HLN.out; omega) (by have := HLN.out; omega)).mono ?_; rintro e w5 ⟨rfl, hb5⟩; rw [beq_self_eq_true]))
        have hat5 := (hat.below hb4).below hb5
        have hRb5 := (hRb3.below hb4).below hb5
        have hb35 : Below W.heap.size W w5 := ((hbk.trans (hb3.mono hbk.size)).trans (hb4.mono (Nat.le_trans hbk.size hm3))).trans (hb5.mono (Nat.le_trans (Nat.le_trans hbk.size hm3) hb4.size))
        clear hat hRb hRb3 hrow hbk hb3 hb4 hb5 hrd4 hown4 hnil4 hlc4 hc4 hown
        go_loopw [15] (fun i wr => ∃ k : Nat, k ≤ N ∧ i = .int .i64 k ∧ Below w5.heap.size w5 wr) (fun i _ => N - (intOf i).toNat)
        case atStart => exact ⟨0, Nat.zero_le _, rfl, Below.refl _ _⟩
        case round =>
          obtain ⟨k6, hk6, rfl, hb6⟩ := hrel
          have hat6 := hat5.below hb6
          have hRb6 := hRb5.below hb6
          by_cases hlt6 : k6 < N
          · have hkT : k6 < T.length := by rw [HTl.out]; exact hlt6
            have hL6 := looks_none hat6.hm k6 (by omega)
            have HRD : Hid _ := read_t P _ _ k6 T none 0 [] _ hat6.secAt hkT (by rw [cell_of_row _ _ 1 _ _ _ hat6.hp]; rfl) (by rw [cell_of_row _ _ 2 _ _ _ hat6.hp]; rfl) hL6
            rw [presS_none] at HRD
            obtain ⟨J, hJ⟩ : ∃ J : Nat, J = k6 * 129 := ⟨_, rfl⟩
            have hJw : IntKind.i64.wrap (129 * (k6 : Int)) = (J : Int) := by rw [IntKind.wrap_i64]; omega
            have hJM : J < M := by have := HM.out; omega
            have hJ0 : (0 : Int) ≤ (J : Int) := by omega
            have hJ1 : (J : Int) < (M : Int) := by omega
            have hc6 : ∀ u, Below wr.heap.size wr u → u.cell? ⟨B, J, none⟩ = some (.int .u8 ((rmk T[k6].torn).toNat : Int)) := by
              intro u hu
              obtain ⟨b', o', e', hcc⟩ := (hRb6.below hu) (by have := HLN.out; omega)
              cases e'
              have h8 := hcc J (by have := HLN.out; omega)
              rw [Nat.zero_add] at h8
              rw [h8]
              have h9 := img_get hok k6 0 hkT (by decide)
              rw [Nat.add_zero, ← hJ, List.getElem?_eq_getElem (by have := HLN.out; omega)] at h9
              have h10 : (img T)[J]'(by have := HLN.out; omega) = rmk T[k6].torn := by simpa [Sec.row] using h9
              rw [h10]
            obtain ⟨t, ht⟩ : ∃ t : Bool, t = T[k6].torn := ⟨_, rfl⟩
            rw [← ht] at hc6
            have HRE : Hid (readE T[k6] = if t then 40 else 0) := by unfold Hid; rw [ht]; rfl
            clear ht hJ hat5 hRb5 hat6 hRb6
            cases t
            all_goals
              simp only [rmk, if_true, Bool.false_eq_true, if_false] at hc6
              have hre := HRE.out
              simp only [if_true, Bool.false_eq_true, if_false] at hre
              rw [hre] at HRD
              clear hre
              go_wp2_with (first | (go_at_call 15; refine Calls.mono HRD.out ?_; rintro e w7 ⟨v7, rfl, -, hb7⟩; have hc7 := hc6 w7 hb7))
              go_roundw
              case rel => exact ⟨k6 + 1, by omega, by go_num, hb6.trans (hb7.mono hb6.size)⟩
              case measure => simp [intOf]; omega
          · have hMm : IntKind.i64.wrap ((M : Int) - 1) = ((M - 1 : Nat) : Int) := by rw [IntKind.wrap_i64]; omega
            obtain ⟨R, hR⟩ : ∃ R : Nat, R = M - 1 := ⟨_, rfl⟩
            rw [← hR] at hMm
            have hR1 : R ≤ M := by omega
            have hR2 : ¬ M = R := by omega
            have hRl : ((img T).take R).length = R := by rw [List.length_take, HLN.out]; omega
            have HLN2 : Hid (loadS ((img T).take R) = none) := by
              unfold Hid loadS
              rw [if_neg]
              rintro ⟨h9, -⟩
              rw [hRl] at h9
              have := HM.out
              omega
            have HLD2 : Hid (Calls Try.prog 11 #[.slice (some ⟨B, 0, none⟩) R M] wr fun e w' => LoadOut wr e w' none) := by
              have h9 := load_t (some ⟨B, 0, none⟩) M ((img T).take R) wr (hRb6.take R) (by rw [hRl]; omega) (by omega)
              rw [HLN2.out, hRl] at h9
              exact h9
            clear hR hRl hat5 hRb5 hat6 hRb6
            go_wp2_with (first | (go_at_call 11; refine HLD2.out.mono ?_; rintro e w8 ⟨rfl, hb8⟩))
            go_ret
            exact ⟨rfl, (hb35.trans (hb6.mono hb35.size)).trans (hb8.mono (Nat.le_trans hb35.size hb6.size))⟩
end Go.Proofs.Ytbncejnoajocjaa
