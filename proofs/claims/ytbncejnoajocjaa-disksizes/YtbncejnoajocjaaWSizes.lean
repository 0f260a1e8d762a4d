import Derived.Test.YtbncejnoajocjaaDWrite
import Derived.Test.YtbncejnoajocjaaDFill
import Derived.Test.YtbncejnoajocjaaDByt
namespace Go.Proofs.Ytbncejnoajocjaa
set_option linter.unusedVariables false
set_option linter.unusedSimpArgs false
open Go.RowKit Go.Maps
theorem fit_empty (clock : Nat) : WideElems.Fit Try.prog 3 selfR #[] clock := ⟨Nat.zero_le _, by simp [MapKept.Stamped], fun x hx => by simp at hx⟩
theorem cache_none {w : World} {m N : Nat} {cl : Nat} (h : w.heap[m]? = some (.map #[] cl)) (n : Nat) : CacheAt w m N n (fun _ => []) (fun _ => nilS) := by
  refine ⟨⟨.map [], ⟨#[], cl, h, fit_empty cl, Nat.zero_le _, rfl⟩, fun i hi => absurd rfl hi, fun kl hk => ?_⟩, fun _ _ => rfl, fun _ => World.ownsRow_nil _ _ _ _, fun _ t ht => ?_, fun i j b hb => ?_, fun _ => Nat.zero_le _, fun i hi => absurd rfl hi⟩
  · simp [Maps.has] at hk
  · exact absurd ht (List.not_mem_nil)
  · simp [nilS, Value.ownBlock] at hb
theorem NewAt.dk {w : World} {p g m : Nat} {S : List Sec} (h : NewAt w p g m S) (hf : ∀ s ∈ S, s.fit) : DK w p g m S (fun _ => []) (fun _ => nilS) false (-1) 0 :=
  ⟨hf, h.one, h.most, h.hp, h.hg, cache_none h.hm 0, by decide, by decide⟩
theorem rep_fit (n : Nat) : ∀ s ∈ List.replicate n Sec.zero, s.fit := fun s hs => by rw [List.eq_of_mem_replicate hs]; exact Sec.zero_fit
theorem DK.not5 {w : World} {p g m : Nat} {S : List Sec} {C : Nat → List (List UInt8)} {V : Nat → Value} {off : Bool} {fuse : Int} {n : Nat} (h : DK w p g m S C V off fuse n) {b : Nat} (hb : foot p g m V b) {cs : Array Value} {fr : Nat × Nat} (h5 : w.heap[b]? = some (.cells cs 5 fr)) : False := by
  rcases hb with rfl | rfl | rfl | ⟨i, e⟩
  · rw [h.hp] at h5; simp only [Option.some.injEq, Obj.cells.injEq] at h5; exact absurd h5.2.1 (by decide)
  · rw [h.hg] at h5; simp only [Option.some.injEq, Obj.cells.injEq] at h5; exact absurd h5.2.1 (by decide)
  · obtain ⟨es, cl, h1⟩ := h.cache.map_at
    rw [h1] at h5; cases h5
  · obtain ⟨cur, h1⟩ := row_at (h.cache.rows i) e
    rw [h1] at h5; simp only [Option.some.injEq, Obj.cells.injEq] at h5; exact absurd h5.2.1 (by decide)
theorem rd_row {w : World} {B : Nat} {xs : List UInt8} (h : w.heap[B]? = some (.cells (bv xs).toArray 5 (0, 0))) : Rd w (some ⟨B, 0, none⟩) xs := by
  intro _
  refine ⟨_, _, rfl, fun i hi => ?_⟩
  rw [Nat.zero_add, cell_of_row _ _ i _ _ _ h, List.getElem?_toArray, bv_get xs i hi]
theorem Rd.chg {w w' : World} {ao : Option Addr} {xs : List UInt8} {F : Nat → Prop} (h : Rd w ao xs) (hc : Chg F w w') (hne : ∀ a, ao = some a → ¬ F a.block) : Rd w' ao xs := by
  intro hp
  obtain ⟨b, o, rfl, hcc⟩ := h hp
  refine ⟨b, o, rfl, fun i hi => ?_⟩
  have h1 := hcc i hi
  have h2 := hc.block b (World.block_lt_of_cell? w _ h1) (hne _ rfl)
  rw [← h1]
  exact World.cell?_of_block h2
theorem Own.chg {w w' : World} {B : Nat} {v : Value} {xs : List UInt8} {F : Nat → Prop} (h : Own w B v xs) (hc : Chg F w w') (hne : ∀ b, v.ownBlock = some b → ¬ F b) : Own w' B v xs := by
  refine ⟨h.1, ?_⟩
  rcases h.2 with h0 | ⟨g, cap, cur, e, hB, hg, r⟩
  · exact .inl h0
  · exact .inr ⟨g, cap, cur, e, hB, (hc.block g (Array.getElem?_eq_some_iff.1 hg).1 (hne g (by rw [e]; rfl))).trans hg, r⟩
set_option maxRecDepth 20000 in
set_option maxHeartbeats 400000 in
theorem diskSizes_walk (W : World) : Calls Try.prog 5 #[] W fun e W' => e = .returned (.bool true) ∧ Below W.heap.size W W' := by
  obtain ⟨N, hN⟩ : ∃ N : Nat, N = 65536 := ⟨_, rfl⟩
  obtain ⟨S, hS⟩ : ∃ S : List Sec, S = List.replicate N Sec.zero := ⟨_, rfl⟩
  have hSl : S.length = N := by rw [hS, List.length_replicate]
  have hSf : ∀ s ∈ S, s.fit := by rw [hS]; exact rep_fit N
  have HNE : Hid (Calls Try.prog 9 #[.int .i64 65536] W fun e w' => e = .returned (.tuple #[.pointer (some ⟨W.heap.size + 2, 0, none⟩), .int .i64 0]) ∧ NewAt w' (W.heap.size + 2) W.heap.size (W.heap.size + 1) S ∧ Below W.heap.size W w') := by
    have h1 := new_t N (by omega) (by omega) W
    rw [show (N : Int) = 65536 from by omega] at h1
    refine Calls.mono h1 ?_
    rintro e w' ⟨rfl, rfl⟩
    exact ⟨rfl, by rw [hS]; exact newW_at W N (by omega) (by omega), newW_below W N⟩
  have hSi : (S.length : Int) = 65536 := by omega
  have hil := img_len (fit_ok hSf)
  have HIL : Hid ((img S).length = 8454144) := by unfold Hid; omega
  have HLD : Hid (loadS (img S) = some S) := img_load hSf (by omega) (by omega)
  obtain ⟨M, hM⟩ : ∃ M : Nat, M = (img S).length := ⟨_, rfl⟩
  have hMi : (M : Int) = 8454144 := by have := HIL.out; omega
  have HM : Hid (M = (img S).length) := hM
  have hMb : M ≤ 8454144 := by have := HIL.out; omega
  have hMb2 : 129 ≤ M := by have := HIL.out; omega
  have HSl : Hid (S.length = 65536) := by unfold Hid; omega
  clear hN hS hSl hil hM
  go_enter Try.func5, Try.ntmps5
  go_wp2_with fail
  refine HNE.out.mono ?_
  rintro e w1 ⟨rfl, hat1, hb1⟩
  obtain ⟨P1, hP1⟩ : ∃ P1 : Nat, P1 = W.heap.size + 2 := ⟨_, rfl⟩
  rw [← hP1] at hat1 ⊢
  have HIM : Hid _ := image_r P1 W.heap.size S w1 hat1.secAt
  clear hP1
  have h0 : w1.cell? ⟨P1, 0, none⟩ = some (.slice (some ⟨W.heap.size, 0, none⟩) S.length S.length) := by rw [cell_of_row _ _ 0 _ _ _ hat1.hp]; rfl
  go_wp2_with (first
    | (go_at_call 10; refine (sectors_t P1 _ S.length S.length _ h0).mono ?_; rintro e w2 ⟨rfl, hq⟩; have hq := hq.symm; subst hq; rw [hSi])
    | (go_at_call 13; refine Calls.mono HIM.out ?_; rintro e w3 ⟨rfl, hrow3, hb3⟩; rw [← HM.out]))
  have hw3 := hb1.trans (hb3.mono hb1.size)
  obtain ⟨B, hB⟩ : ∃ B : Nat, B = w1.heap.size := ⟨_, rfl⟩
  have hBW : W.heap.size ≤ B := by rw [hB]; exact hb1.size
  rw [← hB] at hrow3 ⊢
  have hB3 : B < w3.heap.size := (Array.getElem?_eq_some_iff.1 hrow3).1
  have hrd3 := rd_row hrow3
  clear hB
  have HLD2 : Hid (Calls Try.prog 11 #[.slice (some ⟨B, 0, none⟩) M M] w3 fun e w' => LoadOut w3 e w' (some S)) := by
    have h9 := load_t (some ⟨B, 0, none⟩) M (img S) w3 hrd3 (by rw [← HM.out]; exact Nat.le_refl _) (by have := HM.out; omega)
    rw [HLD.out, ← HM.out] at h9
    exact h9
  refine HLD2.out.mono ?_
  rintro e w4 ⟨rfl, hat4, hb4⟩
  obtain ⟨P, hP⟩ : ∃ P : Nat, P = w3.heap.size + 2 := ⟨_, rfl⟩
  obtain ⟨Q, hQ⟩ : ∃ Q : Nat, Q = w3.heap.size + 1 := ⟨_, rfl⟩
  obtain ⟨G, hG⟩ : ∃ G : Nat, G = w3.heap.size := ⟨_, rfl⟩
  rw [← hP, ← hQ, ← hG] at hat4
  rw [← hP]
  have hGP : w3.heap.size ≤ P ∧ w3.heap.size ≤ Q ∧ w3.heap.size ≤ G := by omega
  have hdk := hat4.dk hSf
  have hw4 := hw3.trans (hb4.mono hw3.size)
  have hrow4 : w4.heap[B]? = some (.cells (bv (img S)).toArray 5 (0, 0)) := (hb4.block B hB3).trans hrow3
  have hP4 : P < w4.heap.size := hdk.lt (.inl rfl)
  have h3s := hb3.size
  have h4s := hb4.size
  clear hP hQ hG hat4 hat1 h0
  go_wp2_with (first | (go_at_call 17; refine (fill_t 3 w4 (by decide)).mono ?_; rintro e w5 ⟨g5, rfl, hg5, hrow5, hb5⟩))
  obtain ⟨I, hI⟩ : ∃ I : Nat, I = 65535 := ⟨_, rfl⟩
  have hIi : (I : Int) = 65535 := by omega
  have hIS : I < S.length := by have := HSl.out; omega
  have hfl := fillS_len 3
  have HWR : Hid (Calls Try.prog 16 #[.pointer (some ⟨P, 0, none⟩), .int .i64 65535, .slice (some ⟨g5, 0, none⟩) 128 128] w5 fun e w' => e = .returned (.int .i64 0) ∧ ∃ v, DK w' P G Q S (upd (fun _ => []) I ([] ++ [fillS 3])) (upd (fun _ => nilS) I v) (begO false (-1)) (begF false (-1)) (0 + 1) ∧ Chg (fun b => b = P ∨ b = Q ∨ nilS.ownBlock = some b) w5 w' ∧ (nilS.ownBlock = v.ownBlock ∨ ∃ b, v.ownBlock = some b ∧ w5.heap.size ≤ b)) := by
    have h9 := write_t P G Q I S (fun _ => []) (fun _ => nilS) false (-1) 0 (some ⟨g5, 0, none⟩) 128 (fillS 3) w5 (hdk.below hb5) (by decide) hIS rfl (rd_row hrow5) hfl (fun a ha => by cases ha; show g5 ≠ P; omega)
    rw [hIi] at h9
    exact h9
  have hb5s := hb5.size
  have HII : Hid (I = 65535) := hI
  clear hI hdk
  refine HWR.out.mono ?_
  rintro e w6 ⟨rfl, v6, hdk6, hc6, -⟩
  obtain ⟨a6, c6, hv6, hL6⟩ := hdk6.looks I hIS
  have HRD : Hid (Calls Try.prog 15 #[.pointer (some ⟨P, 0, none⟩), .int .i64 65535] w6 fun e w' => ∃ v, e = .returned (.tuple #[v, .int .i64 0]) ∧ Own w' w6.heap.size v (fillS 3) ∧ Below w6.heap.size w6 w') := by
    have h9 := read_t P G Q I S a6 c6 _ w6 hdk6.secAt hIS (by rw [cell_of_row _ _ 1 _ _ _ hdk6.hp]; rfl) (by rw [cell_of_row _ _ 2 _ _ _ hdk6.hp]; rfl) hL6
    rw [hIi, upd_same] at h9
    exact h9
  have hF6 : ∀ b, (b = P ∨ b = Q ∨ nilS.ownBlock = some b) → W.heap.size ≤ b := by
    have := hw3.size
    rintro b (rfl | rfl | hb)
    · omega
    · omega
    · simp [nilS, Value.ownBlock] at hb
  have hw6 : Below W.heap.size W w6 := (hw4.trans (hb5.mono hw4.size)).trans (hc6.below hF6 (Nat.le_trans hw4.size hb5.size))
  have hrow6 : w6.heap[B]? = some (.cells (bv (img S)).toArray 5 (0, 0)) := by
    have h5 : w5.heap[B]? = some (.cells (bv (img S)).toArray 5 (0, 0)) := (hb5.block B (by omega)).trans hrow4
    refine (hc6.block B (by omega) ?_).trans h5
    rintro (e | e | e)
    · omega
    · omega
    · simp [nilS, Value.ownBlock] at e
  clear hrow3 hrow4 hrow5 hL6 hv6
  go_wp2_with fail
  refine HRD.out.mono ?_
  rintro e w7 ⟨v7, rfl, hown7, hb7⟩
  have hrow7 : w7.heap[B]? = some (.cells (bv (img S)).toArray 5 (0, 0)) := (hb7.block B (Array.getElem?_eq_some_iff.1 hrow6).1).trans hrow6
  have hownB : Own w7 0 (.slice (some ⟨B, 0, none⟩) M M) (img S) := own_rowD (Nat.zero_le _) HM.out (by simp only [maxLen]; omega) hrow7
  have hdk7 := hdk6.below hb7
  obtain ⟨a7, c7, rfl, hlc7, hc7, hnil7, hrd7, hblk7⟩ := hown7.val
  have hMc : ¬ M = 129 := by omega
  have hBn : ¬ foot P G Q (upd (fun _ => nilS) I v6) B := fun hf => hdk6.not5 hf hrow6
  have h56 := hc6.size
  have hRt : Rd w7 (some ⟨B, 0, none⟩) ((img S).take 129) := (rd_row hrow7).take 129
  have htl : ((img S).take 129).length = 129 := by rw [List.length_take, ← HM.out]; omega
  have HTL : Hid _ := htl
  have HLB : Hid (loadS (img S ++ (img S).take 129) = none) := by
    unfold Hid loadS
    rw [if_neg]
    rintro ⟨-, -, h3, -⟩
    rw [List.length_append, htl, HIL.out] at h3
    omega
  have hAl : (img S ++ (img S).take 129).length = M + 129 := by rw [List.length_append, htl, HM.out]
  have HAL : Hid _ := hAl
  have hin : inB 65536 S.length = false := by simp only [inB, decide_eq_false_iff_not]; omega
  have HMi : Hid _ := hMi
  have HFL : Hid ((fillS 3).length = 128) := hfl
  have HIi : Hid _ := hIi
  have hMb3 : M ≤ 140737488350000 := by omega
  obtain ⟨L, hLe⟩ : ∃ L : List UInt8, L = img S ++ (img S).take 129 := ⟨_, rfl⟩
  rw [← hLe] at HLB HAL
  have HLe : Hid (img S ++ (img S).take 129 = L) := hLe.symm
  clear hLe htl hAl hMi hIi hMb hfl
  go_wp2_with (first
    | (at_builtin; refine wp_app rfl _ _ rfl 0 (.slice (some ⟨B, 0, none⟩) M M) (img S) ((img S).take 129) (some ⟨B, 0, none⟩) M rfl hownB (by rw [HTL.out]; rfl) hRt (fun h => by cases h) (by rw [HTL.out, ← HM.out]; omega) (Nat.zero_le _) ?_; intro v8 w8 hown8 hg8; rw [HLe.out] at hown8; obtain ⟨a8, c8, rfl, hlc8, hc8, hnil8, hrd8, -⟩ := hown8.val))
  have hdk8 := hdk7.kept (Chg.of_grown (F := fun b => b = B) hg8 (fun b hb => by simp [Value.ownBlock] at hb; exact hb.symm)) (fun b hb e => by subst e; exact hBn hb)
  refine (load_t a8 c8 L w8 hrd8 hlc8 (by rw [HAL.out]; omega)).mono ?_
  rw [HLB.out]
  rintro e w9 ⟨rfl, hb9⟩
  go_wp2_with fail
  refine (new_bad 65537 (by omega) _).mono ?_
  rintro e w10 ⟨rfl, hq⟩
  have hq := hq.symm
  subst hq
  have hdk9 := hdk8.below hb9
  have hrd9 := (hrd7.grown hg8 (fun a ha => by have := hblk7 a ha; simp [Value.ownBlock]; omega)).below hb9
  have hw9 : Below W.heap.size W w9 := ((hw6.trans (hb7.mono hw6.size)).grown hg8 (Nat.le_trans hw6.size hb7.size) (fun j hj => by simp [Value.ownBlock] at hj; omega)).trans (hb9.mono (Nat.le_trans (Nat.le_trans hw6.size hb7.size) hg8.size))
  have hc0 : ∀ u, Below w9.heap.size w9 u → u.cell? ⟨P, 0, none⟩ = some (.slice (some ⟨G, 0, none⟩) S.length S.length) := fun u hu => by rw [cell_of_row _ _ 0 _ _ _ (hdk9.below hu).hp]; rfl
  have HC0 : Hid _ := hc0
  clear hc0 hdk6 hdk7 hdk8 hdk9 hown7 hownB hown8 hrow6 hrow7
  go_wp2_with fail
  refine (fill_t 3 w9 (by decide)).mono ?_
  rintro e w11 ⟨g11, rfl, hg11, hrow11, hb11⟩
  have hrd11 := hrd9.below hb11
  obtain ⟨F, hF⟩ : ∃ F : Nat, F = (fillS 3).length := ⟨_, rfl⟩
  rw [← hF]
  have HBY : Hid (Calls Try.prog 12 #[.slice a7 F c7, .slice (some ⟨g11, 0, none⟩) 128 128] w11 fun e w' => e = .returned (.bool true) ∧ Below w11.heap.size w11 w') := by
    have h9 := byt_n a7 (some ⟨g11, 0, none⟩) F 128 c7 128 (fillS 3) (fillS 3) w11 hF HFL.out.symm hrd11 (rd_row hrow11) (by rw [HFL.out]; decide) (by rw [HFL.out]; decide)
    rw [beq_self_eq_true] at h9
    exact h9
  clear hF
  go_wp2_with fail
  refine HBY.out.mono ?_
  rintro e w12 ⟨rfl, hb12⟩
  go_wp2_with fail
  refine (fill_t 3 w12 (by decide)).mono ?_
  rintro e w13 ⟨g13, rfl, hg13, hrow13, hb13⟩
  have hb9d : Below w9.heap.size w9 w13 := (hb11.trans (hb12.mono hb11.size)).trans (hb13.mono (Nat.le_trans hb11.size hb12.size))
  have h0d := HC0.out w13 hb9d
  go_wp2_with fail
  refine (write_out P _ S.length S.length 65536 (some ⟨g13, 0, none⟩) 128 128 w13 h0d hin).mono ?_
  rintro e w14 ⟨rfl, hq⟩
  have hq := hq.symm
  subst hq
  go_wp2
  go_ret
  exact ⟨rfl, hw9.trans (hb9d.mono hw9.size)⟩
end Go.Proofs.Ytbncejnoajocjaa
