import Derived.RangeFuncNested
import Derived.RangeFuncBound
import Derived.RangeFuncCalls
import Derived.RangeFuncLeaves
import Derived.Shelf.Abstract
import Derived.Shelf.RegionOpen
import Derived.WalkKit
import Derived.OwnWalkIn
import Derived.TacticsInMore
import Derived.LoopNIn
import Derived.LoopIn
import Derived.Test.YtnhjkipaclchiaaQN
namespace Go.Proofs.Ytnhjkipaclchiaa
set_option linter.unusedVariables false
set_option linter.unusedSimpArgs false
open Go.RowKit Go.Shelf
attribute [local go_sem] Oper.semAt_some
theorem wpListIn_load_q {F : Fence} {n : Nat} {P : Program} {ops : Array Oper} {rest : List Oper} {op : Oper} {a : Act} {w : World} {Q : Exit → Act → World → Prop} (hgd : op.guard = none) (ty : TypeId) (x : Operand) (ho : op.op = .load ty x)
    (b o : Nat) (hx : a.eval x = .pointer (some ⟨b, o, none⟩)) (cs : List Value) (d : TypeDesc) (hc : w.rangeAt b o cs)
    (hu : P.underlying ty = some d) (hd : d.isRow = true) (hi : (P.info? ty).map (·.size) = some cs.length)
    (h : wpListIn F n P ops Q rest (a.put op.dst (.agg cs.toArray)) w) : wpListIn F n P ops Q (op :: rest) a w := by
  refine wpListIn_plain hgd fun K hK => ?_
  unfold Oper.wpIn
  refine ⟨?_, ?_⟩
  · simp [Oper.about, ho]
  · rw [Oper.semAt_plain F _ _ (by rw [ho]; intro c hc'; cases hc')]
    unfold execOp
    simp only [ho, hx, Instr.loadAt, Instr.sureAddr, Sem.run_bind, Sem.run_pure, Result.andThen_ok, run_loadVar_mid w b o ty cs d hc hu hd hi]
    exact hK _ _ h
theorem info_en : (Try.prog.info? tEn).map (·.size) = some 3 := by kernel_rfl
/-- the entries of the pages from a place of the first one on -/
def front (P : List (List Ent)) (ahead i : Nat) : List Ent := ((P.take i).flatten).drop ahead
def pgAt (P : List (List Ent)) (ahead i : Nat) : List Ent := (P.getD i []).drop (if i = 0 then ahead else 0)
theorem front_zero (P : List (List Ent)) (ahead : Nat) : front P ahead 0 = [] := by simp [front]
theorem front_succ (P : List (List Ent)) (ahead i : Nat) (hi : i < P.length) (ha : ahead ≤ (P.getD 0 []).length) : front P ahead (i + 1) = front P ahead i ++ pgAt P ahead i := by
  unfold front pgAt
  rw [List.take_succ_eq_append_getElem hi, List.flatten_append]
  have e : P.getD i [] = P[i] := by simp [List.getD, hi]
  rw [e]
  by_cases h0 : i = 0
  · subst h0; simp
  · rw [if_neg h0, List.drop_zero, List.drop_append_of_le_length]
    · simp
    · match P, i, h0, hi with
      | p :: P, i + 1, _, _ => simp at ha ⊢; omega
theorem front_all (P : List (List Ent)) (ahead : Nat) : front P ahead P.length = P.flatten.drop ahead := by simp [front]
theorem front_pre (P : List (List Ent)) (ahead i j : Nat) (hi : i < P.length) (ha : ahead ≤ (P.getD 0 []).length) : front P ahead i ++ (pgAt P ahead i).take j <+: P.flatten.drop ahead := by
  have h1 : front P ahead (i + 1) <+: P.flatten.drop ahead := by
    unfold front
    have e : P.flatten = (P.take (i + 1)).flatten ++ (P.drop (i + 1)).flatten := by rw [← List.flatten_append, List.take_append_drop]
    rw [e, List.drop_append]
    exact List.prefix_append _ _
  rw [front_succ P ahead i hi ha] at h1
  exact List.IsPrefix.trans ((List.prefix_append_right_inj _).2 (List.take_prefix _ _)) h1
/-- pages at these addresses -/
def RdPA (w : World) (pa : Option Addr) (P : List (List Ent)) (A : Nat → Option Addr) (C : Nat → Nat) : Prop := ∀ j (hj : j < P.length), ∃ b o, pa = some ⟨b, o, none⟩ ∧ w.cell? ⟨b, o + j, none⟩ = some (.slice (A j) P[j].length (C j)) ∧ P[j].length ≤ C j ∧ RdE w (A j) P[j]
theorem RdPA.below {w w' : World} {pa : Option Addr} {P : List (List Ent)} {A : Nat → Option Addr} {C : Nat → Nat} (h : RdPA w pa P A C) (hb : Below w.heap.size w w') : RdPA w' pa P A C := fun j hj => by
  obtain ⟨b, o, h1, h2, h3, h4⟩ := h j hj
  exact ⟨b, o, h1, (hb.cell (World.block_lt_of_cell? w _ h2)).trans h2, h3, h4.below hb⟩
theorem RdP.fix {w : World} {pa : Option Addr} {P : List (List Ent)} (h : RdP w pa P) : ∃ A C, RdPA w pa P A C := by
  have h1 : ∀ j, ∃ ac : Option Addr × Nat, ∀ (hj : j < P.length), ∃ b o, pa = some ⟨b, o, none⟩ ∧ w.cell? ⟨b, o + j, none⟩ = some (.slice ac.1 P[j].length ac.2) ∧ P[j].length ≤ ac.2 ∧ RdE w ac.1 P[j] := fun j => by
    by_cases hj : j < P.length
    · obtain ⟨b, o, e, a, c, h2, h3, -, h4⟩ := h j hj
      exact ⟨(a, c), fun _ => ⟨b, o, e, h2, h3, h4⟩⟩
    · exact ⟨(none, 0), fun h9 => absurd h9 hj⟩
  exact ⟨fun j => (Classical.choose (h1 j)).1, fun j => (Classical.choose (h1 j)).2, fun j hj => Classical.choose_spec (h1 j) hj⟩
section
set_option maxRecDepth 100000
set_option maxHeartbeats 4000000
theorem rising_in (F : Fence) (n : Nat) (hf : F.fn 66) (hro : F.round = none) (hn : 1 ≤ n) (l g2 g3 : Nat) (Kp : World → World → Prop) (hKr : ∀ V, Kp V V) (hKt : ∀ {A B C : World}, Kp A B → Kp B C → Kp A C) (hKs : ∀ {A B : World}, Kp A B → A.heap.size ≤ B.heap.size) (P : List (List Ent)) (ahead : Nat) (pa : Option Addr) (np cap : Nat) (hnp : np = P.length) (hnl : np ≤ 4398046511104) (hlp : ∀ p ∈ P, p.length ≤ 100) (ha : ahead ≤ (P.getD 0 []).length) (J Jx : List Ent → World → Prop)
    (hY : ∀ pre x W, J pre W → pre.length < (P.flatten.drop ahead).length → YieldAt F (n - 1) Try.prog l #[ea x] W fun e W' => (e = .returned (.bool true) ∧ J (pre ++ [x]) W' ∧ Kp W W') ∨ (e = .returned (.bool false) ∧ Jx (pre ++ [x]) W'))
    (W : World) (hKa : ∀ (V : World) (o : Obj), W.heap.size ≤ V.heap.size → Kp V (V.alloc o)) (hJ : AbidesFrom W.heap.size J) (A : Nat → Option Addr) (C : Nat → Nat) (hne : ∀ p ∈ P, 0 < p.length) (hR : ∀ u, Kp W u → RdPA u pa P A C ∧ u.cell? ⟨g2, 0, none⟩ = some (.slice pa np cap) ∧ u.cell? ⟨g3, 0, none⟩ = some (.int .i64 (ahead : Int))) (h0 : J [] W) :
    CallsIn F n Try.prog 66 #[.func (.yield l) #[] #[], .pointer (some ⟨g2, 0, none⟩), .pointer (some ⟨g3, 0, none⟩)] W fun e W' => (∃ v, e = .returned v) ∧
      ((∃ ys, ys = P.flatten.drop ahead ∧ J ys W') ∨ (∃ pre, pre <+: P.flatten.drop ahead ∧ Jx pre W')) := by
  have HR : Hid _ := hR
  have HYY : Hid _ := hY
  have HNP : Hid (np = P.length) := hnp
  have HLP : Hid _ := hlp
  have hc2 := (hR W (hKr W)).2.1
  refine callsIn_of_wp Try.func66 rfl hf ?_ hro
  simp only [Try.ntmps66, List.size_toArray, List.length_cons, List.length_nil, Nat.reduceAdd, Nat.reduceSub, Array.replicate_succ, Array.replicate_zero, List.push_toArray, List.append_toArray, List.nil_append, List.cons_append]
  clear hR hY hnp hlp
  gi_wp2
  clear hc2
  gi_loopw [10] (fun i wr => ∃ k : Nat, k ≤ np ∧ i = .int .i64 (k : Int) ∧ J (front P ahead k) wr ∧ Kp W wr ∧ W.heap.size ≤ wr.heap.size) (fun i _ => np - (intOf i).toNat)
  case atStart => exact ⟨0, Nat.zero_le _, rfl, by rw [front_zero]; exact h0, hKr _, Nat.le_refl _⟩
  case round =>
    obtain ⟨k, hk, rfl, hJs, hbw, hsz⟩ := hrel
    have HJS : Hid _ := hJs
    have HBW : Hid _ := hbw
    have HSZ : Hid _ := hsz
    clear hJs hbw hsz
    by_cases hlt : k < np
    · have hkP : k < P.length := by have := HNP.out; omega
      obtain ⟨hrd, hc2, hc3⟩ := HR.out wr HBW.out
      obtain ⟨b, o, rfl, hcp, hkc, hre⟩ := hrd k hkP
      obtain ⟨K0, hK0⟩ : ∃ K0, K0 = P[k].length := ⟨_, rfl⟩
      rw [← hK0] at hcp hkc
      have HK0 : Hid _ := hK0
      have eP : P.getD k [] = P[k] := by simp [List.getD, hkP]
      have hKl : K0 ≤ 100 := by rw [hK0]; exact HLP.out _ (List.getElem_mem hkP)
      have hki : (k : Int) < (np : Int) := by omega
      have hk0 : (0 : Int) ≤ (k : Int) := by omega
      have HRK : Hid (∀ u, Kp W u → RdE u (A k) P[k]) := fun u hu => by obtain ⟨_, _, _, _, _, h9⟩ := (HR.out u hu).1 k hkP; exact h9
      obtain ⟨b4, o4, e4⟩ : ∃ b4 o4, A k = some ⟨b4, o4, none⟩ := by
        obtain ⟨b4, o4, h8, -⟩ := hre 0 (hne _ (List.getElem_mem hkP))
        exact ⟨b4, o4, h8⟩
      rw [e4] at hcp HRK
      obtain ⟨c, hcC⟩ : ∃ c, c = C k := ⟨_, rfl⟩
      rw [← hcC] at hcp hkc
      clear hrd hre hK0 hc2 hcC
      by_cases hz : k = 0
      · have HZ : Hid (k = 0) := hz
        have hzb : ((k : Int) == 0) = true := by simp [hz]
        have haK : ahead ≤ K0 := by have h9 := ha; rw [← hz, eP] at h9; rw [HK0.out]; exact h9
        have hac : ahead ≤ c := by omega
        have hai : (ahead : Int) ≤ (K0 : Int) := by omega
        have ha0 : (0 : Int) ≤ (ahead : Int) := by omega
        clear hz
        by_cases hca : c = ahead
        · subst hca
          have HPE : Hid (pgAt P c k = []) := by unfold pgAt; rw [eP, if_pos HZ.out]; exact List.drop_eq_nil_of_le (by have := HK0.out; omega)
          gi_wp2
          clear hcp hkc hc3
          gi_loopw [22] (fun j wq => j = .int .i64 0 ∧ wq = wr) (fun _ _ => 0)
          case atStart => exact ⟨rfl, rfl⟩
          case round =>
            obtain ⟨rfl, rfl⟩ := hrel
            gi_wp2
            go_roundw
            case rel =>
              have h8 : J (front P c (k + 1)) wr := by rw [front_succ P c k hkP ha, HPE.out, List.append_nil]; exact HJS.out
              first | exact ⟨k + 1, by omega, by go_num, h8, HBW.out, HSZ.out⟩ | (iterate 25 (apply Exists.intro); refine And.intro ?_ rfl; exact ⟨k + 1, by omega, by go_num, h8, HBW.out, HSZ.out⟩)
            case measure => simp [intOf]; omega
        · obtain ⟨KA, hKA⟩ : ∃ KA, KA = K0 - ahead := ⟨_, rfl⟩
          have HKA : Hid (KA = K0 - ahead) := hKA
          have HRE : Hid (∀ u, Kp W u → RdE u (some ⟨b4, o4 + ahead * 3, none⟩) (pgAt P ahead k)) := fun u hu => by have h9 := (HRK.out u hu).drop ahead; unfold pgAt; rw [eP, if_pos HZ.out]; exact h9
          have HLV : Hid ((K0 - ahead) = (pgAt P ahead k).length) := by unfold pgAt; rw [eP, if_pos HZ.out, List.length_drop, ← HK0.out]; exact rfl
          obtain ⟨L, hL⟩ : ∃ L, L = (K0 - ahead) := ⟨_, rfl⟩
          have hLl : L ≤ 100 := by omega
          have HL : Hid (L = (pgAt P ahead k).length) := hL.trans HLV.out
          clear hKA
          gi_wp2
          (try rw [← hL])
          clear hcp hkc hc3 hL
          gi_loopw [22] (fun j wq => ∃ t : Nat, t ≤ L ∧ j = .int .i64 (t : Int) ∧ J (front P ahead k ++ (pgAt P ahead k).take t) wq ∧ Kp W wq ∧ W.heap.size ≤ wq.heap.size) (fun j _ => L - (intOf j).toNat)
          case atStart => exact ⟨0, Nat.zero_le _, rfl, by rw [List.take_zero, List.append_nil]; exact HJS.out, HBW.out, HSZ.out⟩
          case round =>
            clear HJS HBW HSZ
            obtain ⟨t, ht, rfl, hJs, hbw, hsz⟩ := hrel
            by_cases hlt2 : t < L
            · have htL : t < (pgAt P ahead k).length := by have := HL.out; omega
              obtain ⟨b5, o5, e5, hr5, -⟩ := HRE.out wr hbw t htL
              obtain ⟨x, hx⟩ : ∃ x, x = (pgAt P ahead k)[t] := ⟨_, rfl⟩
              rw [← hx] at hr5
              have HX : Hid (front P ahead k ++ (pgAt P ahead k).take (t + 1) = front P ahead k ++ (pgAt P ahead k).take t ++ [x]) := (show front P ahead k ++ (pgAt P ahead k).take (t + 1) = front P ahead k ++ (pgAt P ahead k).take t ++ [x] by rw [List.take_succ_eq_append_getElem htL, hx, List.append_assoc])
              obtain ⟨⟨x1, x2⟩, xn⟩ := x
              have hti : (t : Int) < (L : Int) := by omega
              have ht0 : (0 : Int) ≤ (t : Int) := by omega
              have hJa : J (front P ahead k ++ (pgAt P ahead k).take t) (wr.alloc (.cells #[.int .u64 (x1 : Int), .int .u64 (x2 : Int), .int .u64 (xn : Int)] tEn)) := hJ _ _ _ none hJs (World.grownBy_alloc wr _ none) (fun r e => by cases e)
              obtain ⟨fn, tmps, assign, body, hy, hRd⟩ := HYY.out _ (⟨(x1, x2), xn⟩ : Ent) _ hJa (by have h9 := List.IsPrefix.length_le (front_pre P ahead k (t + 1) hkP ha); rw [HX.out] at h9; simp at h9 ⊢; omega)
              have HB2 : Hid (Kp W (wr.alloc (.cells #[.int .u64 (x1 : Int), .int .u64 (x2 : Int), .int .u64 (xn : Int)] tEn))) := hKt hbw (hKa _ _ hsz)
              have HSZ : Hid _ := hsz
              dsimp only [ea, Ent.v] at hy
              cases e5
              have hq0 := hr5 0 _ rfl
              have hq1 := hr5 1 _ rfl
              have hq2 := hr5 2 _ rfl
              rw [Nat.add_zero] at hq0
              simp only [ea, ev, Ent.v] at hq0 hq1 hq2
              clear hJa hJs hx hsz htL hr5 hbw
              gi_wp2
              refine hRd.mono ?_
              rintro e W3 (⟨rfl, hJ3, hk3⟩ | ⟨rfl, hJx3⟩)
              · gi_wp2
                go_roundw
                case rel =>
                  have h7 : J (front P ahead k ++ (pgAt P ahead k).take (t + 1)) W3 := by rw [HX.out]; exact hJ3
                  have h6 : W.heap.size ≤ W3.heap.size := by have h9 := hKs hk3; have h8 := HSZ.out; simp at h9; omega
                  first | exact ⟨t + 1, by omega, by go_num, h7, hKt HB2.out hk3, h6⟩ | (iterate 12 (apply Exists.intro); refine And.intro ?_ rfl; exact ⟨t + 1, by omega, by go_num, h7, hKt HB2.out hk3, h6⟩)
                case measure => simp [intOf]; omega
              · gi_wp2
                refine bodyPost_ret (results_none rfl _ _ _) rfl ?_
                exact ⟨⟨_, rfl⟩, .inr ⟨_, by rw [← HX.out]; exact front_pre P ahead k (t + 1) hkP ha, hJx3⟩⟩
            · obtain rfl : L = t := by omega
              have HJ9 : Hid _ := hJs
              clear hJs
              gi_wp2
              go_roundw
              case rel =>
                have h8 : J (front P ahead (k + 1)) wr := by rw [front_succ P ahead k hkP ha]; have h9 := HJ9.out; rw [HL.out, List.take_length] at h9; exact h9
                first | exact ⟨k + 1, by omega, by go_num, h8, hbw, hsz⟩ | (iterate 25 (apply Exists.intro); refine And.intro ?_ rfl; exact ⟨k + 1, by omega, by go_num, h8, hbw, hsz⟩)
              case measure => simp [intOf]; omega
      · have hzi : ¬ (k : Int) = 0 := by omega
        have hzb : ((k : Int) == 0) = false := by simpa using hzi
        have HRE : Hid (∀ u, Kp W u → RdE u (some ⟨b4, o4, none⟩) (pgAt P ahead k)) := fun u hu => by have h9 := HRK.out u hu; unfold pgAt; rw [eP, if_neg hz, List.drop_zero]; exact h9
        have HLV : Hid (K0 = (pgAt P ahead k).length) := by unfold pgAt; rw [eP, if_neg hz, List.drop_zero]; exact HK0.out
        obtain ⟨L, hL⟩ : ∃ L, L = K0 := ⟨_, rfl⟩
        have hLl : L ≤ 100 := by omega
        have HL : Hid (L = (pgAt P ahead k).length) := hL.trans HLV.out
        skip
        gi_wp2
        (try rw [← hL])
        clear hcp hkc hc3 hL
        gi_loopw [22] (fun j wq => ∃ t : Nat, t ≤ L ∧ j = .int .i64 (t : Int) ∧ J (front P ahead k ++ (pgAt P ahead k).take t) wq ∧ Kp W wq ∧ W.heap.size ≤ wq.heap.size) (fun j _ => L - (intOf j).toNat)
        case atStart => exact ⟨0, Nat.zero_le _, rfl, by rw [List.take_zero, List.append_nil]; exact HJS.out, HBW.out, HSZ.out⟩
        case round =>
          clear HJS HBW HSZ
          obtain ⟨t, ht, rfl, hJs, hbw, hsz⟩ := hrel
          by_cases hlt2 : t < L
          · have htL : t < (pgAt P ahead k).length := by have := HL.out; omega
            obtain ⟨b5, o5, e5, hr5, -⟩ := HRE.out wr hbw t htL
            obtain ⟨x, hx⟩ : ∃ x, x = (pgAt P ahead k)[t] := ⟨_, rfl⟩
            rw [← hx] at hr5
            have HX : Hid (front P ahead k ++ (pgAt P ahead k).take (t + 1) = front P ahead k ++ (pgAt P ahead k).take t ++ [x]) := (show front P ahead k ++ (pgAt P ahead k).take (t + 1) = front P ahead k ++ (pgAt P ahead k).take t ++ [x] by rw [List.take_succ_eq_append_getElem htL, hx, List.append_assoc])
            obtain ⟨⟨x1, x2⟩, xn⟩ := x
            have hti : (t : Int) < (L : Int) := by omega
            have ht0 : (0 : Int) ≤ (t : Int) := by omega
            have hJa : J (front P ahead k ++ (pgAt P ahead k).take t) (wr.alloc (.cells #[.int .u64 (x1 : Int), .int .u64 (x2 : Int), .int .u64 (xn : Int)] tEn)) := hJ _ _ _ none hJs (World.grownBy_alloc wr _ none) (fun r e => by cases e)
            obtain ⟨fn, tmps, assign, body, hy, hRd⟩ := HYY.out _ (⟨(x1, x2), xn⟩ : Ent) _ hJa (by have h9 := List.IsPrefix.length_le (front_pre P ahead k (t + 1) hkP ha); rw [HX.out] at h9; simp at h9 ⊢; omega)
            have HB2 : Hid (Kp W (wr.alloc (.cells #[.int .u64 (x1 : Int), .int .u64 (x2 : Int), .int .u64 (xn : Int)] tEn))) := hKt hbw (hKa _ _ hsz)
            have HSZ : Hid _ := hsz
            dsimp only [ea, Ent.v] at hy
            cases e5
            have hq0 := hr5 0 _ rfl
            have hq1 := hr5 1 _ rfl
            have hq2 := hr5 2 _ rfl
            rw [Nat.add_zero] at hq0
            simp only [ea, ev, Ent.v] at hq0 hq1 hq2
            clear hJa hJs hx hsz htL hr5 hbw
            gi_wp2
            refine hRd.mono ?_
            rintro e W3 (⟨rfl, hJ3, hk3⟩ | ⟨rfl, hJx3⟩)
            · gi_wp2
              go_roundw
              case rel =>
                have h7 : J (front P ahead k ++ (pgAt P ahead k).take (t + 1)) W3 := by rw [HX.out]; exact hJ3
                have h6 : W.heap.size ≤ W3.heap.size := by have h9 := hKs hk3; have h8 := HSZ.out; simp at h9; omega
                first | exact ⟨t + 1, by omega, by go_num, h7, hKt HB2.out hk3, h6⟩ | (iterate 12 (apply Exists.intro); refine And.intro ?_ rfl; exact ⟨t + 1, by omega, by go_num, h7, hKt HB2.out hk3, h6⟩)
              case measure => simp [intOf]; omega
            · gi_wp2
              refine bodyPost_ret (results_none rfl _ _ _) rfl ?_
              exact ⟨⟨_, rfl⟩, .inr ⟨_, by rw [← HX.out]; exact front_pre P ahead k (t + 1) hkP ha, hJx3⟩⟩
          · obtain rfl : L = t := by omega
            have HJ9 : Hid _ := hJs
            clear hJs
            gi_wp2
            go_roundw
            case rel =>
              have h8 : J (front P ahead (k + 1)) wr := by rw [front_succ P ahead k hkP ha]; have h9 := HJ9.out; rw [HL.out, List.take_length] at h9; exact h9
              first | exact ⟨k + 1, by omega, by go_num, h8, hbw, hsz⟩ | (iterate 25 (apply Exists.intro); refine And.intro ?_ rfl; exact ⟨k + 1, by omega, by go_num, h8, hbw, hsz⟩)
            case measure => simp [intOf]; omega
    · obtain rfl : k = np := by omega
      gi_wp2
      go_end0
      exact ⟨⟨_, rfl⟩, .inl ⟨_, rfl, by rw [← front_all, ← HNP.out]; exact HJS.out⟩⟩
end
end Go.Proofs.Ytnhjkipaclchiaa
