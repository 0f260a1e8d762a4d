import Derived.RangeFuncNested
import Derived.RangeFuncBound
import Derived.RangeFuncCalls
import Derived.RangeFuncLeaves
import Derived.Shelf.Abstract
import Derived.Shelf.RegionOpen
import Derived.WalkKit
import Derived.OwnWalkIn
import Derived.TacticsInMore
import Derived.LoopNIn
import Derived.LoopIn
import Derived.Test.YtibolgpaolnheacQU
namespace Go.Proofs.Ytibolgpaolnheac
set_option linter.unusedVariables false
set_option linter.unusedSimpArgs false
open Go.RowKit Go.Shelf
attribute [local go_sem] Oper.semAt_some
theorem wpListIn_load_q {F : Fence} {n : Nat} {P : Program} {ops : Array Oper} {rest : List Oper} {op : Oper} {a : Act} {w : World} {Q : Exit → Act → World → Prop} (hgd : op.guard = none) (ty : TypeId) (x : Operand) (ho : op.op = .load ty x)
    (b o : Nat) (hx : a.eval x = .pointer (some ⟨b, o, none⟩)) (cs : List Value) (d : TypeDesc) (hc : w.rangeAt b o cs)
    (hu : P.underlying ty = some d) (hd : d.isRow = true) (hi : (P.info? ty).map (·.size) = some cs.length)
    (h : wpListIn F n P ops Q rest (a.put op.dst (.agg cs.toArray)) w) : wpListIn F n P ops Q (op :: rest) a w := by
  refine wpListIn_plain hgd fun K hK => ?_
  unfold Oper.wpIn
  refine ⟨?_, ?_⟩
  · simp [Oper.about, ho]
  · rw [Oper.semAt_plain F _ _ (by rw [ho]; intro c hc'; cases hc')]
    unfold execOp
    simp only [ho, hx, Instr.loadAt, Instr.sureAddr, Sem.run_bind, Sem.run_pure, Result.andThen_ok, run_loadVar_mid w b o ty cs d hc hu hd hi]
    exact hK _ _ h
theorem info_en : (Try.prog.info? tEn).map (·.size) = some 3 := by kernel_rfl
/-- the entries of the pages from a place of the first one on -/
def front (P : List (List Ent)) (ahead i : Nat) : List Ent := ((P.take i).flatten).drop ahead
def pgAt (P : List (List Ent)) (ahead i : Nat) : List Ent := (P.getD i []).drop (if i = 0 then ahead else 0)
theorem front_zero (P : List (List Ent)) (ahead : Nat) : front P ahead 0 = [] := by simp [front]
theorem front_succ (P : List (List Ent)) (ahead i : Nat) (hi : i < P.length) (ha : ahead ≤ (P.getD 0 []).length) : front P ahead (i + 1) = front P ahead i ++ pgAt P ahead i := by
  unfold front pgAt
  rw [List.take_succ_eq_append_getElem hi, List.flatten_append]
  have e : P.getD i [] = P[i] := by simp [List.getD, hi]
  rw [e]
  by_cases h0 : i = 0
  · subst h0; simp
  · rw [if_neg h0, List.drop_zero, List.drop_append_of_le_length]
    · simp
    · match P, i, h0, hi with
      | p :: P, i + 1, _, _ => simp at ha ⊢; omega
theorem front_all (P : List (List Ent)) (ahead : Nat) : front P ahead P.length = P.flatten.drop ahead := by simp [front]
theorem front_pre (P : List (List Ent)) (ahead i j : Nat) (hi : i < P.length) (ha : ahead ≤ (P.getD 0 []).length) : front P ahead i ++ (pgAt P ahead i).take j <+: P.flatten.drop ahead := by
  have h1 : front P ahead (i + 1) <+: P.flatten.drop ahead := by
    unfold front
    have e : P.flatten = (P.take (i + 1)).flatten ++ (P.drop (i + 1)).flatten := by rw [← List.flatten_append, List.take_append_drop]
    rw [e, List.drop_append]
    exact List.prefix_append _ _
  rw [front_succ P ahead i hi ha] at h1
  exact List.IsPrefix.trans ((List.prefix_append_right_inj _).2 (List.take_prefix _ _)) h1
/-- pages at these addresses -/
def RdPA (w : World) (pa : Option Addr) (P : List (List Ent)) (A : Nat → Option Addr) (C : Nat → Nat) : Prop := ∀ j (hj : j < P.length), ∃ b o, pa = some ⟨b, o, none⟩ ∧ w.cell? ⟨b, o + j, none⟩ = some (.slice (A j) P[j].length (C j)) ∧ P[j].length ≤ C j ∧ RdE w (A j) P[j]
theorem RdPA.below {w w' : World} {pa : Option Addr} {P : List (List Ent)} {A : Nat → Option Addr} {C : Nat → Nat} (h : RdPA w pa P A C) (hb : Below w.heap.size w w') : RdPA w' pa P A C := fun j hj => by
  obtain ⟨b, o, h1, h2, h3, h4⟩ := h j hj
  exact ⟨b, o, h1, (hb.cell (World.block_lt_of_cell? w _ h2)).trans h2, h3, h4.below hb⟩
theorem RdP.fix {w : World} {pa : Option Addr} {P : List (List Ent)} (h : RdP w pa P) : ∃ A C, RdPA w pa P A C := by
  have h1 : ∀ j, ∃ ac : Option Addr × Nat, ∀ (hj : j < P.length), ∃ b o, pa = some ⟨b, o, none⟩ ∧ w.cell? ⟨b, o + j, none⟩ = some (.slice ac.1 P[j].length ac.2) ∧ P[j].length ≤ ac.2 ∧ RdE w ac.1 P[j] := fun j => by
    by_cases hj : j < P.length
    · obtain ⟨b, o, e, a, c, h2, h3, -, h4⟩ := h j hj
      exact ⟨(a, c), fun _ => ⟨b, o, e, h2, h3, h4⟩⟩
    · exact ⟨(none, 0), fun h9 => absurd h9 hj⟩
  exact ⟨fun j => (Classical.choose (h1 j)).1, fun j => (Classical.choose (h1 j)).2, fun j hj => Classical.choose_spec (h1 j) hj⟩
section
set_option maxRecDepth 100000
set_option maxHeartbeats 4000000
theorem rising_in (F : Fence) (n : Nat) (hf : F.fn 63) (hro : F.round = none) (hn : 1 ≤ n) (l g2 g3 : Nat) (Kp : World → World → Prop) (hKr : ∀ V, Kp V V) (hKt : ∀ {A B C : World}, Kp A B → Kp B C → Kp A C) (hKs : ∀ {A B : World}, Kp A B → A.heap.size ≤ B.heap.size) (P : List (List Ent)) (ahead : Nat) (pa : Option Addr) (np cap : Nat) (hnp : np = P.length) (hnl : np ≤ 4398046511104) (hlp : ∀ p ∈ P, p.length ≤ 100) (ha : ahead ≤ (P.getD 0 []).length) (J Jx : List Ent → World → Prop)
    (hY : ∀ pre x W, J pre W → pre.length < (P.flatten.drop ahead).length → YieldAt F (n - 1) Try.prog l #[ea x] W fun e W' => (e = .returned (.bool true) ∧ J (pre ++ [x]) W' ∧ Kp W W') ∨ (e = .returned (.bool false) ∧ Jx (pre ++ [x]) W'))
    (W : World) (hKa : ∀ (V : World) (o : Obj), W.heap.size ≤ V.heap.size → Kp V (V.alloc o)) (hJ : AbidesFrom W.heap.size J) (A : Nat → Option Addr) (C : Nat → Nat) (hne : ∀ p ∈ P, 0 < p.length) (hR : ∀ u, Kp W u → RdPA u pa P A C ∧ u.cell? ⟨g2, 0, none⟩ = some (.slice pa np cap) ∧ u.cell? ⟨g3, 0, none⟩ = some (.int .i64 (ahead : Int))) (h0 : J [] W) :
    CallsIn F n Try.prog 63 #[.func (.yield l) #[] #[], .pointer (some ⟨g2, 0, none⟩), .pointer (some ⟨g3, 0, none⟩)] W fun e W' => (∃ v, e = .returned v) ∧
      ((∃ ys, ys = P.flatten.drop ahead ∧ J ys W') ∨ (∃ pre, pre <+: P.flatten.drop ahead ∧ Jx pre W')) := by
  have HR : Hid _ := hR
  have HYY : Hid _ := hY
  have HNP : Hid (np = P.length) := hnp
  have HLP : Hid _ := hlp
  have hc2 := (hR W (hKr W)).2.1
  refine callsIn_of_wp Try.func63 rfl hf ?_ hro
  simp only [Try.ntmps63, List.size_toArray, List.length_cons, List.length_nil, Nat.reduceAdd, Nat.reduceSub, Array.replicate_succ, Array.replicate_zero, List.push_toArray, List.append_toArray, List.nil_append, List.cons_append]
  clear hR hY hnp hlp
  gi_wp2
  clear hc2
  gi_loopw [10] (fun i wr => ∃ k : Nat, k ≤ np ∧ i = .int .i64 (k : Int) ∧ J (front P ahead k) wr ∧ Kp W wr ∧ W.heap.size ≤ wr.heap.size) (fun i _ => np - (intOf i).toNat)
  case atStart => exact ⟨0, Nat.zero_le _, rfl, by rw [front_zero]; exact h0, hKr _, Nat.le_refl _⟩
  case round =>
    obtain ⟨k, hk, rfl, hJs, hbw, hsz⟩ := hrel
    have HJS : Hid _ := hJs
    have HBW : Hid _ := hbw
    have HSZ : Hid _ := hsz
    clear hJs hbw hsz
    by_cases hlt : k < np
    · have hkP : k < P.length := by have := HNP.out; omega
      obtain ⟨hrd, hc2, hc3⟩ := HR.out wr HBW.out
      obtain ⟨b, o, rfl, hcp, hkc, hre⟩ := hrd k hkP
      obtain ⟨K0, hK0⟩ : ∃ K0, K0 = P[k].length := ⟨_, rfl⟩
      rw [← hK0] at hcp hkc
      have HK0 : Hid _ := hK0
      have eP : P.getD k [] = P[k] := by simp [List.getD, hkP]
      have hKl : K0 ≤ 100 := by rw [hK0]; exact HLP.out _ (List.getElem_mem hkP)
      have hki : (k : Int) < (np : Int) := by omega
      have hk0 : (0 : Int) ≤ (k : Int) := by omega
      have HRK : Hid (∀ u, Kp W u → RdE u (A k) P[k]) := fun u hu => by obtain ⟨_, _, _, _, _, h9⟩ := (HR.out u hu).1 k hkP; exact h9
      obtain ⟨b4, o4, e4⟩ : ∃ b4 o4, A k = some ⟨b4, o4, none⟩ := by
        obtain ⟨b4, o4, h8, -⟩ := hre 0 (hne _ (List.getElem_mem hkP))
        exact ⟨b4, o4, h8⟩
      rw [e4] at hcp HRK
      obtain ⟨c, hcC⟩ : ∃ c, c = C k := ⟨_, rfl⟩
      rw [← hcC] at hcp hkc
      clear hrd hre hK0 hc2 hcC
      by_cases hz : k = 0
      · have HZ : Hid (k = 0) := hz
        have hzb : ((k : Int) == 0) = true := by simp [hz]
        have haK : ahead ≤ K0 := by have h9 := ha; rw [← hz, eP] at h9; rw [HK0.out]; exact h9
        have hac : ahead ≤ c := by omega
        have hai : (ahead : Int) ≤ (K0 : Int) := by omega
        have ha0 : (0 : Int) ≤ (ahead : Int) := by omega
        clear hz
        by_cases hca : c = ahead
        · subst hca
          have HPE : Hid (pgAt P c k = []) := by unfold pgAt; rw [eP, if_pos HZ.out]; exact List.drop_eq_nil_of_le (by have := HK0.out; omega)
          gi_wp2
          clear hcp hkc hc3
          gi_loopw [22] (fun j wq => j = .int .i64 0 ∧ wq = wr) (fun _ _ => 0)
          case atStart => exact ⟨rfl, rfl⟩
          case round =>
            obtain ⟨rfl, rfl⟩ := hrel
            gi_wp2
            go_roundw
            case rel =>
              have h8 : J (front P c (k + 1)) wr := by rw [front_succ P c k hkP ha, HPE.out, List.append_nil]; exact HJS.out
              first | exact ⟨k + 1, by omega, by go_num, h8, HBW.out, HSZ.out⟩ | (iterate 25 (apply Exists.intro); refine And.intro ?_ rfl; exact ⟨k + 1, by omega, by go_num, h8, HBW.out, HSZ.out⟩)
            case measure => simp [intOf]; omega
        · obtain ⟨KA, hKA⟩ : ∃ KA, KA = K0 - ahead := ⟨_, rfl⟩
          have HKA : Hid (KA = K0 - ahead) := hKA
          have HRE : Hid (∀ u, Kp W u → RdE u (some ⟨b4, o4 + ahead * 3, none⟩) (pgAt P ahead k)) := fun u hu => by have h9 := (HRK.out u hu).drop ahead; unfold pgAt; rw [eP, if_pos HZ.out]; exact h9
          have HLV : Hid ((K0 - ahead) = (pgAt P ahead k).length) := by unfold pgAt; rw [eP, if_pos HZ.out, List.length_drop, ← HK0.out]; exact rfl
          obtain ⟨L, hL⟩ : ∃ L, L = (K0 - ahead) := ⟨_, rfl⟩
          have hLl : L ≤ 100 := by omega
          have HL : Hid (L = (pgAt P ahead k).length) := hL.trans HLV.out
          clear hKA
          gi_wp2
          (try rw [← hL])
          clear hcp hkc hc3 hL
          gi_loopw [22] (fun j wq => ∃ t : Nat, t ≤ L ∧ j = .int .i64 (t : Int) ∧ J (front P ahead k ++ (pgAt P ahead k).take t) wq ∧ Kp W wq ∧ W.heap.size ≤ wq.heap.size) (fun j _ => L - (intOf j).toNat)
          case atStart => exact ⟨0, Nat.zero_le _, rfl, by rw [List.take_zero, List.append_nil]; exact HJS.out, HBW.out, HSZ.out⟩
          case round =>
            clear HJS HBW HSZ
            obtain ⟨t, ht, rfl, hJs, hbw, hsz⟩ := hrel
            by_cases hlt2 : t < L
            · have htL : t < (pgAt P ahead k).length := by have := HL.out; omega
              obtain ⟨b5, o5, e5, hr5, -⟩ := HRE.out wr hbw t htL
              obtain ⟨x, hx⟩ : ∃ x, x = (pgAt P ahead k)[t] := ⟨_, rfl⟩
              rw [← hx] at hr5
              have HX : Hid (front P ahead k ++ (pgAt P ahead k).take (t + 1) = front P ahead k ++ (pgAt P ahead k).take t ++ [x]) := (show front P ahead k ++ (pgAt P ahead k).take (t + 1) = front P ahead k ++ (pgAt P ahead k).take t ++ [x] by rw [List.take_succ_eq_append_getElem htL, hx, List.append_assoc])
              obtain ⟨⟨x1, x2⟩, xn⟩ := x
              have hti : (t : Int) < (L : Int) := by omega
              have ht0 : (0 : Int) ≤ (t : Int) := by omega
              have hJa : J (front P ahead k ++ (pgAt P ahead k).take t) (wr.alloc (.cells #[.int .u64 (x1 : Int), .int .u64 (x2 : Int), .int .u64 (xn : Int)] tEn)) := hJ _ _ _ none hJs (World.grownBy_alloc wr _ none) (fun r e => by cases e)
              obtain ⟨fn, tmps, assign, body, hy, hRd⟩ := HYY.out _ (⟨(x1, x2), xn⟩ : Ent) _ hJa (by have h9 := List.IsPrefix.length_le (front_pre P ahead k (t + 1) hkP ha); rw [HX.out] at h9; simp at h9 ⊢; omega)
              have HB2 : Hid (Kp W (wr.alloc (.cells #[.int .u64 (x1 : Int), .int .u64 (x2 : Int), .int .u64 (xn : Int)] tEn))) := hKt hbw (hKa _ _ hsz)
              have HSZ : Hid _ := hsz
              dsimp only [ea, Ent.v] at hy
              cases e5
              have hq0 := hr5 0 _ rfl
              have hq1 := hr5 1 _ rfl
              have hq2 := hr5 2 _ rfl
              rw [Nat.add_zero] at hq0
              simp only [ea, ev, Ent.v] at hq0 hq1 hq2
              clear hJa hJs hx hsz htL hr5 hbw
              gi_wp2
              refine hRd.mono ?_
              rintro e W3 (⟨rfl, hJ3, hk3⟩ | ⟨rfl, hJx3⟩)
              · gi_wp2
                go_roundw
                case rel =>
                  have h7 : J (front P ahead k ++ (pgAt P ahead k).take (t + 1)) W3 := by rw [HX.out]; exact hJ3
                  have h6 : W.heap.size ≤ W3.heap.size := by have h9 := hKs hk3; have h8 := HSZ.out; simp at h9; omega
                  first | exact ⟨t + 1, by omega, by go_num, h7, hKt HB2.out hk3, h6⟩ | (iterate 12 (apply Exists.intro); refine And.intro ?_ rfl; exact ⟨t + 1, by omega, by go_num, h7, hKt HB2.out hk3, h6⟩)
                case measure => simp [intOf]; omega
              · gi_wp2
                refine bodyPost_ret (results_none rfl _ _ _) rfl ?_
                exact ⟨⟨_, rfl⟩, .inr ⟨_, by rw [← HX.out]; exact front_pre P ahead k (t + 1) hkP ha, hJx3⟩⟩
            · obtain rfl : L = t := by omega
              have HJ9 : Hid _ := hJs
              clear hJs
              gi_wp2
              go_roundw
              case rel =>
                have h8 : J (front P ahead (k + 1)) wr := by rw [front_succ P ahead k hkP ha]; have h9 := HJ9.out; rw [HL.out, List.take_length] at h9; exact h9
                first | exact ⟨k + 1, by omega, by go_num, h8, hbw, hsz⟩ | (iterate 25 (apply Exists.intro); refine And.intro ?_ rfl; exact ⟨k + 1, by omega, by go_num, h8, hbw, hsz⟩)
              case measure => simp [intOf]; omega
      · have hzi : ¬ (k : Int) = 0 := by omega
        have hzb : ((k : Int) == 0) = false := by simpa using hzi
        have HRE : Hid (∀ u, Kp W u → RdE u (some ⟨b4, o4, none⟩) (pgAt P ahead k)) := fun u hu => by have h9 := HRK.out u hu; unfold pgAt; rw [eP, if_neg hz, List.drop_zero]; exact h9
        have HLV : Hid (K0 = (pgAt P ahead k).length) := by unfold pgAt; rw [eP, if_neg hz, List.drop_zero]; exact HK0.out
        obtain ⟨L, hL⟩ : ∃ L, L = K0 := ⟨_, rfl⟩
        have hLl : L ≤ 100 := by omega
        have HL : Hid (L = (pgAt P ahead k).length) := hL.trans HLV.out
        skip
        gi_wp2
        (try rw [← hL])
        clear hcp hkc hc3 hL
        gi_loopw [22] (fun j wq => ∃ t : Nat, t ≤ L ∧ j = .int .i64 (t : Int) ∧ J (front P ahead k ++ (pgAt P ahead k).take t) wq ∧ Kp W wq ∧ W.heap.size ≤ wq.heap.size) (fun j _ => L - (intOf j).toNat)
        case atStart => exact ⟨0, Nat.zero_le _, rfl, by rw [List.take_zero, List.append_nil]; exact HJS.out, HBW.out, HSZ.out⟩
        case round =>
          clear HJS HBW HSZ
          obtain ⟨t, ht, rfl, hJs, hbw, hsz⟩ := hrel
          by_cases hlt2 : t < L
          · have htL : t < (pgAt P ahead k).length := by have := HL.out; omega
            obtain ⟨b5, o5, e5, hr5, -⟩ := HRE.out wr hbw t htL
            obtain ⟨x, hx⟩ : ∃ x, x = (pgAt P ahead k)[t] := ⟨_, rfl⟩
            rw [← hx] at hr5
            have HX : Hid (front P ahead k ++ (pgAt P ahead k).take (t + 1) = front P ahead k ++ (pgAt P ahead k).take t ++ [x]) := (show front P ahead k ++ (pgAt P ahead k).take (t + 1) = front P ahead k ++ (pgAt P ahead k).take t ++ [x] by rw [List.take_succ_eq_append_getElem htL, hx, List.append_assoc])
            obtain ⟨⟨x1, x2⟩, xn⟩ := x
            have hti : (t : Int) < (L : Int) := by omega
            have ht0 : (0 : Int) ≤ (t : Int) := by omega
            have hJa : J (front P ahead k ++ (pgAt P ahead k).take t) (wr.alloc (.cells #[.int .u64 (x1 : Int), .int .u64 (x2 : Int), .int .u64 (xn : Int)] tEn)) := hJ _ _ _ none hJs (World.grownBy_alloc wr _ none) (fun r e => by cases e)
            obtain ⟨fn, tmps, assign, body, hy, hRd⟩ := HYY.out _ (⟨(x1, x2), xn⟩ : Ent) _ hJa (by have h9 := List.IsPrefix.length_le (front_pre P ahead k (t + 1) hkP ha); rw [HX.out] at h9; simp at h9 ⊢; omega)
            have HB2 : Hid (Kp W (wr.alloc (.cells #[.int .u64 (x1 : Int), .int .u64 (x2 : Int), .int .u64 (xn : Int)] tEn))) := hKt hbw (hKa _ _ hsz)
            have HSZ : Hid _ := hsz
            dsimp only [ea, Ent.v] at hy
            cases e5
            have hq0 := hr5 0 _ rfl
            have hq1 := hr5 1 _ rfl
            have hq2 := hr5 2 _ rfl
            rw [Nat.add_zero] at hq0
            simp only [ea, ev, Ent.v] at hq0 hq1 hq2
            clear hJa hJs hx hsz htL hr5 hbw
            gi_wp2
            refine hRd.mono ?_
            rintro e W3 (⟨rfl, hJ3, hk3⟩ | ⟨rfl, hJx3⟩)
            · gi_wp2
              go_roundw
              case rel =>
                have h7 : J (front P ahead k ++ (pgAt P ahead k).take (t + 1)) W3 := by rw [HX.out]; exact hJ3
                have h6 : W.heap.size ≤ W3.heap.size := by have h9 := hKs hk3; have h8 := HSZ.out; simp at h9; omega
                first | exact ⟨t + 1, by omega, by go_num, h7, hKt HB2.out hk3, h6⟩ | (iterate 12 (apply Exists.intro); refine And.intro ?_ rfl; exact ⟨t + 1, by omega, by go_num, h7, hKt HB2.out hk3, h6⟩)
              case measure => simp [intOf]; omega
            · gi_wp2
              refine bodyPost_ret (results_none rfl _ _ _) rfl ?_
              exact ⟨⟨_, rfl⟩, .inr ⟨_, by rw [← HX.out]; exact front_pre P ahead k (t + 1) hkP ha, hJx3⟩⟩
          · obtain rfl : L = t := by omega
            have HJ9 : Hid _ := hJs
            clear hJs
            gi_wp2
            go_roundw
            case rel =>
              have h8 : J (front P ahead (k + 1)) wr := by rw [front_succ P ahead k hkP ha]; have h9 := HJ9.out; rw [HL.out, List.take_length] at h9; exact h9
              first | exact ⟨k + 1, by omega, by go_num, h8, hbw, hsz⟩ | (iterate 25 (apply Exists.intro); refine And.intro ?_ rfl; exact ⟨k + 1, by omega, by go_num, h8, hbw, hsz⟩)
            case measure => simp [intOf]; omega
    · obtain rfl : k = np := by omega
      gi_wp2
      go_end0
      exact ⟨⟨_, rfl⟩, .inl ⟨_, rfl, by rw [← front_all, ← HNP.out]; exact HJS.out⟩⟩
end
end Go.Proofs.Ytibolgpaolnheac
namespace Go.Proofs.Ytibolgpaolnheac
set_option linter.unusedVariables false
set_option linter.unusedSimpArgs false
open Go.RowKit
section
set_option maxRecDepth 20000
theorem num_t (e : Int) (w : World) : Calls Try.prog 16 #[.int .i64 e] w fun er w' => er = .returned (.int .i64 e) ∧ w' = w := by
  go_enter Try.func16, Try.ntmps16
  go_wp2
  go_ret
  exact ⟨rfl, rfl⟩
theorem newU_t (S : Nat) (hS : 4 ≤ S ∧ S ≤ 64) (w : World) : Calls Try.prog 14 #[.int .i64 (S : Int)] w fun er w' => er = .returned (.tuple #[.pointer (some ⟨w.heap.size, 0, none⟩), .int .i64 0]) ∧ IdxAt w' w.heap.size S [] (.slice none 0 0) [] ∧ Below w.heap.size w w' := by
  have h1 : ¬ (S : Int) < 4 := by omega
  have h2 : ¬ (64 : Int) < (S : Int) := by omega
  have h3 : (S : Int) ≤ 64 := by omega
  go_enter Try.func14, Try.ntmps14
  go_wp2
  refine bodyPost_ret (results_tmp2 rfl _ _ _) rfl ?_
  exact ⟨rfl, ⟨heap_alloc_new w _, World.ownsRow_nil _ _ _ _, fun j hj => absurd hj (Nat.not_lt_zero _)⟩, al (Below.refl _ _) _⟩
theorem up_t (x : Value) (h1 : x.oneCell' = true) (g : Option Addr) (hx : x = .pointer g) (s1 s2 : Nat) (w : World) : Calls Try.prog 38 #[x, sv (s1, s2)] w fun er w' => er = .returned (.func (.func 57) #[] #[.pointer (some ⟨w.heap.size, 0, none⟩), .pointer (some ⟨w.heap.size + 1, 0, none⟩)]) ∧ w' = (w.alloc (.cells #[x] 27)).alloc (.cells #[.int .u64 (s1 : Int), .int .u64 (s2 : Int)] tSt) := by
  subst hx
  go_enter Try.func38, Try.ntmps38
  go_wp2
  go_ret
  exact ⟨rfl, rfl⟩
theorem down_t (x : Value) (h1 : x.oneCell' = true) (g : Option Addr) (hx : x = .pointer g) (s1 s2 : Nat) (w : World) : Calls Try.prog 39 #[x, sv (s1, s2)] w fun er w' => er = .returned (.func (.func 59) #[] #[.pointer (some ⟨w.heap.size, 0, none⟩), .pointer (some ⟨w.heap.size + 1, 0, none⟩)]) ∧ w' = (w.alloc (.cells #[x] 27)).alloc (.cells #[.int .u64 (s1 : Int), .int .u64 (s2 : Int)] tSt) := by
  subst hx
  go_enter Try.func39, Try.ntmps39
  go_wp2
  go_ret
  exact ⟨rfl, rfl⟩
theorem sum_take {P : List (List Ent)} {k : Nat} (h : k < P.length) : (P.take (k + 1)).flatten.length = (P.take k).flatten.length + P[k].length := by
  rw [List.take_succ_eq_append_getElem h, List.flatten_append, List.length_append]; simp
theorem sum_le {P : List (List Ent)} (hlp : ∀ p ∈ P, p.length ≤ 100) : ∀ k, (P.take k).flatten.length ≤ 100 * k := fun k => by
  induction k with
  | zero => simp
  | succ k ih =>
    by_cases h : k < P.length
    · rw [sum_take h]
      have := hlp _ (List.getElem_mem h)
      omega
    · rw [List.take_of_length_le (by omega)] at ih ⊢
      omega
theorem len_t (x : Value) (pa : Option Addr) (n cap : Nat) (P : List (List Ent)) (w : World) (hx : PgV w x pa n cap) (hn : n = P.length) (hp : RdP w pa P) (hl : n ≤ 4398046511104) (hlp : ∀ p ∈ P, p.length ≤ 100) :
    Calls Try.prog 21 #[x] w fun e w' => e = .returned (.int .i64 (P.flatten.length : Int)) ∧ w' = w := by
  have HA : Hid _ := all_t x pa n cap w hx
  obtain ⟨TL, hTL⟩ : ∃ TL, TL = P.flatten.length := ⟨_, rfl⟩
  rw [← hTL]
  have HTL : Hid (TL = (P.take n).flatten.length) := (show TL = (P.take n).flatten.length by rw [hTL, hn, List.take_length])
  have HN : Hid (n = P.length) := hn
  have HLP : Hid _ := sum_le hlp
  have HL1 : Hid _ := hlp
  clear hx hn hlp hTL
  go_enter Try.func21, Try.ntmps21
  go_wp2_with fail
  refine Calls.mono HA.out ?_
  rintro e z ⟨rfl, hz⟩
  have hz := hz.symm
  subst hz
  go_wp2
  go_loop [3, 9] (fun s i => ∃ k : Nat, k ≤ n ∧ i = .int .i64 (k : Int) ∧ s = .int .i64 ((P.take k).flatten.length : Nat)) (fun _ i => n - (intOf i).toNat)
  case atStart => exact ⟨0, Nat.zero_le _, rfl, rfl⟩
  case round =>
    obtain ⟨k, hk, rfl, rfl⟩ := hrel
    by_cases hlt : k < n
    · have hkP : k < P.length := by have := HN.out; omega
      obtain ⟨b, o, rfl, a, c, hcp, hkc, hnc, -⟩ := hp k hkP
      obtain ⟨K0, hK0⟩ : ∃ K0, K0 = P[k].length := ⟨_, rfl⟩
      rw [← hK0] at hcp
      obtain ⟨T0, hT0⟩ : ∃ T0, T0 = (P.take k).flatten.length := ⟨_, rfl⟩
      rw [← hT0]
      have HS : Hid ((P.take (k + 1)).flatten.length = T0 + K0) := (show (P.take (k + 1)).flatten.length = T0 + K0 by rw [sum_take hkP, hT0, hK0])
      have hb1 : T0 + K0 ≤ 439804651110400 := by have h9 := HLP.out (k + 1); have h8 := HS.out; omega
      have hki : (k : Int) < (n : Int) := by omega
      have hk0 : (0 : Int) ≤ (k : Int) := by omega
      clear hp hK0 hT0
      go_wp2
      go_round
      case rel => exact ⟨k + 1, by omega, by go_num, by rw [HS.out]; go_num⟩
      case measure => simp [intOf]; omega
    · obtain rfl : k = n := by omega
      rw [← HTL.out]
      clear hp
      go_wp2
      go_ret
      exact ⟨rfl, rfl⟩
end
end Go.Proofs.Ytibolgpaolnheac
namespace Go.Proofs.Ytibolgpaolnheac
set_option linter.unusedVariables false
set_option linter.unusedSimpArgs false
open Go.RowKit
variable {w w' w5 : World} {g S : Nat} {P P' : List (List Ent)} {v v' : Value} {vs vs' : List Value}
theorem row_blk {w : World} {v : Value} {n : Nat} {vs : List Value} (h : w.ownsRow 0 tPg 1 v n vs) (b : Nat) (hb : v.ownBlock = some b) : ∃ cur, w.heap[b]? = some (.cells cur tPg (0, 0)) := by
  rcases h.2 with ⟨rfl, -⟩ | ⟨g', cap, cur, rfl, -, hg, -⟩
  · cases hb
  · cases hb; exact ⟨cur, hg⟩
/-- the row of pages is another one from now on -/
theorem IdxAt.setRow (h : IdxAt w g S P v vs) (hg : w.grownBy w5 v.ownBlock) (hrow : w5.ownsRow 0 tPg 1 v' P'.length vs') (hpg : ∀ j (hj : j < P'.length), ∃ a c, vs'[j]? = some (.slice a P'[j].length c) ∧ P'[j].length ≤ c ∧ (a = none → c = 0) ∧ RdE w5 a P'[j]) :
    IdxAt (w5.setCell ⟨g, 1, none⟩ v') g S P' v' vs' ∧ Chg (foot g v) w (w5.setCell ⟨g, 1, none⟩ v') := by
  have hd5 : w5.heap[g]? = some (.cells #[.int .i64 (S : Int), v] tIx (0, 0)) := (hg.block g (Array.getElem?_eq_some_iff.1 h.hd).1 (fun e => h.ne e.symm)).trans h.hd
  have hgr : w5.grownBy (w5.setCell ⟨g, 1, none⟩ v') (some g) := ⟨rfl, rfl, rfl, by simp, fun k _ hk => heap_setCell_other w5 ⟨g, 1, none⟩ k v' (fun e => hk (by simp [e]))⟩
  have hC : Chg (fun b => b = g) w5 (w5.setCell ⟨g, 1, none⟩ v') := Chg.of_grown hgr (fun b e => by cases e; rfl)
  have hN : ∀ b, b = g → NoNum w5 b := fun b e => by subst e; exact ⟨_, _, _, hd5, by decide⟩
  refine ⟨⟨?_, ⟨hrow.1, ?_⟩, fun j hj => ?_⟩, ?_⟩
  · rw [heap_setCell_same w5 g 1 _ tIx v' hd5]
    rfl
  · rcases hrow.2 with h0 | ⟨g', cap, cur, e, hB, hg', r⟩
    · exact .inl h0
    · refine .inr ⟨g', cap, cur, e, hB, (hC.block g' (Array.getElem?_eq_some_iff.1 hg').1 (fun e2 => ?_)).trans hg', r⟩
      subst e2
      rw [hd5] at hg'
      injection hg' with h1
      injection h1 with h2 h3 h4
      exact absurd h3 (by decide)
  · obtain ⟨a, c, h1, h2, h3, h4⟩ := hpg j hj
    exact ⟨a, c, h1, h2, h3, h4.kept hC hN⟩
  · exact (Chg.of_grown (F := foot g v) hg (fun b e => .inr e)).trans hC (fun i e => .inl (.inl e))
theorem info_pg : (Try.prog.info? tPg).map (fun i => (i.zero, i.size, i.bytes)) = some (some (.slice none 0 0), 1, 24) := by kernel_rfl
section
set_option maxRecDepth 20000
set_option maxHeartbeats 3200000
theorem put_first (h : IdxAt w g S [] v vs) (hS : 1 ≤ S ∧ S ≤ 64) (s1 s2 n : Nat) :
    Calls Try.prog 17 #[.pointer (some ⟨g, 0, none⟩), sv (s1, s2), .int .u64 (n : Int)] w fun e w' => e = .returned (.bool true) ∧ (∃ v' vs', IdxAt w' g S [[mkE (s1, s2) n]] v' vs' ∧ (v'.ownBlock = v.ownBlock ∨ ∃ b, v'.ownBlock = some b ∧ w.heap.size ≤ b)) ∧ Chg (foot g v) w w' := by
  obtain ⟨w1, hw1⟩ : ∃ X : World, X = w.alloc (.cells #[.int .u64 (s1 : Int), .int .u64 (s2 : Int)] tSt) := ⟨_, rfl⟩
  have hb1 : Below w.heap.size w w1 := by rw [hw1]; exact al (Below.refl _ _) _
  have h1 := h.below hb1
  have HI1 : Hid (IdxAt w1 g S [] v vs) := h1
  obtain ⟨pa, cap, hv, hcap, hnil, hrd, hpg⟩ := h1.rd
  have HPL : Hid _ := place_t (.pointer (some ⟨g, 0, none⟩)) pa 0 cap [] (s1, s2) w1 hpg rfl hrd ⟨(fun p hp => by cases hp), List.Pairwise.nil⟩ (by decide) (fun p hp => by cases hp)
  have hcg0 : w.cell? ⟨g, 0, none⟩ = some (.int .i64 (S : Int)) := by rw [cell_of_row _ _ _ _ _ _ h.hd]; rfl
  have hgl : g < w.heap.size := (Array.getElem?_eq_some_iff.1 h.hd).1
  have hl3 : w1.rangeAt w.heap.size 0 (sc (s1, s2)) := by rw [hw1]; exact box_range (heap_alloc_new w _)
  have hSi : ¬ (S : Int) = 0 := by omega
  have hSb : ((S : Int) == 0) = false := by simpa using hSi
  have HB1 : Hid (Below w.heap.size w w1) := hb1
  have HV : Hid (v = .slice pa 0 cap) := hv
  clear h1 hb1 hrd hpg hcap hnil h hv
  go_enter Try.func17, Try.ntmps17
  go_wp2_with fail
  rw [← hw1]
  refine Calls.mono HPL.out ?_
  rintro e w2 ⟨p', i', ok', rfl, hpl', hb2⟩
  obtain ⟨rfl, rfl, rfl⟩ : p' = 0 ∧ i' = 0 ∧ ok' = false := by
    rcases hpl' with ⟨-, e1, e2, e3⟩ | ⟨r, -, -, h3, -⟩
    · exact ⟨e1, e2, e3⟩
    · exact absurd h3 (Nat.not_lt_zero _)
  have HI2 : Hid (IdxAt w2 g S [] v vs) := HI1.out.below hb2
  have HB2 : Hid (Below w.heap.size w w2) := below_next HB1.out hb2
  have hl4 : w2.rangeAt w.heap.size 0 (sc (s1, s2)) := rangeAt_below hl3 hb2
  have hcg1 : w2.cell? ⟨g, 1, none⟩ = some (.slice pa 0 cap) := by rw [cell_of_row _ _ _ _ _ _ HI2.out.hd, ← HV.out]; rfl
  have hgl2 : g < w2.heap.size := (Array.getElem?_eq_some_iff.1 HI2.out.hd).1
  obtain ⟨w3, hw3⟩ : ∃ X : World, X = w2.alloc (.cells #[.int .u64 (s1 : Int), .int .u64 (s2 : Int), .int .u64 (n : Int)] tEn) := ⟨_, rfl⟩
  have hb3 : Below w2.heap.size w2 w3 := by rw [hw3]; exact al (Below.refl _ _) _
  have HE3 : Hid (RdE w3 (some ⟨w2.heap.size, 0, none⟩) [mkE (s1, s2) n]) := rdE_one s1 s2 n (by rw [hw3]; exact heap_alloc_new w2 _)
  obtain ⟨w4, hw4⟩ : ∃ X : World, X = w3.alloc (.cells #[.slice (some ⟨w2.heap.size, 0, none⟩) 1 1] tPg) := ⟨_, rfl⟩
  have hb4 : Below w3.heap.size w3 w4 := by rw [hw4]; exact al (Below.refl _ _) _
  have HI4 : Hid (IdxAt w4 g S [] v vs) := HI2.out.below (below_next hb3 hb4)
  have HE4 : Hid (RdE w4 (some ⟨w2.heap.size, 0, none⟩) [mkE (s1, s2) n]) := HE3.out.below hb4
  have HB4 : Hid (Below w.heap.size w w4) := below_next HB2.out (below_next hb3 hb4)
  have HG4 : Hid (w4.heap[w3.heap.size]? = some (.cells #[.slice (some ⟨w2.heap.size, 0, none⟩) 1 1] tPg (0, 0))) := (show w4.heap[w3.heap.size]? = some (.cells #[.slice (some ⟨w2.heap.size, 0, none⟩) 1 1] tPg (0, 0)) by rw [hw4]; exact heap_alloc_new w3 _)
  clear hb2 hb3 hb4 hl3 hpl' HPL HI1 HB1 hw1
  obtain ⟨i0, hi, hz0, hz1, hz2⟩ := info_parts info_pg
  have HOW : Hid (w4.ownsRow 0 tPg 1 (.slice pa 0 cap) 0 vs) := (show w4.ownsRow 0 tPg 1 (.slice pa 0 cap) 0 vs by rw [← HV.out]; exact HI4.out.row)
  have hlw3 : w3.heap.size = w2.heap.size + 1 := by rw [hw3]; simp
  have HGB : Hid (w4.heap[w2.heap.size + 1]? = some (.cells #[.slice (some ⟨w2.heap.size, 0, none⟩) 1 1] tPg (0, 0))) := (show w4.heap[w2.heap.size + 1]? = some (.cells #[.slice (some ⟨w2.heap.size, 0, none⟩) 1 1] tPg (0, 0)) by rw [← hlw3]; exact HG4.out)
  clear hlw3 HG4
  go_wp2_with (first | (refine wpList_load_mid rfl tSt _ rfl w.heap.size 0 rfl (sc (s1, s2)) _ hl4 Try.underlying36 rfl info_st ?_) | (at_builtin; rw [← hw3, ← hw4]; refine wpList_append_lies _ rfl _ _ tPs rfl 0 tPg i0 _ 1 24 Try.underlying66 hi hz0 hz1 hz2 rfl (by decide) (.slice pa 0 cap) 0 vs rfl HOW.out ⟨w2.heap.size + 1, 0, none⟩ 1 1 [.slice (some ⟨w2.heap.size, 0, none⟩) 1 1] rfl rfl (World.news_of_block HGB.out) (by intro u hu; simp at hu; subst hu; rfl) (by decide) (by simp only [maxLen]; omega) (by omega) (Nat.zero_le _) w4.heap.size rfl ?_; intro g5 cap5 w5 hown5 hg5 hl5 _; have hd5 : w5.heap[g]? = some (.cells #[.int .i64 (S : Int), v] tIx (0, 0)) := (hg5.block g (Array.getElem?_eq_some_iff.1 HI4.out.hd).1 (fun e => HI4.out.ne (by rw [HV.out]; exact e.symm))).trans HI4.out.hd; have hc5 : w5.cell? ⟨g, 1, none⟩ = some (.slice pa 0 cap) := (by rw [cell_of_row _ _ _ _ _ _ hd5, ← HV.out]; rfl); have hf5 : w5.frozen? ⟨g, 1, none⟩ = false := (by simp [World.frozen?, hd5]); have HO5 : Hid (w5.ownsRow 0 tPg 1 (.slice (some ⟨g5, 0, none⟩) 1 cap5) 1 (vs ++ [.slice (some ⟨w2.heap.size, 0, none⟩) 1 1])) := hown5; have HG5 : Hid (w4.grownBy w5 v.ownBlock) := (by rw [HV.out]; exact hg5); have HL5 : Hid _ := hl5; clear hown5 hg5 hl5 hd5))
  go_ret
  have hvs : vs = [] := List.eq_nil_of_length_eq_zero HI4.out.len
  have ho5 := HO5.out
  rw [hvs, List.nil_append] at ho5
  have hE5 : RdE w5 (some ⟨w2.heap.size, 0, none⟩) [mkE (s1, s2) n] := HE4.out.kept (Chg.of_grown (F := foot g v) HG5.out (fun b e => .inr e)) (fun b e => HI4.out.noF b e)
  have h9 := HI4.out.setRow (P' := [[mkE (s1, s2) n]]) HG5.out ho5 (fun j hj => by
    have : j = 0 := by simpa using hj
    subst this
    exact ⟨_, 1, rfl, Nat.le_refl _, fun e => (by cases e), hE5⟩)
  refine ⟨rfl, ⟨_, _, h9.1, ?_⟩, (Chg.of_below HB4.out).trans h9.2 (fun i hi => .inl hi)⟩
  rcases HL5.out with e | e
  · left; rw [HV.out, e]; rfl
  · right; exact ⟨g5, rfl, by rw [e]; exact HB4.out.size⟩
end
end Go.Proofs.Ytibolgpaolnheac
