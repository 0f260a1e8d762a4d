import Derived.Test.YtplncfahpdmcoaaGreatDoorURp
import Derived.Test.YtplncfahpdmcoaaGreatDoorSeal
namespace Go.Proofs.YtplncfahpdmcoaaGreatDoor
set_option linter.unusedVariables false
set_option linter.unusedSimpArgs false
open Go.RowKit
theorem valid_t (k e s p i c : Int) (da : Option Addr) (dn dc : Nat) (cd : Int) (ga : Option Addr) (gn gc : Nat) (l : List Rg) (v : Bool) (hv : v = true ↔ validR k e s p i c dn cd gn l) (w : World) (hn : gn = l.length) (hx : RdR w ga l) (hl : gn ≤ 8796093022208) (hc : gn ≤ gc) :
    Calls Tryz.prog 23 #[.agg #[.int .i64 k, .int .u64 e, .int .u64 s, .int .i64 p, .int .i64 i, .int .i64 c, .slice da dn dc, .int .i64 cd, .slice ga gn gc]] w fun e w' => e = .returned (.int .i64 (if v then 0 else 30)) ∧ Below w.heap.size w w' := by
  have bad : ¬ validR k e s p i c dn cd gn l → v = false := fun h => bF hv h
  by_cases he : nameOk e
  · by_cases hs : nameOk s
    · by_cases k1 : k = 1
      · subst k1
        by_cases hg : ((p = 1 ∨ p = 2) ∧ (0 ≤ i ∧ i < 64) ∧ (i < c ∧ c ≤ 64) ∧ (1 ≤ dn ∧ dn ≤ 1024) ∧ (cd = 0 ∧ gn = 0))
        · rw [hv.2 ⟨⟨he, hs⟩, .inl ⟨rfl, hg⟩⟩]; exact valid_1g e s p i c da dn dc cd ga gn gc l w he hs hg
        · rw [bad (by rintro ⟨-, h | h | h⟩; (· exact hg h.2); (· have := h.1; omega); (· have := h.1; omega))]; exact valid_1b e s p i c da dn dc cd ga gn gc l w he hs hg
      · by_cases k2 : k = 2
        · subst k2
          by_cases hg : ((p = 0 ∧ i = 0 ∧ c = 0 ∧ dn = 0) ∧ (0 ≤ cd ∧ cd ≤ 7) ∧ gotOk l ∧ (cd = 0 ∨ gn = 0))
          · rw [hv.2 ⟨⟨he, hs⟩, .inr (.inl ⟨rfl, hg⟩)⟩]; exact valid_2g e s p i c da dn dc cd ga gn gc l w hn hx hl hc he hs hg
          · rw [bad (by rintro ⟨-, h | h | h⟩; (· have := h.1; omega); (· exact hg h.2); (· have := h.1; omega))]; exact valid_2b e s p i c da dn dc cd ga gn gc l w hn hx hl hc he hs hg
        · by_cases k3 : k = 3
          · subst k3
            by_cases hg : ((p = 0 ∧ i = 0 ∧ c = 0 ∧ dn = 0) ∧ (cd = 0 ∧ gn = 0))
            · rw [hv.2 ⟨⟨he, hs⟩, .inr (.inr ⟨rfl, hg⟩)⟩]; exact valid_3g e s p i c da dn dc cd ga gn gc l w he hs hg
            · rw [bad (by rintro ⟨-, h | h | h⟩; (· have := h.1; omega); (· have := h.1; omega); (· exact hg h.2))]; exact valid_3b e s p i c da dn dc cd ga gn gc l w he hs hg
          · rw [bad (by rintro ⟨-, h | h | h⟩ <;> (have := h.1; omega))]; exact valid_k k e s p i c da dn dc cd ga gn gc l w ⟨k1, k2, k3⟩
    · rw [bad (fun h => hs h.1.2)]
      by_cases k1 : k = 1
      · subst k1; exact valid_1s e s p i c da dn dc cd ga gn gc l w he hs
      · by_cases k2 : k = 2
        · subst k2; exact valid_2s e s p i c da dn dc cd ga gn gc l w he hs
        · by_cases k3 : k = 3
          · subst k3; exact valid_3s e s p i c da dn dc cd ga gn gc l w he hs
          · exact valid_k k e s p i c da dn dc cd ga gn gc l w ⟨k1, k2, k3⟩
  · rw [bad (fun h => he h.1.1)]
    by_cases k1 : k = 1
    · subst k1; exact valid_1e e s p i c da dn dc cd ga gn gc l w he
    · by_cases k2 : k = 2
      · subst k2; exact valid_2e e s p i c da dn dc cd ga gn gc l w he
      · by_cases k3 : k = 3
        · subst k3; exact valid_3e e s p i c da dn dc cd ga gn gc l w he
        · exact valid_k k e s p i c da dn dc cd ga gn gc l w ⟨k1, k2, k3⟩
def repX (xs : List UInt8) (CD gn : Nat) (l : List Rg) : List UInt8 := if CD = 0 then xs ++ dgs [CD] ++ dgs [gn] ++ gotB l else xs ++ dgs [CD]
theorem layReport_x (ao : Option Addr) (n cap : Nat) (xs : List UInt8) (hn : n = xs.length) (k e s p i c : Int) (da : Option Addr) (dn dc CD : Nat) (ga : Option Addr) (gn gc : Nat) (l : List Rg) (hgn : gn = l.length) (w : World) (hx : Rd w ao xs) (hnil : ao = none → cap = 0) (hg : RdR w ga l) (hgc : gn ≤ gc) (hok : gotOk l) (hl : n ≤ 1048576) (hCD : CD ≤ 7) :
    Calls Tryz.prog 68 #[.slice ao n cap, .agg #[.int .i64 k, .int .u64 e, .int .u64 s, .int .i64 p, .int .i64 i, .int .i64 c, .slice da dn dc, .int .i64 (CD : Nat), .slice ga gn gc]] w fun e w' => StrOut (repX xs CD gn l) w e w' := layReport_t ao n cap xs hn k e s p i c da dn dc CD ga gn gc l hgn w hx hnil hg hgc hok hl hCD
/-- what Encode answers -/
def EncOut (T : List UInt8) (w : World) (e : Ending) (w' : World) : Prop := ∃ (a : Option Addr) (L c : Nat), e = .returned (.tuple #[.slice a L c, .int .i64 0]) ∧ L = (T ++ sealL T).length ∧ Rd w' a (T ++ sealL T) ∧ (a = none → c = 0) ∧ Below w.heap.size w w'
/-- with memory of its own -/
def EncOwn (T : List UInt8) (w : World) (e : Ending) (w' : World) : Prop := ∃ (a : Option Addr) (L c : Nat), e = .returned (.tuple #[.slice a L c, .int .i64 0]) ∧ L = (T ++ sealL T).length ∧ Own w' w.heap.size (.slice a L c) (T ++ sealL T) ∧ Below w.heap.size w w'
theorem EncOwn.out {T : List UInt8} {w w' : World} {e : Ending} (h : EncOwn T w e w') : EncOut T w e w' := by
  obtain ⟨a, L, c, h1, h2, h3, h4⟩ := h
  obtain ⟨a9, c9, hv9, -, -, hn9, hrd9, -⟩ := h3.val
  simp only [Value.slice.injEq] at hv9
  obtain ⟨rfl, -, rfl⟩ := hv9
  exact ⟨a, L, c, h1, h2, hrd9, hn9, h4⟩
section
set_option maxRecDepth 20000
set_option maxHeartbeats 6400000
theorem enc_bad (k e s p i c : Int) (da : Option Addr) (dn dc : Nat) (cd : Int) (ga : Option Addr) (gn gc : Nat) (l : List Rg) (hv : ¬ validR k e s p i c dn cd gn l) (w : World) (hn : gn = l.length) (hx : RdR w ga l) (hl : gn ≤ 8796093022208) (hc : gn ≤ gc) :
    Calls Tryz.prog 6 #[.agg #[.int .i64 k, .int .u64 e, .int .u64 s, .int .i64 p, .int .i64 i, .int .i64 c, .slice da dn dc, .int .i64 cd, .slice ga gn gc]] w fun e w' => e = .returned (.tuple #[.slice none 0 0, .int .i64 30]) ∧ Below w.heap.size w w' := by
  have HBX : Hid _ := range_box w [.int .i64 k, .int .u64 e, .int .u64 s, .int .i64 p, .int .i64 i, .int .i64 c, .slice da dn dc, .int .i64 cd, .slice ga gn gc] 26
  have HV : Hid _ := fun (u : World) (hu : Below w.heap.size w u) => valid_t k e s p i c da dn dc cd ga gn gc l false ⟨(fun h => by cases h), fun h => absurd h hv⟩ u hn (hx.below hu) hl hc
  clear hv hn hx hl hc
  go_enter Tryz.func6, Tryz.ntmps6
  go_wp2_with (first
    | (refine wpList_load_g (by rfl) 26 _ rfl w.heap.size 0 (by rfl) [.int .i64 k, .int .u64 e, .int .u64 s, .int .i64 p, .int .i64 i, .int .i64 c, .slice da dn dc, .int .i64 cd, .slice ga gn gc] _ HBX.out Tryz.underlying26 rfl info_un ?_)
    | (go_at_call 23; refine Calls.mono (HV.out _ (al (Below.refl _ _) _)) ?_; rintro e1 w1 ⟨rfl, hb1⟩; have HB1 : Hid (Below w.heap.size w w1) := below_next (al (Below.refl _ _) _) hb1; simp only [if_false, Bool.false_eq_true]))
  go_ret2
  exact ⟨rfl, HB1.out⟩
theorem enc_1 (E S P I C : Nat) (da : Option Addr) (dn dc : Nat) (ds : List UInt8) (cd : Int) (ga : Option Addr) (gn gc : Nat) (l : List Rg) (w : World) (hv : validR 1 (E : Nat) (S : Nat) (P : Nat) (I : Nat) (C : Nat) dn cd gn l) (hdn : dn = ds.length) (hd : Rd w da ds) (hdnil : da = none → dc = 0) (hn : gn = l.length) (hx : RdR w ga l) (hl : gn ≤ 8796093022208) (hc : gn ≤ gc) (ht : TabOk w) :
    Calls Tryz.prog 6 #[.agg #[.int .i64 1, .int .u64 (E : Nat), .int .u64 (S : Nat), .int .i64 (P : Nat), .int .i64 (I : Nat), .int .i64 (C : Nat), .slice da dn dc, .int .i64 cd, .slice ga gn gc]] w fun e w' => EncOwn (dgs [1, E, S] ++ dgs [P, I, C] ++ (dg ds.length ++ ds)) w e w' := by
  have HBX : Hid (∀ u, Below (w.heap.size + 1) (w.alloc (.cells #[.int .i64 1, .int .u64 (E : Nat), .int .u64 (S : Nat), .int .i64 (P : Nat), .int .i64 (I : Nat), .int .i64 (C : Nat), .slice da dn dc, .int .i64 cd, .slice ga gn gc] 26 (0, 0))) u → u.rangeAt w.heap.size 0 [.int .i64 1, .int .u64 (E : Nat), .int .u64 (S : Nat), .int .i64 (P : Nat), .int .i64 (I : Nat), .int .i64 (C : Nat), .slice da dn dc, .int .i64 cd, .slice ga gn gc]) := fun u hu => range_below (range_box w [.int .i64 1, .int .u64 (E : Nat), .int .u64 (S : Nat), .int .i64 (P : Nat), .int .i64 (I : Nat), .int .i64 (C : Nat), .slice da dn dc, .int .i64 cd, .slice ga gn gc] 26) (by rw [heap_alloc_size1']; exact hu)
  have HV : Hid _ := fun (u : World) (hu : Below w.heap.size w u) => valid_t 1 (E : Nat) (S : Nat) (P : Nat) (I : Nat) (C : Nat) da dn dc cd ga gn gc l true ⟨fun _ => hv, fun _ => rfl⟩ u hn (hx.below hu) hl hc
  have HVV : Hid ((P ≤ 64 ∧ I ≤ 64 ∧ C ≤ 64) ∧ dn ≤ 1024) := by unfold Hid; obtain ⟨⟨hE, hS⟩, ⟨-, d1, d2, d3, d4, d5⟩ | h | h⟩ := hv; (· omega); (· have := h.1; omega); (· have := h.1; omega)
  have HES : Hid (E ≤ 281474976710655 ∧ S ≤ 281474976710655) := by have h1 := hv.1.1.2; have h2 := hv.1.2.2; unfold Hid; omega
  have HTB : Hid (∀ u, Below w.heap.size w u → TabOk u) := fun u hu => ht.below hu
  have HD : Hid (dn = ds.length ∧ (∀ u, Below w.heap.size w u → Rd u da ds) ∧ (da = none → dc = 0)) := ⟨hdn, fun u hu => hd.below hu, hdnil⟩
  have HLT : Hid (∀ n ∈ [1, E, S], n < 18446744073709551616) := fun n hn => by simp at hn; have := HES.out; omega
  have hsf := fun (u : World) (a : Addr) (n : Nat) => run_store Tryz.prog u a (.func (.func n) #[] #[]) .plain rfl
  have HS0 : Hid (Below (w.heap.size + 1) (w.alloc (.cells #[.int .i64 1, .int .u64 (E : Nat), .int .u64 (S : Nat), .int .i64 (P : Nat), .int .i64 (I : Nat), .int .i64 (C : Nat), .slice da dn dc, .int .i64 cd, .slice ga gn gc] 26 (0, 0))) (w.alloc (.cells #[.int .i64 1, .int .u64 (E : Nat), .int .u64 (S : Nat), .int .i64 (P : Nat), .int .i64 (I : Nat), .int .i64 (C : Nat), .slice da dn dc, .int .i64 cd, .slice ga gn gc] 26 (0, 0)))) := Below.refl _ _
  have HW : Hid (∀ u, Below (w.heap.size + 1) (w.alloc (.cells #[.int .i64 1, .int .u64 (E : Nat), .int .u64 (S : Nat), .int .i64 (P : Nat), .int .i64 (I : Nat), .int .i64 (C : Nat), .slice da dn dc, .int .i64 cd, .slice ga gn gc] 26 (0, 0))) u → Below w.heap.size w u) := fun u hu => (al (Below.refl _ w) _).trans (hu.mono (by omega))
  clear hv hn hx hl hc ht hdn hd hdnil
  go_enter Tryz.func6, Tryz.ntmps6
  go_wp2_with (first
    | (refine wpList_load_g (by rfl) 26 _ rfl w.heap.size 0 (by rfl) [.int .i64 1, .int .u64 (E : Nat), .int .u64 (S : Nat), .int .i64 (P : Nat), .int .i64 (I : Nat), .int .i64 (C : Nat), .slice da dn dc, .int .i64 cd, .slice ga gn gc] _ (by first | exact HBX.out _ HS3.out | exact HBX.out _ HS0.out) Tryz.underlying26 rfl info_un ?_)
    | (go_at_call 23; refine Calls.mono (HV.out _ (al (Below.refl _ _) _)) ?_; rintro e1 w1 ⟨rfl, hb1⟩; have HS1 : Hid (Below (w.heap.size + 1) (w.alloc (.cells #[.int .i64 1, .int .u64 (E : Nat), .int .u64 (S : Nat), .int .i64 (P : Nat), .int .i64 (I : Nat), .int .i64 (C : Nat), .slice da dn dc, .int .i64 cd, .slice ga gn gc] 26 (0, 0))) w1) := (by have h9 := hb1; rw [heap_alloc_size1'] at h9; exact h9); have hk0 : w1.cell? ⟨w.heap.size, 0, none⟩ = some (.int .i64 1) := HBX.out _ HS1.out 0 _ rfl; clear hb1)
    | (go_at_call 24; refine Calls.mono (kindOf_t 1 kd1 true (.inl ⟨rfl, rfl, rfl⟩) _) ?_; rintro e1 w2 ⟨rfl, hb2⟩; have HS2 : Hid (∀ o, Below (w.heap.size + 1) (w.alloc (.cells #[.int .i64 1, .int .u64 (E : Nat), .int .u64 (S : Nat), .int .i64 (P : Nat), .int .i64 (I : Nat), .int .i64 (C : Nat), .slice da dn dc, .int .i64 cd, .slice ga gn gc] 26 (0, 0))) (w2.alloc o)) := (fun o => (HS1.out.trans (hb2.mono (by have := HS1.out.size; simpa using this))).alloc (by have h8 := HS1.out.size; have h9 := hb2.size; simp at h8; omega) o); have h20 : ∀ o, (w2.alloc o).cell? ⟨w.heap.size, 0, none⟩ = some (.int .i64 1) := (fun o => HBX.out _ (HS2.out o) 0 _ rfl); have h21 : ∀ o, (w2.alloc o).cell? ⟨w.heap.size, 1, none⟩ = some (.int .u64 (E : Nat)) := (fun o => HBX.out _ (HS2.out o) 1 _ rfl); have h22 : ∀ o, (w2.alloc o).cell? ⟨w.heap.size, 2, none⟩ = some (.int .u64 (S : Nat)) := (fun o => HBX.out _ (HS2.out o) 2 _ rfl); clear hb2 hk0)
    | (go_at_call 25; refine Calls.mono (lay_t none 0 0 [] rfl (w2.heap.size + 1) 3 3 [1, E, S] rfl ((w2.alloc (.cells #[.int .i64 1, .func (.func 64) #[] #[], .func (.func 65) #[] #[], .func (.func 66) #[] #[]] 54 (0, 0))).alloc (.cells #[.int .u64 1, .int .u64 (E : Nat), .int .u64 (S : Nat)] 22 (0, 0))) (Rd.nil _ _) (fun _ => rfl) (by have h9 := rdn_lit (w2.alloc (.cells #[.int .i64 1, .func (.func 64) #[] #[], .func (.func 65) #[] #[], .func (.func 66) #[] #[]] 54 (0, 0))) #[.int .u64 1, .int .u64 (E : Nat), .int .u64 (S : Nat)] 22 [1, E, S] rfl; rw [heap_alloc_size1'] at h9; exact h9) HLT.out (by decide) (by decide)) ?_; rintro e1 w3 ⟨a3, L3, c3, rfl, hL3, hr3, hn3, hb3⟩; have HL3 : Hid (L3 = (dgs [1, E, S]).length) := hL3; have HR3 : Hid (Rd w3 a3 (dgs [1, E, S])) := hr3; have HN3 : Hid (a3 = none → c3 = 0) := hn3; have HS3 : Hid (Below (w.heap.size + 1) (w.alloc (.cells #[.int .i64 1, .int .u64 (E : Nat), .int .u64 (S : Nat), .int .i64 (P : Nat), .int .i64 (I : Nat), .int .i64 (C : Nat), .slice da dn dc, .int .i64 cd, .slice ga gn gc] 26 (0, 0))) w3) := (((HS2.out _).alloc (by have h9 := (HS2.out (.cells #[.int .i64 1, .func (.func 64) #[] #[], .func (.func 65) #[] #[], .func (.func 66) #[] #[]] 54 (0, 0))).size; simpa using h9) _).trans (hb3.mono (by have h9 := (HS2.out (.cells #[.int .i64 1, .func (.func 64) #[] #[], .func (.func 65) #[] #[], .func (.func 66) #[] #[]] 54 (0, 0))).size; simp at h9 ⊢; omega))); have HB3 : Hid (Below w.heap.size w w3) := HW.out _ HS3.out; have hkf : w3.cell? ⟨w2.heap.size, 2, none⟩ = some (.func (.func 65) #[] #[]) := (hb3.cell (p := ⟨w2.heap.size, 2, none⟩) (by simp; omega)).trans (((al (Below.refl _ _) _).cell (p := ⟨w2.heap.size, 2, none⟩) (by simp)).trans (range_box w2 [.int .i64 1, .func (.func 64) #[] #[], .func (.func 65) #[] #[], .func (.func 66) #[] #[]] 54 2 _ rfl)); have HLB : Hid (L3 ≤ 30) := (by have h3 := dgs_len [1, E, S] HLT.out; have h4 := HL3.out; simp only [List.length_cons, List.length_nil] at h3; unfold Hid; omega); clear hL3 hr3 hn3 hb3)
    | (go_at_call 65; refine Calls.mono (layData_t a3 L3 c3 (dgs [1, E, S]) HL3.out 1 (E : Nat) (S : Nat) P I C da dn dc ds HD.out.1 cd ga gn gc _ HR3.out HN3.out (HD.out.2.1 _ HB3.out) HD.out.2.2 (by have := HLB.out; omega) (by have := HVV.out; omega) (by have := HVV.out; omega) (by have := HVV.out; omega) (by have := HVV.out; omega)) ?_; rintro e1 w4 ⟨a4, L4, c4, rfl, hL4, hr4, hn4, hb4⟩; have HL4 : Hid (L4 = (dgs [1, E, S] ++ dgs [P, I, C] ++ (dg ds.length ++ ds)).length) := hL4; have HR4 : Hid (Rd w4 a4 (dgs [1, E, S] ++ dgs [P, I, C] ++ (dg ds.length ++ ds))) := hr4; have HN4 : Hid (a4 = none → c4 = 0) := hn4; have HB4 : Hid (Below w.heap.size w w4) := below_next HB3.out hb4; have HLB4 : Hid (L4 + 4 ≤ 140737488355328) := (by have h3 := dgs_len [1, E, S] HLT.out; rw [show L4 = (dgs [1, E, S] ++ dgs [P, I, C] ++ (dg ds.length ++ ds)).length from HL4.out]; unfold Hid; have h1 := dgs_len [P, I, C] (fun n hn => by simp at hn; have := HVV.out; omega); have h2 := dg_len ds.length (by have := HD.out; have := HVV.out; omega); have h4 := HD.out.1; have h5 := HVV.out; simp only [List.length_append, List.length_cons, List.length_nil] at h1 h3 ⊢; omega); clear hL4 hr4 hn4 hb4)
    | (go_at_call 26; refine Calls.mono (seal_n a4 L4 c4 (dgs [1, E, S] ++ dgs [P, I, C] ++ (dg ds.length ++ ds)) HL4.out w4 HR4.out HN4.out HLB4.out (HTB.out _ HB4.out)) ?_; rintro e1 w5 ⟨v5, rfl, hown5, hb5⟩; have HO5 : Hid (StrOut ((dgs [1, E, S] ++ dgs [P, I, C] ++ (dg ds.length ++ ds)) ++ sealL (dgs [1, E, S] ++ dgs [P, I, C] ++ (dg ds.length ++ ds))) w4 (.returned v5) w5) := StrOut.own hown5 hb5; have HOW5 : Hid (Own w5 w4.heap.size v5 ((dgs [1, E, S] ++ dgs [P, I, C] ++ (dg ds.length ++ ds)) ++ sealL (dgs [1, E, S] ++ dgs [P, I, C] ++ (dg ds.length ++ ds)))) := hown5; clear hown5 hb5; obtain ⟨a5, L5, c5, hv5, -⟩ := HO5.out; cases hv5))
  go_ret2
  obtain ⟨a6, L6, c6, hv6, h1, h2, h3, h4⟩ := HO5.out
  cases hv6
  exact ⟨_, _, _, rfl, h1, Own.base HOW5.out HB4.out.size, below_next HB4.out h4⟩
theorem enc_2 (E S : Nat) (p i c : Int) (da : Option Addr) (dn dc : Nat) (CD : Nat) (ga : Option Addr) (gn gc : Nat) (l : List Rg) (w : World) (hv : validR 2 (E : Nat) (S : Nat) p i c dn (CD : Nat) gn l)  (hn : gn = l.length) (hx : RdR w ga l) (hl : gn ≤ 8796093022208) (hc : gn ≤ gc) (ht : TabOk w) :
    Calls Tryz.prog 6 #[.agg #[.int .i64 2, .int .u64 (E : Nat), .int .u64 (S : Nat), .int .i64 p, .int .i64 i, .int .i64 c, .slice da dn dc, .int .i64 (CD : Nat), .slice ga gn gc]] w fun e w' => EncOwn (repX (dgs [2, E, S]) CD gn l) w e w' := by
  have HBX : Hid (∀ u, Below (w.heap.size + 1) (w.alloc (.cells #[.int .i64 2, .int .u64 (E : Nat), .int .u64 (S : Nat), .int .i64 p, .int .i64 i, .int .i64 c, .slice da dn dc, .int .i64 (CD : Nat), .slice ga gn gc] 26 (0, 0))) u → u.rangeAt w.heap.size 0 [.int .i64 2, .int .u64 (E : Nat), .int .u64 (S : Nat), .int .i64 p, .int .i64 i, .int .i64 c, .slice da dn dc, .int .i64 (CD : Nat), .slice ga gn gc]) := fun u hu => range_below (range_box w [.int .i64 2, .int .u64 (E : Nat), .int .u64 (S : Nat), .int .i64 p, .int .i64 i, .int .i64 c, .slice da dn dc, .int .i64 (CD : Nat), .slice ga gn gc] 26) (by rw [heap_alloc_size1']; exact hu)
  have HV : Hid _ := fun (u : World) (hu : Below w.heap.size w u) => valid_t 2 (E : Nat) (S : Nat) p i c da dn dc (CD : Nat) ga gn gc l true ⟨fun _ => hv, fun _ => rfl⟩ u hn (hx.below hu) hl hc
  have HVV : Hid (CD ≤ 7 ∧ gotOk l) := by unfold Hid; obtain ⟨⟨hE, hS⟩, h | ⟨-, r1, r2, r3, r4⟩ | h⟩ := hv; (· have := h.1; omega); (· exact ⟨by omega, r3⟩); (· have := h.1; omega)
  have HES : Hid (E ≤ 281474976710655 ∧ S ≤ 281474976710655) := by have h1 := hv.1.1.2; have h2 := hv.1.2.2; unfold Hid; omega
  have HTB : Hid (∀ u, Below w.heap.size w u → TabOk u) := fun u hu => ht.below hu
  have HG : Hid (gn = l.length ∧ (∀ u, Below w.heap.size w u → RdR u ga l) ∧ gn ≤ gc) := ⟨hn, fun u hu => hx.below hu, hc⟩
  have HLT : Hid (∀ n ∈ [2, E, S], n < 18446744073709551616) := fun n hn => by simp at hn; have := HES.out; omega
  have hsf := fun (u : World) (a : Addr) (n : Nat) => run_store Tryz.prog u a (.func (.func n) #[] #[]) .plain rfl
  have HS0 : Hid (Below (w.heap.size + 1) (w.alloc (.cells #[.int .i64 2, .int .u64 (E : Nat), .int .u64 (S : Nat), .int .i64 p, .int .i64 i, .int .i64 c, .slice da dn dc, .int .i64 (CD : Nat), .slice ga gn gc] 26 (0, 0))) (w.alloc (.cells #[.int .i64 2, .int .u64 (E : Nat), .int .u64 (S : Nat), .int .i64 p, .int .i64 i, .int .i64 c, .slice da dn dc, .int .i64 (CD : Nat), .slice ga gn gc] 26 (0, 0)))) := Below.refl _ _
  have HW : Hid (∀ u, Below (w.heap.size + 1) (w.alloc (.cells #[.int .i64 2, .int .u64 (E : Nat), .int .u64 (S : Nat), .int .i64 p, .int .i64 i, .int .i64 c, .slice da dn dc, .int .i64 (CD : Nat), .slice ga gn gc] 26 (0, 0))) u → Below w.heap.size w u) := fun u hu => (al (Below.refl _ w) _).trans (hu.mono (by omega))
  clear hv hn hx hl hc ht
  go_enter Tryz.func6, Tryz.ntmps6
  go_wp2_with (first
    | (refine wpList_load_g (by rfl) 26 _ rfl w.heap.size 0 (by rfl) [.int .i64 2, .int .u64 (E : Nat), .int .u64 (S : Nat), .int .i64 p, .int .i64 i, .int .i64 c, .slice da dn dc, .int .i64 (CD : Nat), .slice ga gn gc] _ (by first | exact HBX.out _ HS3.out | exact HBX.out _ HS0.out) Tryz.underlying26 rfl info_un ?_)
    | (go_at_call 23; refine Calls.mono (HV.out _ (al (Below.refl _ _) _)) ?_; rintro e1 w1 ⟨rfl, hb1⟩; have HS1 : Hid (Below (w.heap.size + 1) (w.alloc (.cells #[.int .i64 2, .int .u64 (E : Nat), .int .u64 (S : Nat), .int .i64 p, .int .i64 i, .int .i64 c, .slice da dn dc, .int .i64 (CD : Nat), .slice ga gn gc] 26 (0, 0))) w1) := (by have h9 := hb1; rw [heap_alloc_size1'] at h9; exact h9); have hk0 : w1.cell? ⟨w.heap.size, 0, none⟩ = some (.int .i64 2) := HBX.out _ HS1.out 0 _ rfl; clear hb1)
    | (go_at_call 24; refine Calls.mono (kindOf_t 2 kd2 true (.inr (.inl ⟨rfl, rfl, rfl⟩)) _) ?_; rintro e1 w2 ⟨rfl, hb2⟩; have HS2 : Hid (∀ o, Below (w.heap.size + 1) (w.alloc (.cells #[.int .i64 2, .int .u64 (E : Nat), .int .u64 (S : Nat), .int .i64 p, .int .i64 i, .int .i64 c, .slice da dn dc, .int .i64 (CD : Nat), .slice ga gn gc] 26 (0, 0))) (w2.alloc o)) := (fun o => (HS1.out.trans (hb2.mono (by have := HS1.out.size; simpa using this))).alloc (by have h8 := HS1.out.size; have h9 := hb2.size; simp at h8; omega) o); have h20 : ∀ o, (w2.alloc o).cell? ⟨w.heap.size, 0, none⟩ = some (.int .i64 2) := (fun o => HBX.out _ (HS2.out o) 0 _ rfl); have h21 : ∀ o, (w2.alloc o).cell? ⟨w.heap.size, 1, none⟩ = some (.int .u64 (E : Nat)) := (fun o => HBX.out _ (HS2.out o) 1 _ rfl); have h22 : ∀ o, (w2.alloc o).cell? ⟨w.heap.size, 2, none⟩ = some (.int .u64 (S : Nat)) := (fun o => HBX.out _ (HS2.out o) 2 _ rfl); clear hb2 hk0)
    | (go_at_call 25; refine Calls.mono (lay_t none 0 0 [] rfl (w2.heap.size + 1) 3 3 [2, E, S] rfl ((w2.alloc (.cells #[.int .i64 2, .func (.func 67) #[] #[], .func (.func 68) #[] #[], .func (.func 69) #[] #[]] 54 (0, 0))).alloc (.cells #[.int .u64 2, .int .u64 (E : Nat), .int .u64 (S : Nat)] 22 (0, 0))) (Rd.nil _ _) (fun _ => rfl) (by have h9 := rdn_lit (w2.alloc (.cells #[.int .i64 2, .func (.func 67) #[] #[], .func (.func 68) #[] #[], .func (.func 69) #[] #[]] 54 (0, 0))) #[.int .u64 2, .int .u64 (E : Nat), .int .u64 (S : Nat)] 22 [2, E, S] rfl; rw [heap_alloc_size1'] at h9; exact h9) HLT.out (by decide) (by decide)) ?_; rintro e1 w3 ⟨a3, L3, c3, rfl, hL3, hr3, hn3, hb3⟩; have HL3 : Hid (L3 = (dgs [2, E, S]).length) := hL3; have HR3 : Hid (Rd w3 a3 (dgs [2, E, S])) := hr3; have HN3 : Hid (a3 = none → c3 = 0) := hn3; have HS3 : Hid (Below (w.heap.size + 1) (w.alloc (.cells #[.int .i64 2, .int .u64 (E : Nat), .int .u64 (S : Nat), .int .i64 p, .int .i64 i, .int .i64 c, .slice da dn dc, .int .i64 (CD : Nat), .slice ga gn gc] 26 (0, 0))) w3) := (((HS2.out _).alloc (by have h9 := (HS2.out (.cells #[.int .i64 2, .func (.func 67) #[] #[], .func (.func 68) #[] #[], .func (.func 69) #[] #[]] 54 (0, 0))).size; simpa using h9) _).trans (hb3.mono (by have h9 := (HS2.out (.cells #[.int .i64 2, .func (.func 67) #[] #[], .func (.func 68) #[] #[], .func (.func 69) #[] #[]] 54 (0, 0))).size; simp at h9 ⊢; omega))); have HB3 : Hid (Below w.heap.size w w3) := HW.out _ HS3.out; have hkf : w3.cell? ⟨w2.heap.size, 2, none⟩ = some (.func (.func 68) #[] #[]) := (hb3.cell (p := ⟨w2.heap.size, 2, none⟩) (by simp; omega)).trans (((al (Below.refl _ _) _).cell (p := ⟨w2.heap.size, 2, none⟩) (by simp)).trans (range_box w2 [.int .i64 2, .func (.func 67) #[] #[], .func (.func 68) #[] #[], .func (.func 69) #[] #[]] 54 2 _ rfl)); have HLB : Hid (L3 ≤ 30) := (by have h3 := dgs_len [2, E, S] HLT.out; have h4 := HL3.out; simp only [List.length_cons, List.length_nil] at h3; unfold Hid; omega); clear hL3 hr3 hn3 hb3)
    | (go_at_call 68; refine Calls.mono (layReport_x a3 L3 c3 (dgs [2, E, S]) HL3.out 2 (E : Nat) (S : Nat) p i c da dn dc CD ga gn gc l HG.out.1 _ HR3.out HN3.out (HG.out.2.1 _ HB3.out) HG.out.2.2 HVV.out.2 (by have := HLB.out; omega) HVV.out.1) ?_; rintro e1 w4 ⟨a4, L4, c4, rfl, hL4, hr4, hn4, hb4⟩; have HL4 : Hid (L4 = (repX (dgs [2, E, S]) CD gn l).length) := hL4; have HR4 : Hid (Rd w4 a4 (repX (dgs [2, E, S]) CD gn l)) := hr4; have HN4 : Hid (a4 = none → c4 = 0) := hn4; have HB4 : Hid (Below w.heap.size w w4) := below_next HB3.out hb4; have HLB4 : Hid (L4 + 4 ≤ 140737488355328) := (by have h3 := dgs_len [2, E, S] HLT.out; rw [show L4 = (repX (dgs [2, E, S]) CD gn l).length from HL4.out]; unfold Hid; have h1 := dgs_len [CD] (fun n hn => by simp at hn; have := HVV.out; omega); have h2 := dgs_len [gn] (fun n hn => by simp at hn; have := HG.out; have := gotOk_cnt HVV.out.2; omega); have h4 := gotB_len HVV.out.2; simp only [List.length_cons, List.length_nil] at h1 h2 h3; unfold repX; split <;> (simp only [List.length_append]; omega)); clear hL4 hr4 hn4 hb4)
    | (go_at_call 26; refine Calls.mono (seal_n a4 L4 c4 (repX (dgs [2, E, S]) CD gn l) HL4.out w4 HR4.out HN4.out HLB4.out (HTB.out _ HB4.out)) ?_; rintro e1 w5 ⟨v5, rfl, hown5, hb5⟩; have HO5 : Hid (StrOut ((repX (dgs [2, E, S]) CD gn l) ++ sealL (repX (dgs [2, E, S]) CD gn l)) w4 (.returned v5) w5) := StrOut.own hown5 hb5; have HOW5 : Hid (Own w5 w4.heap.size v5 ((repX (dgs [2, E, S]) CD gn l) ++ sealL (repX (dgs [2, E, S]) CD gn l))) := hown5; clear hown5 hb5; obtain ⟨a5, L5, c5, hv5, -⟩ := HO5.out; cases hv5))
  go_ret2
  obtain ⟨a6, L6, c6, hv6, h1, h2, h3, h4⟩ := HO5.out
  cases hv6
  exact ⟨_, _, _, rfl, h1, Own.base HOW5.out HB4.out.size, below_next HB4.out h4⟩
theorem enc_3 (E S : Nat) (p i c : Int) (da : Option Addr) (dn dc : Nat) (cd : Int) (ga : Option Addr) (gn gc : Nat) (l : List Rg) (w : World) (hv : validR 3 (E : Nat) (S : Nat) p i c dn cd gn l)  (hn : gn = l.length) (hx : RdR w ga l) (hl : gn ≤ 8796093022208) (hc : gn ≤ gc) (ht : TabOk w) :
    Calls Tryz.prog 6 #[.agg #[.int .i64 3, .int .u64 (E : Nat), .int .u64 (S : Nat), .int .i64 p, .int .i64 i, .int .i64 c, .slice da dn dc, .int .i64 cd, .slice ga gn gc]] w fun e w' => EncOwn (dgs [3, E, S]) w e w' := by
  have HBX : Hid (∀ u, Below (w.heap.size + 1) (w.alloc (.cells #[.int .i64 3, .int .u64 (E : Nat), .int .u64 (S : Nat), .int .i64 p, .int .i64 i, .int .i64 c, .slice da dn dc, .int .i64 cd, .slice ga gn gc] 26 (0, 0))) u → u.rangeAt w.heap.size 0 [.int .i64 3, .int .u64 (E : Nat), .int .u64 (S : Nat), .int .i64 p, .int .i64 i, .int .i64 c, .slice da dn dc, .int .i64 cd, .slice ga gn gc]) := fun u hu => range_below (range_box w [.int .i64 3, .int .u64 (E : Nat), .int .u64 (S : Nat), .int .i64 p, .int .i64 i, .int .i64 c, .slice da dn dc, .int .i64 cd, .slice ga gn gc] 26) (by rw [heap_alloc_size1']; exact hu)
  have HV : Hid _ := fun (u : World) (hu : Below w.heap.size w u) => valid_t 3 (E : Nat) (S : Nat) p i c da dn dc cd ga gn gc l true ⟨fun _ => hv, fun _ => rfl⟩ u hn (hx.below hu) hl hc
  have HVV : Hid True := trivial
  have HES : Hid (E ≤ 281474976710655 ∧ S ≤ 281474976710655) := by have h1 := hv.1.1.2; have h2 := hv.1.2.2; unfold Hid; omega
  have HTB : Hid (∀ u, Below w.heap.size w u → TabOk u) := fun u hu => ht.below hu
  have HLT : Hid (∀ n ∈ [3, E, S], n < 18446744073709551616) := fun n hn => by simp at hn; have := HES.out; omega
  have hsf := fun (u : World) (a : Addr) (n : Nat) => run_store Tryz.prog u a (.func (.func n) #[] #[]) .plain rfl
  have HS0 : Hid (Below (w.heap.size + 1) (w.alloc (.cells #[.int .i64 3, .int .u64 (E : Nat), .int .u64 (S : Nat), .int .i64 p, .int .i64 i, .int .i64 c, .slice da dn dc, .int .i64 cd, .slice ga gn gc] 26 (0, 0))) (w.alloc (.cells #[.int .i64 3, .int .u64 (E : Nat), .int .u64 (S : Nat), .int .i64 p, .int .i64 i, .int .i64 c, .slice da dn dc, .int .i64 cd, .slice ga gn gc] 26 (0, 0)))) := Below.refl _ _
  have HW : Hid (∀ u, Below (w.heap.size + 1) (w.alloc (.cells #[.int .i64 3, .int .u64 (E : Nat), .int .u64 (S : Nat), .int .i64 p, .int .i64 i, .int .i64 c, .slice da dn dc, .int .i64 cd, .slice ga gn gc] 26 (0, 0))) u → Below w.heap.size w u) := fun u hu => (al (Below.refl _ w) _).trans (hu.mono (by omega))
  clear hv hn hx hl hc ht
  go_enter Tryz.func6, Tryz.ntmps6
  go_wp2_with (first
    | (refine wpList_load_g (by rfl) 26 _ rfl w.heap.size 0 (by rfl) [.int .i64 3, .int .u64 (E : Nat), .int .u64 (S : Nat), .int .i64 p, .int .i64 i, .int .i64 c, .slice da dn dc, .int .i64 cd, .slice ga gn gc] _ (by first | exact HBX.out _ HS3.out | exact HBX.out _ HS0.out) Tryz.underlying26 rfl info_un ?_)
    | (go_at_call 23; refine Calls.mono (HV.out _ (al (Below.refl _ _) _)) ?_; rintro e1 w1 ⟨rfl, hb1⟩; have HS1 : Hid (Below (w.heap.size + 1) (w.alloc (.cells #[.int .i64 3, .int .u64 (E : Nat), .int .u64 (S : Nat), .int .i64 p, .int .i64 i, .int .i64 c, .slice da dn dc, .int .i64 cd, .slice ga gn gc] 26 (0, 0))) w1) := (by have h9 := hb1; rw [heap_alloc_size1'] at h9; exact h9); have hk0 : w1.cell? ⟨w.heap.size, 0, none⟩ = some (.int .i64 3) := HBX.out _ HS1.out 0 _ rfl; clear hb1)
    | (go_at_call 24; refine Calls.mono (kindOf_t 3 kd3 true (.inr (.inr (.inl ⟨rfl, rfl, rfl⟩))) _) ?_; rintro e1 w2 ⟨rfl, hb2⟩; have HS2 : Hid (∀ o, Below (w.heap.size + 1) (w.alloc (.cells #[.int .i64 3, .int .u64 (E : Nat), .int .u64 (S : Nat), .int .i64 p, .int .i64 i, .int .i64 c, .slice da dn dc, .int .i64 cd, .slice ga gn gc] 26 (0, 0))) (w2.alloc o)) := (fun o => (HS1.out.trans (hb2.mono (by have := HS1.out.size; simpa using this))).alloc (by have h8 := HS1.out.size; have h9 := hb2.size; simp at h8; omega) o); have h20 : ∀ o, (w2.alloc o).cell? ⟨w.heap.size, 0, none⟩ = some (.int .i64 3) := (fun o => HBX.out _ (HS2.out o) 0 _ rfl); have h21 : ∀ o, (w2.alloc o).cell? ⟨w.heap.size, 1, none⟩ = some (.int .u64 (E : Nat)) := (fun o => HBX.out _ (HS2.out o) 1 _ rfl); have h22 : ∀ o, (w2.alloc o).cell? ⟨w.heap.size, 2, none⟩ = some (.int .u64 (S : Nat)) := (fun o => HBX.out _ (HS2.out o) 2 _ rfl); clear hb2 hk0)
    | (go_at_call 25; refine Calls.mono (lay_t none 0 0 [] rfl (w2.heap.size + 1) 3 3 [3, E, S] rfl ((w2.alloc (.cells #[.int .i64 3, .func (.func 70) #[] #[], .func (.func 71) #[] #[], .func (.func 72) #[] #[]] 54 (0, 0))).alloc (.cells #[.int .u64 3, .int .u64 (E : Nat), .int .u64 (S : Nat)] 22 (0, 0))) (Rd.nil _ _) (fun _ => rfl) (by have h9 := rdn_lit (w2.alloc (.cells #[.int .i64 3, .func (.func 70) #[] #[], .func (.func 71) #[] #[], .func (.func 72) #[] #[]] 54 (0, 0))) #[.int .u64 3, .int .u64 (E : Nat), .int .u64 (S : Nat)] 22 [3, E, S] rfl; rw [heap_alloc_size1'] at h9; exact h9) HLT.out (by decide) (by decide)) ?_; rintro e1 w3 ⟨a3, L3, c3, rfl, hL3, hr3, hn3, hb3⟩; have HL3 : Hid (L3 = (dgs [3, E, S]).length) := hL3; have HR3 : Hid (Rd w3 a3 (dgs [3, E, S])) := hr3; have HN3 : Hid (a3 = none → c3 = 0) := hn3; have HS3 : Hid (Below (w.heap.size + 1) (w.alloc (.cells #[.int .i64 3, .int .u64 (E : Nat), .int .u64 (S : Nat), .int .i64 p, .int .i64 i, .int .i64 c, .slice da dn dc, .int .i64 cd, .slice ga gn gc] 26 (0, 0))) w3) := (((HS2.out _).alloc (by have h9 := (HS2.out (.cells #[.int .i64 3, .func (.func 70) #[] #[], .func (.func 71) #[] #[], .func (.func 72) #[] #[]] 54 (0, 0))).size; simpa using h9) _).trans (hb3.mono (by have h9 := (HS2.out (.cells #[.int .i64 3, .func (.func 70) #[] #[], .func (.func 71) #[] #[], .func (.func 72) #[] #[]] 54 (0, 0))).size; simp at h9 ⊢; omega))); have HB3 : Hid (Below w.heap.size w w3) := HW.out _ HS3.out; have hkf : w3.cell? ⟨w2.heap.size, 2, none⟩ = some (.func (.func 71) #[] #[]) := (hb3.cell (p := ⟨w2.heap.size, 2, none⟩) (by simp; omega)).trans (((al (Below.refl _ _) _).cell (p := ⟨w2.heap.size, 2, none⟩) (by simp)).trans (range_box w2 [.int .i64 3, .func (.func 70) #[] #[], .func (.func 71) #[] #[], .func (.func 72) #[] #[]] 54 2 _ rfl)); have HLB : Hid (L3 ≤ 30) := (by have h3 := dgs_len [3, E, S] HLT.out; have h4 := HL3.out; simp only [List.length_cons, List.length_nil] at h3; unfold Hid; omega); clear hL3 hr3 hn3 hb3)
    | (go_at_call 71; refine Calls.mono (layCancel_t a3 L3 c3 (dgs [3, E, S]) HL3.out 3 (E : Nat) (S : Nat) p i c da dn dc cd ga gn gc _ HR3.out HN3.out) ?_; rintro e1 w4 ⟨a4, L4, c4, rfl, hL4, hr4, hn4, hb4⟩; have HL4 : Hid (L4 = (dgs [3, E, S]).length) := hL4; have HR4 : Hid (Rd w4 a4 (dgs [3, E, S])) := hr4; have HN4 : Hid (a4 = none → c4 = 0) := hn4; have HB4 : Hid (Below w.heap.size w w4) := below_next HB3.out hb4; have HLB4 : Hid (L4 + 4 ≤ 140737488355328) := (by have h3 := dgs_len [3, E, S] HLT.out; rw [show L4 = (dgs [3, E, S]).length from HL4.out]; unfold Hid; simp only [List.length_cons, List.length_nil] at h3; omega); clear hL4 hr4 hn4 hb4)
    | (go_at_call 26; refine Calls.mono (seal_n a4 L4 c4 (dgs [3, E, S]) HL4.out w4 HR4.out HN4.out HLB4.out (HTB.out _ HB4.out)) ?_; rintro e1 w5 ⟨v5, rfl, hown5, hb5⟩; have HO5 : Hid (StrOut ((dgs [3, E, S]) ++ sealL (dgs [3, E, S])) w4 (.returned v5) w5) := StrOut.own hown5 hb5; have HOW5 : Hid (Own w5 w4.heap.size v5 ((dgs [3, E, S]) ++ sealL (dgs [3, E, S]))) := hown5; clear hown5 hb5; obtain ⟨a5, L5, c5, hv5, -⟩ := HO5.out; cases hv5))
  go_ret2
  obtain ⟨a6, L6, c6, hv6, h1, h2, h3, h4⟩ := HO5.out
  cases hv6
  exact ⟨_, _, _, rfl, h1, Own.base HOW5.out HB4.out.size, below_next HB4.out h4⟩
end
end Go.Proofs.YtplncfahpdmcoaaGreatDoor
namespace Go.Proofs.YtplncfahpdmcoaaGreatDoor
set_option linter.unusedVariables false
set_option linter.unusedSimpArgs false
open Go.RowKit
theorem crcN_snoc (xs : List UInt8) (x : UInt8) : crcN (xs ++ [x]) = crcB (crcN xs) x := by simp [crcN, List.foldl_append]
theorem u32_and1 (a : Nat) (h : a < 4294967296) : bits .and .u32 (a : Int) 1 = ((a % 2 : Nat) : Int) := by
  have h1 := u32_and_nat a 1 h (by decide)
  rw [nat_mask1] at h1
  exact h1
/-- one step, as the reference says it -/
theorem stp_ref (c b : Nat) (hb : b < 2) : stp (c ^^^ b) = if ((c % 2 : Nat) : Int) != ((b : Nat) : Int) then c / 2 ^^^ poly else c / 2 := by
  unfold stp
  rw [xor_odd, xor_half, show b / 2 = 0 from by omega, Nat.xor_zero]
  by_cases h : c % 2 = b
  · rw [if_neg (by omega), if_neg (by simp; omega)]
  · rw [if_pos (by omega), if_pos (by simp; omega)]
set_option maxRecDepth 20000 in
set_option maxHeartbeats 800000 in
theorem refCRC_any (ao : Option Addr) (cap : Nat) (xs : List UInt8) (w : World) (hx : Rd w ao xs) (hl : xs.length ≤ 140737488355328) :
    Calls Tryz.prog 87 #[.slice ao xs.length cap] w fun e w' => e = .returned (.int .u32 (crcS xs : Nat)) ∧ w' = w := by
  have HE : Hid (bits .xor .u32 ((crcN xs : Nat) : Int) 4294967295 = ((crcS xs : Nat) : Int)) := by
    have h1 := u32_xor_nat (crcN xs) 4294967295 (crcN_lt xs) (by decide)
    rw [Nat.xor_comm] at h1
    exact h1
  go_enter Tryz.func87, Tryz.ntmps87
  go_wp2
  go_loop [3, 4] (fun c i => ∃ k : Nat, k ≤ xs.length ∧ i = .int .i64 k ∧ c = .int .u32 (crcN (xs.take k) : Nat)) (fun _ i => xs.length - (intOf i).toNat)
  case atStart => exact ⟨0, Nat.zero_le _, rfl, rfl⟩
  case round =>
    obtain ⟨k, hk, rfl, rfl⟩ := hrel
    have hz := crcN_lt (xs.take k)
    by_cases hlt : k < xs.length
    · obtain ⟨b, o, rfl, hc⟩ := hx (by omega)
      have hc1 := hc k hlt
      have HS : Hid (crcN (xs.take (k + 1)) = bitB xs[k].toNat (crcN (xs.take k)) 8) := by
        unfold Hid
        rw [take_snoc xs k hlt, crcN_snoc, bitB_8]
      clear hc hx
      generalize crcN (xs.take k) = z at *
      go_wp2
      go_loop [3, 5] (fun c i => ∃ j : Nat, j ≤ 8 ∧ i = .int .i64 j ∧ c = .int .u32 (bitB xs[k].toNat z j : Nat)) (fun _ i => 8 - (intOf i).toNat)
      case atStart => exact ⟨0, Nat.zero_le _, rfl, rfl⟩
      case round =>
        obtain ⟨j, hj, rfl, rfl⟩ := hrel
        by_cases hlt2 : j < 8
        · have hbl := bitB_lt xs[k].toNat z hz j
          have HB : Hid (bitB xs[k].toNat z (j + 1) = stp (bitB xs[k].toNat z j ^^^ (xs[k].toNat / 2 ^ j % 2))) := rfl
          generalize bitB xs[k].toNat z j = c at *
          have hx8 := xs[k].toNat_lt
          obtain ⟨q, hq⟩ : ∃ q : Nat, q = xs[k].toNat / 2 ^ j := ⟨_, rfl⟩
          have hqI : (xs[k].toNat : Int) / 2 ^ j = (q : Int) := by rw [hq]; simp
          have hq256 : q < 256 := by rw [hq]; exact Nat.lt_of_le_of_lt (Nat.div_le_self _ _) (by omega)
          rw [← hq, stp_ref _ _ (by omega)] at HB
          clear hq
          have ha1 := u32_and1 c hbl
          have ha2 := u32_and1 q (by omega)
          have hxp : bits .xor .u32 ((c : Int) / 2) 3988292384 = ((c / 2 ^^^ poly : Nat) : Int) := u32_xor_nat (c / 2) 3988292384 (by omega) (by decide)
          by_cases hne : (((c % 2 : Nat) : Int) != ((q % 2 : Nat) : Int)) = true
          · rw [if_pos hne] at HB
            have hneI : ((c : Int) % 2 != (q : Int) % 2) = true := hne
            clear hne
            go_wp2
            go_round
            case rel => exact ⟨j + 1, by omega, by go_num, by rw [HB.out]⟩
            case measure => simp [intOf]; omega
          · rw [if_neg hne] at HB
            have hneI : ((c : Int) % 2 != (q : Int) % 2) = false := by
              have := Bool.eq_false_iff.2 hne
              exact this
            clear hne
            go_wp2
            go_round
            case rel => exact ⟨j + 1, by omega, by go_num, by rw [HB.out]; go_num⟩
            case measure => simp [intOf]; omega
        · obtain rfl : j = 8 := by omega
          go_wp2
          go_round
          case rel => exact ⟨k + 1, by omega, by go_num, by rw [HS.out]⟩
          case measure => simp [intOf]; omega
    · go_wp2
      go_ret
      exact ⟨by rw [← HE.out, List.take_of_length_le (by omega)]; rfl, rfl⟩
set_option maxRecDepth 20000 in
set_option maxHeartbeats 400000 in
theorem refseal_any (ao : Option Addr) (cap : Nat) (xs : List UInt8) (w : World) (hx : Rd w ao xs) (hl : xs.length ≤ 140737488355328) :
    Calls Tryz.prog 63 #[.slice ao xs.length cap] w fun e w' => e = .returned (.slice (some ⟨w.heap.size, 0, none⟩) 4 4) ∧ Own w' w.heap.size (.slice (some ⟨w.heap.size, 0, none⟩) 4 4) (sealL xs) ∧ Below w.heap.size w w' ∧ w.heap.size < w'.heap.size := by
  go_enter Tryz.func63, Tryz.ntmps63
  go_wp2_with fail
  refine (refCRC_any ao cap xs w hx hl).mono ?_
  rintro e w1 ⟨rfl, hw⟩
  subst hw
  have hc := crcS_lt xs
  go_wp2
  go_ret
  exact ⟨rfl, own_lit w1 _ (sealL xs) (by rw [bv_seal]) (by simp [sealL, maxLen]), (Below.refl _ _).alloc (Nat.le_refl _) _, by simp⟩
set_option maxRecDepth 20000 in
set_option maxHeartbeats 400000 in
theorem refSeal_any (ao : Option Addr) (cap : Nat) (xs : List UInt8) (w : World) (hx : Rd w ao xs) (hnil : ao = none → cap = 0) (hl : xs.length + 4 ≤ 140737488355328) :
    Calls Tryz.prog 43 #[.slice ao xs.length cap] w fun e w' => ∃ v, e = .returned v ∧ Own w' w.heap.size v (xs ++ sealL xs) ∧ Below w.heap.size w w' := by
  have HN : Hid (ao = none → cap = 0) := hnil
  clear hnil
  have h0 : Own w w.heap.size (.slice none 0 0) [] := World.ownsRow_nil _ _ _ _
  go_enter Tryz.func43, Tryz.ntmps43
  go_wp2_with (at_builtin; refine wp_app rfl _ _ rfl w.heap.size (.slice none 0 0) [] xs _ _ rfl h0 rfl hx HN.out (by simp; omega) (Nat.le_refl _) ?_; intro v2 w2 hown2 hg2)
  have hb2 : Below w.heap.size w w2 := (Below.refl _ w).grown hg2 (Nat.le_refl _) (fun k hk => by cases hk)
  go_wp2_with fail
  refine (refseal_any ao cap xs w2 (hx.below hb2) (by omega)).mono ?_
  rintro e w3 ⟨rfl, hown3, hb3, hs3⟩
  have hown2' := hown2.below hb3
  obtain ⟨aq, cq, hv, -, -, -, hr3, -⟩ := hown3.val
  simp only [Value.slice.injEq] at hv
  rw [← hv.1] at hr3
  clear hv
  have hz := hb2.size
  go_wp2_with (at_builtin; refine wp_app rfl _ _ rfl w.heap.size v2 ([] ++ xs) (sealL xs) _ _ rfl hown2' rfl hr3 (fun h => by cases h) (by simp [sealL]; omega) (by omega) ?_; intro v4 w4 hown4 hg4)
  go_ret
  refine ⟨_, rfl, by simpa using hown4, (hb2.trans (hb3.mono hz)).grown hg4 (by omega) (fun k hk => (World.ownsRow.lt hown2' k hk).1)⟩
theorem refCRC_n (ao : Option Addr) (n cap : Nat) (xs : List UInt8) (hn : n = xs.length) (w : World) (hx : Rd w ao xs) (hl : n ≤ 140737488355328) :
    Calls Tryz.prog 87 #[.slice ao n cap] w fun e w' => e = .returned (.int .u32 (crcS xs : Nat)) ∧ w' = w := by subst hn; exact refCRC_any ao cap xs w hx hl
theorem refSeal_n (ao : Option Addr) (n cap : Nat) (xs : List UInt8) (hn : n = xs.length) (w : World) (hx : Rd w ao xs) (hnil : ao = none → cap = 0) (hl : n + 4 ≤ 140737488355328) :
    Calls Tryz.prog 43 #[.slice ao n cap] w fun e w' => ∃ v, e = .returned v ∧ Own w' w.heap.size v (xs ++ sealL xs) ∧ Below w.heap.size w w' := by subst hn; exact refSeal_any ao cap xs w hx hnil hl
end Go.Proofs.YtplncfahpdmcoaaGreatDoor
namespace Go.Proofs.YtplncfahpdmcoaaGreatDoor
set_option linter.unusedVariables false
set_option linter.unusedSimpArgs false
open Go.RowKit
theorem dg_byte (n : Nat) (h : n < 128) : dg n = [UInt8.ofNat n] := by
  unfold dg
  rw [show n / 128 = 0 by omega, hiD_zero, show n % 128 = n by omega]
  rfl
theorem dgs_bytes : ∀ (ns : List Nat), (∀ n ∈ ns, n < 128) → dgs ns = ns.map UInt8.ofNat
  | [], _ => rfl
  | x :: ns, h => by
    have h1 := dgs_bytes ns (fun n hn => h n (by simp [hn]))
    unfold dgs at *
    rw [List.flatMap_cons, h1, dg_byte x (h x (by simp))]
    rfl
theorem rd_u8 (w : World) (ns : List Nat) (h : ∀ n ∈ ns, n < 256) (C : Array Value) (hC : C.toList = ns.map fun n => Value.int .u8 (n : Nat)) : Rd (w.alloc (.cells C 5 (0, 0))) (some ⟨w.heap.size, 0, none⟩) (ns.map UInt8.ofNat) := by
  refine rd_lit w _ rfl C 5 (0, 0) _ ?_
  rw [hC]
  unfold bv
  rw [List.map_map]
  apply List.map_congr_left
  intro n hn
  have := h n hn
  simp only [Function.comp, UInt8.toNat_ofNat']
  congr 1
  omega
theorem below_row {B : Nat} {W w w' : World} {v : Value} {xs : List UInt8} (hb : Below B W w) (ho : Own w B v xs) (hB : B ≤ W.heap.size) (hg : w.grownBy w' v.ownBlock) : Below B W w' := hb.grown hg (Nat.le_trans hB hb.size) (fun k hk => (World.ownsRow.lt ho k hk).1)
section
set_option maxRecDepth 20000
set_option maxHeartbeats 6400000
theorem renc_bad (k e s p i c : Int) (da : Option Addr) (dn dc : Nat) (cd : Int) (ga : Option Addr) (gn gc : Nat) (l : List Rg) (hv : ¬ validR k e s p i c dn cd gn l) (w : World) (hn : gn = l.length) (hx : RdR w ga l) (hl : gn ≤ 8796093022208) :
    Calls Tryz.prog 19 #[.agg #[.int .i64 k, .int .u64 e, .int .u64 s, .int .i64 p, .int .i64 i, .int .i64 c, .slice da dn dc, .int .i64 cd, .slice ga gn gc]] w fun e w' => e = .returned (.tuple #[.slice none 0 0, .int .i64 30]) ∧ Below w.heap.size w w' := by
  have HBX : Hid _ := range_box w [.int .i64 k, .int .u64 e, .int .u64 s, .int .i64 p, .int .i64 i, .int .i64 c, .slice da dn dc, .int .i64 cd, .slice ga gn gc] 26
  have HV : Hid _ := fun (u : World) (hu : Below w.heap.size w u) => rvalid_t k e s p i c da dn dc cd ga gn gc l false ⟨(fun h => by cases h), fun h => absurd h hv⟩ u hn (hx.below hu) hl
  clear hv hn hx hl
  go_enter Tryz.func19, Tryz.ntmps19
  go_wp2_with (first
    | (refine wpList_load_g (by rfl) 26 _ rfl w.heap.size 0 (by rfl) [.int .i64 k, .int .u64 e, .int .u64 s, .int .i64 p, .int .i64 i, .int .i64 c, .slice da dn dc, .int .i64 cd, .slice ga gn gc] _ HBX.out Tryz.underlying26 rfl info_un ?_)
    | (go_at_call 4; refine Calls.mono (HV.out _ (al (Below.refl _ _) _)) ?_; rintro e1 w1 ⟨rfl, hb1⟩; have HB1 : Hid (Below w.heap.size w w1) := below_next (al (Below.refl _ _) _) hb1; simp only [if_false, Bool.false_eq_true]))
  go_ret2
  exact ⟨rfl, HB1.out⟩
theorem renc_1 (E S P I C : Nat) (da : Option Addr) (dn dc : Nat) (ds : List UInt8) (cd : Int) (ga : Option Addr) (gn gc : Nat) (l : List Rg) (w : World) (hv : validR 1 (E : Nat) (S : Nat) (P : Nat) (I : Nat) (C : Nat) dn cd gn l) (hdn : dn = ds.length) (hd : Rd w da ds) (hdnil : da = none → dc = 0) (hn : gn = l.length) (hx : RdR w ga l) (hl : gn ≤ 8796093022208) :
    Calls Tryz.prog 19 #[.agg #[.int .i64 1, .int .u64 (E : Nat), .int .u64 (S : Nat), .int .i64 (P : Nat), .int .i64 (I : Nat), .int .i64 (C : Nat), .slice da dn dc, .int .i64 cd, .slice ga gn gc]] w fun e w' => EncOut (dgs [1, E, S] ++ dgs [P, I, C] ++ (dg ds.length ++ ds)) w e w' := by
  have HBX : Hid (∀ u, Below (w.heap.size + 1) (w.alloc (.cells #[.int .i64 1, .int .u64 (E : Nat), .int .u64 (S : Nat), .int .i64 (P : Nat), .int .i64 (I : Nat), .int .i64 (C : Nat), .slice da dn dc, .int .i64 cd, .slice ga gn gc] 26 (0, 0))) u → u.rangeAt w.heap.size 0 [.int .i64 1, .int .u64 (E : Nat), .int .u64 (S : Nat), .int .i64 (P : Nat), .int .i64 (I : Nat), .int .i64 (C : Nat), .slice da dn dc, .int .i64 cd, .slice ga gn gc]) := fun u hu => range_below (range_box w [.int .i64 1, .int .u64 (E : Nat), .int .u64 (S : Nat), .int .i64 (P : Nat), .int .i64 (I : Nat), .int .i64 (C : Nat), .slice da dn dc, .int .i64 cd, .slice ga gn gc] 26) (by rw [heap_alloc_size1']; exact hu)
  have HV : Hid _ := fun (u : World) (hu : Below w.heap.size w u) => rvalid_t 1 (E : Nat) (S : Nat) (P : Nat) (I : Nat) (C : Nat) da dn dc cd ga gn gc l true ⟨fun _ => hv, fun _ => rfl⟩ u hn (hx.below hu) hl
  have HVV : Hid ((P ≤ 64 ∧ I ≤ 64 ∧ C ≤ 64) ∧ dn ≤ 1024) := by unfold Hid; obtain ⟨⟨hE, hS⟩, ⟨-, d1, d2, d3, d4, d5⟩ | h | h⟩ := hv; (· omega); (· have := h.1; omega); (· have := h.1; omega)
  have HES : Hid (E ≤ 281474976710655 ∧ S ≤ 281474976710655) := by have h1 := hv.1.1.2; have h2 := hv.1.2.2; unfold Hid; omega
  have HD : Hid (dn = ds.length ∧ (∀ u, Below w.heap.size w u → Rd u da ds) ∧ (da = none → dc = 0)) := ⟨hdn, fun u hu => hd.below hu, hdnil⟩
  have hbP : IntKind.u8.wrap (P : Int) = (P : Int) := by rw [IntKind.wrap_u8]; have := HVV.out; omega
  have hbI : IntKind.u8.wrap (I : Int) = (I : Int) := by rw [IntKind.wrap_u8]; have := HVV.out; omega
  have hbC : IntKind.u8.wrap (C : Int) = (C : Int) := by rw [IntKind.wrap_u8]; have := HVV.out; omega
  have HPIC : Hid (dgs [P, I, C] = [P, I, C].map UInt8.ofNat) := dgs_bytes _ (fun n hn => by simp at hn; have := HVV.out; omega)
  have HSW0 : Hid (Below (w.heap.size + 1) (w.alloc (.cells #[.int .i64 1, .int .u64 (E : Nat), .int .u64 (S : Nat), .int .i64 (P : Nat), .int .i64 (I : Nat), .int .i64 (C : Nat), .slice da dn dc, .int .i64 cd, .slice ga gn gc] 26 (0, 0))) (w.alloc (.cells #[.int .i64 1, .int .u64 (E : Nat), .int .u64 (S : Nat), .int .i64 (P : Nat), .int .i64 (I : Nat), .int .i64 (C : Nat), .slice da dn dc, .int .i64 cd, .slice ga gn gc] 26 (0, 0)))) := Below.refl _ _
  have HW : Hid (∀ u, Below (w.heap.size + 1) (w.alloc (.cells #[.int .i64 1, .int .u64 (E : Nat), .int .u64 (S : Nat), .int .i64 (P : Nat), .int .i64 (I : Nat), .int .i64 (C : Nat), .slice da dn dc, .int .i64 cd, .slice ga gn gc] 26 (0, 0))) u → Below w.heap.size w u) := fun u hu => (al (Below.refl _ w) _).trans (hu.mono (by omega))
  have HW0s : Hid (w.heap.size + 1 ≤ (w.alloc (.cells #[.int .i64 1, .int .u64 (E : Nat), .int .u64 (S : Nat), .int .i64 (P : Nat), .int .i64 (I : Nat), .int .i64 (C : Nat), .slice da dn dc, .int .i64 cd, .slice ga gn gc] 26 (0, 0))).heap.size) := by unfold Hid; simp
  have HLE : Hid ((dg 1).length ≤ 10 ∧ (dg E).length ≤ 10 ∧ (dg S).length ≤ 10) := ⟨(dg_len _ (by decide)).2, (dg_len _ (by have := HES.out; omega)).2, (dg_len _ (by have := HES.out; omega)).2⟩
  clear hv hn hx hl hdn hd hdnil
  go_enter Tryz.func19, Tryz.ntmps19
  go_wp2_with (first
    | (refine wpList_load_g (by rfl) 26 _ rfl w.heap.size 0 (by rfl) [.int .i64 1, .int .u64 (E : Nat), .int .u64 (S : Nat), .int .i64 (P : Nat), .int .i64 (I : Nat), .int .i64 (C : Nat), .slice da dn dc, .int .i64 cd, .slice ga gn gc] _ (HBX.out _ HSW0.out) Tryz.underlying26 rfl info_un ?_)
    | (go_at_call 4; refine Calls.mono (HV.out _ (al (Below.refl _ _) _)) ?_; rintro e1 w1 ⟨rfl, hb1⟩; have HSw1 : Hid (Below (w.heap.size + 1) (w.alloc (.cells #[.int .i64 1, .int .u64 (E : Nat), .int .u64 (S : Nat), .int .i64 (P : Nat), .int .i64 (I : Nat), .int .i64 (C : Nat), .slice da dn dc, .int .i64 cd, .slice ga gn gc] 26 (0, 0))) w1) := (by have h9 := hb1; rw [heap_alloc_size1'] at h9; exact h9); have hw10 : w1.cell? ⟨w.heap.size, 0, none⟩ = some (.int .i64 1) := HBX.out _ HSw1.out 0 _ rfl; have hw11 : w1.cell? ⟨w.heap.size, 1, none⟩ = some (.int .u64 (E : Nat)) := HBX.out _ HSw1.out 1 _ rfl; have hw12 : w1.cell? ⟨w.heap.size, 2, none⟩ = some (.int .u64 (S : Nat)) := HBX.out _ HSw1.out 2 _ rfl; have hw13 : w1.cell? ⟨w.heap.size, 3, none⟩ = some (.int .i64 (P : Nat)) := HBX.out _ HSw1.out 3 _ rfl; have hw14 : w1.cell? ⟨w.heap.size, 4, none⟩ = some (.int .i64 (I : Nat)) := HBX.out _ HSw1.out 4 _ rfl; have hw15 : w1.cell? ⟨w.heap.size, 5, none⟩ = some (.int .i64 (C : Nat)) := HBX.out _ HSw1.out 5 _ rfl; have hw16 : w1.cell? ⟨w.heap.size, 6, none⟩ = some (.slice da dn dc) := HBX.out _ HSw1.out 6 _ rfl; have hw17 : w1.cell? ⟨w.heap.size, 7, none⟩ = some (.int .i64 cd) := HBX.out _ HSw1.out 7 _ rfl; have hw18 : w1.cell? ⟨w.heap.size, 8, none⟩ = some (.slice ga gn gc) := HBX.out _ HSw1.out 8 _ rfl; clear hb1)
    | (go_at_call_of 41 (Value.int .u64 1); refine Calls.mono (refDigits_any 1 _ (by decide)) ?_; rintro e1 w2 ⟨v2, rfl, hown2, hb2⟩; have HSw2 : Hid (Below (w.heap.size + 1) (w.alloc (.cells #[.int .i64 1, .int .u64 (E : Nat), .int .u64 (S : Nat), .int .i64 (P : Nat), .int .i64 (I : Nat), .int .i64 (C : Nat), .slice da dn dc, .int .i64 cd, .slice ga gn gc] 26 (0, 0))) w2) := HSw1.out.trans (hb2.mono (Nat.le_trans HW0s.out HSw1.out.size)); have HO2 : Hid (Own w2 (w.heap.size + 1) v2 (dg 1)) := hown2.base (Nat.le_trans HW0s.out HSw1.out.size); have hw20 : w2.cell? ⟨w.heap.size, 0, none⟩ = some (.int .i64 1) := HBX.out _ HSw2.out 0 _ rfl; have hw21 : w2.cell? ⟨w.heap.size, 1, none⟩ = some (.int .u64 (E : Nat)) := HBX.out _ HSw2.out 1 _ rfl; have hw22 : w2.cell? ⟨w.heap.size, 2, none⟩ = some (.int .u64 (S : Nat)) := HBX.out _ HSw2.out 2 _ rfl; have hw23 : w2.cell? ⟨w.heap.size, 3, none⟩ = some (.int .i64 (P : Nat)) := HBX.out _ HSw2.out 3 _ rfl; have hw24 : w2.cell? ⟨w.heap.size, 4, none⟩ = some (.int .i64 (I : Nat)) := HBX.out _ HSw2.out 4 _ rfl; have hw25 : w2.cell? ⟨w.heap.size, 5, none⟩ = some (.int .i64 (C : Nat)) := HBX.out _ HSw2.out 5 _ rfl; have hw26 : w2.cell? ⟨w.heap.size, 6, none⟩ = some (.slice da dn dc) := HBX.out _ HSw2.out 6 _ rfl; have hw27 : w2.cell? ⟨w.heap.size, 7, none⟩ = some (.int .i64 cd) := HBX.out _ HSw2.out 7 _ rfl; have hw28 : w2.cell? ⟨w.heap.size, 8, none⟩ = some (.slice ga gn gc) := HBX.out _ HSw2.out 8 _ rfl; clear hown2 hb2)
    | (go_at_call_of 41 (Value.int .u64 (E : Nat)); refine Calls.mono (refDigits_any E _ (by have := HES.out; omega)) ?_; rintro e1 w3 ⟨v3, rfl, hown3, hb3⟩; have HSw3 : Hid (Below (w.heap.size + 1) (w.alloc (.cells #[.int .i64 1, .int .u64 (E : Nat), .int .u64 (S : Nat), .int .i64 (P : Nat), .int .i64 (I : Nat), .int .i64 (C : Nat), .slice da dn dc, .int .i64 cd, .slice ga gn gc] 26 (0, 0))) w3) := HSw2.out.trans (hb3.mono (Nat.le_trans HW0s.out HSw2.out.size)); have HO3 : Hid (Own w3 (w.heap.size + 1) v2 (dg 1)) := Own.below HO2.out hb3; obtain ⟨a3, c3, hv3, -, -, hn3, hr3, -⟩ := hown3.val; subst hv3; have HR3 : Hid (Rd w3 a3 (dg E)) := hr3; have HN3 : Hid (a3 = none → c3 = 0) := hn3; clear hown3 hb3 hr3 hn3)
    | (at_builtin; refine wp_app rfl _ _ rfl (w.heap.size + 1) v2 (dg 1) (dg E) a3 c3 rfl HO3.out rfl HR3.out HN3.out (by have := HLE.out; omega) (Nat.le_trans HW0s.out HSw3.out.size) ?_; intro v4 w4 hown4 hg4; have HSw4 : Hid (Below (w.heap.size + 1) (w.alloc (.cells #[.int .i64 1, .int .u64 (E : Nat), .int .u64 (S : Nat), .int .i64 (P : Nat), .int .i64 (I : Nat), .int .i64 (C : Nat), .slice da dn dc, .int .i64 cd, .slice ga gn gc] 26 (0, 0))) w4) := below_row HSw3.out HO3.out HW0s.out hg4; have HO4 : Hid (Own w4 (w.heap.size + 1) v4 (dg 1 ++ dg E)) := hown4; have hw40 : w4.cell? ⟨w.heap.size, 0, none⟩ = some (.int .i64 1) := HBX.out _ HSw4.out 0 _ rfl; have hw41 : w4.cell? ⟨w.heap.size, 1, none⟩ = some (.int .u64 (E : Nat)) := HBX.out _ HSw4.out 1 _ rfl; have hw42 : w4.cell? ⟨w.heap.size, 2, none⟩ = some (.int .u64 (S : Nat)) := HBX.out _ HSw4.out 2 _ rfl; have hw43 : w4.cell? ⟨w.heap.size, 3, none⟩ = some (.int .i64 (P : Nat)) := HBX.out _ HSw4.out 3 _ rfl; have hw44 : w4.cell? ⟨w.heap.size, 4, none⟩ = some (.int .i64 (I : Nat)) := HBX.out _ HSw4.out 4 _ rfl; have hw45 : w4.cell? ⟨w.heap.size, 5, none⟩ = some (.int .i64 (C : Nat)) := HBX.out _ HSw4.out 5 _ rfl; have hw46 : w4.cell? ⟨w.heap.size, 6, none⟩ = some (.slice da dn dc) := HBX.out _ HSw4.out 6 _ rfl; have hw47 : w4.cell? ⟨w.heap.size, 7, none⟩ = some (.int .i64 cd) := HBX.out _ HSw4.out 7 _ rfl; have hw48 : w4.cell? ⟨w.heap.size, 8, none⟩ = some (.slice ga gn gc) := HBX.out _ HSw4.out 8 _ rfl; clear hown4 hg4)
    | (go_at_call_of 41 (Value.int .u64 (S : Nat)); refine Calls.mono (refDigits_any S _ (by have := HES.out; omega)) ?_; rintro e1 w5 ⟨v5, rfl, hown5, hb5⟩; have HSw5 : Hid (Below (w.heap.size + 1) (w.alloc (.cells #[.int .i64 1, .int .u64 (E : Nat), .int .u64 (S : Nat), .int .i64 (P : Nat), .int .i64 (I : Nat), .int .i64 (C : Nat), .slice da dn dc, .int .i64 cd, .slice ga gn gc] 26 (0, 0))) w5) := HSw4.out.trans (hb5.mono (Nat.le_trans HW0s.out HSw4.out.size)); have HO5 : Hid (Own w5 (w.heap.size + 1) v4 (dg 1 ++ dg E)) := Own.below HO4.out hb5; obtain ⟨a5, c5, hv5, -, -, hn5, hr5, -⟩ := hown5.val; subst hv5; have HR5 : Hid (Rd w5 a5 (dg S)) := hr5; have HN5 : Hid (a5 = none → c5 = 0) := hn5; clear hown5 hb5 hr5 hn5)
    | (at_builtin; refine wp_app rfl _ _ rfl (w.heap.size + 1) v4 (dg 1 ++ dg E) (dg S) a5 c5 rfl HO5.out rfl HR5.out HN5.out (by have := HLE.out; rw [List.length_append]; omega) (Nat.le_trans HW0s.out HSw5.out.size) ?_; intro v6 w6 hown6 hg6; have HSw6 : Hid (Below (w.heap.size + 1) (w.alloc (.cells #[.int .i64 1, .int .u64 (E : Nat), .int .u64 (S : Nat), .int .i64 (P : Nat), .int .i64 (I : Nat), .int .i64 (C : Nat), .slice da dn dc, .int .i64 cd, .slice ga gn gc] 26 (0, 0))) w6) := below_row HSw5.out HO5.out HW0s.out hg6; have HO6 : Hid (Own w6 (w.heap.size + 1) v6 (dgs [1, E, S])) := (by have h9 := hown6; unfold Hid dgs; simpa [List.append_assoc] using h9); have HL6 : Hid ((dgs [1, E, S]).length ≤ 30) := (by have h9 := HLE.out; unfold Hid dgs; simp [List.length_append]; omega); have hw60 : w6.cell? ⟨w.heap.size, 0, none⟩ = some (.int .i64 1) := HBX.out _ HSw6.out 0 _ rfl; have hw61 : w6.cell? ⟨w.heap.size, 1, none⟩ = some (.int .u64 (E : Nat)) := HBX.out _ HSw6.out 1 _ rfl; have hw62 : w6.cell? ⟨w.heap.size, 2, none⟩ = some (.int .u64 (S : Nat)) := HBX.out _ HSw6.out 2 _ rfl; have hw63 : w6.cell? ⟨w.heap.size, 3, none⟩ = some (.int .i64 (P : Nat)) := HBX.out _ HSw6.out 3 _ rfl; have hw64 : w6.cell? ⟨w.heap.size, 4, none⟩ = some (.int .i64 (I : Nat)) := HBX.out _ HSw6.out 4 _ rfl; have hw65 : w6.cell? ⟨w.heap.size, 5, none⟩ = some (.int .i64 (C : Nat)) := HBX.out _ HSw6.out 5 _ rfl; have hw66 : w6.cell? ⟨w.heap.size, 6, none⟩ = some (.slice da dn dc) := HBX.out _ HSw6.out 6 _ rfl; have hw67 : w6.cell? ⟨w.heap.size, 7, none⟩ = some (.int .i64 cd) := HBX.out _ HSw6.out 7 _ rfl; have hw68 : w6.cell? ⟨w.heap.size, 8, none⟩ = some (.slice ga gn gc) := HBX.out _ HSw6.out 8 _ rfl; clear hown6 hg6)
    | (at_builtin; refine wp_app rfl _ _ rfl (w.heap.size + 1) v6 (dgs [1, E, S]) ([P, I, C].map UInt8.ofNat) (some ⟨w6.heap.size, 0, none⟩) 3 rfl (Own.below HO6.out (al (Below.refl _ _) _)) rfl (rd_u8 w6 [P, I, C] (fun n hn => by simp at hn; have := HVV.out; omega) _ rfl) (fun h => by cases h) (by have := HL6.out; simp; omega) (by have := Nat.le_trans HW0s.out HSw6.out.size; simp; omega) ?_; intro v7 w7 hown7 hg7; have HSw7 : Hid (Below (w.heap.size + 1) (w.alloc (.cells #[.int .i64 1, .int .u64 (E : Nat), .int .u64 (S : Nat), .int .i64 (P : Nat), .int .i64 (I : Nat), .int .i64 (C : Nat), .slice da dn dc, .int .i64 cd, .slice ga gn gc] 26 (0, 0))) w7) := below_row (HSw6.out.alloc (Nat.le_trans HW0s.out HSw6.out.size) _) (Own.below HO6.out (al (Below.refl _ _) _)) HW0s.out hg7; have HO7 : Hid (Own w7 (w.heap.size + 1) v7 (dgs [1, E, S] ++ dgs [P, I, C])) := (by unfold Hid; rw [HPIC.out]; exact hown7); have HL7 : Hid ((dgs [1, E, S] ++ dgs [P, I, C]).length ≤ 33) := (by unfold Hid; rw [HPIC.out, List.length_append]; have := HL6.out; simp; omega); have hw70 : w7.cell? ⟨w.heap.size, 0, none⟩ = some (.int .i64 1) := HBX.out _ HSw7.out 0 _ rfl; have hw71 : w7.cell? ⟨w.heap.size, 1, none⟩ = some (.int .u64 (E : Nat)) := HBX.out _ HSw7.out 1 _ rfl; have hw72 : w7.cell? ⟨w.heap.size, 2, none⟩ = some (.int .u64 (S : Nat)) := HBX.out _ HSw7.out 2 _ rfl; have hw73 : w7.cell? ⟨w.heap.size, 3, none⟩ = some (.int .i64 (P : Nat)) := HBX.out _ HSw7.out 3 _ rfl; have hw74 : w7.cell? ⟨w.heap.size, 4, none⟩ = some (.int .i64 (I : Nat)) := HBX.out _ HSw7.out 4 _ rfl; have hw75 : w7.cell? ⟨w.heap.size, 5, none⟩ = some (.int .i64 (C : Nat)) := HBX.out _ HSw7.out 5 _ rfl; have hw76 : w7.cell? ⟨w.heap.size, 6, none⟩ = some (.slice da dn dc) := HBX.out _ HSw7.out 6 _ rfl; have hw77 : w7.cell? ⟨w.heap.size, 7, none⟩ = some (.int .i64 cd) := HBX.out _ HSw7.out 7 _ rfl; have hw78 : w7.cell? ⟨w.heap.size, 8, none⟩ = some (.slice ga gn gc) := HBX.out _ HSw7.out 8 _ rfl; obtain ⟨a7, c7, hv7, -, -, hn7, hr7, -⟩ := Own.val HO7.out; obtain ⟨L7, hL7⟩ : ∃ L : Nat, L = (dgs [1, E, S] ++ dgs [P, I, C]).length := ⟨_, rfl⟩; rw [← hL7] at hv7; subst hv7; have HL7x : Hid _ := hL7; have HR7 : Hid (Rd w7 a7 (dgs [1, E, S] ++ dgs [P, I, C])) := hr7; have HN7 : Hid (a7 = none → c7 = 0) := hn7; clear hown7 hg7 hL7 hr7 hn7)
    | (go_at_call 42; refine Calls.mono (refAppendBytes_n a7 L7 c7 (dgs [1, E, S] ++ dgs [P, I, C]) HL7x.out da dn dc ds HD.out.1 w7 HR7.out (HD.out.2.1 _ (HW.out _ HSw7.out)) HN7.out HD.out.2.2 (by have h1 := HL7.out; have h2 := HL7x.out; have h3 := HVV.out; omega)) ?_; rintro e1 w8 ⟨v8, rfl, hown8, hb8⟩; have HSw8 : Hid (Below w.heap.size w w8) := below_next (HW.out _ HSw7.out) hb8; obtain ⟨a8, c8, hv8, -, -, hn8, hr8, -⟩ := hown8.val; obtain ⟨L8, hL8⟩ : ∃ L : Nat, L = (dgs [1, E, S] ++ dgs [P, I, C] ++ (dg ds.length ++ ds)).length := ⟨_, rfl⟩; rw [← hL8] at hv8; subst hv8; have HL8 : Hid _ := hL8; have HR8 : Hid (Rd w8 a8 (dgs [1, E, S] ++ dgs [P, I, C] ++ (dg ds.length ++ ds))) := hr8; have HN8 : Hid (a8 = none → c8 = 0) := hn8; have HLB8 : Hid (L8 + 4 ≤ 140737488355328) := (by have h1 := HL7.out; have h2 := dg_len ds.length (by have := HD.out.1; have := HVV.out; omega); have h3 := HD.out.1; have h4 := HVV.out; unfold Hid; rw [show L8 = (dgs [1, E, S] ++ dgs [P, I, C] ++ (dg ds.length ++ ds)).length from HL8.out]; simp only [List.length_append] at h1 ⊢; omega); clear hL8 hr8 hn8 hown8 hb8)
    | (go_at_call 43; refine Calls.mono (refSeal_n a8 L8 c8 (dgs [1, E, S] ++ dgs [P, I, C] ++ (dg ds.length ++ ds)) HL8.out w8 HR8.out HN8.out HLB8.out) ?_; rintro e1 w9 ⟨v9, rfl, hown9, hb9⟩; have HO9 : Hid (StrOut ((dgs [1, E, S] ++ dgs [P, I, C] ++ (dg ds.length ++ ds)) ++ sealL (dgs [1, E, S] ++ dgs [P, I, C] ++ (dg ds.length ++ ds))) w8 (.returned v9) w9) := StrOut.own hown9 hb9; clear hown9 hb9; obtain ⟨a9, L9, c9, hv9, -⟩ := HO9.out; cases hv9))
  go_ret2
  obtain ⟨a6, L6, c6, hv6, h1, h2, h3, h4⟩ := HO9.out
  cases hv6
  exact ⟨_, _, _, rfl, h1, h2, h3, below_next HSw8.out h4⟩
theorem renc_3 (E S : Nat) (p i c : Int) (da : Option Addr) (dn dc : Nat) (cd : Int) (ga : Option Addr) (gn gc : Nat) (l : List Rg) (w : World) (hv : validR 3 (E : Nat) (S : Nat) p i c dn cd gn l)  (hn : gn = l.length) (hx : RdR w ga l) (hl : gn ≤ 8796093022208) :
    Calls Tryz.prog 19 #[.agg #[.int .i64 3, .int .u64 (E : Nat), .int .u64 (S : Nat), .int .i64 p, .int .i64 i, .int .i64 c, .slice da dn dc, .int .i64 cd, .slice ga gn gc]] w fun e w' => EncOut (dgs [3, E, S]) w e w' := by
  have HBX : Hid (∀ u, Below (w.heap.size + 1) (w.alloc (.cells #[.int .i64 3, .int .u64 (E : Nat), .int .u64 (S : Nat), .int .i64 p, .int .i64 i, .int .i64 c, .slice da dn dc, .int .i64 cd, .slice ga gn gc] 26 (0, 0))) u → u.rangeAt w.heap.size 0 [.int .i64 3, .int .u64 (E : Nat), .int .u64 (S : Nat), .int .i64 p, .int .i64 i, .int .i64 c, .slice da dn dc, .int .i64 cd, .slice ga gn gc]) := fun u hu => range_below (range_box w [.int .i64 3, .int .u64 (E : Nat), .int .u64 (S : Nat), .int .i64 p, .int .i64 i, .int .i64 c, .slice da dn dc, .int .i64 cd, .slice ga gn gc] 26) (by rw [heap_alloc_size1']; exact hu)
  have HV : Hid _ := fun (u : World) (hu : Below w.heap.size w u) => rvalid_t 3 (E : Nat) (S : Nat) p i c da dn dc cd ga gn gc l true ⟨fun _ => hv, fun _ => rfl⟩ u hn (hx.below hu) hl
  have HVV : Hid True := trivial
  have HES : Hid (E ≤ 281474976710655 ∧ S ≤ 281474976710655) := by have h1 := hv.1.1.2; have h2 := hv.1.2.2; unfold Hid; omega
  have HSW0 : Hid (Below (w.heap.size + 1) (w.alloc (.cells #[.int .i64 3, .int .u64 (E : Nat), .int .u64 (S : Nat), .int .i64 p, .int .i64 i, .int .i64 c, .slice da dn dc, .int .i64 cd, .slice ga gn gc] 26 (0, 0))) (w.alloc (.cells #[.int .i64 3, .int .u64 (E : Nat), .int .u64 (S : Nat), .int .i64 p, .int .i64 i, .int .i64 c, .slice da dn dc, .int .i64 cd, .slice ga gn gc] 26 (0, 0)))) := Below.refl _ _
  have HW : Hid (∀ u, Below (w.heap.size + 1) (w.alloc (.cells #[.int .i64 3, .int .u64 (E : Nat), .int .u64 (S : Nat), .int .i64 p, .int .i64 i, .int .i64 c, .slice da dn dc, .int .i64 cd, .slice ga gn gc] 26 (0, 0))) u → Below w.heap.size w u) := fun u hu => (al (Below.refl _ w) _).trans (hu.mono (by omega))
  have HW0s : Hid (w.heap.size + 1 ≤ (w.alloc (.cells #[.int .i64 3, .int .u64 (E : Nat), .int .u64 (S : Nat), .int .i64 p, .int .i64 i, .int .i64 c, .slice da dn dc, .int .i64 cd, .slice ga gn gc] 26 (0, 0))).heap.size) := by unfold Hid; simp
  have HLE : Hid ((dg 3).length ≤ 10 ∧ (dg E).length ≤ 10 ∧ (dg S).length ≤ 10) := ⟨(dg_len _ (by decide)).2, (dg_len _ (by have := HES.out; omega)).2, (dg_len _ (by have := HES.out; omega)).2⟩
  clear hv hn hx hl
  go_enter Tryz.func19, Tryz.ntmps19
  go_wp2_with (first
    | (refine wpList_load_g (by rfl) 26 _ rfl w.heap.size 0 (by rfl) [.int .i64 3, .int .u64 (E : Nat), .int .u64 (S : Nat), .int .i64 p, .int .i64 i, .int .i64 c, .slice da dn dc, .int .i64 cd, .slice ga gn gc] _ (HBX.out _ HSW0.out) Tryz.underlying26 rfl info_un ?_)
    | (go_at_call 4; refine Calls.mono (HV.out _ (al (Below.refl _ _) _)) ?_; rintro e1 w1 ⟨rfl, hb1⟩; have HSw1 : Hid (Below (w.heap.size + 1) (w.alloc (.cells #[.int .i64 3, .int .u64 (E : Nat), .int .u64 (S : Nat), .int .i64 p, .int .i64 i, .int .i64 c, .slice da dn dc, .int .i64 cd, .slice ga gn gc] 26 (0, 0))) w1) := (by have h9 := hb1; rw [heap_alloc_size1'] at h9; exact h9); have hw10 : w1.cell? ⟨w.heap.size, 0, none⟩ = some (.int .i64 3) := HBX.out _ HSw1.out 0 _ rfl; have hw11 : w1.cell? ⟨w.heap.size, 1, none⟩ = some (.int .u64 (E : Nat)) := HBX.out _ HSw1.out 1 _ rfl; have hw12 : w1.cell? ⟨w.heap.size, 2, none⟩ = some (.int .u64 (S : Nat)) := HBX.out _ HSw1.out 2 _ rfl; have hw13 : w1.cell? ⟨w.heap.size, 3, none⟩ = some (.int .i64 p) := HBX.out _ HSw1.out 3 _ rfl; have hw14 : w1.cell? ⟨w.heap.size, 4, none⟩ = some (.int .i64 i) := HBX.out _ HSw1.out 4 _ rfl; have hw15 : w1.cell? ⟨w.heap.size, 5, none⟩ = some (.int .i64 c) := HBX.out _ HSw1.out 5 _ rfl; have hw16 : w1.cell? ⟨w.heap.size, 6, none⟩ = some (.slice da dn dc) := HBX.out _ HSw1.out 6 _ rfl; have hw17 : w1.cell? ⟨w.heap.size, 7, none⟩ = some (.int .i64 cd) := HBX.out _ HSw1.out 7 _ rfl; have hw18 : w1.cell? ⟨w.heap.size, 8, none⟩ = some (.slice ga gn gc) := HBX.out _ HSw1.out 8 _ rfl; clear hb1)
    | (go_at_call_of 41 (Value.int .u64 3); refine Calls.mono (refDigits_any 3 _ (by decide)) ?_; rintro e1 w2 ⟨v2, rfl, hown2, hb2⟩; have HSw2 : Hid (Below (w.heap.size + 1) (w.alloc (.cells #[.int .i64 3, .int .u64 (E : Nat), .int .u64 (S : Nat), .int .i64 p, .int .i64 i, .int .i64 c, .slice da dn dc, .int .i64 cd, .slice ga gn gc] 26 (0, 0))) w2) := HSw1.out.trans (hb2.mono (Nat.le_trans HW0s.out HSw1.out.size)); have HO2 : Hid (Own w2 (w.heap.size + 1) v2 (dg 3)) := hown2.base (Nat.le_trans HW0s.out HSw1.out.size); have hw20 : w2.cell? ⟨w.heap.size, 0, none⟩ = some (.int .i64 3) := HBX.out _ HSw2.out 0 _ rfl; have hw21 : w2.cell? ⟨w.heap.size, 1, none⟩ = some (.int .u64 (E : Nat)) := HBX.out _ HSw2.out 1 _ rfl; have hw22 : w2.cell? ⟨w.heap.size, 2, none⟩ = some (.int .u64 (S : Nat)) := HBX.out _ HSw2.out 2 _ rfl; have hw23 : w2.cell? ⟨w.heap.size, 3, none⟩ = some (.int .i64 p) := HBX.out _ HSw2.out 3 _ rfl; have hw24 : w2.cell? ⟨w.heap.size, 4, none⟩ = some (.int .i64 i) := HBX.out _ HSw2.out 4 _ rfl; have hw25 : w2.cell? ⟨w.heap.size, 5, none⟩ = some (.int .i64 c) := HBX.out _ HSw2.out 5 _ rfl; have hw26 : w2.cell? ⟨w.heap.size, 6, none⟩ = some (.slice da dn dc) := HBX.out _ HSw2.out 6 _ rfl; have hw27 : w2.cell? ⟨w.heap.size, 7, none⟩ = some (.int .i64 cd) := HBX.out _ HSw2.out 7 _ rfl; have hw28 : w2.cell? ⟨w.heap.size, 8, none⟩ = some (.slice ga gn gc) := HBX.out _ HSw2.out 8 _ rfl; clear hown2 hb2)
    | (go_at_call_of 41 (Value.int .u64 (E : Nat)); refine Calls.mono (refDigits_any E _ (by have := HES.out; omega)) ?_; rintro e1 w3 ⟨v3, rfl, hown3, hb3⟩; have HSw3 : Hid (Below (w.heap.size + 1) (w.alloc (.cells #[.int .i64 3, .int .u64 (E : Nat), .int .u64 (S : Nat), .int .i64 p, .int .i64 i, .int .i64 c, .slice da dn dc, .int .i64 cd, .slice ga gn gc] 26 (0, 0))) w3) := HSw2.out.trans (hb3.mono (Nat.le_trans HW0s.out HSw2.out.size)); have HO3 : Hid (Own w3 (w.heap.size + 1) v2 (dg 3)) := Own.below HO2.out hb3; obtain ⟨a3, c3, hv3, -, -, hn3, hr3, -⟩ := hown3.val; subst hv3; have HR3 : Hid (Rd w3 a3 (dg E)) := hr3; have HN3 : Hid (a3 = none → c3 = 0) := hn3; clear hown3 hb3 hr3 hn3)
    | (at_builtin; refine wp_app rfl _ _ rfl (w.heap.size + 1) v2 (dg 3) (dg E) a3 c3 rfl HO3.out rfl HR3.out HN3.out (by have := HLE.out; omega) (Nat.le_trans HW0s.out HSw3.out.size) ?_; intro v4 w4 hown4 hg4; have HSw4 : Hid (Below (w.heap.size + 1) (w.alloc (.cells #[.int .i64 3, .int .u64 (E : Nat), .int .u64 (S : Nat), .int .i64 p, .int .i64 i, .int .i64 c, .slice da dn dc, .int .i64 cd, .slice ga gn gc] 26 (0, 0))) w4) := below_row HSw3.out HO3.out HW0s.out hg4; have HO4 : Hid (Own w4 (w.heap.size + 1) v4 (dg 3 ++ dg E)) := hown4; have hw40 : w4.cell? ⟨w.heap.size, 0, none⟩ = some (.int .i64 3) := HBX.out _ HSw4.out 0 _ rfl; have hw41 : w4.cell? ⟨w.heap.size, 1, none⟩ = some (.int .u64 (E : Nat)) := HBX.out _ HSw4.out 1 _ rfl; have hw42 : w4.cell? ⟨w.heap.size, 2, none⟩ = some (.int .u64 (S : Nat)) := HBX.out _ HSw4.out 2 _ rfl; have hw43 : w4.cell? ⟨w.heap.size, 3, none⟩ = some (.int .i64 p) := HBX.out _ HSw4.out 3 _ rfl; have hw44 : w4.cell? ⟨w.heap.size, 4, none⟩ = some (.int .i64 i) := HBX.out _ HSw4.out 4 _ rfl; have hw45 : w4.cell? ⟨w.heap.size, 5, none⟩ = some (.int .i64 c) := HBX.out _ HSw4.out 5 _ rfl; have hw46 : w4.cell? ⟨w.heap.size, 6, none⟩ = some (.slice da dn dc) := HBX.out _ HSw4.out 6 _ rfl; have hw47 : w4.cell? ⟨w.heap.size, 7, none⟩ = some (.int .i64 cd) := HBX.out _ HSw4.out 7 _ rfl; have hw48 : w4.cell? ⟨w.heap.size, 8, none⟩ = some (.slice ga gn gc) := HBX.out _ HSw4.out 8 _ rfl; clear hown4 hg4)
    | (go_at_call_of 41 (Value.int .u64 (S : Nat)); refine Calls.mono (refDigits_any S _ (by have := HES.out; omega)) ?_; rintro e1 w5 ⟨v5, rfl, hown5, hb5⟩; have HSw5 : Hid (Below (w.heap.size + 1) (w.alloc (.cells #[.int .i64 3, .int .u64 (E : Nat), .int .u64 (S : Nat), .int .i64 p, .int .i64 i, .int .i64 c, .slice da dn dc, .int .i64 cd, .slice ga gn gc] 26 (0, 0))) w5) := HSw4.out.trans (hb5.mono (Nat.le_trans HW0s.out HSw4.out.size)); have HO5 : Hid (Own w5 (w.heap.size + 1) v4 (dg 3 ++ dg E)) := Own.below HO4.out hb5; obtain ⟨a5, c5, hv5, -, -, hn5, hr5, -⟩ := hown5.val; subst hv5; have HR5 : Hid (Rd w5 a5 (dg S)) := hr5; have HN5 : Hid (a5 = none → c5 = 0) := hn5; clear hown5 hb5 hr5 hn5)
    | (at_builtin; refine wp_app rfl _ _ rfl (w.heap.size + 1) v4 (dg 3 ++ dg E) (dg S) a5 c5 rfl HO5.out rfl HR5.out HN5.out (by have := HLE.out; rw [List.length_append]; omega) (Nat.le_trans HW0s.out HSw5.out.size) ?_; intro v6 w6 hown6 hg6; have HSw6 : Hid (Below (w.heap.size + 1) (w.alloc (.cells #[.int .i64 3, .int .u64 (E : Nat), .int .u64 (S : Nat), .int .i64 p, .int .i64 i, .int .i64 c, .slice da dn dc, .int .i64 cd, .slice ga gn gc] 26 (0, 0))) w6) := below_row HSw5.out HO5.out HW0s.out hg6; have HO6 : Hid (Own w6 (w.heap.size + 1) v6 (dgs [3, E, S])) := (by have h9 := hown6; unfold Hid dgs; simpa [List.append_assoc] using h9); have HL6 : Hid ((dgs [3, E, S]).length ≤ 30) := (by have h9 := HLE.out; unfold Hid dgs; simp [List.length_append]; omega); have hw60 : w6.cell? ⟨w.heap.size, 0, none⟩ = some (.int .i64 3) := HBX.out _ HSw6.out 0 _ rfl; have hw61 : w6.cell? ⟨w.heap.size, 1, none⟩ = some (.int .u64 (E : Nat)) := HBX.out _ HSw6.out 1 _ rfl; have hw62 : w6.cell? ⟨w.heap.size, 2, none⟩ = some (.int .u64 (S : Nat)) := HBX.out _ HSw6.out 2 _ rfl; have hw63 : w6.cell? ⟨w.heap.size, 3, none⟩ = some (.int .i64 p) := HBX.out _ HSw6.out 3 _ rfl; have hw64 : w6.cell? ⟨w.heap.size, 4, none⟩ = some (.int .i64 i) := HBX.out _ HSw6.out 4 _ rfl; have hw65 : w6.cell? ⟨w.heap.size, 5, none⟩ = some (.int .i64 c) := HBX.out _ HSw6.out 5 _ rfl; have hw66 : w6.cell? ⟨w.heap.size, 6, none⟩ = some (.slice da dn dc) := HBX.out _ HSw6.out 6 _ rfl; have hw67 : w6.cell? ⟨w.heap.size, 7, none⟩ = some (.int .i64 cd) := HBX.out _ HSw6.out 7 _ rfl; have hw68 : w6.cell? ⟨w.heap.size, 8, none⟩ = some (.slice ga gn gc) := HBX.out _ HSw6.out 8 _ rfl; obtain ⟨a6, c6, hv6, -, -, hn6, hr6, -⟩ := Own.val HO6.out; obtain ⟨L6, hL6⟩ : ∃ L : Nat, L = (dgs [3, E, S]).length := ⟨_, rfl⟩; rw [← hL6] at hv6; subst hv6; have HL6x : Hid _ := hL6; have HR6 : Hid _ := hr6; have HN6 : Hid _ := hn6; clear hL6 hr6 hn6; clear hown6 hg6)
    | (go_at_call 43; refine Calls.mono (refSeal_n a6 L6 c6 (dgs [3, E, S]) HL6x.out w6 HR6.out HN6.out (by have h1 := HL6.out; have h2 := HL6x.out; omega)) ?_; rintro e1 w9 ⟨v9, rfl, hown9, hb9⟩; have HO9 : Hid (StrOut ((dgs [3, E, S]) ++ sealL (dgs [3, E, S])) w6 (.returned v9) w9) := StrOut.own hown9 hb9; clear hown9 hb9; obtain ⟨a9, L9, c9, hv9, -⟩ := HO9.out; cases hv9))
  go_ret2
  obtain ⟨a6, L6, c6, hv6, h1, h2, h3, h4⟩ := HO9.out
  cases hv6
  exact ⟨_, _, _, rfl, h1, h2, h3, below_next (HW.out _ HSw6.out) h4⟩
end
end Go.Proofs.YtplncfahpdmcoaaGreatDoor
