import Derived.Test.YtnhjkipaclchiaaQFa
import Derived.Test.YtnhjkipaclchiaaQTu
namespace Go.Proofs.Ytnhjkipaclchiaa
set_option linter.unusedVariables false
set_option linter.unusedSimpArgs false
open Go.RowKit Go.Shelf
attribute [local go_sem] Oper.semAt_some
/-- all's boxes: the book, the answer, the count -/
structure Bal (W : World) (H : Nat) (vb : Value) (r : Bool) (k : Nat) : Prop where
  a : W.heap[H]? = some (.cells #[vb] tBk (0, 0))
  b : W.heap[H + 1]? = some (.cells #[.bool r] 4 (0, 0))
  c : W.heap[H + 2]? = some (.cells #[.int .i64 (k : Int)] 3 (0, 0))
theorem Bal.kept {W W' : World} {H : Nat} {vb : Value} {r : Bool} {k : Nat} {row : Option Nat} (h : Bal W H vb r k) (hg : W.grownBy W' row) (hrow : ∀ r, row = some r → ∃ o : Obj, W.heap[r]? = some o ∧ o.isCells = false) : Bal W' H vb r k :=
  ⟨heap_kept h.a hg hrow, heap_kept h.b hg hrow, heap_kept h.c hg hrow⟩
theorem results_cb {fn : Func} {p : Tmp} (h : fn.results = #[.cell p 4]) (tmps : Array Value) {W : World} {B : Nat} {ok : Bool} (hB : W.heap[B]? = some (.cells #[.bool ok] 4 (0, 0)))
    (h1 : tmps.getD p undef = .pointer (some ⟨B, 0, none⟩)) : (results fn tmps).run Try.prog W = .ok (.bool ok) W := by
  have h1' : tmps[p]?.getD undef = .pointer (some ⟨B, 0, none⟩) := by simpa using h1
  have c3 : W.cell? ⟨B, 0, none⟩ = some (.bool ok) := by rw [cell_of_row _ _ _ _ _ _ hB]; rfl
  have e3 : (loadVar 4 ⟨B, 0, none⟩).run Try.prog W = .ok (.bool ok) W := by go_simp
  simp only [results, h]
  simp [Sem.run_bind, Result.andThen, h1', asAddr, e3]
/-- what Up tells, by the whole row -/
theorem up_list {P : List (List Ent)} {s : St} {p i : Nat} {ok : Bool} (h : PlaceIs P s p i ok) (hsp : SP P) (hp : p < P.length) : (P.drop p).flatten.drop i = P.flatten.filter (fun x => !ltS x.st s) := by
  obtain ⟨hil, hok, hc⟩ := h.cut hsp hp
  rw [hc.eq, List.filter_append, List.filter_append, filt_no (fun x hx => by rw [hc.lo x hx]; rfl), filt_all (fun x hx => by rw [hc.mid x hx, ltS_irrefl]; rfl), filt_all (fun x hx => by rw [ltS_asymm (hc.hi x hx)]; rfl), List.nil_append]
  rw [List.drop_eq_getElem_cons hp, List.flatten_cons, List.drop_append_of_le_length hil]
  cases ok
  · simp
  · simp only [if_true]
    rw [← List.append_assoc, show P[p].drop (i + 1) = (P[p].drop i).drop 1 by rw [List.drop_drop], List.take_append_drop]
theorem up_all {P : List (List Ent)} {p i : Nat} {ok : Bool} (h : PlaceIs P (0, 0) p i ok) (hsp : SP P) (hp : p < P.length) : (P.drop p).flatten.drop i = P.flatten := by
  rw [up_list h hsp hp]
  refine filt_all fun x _ => ?_
  have : ltS x.st (0, 0) = false := by rw [ltS_no]; simp
  rw [this]; rfl
theorem pre_snoc {L pre : List Ent} {x : Ent} (h : pre <+: L) (hk : pre.length < L.length) : pre ++ [x] <+: L ↔ L[pre.length] = x := by
  obtain ⟨t, rfl⟩ := h
  cases t with
  | nil => simp at hk
  | cons y t =>
    rw [List.prefix_append_right_inj]
    simp
    exact eq_comm
section
set_option maxHeartbeats 6400000
set_option maxRecDepth 100000
theorem ball_t {w : World} {g S : Nat} {P : List (List Ent)} {v : Value} {vs : List Value} (h : IdxAt w g S P v vs) (ht : Tid S P) (hS : S ≤ 64) (hPl : P.length ≤ 4398046511104) (vb : Value) (L : List Ent) (hb : OwnB w 0 vb L) (hL : L = P.flatten) (hLl : L.length ≤ 4398046511104) :
    Calls Try.prog 27 #[vb, .pointer (some ⟨g, 0, none⟩)] w fun e w' => e = .returned (.bool true) ∧ Below w.heap.size w w' := by
  refine (callsIn_wide (n := 8)).1 ?_
  obtain ⟨ab, cb, rfl, hcb, hrb⟩ := OwnB.val hb
  obtain ⟨N, hN⟩ : ∃ N, N = L.length := ⟨_, rfl⟩
  rw [← hN] at hcb hLl ⊢
  obtain ⟨W1, hW1⟩ : ∃ X : World, X = ((w.alloc (.cells #[.slice ab N cb] tBk)).alloc (.cells #[.bool false] 4)).alloc (.cells #[.int .i64 0] 3) := ⟨_, rfl⟩
  have hb1 : Below w.heap.size w W1 := by rw [hW1]; exact al (al (al (Below.refl _ _) _) _) _
  have hz1 : W1.heap.size = w.heap.size + 3 := by rw [hW1]; simp
  have hB1 : Bal W1 w.heap.size (.slice ab N cb) false 0 := by
    rw [hW1]
    refine ⟨?_, ?_, ?_⟩
    · exact ((al (al (Below.refl (w.alloc _).heap.size (w.alloc _)) _) _).block w.heap.size (by simp)).trans (heap_alloc_new w _)
    · have h9 := heap_alloc_new (w.alloc (.cells #[.slice ab N cb] tBk)) (.cells #[.bool false] 4)
      rw [World.size_alloc] at h9
      exact ((al (Below.refl ((w.alloc _).alloc _).heap.size ((w.alloc _).alloc _)) _).block (w.heap.size + 1) (by simp)).trans h9
    · have h9 := heap_alloc_new ((w.alloc (.cells #[.slice ab N cb] tBk)).alloc (.cells #[.bool false] 4)) (.cells #[.int .i64 0] 3)
      rw [World.size_alloc, World.size_alloc] at h9
      exact h9
  have HUP : Hid _ := up_t (.pointer (some ⟨g, 0, none⟩)) rfl (some ⟨g, 0, none⟩) rfl 0 0 W1
  obtain ⟨W2, hW2⟩ : ∃ X : World, X = (W1.alloc (.cells #[.pointer (some ⟨g, 0, none⟩)] 29)).alloc (.cells #[.int .u64 0, .int .u64 0] tSt) := ⟨_, rfl⟩
  have hb2 : Below W1.heap.size W1 W2 := by rw [hW2]; exact al (al (Below.refl _ _) _) _
  have hz2 : W2.heap.size = w.heap.size + 5 := by rw [hW2]; simp; omega
  have hg2 : W1.grownBy W2 none := ⟨hb2.os, hb2.tape, hb2.output, hb2.size, fun k hk _ => hb2.block k hk⟩
  have hB2 : Bal W2 w.heap.size (.slice ab N cb) false 0 := hB1.kept hg2 (fun r e => by cases e)
  have hbw2 : Below w.heap.size w W2 := below_next hb1 hb2
  have hI2 := h.below hbw2
  have ht2 := two_new W1 (.cells #[.pointer (some ⟨g, 0, none⟩)] 29) (.cells #[.int .u64 0, .int .u64 0] tSt)
  rw [← hW2] at ht2
  have hcx : W2.cell? ⟨W1.heap.size, 0, none⟩ = some (.pointer (some ⟨g, 0, none⟩)) := by rw [cell_of_row _ _ _ _ _ _ ht2.1]; rfl
  have hcs : W2.rangeAt (W1.heap.size + 1) 0 (sc (0, 0)) := box_range ht2.2
  have hlp : ∀ q ∈ P, q.length ≤ 100 := fun q hq => by have := ht.2 q hq; omega
  have HSQ : Hid (SeqG Fence.wide 7 Try.prog 52 #[.pointer (some ⟨W1.heap.size, 0, none⟩), .pointer (some ⟨W1.heap.size + 1, 0, none⟩)] encU (EntB W2) (fun xs => xs = L) (fun pre => pre <+: L) N W2) := (show SeqG Fence.wide 7 Try.prog 52 #[.pointer (some ⟨W1.heap.size, 0, none⟩), .pointer (some ⟨W1.heap.size + 1, 0, none⟩)] encU (EntB W2) (fun xs => xs = L) (fun pre => pre <+: L) N W2 by
    obtain ⟨pa, cap, hv, hcap, hnil, hrd, hpg⟩ := hI2.rd
    by_cases hne : P = []
    · subst hne
      have hL0 : L = [] := hL
      subst hL0
      obtain rfl : N = 0 := hN
      refine up_stops0 7 (by decide) W1.heap.size (W1.heap.size + 1) (.pointer (some ⟨g, 0, none⟩)) pa cap ?_ rfl (some ⟨g, 0, none⟩) rfl 0 0 W2 hcx hcs hpg
      rcases hI2.row.2 with ⟨e, -⟩ | ⟨g', c', cur, e, -⟩
      · rw [hv] at e; cases e; exact .inl ⟨rfl, rfl⟩
      · rw [hv] at e; cases e; exact .inr ⟨g', 0, rfl⟩
    · have hpos : 0 < P.length := List.length_pos_iff.2 hne
      obtain ⟨p, i, ok, hpl⟩ := place_ex ht.1 (0, 0)
      have hp := hpl.lt hne
      obtain ⟨b, o, hpa⟩ : ∃ b o, pa = some ⟨b, o, none⟩ := by obtain ⟨b, o, e, -⟩ := hrd 0 hpos; exact ⟨b, o, e⟩
      subst hpa
      have h9 := up_stops 7 (by decide) W1.heap.size (W1.heap.size + 1) g b o P.length cap P 0 0 W2 hcx hcs hpg rfl hpos hcap hrd ht.1 hPl hlp p i ok hpl
      rw [up_all hpl ht.1 hp, ← hL, ← hN] at h9
      exact h9)
  obtain ⟨pa, cap, hv, hcap, hnil, hrd, hpg⟩ := h.rd
  have HLN : Hid (∀ u, Below w.heap.size w u → Calls Try.prog 23 #[.pointer (some ⟨g, 0, none⟩)] u fun e u' => e = .returned (.int .i64 (N : Int)) ∧ u' = u) := fun u hu => by
    have h9 := len_t (.pointer (some ⟨g, 0, none⟩)) pa P.length cap P u (hpg.below hu) rfl (hrd.below hu) hPl hlp
    rw [← hL, ← hN] at h9
    exact h9
  have HRB : Hid (∀ j (hj : j < L.length), ∃ b o, ab = some ⟨b, o, none⟩ ∧ w.rangeAt b (o + j * 3) (ev L[j])) := hrb
  have HN : Hid (N = L.length) := hN
  have HZ2 : Hid (W2.heap.size = w.heap.size + 5) := hz2
  have HZ1 : Hid (W1.heap.size = w.heap.size + 3) := hz1
  have HB2 : Hid (Bal W2 w.heap.size (.slice ab N cb) false 0) := hB2
  have HBW : Hid (Below w.heap.size w W2) := hbw2
  clear hrd hpg hcap hnil hv hlp hcs hcx ht2 hI2 hbw2 hB2 hg2 hz2 hb2 hB1 hz1 hb1 h hb hrb hL hN
  refine callsIn_of_wp_marks Try.func27 rfl trivial ?_ rfl
  simp only [Try.ntmps27, List.size_toArray, List.length_cons, List.length_nil, Nat.reduceAdd, Nat.reduceSub, Array.replicate_succ, Array.replicate_zero, List.push_toArray, List.append_toArray, List.nil_append, List.cons_append]
  gi_wp2
  refine ⟨trivial, ?_⟩
  rw [← hW1]
  refine (callsIn_wide.2 HUP.out).mono ?_
  rintro e z ⟨rfl, hz⟩
  have hz' : z = W2 := hz.trans hW2.symm
  subst hz'
  clear hz hW1 hW2 HUP
  gi_wp2
  obtain ⟨gx, hgx⟩ : ∃ gx, gx = W1.heap.size := ⟨_, rfl⟩
  obtain ⟨H, hH⟩ : ∃ H, H = w.heap.size := ⟨_, rfl⟩
  have hH2 : z.heap.size = H + 5 := by rw [hH]; exact HZ2.out
  have HH : Hid (H = w.heap.size) := hH
  rw [← hgx, ← hH]
  have hsq := HSQ.out
  rw [← hgx] at hsq
  have hB2 := HB2.out
  rw [← hH] at hB2
  have hbw := HBW.out
  rw [← hH] at hbw
  have HH2 : Hid (z.heap.size = H + 5) := hH2
  clear hH hgx hH2
  refine wpIn_rangeFunc_G rfl (by decide) (gf := 52) (lb := #[.pointer (some ⟨gx, 0, none⟩), .pointer (some ⟨gx + 1, 0, none⟩)]) rfl trivial (enters_of Try.func52 (by kernel_rfl) rfl) hsq (fun k hk => hk.1) (fun _ => rfl)
    (fun pre Z V => pre <+: L ∧ Bal V H (.slice ab N cb) false pre.length ∧ ¬ Z (H + 1) ∧ ¬ Z (H + 2) ∧ Below H w V ∧ (∀ k, Z k → k < V.heap.size) ∧ z.heap.size ≤ V.heap.size)
    (fun c pre Z V => c = .ret ∧ ¬ pre <+: L)
    ⟨fun s Z V V' row hs hg hr => ⟨hs.1, hs.2.1.kept hg (fun r e => (hr r e).2), (fun hz => by
        rcases hz with hz | ⟨hz, -⟩
        · exact hs.2.2.1 hz
        · have := (Array.getElem?_eq_some_iff.1 hs.2.1.b).1; omega), (fun hz => by
        rcases hz with hz | ⟨hz, -⟩
        · exact hs.2.2.2.1 hz
        · have := (Array.getElem?_eq_some_iff.1 hs.2.1.c).1; omega), hs.2.2.2.2.1.grown hg (by have := (Array.getElem?_eq_some_iff.1 hs.2.1.c).1; omega) (fun r e => by have := (hr r e).1; have := HH2.out; omega), (fun k hk => by
        rcases hk with hk | ⟨-, hk⟩
        · exact Nat.lt_of_lt_of_le (hs.2.2.2.2.2.1 k hk) hg.size
        · exact hk), Nat.le_trans hs.2.2.2.2.2.2 hg.size⟩,
      fun s Z Z' V hs hz => ⟨hs.1, hs.2.1, fun h9 => hs.2.2.1 (hz _ h9), fun h9 => hs.2.2.2.1 (hz _ h9), hs.2.2.2.2.1, fun k hk => hs.2.2.2.2.2.1 k (hz k hk), hs.2.2.2.2.2.2⟩⟩
    (fun c => ⟨fun s Z V V' row hs _ _ => hs, fun s Z Z' V hs _ => hs⟩)
    ⟨List.nil_prefix, hB2, (fun hz => by
        obtain ⟨-, cur, fr, h9⟩ := hz
        rw [hB2.b] at h9; injection h9 with h9; injection h9 with h7 h8; exact absurd h8 (by decide)), (fun hz => by
        obtain ⟨-, cur, fr, h9⟩ := hz
        rw [hB2.c] at h9; injection h9 with h9; injection h9 with h7 h8; exact absurd h8 (by decide)), hbw, fun k hk => hk.1, Nat.le_refl _⟩
    (fun x a' V => ∃ Bx, z.heap.size ≤ Bx ∧ V.heap[Bx]? = some (.cells #[.int .u64 (x.st.1 : Int), .int .u64 (x.st.2 : Int)] tSt (0, 0)) ∧ a' = { tmps := #[.slice ab N cb, .pointer (some ⟨g, 0, none⟩), .pointer (some ⟨H, 0, none⟩), undef, .pointer (some ⟨H + 1, 0, none⟩), .pointer (some ⟨H + 1 + 1, 0, none⟩), .pointer (some ⟨Bx, 0, none⟩), x.v, .pointer (some ⟨g, 0, none⟩), .agg #[.int .u64 0, .int .u64 0], .func (.func 52) #[] #[.pointer (some ⟨gx, 0, none⟩), .pointer (some ⟨gx + 1, 0, none⟩)], sv x.st, x.v, undef, undef, undef, undef, undef, undef, undef, undef, undef, undef, undef, undef, undef, undef, undef, undef, undef, undef, undef, undef, undef, undef, undef, undef, undef, undef, undef, undef, undef, undef, undef, undef, undef, undef], defers := [] })
    (fun x a' s A B row hs hg hr => by obtain ⟨Bx, h1, h2, h3⟩ := hs; exact ⟨Bx, h1, heap_kept h2 hg (fun r e => (hr r e).2), h3⟩)
    ?assign ?body ?done ?stop
  case assign =>
    rintro l pre Z ⟨⟨x1, x2⟩, xn⟩ V K ⟨hpre, hB, hn1, hn2, hbv, hzl, hzs⟩ hK
    gi_wp2
    exact hK _ _ ((KeepsOthers.alloc _ _).from _) (fun k hk => Below.heap_alloc V _ k (hzl k hk)) ⟨hpre, hB.kept (World.grownBy_alloc V _ none) (fun r e => by cases e), hn1, hn2, hbv.alloc (by have := (Array.getElem?_eq_some_iff.1 hB.c).1; omega) _, (fun k hk => by have := hzl k hk; simp; omega), by simp; omega⟩ ⟨V.heap.size, hzs, heap_alloc_new V _, rfl⟩
  case body =>
    rintro l pre Z ⟨⟨x1, x2⟩, xn⟩ a' V hl hlr ⟨hpre, hB, hn1, hn2, hbv, hzl, hzs⟩ ⟨Bx, hBx, hX, rfl⟩ hlt
    obtain ⟨k, hk⟩ : ∃ k, k = pre.length := ⟨_, rfl⟩
    rw [← hk] at hB hlt
    have hkL : k < L.length := by have := HN.out; omega
    obtain ⟨b, o, rfl, hr⟩ := HRB.out k hkL
    obtain ⟨t1, t2, tn, htx⟩ : ∃ t1 t2 tn, L[k] = ⟨(t1, t2), tn⟩ := ⟨_, _, _, rfl⟩
    rw [htx] at hr
    have hrV : V.rangeAt b (o + k * 3) (ev ⟨(t1, t2), tn⟩) := fun j v9 hv9 => (hbv.cell (by rw [HH.out]; exact World.block_lt_of_cell? w _ (hr j v9 hv9))).trans (hr j v9 hv9)
    have hcV : ∀ u : World, u.heap = V.heap → ∀ ad : Addr, u.cell? ad = V.cell? ad := fun u hu ad => by simp [World.cell?, hu]
    have hA0 : ∀ u : World, u.heap = V.heap → u.cell? ⟨H, 0, none⟩ = some (.slice (some ⟨b, o, none⟩) N cb) := fun u hu => by rw [hcV u hu, cell_of_row _ _ _ _ _ _ hB.a]; rfl
    have hA2 : ∀ u : World, u.heap = V.heap → u.cell? ⟨H + 1 + 1, 0, none⟩ = some (.int .i64 (k : Int)) := fun u hu => by rw [hcV u hu, show H + 1 + 1 = H + 2 from rfl, cell_of_row _ _ _ _ _ _ hB.c]; rfl
    have hA5 : ∀ u : World, u.heap = V.heap → u.cell? ⟨b, o + k * 3 + 2, none⟩ = some (.int .u64 (tn : Int)) := fun u hu => by rw [hcV u hu]; exact hrV 2 _ rfl
    have hl4 : ∀ u : World, u.heap = V.heap → (Instr.loadAt tSt (.pointer (some ⟨b, o + k * 3, none⟩))).run Try.prog u = .ok (sv (t1, t2)) u := fun u hu => load_st u _ _ (t1, t2) (fun j v9 hv9 => (hcV u hu _).trans (range_st (e := ⟨(t1, t2), tn⟩) hrV j v9 hv9))
    have hl3 : ∀ u : World, u.heap = V.heap → (Instr.loadAt tSt (.pointer (some ⟨Bx, 0, none⟩))).run Try.prog u = .ok (sv (x1, x2)) u := fun u hu => load_st u _ _ (x1, x2) (fun j v9 hv9 => (hcV u hu _).trans (box_range hX j v9 hv9))
    have hki : (k : Int) < (N : Int) := by omega
    have hkge : ¬ ((N : Int) ≤ (k : Int)) := by omega
    have hk0 : (0 : Int) ≤ (k : Int) := by omega
    obtain ⟨q, hq⟩ : ∃ q : Bool, q = decide (t1 = x1 ∧ t2 = x2) := ⟨_, rfl⟩
    have HQ : Hid (q = decide (t1 = x1 ∧ t2 = x2)) := hq
    obtain ⟨q2, hq2⟩ : ∃ q2 : Bool, q2 = decide (tn = xn) := ⟨_, rfl⟩
    have HQ2 : Hid (q2 = decide (tn = xn)) := hq2
    have HEX : Hid ((pre ++ [(⟨(x1, x2), xn⟩ : Ent)] <+: L) ↔ (q = true ∧ q2 = true)) := (show _ ↔ _ by
      have hkL2 : pre.length < L.length := by omega
      rw [pre_snoc hpre hkL2, show L[pre.length] = ⟨(t1, t2), tn⟩ by rw [← htx]; congr 1; exact hk.symm, hq, hq2]
      simp [and_assoc])
    have HPR : Hid (pre.length = k) := hk.symm
    have hc2 : V.cell? ⟨H + 1 + 1, 0, none⟩ = some (.int .i64 (k : Int)) := hA2 V rfl
    have hf2 : V.frozen? ⟨H + 1 + 1, 0, none⟩ = false := by simp [World.frozen?, show H + 1 + 1 = H + 2 from rfl, hB.c]
    have hc1 : V.cell? ⟨H + 1, 0, none⟩ = some (.bool false) := by rw [cell_of_row _ _ _ _ _ _ hB.b]; rfl
    have hf1 : V.frozen? ⟨H + 1, 0, none⟩ = false := by simp [World.frozen?, hB.b]
    have HLO : Hid (¬ LetsOut (postZ z.heap.size Z (fun pre Z V => pre <+: L ∧ Bal V H (.slice (some ⟨b, o, none⟩) N cb) false pre.length ∧ ¬ Z (H + 1) ∧ ¬ Z (H + 2) ∧ Below H w V ∧ (∀ k, Z k → k < V.heap.size) ∧ z.heap.size ≤ V.heap.size) (fun c pre Z V => c = .ret ∧ ¬ pre <+: L) (pre ++ [(⟨(x1, x2), xn⟩ : Ent)]) V)) := fun ⟨_, _, h9⟩ => h9
    have HB : Hid (Bal V H (.slice (some ⟨b, o, none⟩) N cb) false k) := hB
    clear hq hq2 hr hrV hX htx hB hk
    have HKP : Hid (∀ u : World, u = (V.setCell ⟨H + 1 + 1, 0, none⟩ (.int .i64 ((k : Int) + 1))).drew → KeepsFrom z.heap.size V u ∧ KeepZ Z V u ∧ Bal u H (.slice (some ⟨b, o, none⟩) N cb) false (k + 1) ∧ Below H w u ∧ u.heap.size = V.heap.size) := fun u hu => by
      have k1 : KeepsOthers V u := by rw [hu]; exact (KeepsOthers.setCell _ _ _).trans (KeepsOthers.drew _)
      refine ⟨k1.from _, fun j hj => ?_, ⟨?_, ?_, ?_⟩, ?_, by rw [hu]; simp⟩
      · rw [hu]; exact heap_setCell_other V ⟨H + 1 + 1, 0, none⟩ j _ (fun e => hn2 (by simp at e; rw [e] at hj; exact hj))
      · rw [hu, heap_drew, heap_setCell_other _ _ _ _ (by simp; omega)]; exact HB.out.a
      · rw [hu, heap_drew, heap_setCell_other _ _ _ _ (by simp)]; exact HB.out.b
      · rw [hu, heap_drew, show H + 2 = H + 1 + 1 from rfl, heap_setCell_same V (H + 1 + 1) 0 _ _ _ HB.out.c, show ((k + 1 : Nat) : Int) = (k : Int) + 1 by omega]; rfl
      · rw [hu]; exact (hbv.setCell (p := ⟨H + 1 + 1, 0, none⟩) (by simp; omega) _).drew
    have HKF : Hid (∀ u : World, u = (V.setCell ⟨H + 1, 0, none⟩ (.bool false)).drew → KeepsFrom z.heap.size V u ∧ KeepZ Z V u) := fun u hu => by
      have k1 : KeepsOthers V u := by rw [hu]; exact (KeepsOthers.setCell _ _ _).trans (KeepsOthers.drew _)
      refine ⟨k1.from _, fun j hj => ?_⟩
      rw [hu]; exact heap_setCell_other V ⟨H + 1, 0, none⟩ j _ (fun e => hn1 (by simp at e; rw [e] at hj; exact hj))
    have hwk : IntKind.i64.wrap ((k : Int) + 1) = ((k + 1 : Nat) : Int) := by rw [IntKind.wrap_i64]; omega
    gi_wp2
    cases q
    case true =>
      refine wpIn_region_held_drew (S := (fun u => u.heap = V.heap)) (by kernel_rfl) (by first | exact rfl | assumption) (by kernel_rfl) (fun ⟨_, _, h9⟩ => h9) (fun hHeld => ?_)
      refine take_at (i := 0) 13 (v := ?_) rfl rfl (by kernel_rfl) (by kernel_rfl) (by kernel_rfl) (fun _ _ _ h => h) (by rfl) ?_ hHeld ?_
      rotate_left
      · (intro w hSw; (try dsimp only at hSw); go_simp; try with_reducible rfl)
      simp only [Act.put, List.setIfInBounds_toArray, List.set_cons_zero, List.set_cons_succ]
      refine take_at (i := 1) 14 (v := ?_) rfl rfl (by kernel_rfl) (by kernel_rfl) (by kernel_rfl) (fun _ _ _ h => h) (by rfl) ?_ hHeld ?_
      rotate_left
      · (intro w hSw; (try dsimp only at hSw); go_simp; try with_reducible rfl)
      simp only [Act.put, List.setIfInBounds_toArray, List.set_cons_zero, List.set_cons_succ]
      refine take_at (i := 2) 15 (v := ?_) rfl rfl (by kernel_rfl) (by kernel_rfl) (by kernel_rfl) (fun _ _ _ h => h) (by rfl) ?_ hHeld ?_
      rotate_left
      · (intro w hSw; (try dsimp only at hSw); go_simp; try with_reducible rfl)
      simp only [Act.put, List.setIfInBounds_toArray, List.set_cons_zero, List.set_cons_succ]
      refine take_at (i := 3) 16 (v := .bool false) rfl rfl (by kernel_rfl) (by kernel_rfl) (by kernel_rfl) (fun _ _ _ h => h) (by rfl) ?_ hHeld ?_
      · (intro w hSw; (try dsimp only at hSw); go_simp; try (first | (simp; done) | (simp; omega)))
      simp only [Act.put, List.setIfInBounds_toArray, List.set_cons_zero, List.set_cons_succ]
      refine take_at (i := 4) 17 (v := ?_) rfl rfl (by kernel_rfl) (by kernel_rfl) (by kernel_rfl) (fun _ _ _ h => h) (by rfl) ?_ hHeld ?_
      rotate_left
      · (intro w hSw; (try dsimp only at hSw); go_simp; try with_reducible rfl)
      simp only [Act.put, List.setIfInBounds_toArray, List.set_cons_zero, List.set_cons_succ]
      refine take_at (i := 5) 18 (v := ?_) rfl rfl (by kernel_rfl) (by kernel_rfl) (by kernel_rfl) (fun _ _ _ h => h) (by rfl) ?_ hHeld ?_
      rotate_left
      · (intro w hSw; (try dsimp only at hSw); go_simp; try with_reducible rfl)
      simp only [Act.put, List.setIfInBounds_toArray, List.set_cons_zero, List.set_cons_succ]
      refine take_at (i := 6) 19 (v := ?_) rfl rfl (by kernel_rfl) (by kernel_rfl) (by kernel_rfl) (fun _ _ _ h => h) (by rfl) ?_ hHeld ?_
      rotate_left
      · (intro w hSw; (try dsimp only at hSw); go_simp; try with_reducible rfl)
      simp only [Act.put, List.setIfInBounds_toArray, List.set_cons_zero, List.set_cons_succ]
      refine take_at (i := 7) 20 (v := ?_) rfl rfl (by kernel_rfl) (by kernel_rfl) (by kernel_rfl) (fun _ _ _ h => h) (by rfl) ?_ hHeld ?_
      rotate_left
      · (intro w hSw; (try dsimp only at hSw); go_simp; try with_reducible rfl)
      simp only [Act.put, List.setIfInBounds_toArray, List.set_cons_zero, List.set_cons_succ]
      refine take_at (i := 8) 21 (v := ?_) rfl rfl (by kernel_rfl) (by kernel_rfl) (by kernel_rfl) (fun _ _ _ h => h) (by rfl) ?_ hHeld ?_
      rotate_left
      · (intro w hSw; (try dsimp only at hSw); go_simp; try with_reducible rfl)
      simp only [Act.put, List.setIfInBounds_toArray, List.set_cons_zero, List.set_cons_succ]
      refine take_at (i := 9) 22 (v := sv (t1, t2)) rfl rfl (by kernel_rfl) (by kernel_rfl) (by kernel_rfl) (fun _ _ _ h => h) (by rfl) ?_ hHeld ?_
      · (intro w hSw; refine exec_load (by rfl) ?_; exact hl4 w hSw)
      simp only [Act.put, List.setIfInBounds_toArray, List.set_cons_zero, List.set_cons_succ]
      refine take_at (i := 10) 23 (v := sv (x1, x2)) rfl rfl (by kernel_rfl) (by kernel_rfl) (by kernel_rfl) (fun _ _ _ h => h) (by rfl) ?_ hHeld ?_
      · (intro w hSw; refine exec_load (by rfl) ?_; exact hl3 w hSw)
      simp only [Act.put, List.setIfInBounds_toArray, List.set_cons_zero, List.set_cons_succ]
      refine take_at (i := 11) 24 (v := .bool false) rfl rfl (by kernel_rfl) (by kernel_rfl) (by kernel_rfl) (fun _ _ _ h => h) (by rfl) ?_ hHeld ?_
      · (intro w hSw; (try dsimp only at hSw); go_simp; obtain ⟨e1, e2⟩ := of_decide_eq_true HQ.out.symm; simp [e1, e2])
      simp only [Act.put, List.setIfInBounds_toArray, List.set_cons_zero, List.set_cons_succ]
      refine take_at (i := 12) 25 (v := ?_) rfl rfl (by kernel_rfl) (by kernel_rfl) (by kernel_rfl) (fun _ _ _ h => h) (by rfl) ?_ hHeld ?_
      rotate_left
      · (intro w hSw; (try dsimp only at hSw); go_simp; try with_reducible rfl)
      simp only [Act.put, List.setIfInBounds_toArray, List.set_cons_zero, List.set_cons_succ]
      refine take_at (i := 13) 26 (v := ?_) rfl rfl (by kernel_rfl) (by kernel_rfl) (by kernel_rfl) (fun _ _ _ h => h) (by rfl) ?_ hHeld ?_
      rotate_left
      · (intro w hSw; (try dsimp only at hSw); go_simp; try with_reducible rfl)
      simp only [Act.put, List.setIfInBounds_toArray, List.set_cons_zero, List.set_cons_succ]
      refine take_at (i := 14) 27 (v := ?_) rfl rfl (by kernel_rfl) (by kernel_rfl) (by kernel_rfl) (fun _ _ _ h => h) (by rfl) ?_ hHeld ?_
      rotate_left
      · (intro w hSw; (try dsimp only at hSw); go_simp; try with_reducible rfl)
      simp only [Act.put, List.setIfInBounds_toArray, List.set_cons_zero, List.set_cons_succ]
      refine take_at (i := 15) 28 (v := ?_) rfl rfl (by kernel_rfl) (by kernel_rfl) (by kernel_rfl) (fun _ _ _ h => h) (by rfl) ?_ hHeld ?_
      rotate_left
      · (intro w hSw; (try dsimp only at hSw); go_simp; try with_reducible rfl)
      simp only [Act.put, List.setIfInBounds_toArray, List.set_cons_zero, List.set_cons_succ]
      refine take_at (i := 16) 29 (v := ?_) rfl rfl (by kernel_rfl) (by kernel_rfl) (by kernel_rfl) (fun _ _ _ h => h) (by rfl) ?_ hHeld ?_
      rotate_left
      · (intro w hSw; (try dsimp only at hSw); go_simp; try with_reducible rfl)
      simp only [Act.put, List.setIfInBounds_toArray, List.set_cons_zero, List.set_cons_succ]
      refine take_at (i := 17) 30 (v := ?_) rfl rfl (by kernel_rfl) (by kernel_rfl) (by kernel_rfl) (fun _ _ _ h => h) (by rfl) ?_ hHeld ?_
      rotate_left
      · (intro w hSw; (try dsimp only at hSw); go_simp; try with_reducible rfl)
      simp only [Act.put, List.setIfInBounds_toArray, List.set_cons_zero, List.set_cons_succ]
      refine take_at (i := 18) 31 (v := ?_) rfl rfl (by kernel_rfl) (by kernel_rfl) (by kernel_rfl) (fun _ _ _ h => h) (by rfl) ?_ hHeld ?_
      rotate_left
      · (intro w hSw; (try dsimp only at hSw); go_simp; try with_reducible rfl)
      simp only [Act.put, List.setIfInBounds_toArray, List.set_cons_zero, List.set_cons_succ]
      refine take_at (i := 19) 32 (v := ?_) rfl rfl (by kernel_rfl) (by kernel_rfl) (by kernel_rfl) (fun _ _ _ h => h) (by rfl) ?_ hHeld ?_
      rotate_left
      · (intro w hSw; (try dsimp only at hSw); go_simp; try with_reducible rfl)
      simp only [Act.put, List.setIfInBounds_toArray, List.set_cons_zero, List.set_cons_succ]
      refine take_at (i := 20) 33 (v := .bool (!q2)) rfl rfl (by kernel_rfl) (by kernel_rfl) (by kernel_rfl) (fun _ _ _ h => h) (by rfl) ?_ hHeld ?_
      · (intro w hSw; (try dsimp only at hSw); go_simp; rw [HQ2.out]; by_cases e1 : tn = xn <;> simp [e1, Int.natCast_inj])
      simp only [Act.put, List.setIfInBounds_toArray, List.set_cons_zero, List.set_cons_succ]
      refine take_at (i := 21) 34 (v := ?_) rfl rfl (by kernel_rfl) (by kernel_rfl) (by kernel_rfl) (fun _ _ _ h => h) (by rfl) ?_ hHeld ?_
      rotate_left
      · (intro w hSw; (try dsimp only at hSw); go_simp; try with_reducible rfl)
      simp only [Act.put, List.setIfInBounds_toArray, List.set_cons_zero, List.set_cons_succ]
      refine wpAnyH_done (by kernel_rfl) ?_ _
      cases q2
      case true =>
        have HP : Hid (pre ++ [(⟨(x1, x2), xn⟩ : Ent)] <+: L) := HEX.out.2 ⟨rfl, rfl⟩
        gi_wp2
        exact ⟨(HKP.out _ rfl).1, (HKP.out _ rfl).2.1, HP.out, by rw [List.length_append, HPR.out]; exact (HKP.out _ rfl).2.2.1, hn1, hn2, (HKP.out _ rfl).2.2.2.1, (fun j hj => by have := hzl j hj; rw [(HKP.out _ rfl).2.2.2.2]; exact this), by rw [(HKP.out _ rfl).2.2.2.2]; exact hzs⟩
      case false =>
        have HP : Hid (¬ (pre ++ [(⟨(x1, x2), xn⟩ : Ent)] <+: L)) := fun h9 => by have := (HEX.out.1 h9).2; cases this
        gi_wp2
        exact ⟨(HKF.out _ rfl).1, (HKF.out _ rfl).2, rfl, HP.out⟩
    case false =>
      have HP : Hid (¬ (pre ++ [(⟨(x1, x2), xn⟩ : Ent)] <+: L)) := fun h9 => by have := (HEX.out.1 h9).1; cases this
      refine wpIn_region_held_drew (S := (fun u => u.heap = V.heap)) (by kernel_rfl) (by first | exact rfl | assumption) (by kernel_rfl) (fun ⟨_, _, h9⟩ => h9) (fun hHeld => ?_)
      refine take_at (i := 0) 13 (v := ?_) rfl rfl (by kernel_rfl) (by kernel_rfl) (by kernel_rfl) (fun _ _ _ h => h) (by rfl) ?_ hHeld ?_
      rotate_left
      · (intro w hSw; (try dsimp only at hSw); go_simp; try with_reducible rfl)
      simp only [Act.put, List.setIfInBounds_toArray, List.set_cons_zero, List.set_cons_succ]
      refine take_at (i := 1) 14 (v := ?_) rfl rfl (by kernel_rfl) (by kernel_rfl) (by kernel_rfl) (fun _ _ _ h => h) (by rfl) ?_ hHeld ?_
      rotate_left
      · (intro w hSw; (try dsimp only at hSw); go_simp; try with_reducible rfl)
      simp only [Act.put, List.setIfInBounds_toArray, List.set_cons_zero, List.set_cons_succ]
      refine take_at (i := 2) 15 (v := ?_) rfl rfl (by kernel_rfl) (by kernel_rfl) (by kernel_rfl) (fun _ _ _ h => h) (by rfl) ?_ hHeld ?_
      rotate_left
      · (intro w hSw; (try dsimp only at hSw); go_simp; try with_reducible rfl)
      simp only [Act.put, List.setIfInBounds_toArray, List.set_cons_zero, List.set_cons_succ]
      refine take_at (i := 3) 16 (v := .bool false) rfl rfl (by kernel_rfl) (by kernel_rfl) (by kernel_rfl) (fun _ _ _ h => h) (by rfl) ?_ hHeld ?_
      · (intro w hSw; (try dsimp only at hSw); go_simp; try (first | (simp; done) | (simp; omega)))
      simp only [Act.put, List.setIfInBounds_toArray, List.set_cons_zero, List.set_cons_succ]
      refine take_at (i := 4) 17 (v := ?_) rfl rfl (by kernel_rfl) (by kernel_rfl) (by kernel_rfl) (fun _ _ _ h => h) (by rfl) ?_ hHeld ?_
      rotate_left
      · (intro w hSw; (try dsimp only at hSw); go_simp; try with_reducible rfl)
      simp only [Act.put, List.setIfInBounds_toArray, List.set_cons_zero, List.set_cons_succ]
      refine take_at (i := 5) 18 (v := ?_) rfl rfl (by kernel_rfl) (by kernel_rfl) (by kernel_rfl) (fun _ _ _ h => h) (by rfl) ?_ hHeld ?_
      rotate_left
      · (intro w hSw; (try dsimp only at hSw); go_simp; try with_reducible rfl)
      simp only [Act.put, List.setIfInBounds_toArray, List.set_cons_zero, List.set_cons_succ]
      refine take_at (i := 6) 19 (v := ?_) rfl rfl (by kernel_rfl) (by kernel_rfl) (by kernel_rfl) (fun _ _ _ h => h) (by rfl) ?_ hHeld ?_
      rotate_left
      · (intro w hSw; (try dsimp only at hSw); go_simp; try with_reducible rfl)
      simp only [Act.put, List.setIfInBounds_toArray, List.set_cons_zero, List.set_cons_succ]
      refine take_at (i := 7) 20 (v := ?_) rfl rfl (by kernel_rfl) (by kernel_rfl) (by kernel_rfl) (fun _ _ _ h => h) (by rfl) ?_ hHeld ?_
      rotate_left
      · (intro w hSw; (try dsimp only at hSw); go_simp; try with_reducible rfl)
      simp only [Act.put, List.setIfInBounds_toArray, List.set_cons_zero, List.set_cons_succ]
      refine take_at (i := 8) 21 (v := ?_) rfl rfl (by kernel_rfl) (by kernel_rfl) (by kernel_rfl) (fun _ _ _ h => h) (by rfl) ?_ hHeld ?_
      rotate_left
      · (intro w hSw; (try dsimp only at hSw); go_simp; try with_reducible rfl)
      simp only [Act.put, List.setIfInBounds_toArray, List.set_cons_zero, List.set_cons_succ]
      refine take_at (i := 9) 22 (v := sv (t1, t2)) rfl rfl (by kernel_rfl) (by kernel_rfl) (by kernel_rfl) (fun _ _ _ h => h) (by rfl) ?_ hHeld ?_
      · (intro w hSw; refine exec_load (by rfl) ?_; exact hl4 w hSw)
      simp only [Act.put, List.setIfInBounds_toArray, List.set_cons_zero, List.set_cons_succ]
      refine take_at (i := 10) 23 (v := sv (x1, x2)) rfl rfl (by kernel_rfl) (by kernel_rfl) (by kernel_rfl) (fun _ _ _ h => h) (by rfl) ?_ hHeld ?_
      · (intro w hSw; refine exec_load (by rfl) ?_; exact hl3 w hSw)
      simp only [Act.put, List.setIfInBounds_toArray, List.set_cons_zero, List.set_cons_succ]
      refine take_at (i := 11) 24 (v := .bool true) rfl rfl (by kernel_rfl) (by kernel_rfl) (by kernel_rfl) (fun _ _ _ h => h) (by rfl) ?_ hHeld ?_
      · (intro w hSw; (try dsimp only at hSw); go_simp; have e9 := of_decide_eq_false HQ.out.symm; by_cases e1 : t1 = x1 <;> by_cases e2 : t2 = x2 <;> simp_all [Int.natCast_inj])
      simp only [Act.put, List.setIfInBounds_toArray, List.set_cons_zero, List.set_cons_succ]
      refine take_at (i := 12) 25 (v := ?_) rfl rfl (by kernel_rfl) (by kernel_rfl) (by kernel_rfl) (fun _ _ _ h => h) (by rfl) ?_ hHeld ?_
      rotate_left
      · (intro w hSw; (try dsimp only at hSw); go_simp; try with_reducible rfl)
      simp only [Act.put, List.setIfInBounds_toArray, List.set_cons_zero, List.set_cons_succ]
      refine take_at (i := 13) 26 (v := ?_) rfl rfl (by kernel_rfl) (by kernel_rfl) (by kernel_rfl) (fun _ _ _ h => h) (by rfl) ?_ hHeld ?_
      rotate_left
      · (intro w hSw; (try dsimp only at hSw); go_simp; try with_reducible rfl)
      simp only [Act.put, List.setIfInBounds_toArray, List.set_cons_zero, List.set_cons_succ]
      refine skip_at (i := 14) 27 rfl rfl (by kernel_rfl) (by kernel_rfl) (by kernel_rfl) (fun _ _ _ h => h) (by rfl) hHeld ?_
      simp only [Act.put, List.setIfInBounds_toArray, List.set_cons_zero, List.set_cons_succ]
      refine skip_at (i := 15) 28 rfl rfl (by kernel_rfl) (by kernel_rfl) (by kernel_rfl) (fun _ _ _ h => h) (by rfl) hHeld ?_
      simp only [Act.put, List.setIfInBounds_toArray, List.set_cons_zero, List.set_cons_succ]
      refine skip_at (i := 16) 29 rfl rfl (by kernel_rfl) (by kernel_rfl) (by kernel_rfl) (fun _ _ _ h => h) (by rfl) hHeld ?_
      simp only [Act.put, List.setIfInBounds_toArray, List.set_cons_zero, List.set_cons_succ]
      refine skip_at (i := 17) 30 rfl rfl (by kernel_rfl) (by kernel_rfl) (by kernel_rfl) (fun _ _ _ h => h) (by rfl) hHeld ?_
      simp only [Act.put, List.setIfInBounds_toArray, List.set_cons_zero, List.set_cons_succ]
      refine skip_at (i := 18) 31 rfl rfl (by kernel_rfl) (by kernel_rfl) (by kernel_rfl) (fun _ _ _ h => h) (by rfl) hHeld ?_
      simp only [Act.put, List.setIfInBounds_toArray, List.set_cons_zero, List.set_cons_succ]
      refine skip_at (i := 19) 32 rfl rfl (by kernel_rfl) (by kernel_rfl) (by kernel_rfl) (fun _ _ _ h => h) (by rfl) hHeld ?_
      simp only [Act.put, List.setIfInBounds_toArray, List.set_cons_zero, List.set_cons_succ]
      refine skip_at (i := 20) 33 rfl rfl (by kernel_rfl) (by kernel_rfl) (by kernel_rfl) (fun _ _ _ h => h) (by rfl) hHeld ?_
      simp only [Act.put, List.setIfInBounds_toArray, List.set_cons_zero, List.set_cons_succ]
      refine take_at (i := 21) 34 (v := ?_) rfl rfl (by kernel_rfl) (by kernel_rfl) (by kernel_rfl) (fun _ _ _ h => h) (by rfl) ?_ hHeld ?_
      rotate_left
      · (intro w hSw; (try dsimp only at hSw); go_simp; try with_reducible rfl)
      simp only [Act.put, List.setIfInBounds_toArray, List.set_cons_zero, List.set_cons_succ]
      refine wpAnyH_done (by kernel_rfl) ?_ _
      gi_wp2
      exact ⟨(HKF.out _ rfl).1, (HKF.out _ rfl).2, rfl, HP.out⟩
  case done =>
    rintro D xs Z V hD rfl ⟨hpre, hB, hn1, hn2, hbv, hzl, hzs⟩ hK
    rw [← HN.out] at hB
    have hc0 : V.cell? ⟨H, 0, none⟩ = some (.slice ab N cb) := by rw [cell_of_row _ _ _ _ _ _ hB.a]; rfl
    have hc1 : V.cell? ⟨H + 1, 0, none⟩ = some (.bool false) := by rw [cell_of_row _ _ _ _ _ _ hB.b]; rfl
    have hf1 : V.frozen? ⟨H + 1, 0, none⟩ = false := by simp [World.frozen?, hB.b]
    have hc2 : V.cell? ⟨H + 1 + 1, 0, none⟩ = some (.int .i64 (N : Int)) := by rw [show H + 1 + 1 = H + 2 from rfl, cell_of_row _ _ _ _ _ _ hB.c]; rfl
    have HLV : Hid _ := HLN.out V.drew (by have h9 := hbv.drew; rw [HH.out] at h9; exact h9)
    have HDN : Hid (∀ u : World, u = V.drew.setCell ⟨H + 1, 0, none⟩ (.bool true) → u.heap[H + 1]? = some (.cells #[.bool true] 4 (0, 0)) ∧ Below H w u ∧ u.heap[D]? = some (.deferred (some []))) := fun u hu => by
      have k1 : KeepsOthers V u := by rw [hu]; exact (KeepsOthers.drew _).trans (KeepsOthers.setCell _ _ _)
      refine ⟨?_, ?_, k1.same D _ hK rfl⟩
      · rw [hu, heap_setCell_same V.drew (H + 1) 0 _ _ _ hB.b]; rfl
      · rw [hu]; exact hbv.drew.setCell (p := ⟨H + 1, 0, none⟩) (by simp) _
    have hcS : ∀ u : World, u.cell? ⟨H + 1 + 1, 0, none⟩ = some (.int .i64 (N : Int)) ∧ u.cell? ⟨H, 0, none⟩ = some (.slice ab N cb) → u.cell? ⟨H + 1 + 1, 0, none⟩ = some (.int .i64 (N : Int)) := fun u h9 => h9.1
    have hcS2 : ∀ u : World, u.cell? ⟨H + 1 + 1, 0, none⟩ = some (.int .i64 (N : Int)) ∧ u.cell? ⟨H, 0, none⟩ = some (.slice ab N cb) → u.cell? ⟨H, 0, none⟩ = some (.slice ab N cb) := fun u h9 => h9.2
    have HS9 : Hid ((V.drew.setCell ⟨H + 1, 0, none⟩ (.bool true)).cell? ⟨H + 1 + 1, 0, none⟩ = some (.int .i64 (N : Int)) ∧ (V.drew.setCell ⟨H + 1, 0, none⟩ (.bool true)).cell? ⟨H, 0, none⟩ = some (.slice ab N cb)) := ⟨(World.cell?_setCell_far V.drew _ _ _ (by simp)).trans hc2, (World.cell?_setCell_far V.drew _ _ _ (by simp)).trans hc0⟩
    gi_wp2
    refine wpIn_wide.2 ?_
    refine wp_region_noPanic ?_
    refine wp_region_held_drew (S := (fun u => u.cell? ⟨H + 1 + 1, 0, none⟩ = some (.int .i64 (N : Int)) ∧ u.cell? ⟨H, 0, none⟩ = some (.slice ab N cb))) (by kernel_rfl) (by first | exact ⟨hc2, hc0⟩ | assumption | exact HS9.out) (fun hHeld => ?_)
    refine take_at (i := 0) 37 (v := ?_) rfl rfl (by kernel_rfl) (by kernel_rfl) (by kernel_rfl) (fun _ _ _ h => h) (by rfl) ?_ hHeld ?_
    rotate_left
    · (intro w hSw; (try dsimp only at hSw); go_simp; try with_reducible rfl)
    simp only [Act.put, List.setIfInBounds_toArray, List.set_cons_zero, List.set_cons_succ]
    refine take_at (i := 1) 38 (v := ?_) rfl rfl (by kernel_rfl) (by kernel_rfl) (by kernel_rfl) (fun _ _ _ h => h) (by rfl) ?_ hHeld ?_
    rotate_left
    · (intro w hSw; (try dsimp only at hSw); go_simp; try with_reducible rfl)
    simp only [Act.put, List.setIfInBounds_toArray, List.set_cons_zero, List.set_cons_succ]
    refine take_at (i := 2) 39 (v := ?_) rfl rfl (by kernel_rfl) (by kernel_rfl) (by kernel_rfl) (fun _ _ _ h => h) (by rfl) ?_ hHeld ?_
    rotate_left
    · (intro w hSw; (try dsimp only at hSw); go_simp; try with_reducible rfl)
    simp only [Act.put, List.setIfInBounds_toArray, List.set_cons_zero, List.set_cons_succ]
    refine take_at (i := 3) 40 (v := ?_) rfl rfl (by kernel_rfl) (by kernel_rfl) (by kernel_rfl) (fun _ _ _ h => h) (by rfl) ?_ hHeld ?_
    rotate_left
    · (intro w hSw; (try dsimp only at hSw); go_simp; try with_reducible rfl)
    simp only [Act.put, List.setIfInBounds_toArray, List.set_cons_zero, List.set_cons_succ]
    refine take_at (i := 4) 41 (v := ?_) rfl rfl (by kernel_rfl) (by kernel_rfl) (by kernel_rfl) (fun _ _ _ h => h) (by rfl) ?_ hHeld ?_
    rotate_left
    · (intro w hSw; (try dsimp only at hSw); go_simp; try with_reducible rfl)
    simp only [Act.put, List.setIfInBounds_toArray, List.set_cons_zero, List.set_cons_succ]
    refine take_at (i := 5) 42 (v := ?_) rfl rfl (by kernel_rfl) (by kernel_rfl) (by kernel_rfl) (fun _ _ _ h => h) (by rfl) ?_ hHeld ?_
    rotate_left
    · (intro w hSw; (try dsimp only at hSw); go_simp; try with_reducible rfl)
    simp only [Act.put, List.setIfInBounds_toArray, List.set_cons_zero, List.set_cons_succ]
    refine take_at (i := 7) 44 (v := ?_) rfl rfl (by kernel_rfl) (by kernel_rfl) (by kernel_rfl) (fun _ _ _ h => h) (by rfl) ?_ hHeld ?_
    rotate_left
    · (intro w hSw; (try dsimp only at hSw); go_simp; try with_reducible rfl)
    simp only [Act.put, List.setIfInBounds_toArray, List.set_cons_zero, List.set_cons_succ]
    refine run_at (i := 6) rfl (by kernel_rfl) (by rfl) (fun K hK => ?_)
    simp only [List.getElem_toArray, List.getElem_cons_zero, List.getElem_cons_succ]
    go_simp
    (go_at_call 23; refine Calls.mono HLV.out ?_; rintro e w9 ⟨rfl, hw9⟩; subst hw9)
    go_wp2_with fail
    refine hK.out _ _ (by first | exact ⟨hc2, hc0⟩ | assumption | exact HS9.out) ?_
    clear hK K
    intro hHeld2
    clear hHeld
    have hHeld := hHeld2
    clear hHeld2
    try simp only [Act.put, List.setIfInBounds_toArray, List.set_cons_zero, List.set_cons_succ]
    refine take_at (i := 8) 45 (v := ?_) rfl rfl (by kernel_rfl) (by kernel_rfl) (by kernel_rfl) (fun _ _ _ h => h) (by rfl) ?_ hHeld ?_
    rotate_left
    · (intro w hSw; (try dsimp only at hSw); go_simp; try with_reducible rfl)
    simp only [Act.put, List.setIfInBounds_toArray, List.set_cons_zero, List.set_cons_succ]
    refine take_at (i := 9) 46 (v := ?_) rfl rfl (by kernel_rfl) (by kernel_rfl) (by kernel_rfl) (fun _ _ _ h => h) (by rfl) ?_ hHeld ?_
    rotate_left
    · (intro w hSw; (try dsimp only at hSw); go_simp; try with_reducible rfl)
    simp only [Act.put, List.setIfInBounds_toArray, List.set_cons_zero, List.set_cons_succ]
    refine run_at (i := 10) rfl (by kernel_rfl) (by rfl) (fun K hK => ?_)
    simp only [List.getElem_toArray, List.getElem_cons_zero, List.getElem_cons_succ]
    go_simp
    go_wp2_with fail
    refine hK.out _ _ (by first | exact ⟨hc2, hc0⟩ | assumption | exact HS9.out) ?_
    clear hK K
    intro hHeld2
    clear hHeld
    have hHeld := hHeld2
    clear hHeld2
    try simp only [Act.put, List.setIfInBounds_toArray, List.set_cons_zero, List.set_cons_succ]
    refine wpAnyH_done (by kernel_rfl) ?_ _
    refine NoPanic.normal ?_
    gi_wp2
    refine ⟨by simp, .inl ⟨_, _, rfl, run_takeDeferred (HDN.out _ rfl).2.2, ?_⟩⟩
    exact ⟨_, results_cb rfl _ ((World.putObj_heap_other (by have := HH2.out; omega)).trans (HDN.out _ rfl).1) rfl, rfl, by
      exact ((HDN.out _ rfl).2.1.mono (Nat.le_of_eq HH.out.symm)).trans (belowK_b (w := w) (Nat.le_refl _) _ D _ _ (by have := HH2.out; have := HH.out; omega) (HDN.out _ rfl).2.2 rfl rfl)⟩
  case stop =>
    rintro D c pre Z V hD hpre ⟨-, hno⟩ hK
    exact absurd hpre hno
end
end Go.Proofs.Ytnhjkipaclchiaa
