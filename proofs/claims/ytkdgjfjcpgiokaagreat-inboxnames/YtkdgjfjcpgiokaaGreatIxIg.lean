import Derived.Test.YtkdgjfjcpgiokaaGreatIxIf
namespace Go.Proofs.YtkdgjfjcpgiokaaGreat
set_option linter.unusedVariables false
set_option linter.unusedSimpArgs false
open Go.RowKit Go.Maps
/-- is it a unit of data? -/
def dataP (k e se pa i c : Int) (dn : Nat) (cd : Int) (gn : Nat) : Prop := k = 1 ∧ nameOk e ∧ nameOk se ∧ ((pa = 1 ∨ pa = 2) ∧ (0 ≤ i ∧ i < 64) ∧ (i < c ∧ c ≤ 64) ∧ (1 ≤ dn ∧ dn ≤ 1024) ∧ (cd = 0 ∧ gn = 0))
/-- what a Take leaves and answers -/
def TkPost (w : World) (p m1 m2 T1 T2 : Nat) (E : List (Ss × Bg)) (I' : Ib) (a : Ans) (e : Ending) (w' : World) : Prop :=
  ∃ T1' T2' E' G' B ga ba gn gc bn bc rs xs, e = .returned (ansV a ga ba gn gc bn bc) ∧ AnsAt w' B a ga ba gn gc bn bc rs xs ∧ Ibx none w' p m1 m2 T1' T2' I' E' G' ∧ T1' ≤ T1 + 1 ∧ T2' ≤ T2 + 1 ∧ Chg (footI none p m1 m2 E) w w' ∧ (∀ b, footI none p m1 m2 E' b → (footI none p m1 m2 E b ∨ w.heap.size ≤ b) ∧ b < B) ∧ w.heap.size ≤ B
section
variable {w w' : World} {p m1 m2 T1 T2 : Nat} {I : Ib} {E : List (Ss × Bg)} {G : List (Ss × (Int × Nat))}
theorem TkPost.same (h : Ibx none w p m1 m2 T1 T2 I E G) (hb : Below w.heap.size w w') (s c : Int) (e : Ending) (he : e = .returned (ansV ⟨s, c, none⟩ none none 0 0 0 0)) : TkPost w p m1 m2 T1 T2 E I ⟨s, c, none⟩ e w' :=
  ⟨T1, T2, E, G, w'.heap.size, none, none, 0, 0, 0, 0, [], [], he, AnsAt.plain _ _ _ _, h.below hb, Nat.le_succ _, Nat.le_succ _, Chg.of_below hb, fun b hf => ⟨.inl hf, (h.below hb).lt hf⟩, hb.size⟩
theorem ihear_t (h : Ibx none w p m1 m2 T1 T2 I E G) (e : Nat) (h6 : e < 18446744073709551616) : Calls Tryz.prog 35 #[.pointer (some ⟨p, 0, none⟩), .int .u64 (e : Int)] w fun r w' => r = .returned (.tuple #[]) ∧ ∃ E' G', Ibx none w' p m1 m2 T1 T2 (riseI I e) E' G' ∧ (∀ b, footI none p m1 m2 E' b → footI none p m1 m2 E b) ∧ Chg (fun b => b = p ∨ b = m1 ∨ b = m2) w w' := by
  unfold riseI
  by_cases he : I.ep < e
  · rw [if_pos he]
    refine Calls.mono (ihear_up h e he h6) ?_
    rintro r w' ⟨rfl, h1, h2⟩
    refine ⟨rfl, [], [], h1, fun b hb => ?_, h2⟩
    rcases hb with hb | hb | hb | ⟨x, hx, -⟩
    · exact .inl hb
    · exact .inr (.inl hb)
    · exact .inr (.inr (.inl hb))
    · cases hx
  · rw [if_neg he]
    refine Calls.mono (ihear_no h e (by omega)) ?_
    rintro r w' ⟨rfl, rfl⟩
    exact ⟨rfl, E, G, h, fun b hb => hb, Chg.refl _ _⟩
/-- the boxes of Take's own -/
theorem tkBox (w : World) (k e se pa i c : Int) (da : Option Addr) (dn dc : Nat) (cd : Int) (ga : Option Addr) (gn gc : Nat) : ∀ u, Below (w.heap.size + 2) ((w.alloc (.cells (unC k e se pa i c da dn dc cd ga gn gc) tUn)).alloc (.cells #[.int .i64 0, .int .i64 0, .slice none 0 0, .slice none 0 0] 59)) u →
    u.heap[w.heap.size]? = some (.cells (unC k e se pa i c da dn dc cd ga gn gc) tUn (0, 0)) ∧ u.heap[w.heap.size + 1]? = some (.cells #[.int .i64 0, .int .i64 0, .slice none 0 0, .slice none 0 0] 59 (0, 0)) ∧ Below w.heap.size w u := fun u hu => by
  have h9 : u.heap[w.heap.size]? = some (.cells (unC k e se pa i c da dn dc cd ga gn gc) tUn (0, 0)) := (hu.block w.heap.size (by omega)).trans ((Below.heap_alloc _ _ _ (by simp)).trans (heap_alloc_new w _))
  have h8 : u.heap[w.heap.size + 1]? = some (.cells #[.int .i64 0, .int .i64 0, .slice none 0 0, .slice none 0 0] 59 (0, 0)) := by
    refine (hu.block (w.heap.size + 1) (by omega)).trans ?_
    have h7 := heap_alloc_new (w.alloc (.cells (unC k e se pa i c da dn dc cd ga gn gc) tUn)) (.cells #[.int .i64 0, .int .i64 0, .slice none 0 0, .slice none 0 0] 59)
    rw [World.size_alloc] at h7
    exact h7
  exact ⟨h9, h8, (al (al (Below.refl w.heap.size w) _) _).trans (hu.mono (by omega))⟩
theorem unCell {u : World} {P : Nat} {k e se pa i c : Int} {da : Option Addr} {dn dc : Nat} {cd : Int} {ga : Option Addr} {gn gc : Nat} (h : u.heap[P]? = some (.cells (unC k e se pa i c da dn dc cd ga gn gc) tUn (0, 0))) : u.cell? ⟨P, 0, none⟩ = some (.int .i64 k) ∧ u.cell? ⟨P, 1, none⟩ = some (.int .u64 e) ∧ u.cell? ⟨P, 2, none⟩ = some (.int .u64 se) ∧ u.cell? ⟨P, 3, none⟩ = some (.int .i64 pa) ∧ u.cell? ⟨P, 4, none⟩ = some (.int .i64 i) ∧ u.cell? ⟨P, 5, none⟩ = some (.int .i64 c) ∧ u.cell? ⟨P, 6, none⟩ = some (.slice da dn dc) ∧ u.cell? ⟨P, 7, none⟩ = some (.int .i64 cd) ∧ u.cell? ⟨P, 8, none⟩ = some (.slice ga gn gc) :=
  ⟨by rw [cell_of_row _ _ _ _ _ _ h]; rfl, by rw [cell_of_row _ _ _ _ _ _ h]; rfl, by rw [cell_of_row _ _ _ _ _ _ h]; rfl, by rw [cell_of_row _ _ _ _ _ _ h]; rfl, by rw [cell_of_row _ _ _ _ _ _ h]; rfl, by rw [cell_of_row _ _ _ _ _ _ h]; rfl, by rw [cell_of_row _ _ _ _ _ _ h]; rfl, by rw [cell_of_row _ _ _ _ _ _ h]; rfl, by rw [cell_of_row _ _ _ _ _ _ h]; rfl⟩
theorem ansCell {u : World} {P : Nat} {a b c d : Value} (h : u.heap[P]? = some (.cells #[a, b, c, d] 59 (0, 0))) : u.cell? ⟨P, 0, none⟩ = some a ∧ u.cell? ⟨P, 1, none⟩ = some b ∧ u.cell? ⟨P, 2, none⟩ = some c ∧ u.cell? ⟨P, 3, none⟩ = some d ∧ u.frozen? ⟨P, 0, none⟩ = false ∧ u.frozen? ⟨P, 1, none⟩ = false ∧ u.frozen? ⟨P, 2, none⟩ = false ∧ u.frozen? ⟨P, 3, none⟩ = false :=
  ⟨by rw [cell_of_row _ _ _ _ _ _ h]; rfl, by rw [cell_of_row _ _ _ _ _ _ h]; rfl, by rw [cell_of_row _ _ _ _ _ _ h]; rfl, by rw [cell_of_row _ _ _ _ _ _ h]; rfl, by simp [World.frozen?, h], by simp [World.frozen?, h], by simp [World.frozen?, h], by simp [World.frozen?, h]⟩
set_option maxRecDepth 20000
set_option maxHeartbeats 1600000
/-- Valid of a unit of the first kind -/
theorem valid_1 (e se pa i c : Int) (da : Option Addr) (dn dc : Nat) (cd : Int) (ga : Option Addr) (gn gc : Nat) (w : World) (h : ¬ dataP 1 e se pa i c dn cd gn) : Calls Tryz.prog 34 #[.agg (unC 1 e se pa i c da dn dc cd ga gn gc)] w fun e w' => e = .returned (.int .i64 30) ∧ Below w.heap.size w w' := by
  by_cases h1 : nameOk e
  · by_cases h2 : nameOk se
    · exact valid_1b e se pa i c da dn dc cd ga gn gc [] w h1 h2 (fun h3 => h ⟨rfl, h1, h2, h3⟩)
    · exact valid_1s e se pa i c da dn dc cd ga gn gc [] w h1 h2
  · exact valid_1e e se pa i c da dn dc cd ga gn gc [] w h1
theorem take_no {q : Option Addr} (h : I0 w q) (k e se pa i c : Int) (da : Option Addr) (dn dc : Nat) (cd : Int) (ga : Option Addr) (gn gc : Nat) :
    Calls Tryz.prog 18 #[.pointer q, .agg (unC k e se pa i c da dn dc cd ga gn gc)] w fun r w' => r = .returned (ansV ⟨0, 0, none⟩ none none 0 0 0 0) ∧ Below w.heap.size w w' := by
  have HM : Hid _ := imade_no (h.below (al (al (Below.refl w.heap.size w) (.cells (unC k e se pa i c da dn dc cd ga gn gc) tUn)) (.cells #[.int .i64 0, .int .i64 0, .slice none 0 0, .slice none 0 0] 59)))
  clear h
  go_enter Tryz.func18, Tryz.ntmps18
  go_wp2_with (go_at_call 33; refine Calls.mono HM.out ?_; rintro e w' ⟨rfl, hq⟩; have hq := hq.symm; subst hq)
  exact bodyPost_ret (v := ansV ⟨0, 0, none⟩ none none 0 0 0 0) (by simp [results, Tryz.results18, go_sem]) rfl ⟨rfl, al (al (Below.refl _ _) _) _⟩
theorem take_kind (h : Ibx none w p m1 m2 T1 T2 I E G) (k e se pa i c : Int) (da : Option Addr) (dn dc : Nat) (cd : Int) (ga : Option Addr) (gn gc : Nat) (hk : k ≠ 1) :
    Calls Tryz.prog 18 #[.pointer (some ⟨p, 0, none⟩), .agg (unC k e se pa i c da dn dc cd ga gn gc)] w fun r w' => TkPost w p m1 m2 T1 T2 E I ⟨2, 0, none⟩ r w' := by
  have HM : Hid _ := imade_t (h.below (al (al (Below.refl w.heap.size w) (.cells (unC k e se pa i c da dn dc cd ga gn gc) tUn)) (.cells #[.int .i64 0, .int .i64 0, .slice none 0 0, .slice none 0 0] 59)))
  have HI : Hid _ := h
  have hk1 : (k != 1) = true := by simp [hk]
  clear h
  go_enter Tryz.func18, Tryz.ntmps18
  go_wp2_with (go_at_call 33; refine Calls.mono HM.out ?_; rintro e w' ⟨rfl, hq⟩; have hq := hq.symm; subst hq)
  exact bodyPost_ret (v := ansV ⟨2, 0, none⟩ none none 0 0 0 0) (by simp [results, Tryz.results18, go_sem]) rfl (TkPost.same HI.out (al (al (Below.refl _ _) _) _) 2 0 _ rfl)
theorem take_bad (h : Ibx none w p m1 m2 T1 T2 I E G) (e se pa i c : Int) (da : Option Addr) (dn dc : Nat) (cd : Int) (ga : Option Addr) (gn gc : Nat) (hd : ¬ dataP 1 e se pa i c dn cd gn) :
    Calls Tryz.prog 18 #[.pointer (some ⟨p, 0, none⟩), .agg (unC 1 e se pa i c da dn dc cd ga gn gc)] w fun r w' => TkPost w p m1 m2 T1 T2 E I ⟨2, 0, none⟩ r w' := by
  obtain ⟨w2, hw2⟩ : ∃ w2, w2 = (w.alloc (.cells (unC 1 e se pa i c da dn dc cd ga gn gc) tUn)).alloc (.cells #[.int .i64 0, .int .i64 0, .slice none 0 0, .slice none 0 0] 59) := ⟨_, rfl⟩
  have hbx := tkBox w 1 e se pa i c da dn dc cd ga gn gc
  rw [← hw2] at hbx
  have hz2 : w2.heap.size = w.heap.size + 2 := by rw [hw2]; simp
  have HM : Hid _ := imade_t (h.below (hbx w2 (Below.refl _ _)).2.2)
  have HV : Hid (Calls _ _ _ w2 _) := valid_1 e se pa i c da dn dc cd ga gn gc w2 hd
  have HI : Hid _ := h
  have HBX : Hid _ := hbx
  have HZ2 : Hid _ := hz2
  obtain ⟨a0, a1, a2, a3, a4, a5, a6, a7, a8⟩ := unCell (hbx w2 (Below.refl _ _)).1
  obtain ⟨P, hP⟩ : ∃ P, P = w.heap.size := ⟨_, rfl⟩
  have HP : Hid _ := hP
  rw [← hP] at a0 a1 a2 a3 a4 a5 a6 a7 a8
  have HW2 : Hid (w2 = _) := hw2
  clear h hbx hz2 hP hw2
  go_enter Tryz.func18, Tryz.ntmps18
  go_wp2_with fail
  rw [← HW2.out, ← HP.out]
  refine Calls.mono HM.out ?_
  rintro e' w' ⟨rfl, hq⟩
  have hq := hq.symm
  subst hq
  go_wp2_with fail
  refine Calls.mono HV.out ?_
  rintro e' w3 ⟨rfl, hb3⟩
  have hb3' : Below (w.heap.size + 2) w2 w3 := hb3.mono (by have := HZ2.out; omega)
  obtain ⟨-, hA, hbw⟩ := HBX.out w3 hb3'
  rw [← HP.out] at hA
  obtain ⟨b0, b1, b2, b3, f0, f1, f2, f3⟩ := ansCell hA
  clear hb3 hb3' hA
  go_wp2
  have hPw := HP.out
  exact bodyPost_ret (v := ansV ⟨2, 0, none⟩ none none 0 0 0 0) (by simp [results, Tryz.results18, go_sem, b0, b1, b2, b3, f0, f1, f2, f3]) rfl (TkPost.same HI.out ((((hbw.setCell (p := ⟨P + 1, 0, none⟩) (by show w.heap.size ≤ P + 1; omega) _).setCell (p := ⟨P + 1, 1, none⟩) (by show w.heap.size ≤ P + 1; omega) _).setCell (p := ⟨P + 1, 2, none⟩) (by show w.heap.size ≤ P + 1; omega) _).setCell (p := ⟨P + 1, 3, none⟩) (by show w.heap.size ≤ P + 1; omega) _) 2 0 _ rfl)
end
end Go.Proofs.YtkdgjfjcpgiokaaGreat
