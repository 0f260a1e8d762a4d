import Derived.Test.YtdoikcolkbjnfaaGreatLDb
import Derived.Test.YtdoikcolkbjnfaaGreatRL
namespace Go.Proofs.YtdoikcolkbjnfaaGreat
set_option linter.unusedVariables false
set_option linter.unusedSimpArgs false
open Go.RowKit Go.Maps
theorem erase_rm {α : Type} : ∀ {L : List (Ss × α)} {i : Nat} {s : Ss} (hi : i < L.length), (ks L).Nodup → L[i].1 = s → L.eraseIdx i = rm L s
  | [], i, s => fun hi => absurd hi (Nat.not_lt_zero _)
  | x :: r, 0, s => fun _ hn he => by
    have he' : x.1 = s := he
    subst he'
    rw [rm_head hn]
    rfl
  | x :: r, i + 1, s => fun hi hn he => by
    obtain ⟨h1, h2⟩ := List.nodup_cons.1 (show (x.1 :: ks r).Nodup from hn)
    have hi' : i < r.length := by simpa using hi
    have he' : r[i].1 = s := he
    have hx : x.1 ≠ s := fun e => h1 (by rw [e, ← he']; exact mem_ks (List.getElem_mem _))
    have h3 := erase_rm hi' h2 he'
    rw [List.eraseIdx_cons_succ, h3]
    unfold rm
    rw [List.filter_cons_of_pos (by simpa using hx)]
/-- the document's inbox with its boxes -/
structure Rv (w : World) (q : Nat) (vo vs : Value) (J : Ib) (E : List (Ss × Bg)) : Prop where
  m : RiM w q J.mo J.ms J.ep vo vs (mp Bg.q E) J.H
  bx : ∀ x, x ∈ E → RBx w (some ⟨x.2.q, 0, none⟩) (some x.2.S) x.2.F
  ap : E.Pairwise (fun x y => ∀ b, x.2.F b → y.2.F b → False)
  nf : ∀ x, x ∈ E → ∀ b, x.2.F b → b ≠ q ∧ vo.ownBlock ≠ some b ∧ vs.ownBlock ≠ some b
  eO : J.O = mp Bg.S E
  ok : IbOk J
def footV (q : Nat) (vo vs : Value) (E : List (Ss × Bg)) (b : Nat) : Prop := b = q ∨ vo.ownBlock = some b ∨ vs.ownBlock = some b ∨ ∃ x, x ∈ E ∧ x.2.F b
section
variable {w w' : World} {q : Nat} {vo vs : Value} {J : Ib} {E : List (Ss × Bg)}
theorem Rv.lt (h : Rv w q vo vs J E) {b : Nat} (hb : footV q vo vs E b) : b < w.heap.size := by
  rcases hb with rfl | hb | hb | ⟨x, hx, hf⟩
  · exact (Array.getElem?_eq_some_iff.1 h.m.hp).1
  · exact (OwnG.lt' h.m.ro hb).2
  · exact (OwnG.lt' h.m.rs hb).2
  · exact (h.bx x hx).lt b hf
theorem Rv.kept (h : Rv w q vo vs J E) (hs : w.heap.size ≤ w'.heap.size) (hk : ∀ b, footV q vo vs E b → w'.heap[b]? = w.heap[b]?) : Rv w' q vo vs J E :=
  ⟨⟨(hk q (.inl rfl)).trans h.m.hp, OwnG.kept h.m.ro (fun b hb => hk b (.inr (.inl hb))), OwnG.kept h.m.rs (fun b hb => hk b (.inr (.inr (.inl hb))))⟩, fun x hx => (h.bx x hx).kept hs (fun b hb => hk b (.inr (.inr (.inr ⟨x, hx, hb⟩)))), h.ap, h.nf, h.eO, h.ok⟩
theorem Rv.below (h : Rv w q vo vs J E) (hb : Below w.heap.size w w') : Rv w' q vo vs J E := h.kept hb.size (fun b hf => hb.block b (h.lt hf))
theorem Rv.ksO (h : Rv w q vo vs J E) : ks J.O = ks E := by rw [h.eO, ks_mp]
theorem Rv.lenO (h : Rv w q vo vs J E) : (mp Bg.q E).length ≤ 64 := by
  have h1 := h.ok.lo
  have h2 := h.ok.o1
  rw [h.eO, len_mp] at h1
  rw [len_mp]
  omega
theorem Rv.lenH (h : Rv w q vo vs J E) : J.H.length ≤ 4096 := Nat.le_trans h.ok.ls h.ok.s1
/-- an open session's place is taken out -/
theorem Rv.outd (h : Rv w q vo vs J E) {i : Nat} {s : Ss} (hi : i < (mp Bg.q E).length) (hs : (mp Bg.q E)[i].1 = s) {v' : Value} (hm : RiM w' q J.mo J.ms J.ep v' vs ((mp Bg.q E).eraseIdx i) J.H) (hf : ∀ b, v'.ownBlock = some b → w.heap.size ≤ b) (hc : Chg (fun b => b = q) w w') : Rv w' q v' vs (dropI J s) (rm E s) := by
  have hn : (ks (mp Bg.q E)).Nodup := by rw [ks_mp, ← h.ksO]; exact h.ok.no
  have he := erase_rm hi hn hs
  rw [he, ← rm_mp] at hm
  have hin : ∀ x, x ∈ rm E s → x ∈ E := fun x hx => (mem_rm.1 hx).1
  refine ⟨hm, fun x hx => (h.bx x (hin x hx)).kept hc.size (fun b hb => hc.block b ((h.bx x (hin x hx)).lt b hb) (h.nf x (hin x hx) b hb).1), h.ap.filter _, fun x hx b hb => ⟨(h.nf x (hin x hx) b hb).1, fun e => ?_, (h.nf x (hin x hx) b hb).2.2⟩, ?_, h.ok.rm s⟩
  · have h1 := hf b e
    have h2 := (h.bx x (hin x hx)).lt b hb
    omega
  · show rm J.O s = _
    rw [h.eO, rm_mp]
theorem footV_rm {v' : Value} {s : Ss} {b : Nat} (hf : ∀ b, v'.ownBlock = some b → w.heap.size ≤ b) (hb : footV q v' vs (rm E s) b) : footV q vo vs E b ∨ w.heap.size ≤ b := by
  rcases hb with hb | hb | hb | ⟨x, hx, hb⟩
  · exact .inl (.inl hb)
  · exact .inr (hf b hb)
  · exact .inl (.inr (.inr (.inl hb)))
  · exact .inl (.inr (.inr (.inr ⟨x, (mem_rm.1 hx).1, hb⟩)))
/-- what a call leaves of the document's inbox -/
def LfV (w : World) (q : Nat) (vo vs : Value) (E : List (Ss × Bg)) (J' : Ib) (w' : World) : Prop := ∃ vo' vs' E', Rv w' q vo' vs' J' E' ∧ Chg (footV q vo vs E) w w' ∧ ∀ b, footV q vo' vs' E' b → footV q vo vs E b ∨ w.heap.size ≤ b
theorem LfV.same (h : Rv w q vo vs J E) (hb : Below w.heap.size w w') : LfV w q vo vs E J w' := ⟨vo, vs, E, h.below hb, Chg.of_below hb, fun b hb => .inl hb⟩
set_option maxRecDepth 20000
set_option maxHeartbeats 3200000
theorem rdrop_t (h : Rv w q vo vs J E) (s : Ss) : Calls Tryz.prog 47 #[.pointer (some ⟨q, 0, none⟩), sv s] w fun e w' => e = .returned (.bool (decide (s ∈ ks J.O))) ∧ LfV w q vo vs E (dropI J s) w' := by
  obtain ⟨s1, s2⟩ := s
  obtain ⟨w1, hw1⟩ : ∃ w1, w1 = w.alloc (.cells #[.int .u64 (s1 : Int), .int .u64 (s2 : Int)] tRs) := ⟨_, rfl⟩
  have hb1 : Below w.heap.size w w1 := by rw [hw1]; exact al (Below.refl _ _) _
  have h1 := h.below hb1
  have HOP : Hid (Calls _ _ _ w1 _) := ropen_t h1.m (s1, s2) (by have := h.lenO; omega)
  have HOU : Hid (∀ u, Below w1.heap.size w1 u → ∀ i, ∀ hi : i < (mp Bg.q E).length, Calls _ _ _ u _) := fun u hu i hi => rout_t (h1.below hu).m i hi (by have := h.lenO; omega)
  have HH : Hid _ := h
  have HL : Hid _ := h.lenO
  have HB1 : Hid _ := hb1
  have HW1 : Hid (w1 = _) := hw1
  clear h hb1 hw1 h1
  go_enter Tryz.func47, Tryz.ntmps47
  go_wp2_with fail
  rw [← HW1.out]
  refine Calls.mono HOP.out ?_
  rintro e2 w2 ⟨hfd, hb2⟩
  rcases hfd with ⟨i, hi, hix, rfl⟩ | ⟨hno, rfl⟩
  · have HIN : Hid ((s1, s2) ∈ ks J.O) := by
      unfold Hid
      rw [HH.out.ksO, ← ks_mp Bg.q, ← hix]
      exact mem_ks (List.getElem_mem _)
    have hi0 : (0 : Int) ≤ (i : Int) := by omega
    have HB2 : Hid (Below w.heap.size w w2) := below_next HB1.out hb2
    have HOU2 : Hid (Calls _ _ _ w2 _) := HOU.out w2 hb2 i hi
    have HIX : Hid (∃ hi : i < (mp Bg.q E).length, (mp Bg.q E)[i].1 = (s1, s2)) := ⟨hi, hix⟩
    clear hi hix hb2
    go_wp2_with fail
    refine Calls.mono HOU2.out ?_
    rintro e3 w3 ⟨rfl, v', hm3, hf3, hc3⟩
    obtain ⟨hi, hix⟩ := HIX.out
    have HR3 : Hid _ := Rv.outd (HH.out.below HB2.out) hi hix hm3 hf3 hc3
    have HF3 : Hid (∀ b, v'.ownBlock = some b → w.heap.size ≤ b) := fun b hb => Nat.le_trans HB2.out.size (hf3 b hb)
    have HC3 : Hid (Chg (footV q vo vs E) w w3) := (Chg.of_below HB2.out).trans hc3 (fun b hb => .inl (.inl hb))
    clear hm3 hf3 hc3 hi hix
    go_wp2
    go_ret
    exact ⟨by rw [decide_eq_true HIN.out]; rfl, v', vs, _, HR3.out, HC3.out, fun b hb => footV_rm HF3.out hb⟩
  · have HNO : Hid ((s1, s2) ∉ ks J.O) := by rw [HH.out.ksO, ← ks_mp Bg.q]; exact hno
    have HB2 : Hid (Below w.heap.size w w2) := below_next HB1.out hb2
    clear hno hb2
    go_wp2
    go_ret
    refine ⟨by rw [decide_eq_false HNO.out]; rfl, ?_⟩
    unfold dropI
    rw [rm_not HNO.out]
    exact LfV.same HH.out HB2.out
end
end Go.Proofs.YtdoikcolkbjnfaaGreat
namespace Go.Proofs.YtdoikcolkbjnfaaGreat
set_option linter.unusedVariables false
set_option linter.unusedSimpArgs false
open Go.RowKit Go.Maps
section
variable {w w' w1 w2 : World} {q : Nat} {vo vs : Value} {J : Ib} {E : List (Ss × Bg)}
theorem LfV.trans {vo1 vs1 : Value} {E1 : List (Ss × Bg)} {J2 : Ib} (hc : Chg (footV q vo vs E) w w1) (hf : ∀ b, footV q vo1 vs1 E1 b → footV q vo vs E b ∨ w.heap.size ≤ b) (h2 : LfV w1 q vo1 vs1 E1 J2 w2) : LfV w q vo vs E J2 w2 := by
  obtain ⟨vo2, vs2, E2, h, c, f⟩ := h2
  exact ⟨vo2, vs2, E2, h, hc.trans c hf, fun b hb => (f b hb).elim (hf b) (fun h9 => .inr (Nat.le_trans hc.size h9))⟩
theorem LfV.pre (hb : Below w.heap.size w w1) (h2 : LfV w1 q vo vs E J w2) : LfV w q vo vs E J w2 := LfV.trans (Chg.of_below hb) (fun _ hb => .inl hb) h2
/-- the decided row is another -/
theorem Rv.setH (h : Rv w q vo vs J E) {vs' : Value} {H' : List (Ss × Int)} (hm : RiM w' q J.mo J.ms J.ep vo vs' (mp Bg.q E) H') (hok : IbOk { J with H := H' }) (hc : Chg (fun b => b = q ∨ vs.ownBlock = some b) w w') (hf : ∀ b, vs'.ownBlock = some b → vs.ownBlock = some b ∨ w.heap.size ≤ b) : Rv w' q vo vs' { J with H := H' } E := by
  refine ⟨hm, fun x hx => (h.bx x hx).kept hc.size (fun b hb => hc.block b ((h.bx x hx).lt b hb) (fun h9 => h9.elim (h.nf x hx b hb).1 (h.nf x hx b hb).2.2)), h.ap, fun x hx b hb => ⟨(h.nf x hx b hb).1, (h.nf x hx b hb).2.1, fun e => ?_⟩, h.eO, hok⟩
  rcases hf b e with h9 | h9
  · exact (h.nf x hx b hb).2.2 h9
  · have := (h.bx x hx).lt b hb
    omega
theorem footV_setH {vs' : Value} {b : Nat} (hf : ∀ b, vs'.ownBlock = some b → vs.ownBlock = some b ∨ w.heap.size ≤ b) (hb : footV q vo vs' E b) : footV q vo vs E b ∨ w.heap.size ≤ b := by
  rcases hb with hb | hb | hb | hb
  · exact .inl (.inl hb)
  · exact .inl (.inr (.inl hb))
  · exact (hf b hb).imp (fun h9 => .inr (.inr (.inl h9))) id
  · exact .inl (.inr (.inr (.inr hb)))
theorem LfV.setH (h : Rv w q vo vs J E) {vs' : Value} {H' : List (Ss × Int)} (hm : RiM w' q J.mo J.ms J.ep vo vs' (mp Bg.q E) H') (hok : IbOk { J with H := H' }) (hc : Chg (fun b => b = q ∨ vs.ownBlock = some b) w w') (hf : ∀ b, vs'.ownBlock = some b → vs.ownBlock = some b ∨ w.heap.size ≤ b) : LfV w q vo vs E { J with H := H' } w' :=
  ⟨vo, vs', E, h.setH hm hok hc hf, hc.mono (fun b hb => hb.elim .inl (fun h9 => .inr (.inr (.inl h9)))), fun b hb => footV_setH hf hb⟩
theorem rise_v (h : Rv w q vo vs J E) (e : Nat) (h6 : e < 18446744073709551616) : Calls Tryz.prog 49 #[.pointer (some ⟨q, 0, none⟩), .int .u64 (e : Int)] w fun r w' => r = .returned (.tuple #[]) ∧ LfV w q vo vs E (riseI J e) w' := by
  by_cases he : J.ep < e
  · refine Calls.mono (rise_up h.m e he) ?_
    rintro r w' ⟨rfl, hm, hc⟩
    have hr : riseI J e = { J with ep := e, O := [], H := [] } := by unfold riseI; rw [if_pos he]
    rw [hr]
    exact ⟨rfl, .slice none 0 0, .slice none 0 0, [], ⟨hm, fun x hx => (List.not_mem_nil hx).elim, List.Pairwise.nil, fun x hx => (List.not_mem_nil hx).elim, rfl, h.ok.empty h6⟩, hc.mono (fun b hb => .inl hb), fun b hb => by
      rcases hb with hb | hb | hb | ⟨x, hx, -⟩
      · exact .inl (.inl hb)
      · cases hb
      · cases hb
      · cases hx⟩
  · refine Calls.mono (rise_no h.m e he) ?_
    rintro r w' ⟨rfl, rfl⟩
    have hr : riseI J e = J := by unfold riseI; rw [if_neg he]
    rw [hr]
    exact ⟨rfl, LfV.same h (Below.refl _ _)⟩
/-- the decided row with one more, and its slice stored -/
theorem RiM.push {mo ms ep : Nat} {XO : List (Ss × Nat)} {XH : List (Ss × Int)} {u u' : World} (h : RiM w q mo ms ep vo vs XO XH) (hb : Below w.heap.size w u) {g n c : Nat} {y : Ss × Int} (hown : OwnG KH u' 0 (.slice (some ⟨g, 0, none⟩) n c) (XH ++ [y])) (hg : u.grownBy u' vs.ownBlock) : RiM (u'.setCell ⟨q, 4, none⟩ (.slice (some ⟨g, 0, none⟩) n c)) q mo ms ep vo (.slice (some ⟨g, 0, none⟩) n c) XO (XH ++ [y]) := by
  have h1 := h.below hb
  have hq : u'.heap[q]? = u.heap[q]? := hg.block q (Array.getElem?_eq_some_iff.1 h1.hp).1 (fun e => h1.sq e.symm)
  have ho : ∀ b, vo.ownBlock = some b → vs.ownBlock ≠ some b := fun b e1 e2 => by
    obtain ⟨c1, h9⟩ := OwnG.at_ h1.ro e1
    obtain ⟨c2, h8⟩ := OwnG.at_ h1.rs e2
    rw [h8] at h9
    simp only [Option.some.injEq, Obj.cells.injEq] at h9
    exact absurd h9.2.1 (by decide)
  refine ⟨heap_setCell_same u' q 4 _ _ _ (hq.trans h1.hp), OwnG.kept h1.ro (fun b e => ?_), OwnG.kept hown (fun b e => Below.heap_setCell _ _ _ _ (fun e9 => ?_))⟩
  · have hbq : b ≠ q := fun e9 => h1.oq (e9 ▸ e)
    refine (Below.heap_setCell _ _ _ _ hbq).trans ?_
    exact hg.block b (OwnG.lt' h1.ro e).2 (fun e9 => ho b e e9.symm)
  · obtain ⟨c2, h8⟩ := OwnG.at_ hown e
    have h7 := hq.trans h1.hp
    rw [e9] at h8
    rw [h8] at h7
    simp only [Option.some.injEq, Obj.cells.injEq] at h7
    exact absurd h7.2.1 (by decide)
theorem pt_push {ms : Nat} {H : List (Ss × Int)} {s : Ss} {c : Int} (hs : s ∉ ks H) (h1 : 1 ≤ ms) (hl : H.length ≤ ms) : pt ms H s c = if ms < H.length + 1 then (H ++ [(s, c)]).eraseIdx 0 else H ++ [(s, c)] := by
  unfold pt
  rw [if_neg hs]
  by_cases h : ms ≤ H.length
  · rw [if_pos h, if_pos (by omega)]
    cases H with
    | nil => simp at h; omega
    | cons x r => rfl
  · rw [if_neg h, if_neg (by omega)]
end
end Go.Proofs.YtdoikcolkbjnfaaGreat
namespace Go.Proofs.YtdoikcolkbjnfaaGreat
set_option linter.unusedVariables false
set_option linter.unusedSimpArgs false
open Go.RowKit Go.Maps
section
variable {w w' : World} {q : Nat} {vo vs : Value} {J : Ib} {E : List (Ss × Bg)}
set_option maxRecDepth 20000
set_option maxHeartbeats 6400000
theorem rdec_bad (h : Rv w q vo vs J E) (s1 s2 : Nat) (c : Int) (hbad : c < 1 ∨ 7 < c ∨ s1 < 1 ∨ 281474976710655 < s1 ∨ s2 < 1 ∨ 281474976710655 < s2) : Calls Tryz.prog 45 #[.pointer (some ⟨q, 0, none⟩), sv (s1, s2), .int .i64 c] w fun e w' => e = .returned (.int .i64 (decE J (s1, s2) c)) ∧ LfV w q vo vs E (decI J (s1, s2) c) w' := by
  have HH : Hid _ := h
  clear h
  by_cases h1 : c < 1
  · have HD : Hid (decE J (s1, s2) c = 1) := by
      unfold Hid decE numBI
      rw [if_pos]
      simp only [decide_eq_false_iff_not]
      omega
    go_enter Tryz.func45, Tryz.ntmps45
    go_wp2
    go_ret
    exact ⟨by rw [HD.out]; rfl, by unfold decI; rw [if_neg (by rw [HD.out]; decide)]; exact LfV.same HH.out (al (Below.refl _ _) _)⟩
  · have hx1 := h1
    by_cases h2 : 7 < c
    · have HD : Hid (decE J (s1, s2) c = 1) := by
        unfold Hid decE numBI
        rw [if_pos]
        simp only [decide_eq_false_iff_not]
        omega
      go_enter Tryz.func45, Tryz.ntmps45
      go_wp2
      go_ret
      exact ⟨by rw [HD.out]; rfl, by unfold decI; rw [if_neg (by rw [HD.out]; decide)]; exact LfV.same HH.out (al (Below.refl _ _) _)⟩
    · have hx2 := h2
      by_cases h3 : (s1 : Int) < 1
      · have HD : Hid (decE J (s1, s2) c = 1) := by
          unfold Hid decE numBI
          rw [if_pos]
          simp only [decide_eq_false_iff_not]
          omega
        go_enter Tryz.func45, Tryz.ntmps45
        go_wp2
        go_ret
        exact ⟨by rw [HD.out]; rfl, by unfold decI; rw [if_neg (by rw [HD.out]; decide)]; exact LfV.same HH.out (al (Below.refl _ _) _)⟩
      · have hx3 := h3
        by_cases h4 : 281474976710655 < (s1 : Int)
        · have HD : Hid (decE J (s1, s2) c = 1) := by
            unfold Hid decE numBI
            rw [if_pos]
            simp only [decide_eq_false_iff_not]
            omega
          go_enter Tryz.func45, Tryz.ntmps45
          go_wp2
          go_ret
          exact ⟨by rw [HD.out]; rfl, by unfold decI; rw [if_neg (by rw [HD.out]; decide)]; exact LfV.same HH.out (al (Below.refl _ _) _)⟩
        · have hx4 := h4
          by_cases h5 : (s2 : Int) < 1
          · have HD : Hid (decE J (s1, s2) c = 1) := by
              unfold Hid decE numBI
              rw [if_pos]
              simp only [decide_eq_false_iff_not]
              omega
            go_enter Tryz.func45, Tryz.ntmps45
            go_wp2
            go_ret
            exact ⟨by rw [HD.out]; rfl, by unfold decI; rw [if_neg (by rw [HD.out]; decide)]; exact LfV.same HH.out (al (Below.refl _ _) _)⟩
          · have hx5 := h5
            by_cases h6 : 281474976710655 < (s2 : Int)
            · have HD : Hid (decE J (s1, s2) c = 1) := by
                unfold Hid decE numBI
                rw [if_pos]
                simp only [decide_eq_false_iff_not]
                omega
              go_enter Tryz.func45, Tryz.ntmps45
              go_wp2
              go_ret
              exact ⟨by rw [HD.out]; rfl, by unfold decI; rw [if_neg (by rw [HD.out]; decide)]; exact LfV.same HH.out (al (Below.refl _ _) _)⟩
            · exact absurd hbad (by omega)
theorem decE_good {J : Ib} {s1 s2 : Nat} {c : Int} (hg : (1 ≤ c ∧ c ≤ 7) ∧ (1 ≤ s1 ∧ s1 ≤ 281474976710655) ∧ (1 ≤ s2 ∧ s2 ≤ 281474976710655)) : decE J (s1, s2) c = if s1 < J.ep then 83 else if (s1, s2) ∈ ks J.H then 3 else 0 := by
  unfold decE numBI
  rw [if_neg]
  simp only [decide_eq_false_iff_not]
  omega
theorem rdec_old (h : Rv w q vo vs J E) (s1 s2 : Nat) (c : Int) (hg : (1 ≤ c ∧ c ≤ 7) ∧ (1 ≤ s1 ∧ s1 ≤ 281474976710655) ∧ (1 ≤ s2 ∧ s2 ≤ 281474976710655)) (ho : s1 < J.ep) : Calls Tryz.prog 45 #[.pointer (some ⟨q, 0, none⟩), sv (s1, s2), .int .i64 c] w fun e w' => e = .returned (.int .i64 (decE J (s1, s2) c)) ∧ LfV w q vo vs E (decI J (s1, s2) c) w' := by
  have HD : Hid (decE J (s1, s2) c = 83) := by unfold Hid; rw [decE_good hg, if_pos ho]
  obtain ⟨w1, hw1⟩ : ∃ w1, w1 = w.alloc (.cells #[.int .u64 (s1 : Int), .int .u64 (s2 : Int)] tRs) := ⟨_, rfl⟩
  have hb1 : Below w.heap.size w w1 := by rw [hw1]; exact al (Below.refl _ _) _
  have hz1 : w1.heap.size = w.heap.size + 1 := by rw [hw1]; simp
  have hR1 := h.below hb1
  have hkb := rsBox w (s1, s2)
  have HBX : Hid (w1.heap[w.heap.size]? = some (.cells #[.int .u64 (s1 : Int), .int .u64 (s2 : Int)] tRs (0, 0))) := by unfold Hid; rw [hw1]; exact heap_alloc_new _ _
  have hk : ∀ u, Below w1.heap.size w1 u → u.cell? ⟨w.heap.size, 0, none⟩ = some (.int .u64 (s1 : Int)) ∧ u.cell? ⟨w.heap.size, 1, none⟩ = some (.int .u64 (s2 : Int)) ∧ u.cell? ⟨q, 2, none⟩ = some (.int .u64 (J.ep : Int)) := fun u hu => by
    have h9 := hkb u (by rw [← hw1, ← hz1]; exact hu)
    exact ⟨h9.1, h9.2, (hR1.below hu).m.cell.2.2.1⟩
  have HK : Hid _ := hk
  have HSH : Hid (∀ u, Below w1.heap.size w1 u → Calls _ _ _ u _) := fun u hu => rshut_t (hR1.below hu).m (s1, s2) (by have := h.lenH; omega)
  obtain ⟨en, hen⟩ : ∃ en, en = J.ep := ⟨_, rfl⟩
  rw [← hen] at hk
  have HEN : Hid _ := hen
  have HH : Hid _ := h
  have HR1 : Hid _ := hR1
  have HB1 : Hid _ := hb1
  have HW1 : Hid (w1 = _) := hw1
  have HZ1 : Hid _ := hz1
  have q1 : ¬ c < 1 := by omega
  have q2 : ¬ 7 < c := by omega
  have q3 : ¬ (s1 : Int) < 1 := by omega
  have q4 : ¬ 281474976710655 < (s1 : Int) := by omega
  have q5 : ¬ (s2 : Int) < 1 := by omega
  have q6 : ¬ 281474976710655 < (s2 : Int) := by omega
  have hlt : (s1 : Int) < (en : Int) := by omega
  clear h hR1 hkb hb1 hw1 hz1 hen ho hg
  go_enter Tryz.func45, Tryz.ntmps45
  go_wp2_with fail
  rw [← HW1.out]
  refine wp_region_noPanic ?_
  refine wp_region_held_drew (S := (fun u => Below w1.heap.size w1 u)) (by kernel_rfl) (by first | exact (Below.refl _ _).drew | assumption) (fun hHeld => ?_)
  refine tz (i := 0) 34 rfl rfl hHeld ?_
  simp only [pS]
  refine tz (i := 1) 35 rfl rfl hHeld ?_
  simp only [pS]
  refine tz (i := 2) 36 rfl rfl hHeld ?_
  simp only [pS]
  refine tz (i := 3) 37 rfl rfl hHeld ?_
  simp only [pS]
  refine tz (i := 4) 38 rfl rfl hHeld ?_
  simp only [pS]
  refine tz (i := 5) 39 rfl rfl hHeld ?_
  simp only [pS]
  refine tz (i := 6) 40 rfl rfl hHeld ?_
  simp only [pS]
  refine wpAnyH_done (by kernel_rfl) ?_ _
  refine NoPanic.normal ?_
  go_wp2
  go_ret
  exact ⟨by rw [HD.out]; rfl, by unfold decI; rw [if_neg (by rw [HD.out]; decide)]; exact LfV.same HH.out (below_next HB1.out (Below.refl _ _).drew)⟩
theorem rdec_twice (h : Rv w q vo vs J E) (s1 s2 : Nat) (c : Int) (hg : (1 ≤ c ∧ c ≤ 7) ∧ (1 ≤ s1 ∧ s1 ≤ 281474976710655) ∧ (1 ≤ s2 ∧ s2 ≤ 281474976710655)) (ho : ¬ s1 < J.ep) (hin : (s1, s2) ∈ ks J.H) : Calls Tryz.prog 45 #[.pointer (some ⟨q, 0, none⟩), sv (s1, s2), .int .i64 c] w fun e w' => e = .returned (.int .i64 (decE J (s1, s2) c)) ∧ LfV w q vo vs E (decI J (s1, s2) c) w' := by
  have HD : Hid (decE J (s1, s2) c = 3) := by unfold Hid; rw [decE_good hg, if_neg ho, if_pos hin]
  obtain ⟨w1, hw1⟩ : ∃ w1, w1 = w.alloc (.cells #[.int .u64 (s1 : Int), .int .u64 (s2 : Int)] tRs) := ⟨_, rfl⟩
  have hb1 : Below w.heap.size w w1 := by rw [hw1]; exact al (Below.refl _ _) _
  have hz1 : w1.heap.size = w.heap.size + 1 := by rw [hw1]; simp
  have hR1 := h.below hb1
  have hkb := rsBox w (s1, s2)
  have HBX : Hid (w1.heap[w.heap.size]? = some (.cells #[.int .u64 (s1 : Int), .int .u64 (s2 : Int)] tRs (0, 0))) := by unfold Hid; rw [hw1]; exact heap_alloc_new _ _
  have hk : ∀ u, Below w1.heap.size w1 u → u.cell? ⟨w.heap.size, 0, none⟩ = some (.int .u64 (s1 : Int)) ∧ u.cell? ⟨w.heap.size, 1, none⟩ = some (.int .u64 (s2 : Int)) ∧ u.cell? ⟨q, 2, none⟩ = some (.int .u64 (J.ep : Int)) := fun u hu => by
    have h9 := hkb u (by rw [← hw1, ← hz1]; exact hu)
    exact ⟨h9.1, h9.2, (hR1.below hu).m.cell.2.2.1⟩
  have HK : Hid _ := hk
  have HSH : Hid (∀ u, Below w1.heap.size w1 u → Calls _ _ _ u _) := fun u hu => rshut_t (hR1.below hu).m (s1, s2) (by have := h.lenH; omega)
  obtain ⟨en, hen⟩ : ∃ en, en = J.ep := ⟨_, rfl⟩
  rw [← hen] at hk
  have HEN : Hid _ := hen
  have HH : Hid _ := h
  have HR1 : Hid _ := hR1
  have HB1 : Hid _ := hb1
  have HW1 : Hid (w1 = _) := hw1
  have HZ1 : Hid _ := hz1
  have q1 : ¬ c < 1 := by omega
  have q2 : ¬ 7 < c := by omega
  have q3 : ¬ (s1 : Int) < 1 := by omega
  have q4 : ¬ 281474976710655 < (s1 : Int) := by omega
  have q5 : ¬ (s2 : Int) < 1 := by omega
  have q6 : ¬ 281474976710655 < (s2 : Int) := by omega
  have hlt : ¬ (s1 : Int) < (en : Int) := by omega
  have HIN : Hid _ := hin
  clear h hR1 hkb hb1 hw1 hz1 hen ho hg hin
  go_enter Tryz.func45, Tryz.ntmps45
  go_wp2_with fail
  rw [← HW1.out]
  refine wp_region_noPanic ?_
  refine wp_region_held_drew (S := (fun u => Below w1.heap.size w1 u)) (by kernel_rfl) (by first | exact (Below.refl _ _).drew | assumption) (fun hHeld => ?_)
  refine tz (i := 0) 34 rfl rfl hHeld ?_
  simp only [pS]
  refine tz (i := 1) 35 rfl rfl hHeld ?_
  simp only [pS]
  refine tz (i := 2) 36 rfl rfl hHeld ?_
  simp only [pS]
  refine tz (i := 3) 37 rfl rfl hHeld ?_
  simp only [pS]
  refine tz (i := 4) 38 rfl rfl hHeld ?_
  simp only [pS]
  refine tz (i := 5) 39 rfl rfl hHeld ?_
  simp only [pS]
  refine tz (i := 6) 40 rfl rfl hHeld ?_
  simp only [pS]
  refine wpAnyH_done (by kernel_rfl) ?_ _
  refine NoPanic.normal ?_
  have hk2 := hk w1.drew (Below.refl _ _).drew
  go_wp2_with fail
  refine Calls.mono (HSH.out _ (Below.refl _ _).drew) ?_
  rintro e2 w2 ⟨hfd, hb2⟩
  rcases hfd with ⟨i, hi, hix, rfl⟩ | ⟨hno, rfl⟩
  · have hi0 : (0 : Int) ≤ (i : Int) := by omega
    have HB2 : Hid (Below w.heap.size w w2) := below_next HB1.out (below_next (Below.refl _ _).drew hb2)
    clear hi hix hb2
    go_wp2
    go_ret
    exact ⟨by rw [HD.out]; rfl, by unfold decI; rw [if_neg (by rw [HD.out]; decide)]; exact LfV.same HH.out HB2.out⟩
  · exact absurd HIN.out hno
end
end Go.Proofs.YtdoikcolkbjnfaaGreat
