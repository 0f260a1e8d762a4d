import Derived.Test.YtkdgjfjcpgiokaaGreatIxIe
namespace Go.Proofs.YtkdgjfjcpgiokaaGreat
set_option linter.unusedVariables false
set_option linter.unusedSimpArgs false
open Go.RowKit Go.Maps
/-- what Put leaves -/
def putL (S : List Seg) (i : Int) (xs : Seg) : List Seg := if i < 0 ∨ (S.length : Int) ≤ i ∨ xs.length = 0 ∨ 1024 < xs.length then S else if (S[i.toNat]?.getD []).length = 0 then (if fitS (S.set i.toNat xs) = true then S.set i.toNat xs else S) else S
theorem putS_L (S : List Seg) (i : Int) (xs : Seg) : putS (some S) i xs = some (putL S i xs) := rfl
theorem putL_len (S : List Seg) (i : Int) (xs : Seg) : (putL S i xs).length = S.length := by
  unfold putL
  repeat' split
  all_goals simp
theorem putL_no {S : List Seg} {i : Int} {xs : Seg} (h : okE (putE (some S) i xs) = false) : putL S i xs = S := by
  unfold putL
  unfold putE at h
  by_cases h1 : i < 0 ∨ (S.length : Int) ≤ i ∨ xs.length = 0 ∨ 1024 < xs.length
  · rw [if_pos h1]
  · rw [if_neg h1]
    simp only at h
    rw [if_neg h1] at h
    by_cases h2 : (S[i.toNat]?.getD []).length = 0
    · rw [if_pos h2] at h ⊢
      by_cases h3 : fitS (S.set i.toNat xs) = true
      · rw [if_pos h3] at h
        simp [okE] at h
      · rw [if_neg h3]
    · rw [if_neg h2]
section
variable {α : Type}
theorem mem_pt {m : Nat} {L : List (Ss × α)} {s : Ss} {a : α} {x : Ss × α} (h : x ∈ pt m L s a) : (x ∈ pf m L s) ∨ x = (s, a) := by
  rw [pt_eq, List.mem_append, List.mem_singleton] at h
  exact h
theorem ks_pt {m : Nat} {L : List (Ss × α)} {s : Ss} {a : α} {t : Ss} (h : t ∈ ks (pt m L s a)) : t ∈ ks L ∨ t = s := by
  obtain ⟨x, hx, rfl⟩ := List.mem_map.1 h
  rcases mem_pt hx with h1 | rfl
  · exact .inl (mem_ks (pf_mem h1))
  · exact .inr rfl
theorem ks_pt_self {m : Nat} {L : List (Ss × α)} {s : Ss} {a : α} : s ∈ ks (pt m L s a) := mem_ks (x := (s, a)) (by rw [pt_eq]; simp)
end
theorem riseI_ep {I : Ib} {e : Nat} (h : I.ep ≤ e) : (riseI I e).ep = e := by
  unfold riseI
  split
  · rfl
  · omega
theorem riseI_ok {I : Ib} (h : IbOk I) {e : Nat} (h6 : e < 18446744073709551616) : IbOk (riseI I e) := by
  unfold riseI
  split
  · exact h.empty h6
  · exact h
theorem riseI_m (I : Ib) (e : Nat) : (riseI I e).mo = I.mo ∧ (riseI I e).ms = I.ms := by
  unfold riseI
  split <;> exact ⟨rfl, rfl⟩
/-- a decided session is touched, or decided -/
theorem IbOk.dec {I : Ib} (h : IbOk I) {s : Ss} (hs : s.1 = I.ep) (c : Int) (ho : s ∉ ks I.O) : IbOk { I with H := pt I.ms I.H s c } :=
  ⟨h.o0, h.o1, h.s0, h.s1, h.lo, pt_len h.nh s c h.s0 h.ls, h.no, pt_nd h.nh s c, h.eo, fun t ht => (ks_pt ht).elim (h.eh t) (fun e => e ▸ hs), fun t ht ht2 => (ks_pt ht2).elim (h.ap t ht) (fun e => ho (e ▸ ht)), h.e6⟩
theorem IbOk.opn {I : Ib} (h : IbOk I) {s : Ss} (hs : s.1 = I.ep) (S : List Seg) (hh : s ∉ ks I.H) : IbOk { I with O := pt I.mo I.O s S } :=
  ⟨h.o0, h.o1, h.s0, h.s1, pt_len h.no s S h.o0 h.lo, h.ls, pt_nd h.no s S, h.nh, fun t ht => (ks_pt ht).elim (h.eo t) (fun e => e ▸ hs), h.eh, fun t ht => (ks_pt ht).elim (h.ap t) (fun e => e ▸ hh), h.e6⟩
theorem IbOk.rm {I : Ib} (h : IbOk I) (s : Ss) : IbOk { I with O := rm I.O s } :=
  ⟨h.o0, h.o1, h.s0, h.s1, Nat.le_trans (List.length_filter_le _ _) h.lo, h.ls, rm_nd h.no s, h.nh, fun t ht => h.eo t (mem_ks_rm.1 ht).1, h.eh, fun t ht => h.ap t (mem_ks_rm.1 ht).1, h.e6⟩
/-- another box for a session -/
def upE (E : List (Ss × Bg)) (s : Ss) (b : Bg) : List (Ss × Bg) := E.map (fun x => if x.1 = s then (s, b) else x)
theorem upE_qt (E : List (Ss × Bg)) (s : Ss) (b : Bg) (hb : ∀ x, x ∈ E → x.1 = s → x.2.qt = b.qt) : mp Bg.qt (upE E s b) = mp Bg.qt E := by
  unfold upE mp
  rw [List.map_map]
  apply List.map_congr_left
  intro x hx
  simp only [Function.comp]
  by_cases h : x.1 = s
  · rw [if_pos h, ← h, hb x hx h]
  · rw [if_neg h]
theorem upE_S (E : List (Ss × Bg)) (s : Ss) (b : Bg) (hb : ∀ x, x ∈ E → x.1 = s → x.2.S = b.S) : mp Bg.S (upE E s b) = mp Bg.S E := by
  unfold upE mp
  rw [List.map_map]
  apply List.map_congr_left
  intro x hx
  simp only [Function.comp]
  by_cases h : x.1 = s
  · rw [if_pos h, ← h, hb x hx h]
  · rw [if_neg h]
theorem mem_upE {E : List (Ss × Bg)} {s : Ss} {b : Bg} {x : Ss × Bg} (h : x ∈ upE E s b) : (x ∈ E ∧ x.1 ≠ s) ∨ x = (s, b) := by
  obtain ⟨y, hy, rfl⟩ := List.mem_map.1 h
  by_cases e : y.1 = s
  · rw [if_pos e]; exact .inr rfl
  · rw [if_neg e]; exact .inl ⟨hy, e⟩
section
variable {w w' : World} {p m1 m2 T1 T2 : Nat} {I : Ib} {E : List (Ss × Bg)} {G : List (Ss × (Int × Nat))} {s : Ss}
/-- a box that went with its session is put back -/
theorem Ibx.back (h : Ibx (some s) w p m1 m2 T1 T2 I E G) {b : Bg} (hb : lk E s = some b) {F : Nat → Prop} (hB : PBx w (some ⟨b.q, 0, none⟩) (some b.S) F) (hF : ∀ x, x ∈ E → x.1 ≠ s → ∀ c, x.2.F c → F c → False) (hn : ∀ c, F c → c ≠ p ∧ c ≠ m1 ∧ c ≠ m2) :
    Ibx none w p m1 m2 T1 T2 I (upE E s ⟨b.q, b.t, b.S, F⟩) G := by
  have hnd : (ks E).Nodup := by rw [h.ksO]; exact h.ok.no
  have hx1 : ∀ x, x ∈ E → x.1 = s → x.2 = b := fun x hx e => by
    have h1 := lk_of hnd hx
    rw [e, hb] at h1
    exact (Option.some.inj h1).symm
  have e1 : mp Bg.qt (upE E s ⟨b.q, b.t, b.S, F⟩) = mp Bg.qt E := upE_qt _ _ _ (fun x hx e => by rw [hx1 x hx e])
  have e2 : mp Bg.S (upE E s ⟨b.q, b.t, b.S, F⟩) = mp Bg.S E := upE_S _ _ _ (fun x hx e => by rw [hx1 x hx e])
  have hne : ∀ x : Ss × Bg, x.1 ≠ s → (some s : Option Ss) ≠ some x.1 := fun x hx e => hx (Option.some.inj e).symm
  refine ⟨h.hp, by rw [e1]; exact h.r1, h.r2, fun x hx _ => ?_, ?_, fun x hx _ c hc => ?_, h.nm, by rw [e2]; exact h.eO, h.eH, h.ok⟩
  · rcases mem_upE hx with ⟨h1, h2⟩ | rfl
    · exact h.bx x h1 (hne x h2)
    · exact hB
  · unfold upE
    rw [List.pairwise_map]
    have hk : E.Pairwise (fun x y => x.1 ≠ y.1) := by
      have h9 := List.nodup_iff_pairwise_ne.1 hnd
      unfold ks at h9
      rw [List.pairwise_map] at h9
      exact h9
    refine (h.ap.and hk).imp_of_mem (fun {x y} hx hy hxy _ _ c h1 h2 => ?_)
    obtain ⟨h3, h4⟩ := hxy
    by_cases ex : x.1 = s
    · have ey : y.1 ≠ s := fun e => h4 (ex.trans e.symm)
      rw [if_pos ex] at h1
      rw [if_neg ey] at h2
      exact hF y hy ey c h2 h1
    · rw [if_neg ex] at h1
      by_cases ey : y.1 = s
      · rw [if_pos ey] at h2
        exact hF x hx ex c h1 h2
      · rw [if_neg ey] at h2
        exact h3 (hne x ex) (hne y ey) c h1 h2
  · rcases mem_upE hx with ⟨h1, h2⟩ | rfl
    · exact h.nf x h1 (hne x h2) c hc
    · exact hn c hc
/-- a session is open, with that box, and touched -/
theorem Ibx.opn (h : Ibx (some s) w p m1 m2 T1 T2 I E G) (hs : s.1 = I.ep) (hh : s ∉ ks I.H) {q : Nat} {S : List Seg} {F : Nat → Prop} (hB : PBx w (some ⟨q, 0, none⟩) (some S) F) (hF : ∀ x, x ∈ E → x.1 ≠ s → ∀ c, x.2.F c → F c → False) (hn : ∀ c, F c → c ≠ p ∧ c ≠ m1 ∧ c ≠ m2)
    (hr : RowM w' m1 (T1 + 1) (mp fB (pt I.mo (mp Bg.qt E) s (q, T1 + 1)))) (hp : w'.heap[p]? = some (.cells ((ibC I T1 T2 m1 m2).setIfInBounds 2 (.int .u64 ((T1 + 1 : Nat) : Int))) tIb (0, 0))) (hc : Chg (fun b => b = p ∨ b = m1) w w') :
    Ibx none w' p m1 m2 (T1 + 1) T2 { I with O := pt I.mo I.O s S } (pt I.mo E s ⟨q, T1 + 1, S, F⟩) G := by
  have hne : ∀ x : Ss × Bg, x.1 ≠ s → (some s : Option Ss) ≠ some x.1 := fun x hx e => hx (Option.some.inj e).symm
  have hpf : ∀ x, x ∈ pf I.mo E s → x ∈ E ∧ x.1 ≠ s := fun x hx => ⟨pf_mem hx, fun e => pf_not (m := I.mo) (L := E) (s := s) (by have := mem_ks hx; rw [e] at this; exact this)⟩
  have hkp : ∀ (q : Option Addr) (S : List Seg) (F : Nat → Prop), PBx w q (some S) F → (∀ c, F c → c ≠ p ∧ c ≠ m1 ∧ c ≠ m2) → PBx w' q (some S) F := fun q S F hb hn => hb.kept hc.size (fun c h1 => hc.block c (hb.lt c h1) (fun h2 => by have := hn c h1; rcases h2 with h2 | h2 <;> omega))
  refine ⟨hp, by rw [pt_mp]; exact hr, h.r2.kept (hc.block m2 h.r2.lt (fun h2 => by have := h.pm; have := h.nm; rcases h2 with h2 | h2 <;> omega)), fun x hx _ => ?_, ?_, fun x hx _ c h1 => ?_, h.nm, by rw [pt_mp, h.eO], h.eH, h.ok.opn hs S hh⟩
  · rcases mem_pt hx with h1 | rfl
    · obtain ⟨h2, h3⟩ := hpf x h1
      exact hkp _ _ _ (h.bx x h2 (hne x h3)) (h.nf x h2 (hne x h3))
    · exact hkp _ _ _ hB hn
  · rw [pt_eq]
    refine List.pairwise_append.2 ⟨(h.ap.sublist pf_sub).imp_of_mem (fun {x y} hx hy h1 _ _ => h1 (hne x (hpf x hx).2) (hne y (hpf y hy).2)), by simp, fun x hx y hy _ _ c h1 h2 => ?_⟩
    rw [List.mem_singleton] at hy
    subst hy
    exact hF x (hpf x hx).1 (hpf x hx).2 c h1 h2
  · rcases mem_pt hx with h2 | rfl
    · obtain ⟨h3, h4⟩ := hpf x h2
      exact h.nf x h3 (hne x h4) c h1
    · exact hn c h1
/-- a session is decided, with that code, and touched -/
theorem Ibx.dec (h : Ibx none w p m1 m2 T1 T2 I E G) (hs : s.1 = I.ep) (ho : s ∉ ks I.O) (c : Int)
    (hr : RowM w' m2 (T2 + 1) (mp fI (pt I.ms G s (c, T2 + 1)))) (hp : w'.heap[p]? = some (.cells ((ibC I T1 T2 m1 m2).setIfInBounds 5 (.int .u64 ((T2 + 1 : Nat) : Int))) tIb (0, 0))) (hc : Chg (fun b => b = p ∨ b = m2) w w') :
    Ibx none w' p m1 m2 T1 (T2 + 1) { I with H := pt I.ms I.H s c } E (pt I.ms G s (c, T2 + 1)) := by
  refine ⟨hp, h.r1.kept (hc.block m1 h.r1.lt (fun h2 => by have := h.pm; have := h.nm; rcases h2 with h2 | h2 <;> omega)), hr, fun x hx ho => ?_, h.ap, h.nf, h.nm, h.eO, by rw [pt_mp, h.eH], h.ok.dec hs c ho⟩
  exact (h.bx x hx ho).kept hc.size (fun d h1 => hc.block d ((h.bx x hx ho).lt d h1) (fun h2 => by have := h.nf x hx ho d h1; rcases h2 with h2 | h2 <;> omega))
/-- a session is open no more -/
theorem Ibx.rm (h : Ibx none w p m1 m2 T1 T2 I E G) (s : Ss) (hr : RowM w' m1 T1 (mp fB (rm (mp Bg.qt E) s))) (hc : Chg (fun b => b = m1) w w') : Ibx none w' p m1 m2 T1 T2 { I with O := Go.Proofs.YtkdgjfjcpgiokaaGreat.rm I.O s } (Go.Proofs.YtkdgjfjcpgiokaaGreat.rm E s) G := by
  have hkp := fun b hf (hn : b ≠ m1) => hc.block b (h.lt hf) hn
  refine ⟨(hkp p (.inl rfl) h.pm.1).trans h.hp, by rw [rm_mp]; exact hr, h.r2.kept (hkp m2 (.inr (.inr (.inl rfl))) (fun e => h.nm e.symm)), fun x hx ho => ?_, h.ap.sublist List.filter_sublist, fun x hx => h.nf x (mem_rm.1 hx).1, h.nm, by rw [rm_mp, h.eO], h.eH, h.ok.rm s⟩
  have hxE := (mem_rm.1 hx).1
  exact (h.bx x hxE ho).kept hc.size (fun d h1 => hkp d (.inr (.inr (.inr ⟨x, hxE, ho, h1⟩))) (h.nf x hxE ho d h1).2.1)
end
end Go.Proofs.YtkdgjfjcpgiokaaGreat
