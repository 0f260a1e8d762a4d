import Derived.Test.YtdoikcolkbjnfaaGreatLDl
namespace Go.Proofs.YtdoikcolkbjnfaaGreat
set_option linter.unusedVariables false
set_option linter.unusedSimpArgs false
open Go.RowKit Go.Maps
/-- the state ahead of the last steps of a segment, told in one -/
structure SgX (w w6 : World) (q P2 : Nat) (vo vs : Value) (J : Ib) (E : List (Ss × Bg)) (s : Ss) (bq : Nat) (S : List Seg) (O' : List (Ss × List Seg)) : Prop where
  ex : ∃ v6 E0 bF F5, SgT w w6 q P2 vo vs v6 J E0 s bq S bF F5 ∧ E0.Sublist E ∧ (∀ x, x ∈ E0 → ∀ c, x.2.F c → ¬ bF c) ∧ (∀ c, bF c → ∃ x, x ∈ E ∧ x.2.F c) ∧ mp Bg.S E0 ++ [(s, S)] = O' ∧ IbOk { J with O := O' } ∧ E0.length ≤ 64
theorem opK {u : World} {P bq : Nat} {a b : Nat} (h : u.heap[P]? = some (.cells #[.int .u64 (a : Int), .int .u64 (b : Int), .pointer (some ⟨bq, 0, none⟩)] KO.t (0, 0))) : u.cell? ⟨P, 0, none⟩ = some (.int .u64 (a : Int)) ∧ u.cell? ⟨P, 1, none⟩ = some (.int .u64 (b : Int)) ∧ u.cell? ⟨P, 2, none⟩ = some (.pointer (some ⟨bq, 0, none⟩)) :=
  ⟨by rw [cell_of_row _ _ _ _ _ _ h]; rfl, by rw [cell_of_row _ _ _ _ _ _ h]; rfl, by rw [cell_of_row _ _ _ _ _ _ h]; rfl⟩
section
variable {w w4 w5 w6 : World} {q P2 : Nat} {vo vs v6 : Value} {J : Ib} {E : List (Ss × Bg)} {s : Ss} {SP : List Seg} {F5 : Nat → Prop}
theorem Rv.len64 (h : Rv w q vo vs J E) : E.length ≤ 64 := by have := h.lenO; rw [len_mp] at this; exact this
theorem SgX.opn (h : Rv w q vo vs J E) {b : Bg} {i : Nat} (hb4 : Below w.heap.size w w4) (hbE : (s, b) ∈ E) (hi : i < (mp Bg.q E).length) (hix : (mp Bg.q E)[i].1 = s) (hA : w4.heap[w.heap.size + 2]? = some (.cells #[.int .i64 0, .int .i64 0, .slice none 0 0, .slice none 0 0] tRa (0, 0))) (ho : w4.heap[P2]? = some (.cells #[.int .u64 (s.1 : Int), .int .u64 (s.2 : Int), .pointer (some ⟨b.q, 0, none⟩)] KO.t (0, 0))) (hp2 : w.heap.size + 3 ≤ P2) (hb5 : RBx w5 (some ⟨b.q, 0, none⟩) (some SP) F5) (hf5 : ∀ c, F5 c → b.F c ∨ w4.heap.size ≤ c) (hc5 : Chg b.F w4 w5) (hm6 : RiM w6 q J.mo J.ms J.ep v6 vs ((mp Bg.q E).eraseIdx i) J.H) (hf6 : ∀ c, v6.ownBlock = some c → w5.heap.size ≤ c) (hc6 : Chg (fun c => c = q) w5 w6) (hs : s.1 = J.ep) (hh : s ∉ ks J.H) : SgX w w6 q P2 vo vs J E s b.q SP (pt J.mo J.O s SP) := by
  have hn : (ks (mp Bg.q E)).Nodup := by rw [ks_mp, ← h.ksO]; exact h.ok.no
  have he := erase_rm hi hn hix
  rw [he, ← rm_mp] at hm6
  have hin : s ∈ ks J.O := by rw [h.ksO, ← ks_mp Bg.q, ← hix]; exact mem_ks (List.getElem_mem _)
  have hql : q < w.heap.size := h.lt (.inl rfl)
  have hbl : ∀ c, b.F c → c < w.heap.size := fun c hc => h.lt (.inr (.inr (.inr ⟨_, hbE, hc⟩)))
  have hA4 := (Array.getElem?_eq_some_iff.1 hA).1
  have hP4 := (Array.getElem?_eq_some_iff.1 ho).1
  have z4 := hb4.size
  have z5 := hc5.size
  have hnq : ∀ c, F5 c → c ≠ q ∧ vs.ownBlock ≠ some c := fun c hc => by
    rcases hf5 c hc with h9 | h9
    · have h8 := h.nf _ hbE c h9; exact ⟨h8.1, h8.2.2⟩
    · exact ⟨by omega, fun e => by have := h.lt (.inr (.inr (.inl e)) : footV q vo vs E c); omega⟩
  refine ⟨v6, rm E s, b.F, F5, ⟨hm6, ?_, ?_, hp2, ?_, fun c hc => (hf5 c hc).imp id (fun h9 => by omega), fun c hc => ⟨(hnq c hc).1, fun e => ?_, (hnq c hc).2⟩, ?_, fun c e => ⟨.inr ?_, ?_⟩⟩, rm_sub E s, fun x hx c hf => h.far hbE (mem_rm.1 hx).1 (mem_rm.1 hx).2 hf, fun c hc => ⟨_, hbE, hc⟩, ?_, IbOk.opn h.ok hs SP hh, Nat.le_trans (List.Sublist.length_le (rm_sub E s)) h.len64⟩
  · refine (hc6.block _ (by omega) (fun e => by omega)).trans ((hc5.block _ hA4 (fun e => ?_)).trans hA)
    have := hbl _ e; omega
  · refine (hc6.block _ (by omega) (fun e => by omega)).trans ((hc5.block _ hP4 (fun e => ?_)).trans ho)
    have := hbl _ e; omega
  · exact hb5.kept hc6.size (fun c hc => hc6.block c (hb5.lt c hc) (fun e => (hnq c hc).1 e))
  · have h1 := hf6 c e
    have h2 := hb5.lt c hc
    omega
  · exact ((Chg.of_below hb4).trans hc5 (fun c hc => .inl (.inr (.inr hc)))).trans hc6 (fun c hc => .inl (.inl hc))
  · have := hf6 c e; omega
  · have := hf6 c e; omega
  · unfold pt
    rw [if_pos hin, h.eO, rm_mp]
theorem SgX.new (h : Rv w q vo vs J E) {bq : Nat} (hb5 : Below w.heap.size w w5) (hno : s ∉ ks J.O) (hA : w5.heap[w.heap.size + 2]? = some (.cells #[.int .i64 0, .int .i64 0, .slice none 0 0, .slice none 0 0] tRa (0, 0))) (ho : w5.heap[P2]? = some (.cells #[.int .u64 (s.1 : Int), .int .u64 (s.2 : Int), .pointer (some ⟨bq, 0, none⟩)] KO.t (0, 0))) (hp2 : w.heap.size + 3 ≤ P2) (hbx : RBx w5 (some ⟨bq, 0, none⟩) (some SP) F5) (hf5 : ∀ c, F5 c → w.heap.size + 3 ≤ c) (hlt : E.length < J.mo) (hs : s.1 = J.ep) (hh : s ∉ ks J.H) : SgX w w5 q P2 vo vs J E s bq SP (pt J.mo J.O s SP) := by
  have hql : q < w.heap.size := h.lt (.inl rfl)
  have hvl : ∀ c, vo.ownBlock = some c → c < w.heap.size := fun c e => h.lt (.inr (.inl e))
  have hsl : ∀ c, vs.ownBlock = some c → c < w.heap.size := fun c e => h.lt (.inr (.inr (.inl e)))
  refine ⟨vo, E, fun _ => False, F5, ⟨(h.below hb5).m, hA, ho, hp2, hbx, fun c hc => .inr (hf5 c hc), fun c hc => ⟨?_, fun e => ?_, fun e => ?_⟩, Chg.of_below hb5, fun c e => ⟨.inl e, ?_⟩⟩, List.Sublist.refl _, fun _ _ _ _ h9 => h9, fun c h9 => h9.elim, ?_, IbOk.opn h.ok hs SP hh, h.len64⟩
  · have := hf5 c hc; omega
  · have := hf5 c hc; have := hvl c e; omega
  · have := hf5 c hc; have := hsl c e; omega
  · have := hvl c e; omega
  · unfold pt
    rw [if_neg hno, if_neg (by rw [h.eO, len_mp]; omega), h.eO]
theorem SgX.full (h : Rv w q vo vs J E) {bq : Nat} (hb5 : Below w.heap.size w w5) (hno : s ∉ ks J.O) (hA : w5.heap[w.heap.size + 2]? = some (.cells #[.int .i64 0, .int .i64 0, .slice none 0 0, .slice none 0 0] tRa (0, 0))) (ho : w5.heap[P2]? = some (.cells #[.int .u64 (s.1 : Int), .int .u64 (s.2 : Int), .pointer (some ⟨bq, 0, none⟩)] KO.t (0, 0))) (hp2 : w.heap.size + 3 ≤ P2) (hbx : RBx w5 (some ⟨bq, 0, none⟩) (some SP) F5) (hf5 : ∀ c, F5 c → w.heap.size + 3 ≤ c) (hle : J.mo ≤ E.length) (hm6 : RiM w6 q J.mo J.ms J.ep v6 vs ((mp Bg.q E).eraseIdx 0) J.H) (hf6 : ∀ c, v6.ownBlock = some c → w5.heap.size ≤ c) (hc6 : Chg (fun c => c = q) w5 w6) (hs : s.1 = J.ep) (hh : s ∉ ks J.H) : SgX w w6 q P2 vo vs J E s bq SP (pt J.mo J.O s SP) := by
  have hql : q < w.heap.size := h.lt (.inl rfl)
  have hsl : ∀ c, vs.ownBlock = some c → c < w.heap.size := fun c e => h.lt (.inr (.inr (.inl e)))
  have hA4 := (Array.getElem?_eq_some_iff.1 hA).1
  have hP4 := (Array.getElem?_eq_some_iff.1 ho).1
  have e0 : (mp Bg.q E).eraseIdx 0 = mp Bg.q (E.drop 1) := by
    cases E with
    | nil => rfl
    | cons x r => simp [mp]
  rw [e0] at hm6
  refine ⟨v6, E.drop 1, fun _ => False, F5, ⟨hm6, ?_, ?_, hp2, hbx.kept hc6.size (fun c hc => hc6.block c (hbx.lt c hc) (fun e => ?_)), fun c hc => .inr (hf5 c hc), fun c hc => ⟨?_, fun e => ?_, fun e => ?_⟩, (Chg.of_below hb5).trans hc6 (fun c hc => .inl (.inl hc)), fun c e => ⟨.inr ?_, ?_⟩⟩, List.drop_sublist 1 E, fun _ _ _ _ h9 => h9, fun c h9 => h9.elim, ?_, IbOk.opn h.ok hs SP hh, Nat.le_trans (List.Sublist.length_le (List.drop_sublist 1 E)) h.len64⟩
  · exact (hc6.block _ hA4 (fun e => by omega)).trans hA
  · exact (hc6.block _ hP4 (fun e => by omega)).trans ho
  · have := hf5 c hc; omega
  · have := hf5 c hc; omega
  · have := hf6 c e; have := hbx.lt c hc; omega
  · have := hf5 c hc; have := hsl c e; omega
  · have := hf6 c e; omega
  · have := hf6 c e; omega
  · unfold pt
    rw [if_neg hno, if_pos (by rw [h.eO, len_mp]; exact hle), h.eO]
    simp [mp, List.map_drop]
theorem tell_w (h : wholeB (some SP) = true) : tellA SP = ⟨4, 0, some SP⟩ := if_pos h
theorem tell_n (h : ¬ wholeB (some SP) = true) : tellA SP = ⟨3, 0, some SP⟩ := if_neg h
theorem ansR_w (h : wholeB (some SP) = true) : AnsR ⟨4, 0, some SP⟩ [] (wholeX (some SP)) := by unfold AnsR; simp [h]
theorem ansR_n (h : ¬ wholeB (some SP) = true) {rs : List Rg} (hg : GotIs rs (some SP)) : AnsR ⟨3, 0, some SP⟩ rs [] := by
  have hf : wholeB (some SP) = false := by simpa using h
  unfold AnsR
  simp [hf]
  exact hg
end
end Go.Proofs.YtdoikcolkbjnfaaGreat
namespace Go.Proofs.YtdoikcolkbjnfaaGreat
set_option linter.unusedVariables false
set_option linter.unusedSimpArgs false
open Go.RowKit Go.Maps
section
variable {w w' : World} {q : Nat} {vo vs : Value} {J : Ib} {E : List (Ss × Bg)}
set_option maxRecDepth 20000
set_option maxHeartbeats 6400000
theorem rseg_ok0 (h : Rv w q vo vs J E) (uk : Int) (en sn : Nat) (pa ui uc : Int) (ux : List UInt8) (ucd : Int) (ul : List Rg) (da : Option Addr) (dn dc : Nat) (ga : Option Addr) (gn gc : Nat) (hn : dn = ux.length) (hx : Rd w da ux) (hdz : da = none → dc = 0) (hxl : ux.length ≤ 1024) (S : List Seg) (hlk : lk J.O (en, sn) = some S) (hnh : (en, sn) ∉ ks J.H) (huc : (S.length : Int) = uc) (hep : en = J.ep) (her : putE (some S) ui ux = 0) : Calls Tryz.prog 52 #[.pointer (some ⟨q, 0, none⟩), sv (en, sn), unV (⟨uk, (en : Int), (sn : Int), pa, ui, uc, ux, ucd, ul⟩ : Un) da dn dc ga gn gc] w fun e w' => TkV w q vo vs E (segI J (⟨uk, (en : Int), (sn : Int), pa, ui, uc, ux, ucd, ul⟩ : Un)) (segA J (⟨uk, (en : Int), (sn : Int), pa, ui, uc, ux, ucd, ul⟩ : Un)) e w' := by
  obtain ⟨SP, hSP⟩ : ∃ SP, SP = putL S ui ux := ⟨_, rfl⟩
  obtain ⟨O9, hO9⟩ : ∃ O9, O9 = pt J.mo J.O (en, sn) SP := ⟨_, rfl⟩
  have HT : Hid (segI J (⟨uk, (en : Int), (sn : Int), pa, ui, uc, ux, ucd, ul⟩ : Un) = { J with O := O9 } ∧ segA J (⟨uk, (en : Int), (sn : Int), pa, ui, uc, ux, ucd, ul⟩ : Un) = tellA SP) := by
    have h9 : lk J.H (sesU (⟨uk, (en : Int), (sn : Int), pa, ui, uc, ux, ucd, ul⟩ : Un)) = none := lk_none.2 hnh
    have hb : boxU J (⟨uk, (en : Int), (sn : Int), pa, ui, uc, ux, ucd, ul⟩ : Un) = S := by unfold boxU; rw [show lk J.O (sesU (⟨uk, (en : Int), (sn : Int), pa, ui, uc, ux, ucd, ul⟩ : Un)) = some S from hlk]; rfl
    have h8 : goesU J (⟨uk, (en : Int), (sn : Int), pa, ui, uc, ux, ucd, ul⟩ : Un) = true := by
      unfold goesU
      rw [hb]
      show (decide (S.length = uc.toNat) && okE (putE (some S) ui ux)) = true
      rw [her, decide_eq_true (by omega)]
      decide
    unfold Hid segI segA
    rw [h9]
    simp only [h8]
    rw [hb, hO9, hSP]
    exact ⟨rfl, rfl⟩
  have HIN : Hid ((en, sn) ∈ ks J.O) := Classical.not_not.1 (fun h9 => by rw [lk_none.2 h9] at hlk; cases hlk)
  obtain ⟨nS, hnS⟩ : ∃ nS, nS = S.length := ⟨_, rfl⟩
  have HNS : Hid (∀ S', lk J.O (en, sn) = some S' → nS = S'.length) := fun S' h9 => by rw [hlk] at h9; cases h9; exact hnS
  rw [← hnS] at huc
  subst huc
  have HLK : Hid _ := hlk
  have HNH : Hid _ := hnh
  have HER : Hid _ := her
  have HEP : Hid (((en, sn) : Ss).1 = J.ep) := hep
  have HSP : Hid _ := hSP.symm
  have HO9 : Hid _ := hO9
  have HDN : Hid _ := hn
  have HDZ : Hid _ := hdz
  obtain ⟨w1, hw1⟩ : ∃ w1, w1 = ((w.alloc (.cells #[.int .u64 (en : Int), .int .u64 (sn : Int)] tRs)).alloc (.cells (unC uk (en : Int) (sn : Int) pa ui (nS : Int) da dn dc ucd ga gn gc) tUn)).alloc (.cells #[.int .i64 0, .int .i64 0, .slice none 0 0, .slice none 0 0] tRa) := ⟨_, rfl⟩
  have hb1 : Below w.heap.size w w1 := by rw [hw1]; exact al (al (al (Below.refl _ _) _) _) _
  have hz1 : w1.heap.size = w.heap.size + 3 := by rw [hw1]; simp
  have hS1 : w1.heap[w.heap.size]? = some (.cells #[.int .u64 (en : Int), .int .u64 (sn : Int)] tRs (0, 0)) := by
    rw [hw1]
    exact ((al (al (Below.refl _ (w.alloc (.cells #[.int .u64 (en : Int), .int .u64 (sn : Int)] tRs))) _) _).block _ (by simp)).trans (heap_alloc_new _ _)
  have hU1 : w1.heap[w.heap.size + 1]? = some (.cells (unC uk (en : Int) (sn : Int) pa ui (nS : Int) da dn dc ucd ga gn gc) tUn (0, 0)) := by
    rw [hw1]
    have h9 := heap_alloc_new (w.alloc (.cells #[.int .u64 (en : Int), .int .u64 (sn : Int)] tRs)) (.cells (unC uk (en : Int) (sn : Int) pa ui (nS : Int) da dn dc ucd ga gn gc) tUn)
    rw [World.size_alloc] at h9
    exact ((al (Below.refl _ ((w.alloc (.cells #[.int .u64 (en : Int), .int .u64 (sn : Int)] tRs)).alloc (.cells (unC uk (en : Int) (sn : Int) pa ui (nS : Int) da dn dc ucd ga gn gc) tUn))) _).block _ (by simp)).trans h9
  have hA1 : w1.heap[w.heap.size + 2]? = some (.cells #[.int .i64 0, .int .i64 0, .slice none 0 0, .slice none 0 0] tRa (0, 0)) := by
    rw [hw1]
    have h9 := heap_alloc_new ((w.alloc (.cells #[.int .u64 (en : Int), .int .u64 (sn : Int)] tRs)).alloc (.cells (unC uk (en : Int) (sn : Int) pa ui (nS : Int) da dn dc ucd ga gn gc) tUn)) (.cells #[.int .i64 0, .int .i64 0, .slice none 0 0, .slice none 0 0] tRa)
    rw [World.size_alloc, World.size_alloc] at h9
    exact h9
  have hR1 := h.below hb1
  have HOP : Hid (Calls _ _ _ w1 _) := ropen_t hR1.m (en, sn) (by have := h.lenO; omega)
  have HR1 : Hid _ := hR1
  have HH : Hid _ := h
  have HB1 : Hid _ := hb1
  have HW1 : Hid (w1 = _) := hw1
  have HZ1 : Hid _ := hz1
  have HS1 : Hid _ := hS1
  have HU1 : Hid _ := hU1
  have HA1 : Hid _ := hA1
  have HXD : Hid (∀ u, Below w1.heap.size w1 u → Rd u da ux) := fun u hu => Rd.below hx (below_next hb1 hu)
  clear h hR1 hb1 hw1 hz1 hS1 hU1 hA1 hn hx hdz hnh hnS hlk her hep hSP hO9
  go_enter Tryz.func52, Tryz.ntmps52
  go_wp2_with fail
  rw [← HW1.out]
  refine Calls.mono HOP.out ?_
  rintro e2 w2 ⟨hfd, hb2⟩
  rcases hfd with ⟨i, hi, hix, rfl⟩ | ⟨hno, rfl⟩
  · obtain ⟨b, hbE, hbx, hbO⟩ := HR1.out.at_ hi hix
    have hR2 := HR1.out.below hb2
    have hs2 : w2.heap[w.heap.size]? = _ := (hb2.block _ (Array.getElem?_eq_some_iff.1 HS1.out).1).trans HS1.out
    have hs20 : w2.cell? ⟨w.heap.size, 0, none⟩ = some (.int .u64 (en : Int)) := by rw [cell_of_row _ _ _ _ _ _ hs2]; rfl
    have hs21 : w2.cell? ⟨w.heap.size, 1, none⟩ = some (.int .u64 (sn : Int)) := by rw [cell_of_row _ _ _ _ _ _ hs2]; rfl
    obtain ⟨a1, c1, hv1, -, -, -, -⟩ := OwnG.val HR1.out.m.ro
    subst hv1
    obtain ⟨n1, hn1⟩ : ∃ n1, n1 = (mp Bg.q E).length := ⟨_, rfl⟩
    rw [← hn1] at HR1 hR2
    have hc2 := hR2.m.cell
    obtain ⟨g, hg, hrg⟩ := rdG_at hR2.m.ro i hi
    subst hg
    have hi0 : (0 : Int) ≤ (i : Int) := by omega
    have hin1 : (i : Int) < (n1 : Int) := by omega
    have y1 : w2.cell? ⟨g, i * 3, none⟩ = _ := hrg 0 (.int .u64 (en : Int)) (by show (KO.f (mp Bg.q E)[i])[0]? = _; rw [hbx]; rfl)
    have y2 : w2.cell? ⟨g, i * 3 + 1, none⟩ = _ := hrg 1 (.int .u64 (sn : Int)) (by show (KO.f (mp Bg.q E)[i])[1]? = _; rw [hbx]; rfl)
    have y3 : w2.cell? ⟨g, i * 3 + 2, none⟩ = _ := hrg 2 (.pointer (some ⟨b.q, 0, none⟩)) (by show (KO.f (mp Bg.q E)[i])[2]? = _; rw [hbx]; rfl)
    have z1 : ∀ o, (w2.alloc o).cell? ⟨g, i * 3, none⟩ = some (.int .u64 (en : Int)) := fun o => ((al (Below.refl _ w2) o).cell (World.block_lt_of_cell? _ _ y1)).trans y1
    have z2 : ∀ o, (w2.alloc o).cell? ⟨g, i * 3 + 1, none⟩ = some (.int .u64 (sn : Int)) := fun o => ((al (Below.refl _ w2) o).cell (World.block_lt_of_cell? _ _ y2)).trans y2
    have z3 : ∀ o, (w2.alloc o).cell? ⟨g, i * 3 + 2, none⟩ = some (.pointer (some ⟨b.q, 0, none⟩)) := fun o => ((al (Below.refl _ w2) o).cell (World.block_lt_of_cell? _ _ y3)).trans y3
    have z4 : ∀ o, (w2.alloc o).cell? ⟨q, 3, none⟩ = some (.slice (some ⟨g, 0, none⟩) n1 c1) := fun o => ((al (Below.refl _ w2) o).cell (World.block_lt_of_cell? _ _ hc2.2.2.2.1)).trans hc2.2.2.2.1
    obtain ⟨w3, hw3⟩ : ∃ w3, w3 = w2.alloc (.cells #[.int .u64 (en : Int), .int .u64 (sn : Int), .pointer (some ⟨b.q, 0, none⟩)] KO.t) := ⟨_, rfl⟩
    have hb3 : Below w1.heap.size w1 w3 := by rw [hw3]; exact al hb2 _
    have ht3 : w3.heap[w2.heap.size]? = some (.cells #[.int .u64 (en : Int), .int .u64 (sn : Int), .pointer (some ⟨b.q, 0, none⟩)] KO.t (0, 0)) := by rw [hw3]; exact heap_alloc_new _ _
    have HW3 : Hid (w3 = _) := hw3
    have HZ2a : Hid (w.heap.size + 3 ≤ w2.heap.size) := by unfold Hid; rw [← HZ1.out]; exact hb2.size
    have HB3 : Hid _ := hb3
    have HT3 : Hid _ := ht3
    have HIX : Hid (∃ hi : i < (mp Bg.q E).length, (mp Bg.q E)[i].1 = (en, sn)) := ⟨hi, hix⟩
    have HBE : Hid _ := hbE
    have HBO : Hid _ := hbO
    have HN1 : Hid _ := hn1
    have HHn : Hid (Rv w q (.slice (some ⟨g, 0, none⟩) n1 c1) vs J E) := by have h9 := HH.out; rw [← hn1] at h9; exact h9
    obtain ⟨P2, hP2⟩ : ∃ P2, P2 = w2.heap.size := ⟨_, rfl⟩
    clear hb2 hR2 hs2 hrg hw3 hb3 ht3 hi hix hbx hbE hbO hn1 hc2 y1 y2 y3
    go_upto_region 6 with fail
    rw [← HW3.out]
    have HQC : Hid (∀ u, Below w3.heap.size w3 u → Calls Tryz.prog 76 #[.pointer (some ⟨b.q, 0, none⟩)] u fun e w' => e = .returned (.int .i64 (nS : Int)) ∧ w' = u) := fun u hu => by
      have h9 := qcount ((HR1.out.bx _ HBE.out).below (below_next HB3.out hu))
      rw [HNS.out _ HBO.out]
      exact h9
    have hk3 : ∀ u, Below w3.heap.size w3 u → u.cell? ⟨w2.heap.size, 2, none⟩ = some (.pointer (some ⟨b.q, 0, none⟩)) ∧ u.cell? ⟨w.heap.size + 1, 5, none⟩ = some (.int .i64 (nS : Int)) := fun u hu => by
      have h9 := (hu.block _ (Array.getElem?_eq_some_iff.1 HT3.out).1).trans HT3.out
      have h8 := ((below_next HB3.out hu).block _ (Array.getElem?_eq_some_iff.1 HU1.out).1).trans HU1.out
      exact ⟨by rw [cell_of_row _ _ _ _ _ _ h9]; rfl, (unBox h8).2.2.2.2.2.1⟩
    clear z1 z2 z3 z4 hs20 hs21 hP2
    refine wp_region_held_drew (S := (fun u => Below w3.heap.size w3 u)) (by kernel_rfl) (by first | exact (Below.refl _ _).drew | assumption) (fun hHeld => ?_)
    refine tz (i := 0) 33 rfl rfl hHeld ?_
    simp only [pS]
    refine tz (i := 1) 34 rfl rfl hHeld ?_
    simp only [pS]
    refine tz (i := 3) 36 rfl rfl hHeld ?_
    simp only [pS]
    refine tz (i := 4) 37 rfl rfl hHeld ?_
    simp only [pS]
    refine run_at (i := 2) rfl (by kernel_rfl) (by rfl) (fun K hK => ?_)
    simp only [List.getElem_toArray, List.getElem_cons_zero, List.getElem_cons_succ]
    go_simp
    (go_at_call 76; refine Calls.mono (HQC.out _ (by assumption)) ?_; rintro e u4 ⟨rfl, hu4⟩; subst hu4)
    go_wp2_with fail
    refine hK.out _ _ (by first | exact (Below.refl _ _).drew | assumption) ?_
    clear hK K
    intro hHeld2
    clear hHeld
    have hHeld := hHeld2
    clear hHeld2
    try simp only [pS]
    refine tz (i := 5) 38 rfl rfl hHeld ?_
    simp only [pS]
    refine wpAnyH_done (by kernel_rfl) ?_ _
    obtain ⟨w4, hw4⟩ : ∃ w4, w4 = w3.drew := ⟨_, rfl⟩
    have hb4 : Below w1.heap.size w1 w4 := by rw [hw4]; exact below_next HB3.out (Below.refl _ _).drew
    rw [← hw4]
    have hb34 : Below w3.heap.size w3 w4 := by rw [hw4]; exact (Below.refl _ _).drew
    have HB4 : Hid (Below w.heap.size w w4) := below_next HB1.out hb4
    have HA4 : Hid _ := (hb4.block _ (Array.getElem?_eq_some_iff.1 HA1.out).1).trans HA1.out
    have HU4 : Hid _ := (hb4.block _ (Array.getElem?_eq_some_iff.1 HU1.out).1).trans HU1.out
    have HT4 : Hid _ := (hb34.block _ (Array.getElem?_eq_some_iff.1 HT3.out).1).trans HT3.out
    have HR4 : Hid _ := HR1.out.below hb4
    have HPU : Hid (Calls _ _ _ w4 _) := qput (HR4.out.bx _ HBE.out) ui da dn dc ux HDN.out (HXD.out w4 hb4) HDZ.out (by have := HDN.out; omega)
    have hu4 := unBox HU4.out
    have ht4 : w4.cell? ⟨w2.heap.size, 2, none⟩ = some (.pointer (some ⟨b.q, 0, none⟩)) := by rw [cell_of_row _ _ _ _ _ _ HT4.out]; rfl
    have HZ2 : Hid (w.heap.size + 3 ≤ w2.heap.size ∧ w2.heap.size < w4.heap.size) := ⟨HZ2a.out, (Array.getElem?_eq_some_iff.1 HT4.out).1⟩
    have HSB : Hid (b.S = S) := Option.some.inj (HBO.out.symm.trans HLK.out)
    rw [HSB.out] at HPU
    clear hb4 hw4 hb34 hk3 hHeld
    go_wp2_with fail
    refine Calls.mono HPU.out ?_
    rintro e5 w5 ⟨rfl, hl5⟩
    obtain ⟨F5, hb5, hf5⟩ := hl5.ex
    have hc5 := hl5.chg
    have hS5 : putS (some S) ui ux = some SP := by rw [putS_L, HSP.out]
    rw [hS5] at hb5
    have hm5 : RiM w5 q J.mo J.ms J.ep (.slice (some ⟨g, 0, none⟩) n1 c1) vs (mp Bg.q E) J.H := HR4.out.m.chg hc5 (fun c hc => HR4.out.nf _ HBE.out c hc)
    obtain ⟨hi, hix⟩ := HIX.out
    have HOU : Hid (Calls _ _ _ w5 _) := rout_t hm5 i hi (by have := HHn.out.lenO; omega)
    have HMK : Hid (∀ (w6 : World) (v6 : Value), RiM w6 q J.mo J.ms J.ep v6 vs ((mp Bg.q E).eraseIdx i) J.H → (∀ c, v6.ownBlock = some c → w5.heap.size ≤ c) → Chg (fun c => c = q) w5 w6 → SgX w w6 q w2.heap.size (.slice (some ⟨g, 0, none⟩) n1 c1) vs J E (en, sn) b.q SP O9) := fun w6 v6 hm6 hf6 hc6 => by
      rw [HO9.out]
      exact SgX.opn HHn.out HB4.out HBE.out hi hix HA4.out HT4.out HZ2.out.1 hb5 hf5 hc5 hm6 hf6 hc6 HEP.out HNH.out
    obtain ⟨er, her⟩ : ∃ er, er = putE (some S) ui ux := ⟨_, rfl⟩
    have h0 : er = 0 := by rw [her]; exact HER.out
    have h0b : (er != 0) = false := by rw [h0]; decide

    rw [← her]
    clear hl5 hb5 hf5 hc5 hS5 hm5 her hu4 ht4 h0 hi hix
    go_wp2_with fail
    refine Calls.mono HOU.out ?_
    rintro e6 w6 ⟨rfl, v6', hm6', hf6', hc6'⟩
    obtain ⟨bq, hbq⟩ : ∃ bq, bq = b.q := ⟨_, rfl⟩
    have HSX : Hid (SgX w w6 q w2.heap.size (.slice (some ⟨g, 0, none⟩) n1 c1) vs J E (en, sn) bq SP O9) := by rw [hbq]; exact HMK.out w6 v6' hm6' hf6' hc6'
    clear hm6' hf6' hc6' hbq
    obtain ⟨v6, E0, bF, F6, hsg, hsub, hdj, hbF, hO, hok, hl0⟩ := HSX.out.ex
    obtain ⟨a6, c6, hv6, -, -, -, -⟩ := OwnG.val hsg.m.ro
    obtain ⟨X6, hX6⟩ : ∃ X6, X6 = mp Bg.q E0 := ⟨_, rfl⟩
    obtain ⟨n6, hn6⟩ : ∃ n6, n6 = X6.length := ⟨_, rfl⟩
    rw [← hX6, ← hn6] at hv6
    subst hv6
    have hm6 := hsg.m
    rw [← hX6] at hm6
    have hnl : n6 ≤ 64 := by rw [hn6, hX6, len_mp]; exact hl0
    have HOW : Hid (∀ u, Below w6.heap.size w6 u → OwnG KO u 0 (.slice a6 n6 c6) X6) := fun u hu => OwnG.below hm6.ro hu
    have HCQ : Hid (∀ u, Below w6.heap.size w6 u → u.cell? ⟨q, 3, none⟩ = some (.slice a6 n6 c6)) := fun u hu => (hm6.below hu).cell.2.2.2.1
    have HCS : Hid (∀ u, Below w6.heap.size w6 u → _) := fun u hu => opK ((hu.block _ (Array.getElem?_eq_some_iff.1 hsg.o).1).trans hsg.o)
    have HQ : Hid (∀ u u', Below w6.heap.size w6 u → u.grownBy u' (Value.slice a6 n6 c6).ownBlock → u'.cell? ⟨q, 3, none⟩ = some (.slice a6 n6 c6) ∧ u'.frozen? ⟨q, 3, none⟩ = false) := fun u u' hu hg => by
      have h9 := hm6.below hu
      have h8 : u'.heap[q]? = u.heap[q]? := hg.block q (Array.getElem?_eq_some_iff.1 h9.hp).1 (fun e => h9.oq e.symm)
      exact ⟨(World.cell?_of_block h8).trans h9.cell.2.2.2.1, (World.frozen?_of_block h8).trans (h9.fz 3)⟩
    have HPH : Hid (∀ (u u' : World) (gz nz cz : Nat), Below w6.heap.size w6 u → OwnG KO u' 0 (.slice (some ⟨gz, 0, none⟩) nz cz) (X6 ++ [((en, sn), bq)]) → u.grownBy u' (Value.slice a6 n6 c6).ownBlock → ((Value.slice a6 n6 c6).ownBlock = some gz ∨ u.heap.size ≤ gz) → SgU w (u'.setCell ⟨q, 3, none⟩ (.slice (some ⟨gz, 0, none⟩) nz cz)) q w2.heap.size (.slice (some ⟨g, 0, none⟩) n1 c1) vs J E O9 bq SP) := fun u u' gz nz cz hb ho hg ha => hsg.push HHn.out hsub hdj hbF hO hok hb (by rw [← hX6]; exact ho) hg ha
    have HLE : Hid (n6 = X6.length) := hn6
    clear hsg hsub hdj hbF hO hok hl0 hX6 hn6 hm6
    go_wp2_with fail
    refine wp_region_noPanic ?_
    refine wp_region_late_drew (S := (fun u => Below w6.heap.size w6 u)) (X := [7, 8, 9, 10]) (by kernel_rfl) (by with_reducible first | exact (Below.refl _ _).drew | exact al (Below.refl _ _).drew _ | exact al hHeld _ | exact (al (Below.refl _ _) _).drew) (fun hHeld => ?_)
    refine take_atA (i := 0) 71 (v := ?_) rfl rfl (by kernel_rfl) (by kernel_rfl) (by kernel_rfl) (by decide) (fun _ _ _ h => h) (by rfl) ?_ hHeld ?_
    rotate_left
    · (intro w; go_simp; try with_reducible rfl)
    simp only [pS]
    refine take_atA (i := 1) 72 (v := ?_) rfl rfl (by kernel_rfl) (by kernel_rfl) (by kernel_rfl) (by decide) (fun _ _ _ h => h) (by rfl) ?_ hHeld ?_
    rotate_left
    · (intro w; go_simp; try with_reducible rfl)
    simp only [pS]
    refine take_atA (i := 2) 73 (v := ?_) rfl rfl (by kernel_rfl) (by kernel_rfl) (by kernel_rfl) (by decide) (fun _ _ _ h => h) (by rfl) ?_ hHeld ?_
    rotate_left
    · (intro w; go_simp; try with_reducible rfl)
    simp only [pS]
    refine take_atA (i := 3) 74 (v := ?_) rfl rfl (by kernel_rfl) (by kernel_rfl) (by kernel_rfl) (by decide) (fun _ _ _ h => h) (by rfl) ?_ hHeld ?_
    rotate_left
    · (intro w; go_simp; try with_reducible rfl)
    simp only [pS]
    refine take_atL (i := 4) 75 (v := .slice a6 n6 c6) rfl rfl (by kernel_rfl) (by kernel_rfl) (by kernel_rfl) (by kernel_rfl) (fun _ _ _ h => h) (by rfl) ?_ hHeld ?_
    · (intro w hSw; have hc9 := HCQ.out _ hSw; go_simp; try with_reducible rfl)
    simp only [pS]
    refine take_atL (i := 5) 76 (v := .agg #[.int .u64 (en : Int), .int .u64 (sn : Int), .pointer (some ⟨bq, 0, none⟩)]) rfl rfl (by kernel_rfl) (by kernel_rfl) (by kernel_rfl) (by kernel_rfl) (fun _ _ _ h => h) (by rfl) ?_ hHeld ?_
    · (intro w hSw; have hc9 := HCS.out _ hSw; go_simp; try with_reducible rfl)
    simp only [pS]
    refine run_atL (i := 6) rfl (by kernel_rfl) (by rfl) (fun K hK => ?_)
    simp only [List.getElem_toArray, List.getElem_cons_zero, List.getElem_cons_succ]
    go_simp
    go_wp2_with fail
    refine hK.out _ _ (by with_reducible first | exact (Below.refl _ _).drew | exact al (Below.refl _ _).drew _ | exact al hHeld _ | exact (al (Below.refl _ _) _).drew) ?_
    clear hK K
    intro hHeld2
    clear hHeld
    have hHeld := hHeld2
    clear hHeld2
    try simp only [pS]
    refine run_atLate (i := 7) rfl (by kernel_rfl) (by decide) (by rfl) (fun K hK => ?_)
    simp only [List.getElem_toArray, List.getElem_cons_zero, List.getElem_cons_succ]
    (refine wpo_appG1 (K := KO) _ _ rfl 0 (.slice a6 n6 c6) X6 ((en, sn), bq) n6 HLE.out ⟨w6.heap.size, 0, none⟩ 1 rfl (HOW.out _ (al (Below.refl _ _).drew _)) rfl (rdG_lit (K := KO) (heap_alloc_new _ _) rfl) (by show (n6 + 1) * 24 ≤ _; omega) (by simp only [maxLen]; omega) (Nat.zero_le _) ?_; intro g8 c8 w8 hown8 hg8 hat8; obtain ⟨hcq, hfq⟩ := HQ.out _ _ (al (Below.refl _ _).drew _) hg8; have HO8 : Hid _ := hown8; have HG8 : Hid _ := hg8; have HT8 : Hid _ := hat8; clear hown8 hg8 hat8)
    refine hK.out _ _ ?_
    clear hK K
    try simp only [pS]
    refine val_atLate (i := 8) 79 (v := ?_) rfl rfl (by kernel_rfl) (by decide) (by rfl) ?_ ?_
    rotate_left
    · (go_simp; try with_reducible rfl)
    simp only [pS]
    refine val_atLate (i := 9) 80 (v := ?_) rfl rfl (by kernel_rfl) (by decide) (by rfl) ?_ ?_
    rotate_left
    · (go_simp; try with_reducible rfl)
    simp only [pS]
    refine run_atLate (i := 10) rfl (by kernel_rfl) (by decide) (by rfl) (fun K hK => ?_)
    simp only [List.getElem_toArray, List.getElem_cons_zero, List.getElem_cons_succ]
    go_simp
    go_wp2_with fail
    refine hK.out _ _ ?_
    clear hK K
    try simp only [pS]
    refine doneL (by kernel_rfl) ?_ _
    refine NoPanic.normal ?_
    have HU8 : Hid (Below w6.heap.size w6 (w6.drew.alloc (.cells #[.int .u64 (en : Int), .int .u64 (sn : Int), .pointer (some ⟨bq, 0, none⟩)] KO.t))) := al (Below.refl _ _).drew _
    have hsu := HPH.out _ _ _ _ _ HU8.out HO8.out HG8.out HT8.out
    obtain ⟨w9, hw9⟩ : ∃ w9, w9 = w8.setCell ⟨q, 3, none⟩ (.slice (some ⟨g8, 0, none⟩) (n6 + 1) c8) := ⟨_, rfl⟩
    rw [← hw9] at hsu ⊢
    have ht9 := hsu.o
    obtain ⟨F9, hbx9⟩ := hsu.bx
    have HQW : Hid (Calls _ _ _ w9 _) := qwhole hbx9
    have HQG : Hid (∀ u, Below w9.heap.size w9 u → Calls _ _ _ u _) := fun u hu => qgot (hbx9.below hu)
    have HXL : Hid _ := wholeX_leR hbx9
    have HSU : Hid _ := hsu
    have HTT : Hid (∀ u, Below w9.heap.size w9 u → u.cell? ⟨w2.heap.size, 2, none⟩ = some (.pointer (some ⟨bq, 0, none⟩))) := fun u hu => (hu.cell (World.block_lt_of_cell? _ _ ht9)).trans ht9
    clear hsu hbx9 hw9 hcq hfq
    go_wp2_with fail
    refine Calls.mono HQW.out ?_
    rintro e10 w10 ⟨u10, rfl, hown10, hb10⟩
    obtain ⟨ao, cap, rfl, -, -, -, -, -⟩ := Own.val hown10
    obtain ⟨N, hN⟩ : ∃ N, N = (wholeX (some SP)).length := ⟨_, rfl⟩
    rw [← hN]
    have hA10 := (hb10.block _ (Array.getElem?_eq_some_iff.1 HSU.out.an).1).trans HSU.out.an
    have HO10 : Hid (Own w10 w9.heap.size (.slice ao N cap) (wholeX (some SP))) := by rw [hN]; exact hown10
    have HB10 : Hid _ := hb10
    by_cases hwh : wholeB (some SP) = true
    · rw [hwh]
      obtain ⟨b0, b1, b2, b3, f0, f1, f2, f3⟩ := ansCellR hA10
      have HWH : Hid _ := hwh
      clear hown10 hb10 hN hA10 hwh ht9
      go_wp2
      have hST : Chg (fun b => b = w.heap.size + 2) w10 ((((w10.setCell ⟨w.heap.size + 2, 0, none⟩ (.int .i64 4)).setCell ⟨w.heap.size + 2, 1, none⟩ (.int .i64 0)).setCell ⟨w.heap.size + 2, 2, none⟩ (.slice none 0 0)).setCell ⟨w.heap.size + 2, 3, none⟩ (.slice ao N cap)) := Chg.of_grown ((((gset1 w10 (w.heap.size + 2) 0 _).trans' (gset1 _ (w.heap.size + 2) 1 _)).trans' (gset1 _ (w.heap.size + 2) 2 _)).trans' (gset1 _ (w.heap.size + 2) 3 _)) (fun b e => (Option.some.inj e).symm)
      exact bodyPost_ret (v := ansV ⟨4, 0, some SP⟩ none ao 0 0 N cap) (by simp [results, Tryz.results52, go_sem, b0, b1, b2, b3, f0, f1, f2, f3]) rfl (by rw [HT.out.1, HT.out.2, tell_w HWH.out]; exact HSU.out.fin (rs := []) HB10.out hST ⟨OwnR.nil _ _, HO10.out, ansR_w HWH.out, by simp, HXL.out⟩)
    · rw [show wholeB (some SP) = false by simpa using hwh]
      have ht10 := HTT.out w10 hb10
      have HG10 : Hid (Calls _ _ _ w10 _) := HQG.out w10 hb10
      have HWH : Hid _ := hwh
      have HA10 : Hid _ := hA10
      clear hown10 hb10 hN hA10 hwh ht9
      go_wp2_with fail
      refine Calls.mono HG10.out ?_
      rintro e11 w11 ⟨v11, rs, rfl, hown11, hgot, hlen, hb11⟩
      obtain ⟨ga', gc', rfl, -, -, -, -, -⟩ := OwnR.val hown11
      have hA11 := (hb11.block _ (Array.getElem?_eq_some_iff.1 HA10.out).1).trans HA10.out
      obtain ⟨b0, b1, b2, b3, f0, f1, f2, f3⟩ := ansCellR hA11
      obtain ⟨M, hM⟩ : ∃ M, M = rs.length := ⟨_, rfl⟩
      rw [← hM]
      have HO11 : Hid (OwnR w11 w9.heap.size (.slice ga' M gc') rs) := by rw [hM]; exact OwnR.base hown11 HB10.out.size
      have HGT : Hid _ := hgot
      have HL : Hid _ := hlen
      have HB11 : Hid (Below w9.heap.size w9 w11) := below_next HB10.out hb11
      clear hown11 hgot hlen hb11 hM hA11 ht10
      go_wp2
      have hST : Chg (fun b => b = w.heap.size + 2) w11 ((((w11.setCell ⟨w.heap.size + 2, 0, none⟩ (.int .i64 3)).setCell ⟨w.heap.size + 2, 1, none⟩ (.int .i64 0)).setCell ⟨w.heap.size + 2, 2, none⟩ (.slice ga' M gc')).setCell ⟨w.heap.size + 2, 3, none⟩ (.slice none 0 0)) := Chg.of_grown ((((gset1 w11 (w.heap.size + 2) 0 _).trans' (gset1 _ (w.heap.size + 2) 1 _)).trans' (gset1 _ (w.heap.size + 2) 2 _)).trans' (gset1 _ (w.heap.size + 2) 3 _)) (fun b e => (Option.some.inj e).symm)
      exact bodyPost_ret (v := ansV ⟨3, 0, some SP⟩ ga' none M gc' 0 0) (by simp [results, Tryz.results52, go_sem, b0, b1, b2, b3, f0, f1, f2, f3]) rfl (by rw [HT.out.1, HT.out.2, tell_n HWH.out]; exact HSU.out.fin (xs := []) HB11.out hST ⟨HO11.out, World.ownsRow_nil _ _ _ _, ansR_n HWH.out HGT.out, HL.out, by simp⟩)
  · exact absurd HIN.out (by rw [HH.out.ksO, ← ks_mp Bg.q]; exact hno)
end
end Go.Proofs.YtdoikcolkbjnfaaGreat
namespace Go.Proofs.YtdoikcolkbjnfaaGreat
set_option linter.unusedVariables false
set_option linter.unusedSimpArgs false
open Go.RowKit Go.Maps
section
variable {w w' : World} {q : Nat} {vo vs : Value} {J : Ib} {E : List (Ss × Bg)}
set_option maxRecDepth 20000
set_option maxHeartbeats 6400000
theorem rseg_ok3 (h : Rv w q vo vs J E) (uk : Int) (en sn : Nat) (pa ui uc : Int) (ux : List UInt8) (ucd : Int) (ul : List Rg) (da : Option Addr) (dn dc : Nat) (ga : Option Addr) (gn gc : Nat) (hn : dn = ux.length) (hx : Rd w da ux) (hdz : da = none → dc = 0) (hxl : ux.length ≤ 1024) (S : List Seg) (hlk : lk J.O (en, sn) = some S) (hnh : (en, sn) ∉ ks J.H) (huc : (S.length : Int) = uc) (hep : en = J.ep) (her : putE (some S) ui ux = 3) : Calls Tryz.prog 52 #[.pointer (some ⟨q, 0, none⟩), sv (en, sn), unV (⟨uk, (en : Int), (sn : Int), pa, ui, uc, ux, ucd, ul⟩ : Un) da dn dc ga gn gc] w fun e w' => TkV w q vo vs E (segI J (⟨uk, (en : Int), (sn : Int), pa, ui, uc, ux, ucd, ul⟩ : Un)) (segA J (⟨uk, (en : Int), (sn : Int), pa, ui, uc, ux, ucd, ul⟩ : Un)) e w' := by
  obtain ⟨SP, hSP⟩ : ∃ SP, SP = putL S ui ux := ⟨_, rfl⟩
  obtain ⟨O9, hO9⟩ : ∃ O9, O9 = pt J.mo J.O (en, sn) SP := ⟨_, rfl⟩
  have HT : Hid (segI J (⟨uk, (en : Int), (sn : Int), pa, ui, uc, ux, ucd, ul⟩ : Un) = { J with O := O9 } ∧ segA J (⟨uk, (en : Int), (sn : Int), pa, ui, uc, ux, ucd, ul⟩ : Un) = tellA SP) := by
    have h9 : lk J.H (sesU (⟨uk, (en : Int), (sn : Int), pa, ui, uc, ux, ucd, ul⟩ : Un)) = none := lk_none.2 hnh
    have hb : boxU J (⟨uk, (en : Int), (sn : Int), pa, ui, uc, ux, ucd, ul⟩ : Un) = S := by unfold boxU; rw [show lk J.O (sesU (⟨uk, (en : Int), (sn : Int), pa, ui, uc, ux, ucd, ul⟩ : Un)) = some S from hlk]; rfl
    have h8 : goesU J (⟨uk, (en : Int), (sn : Int), pa, ui, uc, ux, ucd, ul⟩ : Un) = true := by
      unfold goesU
      rw [hb]
      show (decide (S.length = uc.toNat) && okE (putE (some S) ui ux)) = true
      rw [her, decide_eq_true (by omega)]
      decide
    unfold Hid segI segA
    rw [h9]
    simp only [h8]
    rw [hb, hO9, hSP]
    exact ⟨rfl, rfl⟩
  have HIN : Hid ((en, sn) ∈ ks J.O) := Classical.not_not.1 (fun h9 => by rw [lk_none.2 h9] at hlk; cases hlk)
  obtain ⟨nS, hnS⟩ : ∃ nS, nS = S.length := ⟨_, rfl⟩
  have HNS : Hid (∀ S', lk J.O (en, sn) = some S' → nS = S'.length) := fun S' h9 => by rw [hlk] at h9; cases h9; exact hnS
  rw [← hnS] at huc
  subst huc
  have HLK : Hid _ := hlk
  have HNH : Hid _ := hnh
  have HER : Hid _ := her
  have HEP : Hid (((en, sn) : Ss).1 = J.ep) := hep
  have HSP : Hid _ := hSP.symm
  have HO9 : Hid _ := hO9
  have HDN : Hid _ := hn
  have HDZ : Hid _ := hdz
  obtain ⟨w1, hw1⟩ : ∃ w1, w1 = ((w.alloc (.cells #[.int .u64 (en : Int), .int .u64 (sn : Int)] tRs)).alloc (.cells (unC uk (en : Int) (sn : Int) pa ui (nS : Int) da dn dc ucd ga gn gc) tUn)).alloc (.cells #[.int .i64 0, .int .i64 0, .slice none 0 0, .slice none 0 0] tRa) := ⟨_, rfl⟩
  have hb1 : Below w.heap.size w w1 := by rw [hw1]; exact al (al (al (Below.refl _ _) _) _) _
  have hz1 : w1.heap.size = w.heap.size + 3 := by rw [hw1]; simp
  have hS1 : w1.heap[w.heap.size]? = some (.cells #[.int .u64 (en : Int), .int .u64 (sn : Int)] tRs (0, 0)) := by
    rw [hw1]
    exact ((al (al (Below.refl _ (w.alloc (.cells #[.int .u64 (en : Int), .int .u64 (sn : Int)] tRs))) _) _).block _ (by simp)).trans (heap_alloc_new _ _)
  have hU1 : w1.heap[w.heap.size + 1]? = some (.cells (unC uk (en : Int) (sn : Int) pa ui (nS : Int) da dn dc ucd ga gn gc) tUn (0, 0)) := by
    rw [hw1]
    have h9 := heap_alloc_new (w.alloc (.cells #[.int .u64 (en : Int), .int .u64 (sn : Int)] tRs)) (.cells (unC uk (en : Int) (sn : Int) pa ui (nS : Int) da dn dc ucd ga gn gc) tUn)
    rw [World.size_alloc] at h9
    exact ((al (Below.refl _ ((w.alloc (.cells #[.int .u64 (en : Int), .int .u64 (sn : Int)] tRs)).alloc (.cells (unC uk (en : Int) (sn : Int) pa ui (nS : Int) da dn dc ucd ga gn gc) tUn))) _).block _ (by simp)).trans h9
  have hA1 : w1.heap[w.heap.size + 2]? = some (.cells #[.int .i64 0, .int .i64 0, .slice none 0 0, .slice none 0 0] tRa (0, 0)) := by
    rw [hw1]
    have h9 := heap_alloc_new ((w.alloc (.cells #[.int .u64 (en : Int), .int .u64 (sn : Int)] tRs)).alloc (.cells (unC uk (en : Int) (sn : Int) pa ui (nS : Int) da dn dc ucd ga gn gc) tUn)) (.cells #[.int .i64 0, .int .i64 0, .slice none 0 0, .slice none 0 0] tRa)
    rw [World.size_alloc, World.size_alloc] at h9
    exact h9
  have hR1 := h.below hb1
  have HOP : Hid (Calls _ _ _ w1 _) := ropen_t hR1.m (en, sn) (by have := h.lenO; omega)
  have HR1 : Hid _ := hR1
  have HH : Hid _ := h
  have HB1 : Hid _ := hb1
  have HW1 : Hid (w1 = _) := hw1
  have HZ1 : Hid _ := hz1
  have HS1 : Hid _ := hS1
  have HU1 : Hid _ := hU1
  have HA1 : Hid _ := hA1
  have HXD : Hid (∀ u, Below w1.heap.size w1 u → Rd u da ux) := fun u hu => Rd.below hx (below_next hb1 hu)
  clear h hR1 hb1 hw1 hz1 hS1 hU1 hA1 hn hx hdz hnh hnS hlk her hep hSP hO9
  go_enter Tryz.func52, Tryz.ntmps52
  go_wp2_with fail
  rw [← HW1.out]
  refine Calls.mono HOP.out ?_
  rintro e2 w2 ⟨hfd, hb2⟩
  rcases hfd with ⟨i, hi, hix, rfl⟩ | ⟨hno, rfl⟩
  · obtain ⟨b, hbE, hbx, hbO⟩ := HR1.out.at_ hi hix
    have hR2 := HR1.out.below hb2
    have hs2 : w2.heap[w.heap.size]? = _ := (hb2.block _ (Array.getElem?_eq_some_iff.1 HS1.out).1).trans HS1.out
    have hs20 : w2.cell? ⟨w.heap.size, 0, none⟩ = some (.int .u64 (en : Int)) := by rw [cell_of_row _ _ _ _ _ _ hs2]; rfl
    have hs21 : w2.cell? ⟨w.heap.size, 1, none⟩ = some (.int .u64 (sn : Int)) := by rw [cell_of_row _ _ _ _ _ _ hs2]; rfl
    obtain ⟨a1, c1, hv1, -, -, -, -⟩ := OwnG.val HR1.out.m.ro
    subst hv1
    obtain ⟨n1, hn1⟩ : ∃ n1, n1 = (mp Bg.q E).length := ⟨_, rfl⟩
    rw [← hn1] at HR1 hR2
    have hc2 := hR2.m.cell
    obtain ⟨g, hg, hrg⟩ := rdG_at hR2.m.ro i hi
    subst hg
    have hi0 : (0 : Int) ≤ (i : Int) := by omega
    have hin1 : (i : Int) < (n1 : Int) := by omega
    have y1 : w2.cell? ⟨g, i * 3, none⟩ = _ := hrg 0 (.int .u64 (en : Int)) (by show (KO.f (mp Bg.q E)[i])[0]? = _; rw [hbx]; rfl)
    have y2 : w2.cell? ⟨g, i * 3 + 1, none⟩ = _ := hrg 1 (.int .u64 (sn : Int)) (by show (KO.f (mp Bg.q E)[i])[1]? = _; rw [hbx]; rfl)
    have y3 : w2.cell? ⟨g, i * 3 + 2, none⟩ = _ := hrg 2 (.pointer (some ⟨b.q, 0, none⟩)) (by show (KO.f (mp Bg.q E)[i])[2]? = _; rw [hbx]; rfl)
    have z1 : ∀ o, (w2.alloc o).cell? ⟨g, i * 3, none⟩ = some (.int .u64 (en : Int)) := fun o => ((al (Below.refl _ w2) o).cell (World.block_lt_of_cell? _ _ y1)).trans y1
    have z2 : ∀ o, (w2.alloc o).cell? ⟨g, i * 3 + 1, none⟩ = some (.int .u64 (sn : Int)) := fun o => ((al (Below.refl _ w2) o).cell (World.block_lt_of_cell? _ _ y2)).trans y2
    have z3 : ∀ o, (w2.alloc o).cell? ⟨g, i * 3 + 2, none⟩ = some (.pointer (some ⟨b.q, 0, none⟩)) := fun o => ((al (Below.refl _ w2) o).cell (World.block_lt_of_cell? _ _ y3)).trans y3
    have z4 : ∀ o, (w2.alloc o).cell? ⟨q, 3, none⟩ = some (.slice (some ⟨g, 0, none⟩) n1 c1) := fun o => ((al (Below.refl _ w2) o).cell (World.block_lt_of_cell? _ _ hc2.2.2.2.1)).trans hc2.2.2.2.1
    obtain ⟨w3, hw3⟩ : ∃ w3, w3 = w2.alloc (.cells #[.int .u64 (en : Int), .int .u64 (sn : Int), .pointer (some ⟨b.q, 0, none⟩)] KO.t) := ⟨_, rfl⟩
    have hb3 : Below w1.heap.size w1 w3 := by rw [hw3]; exact al hb2 _
    have ht3 : w3.heap[w2.heap.size]? = some (.cells #[.int .u64 (en : Int), .int .u64 (sn : Int), .pointer (some ⟨b.q, 0, none⟩)] KO.t (0, 0)) := by rw [hw3]; exact heap_alloc_new _ _
    have HW3 : Hid (w3 = _) := hw3
    have HZ2a : Hid (w.heap.size + 3 ≤ w2.heap.size) := by unfold Hid; rw [← HZ1.out]; exact hb2.size
    have HB3 : Hid _ := hb3
    have HT3 : Hid _ := ht3
    have HIX : Hid (∃ hi : i < (mp Bg.q E).length, (mp Bg.q E)[i].1 = (en, sn)) := ⟨hi, hix⟩
    have HBE : Hid _ := hbE
    have HBO : Hid _ := hbO
    have HN1 : Hid _ := hn1
    have HHn : Hid (Rv w q (.slice (some ⟨g, 0, none⟩) n1 c1) vs J E) := by have h9 := HH.out; rw [← hn1] at h9; exact h9
    obtain ⟨P2, hP2⟩ : ∃ P2, P2 = w2.heap.size := ⟨_, rfl⟩
    clear hb2 hR2 hs2 hrg hw3 hb3 ht3 hi hix hbx hbE hbO hn1 hc2 y1 y2 y3
    go_upto_region 6 with fail
    rw [← HW3.out]
    have HQC : Hid (∀ u, Below w3.heap.size w3 u → Calls Tryz.prog 76 #[.pointer (some ⟨b.q, 0, none⟩)] u fun e w' => e = .returned (.int .i64 (nS : Int)) ∧ w' = u) := fun u hu => by
      have h9 := qcount ((HR1.out.bx _ HBE.out).below (below_next HB3.out hu))
      rw [HNS.out _ HBO.out]
      exact h9
    have hk3 : ∀ u, Below w3.heap.size w3 u → u.cell? ⟨w2.heap.size, 2, none⟩ = some (.pointer (some ⟨b.q, 0, none⟩)) ∧ u.cell? ⟨w.heap.size + 1, 5, none⟩ = some (.int .i64 (nS : Int)) := fun u hu => by
      have h9 := (hu.block _ (Array.getElem?_eq_some_iff.1 HT3.out).1).trans HT3.out
      have h8 := ((below_next HB3.out hu).block _ (Array.getElem?_eq_some_iff.1 HU1.out).1).trans HU1.out
      exact ⟨by rw [cell_of_row _ _ _ _ _ _ h9]; rfl, (unBox h8).2.2.2.2.2.1⟩
    clear z1 z2 z3 z4 hs20 hs21 hP2
    refine wp_region_held_drew (S := (fun u => Below w3.heap.size w3 u)) (by kernel_rfl) (by first | exact (Below.refl _ _).drew | assumption) (fun hHeld => ?_)
    refine tz (i := 0) 33 rfl rfl hHeld ?_
    simp only [pS]
    refine tz (i := 1) 34 rfl rfl hHeld ?_
    simp only [pS]
    refine tz (i := 3) 36 rfl rfl hHeld ?_
    simp only [pS]
    refine tz (i := 4) 37 rfl rfl hHeld ?_
    simp only [pS]
    refine run_at (i := 2) rfl (by kernel_rfl) (by rfl) (fun K hK => ?_)
    simp only [List.getElem_toArray, List.getElem_cons_zero, List.getElem_cons_succ]
    go_simp
    (go_at_call 76; refine Calls.mono (HQC.out _ (by assumption)) ?_; rintro e u4 ⟨rfl, hu4⟩; subst hu4)
    go_wp2_with fail
    refine hK.out _ _ (by first | exact (Below.refl _ _).drew | assumption) ?_
    clear hK K
    intro hHeld2
    clear hHeld
    have hHeld := hHeld2
    clear hHeld2
    try simp only [pS]
    refine tz (i := 5) 38 rfl rfl hHeld ?_
    simp only [pS]
    refine wpAnyH_done (by kernel_rfl) ?_ _
    obtain ⟨w4, hw4⟩ : ∃ w4, w4 = w3.drew := ⟨_, rfl⟩
    have hb4 : Below w1.heap.size w1 w4 := by rw [hw4]; exact below_next HB3.out (Below.refl _ _).drew
    rw [← hw4]
    have hb34 : Below w3.heap.size w3 w4 := by rw [hw4]; exact (Below.refl _ _).drew
    have HB4 : Hid (Below w.heap.size w w4) := below_next HB1.out hb4
    have HA4 : Hid _ := (hb4.block _ (Array.getElem?_eq_some_iff.1 HA1.out).1).trans HA1.out
    have HU4 : Hid _ := (hb4.block _ (Array.getElem?_eq_some_iff.1 HU1.out).1).trans HU1.out
    have HT4 : Hid _ := (hb34.block _ (Array.getElem?_eq_some_iff.1 HT3.out).1).trans HT3.out
    have HR4 : Hid _ := HR1.out.below hb4
    have HPU : Hid (Calls _ _ _ w4 _) := qput (HR4.out.bx _ HBE.out) ui da dn dc ux HDN.out (HXD.out w4 hb4) HDZ.out (by have := HDN.out; omega)
    have hu4 := unBox HU4.out
    have ht4 : w4.cell? ⟨w2.heap.size, 2, none⟩ = some (.pointer (some ⟨b.q, 0, none⟩)) := by rw [cell_of_row _ _ _ _ _ _ HT4.out]; rfl
    have HZ2 : Hid (w.heap.size + 3 ≤ w2.heap.size ∧ w2.heap.size < w4.heap.size) := ⟨HZ2a.out, (Array.getElem?_eq_some_iff.1 HT4.out).1⟩
    have HSB : Hid (b.S = S) := Option.some.inj (HBO.out.symm.trans HLK.out)
    rw [HSB.out] at HPU
    clear hb4 hw4 hb34 hk3 hHeld
    go_wp2_with fail
    refine Calls.mono HPU.out ?_
    rintro e5 w5 ⟨rfl, hl5⟩
    obtain ⟨F5, hb5, hf5⟩ := hl5.ex
    have hc5 := hl5.chg
    have hS5 : putS (some S) ui ux = some SP := by rw [putS_L, HSP.out]
    rw [hS5] at hb5
    have hm5 : RiM w5 q J.mo J.ms J.ep (.slice (some ⟨g, 0, none⟩) n1 c1) vs (mp Bg.q E) J.H := HR4.out.m.chg hc5 (fun c hc => HR4.out.nf _ HBE.out c hc)
    obtain ⟨hi, hix⟩ := HIX.out
    have HOU : Hid (Calls _ _ _ w5 _) := rout_t hm5 i hi (by have := HHn.out.lenO; omega)
    have HMK : Hid (∀ (w6 : World) (v6 : Value), RiM w6 q J.mo J.ms J.ep v6 vs ((mp Bg.q E).eraseIdx i) J.H → (∀ c, v6.ownBlock = some c → w5.heap.size ≤ c) → Chg (fun c => c = q) w5 w6 → SgX w w6 q w2.heap.size (.slice (some ⟨g, 0, none⟩) n1 c1) vs J E (en, sn) b.q SP O9) := fun w6 v6 hm6 hf6 hc6 => by
      rw [HO9.out]
      exact SgX.opn HHn.out HB4.out HBE.out hi hix HA4.out HT4.out HZ2.out.1 hb5 hf5 hc5 hm6 hf6 hc6 HEP.out HNH.out
    obtain ⟨er, her⟩ : ∃ er, er = putE (some S) ui ux := ⟨_, rfl⟩
    have h0 : er = 3 := by rw [her]; exact HER.out
    have h0b : (er != 0) = true := by rw [h0]; decide
    have h3b : (er != 3) = false := by rw [h0]; decide
    rw [← her]
    clear hl5 hb5 hf5 hc5 hS5 hm5 her hu4 ht4 h0 hi hix
    go_wp2_with fail
    refine Calls.mono HOU.out ?_
    rintro e6 w6 ⟨rfl, v6', hm6', hf6', hc6'⟩
    obtain ⟨bq, hbq⟩ : ∃ bq, bq = b.q := ⟨_, rfl⟩
    have HSX : Hid (SgX w w6 q w2.heap.size (.slice (some ⟨g, 0, none⟩) n1 c1) vs J E (en, sn) bq SP O9) := by rw [hbq]; exact HMK.out w6 v6' hm6' hf6' hc6'
    clear hm6' hf6' hc6' hbq
    obtain ⟨v6, E0, bF, F6, hsg, hsub, hdj, hbF, hO, hok, hl0⟩ := HSX.out.ex
    obtain ⟨a6, c6, hv6, -, -, -, -⟩ := OwnG.val hsg.m.ro
    obtain ⟨X6, hX6⟩ : ∃ X6, X6 = mp Bg.q E0 := ⟨_, rfl⟩
    obtain ⟨n6, hn6⟩ : ∃ n6, n6 = X6.length := ⟨_, rfl⟩
    rw [← hX6, ← hn6] at hv6
    subst hv6
    have hm6 := hsg.m
    rw [← hX6] at hm6
    have hnl : n6 ≤ 64 := by rw [hn6, hX6, len_mp]; exact hl0
    have HOW : Hid (∀ u, Below w6.heap.size w6 u → OwnG KO u 0 (.slice a6 n6 c6) X6) := fun u hu => OwnG.below hm6.ro hu
    have HCQ : Hid (∀ u, Below w6.heap.size w6 u → u.cell? ⟨q, 3, none⟩ = some (.slice a6 n6 c6)) := fun u hu => (hm6.below hu).cell.2.2.2.1
    have HCS : Hid (∀ u, Below w6.heap.size w6 u → _) := fun u hu => opK ((hu.block _ (Array.getElem?_eq_some_iff.1 hsg.o).1).trans hsg.o)
    have HQ : Hid (∀ u u', Below w6.heap.size w6 u → u.grownBy u' (Value.slice a6 n6 c6).ownBlock → u'.cell? ⟨q, 3, none⟩ = some (.slice a6 n6 c6) ∧ u'.frozen? ⟨q, 3, none⟩ = false) := fun u u' hu hg => by
      have h9 := hm6.below hu
      have h8 : u'.heap[q]? = u.heap[q]? := hg.block q (Array.getElem?_eq_some_iff.1 h9.hp).1 (fun e => h9.oq e.symm)
      exact ⟨(World.cell?_of_block h8).trans h9.cell.2.2.2.1, (World.frozen?_of_block h8).trans (h9.fz 3)⟩
    have HPH : Hid (∀ (u u' : World) (gz nz cz : Nat), Below w6.heap.size w6 u → OwnG KO u' 0 (.slice (some ⟨gz, 0, none⟩) nz cz) (X6 ++ [((en, sn), bq)]) → u.grownBy u' (Value.slice a6 n6 c6).ownBlock → ((Value.slice a6 n6 c6).ownBlock = some gz ∨ u.heap.size ≤ gz) → SgU w (u'.setCell ⟨q, 3, none⟩ (.slice (some ⟨gz, 0, none⟩) nz cz)) q w2.heap.size (.slice (some ⟨g, 0, none⟩) n1 c1) vs J E O9 bq SP) := fun u u' gz nz cz hb ho hg ha => hsg.push HHn.out hsub hdj hbF hO hok hb (by rw [← hX6]; exact ho) hg ha
    have HLE : Hid (n6 = X6.length) := hn6
    clear hsg hsub hdj hbF hO hok hl0 hX6 hn6 hm6
    go_wp2_with fail
    refine wp_region_noPanic ?_
    refine wp_region_late_drew (S := (fun u => Below w6.heap.size w6 u)) (X := [7, 8, 9, 10]) (by kernel_rfl) (by with_reducible first | exact (Below.refl _ _).drew | exact al (Below.refl _ _).drew _ | exact al hHeld _ | exact (al (Below.refl _ _) _).drew) (fun hHeld => ?_)
    refine take_atA (i := 0) 71 (v := ?_) rfl rfl (by kernel_rfl) (by kernel_rfl) (by kernel_rfl) (by decide) (fun _ _ _ h => h) (by rfl) ?_ hHeld ?_
    rotate_left
    · (intro w; go_simp; try with_reducible rfl)
    simp only [pS]
    refine take_atA (i := 1) 72 (v := ?_) rfl rfl (by kernel_rfl) (by kernel_rfl) (by kernel_rfl) (by decide) (fun _ _ _ h => h) (by rfl) ?_ hHeld ?_
    rotate_left
    · (intro w; go_simp; try with_reducible rfl)
    simp only [pS]
    refine take_atA (i := 2) 73 (v := ?_) rfl rfl (by kernel_rfl) (by kernel_rfl) (by kernel_rfl) (by decide) (fun _ _ _ h => h) (by rfl) ?_ hHeld ?_
    rotate_left
    · (intro w; go_simp; try with_reducible rfl)
    simp only [pS]
    refine take_atA (i := 3) 74 (v := ?_) rfl rfl (by kernel_rfl) (by kernel_rfl) (by kernel_rfl) (by decide) (fun _ _ _ h => h) (by rfl) ?_ hHeld ?_
    rotate_left
    · (intro w; go_simp; try with_reducible rfl)
    simp only [pS]
    refine take_atL (i := 4) 75 (v := .slice a6 n6 c6) rfl rfl (by kernel_rfl) (by kernel_rfl) (by kernel_rfl) (by kernel_rfl) (fun _ _ _ h => h) (by rfl) ?_ hHeld ?_
    · (intro w hSw; have hc9 := HCQ.out _ hSw; go_simp; try with_reducible rfl)
    simp only [pS]
    refine take_atL (i := 5) 76 (v := .agg #[.int .u64 (en : Int), .int .u64 (sn : Int), .pointer (some ⟨bq, 0, none⟩)]) rfl rfl (by kernel_rfl) (by kernel_rfl) (by kernel_rfl) (by kernel_rfl) (fun _ _ _ h => h) (by rfl) ?_ hHeld ?_
    · (intro w hSw; have hc9 := HCS.out _ hSw; go_simp; try with_reducible rfl)
    simp only [pS]
    refine run_atL (i := 6) rfl (by kernel_rfl) (by rfl) (fun K hK => ?_)
    simp only [List.getElem_toArray, List.getElem_cons_zero, List.getElem_cons_succ]
    go_simp
    go_wp2_with fail
    refine hK.out _ _ (by with_reducible first | exact (Below.refl _ _).drew | exact al (Below.refl _ _).drew _ | exact al hHeld _ | exact (al (Below.refl _ _) _).drew) ?_
    clear hK K
    intro hHeld2
    clear hHeld
    have hHeld := hHeld2
    clear hHeld2
    try simp only [pS]
    refine run_atLate (i := 7) rfl (by kernel_rfl) (by decide) (by rfl) (fun K hK => ?_)
    simp only [List.getElem_toArray, List.getElem_cons_zero, List.getElem_cons_succ]
    (refine wpo_appG1 (K := KO) _ _ rfl 0 (.slice a6 n6 c6) X6 ((en, sn), bq) n6 HLE.out ⟨w6.heap.size, 0, none⟩ 1 rfl (HOW.out _ (al (Below.refl _ _).drew _)) rfl (rdG_lit (K := KO) (heap_alloc_new _ _) rfl) (by show (n6 + 1) * 24 ≤ _; omega) (by simp only [maxLen]; omega) (Nat.zero_le _) ?_; intro g8 c8 w8 hown8 hg8 hat8; obtain ⟨hcq, hfq⟩ := HQ.out _ _ (al (Below.refl _ _).drew _) hg8; have HO8 : Hid _ := hown8; have HG8 : Hid _ := hg8; have HT8 : Hid _ := hat8; clear hown8 hg8 hat8)
    refine hK.out _ _ ?_
    clear hK K
    try simp only [pS]
    refine val_atLate (i := 8) 79 (v := ?_) rfl rfl (by kernel_rfl) (by decide) (by rfl) ?_ ?_
    rotate_left
    · (go_simp; try with_reducible rfl)
    simp only [pS]
    refine val_atLate (i := 9) 80 (v := ?_) rfl rfl (by kernel_rfl) (by decide) (by rfl) ?_ ?_
    rotate_left
    · (go_simp; try with_reducible rfl)
    simp only [pS]
    refine run_atLate (i := 10) rfl (by kernel_rfl) (by decide) (by rfl) (fun K hK => ?_)
    simp only [List.getElem_toArray, List.getElem_cons_zero, List.getElem_cons_succ]
    go_simp
    go_wp2_with fail
    refine hK.out _ _ ?_
    clear hK K
    try simp only [pS]
    refine doneL (by kernel_rfl) ?_ _
    refine NoPanic.normal ?_
    have HU8 : Hid (Below w6.heap.size w6 (w6.drew.alloc (.cells #[.int .u64 (en : Int), .int .u64 (sn : Int), .pointer (some ⟨bq, 0, none⟩)] KO.t))) := al (Below.refl _ _).drew _
    have hsu := HPH.out _ _ _ _ _ HU8.out HO8.out HG8.out HT8.out
    obtain ⟨w9, hw9⟩ : ∃ w9, w9 = w8.setCell ⟨q, 3, none⟩ (.slice (some ⟨g8, 0, none⟩) (n6 + 1) c8) := ⟨_, rfl⟩
    rw [← hw9] at hsu ⊢
    have ht9 := hsu.o
    obtain ⟨F9, hbx9⟩ := hsu.bx
    have HQW : Hid (Calls _ _ _ w9 _) := qwhole hbx9
    have HQG : Hid (∀ u, Below w9.heap.size w9 u → Calls _ _ _ u _) := fun u hu => qgot (hbx9.below hu)
    have HXL : Hid _ := wholeX_leR hbx9
    have HSU : Hid _ := hsu
    have HTT : Hid (∀ u, Below w9.heap.size w9 u → u.cell? ⟨w2.heap.size, 2, none⟩ = some (.pointer (some ⟨bq, 0, none⟩))) := fun u hu => (hu.cell (World.block_lt_of_cell? _ _ ht9)).trans ht9
    clear hsu hbx9 hw9 hcq hfq
    go_wp2_with fail
    refine Calls.mono HQW.out ?_
    rintro e10 w10 ⟨u10, rfl, hown10, hb10⟩
    obtain ⟨ao, cap, rfl, -, -, -, -, -⟩ := Own.val hown10
    obtain ⟨N, hN⟩ : ∃ N, N = (wholeX (some SP)).length := ⟨_, rfl⟩
    rw [← hN]
    have hA10 := (hb10.block _ (Array.getElem?_eq_some_iff.1 HSU.out.an).1).trans HSU.out.an
    have HO10 : Hid (Own w10 w9.heap.size (.slice ao N cap) (wholeX (some SP))) := by rw [hN]; exact hown10
    have HB10 : Hid _ := hb10
    by_cases hwh : wholeB (some SP) = true
    · rw [hwh]
      obtain ⟨b0, b1, b2, b3, f0, f1, f2, f3⟩ := ansCellR hA10
      have HWH : Hid _ := hwh
      clear hown10 hb10 hN hA10 hwh ht9
      go_wp2
      have hST : Chg (fun b => b = w.heap.size + 2) w10 ((((w10.setCell ⟨w.heap.size + 2, 0, none⟩ (.int .i64 4)).setCell ⟨w.heap.size + 2, 1, none⟩ (.int .i64 0)).setCell ⟨w.heap.size + 2, 2, none⟩ (.slice none 0 0)).setCell ⟨w.heap.size + 2, 3, none⟩ (.slice ao N cap)) := Chg.of_grown ((((gset1 w10 (w.heap.size + 2) 0 _).trans' (gset1 _ (w.heap.size + 2) 1 _)).trans' (gset1 _ (w.heap.size + 2) 2 _)).trans' (gset1 _ (w.heap.size + 2) 3 _)) (fun b e => (Option.some.inj e).symm)
      exact bodyPost_ret (v := ansV ⟨4, 0, some SP⟩ none ao 0 0 N cap) (by simp [results, Tryz.results52, go_sem, b0, b1, b2, b3, f0, f1, f2, f3]) rfl (by rw [HT.out.1, HT.out.2, tell_w HWH.out]; exact HSU.out.fin (rs := []) HB10.out hST ⟨OwnR.nil _ _, HO10.out, ansR_w HWH.out, by simp, HXL.out⟩)
    · rw [show wholeB (some SP) = false by simpa using hwh]
      have ht10 := HTT.out w10 hb10
      have HG10 : Hid (Calls _ _ _ w10 _) := HQG.out w10 hb10
      have HWH : Hid _ := hwh
      have HA10 : Hid _ := hA10
      clear hown10 hb10 hN hA10 hwh ht9
      go_wp2_with fail
      refine Calls.mono HG10.out ?_
      rintro e11 w11 ⟨v11, rs, rfl, hown11, hgot, hlen, hb11⟩
      obtain ⟨ga', gc', rfl, -, -, -, -, -⟩ := OwnR.val hown11
      have hA11 := (hb11.block _ (Array.getElem?_eq_some_iff.1 HA10.out).1).trans HA10.out
      obtain ⟨b0, b1, b2, b3, f0, f1, f2, f3⟩ := ansCellR hA11
      obtain ⟨M, hM⟩ : ∃ M, M = rs.length := ⟨_, rfl⟩
      rw [← hM]
      have HO11 : Hid (OwnR w11 w9.heap.size (.slice ga' M gc') rs) := by rw [hM]; exact OwnR.base hown11 HB10.out.size
      have HGT : Hid _ := hgot
      have HL : Hid _ := hlen
      have HB11 : Hid (Below w9.heap.size w9 w11) := below_next HB10.out hb11
      clear hown11 hgot hlen hb11 hM hA11 ht10
      go_wp2
      have hST : Chg (fun b => b = w.heap.size + 2) w11 ((((w11.setCell ⟨w.heap.size + 2, 0, none⟩ (.int .i64 3)).setCell ⟨w.heap.size + 2, 1, none⟩ (.int .i64 0)).setCell ⟨w.heap.size + 2, 2, none⟩ (.slice ga' M gc')).setCell ⟨w.heap.size + 2, 3, none⟩ (.slice none 0 0)) := Chg.of_grown ((((gset1 w11 (w.heap.size + 2) 0 _).trans' (gset1 _ (w.heap.size + 2) 1 _)).trans' (gset1 _ (w.heap.size + 2) 2 _)).trans' (gset1 _ (w.heap.size + 2) 3 _)) (fun b e => (Option.some.inj e).symm)
      exact bodyPost_ret (v := ansV ⟨3, 0, some SP⟩ ga' none M gc' 0 0) (by simp [results, Tryz.results52, go_sem, b0, b1, b2, b3, f0, f1, f2, f3]) rfl (by rw [HT.out.1, HT.out.2, tell_n HWH.out]; exact HSU.out.fin (xs := []) HB11.out hST ⟨HO11.out, World.ownsRow_nil _ _ _ _, ansR_n HWH.out HGT.out, HL.out, by simp⟩)
  · exact absurd HIN.out (by rw [HH.out.ksO, ← ks_mp Bg.q]; exact hno)
end
end Go.Proofs.YtdoikcolkbjnfaaGreat
