import Derived.Test.YtdoikcolkbjnfaaGreatIxI5
import Derived.Test.YtdoikcolkbjnfaaGreatIxD
import Derived.Test.YtdoikcolkbjnfaaGreatUG
import Derived.Test.YtdoikcolkbjnfaaGreatUVd
namespace Go.Proofs.YtdoikcolkbjnfaaGreat
set_option linter.unusedVariables false
set_option linter.unusedSimpArgs false
open Go.RowKit Go.Maps
abbrev tIb : TypeId := 86
/-- an inbox: its limits, its epoch, its sessions -/
structure Ib where
  mo : Nat
  ms : Nat
  ep : Nat
  O : List (Ss × List Seg)
  H : List (Ss × Int)
/-- an open session's box: its block, its touch, its segments, its blocks -/
structure Bg where
  q : Nat
  t : Nat
  S : List Seg
  F : Nat → Prop
abbrev Bg.qt (b : Bg) : Nat × Nat := (b.q, b.t)
abbrev ibC (I : Ib) (T1 T2 m1 m2 : Nat) : Array Value := #[.int .u64 (I.ep : Int), .int .i64 (I.mo : Int), .int .u64 (T1 : Int), .map (some m1), .int .i64 (I.ms : Int), .int .u64 (T2 : Int), .map (some m2)]
structure IbOk (I : Ib) : Prop where
  o0 : 1 ≤ I.mo
  o1 : I.mo ≤ 64
  s0 : 1 ≤ I.ms
  s1 : I.ms ≤ 4096
  lo : I.O.length ≤ I.mo
  ls : I.H.length ≤ I.ms
  no : (ks I.O).Nodup
  nh : (ks I.H).Nodup
  eo : ∀ s, s ∈ ks I.O → s.1 = I.ep
  eh : ∀ s, s ∈ ks I.H → s.1 = I.ep
  ap : ∀ s, s ∈ ks I.O → s ∉ ks I.H
  e6 : I.ep < 18446744073709551616
/-- an inbox of the program in memory; out: a session whose box is told apart -/
structure Ibx (out : Option Ss) (w : World) (p m1 m2 T1 T2 : Nat) (I : Ib) (E : List (Ss × Bg)) (G : List (Ss × (Int × Nat))) : Prop where
  hp : w.heap[p]? = some (.cells (ibC I T1 T2 m1 m2) tIb (0, 0))
  r1 : RowM w m1 T1 (mp fB (mp Bg.qt E))
  r2 : RowM w m2 T2 (mp fI G)
  bx : ∀ x, x ∈ E → out ≠ some x.1 → PBx w (some ⟨x.2.q, 0, none⟩) (some x.2.S) x.2.F
  ap : E.Pairwise (fun x y => out ≠ some x.1 → out ≠ some y.1 → ∀ b, x.2.F b → y.2.F b → False)
  nf : ∀ x, x ∈ E → out ≠ some x.1 → ∀ b, x.2.F b → b ≠ p ∧ b ≠ m1 ∧ b ≠ m2
  nm : m1 ≠ m2
  eO : I.O = mp Bg.S E
  eH : I.H = mp Prod.fst G
  ok : IbOk I
/-- its blocks -/
def footI (out : Option Ss) (p m1 m2 : Nat) (E : List (Ss × Bg)) (b : Nat) : Prop := b = p ∨ b = m1 ∨ b = m2 ∨ ∃ x, x ∈ E ∧ out ≠ some x.1 ∧ x.2.F b
section
variable {out : Option Ss} {w w' : World} {p m1 m2 T1 T2 : Nat} {I : Ib} {E : List (Ss × Bg)} {G : List (Ss × (Int × Nat))}
theorem Ibx.lt (h : Ibx out w p m1 m2 T1 T2 I E G) {b : Nat} (hb : footI out p m1 m2 E b) : b < w.heap.size := by
  rcases hb with rfl | rfl | rfl | ⟨x, hx, ho, hf⟩
  · exact (Array.getElem?_eq_some_iff.1 h.hp).1
  · exact h.r1.lt
  · exact h.r2.lt
  · exact (h.bx x hx ho).lt b hf
theorem Ibx.pm (h : Ibx out w p m1 m2 T1 T2 I E G) : p ≠ m1 ∧ p ≠ m2 := by
  refine ⟨fun e => ?_, fun e => ?_⟩
  · obtain ⟨es, cl, h9⟩ := h.r1.at_
    rw [← e, h.hp] at h9
    cases h9
  · obtain ⟨es, cl, h9⟩ := h.r2.at_
    rw [← e, h.hp] at h9
    cases h9
theorem Ibx.kept (h : Ibx out w p m1 m2 T1 T2 I E G) (hs : w.heap.size ≤ w'.heap.size) (hk : ∀ b, footI out p m1 m2 E b → w'.heap[b]? = w.heap[b]?) : Ibx out w' p m1 m2 T1 T2 I E G :=
  ⟨(hk p (.inl rfl)).trans h.hp, h.r1.kept (hk m1 (.inr (.inl rfl))), h.r2.kept (hk m2 (.inr (.inr (.inl rfl)))), fun x hx ho => (h.bx x hx ho).kept hs (fun b hb => hk b (.inr (.inr (.inr ⟨x, hx, ho, hb⟩)))), h.ap, h.nf, h.nm, h.eO, h.eH, h.ok⟩
theorem Ibx.below (h : Ibx out w p m1 m2 T1 T2 I E G) (hb : Below w.heap.size w w') : Ibx out w' p m1 m2 T1 T2 I E G := h.kept hb.size (fun b hf => hb.block b (h.lt hf))
theorem Ibx.chg {F : Nat → Prop} (h : Ibx out w p m1 m2 T1 T2 I E G) (hc : Chg F w w') (hF : ∀ b, footI out p m1 m2 E b → ¬ F b) : Ibx out w' p m1 m2 T1 T2 I E G := h.kept hc.size (fun b hf => hc.block b (h.lt hf) (hF b hf))
theorem Ibx.cell (h : Ibx out w p m1 m2 T1 T2 I E G) : w.cell? ⟨p, 0, none⟩ = some (.int .u64 (I.ep : Int)) ∧ w.cell? ⟨p, 1, none⟩ = some (.int .i64 (I.mo : Int)) ∧ w.cell? ⟨p, 2, none⟩ = some (.int .u64 (T1 : Int)) ∧ w.cell? ⟨p, 3, none⟩ = some (.map (some m1)) ∧ w.cell? ⟨p, 4, none⟩ = some (.int .i64 (I.ms : Int)) ∧ w.cell? ⟨p, 5, none⟩ = some (.int .u64 (T2 : Int)) ∧ w.cell? ⟨p, 6, none⟩ = some (.map (some m2)) := by
  have h9 := h.hp
  exact ⟨by rw [cell_of_row _ _ _ _ _ _ h9]; rfl, by rw [cell_of_row _ _ _ _ _ _ h9]; rfl, by rw [cell_of_row _ _ _ _ _ _ h9]; rfl, by rw [cell_of_row _ _ _ _ _ _ h9]; rfl, by rw [cell_of_row _ _ _ _ _ _ h9]; rfl, by rw [cell_of_row _ _ _ _ _ _ h9]; rfl, by rw [cell_of_row _ _ _ _ _ _ h9]; rfl⟩
theorem Ibx.fz (h : Ibx out w p m1 m2 T1 T2 I E G) (i : Nat) : w.frozen? ⟨p, i, none⟩ = false := by simp [World.frozen?, h.hp]
theorem Ibx.ksO (h : Ibx out w p m1 m2 T1 T2 I E G) : ks E = ks I.O := by rw [h.eO, ks_mp]
theorem Ibx.ksH (h : Ibx out w p m1 m2 T1 T2 I E G) : ks G = ks I.H := by rw [h.eH, ks_mp]
theorem Ibx.lenE (h : Ibx out w p m1 m2 T1 T2 I E G) : E.length ≤ I.mo := by have := h.ok.lo; rw [h.eO, len_mp] at this; exact this
theorem Ibx.lenG (h : Ibx out w p m1 m2 T1 T2 I E G) : G.length ≤ I.ms := by have := h.ok.ls; rw [h.eH, len_mp] at this; exact this
/-- a session's box told apart -/
theorem Ibx.apart (h : Ibx none w p m1 m2 T1 T2 I E G) (s : Ss) : Ibx (some s) w p m1 m2 T1 T2 I E G :=
  ⟨h.hp, h.r1, h.r2, fun x hx _ => h.bx x hx (by simp), h.ap.imp (fun h1 _ _ => h1 (by simp) (by simp)), fun x hx _ => h.nf x hx (by simp), h.nm, h.eO, h.eH, h.ok⟩
end
/-- the answer to a Take -/
structure Ans where
  st : Int
  cd : Int
  bx : Option (List Seg)
def tellA (S : List Seg) : Ans := if wholeB (some S) = true then ⟨4, 0, some S⟩ else ⟨3, 0, some S⟩
def AnsR (a : Ans) (rs : List Rg) (xs : List UInt8) : Prop := match a.bx with | none => rs = [] ∧ xs = [] | some S => if wholeB (some S) = true then rs = [] ∧ xs = wholeX (some S) else xs = [] ∧ GotIs rs (some S)
theorem AnsR.uniq {a : Ans} {rs rs' : List Rg} {xs xs' : List UInt8} (h : AnsR a rs xs) (k : AnsR a rs' xs') : rs = rs' ∧ xs = xs' := by
  unfold AnsR at h k
  cases hb : a.bx with
  | none => rw [hb] at h k; exact ⟨h.1.trans k.1.symm, h.2.trans k.2.symm⟩
  | some S =>
    rw [hb] at h k
    simp only at h k
    by_cases hw : wholeB (some S) = true
    · rw [if_pos hw] at h k; exact ⟨h.1.trans k.1.symm, h.2.trans k.2.symm⟩
    · rw [if_neg hw] at h k; exact ⟨GotIs.uniq h.2 k.2, h.1.trans k.1.symm⟩
/-- an answer in memory -/
structure AnsAt (w : World) (B : Nat) (a : Ans) (ga ba : Option Addr) (gn gc bn bc : Nat) (rs : List Rg) (xs : List UInt8) : Prop where
  gr : OwnR w B (.slice ga gn gc) rs
  bl : Own w B (.slice ba bn bc) xs
  is_ : AnsR a rs xs
  g64 : rs.length ≤ 64
  b1k : xs.length ≤ 1048576
abbrev ansV (a : Ans) (ga ba : Option Addr) (gn gc bn bc : Nat) : Value := .agg #[.int .i64 a.st, .int .i64 a.cd, .slice ga gn gc, .slice ba bn bc]
/-- what a Take answers in memory -/
def AnsOut (a : Ans) (w : World) (e : Ending) (w' : World) : Prop := ∃ ga ba gn gc bn bc rs xs, e = .returned (ansV a ga ba gn gc bn bc) ∧ AnsAt w' w.heap.size a ga ba gn gc bn bc rs xs
theorem AnsAt.plain (w : World) (B : Nat) (s c : Int) : AnsAt w B ⟨s, c, none⟩ none none 0 0 0 0 [] [] := ⟨OwnR.nil _ _, World.ownsRow_nil _ _ _ _, ⟨rfl, rfl⟩, by simp, by simp⟩
end Go.Proofs.YtdoikcolkbjnfaaGreat
namespace Go.Proofs.YtdoikcolkbjnfaaGreat
set_option linter.unusedVariables false
set_option linter.unusedSimpArgs false
open Go.RowKit Go.Maps
theorem flat_leI : ∀ {S : List Seg}, (∀ x, x ∈ S → x.length ≤ 1024) → S.flatten.length ≤ S.length * 1024
  | [], _ => by simp
  | x :: r, h => by
    have h1 := h x List.mem_cons_self
    have h2 := flat_leI (S := r) (fun y hy => h y (List.mem_cons_of_mem _ hy))
    rw [List.flatten_cons, List.length_append, List.length_cons, Nat.succ_mul]
    omega
theorem PBx.small {w : World} {q : Option Addr} {S : List Seg} {F : Nat → Prop} (h : PBx w q (some S) F) : (∀ x, x ∈ S → x.length ≤ 1024) ∧ 1 ≤ S.length ∧ S.length ≤ 64 := by
  rcases h.ex with ⟨h1, -⟩ | ⟨S', p, V, h1, -, h3, -⟩
  · cases h1
  · cases h1
    exact ⟨h3.small, h3.n0, h3.n1⟩
theorem wholeX_le {w : World} {q : Option Addr} {S : List Seg} {F : Nat → Prop} (h : PBx w q (some S) F) : (wholeX (some S)).length ≤ 1048576 := by
  obtain ⟨h1, -, h3⟩ := h.small
  have h4 := flat_leI h1
  have h5 : S.length * 1024 ≤ 64 * 1024 := Nat.mul_le_mul_right _ h3
  unfold wholeX
  simp only
  first | (split <;> (simp only [List.length_nil, List.length_flatten] at *; omega)) | omega
theorem OwnR.keptb {w w' : World} {B : Nat} {v : Value} {xs : List Rg} (h : OwnR w B v xs) (hk : ∀ b, v.ownBlock = some b → w'.heap[b]? = w.heap[b]?) : OwnR w' B v xs := by
  refine ⟨h.1, ?_⟩
  rcases h.2 with h0 | ⟨g, cap, cur, e, hB, hg, r⟩
  · exact .inl h0
  · exact .inr ⟨g, cap, cur, e, hB, (hk g (by rw [e]; rfl)).trans hg, r⟩
section
variable {out : Option Ss} {w w' : World} {p m1 m2 T1 T2 : Nat} {I : Ib} {E : List (Ss × Bg)} {G : List (Ss × (Int × Nat))}
set_option maxRecDepth 20000
set_option maxHeartbeats 1600000
theorem told_t {q : Nat} {S : List Seg} {F : Nat → Prop} (h : PBx w (some ⟨q, 0, none⟩) (some S) F) :
    Calls Tryz.prog 40 #[.pointer (some ⟨q, 0, none⟩)] w fun e w' => AnsOut (tellA S) w e w' ∧ Below w.heap.size w w' := by
  have HW : Hid (∀ u, Below w.heap.size w u → Calls _ _ _ u _) := fun u hu => pwhole (h.below hu)
  have HG : Hid (∀ u, Below w.heap.size w u → Calls _ _ _ u _) := fun u hu => pgot (h.below hu)
  have HX : Hid _ := wholeX_le h
  clear h
  obtain ⟨P, hP⟩ : ∃ P, P = w.heap.size := ⟨_, rfl⟩
  have HP : Hid (P = w.heap.size) := hP
  have HA : Hid (∀ u, Below (w.heap.size + 1) (w.alloc (.cells #[.int .i64 0, .int .i64 0, .slice none 0 0, .slice none 0 0] 44)) u → u.heap[P]? = some (.cells #[.int .i64 0, .int .i64 0, .slice none 0 0, .slice none 0 0] 44 (0, 0))) := fun u hu => by
    rw [hP]
    exact (hu.block w.heap.size (by omega)).trans (heap_alloc_new w _)
  clear hP
  by_cases hw : wholeB (some S) = true
  · have ha : tellA S = ⟨4, 0, some S⟩ := if_pos hw
    rw [ha]
    go_enter Tryz.func40, Tryz.ntmps40
    go_wp2_with fail
    refine Calls.mono (HW.out _ (al (Below.refl _ _) _)) ?_
    rintro e w1 ⟨u, rfl, hown, hb1⟩
    rw [hw]
    obtain ⟨ao, cap, rfl, -, -, -, -, -⟩ := Own.val hown
    have hA1 := HA.out w1 (by simpa using hb1)
    rw [← HP.out]
    have HB1 : Hid (Below w.heap.size w w1) := below_next (al (Below.refl w.heap.size w) _) hb1
    have hc : w1.cell? ⟨P, 0, none⟩ = some (.int .i64 0) ∧ w1.cell? ⟨P, 1, none⟩ = some (.int .i64 0) ∧ w1.cell? ⟨P, 2, none⟩ = some (.slice none 0 0) ∧ w1.cell? ⟨P, 3, none⟩ = some (.slice none 0 0) := ⟨by rw [cell_of_row _ _ _ _ _ _ hA1]; rfl, by rw [cell_of_row _ _ _ _ _ _ hA1]; rfl, by rw [cell_of_row _ _ _ _ _ _ hA1]; rfl, by rw [cell_of_row _ _ _ _ _ _ hA1]; rfl⟩
    have hf : w1.frozen? ⟨P, 0, none⟩ = false ∧ w1.frozen? ⟨P, 1, none⟩ = false ∧ w1.frozen? ⟨P, 2, none⟩ = false ∧ w1.frozen? ⟨P, 3, none⟩ = false := ⟨by simp [World.frozen?, hA1], by simp [World.frozen?, hA1], by simp [World.frozen?, hA1], by simp [World.frozen?, hA1]⟩
    have HO : Hid _ := hown
    obtain ⟨N, hN⟩ : ∃ N, N = (wholeX (some S)).length := ⟨_, rfl⟩
    rw [← hN]
    have HN : Hid _ := hN
    clear hown hb1 hN
    go_wp2
    refine bodyPost_ret (v := .agg #[.int .i64 4, .int .i64 0, .slice none 0 0, .slice ao N cap]) (by simp [results, Tryz.results40, go_sem, hc, hf]) rfl ?_
    have hPw := HP.out
    refine ⟨⟨none, ao, 0, 0, N, cap, [], wholeX (some S), rfl, OwnR.nil _ _, ?_, ?_, by simp, HX.out⟩, (((HB1.out.setCell (p := ⟨P, 0, none⟩) (by show w.heap.size ≤ P; omega) _).setCell (p := ⟨P, 1, none⟩) (by show w.heap.size ≤ P; omega) _).setCell (p := ⟨P, 2, none⟩) (by show w.heap.size ≤ P; omega) _).setCell (p := ⟨P, 3, none⟩) (by show w.heap.size ≤ P; omega) _⟩
    · rw [HN.out]
      refine Own.keptb (Own.base HO.out (by simp)) (fun b hb => ?_)
      have h9 := (World.ownsRow.lt HO.out b hb).1
      have hbP : b ≠ P := by simp at h9; omega
      rw [Below.heap_setCell _ _ _ _ hbP, Below.heap_setCell _ _ _ _ hbP, Below.heap_setCell _ _ _ _ hbP, Below.heap_setCell _ _ _ _ hbP]
    · show AnsR ⟨4, 0, some S⟩ [] _
      unfold AnsR
      simp [hw]
  · have ha : tellA S = ⟨3, 0, some S⟩ := if_neg hw
    have hwf : wholeB (some S) = false := by simpa using hw
    rw [ha]
    go_enter Tryz.func40, Tryz.ntmps40
    go_wp2_with fail
    refine Calls.mono (HW.out _ (al (Below.refl _ _) _)) ?_
    rintro e w1 ⟨u, rfl, hown, hb1⟩
    rw [hwf]
    obtain ⟨ao, cap, rfl, -, -, -, -, -⟩ := Own.val hown
    have HB1 : Hid (Below w.heap.size w w1) := below_next (al (Below.refl w.heap.size w) _) hb1
    have HB1' : Hid (Below (w.heap.size + 1) (w.alloc (.cells #[.int .i64 0, .int .i64 0, .slice none 0 0, .slice none 0 0] 44)) w1) := by unfold Hid; simpa using hb1
    obtain ⟨N, hN⟩ : ∃ N, N = (wholeX (some S)).length := ⟨_, rfl⟩
    rw [← hN]
    clear hown hb1 hN
    go_wp2_with fail
    refine Calls.mono (HG.out _ HB1.out) ?_
    rintro e w2 ⟨v, rs, rfl, hown2, hgot, hlen, hb2⟩
    obtain ⟨ga, gc, rfl, -, -, -, -, -⟩ := OwnR.val hown2
    have hA1 := HA.out w2 (HB1'.out.trans (hb2.mono (by have := HB1'.out.size; simp at this; omega)))
    rw [← HP.out]
    have HB2 : Hid (Below w.heap.size w w2) := below_next HB1.out hb2
    have HLT : Hid (P < w1.heap.size) := by have := HB1'.out.size; simp at this; have := HP.out; unfold Hid; omega
    have hc : w2.cell? ⟨P, 0, none⟩ = some (.int .i64 0) ∧ w2.cell? ⟨P, 1, none⟩ = some (.int .i64 0) ∧ w2.cell? ⟨P, 2, none⟩ = some (.slice none 0 0) ∧ w2.cell? ⟨P, 3, none⟩ = some (.slice none 0 0) := ⟨by rw [cell_of_row _ _ _ _ _ _ hA1]; rfl, by rw [cell_of_row _ _ _ _ _ _ hA1]; rfl, by rw [cell_of_row _ _ _ _ _ _ hA1]; rfl, by rw [cell_of_row _ _ _ _ _ _ hA1]; rfl⟩
    have hf : w2.frozen? ⟨P, 0, none⟩ = false ∧ w2.frozen? ⟨P, 1, none⟩ = false ∧ w2.frozen? ⟨P, 2, none⟩ = false ∧ w2.frozen? ⟨P, 3, none⟩ = false := ⟨by simp [World.frozen?, hA1], by simp [World.frozen?, hA1], by simp [World.frozen?, hA1], by simp [World.frozen?, hA1]⟩
    have HO2 : Hid _ := hown2
    have HGT : Hid _ := hgot
    have HL : Hid _ := hlen
    obtain ⟨M, hM⟩ : ∃ M, M = rs.length := ⟨_, rfl⟩
    rw [← hM]
    have HM : Hid _ := hM
    clear hown2 hgot hlen hb2 hM
    go_wp2
    refine bodyPost_ret (v := .agg #[.int .i64 3, .int .i64 0, .slice ga M gc, .slice none 0 0]) (by simp [results, Tryz.results40, go_sem, hc, hf]) rfl ?_
    have hPw := HP.out
    refine ⟨⟨ga, none, M, gc, 0, 0, rs, [], rfl, ?_, World.ownsRow_nil _ _ _ _, ?_, HL.out, by simp⟩, (((HB2.out.setCell (p := ⟨P, 0, none⟩) (by show w.heap.size ≤ P; omega) _).setCell (p := ⟨P, 1, none⟩) (by show w.heap.size ≤ P; omega) _).setCell (p := ⟨P, 2, none⟩) (by show w.heap.size ≤ P; omega) _).setCell (p := ⟨P, 3, none⟩) (by show w.heap.size ≤ P; omega) _⟩
    · rw [HM.out]
      have h8 := OwnR.base HO2.out HB1.out.size
      refine OwnR.keptb h8 (fun b hb => ?_)
      have h9 := (World.ownsRow.lt HO2.out b hb).1
      have hbP : b ≠ P := by have := HLT.out; omega
      rw [Below.heap_setCell _ _ _ _ hbP, Below.heap_setCell _ _ _ _ hbP, Below.heap_setCell _ _ _ _ hbP, Below.heap_setCell _ _ _ _ hbP]
    · show AnsR ⟨3, 0, some S⟩ rs []
      unfold AnsR
      simp [hwf]
      exact HGT.out
end
end Go.Proofs.YtdoikcolkbjnfaaGreat
namespace Go.Proofs.YtdoikcolkbjnfaaGreat
set_option linter.unusedVariables false
set_option linter.unusedSimpArgs false
open Go.RowKit Go.Maps
/-- an epoch is heard of -/
def riseI (I : Ib) (e : Nat) : Ib := if I.ep < e then { I with ep := e, O := [], H := [] } else I
/-- no inbox, or one that nobody made -/
def I0 (w : World) (q : Option Addr) : Prop := q = none ∨ ∃ p, q = some ⟨p, 0, none⟩ ∧ w.cell? ⟨p, 1, none⟩ = some (.int .i64 0)
theorem I0.below {w w' : World} {q : Option Addr} (h : I0 w q) (hb : Below w.heap.size w w') : I0 w' q := by
  rcases h with rfl | ⟨p, rfl, hc⟩
  · exact .inl rfl
  · exact .inr ⟨p, rfl, (hb.cell (World.block_lt_of_cell? w _ hc)).trans hc⟩
section
variable {out : Option Ss} {w w' : World} {p m1 m2 T1 T2 : Nat} {I : Ib} {E : List (Ss × Bg)} {G : List (Ss × (Int × Nat))}
theorem IbOk.empty (h : IbOk I) {e : Nat} (he : e < 18446744073709551616) : IbOk { I with ep := e, O := [], H := [] } :=
  ⟨h.o0, h.o1, h.s0, h.s1, Nat.zero_le _, Nat.zero_le _, by simp [ks], by simp [ks], fun s hs => by simp [ks] at hs, fun s hs => by simp [ks] at hs, fun s hs => by simp [ks] at hs, he⟩
set_option maxRecDepth 20000
set_option maxHeartbeats 1600000
theorem imade_t (h : Ibx out w p m1 m2 T1 T2 I E G) : Calls Tryz.prog 33 #[.pointer (some ⟨p, 0, none⟩)] w fun e w' => e = .returned (.bool true) ∧ w' = w := by
  obtain ⟨-, hc, -⟩ := h.cell
  have hr := h.ok.o0
  generalize I.mo = N at *
  have hr0 : (0 : Int) < (N : Int) := by omega
  have hr2 : decide (0 < N) = true := decide_eq_true (by omega)
  clear h
  go_enter Tryz.func33, Tryz.ntmps33
  go_wp2
  go_ret
  first | exact ⟨rfl, rfl⟩ | (rw [hr2]; exact ⟨rfl, rfl⟩)
theorem ihear_no (h : Ibx out w p m1 m2 T1 T2 I E G) (e : Nat) (he : e ≤ I.ep) : Calls Tryz.prog 35 #[.pointer (some ⟨p, 0, none⟩), .int .u64 (e : Int)] w fun r w' => r = .returned (.tuple #[]) ∧ w' = w := by
  obtain ⟨hc, -⟩ := h.cell
  generalize I.ep = N at *
  have hei : (e : Int) ≤ (N : Int) := by omega
  clear h
  go_enter Tryz.func35, Tryz.ntmps35
  go_wp2
  exact bodyPost_ret (results_none rfl _ _ _) rfl ⟨rfl, rfl⟩
theorem ihear_up (h : Ibx none w p m1 m2 T1 T2 I E G) (e : Nat) (he : I.ep < e) (h6 : e < 18446744073709551616) : Calls Tryz.prog 35 #[.pointer (some ⟨p, 0, none⟩), .int .u64 (e : Int)] w fun r w' => r = .returned (.tuple #[]) ∧ Ibx none w' p m1 m2 T1 T2 { I with ep := e, O := [], H := [] } [] [] ∧ Chg (fun b => b = p ∨ b = m1 ∨ b = m2) w w' := by
  obtain ⟨hc0, -⟩ := h.cell
  have hfz := h.fz 0
  have hpl : p < w.heap.size := (Array.getElem?_eq_some_iff.1 h.hp).1
  have HI : Hid _ := h
  have HP : Hid ((w.setCell ⟨p, 0, none⟩ (.int .u64 (e : Int))).heap[p]? = some (.cells (ibC { I with ep := e, O := [], H := [] } T1 T2 m1 m2) tIb (0, 0))) := heap_setCell_same w p 0 _ _ _ h.hp
  generalize I.ep = N at hc0 he
  have hei : ¬ (e : Int) ≤ (N : Int) := by omega
  obtain ⟨w1, hw1⟩ : ∃ w1, w1 = w.setCell ⟨p, 0, none⟩ (.int .u64 (e : Int)) := ⟨_, rfl⟩
  rw [← hw1] at HP
  have HW1 : Hid (w1 = _) := hw1
  have HE1 : Hid (∀ b, b ≠ p → w1.heap[b]? = w.heap[b]?) := fun b hb => by rw [hw1]; exact Below.heap_setCell _ _ _ _ hb
  have HS1 : Hid (w1.heap.size = w.heap.size) := by unfold Hid; rw [hw1, World.size_setCell]
  have HG1 : Hid (w.grownBy w1 (some p)) := by unfold Hid; rw [hw1]; exact gset1 w p 0 _
  clear h hw1
  go_enter Tryz.func35, Tryz.ntmps35
  go_wp2_with fail
  rw [← HW1.out]
  have hpm := Ibx.pm HI.out
  have hr1 : RowM w1 m1 T1 (mp fB (mp Bg.qt E)) := (Ibx.r1 HI.out).kept (HE1.out m1 (fun e => hpm.1 e.symm))
  have hc3 : w1.cell? ⟨p, 1 + 2, none⟩ = some (.map (some m1)) := by rw [cell_of_row _ _ _ _ _ _ HP.out]; rfl
  refine Calls.mono (emptyB_t (o := 1) hc3 hr1) ?_
  rintro r2 w2 ⟨rfl, hrn, hg2⟩
  have hp2 := (hg2.block p (by rw [HS1.out]; exact hpl) (fun e => hpm.1 (Option.some.inj e))).trans HP.out
  have hr2 : RowM w2 m2 T2 (mp fI G) := ((Ibx.r2 HI.out).kept (HE1.out m2 (fun e => hpm.2 e.symm))).kept (hg2.block m2 (by rw [HS1.out]; exact (Ibx.r2 HI.out).lt) (fun e => (Ibx.nm HI.out) (Option.some.inj e).symm))
  have hc6 : w2.cell? ⟨p, 4 + 2, none⟩ = some (.map (some m2)) := by rw [cell_of_row _ _ _ _ _ _ hp2]; rfl
  have HEM : Hid (Calls _ _ _ w2 _) := emptyI_t (o := 4) hc6 hr2
  have HRN : Hid _ := hrn
  have HG2 : Hid _ := hg2
  have HP2 : Hid _ := hp2
  clear hrn hg2 hp2 hr2 hc6 hr1 hc3 hpm
  go_wp2_with fail
  refine Calls.mono HEM.out ?_
  rintro r3 w3 ⟨rfl, hrn3, hg3⟩
  have HRN3 : Hid _ := hrn3
  have HG3 : Hid _ := hg3
  clear hrn3 hg3
  go_wp2
  go_end0
  have hpm := Ibx.pm HI.out
  have hsz2 : p < w2.heap.size := (Array.getElem?_eq_some_iff.1 HP2.out).1
  refine ⟨rfl, ⟨(HG3.out.block p hsz2 (fun e => hpm.2 (Option.some.inj e))).trans HP2.out, (HRN.out T1).kept (HG3.out.block m1 (HRN.out T1).lt (fun e => (Ibx.nm HI.out) (Option.some.inj e))), HRN3.out T2, fun x hx => (List.not_mem_nil hx).elim, List.Pairwise.nil, fun x hx => (List.not_mem_nil hx).elim, Ibx.nm HI.out, rfl, rfl, IbOk.empty (Ibx.ok HI.out) h6⟩, ?_⟩
  exact ((Chg.of_grown HG1.out (F := fun b => b = p ∨ b = m1 ∨ b = m2) (fun b e => .inl (Option.some.inj e).symm)).trans (Chg.of_grown HG2.out (F := fun b => b = p ∨ b = m1 ∨ b = m2) (fun b e => .inr (.inl (Option.some.inj e).symm))) (fun b hb => .inl hb)).trans (Chg.of_grown HG3.out (F := fun b => b = p ∨ b = m1 ∨ b = m2) (fun b e => .inr (.inr (Option.some.inj e).symm))) (fun b hb => .inl hb)
theorem iepoch_t (h : Ibx out w p m1 m2 T1 T2 I E G) : Calls Tryz.prog 30 #[.pointer (some ⟨p, 0, none⟩)] w fun e w' => e = .returned (.int .u64 (I.ep : Int)) ∧ w' = w := by
  have HM : Hid _ := imade_t h
  obtain ⟨hc, -⟩ := h.cell
  generalize I.ep = N at hc ⊢
  clear h
  go_enter Tryz.func30, Tryz.ntmps30
  go_wp2_with (go_at_call 33; refine Calls.mono HM.out ?_; rintro e w' ⟨rfl, hq⟩; have hq := hq.symm; subst hq)
  go_ret
  exact ⟨rfl, rfl⟩
theorem iopen_t (h : Ibx out w p m1 m2 T1 T2 I E G) : Calls Tryz.prog 17 #[.pointer (some ⟨p, 0, none⟩)] w fun e w' => ∃ v, e = .returned v ∧ OwnG KSs w' w.heap.size v (ks I.O) ∧ Below w.heap.size w w' := by
  have HM : Hid _ := imade_t h
  have HS : Hid (Calls _ _ _ w _) := sesB_t (o := 1) (p := p) (h.cell.2.2.2.1) h.r1 (by rw [len_mp]; have := h.lenE; have := h.ok.o1; omega)
  rw [ks_mp, h.ksO] at HS
  clear h
  go_enter Tryz.func17, Tryz.ntmps17
  go_wp2_with (first | (go_at_call 33; refine Calls.mono HM.out ?_; rintro e w' ⟨rfl, hq⟩; have hq := hq.symm; subst hq) | (go_at_call 41; refine Calls.mono HS.out ?_; rintro e w1 ⟨v, rfl, hown, hb1⟩))
  go_ret
  exact ⟨v, rfl, hown, hb1⟩
theorem idecd_t (h : Ibx out w p m1 m2 T1 T2 I E G) : Calls Tryz.prog 24 #[.pointer (some ⟨p, 0, none⟩)] w fun e w' => ∃ v, e = .returned v ∧ OwnG KSs w' w.heap.size v (ks I.H) ∧ Below w.heap.size w w' := by
  have HM : Hid _ := imade_t h
  have HS : Hid (Calls _ _ _ w _) := sesI_t (o := 4) (p := p) (h.cell.2.2.2.2.2.2) h.r2 (by have := h.lenG; have := h.ok.s1; omega)
  rw [h.ksH] at HS
  clear h
  go_enter Tryz.func24, Tryz.ntmps24
  go_wp2_with (first | (go_at_call 33; refine Calls.mono HM.out ?_; rintro e w' ⟨rfl, hq⟩; have hq := hq.symm; subst hq) | (go_at_call 53; refine Calls.mono HS.out ?_; rintro e w1 ⟨v, rfl, hown, hb1⟩))
  go_ret
  exact ⟨v, rfl, hown, hb1⟩
theorem inew_t (a b : Nat) (ha : 1 ≤ a) (ha2 : a ≤ 64) (hb : 1 ≤ b) (hb2 : b ≤ 4096) (w : World) : Calls Tryz.prog 11 #[.int .i64 (a : Int), .int .i64 (b : Int)] w fun e w' => ∃ p m1 m2, e = .returned (.tuple #[.pointer (some ⟨p, 0, none⟩), .int .i64 0]) ∧ Ibx none w' p m1 m2 0 0 ⟨a, b, 0, [], []⟩ [] [] ∧ (w.heap.size ≤ p ∧ w.heap.size ≤ m1 ∧ w.heap.size ≤ m2) ∧ Below w.heap.size w w' := by
  have h1 : ¬ (a : Int) < 1 := by omega
  have h2 : ¬ 64 < (a : Int) := by omega
  have h3 : ¬ (b : Int) < 1 := by omega
  have h4 : ¬ 4096 < (b : Int) := by omega
  go_enter Tryz.func11, Tryz.ntmps11
  go_wp2_with fail
  refine Calls.mono (newRowB_t w a) ?_
  rintro e w1 ⟨m1, rfl, hr1, hm1, hb1⟩
  have HR1 : Hid _ := hr1
  have HM1 : Hid _ := hm1
  have HB1 : Hid _ := hb1
  clear hr1 hm1 hb1
  go_wp2_with fail
  refine Calls.mono (newRowI_t w1 b) ?_
  rintro e w2 ⟨m2, rfl, hr2, hm2, hb2'⟩
  have HR2 : Hid _ := hr2
  have HM2 : Hid _ := hm2
  have HB2 : Hid _ := hb2'
  clear hr2 hm2 hb2'
  go_wp2
  go_ret2
  have hs1 := HB1.out.size
  have hs2 := HB2.out.size
  have hm1 := HM1.out
  have hm2 := HM2.out
  have hml := RowM.lt HR1.out
  refine ⟨w2.heap.size, m1, m2, rfl, ⟨heap_alloc_new w2 _, (HR1.out.below HB2.out).below (al (Below.refl _ _) _), HR2.out.below (al (Below.refl _ _) _), fun x hx => (List.not_mem_nil hx).elim, List.Pairwise.nil, fun x hx => (List.not_mem_nil hx).elim, by omega, rfl, rfl, ⟨ha, ha2, hb, hb2, Nat.zero_le _, Nat.zero_le _, by simp [ks], by simp [ks], fun s hs => by simp [ks] at hs, fun s hs => by simp [ks] at hs, fun s hs => by simp [ks] at hs, by show 0 < 18446744073709551616; decide⟩⟩, ⟨by omega, by omega, by omega⟩, al (below_next HB1.out HB2.out) _⟩
end
end Go.Proofs.YtdoikcolkbjnfaaGreat
