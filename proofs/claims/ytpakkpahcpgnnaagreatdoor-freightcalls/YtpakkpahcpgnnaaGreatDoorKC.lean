import Derived.Test.YtpakkpahcpgnnaaGreatDoorKB
import Derived.Test.YtpakkpahcpgnnaaGreatDoorJO
import Derived.Test.YtpakkpahcpgnnaaGreatDoorZD
set_option linter.unusedVariables false
set_option linter.unusedSimpArgs false
namespace Go.Proofs.YtpakkpahcpgnnaaGreatDoor
open Go.RowKit Go.Maps
structure Exf (w : World) (H : Nat → Prop) (P : Fp) (J : Jp) (X : Value × Value) (s : Fs) (W : List Wh.Tm) (t : Dd) : Prop where
 a : FSw w P s W
 b : JS w J X t
 ap : ∀ b, footF P b → ¬ footJ J b
 av : ∀ b, H b → b < w.heap.size ∧ ¬ footF P b ∧ ¬ footJ J b
 tz : Wh.TabZ w
 h0 : H 0
section
variable {w w' : World} {H : Nat → Prop} {P P' : Fp} {J J' : Jp} {X : Value × Value} {s s' : Fs} {W W' : List Wh.Tm} {t t' : Dd}
theorem tabF_kept (h : Wh.TabZ w) (hb : w'.heap[0]? = w.heap[0]?) : Wh.TabZ w' := fun j hj => (World.cell?_of_block hb).trans (h j hj)
theorem Exf.below (h : Exf w H P J X s W t) (hb : Below w.heap.size w w') : Exf w' H P J X s W t :=
 ⟨h.a.below hb, h.b.below hb, h.ap, fun b hb' => ⟨Nat.lt_of_lt_of_le (h.av b hb').1 hb.size, (h.av b hb').2⟩, h.tz.below hb, h.h0⟩
theorem Exf.chg0 (h : Exf w H P J X s W t) {F : Nat → Prop} (hc : Chg F w w') (h1 : ∀ b, F b → ¬ footF P b) (h2 : ∀ b, F b → ¬ footJ J b) (h3 : ∀ b, F b → ¬ H b) : Exf w' H P J X s W t :=
 ⟨h.a.chg hc (fun b hb hf => h1 b hf hb), h.b.chg hc (fun b hb hf => h2 b hf hb), h.ap, fun b hb' => ⟨Nat.lt_of_lt_of_le (h.av b hb').1 hc.size, (h.av b hb').2⟩, tabF_kept h.tz (hc.block 0 (h.av 0 h.h0).1 (fun hf => h3 0 hf h.h0)), h.h0⟩
theorem Exf.prog (h : Exf w H P J X s W t) (ha : FSw w' P' s' W') (hs : FStp w w' P P') : Exf w' H P' J X s' W' t ∧ Chg (fun b => ¬ H b) w w' := by
 have hq : ∀ b, footJ J b → ¬ footF P b := fun b hb hf => h.ap b hf hb
 refine ⟨⟨ha, h.b.chg hs.chg hq, ?_, ?_, tabF_kept h.tz (hs.chg.block 0 (h.av 0 h.h0).1 (h.av 0 h.h0).2.1), h.h0⟩, hs.chg.mono (fun b hb hh => (h.av b hh).2.1 hb)⟩
 · intro b hb hr; rcases hs.new b hb with h1 | h1
   · exact h.ap b h1 hr
   · have := h.b.lt hr; omega
 · intro b hb; refine ⟨Nat.lt_of_lt_of_le (h.av b hb).1 hs.chg.size, fun hf => ?_, (h.av b hb).2.2⟩; rcases hs.new b hf with h1 | h1
   · exact (h.av b hb).2.1 h1
   · have := (h.av b hb).1; omega
theorem Exf.doc (h : Exf w H P J X s W t) (ha : JS w' J' X t') (hs : JStp w w' J J') : Exf w' H P J' X s W t' ∧ Chg (fun b => ¬ H b) w w' := by
 refine ⟨⟨h.a.chg hs.chg h.ap, ha, ?_, ?_, tabF_kept h.tz (hs.chg.block 0 (h.av 0 h.h0).1 (h.av 0 h.h0).2.2), h.h0⟩, hs.chg.mono (fun b hb hh => (h.av b hh).2.2 hb)⟩
 · intro b hb hr; rcases hs.new b hr with h1 | h1
   · exact h.ap b hb h1
   · have := h.a.lt hb; omega
 · intro b hb; refine ⟨Nat.lt_of_lt_of_le (h.av b hb).1 hs.chg.size, (h.av b hb).2.1, fun hf => ?_⟩; rcases hs.new b hf with h1 | h1
   · exact (h.av b hb).2.2 h1
   · have := (h.av b hb).1; omega
theorem Exf.mores (h : Exf w H P J X s W t) {G : Nat → Prop} (hG : ∀ b, G b → b < w.heap.size ∧ ¬ footF P b ∧ ¬ footJ J b) : Exf w (fun b => H b ∨ G b) P J X s W t :=
 ⟨h.a, h.b, h.ap, fun b hb => by
   rcases hb with hb | hb
   · exact h.av b hb
   · exact hG b hb, h.tz, .inl h.h0⟩
theorem Exf.more (h : Exf w H P J X s W t) {B : Nat} (hB : B < w.heap.size) (h1 : ¬ footF P B) (h2 : ¬ footJ J B) : Exf w (fun b => H b ∨ b = B) P J X s W t :=
 h.mores (G := fun b => b = B) (fun b hb => by subst hb; exact ⟨hB, h1, h2⟩)
theorem Exf.less {H' : Nat → Prop} (h : Exf w H P J X s W t) (hs : ∀ b, H' b → H b) (h0 : H' 0) : Exf w H' P J X s W t := ⟨h.a, h.b, h.ap, fun b hb => h.av b (hs b hb), h.tz, h0⟩
theorem Exf.box (h : Exf w H P J X s W t) (o : Obj) : Exf (w.alloc o) (fun b => H b ∨ b = w.heap.size) P J X s W t :=
 (h.below (alw (bR _ _) o)).more (by simp) (fun hf => Nat.lt_irrefl _ (h.a.lt hf)) (fun hf => Nat.lt_irrefl _ (h.b.lt hf))
theorem Exf.fresh (h : Exf w H P J X s W t) {b : Nat} (hb : w.heap.size ≤ b) : ¬ footF P b ∧ ¬ footJ J b := ⟨fun hf => by have := h.a.lt hf; omega, fun hf => by have := h.b.lt hf; omega⟩
structure FOut (w w' : World) (H : Nat → Prop) (P P' : Fp) (J J' : Jp) (X : Value × Value) (s s' : Fs) (W' : List Wh.Tm) : Prop where
 st : Exf w' H P' J' X s' W' s'.d
 chg : Chg (fun b => ¬ H b) w w'
 ok : Fok s' W'
 S : s'.S ≤ s.S + 64
 p : P'.p = P.p
 q : J'.q = J.q
end
def uvF (b : Bf) : Uv := ⟨1, b.ep, b.n, 2, b.i, b.c, b.d, 0, Dc.z⟩
theorem rdUF {w : World} {ao : Option Addr} {xs : List Bf} (h : RdG KBf w ao xs) : RdG KUv w ao (xs.map uvF) := fun j hj => by
 have hj' : j < xs.length := by simpa using hj
 obtain ⟨b, o, h1, h2, h3⟩ := h j hj'; refine ⟨b, o, h1, ?_, h3⟩; have e : KUv.f (xs.map uvF)[j] = KBf.f xs[j] := by simp [uvF]
 rw [e]; exact h2
abbrev zf (us : List Uu) (D : List Dc) : List Bf := List.zipWith (fun u d => (⟨u.ep, u.n, u.i, u.c, d⟩ : Bf)) us D
theorem zf_len {us : List Uu} {D : List Dc} (h : D.length = us.length) : (zf us D).length = us.length := by unfold zf; rw [List.length_zipWith, h]; omega
theorem same_uf {w : World} {B B2 : Nat} {va vb : Value} {D E : List Dc} {us : List Uu} {Z : Nat → Prop} (ha : URw w B va D us) (hb : UJw w Z B2 vb E us) (ht : ∀ u, u ∈ us → u.t.length ≤ 1024) (i : Nat) (h1 : i < ((zf us D).map uvF).length) (h2 : i < ((zf us E).map uvF).length) : ∃ ds l, SmU w ((zf us D).map uvF)[i] ((zf us E).map uvF)[i] ds l := by
 have hi : i < us.length := by rw [List.length_map, zf_len ha.len] at h1; exact h1
 have hD : i < D.length := by rw [ha.len]; exact hi
 have hE : i < E.length := by rw [hb.len]; exact hi
 have o1 := ha.fml.own i D[i] us[i].t (List.getElem?_eq_getElem hD) (by rw [List.getElem?_map, List.getElem?_eq_getElem hi]; rfl); have o2 := (hb.dat i E[i] us[i] (List.getElem?_eq_getElem hE) (List.getElem?_eq_getElem hi)).1; obtain ⟨a1, c1, e1, l1, m1, -, r1, -⟩ := o1.val; obtain ⟨a2, c2, e2, l2, m2, -, r2, -⟩ := o2.val; simp only [Dc.v, Value.slice.injEq] at e1 e2; have g1 : ((zf us D).map uvF)[i] = uvF ⟨us[i].ep, us[i].n, us[i].i, us[i].c, D[i]⟩ := by simp [zf]
 have g2 : ((zf us E).map uvF)[i] = uvF ⟨us[i].ep, us[i].n, us[i].i, us[i].c, E[i]⟩ := by simp [zf]
 rw [g1, g2]; refine ⟨us[i].t, [], ⟨rfl, rfl, rfl, rfl, rfl, rfl, rfl⟩, e1.2.1, e2.2.1, ?_, ?_, rfl, rfl, (fun j hj => by simp at hj), (fun j hj => by simp at hj), ?_, by simp⟩
 · show Rd w D[i].a us[i].t; rw [e1.1]; exact r1
 · show Rd w E[i].a us[i].t; rw [e2.1]; exact r2
 · have := ht us[i] (List.getElem_mem hi); omega
end Go.Proofs.YtpakkpahcpgnnaaGreatDoor
