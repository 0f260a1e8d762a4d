import Derived.Test.YtpakkpahcpgnnaaGreatDoorKC
set_option linter.unusedVariables false
set_option linter.unusedSimpArgs false
namespace Go.Proofs.YtpakkpahcpgnnaaGreatDoor
open Go.RowKit Go.Maps
def QueP (s : Fs) (W : List Wh.Tm) (k : Fk) (n : Nat) (xs : Seg) (er : Int) (s' : Fs) : Prop := ∀ (w : World) (P : Fp), FSw w P s W → ∀ (ba : Option Addr) (bc : Nat), Rd w ba xs → n ≤ bc → (ba = none → bc = 0) →
 Calls Tryz.prog 10 #[.pointer (some ⟨P.p, 0, none⟩), fv k, .slice ba n bc] w fun e w' => e = .returned (.int .i64 er) ∧ ∃ P', FSw w' P' s' W ∧ FStp w w' P P' ∧ P'.p = P.p
def QueD (t : Dd) (k : Fk) (n : Nat) (xs : Seg) (er : Int) (t' : Dd) : Prop := ∀ (w : World) (J : Jp) (X : Value × Value), JS w J X t → ∀ (ba : Option Addr) (bc : Nat), Rd w ba xs → n ≤ bc →
 Calls Tryz.prog 50 #[.pointer (some ⟨J.q, 0, none⟩), fv k, .slice ba n bc] w fun e w' => e = .returned (.int .i64 er) ∧ ∃ J', JS w' J' X t' ∧ JStp w w' J J' ∧ J'.q = J.q
section
variable {s : Fs} {W : List Wh.Tm}
theorem negF {w : World} {P : Fp} (h : FSw w P s W) {arg : Array Value} {f : Nat} {v : Value} (H : Calls Tryz.prog f arg w fun e9 w' => e9 = .returned v ∧ Below w.heap.size w w') : Calls Tryz.prog f arg w fun e9 w' => e9 = .returned v ∧ ∃ P', FSw w' P' s W ∧ FStp w w' P P' ∧ P'.p = P.p :=
 H.mono (fun e9 w' h9 => ⟨h9.1, P, h.below h9.2, FStp.below h9.2 P, rfl⟩)
theorem negJ {w : World} {J : Jp} {X : Value × Value} {t : Dd} (h : JS w J X t) {arg : Array Value} {f : Nat} {v : Value} (H : Calls Tryz.prog f arg w fun e9 w' => e9 = .returned v ∧ Below w.heap.size w w') : Calls Tryz.prog f arg w fun e9 w' => e9 = .returned v ∧ ∃ J', JS w' J' X t ∧ JStp w w' J J' ∧ J'.q = J.q :=
 H.mono (fun e9 w' h9 => ⟨h9.1, J, h.below h9.2, JStp.below h9.2 J, rfl⟩)
theorem Fs.dK (s : Fs) : s.d.L.map Fd.k = s.L.map Fe.k := by
 show (s.L.map Fe.d).map Fd.k = _; rw [List.map_map]; rfl
theorem Fs.dN (s : Fs) : s.d.L.map Fd.n = s.L.map Fe.n := by
 show (s.L.map Fe.d).map Fd.n = _; rw [List.map_map]; rfl
theorem Fs.dLen (s : Fs) : s.d.L.length = s.L.length := List.length_map ..
theorem Fs.dAt {i : Nat} {x : Fe} (h : s.L[i]? = some x) : s.d.L[i]? = some x.d := by
 show (s.L.map Fe.d)[i]? = _; rw [List.getElem?_map, h]; rfl
theorem Fok.dinv (hi : FInv s) (h : Fok s W) : DInv s.d := hi.d h.td
theorem Fs.dErase (i : Nat) : ({ s with L := s.L.eraseIdx i } : Fs).d = { s.d with L := s.d.L.eraseIdx i } := by
 unfold Fs.d; rw [map_erase]
theorem Fs.dTold (i : Nat) (y : Fe) (out : List Rg) : ({ s with L := s.L.set i { y with told := out } } : Fs).d = { s.d with L := s.d.L.set i { y.d with told := out } } := by
 unfold Fs.d; rw [List.map_set]; rfl
theorem queue_pair (hi : FInv s) (hok : Fok s W) (k : Fk) (n : Nat) (xs : Seg) (hn : n = xs.length) (hb : n ≤ 140737488355328) : ∃ er s', QueP s W k n xs er s' ∧ QueD s.d k n xs er s'.d ∧ Fok s' W ∧ s'.S = s.S := by
 have hd := hok.dinv hi
 by_cases hk : goodK k
 · by_cases h1 : 1 ≤ n ∧ n ≤ 1024
   · by_cases h2 : k ∈ s.L.map Fe.k
     · exact ⟨3, s, fun w P h ba bc hr hl hz => negF h (fqueue_way h k ba n bc hk h1.1 h1.2 h2), fun w J X h ba bc hr hl => negJ h (jqueue_twice h hd k ba n bc xs hn hr hl ⟨hk, h1⟩ (.inr (by rw [Fs.dK]; exact h2))), hok, rfl⟩
     · by_cases h3 : k ∈ s.row.map Prod.fst
       · exact ⟨3, s, fun w P h ba bc hr hl hz => negF h (fqueue_row h k ba n bc hk h1.1 h1.2 h2 h3), fun w J X h ba bc hr hl => negJ h (jqueue_twice h hd k ba n bc xs hn hr hl ⟨hk, h1⟩ (.inl h3)), hok, rfl⟩
       · by_cases h4 : s.row.length + s.L.length < 64
         · refine ⟨0, { s with row := s.row ++ [(k, xs)] }, fun w P h ba bc hr hl hz => ?_, fun w J X h ba bc hr hl => ?_, hok.row _, rfl⟩
           · refine (fqueue_ok h k ba n bc xs hn hr hz hk h1.1 h1.2 h2 h3 h4).mono ?_; rintro e w' ⟨he, rv', d, h8, h9⟩; exact ⟨he, _, h8, h9, rfl⟩
           · exact jqueue_ok h hd k ba n bc xs hn hr hl ⟨hk, h1⟩ ⟨h3, by rw [Fs.dK]; exact h2⟩ (by rw [Fs.dLen]; exact h4)
         · exact ⟨2, s, fun w P h ba bc hr hl hz => negF h (fqueue_full h k ba n bc hk h1.1 h1.2 h2 h3 (by omega)), fun w J X h ba bc hr hl => negJ h (jqueue_full h hd k ba n bc xs hn hr hl ⟨hk, h1⟩ ⟨h3, by rw [Fs.dK]; exact h2⟩ (by rw [Fs.dLen]; have := hi.len; show s.row.length + s.L.length = 64; omega)), hok, rfl⟩
   · refine ⟨1, s, fun w P h ba bc hr hl hz => ?_, fun w J X h ba bc hr hl => negJ h (jqueue_arg h hd k ba n bc xs hn hr hl hb (fun h9 => h1 h9.2)), hok, rfl⟩
     by_cases h0 : n = 0
     · exact negF h (fqueue_nil h k ba n bc hk h0)
     · exact negF h (fqueue_big h k ba n bc hk (by omega))
 · exact ⟨1, s, fun w P h ba bc hr hl hz => negF h (fqueue_key h k ba n bc hk), fun w J X h ba bc hr hl => negJ h (jqueue_arg h hd k ba n bc xs hn hr hl hb (fun h9 => hk h9.1)), hok, rfl⟩
def StoP (s : Fs) (W : List Wh.Tm) (k : Fk) (a : Int) (b : Bool) (s' : Fs) (W' : List Wh.Tm) : Prop := ∀ (w : World) (P : Fp), FSw w P s W →
 Calls Tryz.prog 57 #[.pointer (some ⟨P.p, 0, none⟩), fv k] w fun e w' => e = .returned (.tuple #[.int .u64 a, .bool b]) ∧ ∃ P', FSw w' P' s' W' ∧ FStp w w' P P' ∧ P'.p = P.p
def StoD (t : Dd) (k : Fk) (a : Int) (b : Bool) (t' : Dd) : Prop := ∀ (w : World) (J : Jp) (X : Value × Value), JS w J X t →
 Calls Tryz.prog 58 #[.pointer (some ⟨J.q, 0, none⟩), fv k] w fun e w' => e = .returned (.tuple #[.int .u64 a, .bool b]) ∧ ∃ J', JS w' J' X t' ∧ JStp w w' J J' ∧ J'.q = J.q
theorem row_uniq (hi : FInv s) {i j : Nat} {k : Fk} {a b : Seg} (h1 : s.row[i]? = some (k, a)) (h2 : s.row[j]? = some (k, b)) : i = j := by
 have hn := (List.nodup_append.1 hi.nk).1; obtain ⟨l1, e1⟩ := List.getElem?_eq_some_iff.1 h1; obtain ⟨l2, e2⟩ := List.getElem?_eq_some_iff.1 h2; have l1' : i < (s.row.map Prod.fst).length := by rw [List.length_map]; exact l1
 have l2' : j < (s.row.map Prod.fst).length := by rw [List.length_map]; exact l2
 have hp := List.nodup_iff_pairwise_ne.1 hn; have g1 : (s.row.map Prod.fst)[i] = k := by rw [List.getElem_map, e1]
 have g2 : (s.row.map Prod.fst)[j] = k := by rw [List.getElem_map, e2]
 rcases Nat.lt_trichotomy i j with h9 | h9 | h9
 · exact absurd (g1.trans g2.symm) (List.pairwise_iff_getElem.1 hp i j l1' l2' h9)
 · exact h9
 · exact absurd (g2.trans g1.symm) (List.pairwise_iff_getElem.1 hp j i l2' l1' h9)
theorem stop_pair (hi : FInv s) (hok : Fok s W) (k : Fk) : ∃ a b s' W', StoP s W k a b s' W' ∧ StoD s.d k a b s'.d ∧ Fok s' W' ∧ s'.S = s.S := by
 have hd := hok.dinv hi
 by_cases h1 : k ∈ s.L.map Fe.k
 · obtain ⟨x, hx, rfl⟩ := List.mem_map.1 h1; obtain ⟨i, hl, hx⟩ := List.mem_iff_getElem.1 hx; have hxi : s.L[i]? = some x := by rw [List.getElem?_eq_getElem hl, hx]
   refine ⟨(x.n : Int), true, _, _, fun w P h => ?_, fun w J X h => ?_, hok.end hi hxi, rfl⟩
   · have hlm : i < P.M.length := by rw [h.len]; exact hl
     refine (fstop_in h hxi (List.getElem?_eq_getElem hlm) (by have := hok.wl hi; omega)).mono ?_; rintro e w' ⟨he, V', h8, h9⟩; exact ⟨he, _, h8, h9, rfl⟩
   · refine (jstop_in h hd x.k (Fs.dAt hxi) rfl).mono ?_; rintro e w' ⟨he, v', h8, h9⟩; exact ⟨he, _, by rw [Fs.dErase]; exact h8, h9, rfl⟩
 · by_cases h2 : k ∈ s.row.map Prod.fst
   · obtain ⟨⟨k', xs⟩, hx, rfl⟩ := List.mem_map.1 h2; obtain ⟨i, hl, hx⟩ := List.mem_iff_getElem.1 hx; have hxi : s.row[i]? = some (k', xs) := by rw [List.getElem?_eq_getElem hl, hx]
     refine ⟨0, true, { s with row := s.row.eraseIdx i }, W, fun w P h => ?_, fun w J X h => ?_, hok.row _, rfl⟩
     · refine (fstop_row h k' h1 h2).mono ?_; rintro e w' ⟨he, j, rv', ⟨ys, hy⟩, h8, h9⟩; have e9 := row_uniq hi hy hxi; subst e9; exact ⟨he, _, h8, h9, rfl⟩
     · refine (jstop_row h hd k' (k := i) (x := (k', xs)) hxi rfl).mono ?_; rintro e w' ⟨he, v', h8, h9⟩; exact ⟨he, _, h8, h9, rfl⟩
   · exact ⟨0, false, s, W, fun w P h => negF h (fstop_no h k h1 (by rw [h.rk]; exact h2)), fun w J X h => negJ h (jstop_no h hd k (by rw [Fs.dK]; exact h1) h2), hok, rfl⟩
def HeaP (s : Fs) (W : List Wh.Tm) (k e z pt ix c : Int) (dn : Nat) (cd : Int) (gn : Nat) (l : List Rg) (a b d : Int) (r : Bool) (s' : Fs) (W' : List Wh.Tm) : Prop := ∀ (w : World) (P : Fp), FSw w P s W → ∀ (da : Option Addr) (dc : Nat) (ga : Option Addr) (gc : Nat), RdR w ga l → gn ≤ gc → (ga = none → gc = 0) →
 Calls Tryz.prog 19 #[.pointer (some ⟨P.p, 0, none⟩), .agg (ucl k e z pt ix c da dn dc cd ga gn gc)] w fun e9 w' => e9 = .returned (.tuple #[doneV a b d, .bool r]) ∧ ∃ P', FSw w' P' s' W' ∧ FStp w w' P P' ∧ P'.p = P.p
def HeaD (t : Dd) (k e z pt ix c : Int) (dn : Nat) (cd : Int) (gn : Nat) (l : List Rg) (a b d : Int) (r : Bool) (t' : Dd) : Prop := ∀ (w : World) (J : Jp) (X : Value × Value), JS w J X t → ∀ (da : Option Addr) (dc : Nat) (ga : Option Addr) (gc : Nat), RdR w ga l → (ga = none → gc = 0) →
 Calls Tryz.prog 54 #[.pointer (some ⟨J.q, 0, none⟩), .agg (ucl k e z pt ix c da dn dc cd ga gn gc)] w fun e9 w' => e9 = .returned (.tuple #[doneV a b d, .bool r]) ∧ ∃ J', JS w' J' X t' ∧ JStp w w' J J' ∧ J'.q = J.q
theorem hearF_pair (hi : FInv s) (hok : Fok s W) (k e : Int) (z : Nat) (pt ix c : Int) (dn : Nat) (cd : Int) (gn : Nat) (l : List Rg) (hn : gn = l.length) (hl : gn ≤ 8796093022208) : ∃ a b d r s' W', HeaP s W k e (z : Int) pt ix c dn cd gn l a b d r s' W' ∧ HeaD s.d k e (z : Int) pt ix c dn cd gn l a b d r s'.d ∧ Fok s' W' ∧ s'.S = s.S := by
 have hd := hok.dinv hi
 by_cases hv : validR k e (z : Int) pt ix c dn cd gn l
 · by_cases hk : k = 2
   · subst hk
     by_cases he : e = (s.ep : Int)
     · subst he
       by_cases hin : z ∈ s.L.map Fe.n
       · obtain ⟨x, hx0, rfl⟩ := List.mem_map.1 hin; obtain ⟨i, hil, hx⟩ := List.mem_iff_getElem.1 hx0; have hxi : s.L[i]? = some x := by rw [List.getElem?_eq_getElem hil, hx]
         by_cases hcd : cd = 0
         · subst hcd
           have hgot : gotOk l := by
            rcases hv.2 with h9 | h9 | h9
            · exact absurd h9.1 (by decide)
            · exact h9.2.2.2.1
            · exact absurd h9.1 (by decide)
           have hto := hok.tl x hx0; obtain ⟨out, ho, hj⟩ := lst_ex (x.told ++ l); have hun := hto.union hgot.tol ho hj; have hlen : x.told.length + gn ≤ 1000000 := by have := hto.len; have := hgot.tol.len; omega
           refine ⟨0, 0, 0, false, _, W, fun w P h da dc ga gc hx hc hz => ?_, fun w J X h da dc ga gc hx hz => ?_, hok.told hxi hun, rfl⟩
           · have hlm : i < P.M.length := by rw [h.len]; exact hil
             refine (fhear_told h hxi (List.getElem?_eq_getElem hlm) pt ix c da dn dc ga gn gc l hn hx hl hc hz hlen hv).mono ?_; rintro e9 w' ⟨he, out2, m', ⟨ho2, hj2, -⟩, -, h8, h9⟩; have : out2 = out := ho2.uniq ho (fun j => (hj2 j).trans (hj j).symm); subst this; exact ⟨he, _, h8, h9, rfl⟩
           · refine (jhear_told h hd (Fs.dAt hxi) pt ix c da dn dc ga gn gc l hn hx hl hz ⟨hto.ri, hgot.tol.ri⟩ hlen hv).mono ?_; rintro e9 w' ⟨he, out2, J', h8⟩; have : out2 = out := h8.ls.1.uniq ho (fun j => (h8.ls.2.1 j).trans (hj j).symm); subst this; exact ⟨he, J', by rw [Fs.dTold]; exact h8.st, h8.stp, h8.q⟩
         · refine ⟨x.k.1, (x.k.2 : Int), cd, true, _, _, fun w P h da dc ga gc hx hc hz => ?_, fun w J X h da dc ga gc hx hz => ?_, hok.end hi hxi, rfl⟩
           · have hlm : i < P.M.length := by rw [h.len]; exact hil
             refine (fhear_in h hxi (List.getElem?_eq_getElem hlm) (by have := hok.wl hi; omega) cd pt ix c da dn dc ga gn gc l hn hx hl hc hv hcd).mono ?_; rintro e9 w' ⟨he, V', h8, h9⟩; exact ⟨he, _, h8, h9, rfl⟩
           · refine (jhear_in h hd (Fs.dAt hxi) 2 (s.ep : Int) cd pt ix c da dn dc ga gn gc l hn hx hl hv hcd).mono ?_; rintro e9 w' ⟨he, v', h8, h9⟩; exact ⟨he, _, by rw [Fs.dErase]; exact h8, h9, rfl⟩
       · exact ⟨0, 0, 0, false, s, W, fun w P h da dc ga gc hx hc hz => negF h (fhear_out h z cd pt ix c da dn dc ga gn gc l hn hx hl hc hv hin), fun w J X h da dc ga gc hx hz => negJ h (jhear_out h hd z 2 (s.ep : Int) cd pt ix c da dn dc ga gn gc l hn hx hl hv (by rw [Fs.dN]; exact hin)), hok, rfl⟩
     · exact ⟨0, 0, 0, false, s, W, fun w P h da dc ga gc hx hc hz => negF h (fhear_ep h e (z : Int) cd pt ix c da dn dc ga gn gc l hn hx hl hc hv he), fun w J X h da dc ga gc hx hz => negJ h (jhear_ep h hd z 2 e cd pt ix c da dn dc ga gn gc l hn hx hl hv he), hok, rfl⟩
   · exact ⟨0, 0, 0, false, s, W, fun w P h da dc ga gc hx hc hz => negF h (fhear_kind h k e (z : Int) cd pt ix c da dn dc ga gn gc hk), fun w J X h da dc ga gc hx hz => negJ h (jhear_kind h hd z k e cd pt ix c da dn dc ga gn gc l hn hx hl hv hk), hok, rfl⟩
 · refine ⟨0, 0, 0, false, s, W, fun w P h da dc ga gc hx hc hz => ?_, fun w J X h da dc ga gc hx hz => negJ h (jhear_bad h hd z k e cd pt ix c da dn dc ga gn gc l hn hx hl hv), hok, rfl⟩
   by_cases hk : k = 2
   · subst hk; exact negF h (fhear_bad h e (z : Int) cd pt ix c da dn dc ga gn gc l hn hx hl hc hv)
   · exact negF h (fhear_kind h k e (z : Int) cd pt ix c da dn dc ga gn gc hk)
end
end Go.Proofs.YtpakkpahcpgnnaaGreatDoor
