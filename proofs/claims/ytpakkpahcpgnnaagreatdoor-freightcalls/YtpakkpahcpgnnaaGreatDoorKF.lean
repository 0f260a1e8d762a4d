import Derived.Test.YtpakkpahcpgnnaaGreatDoorJN
import Derived.Test.YtpakkpahcpgnnaaGreatDoorKE
import Derived.Test.YtpakkpahcpgnnaaGreatDoorFId
set_option linter.unusedVariables false
set_option linter.unusedSimpArgs false
namespace Go.Proofs.YtpakkpahcpgnnaaGreatDoor
open Go.RowKit Go.Maps
def RunP (s : Fs) (W : List Wh.Tm) (n now j : Nat) (us : List Uu) (s' : Fs) (W' : List Wh.Tm) : Prop := ∀ (w : World) (P : Fp), FSw w P s W →
 Calls Tryz.prog 13 #[.pointer (some ⟨P.p, 0, none⟩), .int .u64 (n : Int), .int .u64 (now : Int)] w fun e w' => ∃ v P' D, e = .returned (.tuple #[.int .i64 (j : Int), v]) ∧ URw w' w.heap.size v D us ∧ FSw w' P' s' W' ∧ FStp w w' P P' ∧ (∀ b, v.ownBlock = some b ∨ XV D b → ¬ footF P' b) ∧ P'.p = P.p
def RunD (t : Dd) (n now j : Nat) (us : List Uu) (t' : Dd) : Prop := ∀ (w : World) (J : Jp) (X : Value × Value), JS w J X t →
 Calls Tryz.prog 51 #[.pointer (some ⟨J.q, 0, none⟩), .int .u64 (n : Int), .int .u64 (now : Int)] w fun e w' => ∃ v J' D, e = .returned (.tuple #[.int .i64 (j : Int), v]) ∧ UJw w' J'.Z w.heap.size v D us ∧ JS w' J' X t' ∧ JStp w w' J J' ∧ (∀ b, v.ownBlock = some b → ¬ footJ J' b) ∧ J'.q = J.q
section
variable {s : Fs} {W : List Wh.Tm}
theorem UJw.nil (w : World) (Z : Nat → Prop) (B : Nat) : UJw w Z B (.slice none 0 0) [] [] := ⟨World.ownsRow_nil _ _ _ _, rfl, fun i d u h => by simp at h⟩
theorem run_ex (s : Fs) (n : Nat) : ∀ f i, (∀ k, k < i → mayB (runN s n k) (n + k)) → (runN s n i).row.length ≤ f → ∃ j, RunIs s n j
 | f, i, hg, hl => by
  by_cases hm : mayB (runN s n i) (n + i)
  · cases f with
    | zero => have := hm.1; omega
    | succ f =>
     obtain ⟨⟨k, xs⟩, r, hrow⟩ : ∃ x r, (runN s n i).row = x :: r := by
      cases e : (runN s n i).row with
      | nil => have := hm.1; rw [e] at this; cases this
      | cons a b => exact ⟨a, b, rfl⟩
     have hr0 : (runN s n i).row[0]? = some (k, xs) := by rw [hrow]; rfl
     have hst := (stepF_cons (m := n + i) hr0).1; refine run_ex s n f (i + 1) (fun m hm' => ?_) ?_
     · by_cases e : m = i
       · subst e; exact hm
       · exact hg m (by omega)
     · show (stepF (runN s n i) (n + i)).row.length ≤ f; rw [hst]; show ((runN s n i).row.eraseIdx 0).length ≤ f; rw [hrow] at hl ⊢; simp at hl ⊢; omega
  · exact ⟨i, hg, hm⟩
theorem FInv.clk {c : Nat} (h : FInv s) (h1 : s.clk ≤ c) (h2 : c ≤ mxX) : FInv { s with clk := c } :=
 ⟨h.mt, h.rt, h.rs, h.wn, h.e, h2, Nat.le_trans h.nc h1, h.len, h.lw, h.num, h.up, h.good, h.nk, h.blk, h.seg, h.ag⟩
theorem runU_txt (hi : FInv s) (h : Fok s W) {n : Nat} (hnu : ∀ x, x ∈ s.L → x.n < n) : ∀ j, (∀ i, i < j → mayB (runN s n i) (n + i)) → ∀ u, u ∈ runU s n j → u.t.length ≤ 1024
 | 0, _, u, hu => by cases hu
 | j + 1, hg, u, hu => by
  have hu' : u ∈ runU s n j ++ stepU (runN s n j) (n + j) := hu; rcases List.mem_append.1 hu' with h9 | h9
  · exact runU_txt hi h hnu j (fun i hij => hg i (by omega)) u h9
  · have hm := hg j (by omega); have hiN := (Fok.run hi h hnu j (fun i hij => hg i (by omega))).1; have hiS := (Fok.run hi h hnu (j + 1) hg).1
    obtain ⟨⟨k, xs⟩, r, hrow⟩ : ∃ x r, (runN s n j).row = x :: r := by
     cases e : (runN s n j).row with
     | nil => have := hm.1; rw [e] at this; cases this
     | cons a b => exact ⟨a, b, rfl⟩
    have hr0 : (runN s n j).row[0]? = some (k, xs) := by rw [hrow]; rfl
    have hst := stepF_cons (m := n + j) hr0; rw [hst.2] at h9
    have hmem : begF (runN s n j) (n + j) k xs ∈ (runN s n (j + 1)).L := by
     show _ ∈ (stepF (runN s n j) (n + j)).L; rw [hst.1]; exact List.mem_append.2 (.inr (by simp))
    have hsg := (hiS.seg _ hmem).2; unfold usF at h9; obtain ⟨i, -, rfl⟩ := List.mem_map.1 h9; show (txF _ i).length ≤ 1024; unfold txF; cases e : (begF (runN s n j) (n + j) k xs).T[i]? with
    | none => simp
    | some t => exact (hsg t (List.mem_of_getElem? e)).2
theorem run_pair (hi : FInv s) (hok : Fok s W) (n now : Nat) (hS : s.S + 64 < 18446744073709551615) : ∃ j us s' W', RunP s W n now j us s' W' ∧ RunD s.d n now j us s'.d ∧ Fok s' W' ∧ s'.S ≤ s.S + 64 ∧ us.length ≤ 4224 ∧ ∀ u, u ∈ us → u.t.length ≤ 1024 := by
 have hd := hok.dinv hi
 by_cases hn : 1 ≤ n ∧ n ≤ mxX
 · by_cases hp : ∃ y, y ∈ s.L ∧ n ≤ y.n
   · obtain ⟨y, hy, hyn⟩ := hp; refine ⟨0, [], s, W, fun w P h => ?_, fun w J X h => ?_, hok, by omega, by simp, by simp⟩
     · refine (frun_pass h n now hn hy hyn).mono ?_; rintro e w' ⟨he, hb⟩; exact ⟨_, P, [], he, URw.nil _ _, h.below hb, FStp.below hb P, (fun b hb => by rcases hb with hb | ⟨i, d, hd, -⟩; (cases hb); (simp at hd)), rfl⟩
     · refine (jrun_pass h hd n now hn (y := y.d) (List.mem_map.2 ⟨y, hy, rfl⟩) hyn).mono ?_; rintro e w' ⟨he, hb⟩; subst hb; exact ⟨_, J, [], he, UJw.nil _ _ _, h, JStp.refl _ _, (fun b hb => by cases hb), rfl⟩
   · have hnu : ∀ x, x ∈ s.L → x.n < n := fun x hx => Nat.lt_of_not_le (fun h9 => hp ⟨x, hx, h9⟩)
     have hc : s.clk ≤ max s.clk (min now mxX) ∧ max s.clk (min now mxX) ≤ mxX := by have := hi.c; omega
     have hi1 := hi.clk hc.1 hc.2; have hok1 := hok.clk (max s.clk (min now mxX)); obtain ⟨j, hj⟩ := run_ex { s with clk := max s.clk (min now mxX) } n s.row.length 0 (fun k hk => by omega) (Nat.le_refl _); have hf := Fok.run hi1 hok1 hnu j hj.go
     have hjl : j ≤ 64 ∧ (runU { s with clk := max s.clk (min now mxX) } n j).length ≤ j * 65 := by
      have h9 : ∀ i, i ≤ j → RunAt { s with clk := max s.clk (min now mxX) } n i := by
       intro i
       induction i with
       | zero => exact fun _ => RunAt.zero hnu
       | succ i ih =>
        intro hij; have h8 := ih (by omega); have hm := hj.go i (by omega); have hiN := (Fok.run hi1 hok1 hnu (i + 1) (fun k hk => hj.go k (by omega))).1
        obtain ⟨⟨k, xs⟩, r, hrow⟩ : ∃ x r, (runN { s with clk := max s.clk (min now mxX) } n i).row = x :: r := by
         cases e : (runN { s with clk := max s.clk (min now mxX) } n i).row with
         | nil => have := hm.1; rw [e] at this; cases this
         | cons a b => exact ⟨a, b, rfl⟩
        have hr0 : (runN { s with clk := max s.clk (min now mxX) } n i).row[0]? = some (k, xs) := by rw [hrow]; rfl
        have hst := stepF_cons (m := n + i) hr0; refine h8.next hm hr0 (hiN.seg _ ?_).1.2; show _ ∈ (stepF (runN { s with clk := max s.clk (min now mxX) } n i) (n + i)).L; rw [hst.1]; exact List.mem_append.2 (.inr (by simp))
      have h7 := h9 j (Nat.le_refl _); have h6 := h7.len; have h5 := hi.len; have h6 : (runN { s with clk := max s.clk (min now mxX) } n j).row.length + j = s.row.length := h6; exact ⟨by omega, h7.ul⟩
     refine ⟨j, runU { s with clk := max s.clk (min now mxX) } n j, _, _, fun w P h => ?_, fun w J X h => ?_, hf.2.1, by rw [hf.2.2.1]; show s.S + j ≤ s.S + 64; omega, by have := hjl.2; omega, runU_txt hi1 hok1 hnu j hj.go⟩
     · refine (frun_t h n now hn hnu hS (by have := hok.wl hi; omega)).mono ?_; rintro e w' ⟨v, j2, P', D, he, ho⟩; have := ho.is.uniq hj; subst this; exact ⟨v, P', D, he, ho.us, ho.st, ho.stp, ho.far, ho.pp⟩
     · refine (jrun_t h hi hok.td n now hn hnu).mono ?_; rintro e w' ⟨j2, v, J', D, he, ho⟩; have := ho.is_.uniq hj; subst this; exact ⟨v, J', D, he, ho.us, ho.st, ho.stp, ho.far, ho.q⟩
 · refine ⟨0, [], s, W, fun w P h => ?_, fun w J X h => ?_, hok, by omega, by simp, by simp⟩
   · refine (frun_num h n now hn).mono ?_; rintro e w' ⟨he, hb⟩; subst hb; exact ⟨_, P, [], he, URw.nil _ _, h, FStp.below (bR _ _) P, (fun b hb => by rcases hb with hb | ⟨i, d, hd, -⟩; (cases hb); (simp at hd)), rfl⟩
   · refine (jrun_num n now hn).mono ?_; rintro e w' ⟨he, hb⟩; subst hb; exact ⟨_, J, [], he, UJw.nil _ _ _, h, JStp.refl _ _, (fun b hb => by cases hb), rfl⟩
def TicP (s : Fs) (W : List Wh.Tm) (x : Nat) (us : List Uu) (ks : List Fk) (s' : Fs) (W' : List Wh.Tm) : Prop := ∀ (w : World) (P : Fp), FSw w P s W → Wh.TabZ w → ¬ footF P 0 →
 Calls Tryz.prog 14 #[.pointer (some ⟨P.p, 0, none⟩), .int .u64 (x : Int)] w fun e w' => ∃ v4 v5 P' D, e = .returned (.tuple #[v4, v5]) ∧ URw w' w.heap.size v4 D us ∧ OwnG KKy w' w.heap.size v5 ks ∧ FSw w' P' s' W' ∧ FStp w w' P P' ∧ (∀ b, (v4.ownBlock = some b ∨ XV D b) ∨ v5.ownBlock = some b → ¬ footF P' b) ∧ P'.p = P.p
def TicD (t : Dd) (x : Nat) (us : List Uu) (ks : List Fk) (t' : Dd) : Prop := ∀ (w : World) (J : Jp) (X : Value × Value), JS w J X t →
 Calls Tryz.prog 56 #[.pointer (some ⟨J.q, 0, none⟩), .int .u64 (x : Int)] w fun e w' => ∃ v4 v5 J' D, e = .returned (.tuple #[v4, v5]) ∧ UJw w' J'.Z w.heap.size v4 D us ∧ OwnG KKy w' w.heap.size v5 ks ∧ JS w' J' X t' ∧ JStp w w' J J' ∧ (∀ b, v4.ownBlock = some b ∨ v5.ownBlock = some b → ¬ footJ J' b) ∧ J'.q = J.q
theorem missI_lt {told : List Rg} {N i : Nat} (h1 : 1 ≤ N) (h : i ∈ missI told N) : i < N := by
 unfold missI at h; split at h
 · rw [List.mem_singleton.1 h]; omega
 · exact List.mem_range.1 (List.mem_filter.1 h).1
theorem leJ_x (s : Fs) : ∀ (L : List Fe) (Q : List Fq), Q.map Fq.x = L.map Fe.d → (∀ x, x ∈ L → x.ag ≤ s.rs) → (leJ s.d Q).map Fq.x = L.flatMap (tkX s) ∧ loJ s.d Q = L.flatMap (tkKs s)
 | [], [], _, _ => ⟨rfl, rfl⟩
 | [], _ :: _, h, _ => by simp at h
 | _ :: _, [], h, _ => by simp at h
 | x :: L, y :: Q, h, ha => by
  simp only [List.map_cons, List.cons.injEq] at h; obtain ⟨h1, h2⟩ := leJ_x s L Q h.2 (fun z hz => ha z (List.mem_cons_of_mem _ hz)); have hag := ha x (by simp); have e0 := h.1
  have e1 : (tkL s.d y).map Fq.x = tkX s x ∧ tkK s.d y = tkKs s x := by
   unfold tkL tkX tkK tkKs; rw [e0]; show (if x.due ≤ s.clk then (if x.ag = s.rs then ([] : List Fq) else [agJ s.d y]) else [y]).map Fq.x = _ ∧ (if x.due ≤ s.clk then (if x.ag = s.rs then [x.k] else []) else []) = _
   by_cases hd : x.due ≤ s.clk
   · rw [if_pos hd, if_pos hd, if_pos hd, if_pos hd]
     by_cases hr : x.ag = s.rs
     · rw [if_pos hr, if_pos hr, if_neg (by omega), if_neg (by omega)]; exact ⟨rfl, rfl⟩
     · rw [if_neg hr, if_neg hr, if_pos (by omega), if_pos (by omega)]; refine ⟨?_, rfl⟩; unfold agJ; rw [e0]
       rfl
   · rw [if_neg hd, if_neg hd, if_neg hd, if_neg hd]; exact ⟨by rw [List.map_singleton, e0], rfl⟩
  constructor
  · show ((y :: Q).flatMap (tkL s.d)).map Fq.x = _; rw [List.flatMap_cons, List.map_append, List.flatMap_cons, e1.1]; exact congrArg (tkX s x ++ ·) h1
  · show (y :: Q).flatMap (tkK s.d) = _; rw [List.flatMap_cons, List.flatMap_cons, e1.2]; exact congrArg (tkKs s x ++ ·) h2
def DatOk (w : World) (Z : Nat → Prop) (E : List Dc) (us : List Uu) : Prop := ∀ (i : Nat) d u, E[i]? = some d → us[i]? = some u → Own w 0 d.v u.t ∧ ∀ b, d.v.ownBlock = some b → Z b
theorem DatOk.app {w : World} {Z : Nat → Prop} {E E2 : List Dc} {us us2 : List Uu} (h : DatOk w Z E us) (h2 : DatOk w Z E2 us2) (hl : E.length = us.length) : DatOk w Z (E ++ E2) (us ++ us2) := fun i d u h3 h4 => by
 by_cases hi : i < E.length
 · rw [List.getElem?_append_left hi] at h3; rw [List.getElem?_append_left (by rw [← hl]; exact hi)] at h4; exact h i d u h3 h4
 · rw [List.getElem?_append_right (by omega)] at h3; rw [List.getElem?_append_right (by rw [← hl]; omega), ← hl] at h4; exact h2 _ d u h3 h4
theorem zf_app {us us2 : List Uu} {E E2 : List Dc} (h : E.length = us.length) : zf (us ++ us2) (E ++ E2) = zf us E ++ zf us2 E2 := List.zipWith_append h.symm
theorem mis_one {w : World} {Z : Nat → Prop} {ep : Nat} {x : Fe} {y : Fq} (e : y.x = x.d) (h1 : 1 ≤ x.T.length) (hs : SegZ w Z y.sg y.x.T y.E) : ∃ E, E.length = (usF ep x).length ∧ misB ep y = zf (usF ep x) E ∧ DatOk w Z E (usF ep x) := by
 have hT : y.x.T = x.T := by rw [e]; rfl
 have hTo : y.x.told = x.told := by rw [e]; rfl
 have hN : y.x.n = x.n := by rw [e]; rfl
 refine ⟨(missI x.told x.T.length).map (fun i => y.E.getD i Dc.z), by unfold usF; simp, ?_, ?_⟩
 · unfold misB usF; rw [hT, hTo, hN]; unfold zf; rw [List.zipWith_map]; apply List.ext_getElem
   · simp
   · intro i h2 h3; simp
 · intro i d u h2 h3; unfold usF at h3; rw [List.getElem?_map] at h2 h3; cases hm : (missI x.told x.T.length)[i]? with
   | none => rw [hm] at h2; cases h2
   | some k =>
    rw [hm] at h2 h3; cases h2; cases h3; have hk := missI_lt h1 (List.mem_of_getElem? hm); have hlen : y.E.length = x.T.length := by rw [hs.ls.fml.len, hT]
    have hk2 : k < y.E.length := by omega
    have hg : y.E.getD k Dc.z = y.E[k] := by rw [List.getD_eq_getElem?_getD, List.getElem?_eq_getElem hk2]; rfl
    have ht : txF x k = x.T[k] := by unfold txF; rw [List.getElem?_eq_getElem hk]; rfl
    show Own w 0 (y.E.getD k Dc.z).v (txF x k) ∧ ∀ b, (y.E.getD k Dc.z).v.ownBlock = some b → Z b; rw [hg, ht]; refine ⟨hs.ls.fml.own k _ _ (List.getElem?_eq_getElem hk2) (by rw [hT, List.getElem?_eq_getElem hk]), fun b hb => hs.z b (.inr ⟨k, _, List.getElem?_eq_getElem hk2, hb⟩)⟩
theorem un_zf {w : World} {Z : Nat → Prop} (s : Fs) : ∀ (L : List Fe) (Q : List Fq), Q.map Fq.x = L.map Fe.d → (∀ x, x ∈ L → 1 ≤ x.T.length ∧ x.ag ≤ s.rs) → (∀ z, z ∈ leJ s.d Q → SegZ w Z z.sg z.x.T z.E) → ∃ E, E.length = (L.flatMap (tkUs s)).length ∧ unJ s.d Q = zf (L.flatMap (tkUs s)) E ∧ DatOk w Z E (L.flatMap (tkUs s))
 | [], [], _, _, _ => ⟨[], rfl, rfl, fun i d u h => by simp at h⟩
 | [], _ :: _, h, _, _ => by simp at h
 | _ :: _, [], h, _, _ => by simp at h
 | x :: L, y :: Q, h, ha, hs => by
  simp only [List.map_cons, List.cons.injEq] at h
  have hsc : ∀ z, z ∈ tkL s.d y ∨ z ∈ leJ s.d Q → SegZ w Z z.sg z.x.T z.E := fun z hz => hs z (by
    show z ∈ (y :: Q).flatMap (tkL s.d); rw [List.flatMap_cons, List.mem_append]
    exact hz)
  obtain ⟨E, h1, h2, h3⟩ := un_zf s L Q h.2 (fun z hz => ha z (List.mem_cons_of_mem _ hz)) (fun z hz => hsc z (.inr hz)); have hag := ha x (by simp); have e0 := h.1
  have hone : ∃ E1, E1.length = (tkUs s x).length ∧ tkU s.d y = zf (tkUs s x) E1 ∧ DatOk w Z E1 (tkUs s x) := by
   by_cases hd : x.due ≤ s.clk
   · by_cases hr : x.ag = s.rs
     · have e1 : tkUs s x = [] := by unfold tkUs; rw [if_pos hd, if_neg (by omega)]
       have e2 : tkU s.d y = [] := by
        unfold tkU; rw [e0]; show (if x.due ≤ s.clk then (if x.ag = s.rs then ([] : List Bf) else misB s.ep y) else []) = []; rw [if_pos hd, if_pos hr]
       rw [e1, e2]; exact ⟨[], rfl, rfl, fun i d u h => by simp at h⟩
     · have e1 : tkUs s x = usF s.ep x := by unfold tkUs; rw [if_pos hd, if_pos (by omega)]
       have e2 : tkU s.d y = misB s.ep y := by
        unfold tkU; rw [e0]; show (if x.due ≤ s.clk then (if x.ag = s.rs then ([] : List Bf) else misB s.ep y) else []) = _; rw [if_pos hd, if_neg hr]
       have e3 : tkL s.d y = [agJ s.d y] := by
        unfold tkL; rw [e0]; show (if x.due ≤ s.clk then (if x.ag = s.rs then ([] : List Fq) else [agJ s.d y]) else [y]) = _; rw [if_pos hd, if_neg hr]
       rw [e1, e2]; have h9 := hsc (agJ s.d y) (.inl (by rw [e3]; simp)); exact mis_one e0 hag.1 h9
   · have e1 : tkUs s x = [] := by unfold tkUs; rw [if_neg hd]
     have e2 : tkU s.d y = [] := by
      unfold tkU; rw [e0]; show (if x.due ≤ s.clk then (if x.ag = s.rs then ([] : List Bf) else misB s.ep y) else []) = []; rw [if_neg hd]
     rw [e1, e2]; exact ⟨[], rfl, rfl, fun i d u h => by simp at h⟩
  obtain ⟨E1, g1, g2, g3⟩ := hone; refine ⟨E1 ++ E, ?_, ?_, ?_⟩
  · rw [List.flatMap_cons, List.length_append, List.length_append, g1, h1]
  · show (y :: Q).flatMap (tkU s.d) = _; rw [List.flatMap_cons, List.flatMap_cons, zf_app g1, ← g2, ← h2]
    rfl
  · rw [List.flatMap_cons]; exact g3.app h3 g1
theorem tkUs_len (hi : FInv s) : (s.L.flatMap (tkUs s)).length ≤ 4224 ∧ ∀ u, u ∈ s.L.flatMap (tkUs s) → u.t.length ≤ 1024 := by
 constructor
 · have h9 := flat_len (tkUs s) 65 s.L (fun x hx => by
     have h8 := (hi.seg x hx).1.2; unfold tkUs; split
     · split
       · unfold usF; rw [List.length_map]; have := (missI_len x.told x.T.length).1; omega
       · simp
     · simp)
   have := hi.len; have : s.L.length * 65 ≤ 64 * 65 := Nat.mul_le_mul_right _ (by omega); omega
 · intro u hu; obtain ⟨x, hx, hu⟩ := List.mem_flatMap.1 hu; unfold tkUs at hu; split at hu
   · split at hu
     · unfold usF at hu; obtain ⟨i, -, rfl⟩ := List.mem_map.1 hu; show (txF x i).length ≤ 1024; unfold txF; cases e : x.T[i]? with
       | none => simp
       | some t => exact ((hi.seg x hx).2 t (List.mem_of_getElem? e)).2
     · cases hu
   · cases hu
theorem tick_pair (hi : FInv s) (hok : Fok s W) (x : Nat) (hS : s.S + 64 < 18446744073709551615) : ∃ us ks s' W', TicP s W x us ks s' W' ∧ TicD s.d x us ks s'.d ∧ Fok s' W' ∧ s'.S ≤ s.S + 64 ∧ us.length ≤ 4224 ∧ (∀ u, u ∈ us → u.t.length ≤ 1024) ∧ ks.length ≤ 64 := by
 have hd := hok.dinv hi; have hc : s.clk ≤ max s.clk (min x mxX) ∧ max s.clk (min x mxX) ≤ mxX := by have := hi.c; omega
 obtain ⟨s1, hs1⟩ : ∃ s1 : Fs, s1 = { s with clk := max s.clk (min x mxX) } := ⟨_, rfl⟩; have hi1 : FInv s1 := by rw [hs1]; exact hi.clk hc.1 hc.2
 have hok1 : Fok s1 W := by rw [hs1]; exact hok.clk _
 have hd1 : ({ s.d with clk := max s.d.clk (min x mxX) } : Dd) = s1.d := by rw [hs1]; rfl
 have hall := tk_all hi1 hok1.ti; have hfk := hok1.tick hi1; have hu := tkUs_len hi1; refine ⟨s1.L.flatMap (tkUs s1), s1.L.flatMap (tkKs s1), _, _, fun w P h ht hz => ?_, fun w J X h => ?_, hfk, ?_, hu.1, hu.2, ?_⟩
 · refine (ftick_t finOrder h hok.ti hS hok.td ht hz x).mono ?_; rintro e w' ⟨v4, v5, P', D, he, ho⟩; rw [← hs1] at ho; have h1 := ho.us; have h2 := ho.ks; rw [hall.us] at h1; rw [hall.ks] at h2; exact ⟨v4, v5, P', D, he, h1, h2, ho.st, ho.stp, ho.far, ho.pp⟩
 · refine (jtick_t h hd x).mono ?_; rintro e w' ⟨v4, v5, v8, he, ho⟩; rw [hd1] at ho; have hQ : J.Q.map Fq.x = s1.L.map Fe.d := by rw [h.lx, hs1]; rfl
   obtain ⟨hx, hk⟩ := leJ_x s1 s1.L J.Q hQ (fun z hz => hi1.ag z hz); obtain ⟨E, g1, g2, g3⟩ := un_zf (w := w') (Z := J.Z) s1 s1.L J.Q hQ (fun z hz => ⟨(hi1.seg z hz).1.1, hi1.ag z hz⟩) ho.st.ls; have hus := ho.us; rw [g2] at hus; have hks := ho.ks; rw [hk] at hks; obtain ⟨A', hA, hA2⟩ := hall.st; refine ⟨v4, v5, { J with lv := v8, Q := leJ s1.d J.Q }, E, he, ⟨hus, g1, g3⟩, hks, ?_, ho.stp, ho.far, rfl⟩; have h8 := ho.st; rw [hx, ← hA2] at h8; rw [hA]; exact h8
 · have h9 := hall.S; have h8 : s1.S = s.S := by rw [hs1]
   have h7 : s1.L.length ≤ 64 := by have := hi1.len; omega
   omega
 · have h9 := flat_len (tkKs s1) 1 s1.L (fun z hz => by unfold tkKs; split; (split <;> simp); simp); have := hi1.len; omega
end
end Go.Proofs.YtpakkpahcpgnnaaGreatDoor
