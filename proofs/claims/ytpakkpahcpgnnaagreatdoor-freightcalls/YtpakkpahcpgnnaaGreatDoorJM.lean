import Derived.Test.YtpakkpahcpgnnaaGreatDoorFYb
import Derived.ArgAppend
set_option linter.unusedVariables false
set_option linter.unusedSimpArgs false
namespace Go.Proofs.YtpakkpahcpgnnaaGreatDoor
open Go.RowKit Go.Maps
theorem sortedN_uniq : ∀ {a b : List Nat}, a.Pairwise (fun x y => x < y) → b.Pairwise (fun x y => x < y) → (∀ i, i ∈ a ↔ i ∈ b) → a = b
 | [], [], _, _, _ => rfl
 | [], y :: b, _, _, h => absurd ((h y).2 List.mem_cons_self) (by simp)
 | x :: a, [], _, _, h => absurd ((h x).1 List.mem_cons_self) (by simp)
 | x :: a, y :: b, ha, hb, h => by
  rw [List.pairwise_cons] at ha hb
  have e : x = y := by
   rcases List.mem_cons.1 ((h x).1 List.mem_cons_self) with q | q
   · exact q
   · rcases List.mem_cons.1 ((h y).2 List.mem_cons_self) with q2 | q2
     · exact q2.symm
     · have := ha.1 y q2; have := hb.1 x q; omega
  subst e; refine congrArg (x :: ·) (sortedN_uniq ha.2 hb.2 (fun i => ⟨fun hi => ?_, fun hi => ?_⟩))
  · rcases List.mem_cons.1 ((h i).1 (List.mem_cons_of_mem _ hi)) with q | q
    · have := ha.1 i hi; omega
    · exact q
  · rcases List.mem_cons.1 ((h i).2 (List.mem_cons_of_mem _ hi)) with q | q
    · have := hb.1 i hi; omega
    · exact q
def hasN (l : List Rg) (i : Nat) : Bool := l.any (fun r => decide (r.1 ≤ (i : Int)) && decide ((i : Int) < r.2))
theorem hasN_iff (l : List Rg) (i : Nat) : hasN l i = true ↔ hasR l (i : Int) := by
 unfold hasN hasR; rw [List.any_eq_true]; constructor
 · rintro ⟨x, hx, h9⟩; simp at h9; exact ⟨x, hx, h9.1, h9.2⟩
 · rintro ⟨x, hx, h8, h9⟩; exact ⟨x, hx, by simp; exact ⟨h8, h9⟩⟩
def missI (told : List Rg) (N : Nat) : List Nat := if (List.range N).filter (fun i => !hasN told i) = [] then [N - 1] else (List.range N).filter (fun i => !hasN told i)
theorem mem_rgI {r : Rg} (h : 0 ≤ r.1) (i : Nat) : i ∈ rgI r ↔ r.1 ≤ (i : Int) ∧ (i : Int) < r.2 := by
 unfold rgI; rw [List.mem_map]; constructor
 · rintro ⟨j, hj, rfl⟩; rw [List.mem_range] at hj; omega
 · rintro ⟨h1, h2⟩; exact ⟨i - r.1.toNat, by rw [List.mem_range]; omega, by omega⟩
theorem rgI_up (r : Rg) : (rgI r).Pairwise (fun x y => x < y) := by
 unfold rgI; rw [List.pairwise_map]; exact List.pairwise_lt_range.imp (fun h => by omega)
theorem mem_idxR {ys : List Rg} (h : ∀ r, r ∈ ys → 0 ≤ r.1) (i : Nat) : i ∈ idxR ys ↔ hasR ys (i : Int) := by
 unfold idxR hasR; rw [List.mem_flatten]; constructor
 · rintro ⟨l, hl, hi⟩; obtain ⟨r, hr, rfl⟩ := List.mem_map.1 hl; exact ⟨r, hr, (mem_rgI (h r hr) i).1 hi⟩
 · rintro ⟨r, hr, h9⟩; exact ⟨rgI r, List.mem_map.2 ⟨r, hr, rfl⟩, (mem_rgI (h r hr) i).2 h9⟩
theorem idxR_up : ∀ {ys : List Rg}, (∀ r, r ∈ ys → 0 ≤ r.1) → ys.Pairwise (fun x y => x.2 < y.1) → (idxR ys).Pairwise (fun x y => x < y)
 | [], _, _ => by simp [idxR]
 | r :: ys, h, hp => by
  rw [List.pairwise_cons] at hp; have h1 := idxR_up (ys := ys) (fun q hq => h q (List.mem_cons_of_mem _ hq)) hp.2; show (rgI r ++ idxR ys).Pairwise _; rw [List.pairwise_append]; refine ⟨rgI_up r, h1, fun a ha b hb => ?_⟩; have h2 := (mem_rgI (h r List.mem_cons_self) a).1 ha; obtain ⟨q, hq, h3, h4⟩ := (mem_idxR (fun q hq => h q (List.mem_cons_of_mem _ hq)) b).1 hb; have := hp.1 q hq; omega
theorem idxR_miss {x : Fe} {ys : List Rg} (h : MissF x ys) (h1 : 1 ≤ x.T.length) : idxR ys = missI x.told x.T.length := by
 have hrg := h.rg h1
 have hf : ∀ zs, MissS x.told zs (x.T.length : Int) → (∀ r, r ∈ zs → 0 ≤ r.1) → idxR zs = (List.range x.T.length).filter (fun i => !hasN x.told i) := fun zs hz h0 => by
  refine sortedN_uniq (idxR_up h0 hz.1.gap) (List.pairwise_lt_range.sublist List.filter_sublist) (fun i => ?_); rw [mem_idxR h0, hz.2, List.mem_filter, List.mem_range]; have := hasN_iff x.told i; constructor
  · rintro ⟨q1, q2, q3⟩; refine ⟨by omega, ?_⟩; cases hq : hasN x.told i with
    | false => rfl
    | true => exact absurd (this.1 hq) q3
  · rintro ⟨q1, q2⟩; refine ⟨by omega, by omega, fun q3 => ?_⟩; rw [this.2 q3] at q2; cases q2
 unfold missI; rcases h with ⟨hne, hm⟩ | ⟨rfl, hm⟩
 · have e := hf ys hm (fun r hr => (hrg r hr).1); rw [if_neg ?_, e]; intro h9; rw [← e] at h9; obtain ⟨r, rs, rfl⟩ := List.exists_cons_of_ne_nil hne; have hr := hrg r List.mem_cons_self; have h8 : r.1.toNat ∈ idxR (r :: rs) := (mem_idxR (fun q hq => (hrg q hq).1) _).2 ⟨r, List.mem_cons_self, by omega, by omega⟩; rw [h9] at h8; cases h8
 · have e := hf [] hm (fun r hr => by cases hr); rw [if_pos (show (List.range x.T.length).filter (fun i => !hasN x.told i) = [] from e.symm)]; simp only [idxR, List.map_cons, List.map_nil, List.flatten_cons, List.flatten_nil, List.append_nil]; unfold rgI; have e1 : ((x.T.length : Int) - ((x.T.length : Int) - 1)).toNat = 1 := by omega
   show (List.range ((x.T.length : Int) - ((x.T.length : Int) - 1)).toNat).map (fun i => ((x.T.length : Int) - 1).toNat + i) = _; rw [e1]; simp
theorem missI_len (told : List Rg) (N : Nat) : (missI told N).length ≤ N + 1 ∧ 1 ≤ (missI told N).length := by
 unfold missI; split
 · exact ⟨by simp, by simp⟩
 · rename_i h9
   refine ⟨Nat.le_trans (List.length_filter_le _ _) (by simp), ?_⟩; rcases hq : (List.range N).filter (fun i => !hasN told i) with _ | ⟨a, l⟩
   · exact absurd hq h9
   · simp
structure Uu where
 ep : Nat
 n : Nat
 i : Nat
 c : Nat
 t : Seg
def usF (ep : Nat) (x : Fe) : List Uu := (missI x.told x.T.length).map (fun i => ⟨ep, x.n, i, x.T.length, txF x i⟩)
structure URw (w : World) (B : Nat) (v : Value) (D : List Dc) (us : List Uu) : Prop where
 row : OwnG KBf w B v (List.zipWith (fun u d => (⟨u.ep, u.n, u.i, u.c, d⟩ : Bf)) us D)
 len : D.length = us.length
 fml : Fml w B D (us.map Uu.t)
theorem UR.toRw {w : World} {B : Nat} {v : Value} {ep : Nat} {x : Fe} {ys : List Rg} {D : List Dc} (h : UR w B v ep x.n x.T.length (idxR ys) D ((idxR ys).map (txF x))) (hm : MissF x ys) (h1 : 1 ≤ x.T.length) : URw w B v D (usF ep x) := by
 rw [idxR_miss hm h1] at h; refine ⟨?_, by rw [h.len]; simp [usF], ?_⟩
 · have h9 := h.row; unfold usF; rw [List.zipWith_map_left]; exact h9
 · have h9 := h.fml; unfold usF; rw [List.map_map]; exact h9
section
variable {w w' : World} {B : Nat} {v : Value} {D : List Dc} {us : List Uu}
theorem URw.nil (w : World) (B : Nat) : URw w B (.slice none 0 0) [] [] := ⟨World.ownsRow_nil _ _ _ _, rfl, ⟨rfl, fun i d t h => by simp at h, fun i j d e b h => by simp at h⟩⟩
theorem URw.kept (h : URw w B v D us) (hk : ∀ b, v.ownBlock = some b ∨ XV D b → w'.heap[b]? = w.heap[b]?) : URw w' B v D us := ⟨h.row.kept (fun b e => hk b (.inl e)), h.len, h.fml.kept (fun b e => hk b (.inr e))⟩
theorem URw.below (h : URw w B v D us) (hb : Below w.heap.size w w') : URw w' B v D us := ⟨h.row.below hb, h.len, h.fml.below hb⟩
theorem URw.lt (h : URw w B v D us) {b : Nat} (hb : v.ownBlock = some b ∨ XV D b) : B ≤ b ∧ b < w.heap.size := by
 rcases hb with hb | hb
 · exact h.row.lt' hb
 · exact h.fml.lt hb
theorem URw.ulen (h : URw w B v D us) : (List.zipWith (fun u d => (⟨u.ep, u.n, u.i, u.c, d⟩ : Bf)) us D).length = us.length := by
 rw [List.length_zipWith, h.len]; simp
theorem Fml.app {V V2 : List Dc} {T T2 : List (List UInt8)} (h : Fml w B V T) (k : Fml w B V2 T2) (ha : ∀ b, XV V b → ¬ XV V2 b) : Fml w B (V ++ V2) (T ++ T2) := by
 refine ⟨by rw [List.length_append, List.length_append, h.len, k.len], fun i d t h1 h2 => ?_, fun i j d e b h1 h2 hne hb1 hb2 => ?_⟩
 · by_cases hi : i < V.length
   · rw [List.getElem?_append_left hi] at h1; rw [List.getElem?_append_left (by rw [← h.len]; exact hi)] at h2; exact h.own i d t h1 h2
   · rw [List.getElem?_append_right (by omega)] at h1; rw [List.getElem?_append_right (by rw [← h.len]; omega), ← h.len] at h2; exact k.own _ d t h1 h2
 · by_cases hi : i < V.length <;> by_cases hj : j < V.length
   · rw [List.getElem?_append_left hi] at h1; rw [List.getElem?_append_left hj] at h2; exact h.ap i j d e b h1 h2 hne hb1 hb2
   · rw [List.getElem?_append_left hi] at h1; rw [List.getElem?_append_right (by omega)] at h2; exact ha b ⟨i, d, h1, hb1⟩ ⟨_, e, h2, hb2⟩
   · rw [List.getElem?_append_right (by omega)] at h1; rw [List.getElem?_append_left hj] at h2; exact ha b ⟨j, e, h2, hb2⟩ ⟨_, d, h1, hb1⟩
   · rw [List.getElem?_append_right (by omega)] at h1 h2; exact k.ap _ _ d e b h1 h2 (by omega) hb1 hb2
theorem XV.app {V V2 : List Dc} {b : Nat} (h : XV (V ++ V2) b) : XV V b ∨ XV V2 b := by
 obtain ⟨i, d, h1, hb⟩ := h
 by_cases hi : i < V.length
 · rw [List.getElem?_append_left hi] at h1; exact .inl ⟨i, d, h1, hb⟩
 · rw [List.getElem?_append_right (by omega)] at h1; exact .inr ⟨_, d, h1, hb⟩
theorem URw.app {v2 v3 : Value} {D2 : List Dc} {us2 : List Uu} {w3 : World} (h : URw w B v D us) (k : URw w B v2 D2 us2) (ha : ∀ b, XV D b → ¬ XV D2 b) (hg : w.grownBy w3 v.ownBlock) (hr : OwnG KBf w3 B v3 (List.zipWith (fun u d => (⟨u.ep, u.n, u.i, u.c, d⟩ : Bf)) us D ++ List.zipWith (fun u d => (⟨u.ep, u.n, u.i, u.c, d⟩ : Bf)) us2 D2)) : URw w3 B v3 (D ++ D2) (us ++ us2) := by
 refine ⟨?_, by rw [List.length_append, List.length_append, h.len, k.len], ?_⟩
 · rw [List.zipWith_append h.len.symm]; exact hr
 · rw [List.map_append]; refine (h.fml.app k.fml ha).keep5 (fun b C hb => hg.block b (sI hb).1 (fun e => ?_)); obtain ⟨cur, h9⟩ := h.row.at_ e.symm; rw [hb] at h9
   injection h9 with h9
   injection h9 with h9 h8
   exact absurd h8 (by decide)
end
section
variable {α : Type} {K : Kd α}
theorem wp_appGL {w : World} {ops : Array Oper} {rest : List Oper} {o : Oper} {a : Act} {Q : Exit → Act → World → Prop} (hgd : o.guard = none) (s x : Operand)
 (ho : o.op = .call { callee := .builtin .append, args := #[s, x], argTypes := #[K.ts, K.ts] }) (B : Nat) (v : Value) (xs ys : List α) (n m t : Nat) (hn : n = xs.length) (hm0 : m = ys.length) (hpos : 0 < m) (ht : t = n + m) (ad : Addr) (cap : Nat)
 (hs : a.eval s = v) (hown : OwnG K w B v xs) (hx : a.eval x = .slice (some ad) m cap) (hr : RdG K w (some ad) ys)
 (hb : (n + m) * K.by_ ≤ 140737488355328) (hm : n + m ≤ maxLen) (hbase : B ≤ w.heap.size)
 (h : ∀ g cap w', OwnG K w' B (.slice (some ⟨g, 0, none⟩) t cap) (xs ++ ys) → w.grownBy w' v.ownBlock → (v.ownBlock = some g ∨ w.heap.size ≤ g) → wpList Tryz.prog ops Q rest (a.put o.dst (.slice (some ⟨g, 0, none⟩) t cap)) w') : wpList Tryz.prog ops Q (o :: rest) a w := by
 subst hn hm0 ht; refine wpList_plain hgd fun _ hK => ?_
 obtain ⟨i0, hi, hz0, hz1, hz2⟩ := info_parts K.hi; refine wp_append_lies w s x K.ts ho B K.t i0 K.z K.k K.by_ K.ht hi hz0 hz1 hz2 K.hz K.hpos v xs.length (K.flat xs) hs hown ad ys.length cap (K.flat ys) hx (Kd.flat_len ys) hr.news (Kd.flat_one' ys) hpos hm hb hbase w.heap.size rfl ?_; intro g cap w' h1 h2 h3 _; refine hK _ _ (h g cap w' ?_ h2 (h3.imp id (fun e => by omega))); unfold OwnG; rw [List.length_append, Kd.flat_app]; exact h1
end
open Go.RowKit Go.Maps
def mayB (t : Fs) (m : Nat) : Prop := 0 < t.row.length ∧ t.L.length < t.win ∧ 1 ≤ m ∧ m ≤ mxX
def stepF (t : Fs) (m : Nat) : Fs := match t.row with
 | [] => t
 | r :: rs => { t with row := rs, L := t.L ++ [begF t m r.1 r.2], S := t.S + 1 }
def stepU (t : Fs) (m : Nat) : List Uu := match t.row with
 | [] => []
 | r :: _ => usF t.ep (begF t m r.1 r.2)
def runN (s : Fs) (n : Nat) : Nat → Fs
 | 0 => s
 | j + 1 => stepF (runN s n j) (n + j)
def runW (W : List Wh.Tm) (s : Fs) (n : Nat) : Nat → List Wh.Tm
 | 0 => W
 | j + 1 => Wh.setL (runW W s n j) (runN s n j).N (runN s n j).S ((n + j : Nat) : Int) ((runN s n j).clk + (runN s n j).rt)
def runU (s : Fs) (n : Nat) : Nat → List Uu
 | 0 => []
 | j + 1 => runU s n j ++ stepU (runN s n j) (n + j)
structure RunIs (s : Fs) (n j : Nat) : Prop where
 go : ∀ i, i < j → mayB (runN s n i) (n + i)
 no : ¬ mayB (runN s n j) (n + j)
theorem RunIs.uniq {s : Fs} {n i j : Nat} (h : RunIs s n i) (k : RunIs s n j) : i = j := by
 rcases Nat.lt_trichotomy i j with q | q | q
 · exact absurd (k.go i q) h.no
 · exact q
 · exact absurd (h.go j q) k.no
theorem setL_len (W : List Wh.Tm) (N S : Nat) (id : Int) (a : Nat) : (Wh.setL W N S id a).length ≤ W.length + 1 := by
 unfold Wh.setL; rw [List.length_append]; have := List.length_filter_le (fun t : Wh.Tm => decide (t.id ≠ id)) W; show _ + 1 ≤ _; omega
theorem runW_len (W : List Wh.Tm) (s : Fs) (n : Nat) : ∀ j, (runW W s n j).length ≤ W.length + j
 | 0 => Nat.le_refl _
 | j + 1 => by
  have := runW_len W s n j; have := setL_len (runW W s n j) (runN s n j).N (runN s n j).S ((n + j : Nat) : Int) ((runN s n j).clk + (runN s n j).rt); show (Wh.setL _ _ _ _ _).length ≤ _; omega
theorem stepF_cons {t : Fs} {m : Nat} {k : Fk} {xs : Seg} (h : t.row[0]? = some (k, xs)) : stepF t m = { t with row := t.row.eraseIdx 0, L := t.L ++ [begF t m k xs], S := t.S + 1 } ∧ stepU t m = usF t.ep (begF t m k xs) := by
 unfold stepF stepU; rcases hq : t.row with _ | ⟨r, rs⟩
 · rw [hq] at h; simp at h
 · rw [hq] at h; simp at h; subst h; exact ⟨rfl, rfl⟩
structure RunAt (s : Fs) (n j : Nat) : Prop where
 go : ∀ i, i < j → mayB (runN s n i) (n + i)
 len : (runN s n j).row.length + j = s.row.length
 sS : (runN s n j).S = s.S + j
 up : ∀ x, x ∈ (runN s n j).L → x.n < n + j
 ul : (runU s n j).length ≤ j * 65
 ep : (runN s n j).ep = s.ep
theorem RunAt.zero {s : Fs} {n : Nat} (h : ∀ x, x ∈ s.L → x.n < n) : RunAt s n 0 := ⟨fun i hi => by omega, rfl, rfl, h, by simp [runU], rfl⟩
theorem RunAt.next {s : Fs} {n j : Nat} (h : RunAt s n j) (hm : mayB (runN s n j) (n + j)) {k : Fk} {xs : Seg} (hr : (runN s n j).row[0]? = some (k, xs)) (hT : (begF (runN s n j) (n + j) k xs).T.length ≤ 64) : RunAt s n (j + 1) := by
 obtain ⟨e1, e2⟩ := stepF_cons (m := n + j) hr; have e3 : runN s n (j + 1) = { runN s n j with row := (runN s n j).row.eraseIdx 0, L := (runN s n j).L ++ [begF (runN s n j) (n + j) k xs], S := (runN s n j).S + 1 } := e1; have e4 : runU s n (j + 1) = runU s n j ++ usF (runN s n j).ep (begF (runN s n j) (n + j) k xs) := by show _ ++ _ = _; rw [e2]
 refine ⟨fun i hi => ?_, ?_, ?_, ?_, ?_, ?_⟩
 · rcases Nat.lt_or_ge i j with q | q
   · exact h.go i q
   · have : i = j := by omega
     rw [this]; exact hm
 · rw [e3]; show ((runN s n j).row.eraseIdx 0).length + (j + 1) = _; have := h.len; have := (List.getElem?_eq_some_iff.1 hr).1; rw [List.length_eraseIdx_of_lt this]; omega
 · rw [e3]; show (runN s n j).S + 1 = _; have := h.sS; omega
 · rw [e3]; intro x hx; rcases List.mem_append.1 hx with hx | hx
   · have := h.up x hx; omega
   · simp at hx; rw [hx]; show n + j < n + (j + 1); omega
 · rw [e4, List.length_append]; have := h.ul; have h9 := (missI_len (begF (runN s n j) (n + j) k xs).told (begF (runN s n j) (n + j) k xs).T.length).1; have h8 : (usF (runN s n j).ep (begF (runN s n j) (n + j) k xs)).length = (missI (begF (runN s n j) (n + j) k xs).told (begF (runN s n j) (n + j) k xs).T.length).length := by simp [usF]
   omega
 · rw [e3]; exact h.ep
section
variable {w w' : World} {P : Fp} {s : Fs} {W W' : List Wh.Tm}
theorem fmay_t (h : FSw w P s W) (z : Nat) [Decidable (mayB s z)] : Calls Tryz.prog 41 #[.pointer (some ⟨P.p, 0, none⟩), .int .u64 (z : Int)] w fun e w' => e = .returned (.bool (decide (mayB s z))) ∧ Below w.heap.size w w' := by
 by_cases h0 : 0 < s.row.length
 · by_cases h1 : s.L.length < s.win
   · refine (fmay_2 h z h0 h1).mono ?_; rintro e u ⟨rfl, hu⟩; refine ⟨?_, hu⟩
     have : decide (1 ≤ z ∧ z ≤ mxX) = decide (mayB s z) := by
      apply decide_eq_decide.2; unfold mayB; exact ⟨fun q => ⟨h0, h1, q⟩, fun q => q.2.2⟩
     rw [this]
   · refine (fmay_1 h z h0 (by omega)).mono ?_; rintro e u ⟨rfl, hu⟩; exact ⟨by rw [decide_eq_false (fun q : mayB s z => h1 q.2.1)], hu⟩
 · refine (fmay_0 h z (by omega)).mono ?_; rintro e u ⟨rfl, hu⟩; exact ⟨by rw [decide_eq_false (fun q : mayB s z => h0 q.1)], hu⟩
structure RnAt (w0 wr : World) (P : Fp) (s : Fs) (W : List Wh.Tm) (n j : Nat) (v : Value) (P' : Fp) (D : List Dc) : Prop where
 st : FSw wr P' (runN s n j) (runW W s n j)
 rn : RunAt s n j
 us : URw wr w0.heap.size v D (runU s n j)
 stp : FStp w0 wr P P'
 far : ∀ b, v.ownBlock = some b ∨ XV D b → ¬ footF P' b
 pp : P'.p = P.p
structure RunOut (w w' : World) (P : Fp) (s : Fs) (W : List Wh.Tm) (n j : Nat) (v : Value) (P' : Fp) (D : List Dc) : Prop where
 is : RunIs s n j
 st : FSw w' P' (runN s n j) (runW W s n j)
 us : URw w' w.heap.size v D (runU s n j)
 stp : FStp w w' P P'
 far : ∀ b, v.ownBlock = some b ∨ XV D b → ¬ footF P' b
 pp : P'.p = P.p
 jl : j ≤ 64
set_option maxRecDepth 20000
set_option maxHeartbeats 3200000
theorem frun_t (h : FSw w P s W) (n now : Nat) (hn : 1 ≤ n ∧ n ≤ mxX) (hnu : ∀ x, x ∈ s.L → x.n < n) (hS : s.S + 64 < 18446744073709551615) (hW : W.length ≤ 4398046511000) :
 Calls Tryz.prog 13 #[.pointer (some ⟨P.p, 0, none⟩), .int .u64 (n : Int), .int .u64 (now : Int)] w fun e w' => ∃ (v : Value) (j : Nat) (P' : Fp) (D : List Dc), e = .returned (.tuple #[.int .i64 (j : Int), v]) ∧ RunOut w w' P { s with clk := max s.clk (min now mxX) } W n j v P' D := by
 classical
 have HM : Hid _ := fmade_t h
 have HI : Hid (∀ u, Calls Tryz.prog 31 #[.int .u64 (n : Int)] u fun e w' => e = .returned (.bool true) ∧ w' = u) := fun u => by
  have h9 := fisNumber_t n u; rw [decide_eq_true hn] at h9; exact h9
 have HP : Hid (Calls Tryz.prog 39 #[.pointer (some ⟨P.p, 0, none⟩), .int .u64 (n : Int)] w fun e w' => e = .returned (.bool false) ∧ Below w.heap.size w w') := by
  refine (fisPassed_t h n).mono ?_; rintro e u ⟨he, hu⟩; refine ⟨?_, hu⟩; rw [he]
  have h9 : s.L.any (fun x => decide (n ≤ x.n)) = false := by
   rw [List.any_eq_false]; intro x hx; have := hnu x hx; simp; omega
  rw [h9]
 have HG : Hid (∀ u, Below w.heap.size w u → Calls Tryz.prog 40 #[.pointer (some ⟨P.p, 0, none⟩), .int .u64 (now : Int)] u _) := fun u hu => fgoOn_t (h.below hu) now
 obtain ⟨s1, hs1⟩ : ∃ s1 : Fs, s1 = { s with clk := max s.clk (min now mxX) } := ⟨_, rfl⟩; have HS1 : Hid _ := hs1; have HNU : Hid (∀ x, x ∈ s1.L → x.n < n) := by unfold Hid; rw [hs1]; exact hnu
 have HSS : Hid (s1.S + 64 < 18446744073709551615) := by unfold Hid; rw [hs1]; exact hS
 have HWW : Hid _ := hW; have HNN : Hid _ := hn; have HR6 : Hid (s1.row.length ≤ 64) := by unfold Hid; rw [hs1]; have := h.inv.len; show s.row.length ≤ 64; omega
 rw [← hs1]; rw [← hs1] at HG; clear h hn hnu hS hW hs1; go_enter Tryz.func13, Tryz.ntmps13
 (go_wp2_with fail); refine Calls.mono HM.out ?_; rintro e9 u0 ⟨rfl, hq⟩; have hq := hq.symm; subst hq; (go_wp2_with fail); refine Calls.mono (HI.out _) ?_; rintro e9 u0 ⟨rfl, hq⟩; have hq := hq.symm; subst hq; (go_wp2_with fail); refine Calls.mono HP.out ?_; rintro e9 u1 ⟨rfl, hb1⟩; have HB1 : Hid _ := hb1; have HG1 : Hid _ := HG.out _ hb1; clear hb1; (go_wp2_with fail); refine Calls.mono HG1.out ?_; rintro e9 w0 ⟨rfl, hF0, hS0⟩; have HF0 : Hid (FSw w0 P s1 W) := hF0; have HST0 : Hid (FStp w w0 P P) := (FStp.below HB1.out P).trans hS0; clear hF0 hS0 HG1 HG HP HI HM; go_wp2; go_loopw [8, 9] (fun u8 u9 wr => ∃ (j : Nat) (P' : Fp) (D : List Dc), u9 = .int .u64 ((n + j : Nat) : Int) ∧ RnAt w0 wr P s1 W n j u8 P' D) (fun _ u9 _ => n + 64 - (intOf u9).toNat)
 case atStart => exact ⟨0, P, [], rfl, ⟨HF0.out, RunAt.zero HNU.out, URw.nil _ _, FStp.below (bR _ _) P, (fun b hb => by rcases hb with hb | ⟨i, d, hb, -⟩; cases hb; simp at hb), rfl⟩⟩
 case round =>
  obtain ⟨j, P', D, rfl, hr⟩ := hrel; obtain ⟨m, hm⟩ : ∃ m, m = n + j := ⟨_, rfl⟩; rw [← hm]; have hmb := fmay_t hr.st m; rw [hr.pp] at hmb; have hj64 : (runN s1 n j).row.length + j ≤ 64 := by rw [hr.rn.len]; exact HR6.out
  by_cases hgo : mayB (runN s1 n j) m
  · rw [decide_eq_true hgo] at hmb; have HMB : Hid _ := hmb; have HGO : Hid (mayB (runN s1 n j) (n + j)) := by rw [← hm]; exact hgo
    obtain ⟨k, xs, hrow⟩ : ∃ k xs, (runN s1 n j).row[0]? = some (k, xs) := by
     have h9 := List.getElem?_eq_getElem hgo.1; exact ⟨_, _, h9⟩
    obtain ⟨e1, e2⟩ := stepF_cons (m := n + j) hrow; have hbk := hr.st.inv.blk _ (List.mem_of_getElem? hrow); have hsg := (segs_ok (m := (runN s1 n j).mtu) hr.st.inv.mt.1 hr.st.inv.mt.2 hbk.1 hbk.2).1; have hbg : ∀ u, Below wr.heap.size wr u → _ := fun u hu => fbegin_t (hr.st.below hu) hrow m hgo.2.2 (fun x hx => by rw [hm]; exact hr.rn.up x hx) hgo.2.1 (by have := hr.rn.sS; have := HSS.out; omega) (by have := runW_len W s1 n j; have := HWW.out; omega)
    rw [hr.pp] at hbg; have HBG : Hid _ := hbg; have HE1 : Hid (runN s1 n (j + 1) = _) := e1; have HE2 : Hid (runU s1 n (j + 1) = runU s1 n j ++ usF (runN s1 n j).ep (begF (runN s1 n j) m k xs)) := by rw [hm]; show _ ++ _ = _; rw [e2]
    have HR : Hid _ := hr; have HSG : Hid (1 ≤ (begF (runN s1 n j) m k xs).T.length ∧ (begF (runN s1 n j) m k xs).T.length ≤ 64) := hsg; have HRN : Hid (RunAt s1 n (j + 1)) := hr.rn.next HGO.out hrow hsg.2; have HM : Hid (m = n + j) := hm; have HJ : Hid (j < 64) := by have := hgo.1; unfold Hid; omega
    obtain ⟨m1, hm1⟩ : ∃ m1, m1 = m + 1 := ⟨_, rfl⟩; have hwr1 : IntKind.u64.wrap ((m : Int) + 1) = (m1 : Int) := by have h9 := hgo.2.2.2; unfold mxX at h9; rw [IntKind.wrap_u64]; omega
    have HM1 : Hid (m1 = m + 1) := hm1; clear hmb hgo e1 e2 hbk hsg hbg hr hrow hm hj64 hm1; (go_wp2_with fail); refine Calls.mono HMB.out ?_; rintro e9 u2 ⟨rfl, hb2⟩; have HB2 : Hid _ := hb2; have HBG2 : Hid _ := HBG.out u2 hb2; clear hb2; (go_wp2_with fail); refine Calls.mono HBG2.out ?_; rintro e9 u3 ⟨v3, ys, D3, P3, rfl, hms, hur, hF3, hS3, hfar3, hp3⟩; have hU3 : URw u3 u2.heap.size v3 D3 (usF (runN s1 n j).ep (begF (runN s1 n j) m k xs)) := UR.toRw (x := begF (runN s1 n j) m k xs) hur hms HSG.out.1; obtain ⟨m3, hm3⟩ : ∃ m3, m3 = (usF (runN s1 n j).ep (begF (runN s1 n j) m k xs)).length := ⟨_, rfl⟩; have hml := missI_len (begF (runN s1 n j) m k xs).told (begF (runN s1 n j) m k xs).T.length
    have hm3p : 0 < m3 ∧ m3 ≤ 65 := by
     have h8 : m3 = (missI (begF (runN s1 n j) m k xs).told (begF (runN s1 n j) m k xs).T.length).length := by rw [hm3]; simp [usF]
     have := HSG.out.2; omega
    obtain ⟨g3, c3, hv3, -, -, -, -⟩ := OwnG.one hU3.row (by rw [hU3.ulen]; omega); rw [hU3.ulen, ← hm3] at hv3; subst hv3
    have hrd3 : RdG KBf u3 (some ⟨g3, 0, none⟩) (List.zipWith (fun u d => (⟨u.ep, u.n, u.i, u.c, d⟩ : Bf)) (usF (runN s1 n j).ep (begF (runN s1 n j) m k xs)) D3) := by
     have h9 := hU3.row; rw [hm3, ← hU3.ulen] at h9; exact OwnG.rd h9
    have hsz2 := HB2.out.size
    have hold : ∀ b, u8.ownBlock = some b ∨ XV D b → w0.heap.size ≤ b ∧ b < u2.heap.size := fun b hb => by
     have := HR.out.us.lt hb; omega
    have hU8 : URw u3 w0.heap.size u8 D (runU s1 n j) := (HR.out.us.below HB2.out).kept (fun b hb => hS3.chg.block b (hold b hb).2 (HR.out.far b hb))
    have hfo : ∀ b, u8.ownBlock = some b ∨ XV D b → ¬ footF P3 b := fun b hb hf => by
     rcases hS3.new b hf with q | q
     · exact HR.out.far b hb q
     · have := (hold b hb).2; omega
    have hst3 : FStp w0 u3 P P3 := HR.out.stp.trans ((FStp.below HB2.out P').trans hS3)
    have hF3' : FSw u3 P3 (runN s1 n (j + 1)) (runW W s1 n (j + 1)) := by
     rw [HE1.out]; show FSw u3 P3 _ (Wh.setL (runW W s1 n j) (runN s1 n j).N (runN s1 n j).S ((n + j : Nat) : Int) ((runN s1 n j).clk + (runN s1 n j).rt)); rw [← HM.out]; exact hF3
    have HF3 : Hid _ := hF3'; have HST3 : Hid _ := hst3; have HU3 : Hid _ := hU3; have HU8 : Hid _ := hU8; have HRD3 : Hid _ := hrd3; have HFO : Hid _ := hfo; have HFA3 : Hid _ := hfar3; have HP3 : Hid (P3.p = P.p) := hp3; have HOL : Hid _ := hold; have HM3 : Hid _ := hm3; have HM3P : Hid _ := hm3p; obtain ⟨n8, hn8⟩ : ∃ n8, n8 = (runU s1 n j).length := ⟨_, rfl⟩; have HN8 : Hid (n8 = (List.zipWith (fun u d => (⟨u.ep, u.n, u.i, u.c, d⟩ : Bf)) (runU s1 n j) D).length) := by unfold Hid; rw [hU8.ulen]; exact hn8
    have HL8 : Hid (n8 ≤ 4160) := by have := HR.out.rn.ul; have := HJ.out; unfold Hid; omega
    obtain ⟨t8, ht8⟩ : ∃ t8, t8 = n8 + m3 := ⟨_, rfl⟩; have HT8 : Hid _ := ht8; have HZ3 : Hid (w0.heap.size ≤ u3.heap.size) := hst3.chg.size; have HZ2 : Hid (w0.heap.size ≤ u2.heap.size ∧ u2.heap.size ≤ u3.heap.size) := ⟨Nat.le_trans HR.out.stp.chg.size hsz2, hS3.chg.size⟩; clear hms hur hF3 hS3 hfar3 hp3 hU3 hm3 hml hm3p hrd3 hsz2 hold hU8 hfo hst3 hF3' hn8 ht8; go_wp2_with (at_builtin; refine wp_appGL (K := KBf) rfl _ _ rfl w0.heap.size u8 _ _ n8 m3 t8 HN8.out (by rw [HU3.out.ulen]; exact HM3.out) HM3P.out.1 HT8.out ⟨g3, 0, none⟩ c3 rfl HU8.out.row rfl HRD3.out (by show (n8 + m3) * 104 ≤ _; have := HL8.out; have := HM3P.out; omega) (by have := HL8.out; have := HM3P.out; simp only [maxLen]; omega) HZ3.out ?_; intro g7 c7 w7 hown7 hg7 hlie7; have HO7 : Hid _ := hown7; have HG7 : Hid _ := hg7; have HL7 : Hid _ := hlie7; clear hown7 hg7 hlie7)
    go_roundw
    case rel =>
     have hc7 : Chg (fun b => u8.ownBlock = some b) u3 w7 := Chg.of_grown HG7.out (fun b e => e); have hu3b : URw u3 w0.heap.size (.slice (some ⟨g3, 0, none⟩) m3 c3) D3 (usF (runN s1 n j).ep (begF (runN s1 n j) m k xs)) := ⟨OwnG.base HU3.out.row HZ2.out.1, HU3.out.len, ⟨HU3.out.fml.len, fun i d t h1 h2 => Own.base (HU3.out.fml.own i d t h1 h2) HZ2.out.1, HU3.out.fml.ap⟩⟩; refine ⟨j + 1, P3, D ++ D3, ?_, ⟨HF3.out.chg hc7 (fun b hb e => HFO.out b (.inl e) hb), HRN.out, ?_, ⟨HST3.out.chg.trans hc7 (fun b e => .inr (HOL.out b (.inl e)).1), HST3.out.new⟩, fun b hb hf => ?_, HP3.out⟩⟩
     · have := HM1.out; have := HM.out; show Value.int .u64 (m1 : Int) = Value.int .u64 ((n + (j + 1) : Nat) : Int); rw [show m1 = n + (j + 1) by omega]
     · rw [HE2.out]; refine HU8.out.app hu3b (fun b h1 h2 => ?_) HG7.out HO7.out; have q1 := (HOL.out b (.inr h1)).2; have q2 := (HU3.out.lt (.inr h2)).1; omega
     · rcases hb with hb | hb
       · have e : g7 = b := Option.some.inj hb; subst e; rcases HL7.out with q | q
         · exact HFO.out _ (.inl q) hf
         · have := HF3.out.lt hf; omega
       · rcases XV.app hb with q | q
         · exact HFO.out b (.inr q) hf
         · exact HFA3.out b (.inr q) hf
    case measure =>
     have := HM1.out; have := HM.out; have := HJ.out; simp [intOf]; omega
  · rw [decide_eq_false hgo] at hmb; have HMB : Hid _ := hmb; have HGO : Hid (¬ mayB (runN s1 n j) (n + j)) := by rw [← hm]; exact hgo
    have HR : Hid _ := hr; have hjl : j ≤ 64 := by omega
    have hsub : IntKind.u64.wrap ((m : Int) - (n : Int)) = (j : Int) := by rw [IntKind.wrap_u64]; omega
    have hcv : IntKind.i64.wrap (j : Int) = (j : Int) := by rw [IntKind.wrap_i64]; omega
    have HJL : Hid (j ≤ 64) := hjl; clear hmb hgo hr hm hj64 hjl; (go_wp2_with fail); refine Calls.mono HMB.out ?_; rintro e9 u2 ⟨rfl, hb2⟩; have HB2 : Hid _ := hb2; clear hb2; go_wp2; refine bodyPost_ret (v := .tuple #[.int .i64 (j : Int), u8]) (by simp [results, Tryz.results13, go_sem]) rfl ?_
    have hr := HR.out; have hst := HST0.out.trans (hr.stp.trans (FStp.below HB2.out P')); have hsz := HST0.out.chg.size; have hu := hr.us.below HB2.out; exact ⟨u8, j, P', D, rfl, ⟨⟨hr.rn.go, HGO.out⟩, hr.st.below HB2.out, ⟨OwnG.base hu.row hsz, hu.len, ⟨hu.fml.len, fun i d t h1 h2 => Own.base (hu.fml.own i d t h1 h2) hsz, hu.fml.ap⟩⟩, hst, hr.far, hr.pp, HJL.out⟩⟩
end
open Go.RowKit Go.Maps
section
variable {w w' : World} {P : Fp} {s : Fs} {W W' : List Wh.Tm}
set_option maxRecDepth 20000
set_option maxHeartbeats 3200000
theorem fstop_row (h : FSw w P s W) (kk : Fk) (h1 : kk ∉ s.L.map Fe.k) (h2 : kk ∈ s.row.map Prod.fst) :
 Calls Tryz.prog 57 #[.pointer (some ⟨P.p, 0, none⟩), fv kk] w fun e w' => e = .returned (.tuple #[.int .u64 0, .bool true]) ∧ ∃ (i : Nat) (rv' : Value), (∃ xs, s.row[i]? = some (kk, xs)) ∧ FSw w' { P with rv := rv', R := P.R.eraseIdx i } { s with row := s.row.eraseIdx i } W ∧ FStp w w' P { P with rv := rv', R := P.R.eraseIdx i } := by
 obtain ⟨s1, s2⟩ := kk; obtain ⟨w1, hw1⟩ : ∃ w1, w1 = w.alloc (.cells #[.int .i64 s1, .int .u64 (s2 : Int)] tFk) := ⟨_, rfl⟩; have hb1 : Below w.heap.size w w1 := by rw [hw1]; exact alw (bR _ _) _
 have hbx : w1.heap[w.heap.size]? = some (.cells #[.int .i64 s1, .int .u64 (s2 : Int)] tFk (0, 0)) := by rw [hw1]; exact heap_alloc_new w _
 have hcc : ∀ u, Below w1.heap.size w1 u → u.cell? ⟨w.heap.size, 0, none⟩ = some (.int .i64 s1) ∧ u.cell? ⟨w.heap.size, 1, none⟩ = some (.int .u64 (s2 : Int)) := fun u hu => by
  have h9 := (hu.block _ (sI hbx).1).trans hbx; exact ⟨by rw [cR h9]; rfl, by rw [cR h9]; rfl⟩
 have hc0 := (hcc _ (bR _ _)).1; have hc1 := (hcc _ (bR _ _)).2; have HCC : Hid _ := hcc; have HM : Hid _ := fmade_t (h.below hb1)
 have HN : Hid (Calls Tryz.prog 36 #[.pointer (some ⟨P.p, 0, none⟩), fv (s1, s2)] w1 fun e w' => e = .returned (.int .u64 0) ∧ Below w1.heap.size w1 w') := Calls.mono (fnumberOf_t (h.below hb1) (s1, s2)) (fun e u hu => ⟨by
   rcases hu.1 with ⟨y, hy, hyk, he⟩ | ⟨-, he⟩
   · exact absurd (List.mem_map.2 ⟨y, hy, hyk⟩) h1
   · exact he, hu.2⟩)
 have HP : Hid (∀ u, Below w1.heap.size w1 u → Calls Tryz.prog 37 #[.pointer (some ⟨P.p, 0, none⟩), fv (s1, s2)] u fun e w' => (∃ i : Nat, (0 : Int) ≤ (i : Int) ∧ i < s.row.length ∧ (∃ xs, s.row[i]? = some ((s1, s2), xs)) ∧ e = .returned (.int .i64 (i : Int))) ∧ Below u.heap.size u w') := fun u hu => Calls.mono (fplaceOf_t ((h.below hb1).below hu) (s1, s2)) (fun e u' hu' => ⟨by
   rcases hu'.1 with ⟨j, hj, hjk, he⟩ | ⟨hno, -⟩
   · have hl : j < s.row.length := by rw [← h.rlen]; exact hj
     refine ⟨j, by omega, hl, ?_, he⟩; have e1 := congrArg (fun l => l[j]?) h.rk; simp only [List.getElem?_map, List.getElem?_eq_getElem hj, List.getElem?_eq_getElem hl, Option.map_some] at e1; rw [hjk] at e1; exact ⟨(s.row[j]).2, by rw [List.getElem?_eq_getElem hl, Option.some.inj e1]⟩
   · exact absurd (by rw [h.rk]; exact h2) hno, hu'.2⟩)
 have HLV : Hid (∀ u i, Below w1.heap.size w1 u → i < s.row.length → Calls _ _ _ u _) := fun u i hu hi => fleave_t ((h.below hb1).below hu) i hi
 have HB1 : Hid _ := hb1; have HW1 : Hid (w1 = _) := hw1; clear h h1 h2 hw1 hb1 hbx hcc; go_enter Tryz.func57, Tryz.ntmps57
 (go_wp2_with fail); rw [← HW1.out]; refine Calls.mono HM.out ?_; rintro e9 u ⟨rfl, hu⟩; have hu := hu.symm; subst hu; (go_wp2_with fail); refine Calls.mono HN.out ?_; rintro e9 u2 ⟨rfl, hb2⟩; have hd0 := (HCC.out _ hb2).1; have hd1 := (HCC.out _ hb2).2; have HP2 : Hid _ := HP.out _ hb2; have HB2 : Hid _ := hb2; clear hb2 hc0 hc1; (go_wp2_with fail); refine Calls.mono HP2.out ?_; rintro e9 u3 ⟨⟨i, hi0, hil, hix, rfl⟩, hb3⟩; have HB3 : Hid _ := below_next HB2.out hb3; have HL3 : Hid _ := HLV.out u3 i HB3.out hil; have HIX : Hid _ := hix; have hng : ¬ (i : Int) < 0 := by omega
 clear hb3 hd0 hd1 hil hix; (go_wp2_with fail); refine Calls.mono HL3.out ?_; rintro e9 u4 ⟨rfl, rv', hF4, hS4, -⟩; have HF4 : Hid _ := hF4; have HS4 : Hid _ := hS4; clear hF4 hS4; go_wp2; refine bodyPost_ret (v := .tuple #[.int .u64 0, .bool true]) (by simp [results, Tryz.results57, go_sem]) rfl ?_
 exact ⟨rfl, i, rv', HIX.out, HF4.out, (FStp.below (HB1.out.trans (HB3.out.mono HB1.out.size)) P).trans HS4.out⟩
end
open Go.RowKit Go.Maps
abbrev KNu6 : Kd Nat := { t := 23, ts := 52, k := 1, by_ := 8, f := fun n => [.int .u64 (n : Int)], z := .int .u64 0, hk := fun _ => rfl, h1 := (fun d u hu => by simp at hu; subst hu; rfl), hpos := by decide, ht := Tryz.underlying52, hi := by kernel_rfl, hz := rfl }
abbrev atN (ys : List Nat) (a : Nat) : Nat := (ys[a]?).getD 0
def SrtN (ys : List Nat) (i : Nat) : Prop := ∀ a b, a < b → b < i → atN ys a ≤ atN ys b
structure InsN (ys : List Nat) (i j : Nat) : Prop where
 ji : j ≤ i
 il : i < ys.length
 oth : ∀ a b, a < b → b ≤ i → a ≠ j → b ≠ j → atN ys a ≤ atN ys b
 me : ∀ b, j < b → b ≤ i → atN ys j ≤ atN ys b
theorem InsN.start {ys : List Nat} {i : Nat} (h : SrtN ys i) (hi : i < ys.length) : InsN ys i i := ⟨Nat.le_refl _, hi, fun a b hab hb _ hbi => h a b hab (by omega), fun b h1 h2 => by omega⟩
theorem InsN.stop0 {ys : List Nat} {i : Nat} (h : InsN ys i 0) : SrtN ys (i + 1) := fun a b hab hb => by
 by_cases ha : a = 0
 · rw [ha]; exact h.me b (by omega) (by omega)
 · exact h.oth a b hab (by omega) ha (by omega)
theorem InsN.stop {ys : List Nat} {i j : Nat} (h : InsN ys i j) (h0 : 0 < j) (hn : ¬ atN ys j < atN ys (j - 1)) : SrtN ys (i + 1) := fun a b hab hb => by
 have hji := h.ji
 by_cases ha : a = j
 · rw [ha]; exact h.me b (by omega) (by omega)
 · by_cases hbj : b = j
   · rw [hbj]
     by_cases ha1 : a = j - 1
     · rw [ha1]; omega
     · have := h.oth a (j - 1) (by omega) (by omega) ha (by omega); omega
   · exact h.oth a b hab (by omega) ha hbj
def swpN (ys : List Nat) (j : Nat) : List Nat := (ys.set j (atN ys (j - 1))).set (j - 1) (atN ys j)
theorem swpN_len (ys : List Nat) (j : Nat) : (swpN ys j).length = ys.length := by simp [swpN]
theorem swpN_at {ys : List Nat} {j : Nat} (h0 : 0 < j) (hl : j < ys.length) (a : Nat) : atN (swpN ys j) a = if a = j - 1 then atN ys j else if a = j then atN ys (j - 1) else atN ys a := by
 unfold atN swpN
 by_cases h1 : a = j - 1
 · rw [if_pos h1, h1, List.getElem?_set_self (by rw [List.length_set]; omega)]; rfl
 · rw [if_neg h1, List.getElem?_set_ne (fun e => h1 e.symm)]
   by_cases h2 : a = j
   · rw [if_pos h2, h2, List.getElem?_set_self hl]; rfl
   · rw [if_neg h2, List.getElem?_set_ne (fun e => h2 e.symm)]
theorem InsN.swap {ys : List Nat} {i j : Nat} (h : InsN ys i j) (h0 : 0 < j) (hn : atN ys j < atN ys (j - 1)) : InsN (swpN ys j) i (j - 1) := by
 have hji := h.ji; have hl : j < ys.length := Nat.lt_of_le_of_lt h.ji h.il; refine ⟨by omega, by rw [swpN_len]; exact h.il, fun a b hab hb ha hbj => ?_, fun b h1 h2 => ?_⟩
 · rw [swpN_at h0 hl, swpN_at h0 hl, if_neg ha, if_neg hbj]
   by_cases h3 : a = j
   · rw [if_pos h3, if_neg (by omega)]; exact h.oth (j - 1) b (by omega) hb (by omega) (by omega)
   · rw [if_neg h3]
     by_cases h4 : b = j
     · rw [if_pos h4]; exact h.oth a (j - 1) (by omega) (by omega) h3 (by omega)
     · rw [if_neg h4]; exact h.oth a b hab hb h3 h4
 · rw [swpN_at h0 hl, swpN_at h0 hl, if_pos rfl, if_neg (by omega)]
   by_cases h4 : b = j
   · rw [if_pos h4]; omega
   · rw [if_neg h4]; exact h.me b (by omega) h2
theorem swpN_perm {ys : List Nat} {j : Nat} (h0 : 0 < j) (hl : j < ys.length) : (swpN ys j).Perm ys := by
 obtain ⟨i, rfl⟩ : ∃ i, j = i + 1 := ⟨j - 1, by omega⟩
 have e1 : ys = ys.take i ++ (ys[i]'(by omega)) :: (ys[i + 1]'hl) :: ys.drop (i + 2) := by
  rw [← List.drop_eq_getElem_cons hl, ← List.drop_eq_getElem_cons (by omega), List.take_append_drop]
 have e2 : swpN ys (i + 1) = ys.take i ++ (ys[i + 1]'hl) :: (ys[i]'(by omega)) :: ys.drop (i + 2) := by
  apply List.ext_getElem?; intro a; unfold swpN atN; rw [List.getElem?_eq_getElem hl, List.getElem?_eq_getElem (show i + 1 - 1 < ys.length by omega)]; simp only [Nat.add_sub_cancel, Option.getD_some, List.getElem?_set, List.length_set, List.getElem?_append, List.length_take, List.getElem?_take, List.getElem?_cons, List.getElem?_drop]
  grind
 rw [e2]
 conv => rhs; rw [e1]
 exact (List.Perm.swap _ _ _).append_left _
theorem rdN6 {w : World} {B g cap n : Nat} {ys : List Nat} (h : OwnG KNu6 w B (.slice (some ⟨g, 0, none⟩) n cap) ys) (hn : n = ys.length) {a : Nat} (ha : a < n) : w.cell? ⟨g, a, none⟩ = some (.int .u64 (atN ys a : Int)) := by
 have h9 := OwnG.cell h hn a 0 (by omega) (by decide); simp only [Nat.mul_one, Nat.add_zero] at h9; rw [h9, show atN ys a = ys[a]'(by omega) from by unfold atN; rw [List.getElem?_eq_getElem (by omega)]; rfl]
 rfl
theorem setN6 {w : World} {B g cap n : Nat} {ys : List Nat} (h : OwnG KNu6 w B (.slice (some ⟨g, 0, none⟩) n cap) ys) (hn : n = ys.length) {a : Nat} (ha : a < n) (y : Nat) : OwnG KNu6 (w.setCell ⟨g, a, none⟩ (.int .u64 (y : Int))) B (.slice (some ⟨g, 0, none⟩) n cap) (ys.set a y) := by
 have h9 := OwnG.setc h hn a 0 (by omega) (by decide) y (.int .u64 (y : Int)) rfl; simp only [Nat.mul_one, Nat.add_zero] at h9; exact h9
section
set_option maxRecDepth 20000
set_option maxHeartbeats 1600000
theorem nan6_t (x : Int) (w : World) : Calls Tryz.prog 125 #[.int .u64 x] w fun e w' => e = .returned (.bool false) ∧ w' = w := by
 go_enter Tryz.func125, Tryz.ntmps125
 go_wp2; go_ret; exact ⟨by simp, rfl⟩
theorem less6_t (x y : Int) (w : World) : Calls Tryz.prog 132 #[.int .u64 x, .int .u64 y] w fun e w' => e = .returned (.bool (decide (x < y))) ∧ w' = w := by
 go_enter Tryz.func132, Tryz.ntmps132
 go_wp2_with (go_at_call 125; refine (nan6_t _ _).mono ?_; rintro e w' ⟨rfl, rfl⟩)
 go_ret; exact ⟨rfl, rfl⟩
theorem insert6_t {w : World} {B g n cap : Nat} {xs : List Nat} (h : OwnG KNu6 w B (.slice (some ⟨g, 0, none⟩) n cap) xs) (hn : n = xs.length) (hl : n ≤ 4096) :
 Calls Tryz.prog 126 #[.slice (some ⟨g, 0, none⟩) n cap, .int .i64 0, .int .i64 (n : Int)] w fun e w' => e = .returned (.tuple #[]) ∧ ∃ ys : List Nat, OwnG KNu6 w' B (.slice (some ⟨g, 0, none⟩) n cap) ys ∧ ys.Perm xs ∧ SrtN ys n ∧ w.grownBy w' (some g) := by
 have HH : Hid _ := h; have HN : Hid _ := hn; clear h hn; go_enter Tryz.func126, Tryz.ntmps126
 go_wp2; go_loopw [6] (fun u6 wr => ∃ (i : Nat) (ys : List Nat), u6 = .int .i64 (i : Int) ∧ 1 ≤ i ∧ OwnG KNu6 wr B (.slice (some ⟨g, 0, none⟩) n cap) ys ∧ ys.Perm xs ∧ SrtN ys i ∧ w.grownBy wr (some g) ∧ i ≤ n + 1) (fun u6 _ => n + 1 - (intOf u6).toNat)
 case atStart => exact ⟨1, xs, rfl, Nat.le_refl _, HH.out, List.Perm.refl _, (fun a b h1 h2 => by omega), ⟨rfl, rfl, rfl, Nat.le_refl _, fun _ _ _ => rfl⟩, by omega⟩
 case round =>
  obtain ⟨i, ys, rfl, hi1, hown, hpm, hsr, hg, hin⟩ := hrel
  by_cases hlt : i < n
  · have hltI : (i : Int) < (n : Int) := by omega
    have HLY : Hid (n = ys.length) := by unfold Hid; rw [HN.out]; exact hpm.length_eq.symm
    have HST : Hid (OwnG KNu6 wr B (.slice (some ⟨g, 0, none⟩) n cap) ys ∧ ys.Perm xs ∧ InsN ys i i ∧ w.grownBy wr (some g)) := ⟨hown, hpm, InsN.start hsr (by rw [← HLY.out]; exact hlt), hg⟩; clear hown hpm hsr hg; go_wp2; go_loopw [7] (fun u7 wq => ∃ (j : Nat) (zs : List Nat), u7 = .int .i64 (j : Int) ∧ OwnG KNu6 wq B (.slice (some ⟨g, 0, none⟩) n cap) zs ∧ zs.Perm xs ∧ InsN zs i j ∧ w.grownBy wq (some g)) (fun u7 _ => (intOf u7).toNat)
    case atStart => exact ⟨i, ys, rfl, HST.out⟩
    case round =>
     obtain ⟨j, zs, rfl, hown, hpm, hin2, hg⟩ := hrel; have HLZ : Hid (n = zs.length) := by unfold Hid; rw [HN.out]; exact hpm.length_eq.symm
     have hjn : j < n := by have := hin2.ji; omega
     have HST2 : Hid (OwnG KNu6 wr B (.slice (some ⟨g, 0, none⟩) n cap) zs ∧ zs.Perm xs ∧ InsN zs i j ∧ w.grownBy wr (some g)) := ⟨hown, hpm, hin2, hg⟩; clear hown hpm hin2 hg
     by_cases hj0 : 0 < j
     · have hjI : (0 : Int) < (j : Int) := by omega
       obtain ⟨q, hq⟩ : ∃ q, q = j - 1 := ⟨_, rfl⟩; have hwq : IntKind.i64.wrap ((j : Int) - 1) = (q : Int) := by rw [IntKind.wrap_i64]; omega
       obtain ⟨x, hx⟩ : ∃ x, x = atN zs j := ⟨_, rfl⟩; obtain ⟨y, hy⟩ : ∃ y, y = atN zs q := ⟨_, rfl⟩; have hjnI : (j : Int) < (n : Int) := by omega
       have hqnI : (q : Int) < (n : Int) := by omega
       have hq0 : (0 : Int) ≤ (q : Int) := by omega
       have hj00 : (0 : Int) ≤ (j : Int) := by omega
       have HRD : Hid (∀ u, Below wr.heap.size wr u → u.cell? ⟨g, j, none⟩ = some (.int .u64 (x : Int)) ∧ u.cell? ⟨g, q, none⟩ = some (.int .u64 (y : Int))) := fun u hu => by
        have h9 := OwnG.below HST2.out.1 hu; rw [hx, hy]; exact ⟨rdN6 h9 HLZ.out hjn, rdN6 h9 HLZ.out (by omega)⟩
       have HQ : Hid (q = j - 1) := hq; have HXY : Hid (x = atN zs j ∧ y = atN zs q) := ⟨hx, hy⟩; clear hq hx hy
       by_cases hxy : x < y
       · have HLS : Hid (∀ u, Calls Tryz.prog 132 #[.int .u64 (x : Int), .int .u64 (y : Int)] u fun e w' => e = .returned (.bool true) ∧ w' = u) := fun u => by
          have h9 := less6_t (x : Int) (y : Int) u; rw [decide_eq_true (by omega)] at h9; exact h9
         (go_wp2_with fail); refine wp_region_noPanic ?_; refine wp_region_held_drew (S := (fun u => Below wr.heap.size wr u)) (by kernel_rfl) (by first | exact (bR _ _).drew | assumption) (fun hHeld => ?_); refine tz 0 16 hHeld ?_; simp only [pS]; refine tz 1 17 hHeld ?_; simp only [pS]; refine tk 2 18 (v := .bool true) ?_ hHeld ?_
         · (intro w hSw; go_simp; try with_reducible rfl)
         simp only [pS]; refine tz 3 19 hHeld ?_; simp only [pS]; refine tz 4 20 hHeld ?_; simp only [pS]; refine tz 5 21 hHeld ?_; simp only [pS]; refine tz 6 22 hHeld ?_; simp only [pS]; refine tk 7 23 (v := .int .u64 (x : Int)) ?_ hHeld ?_
         · (intro w hSw; have hc9 := HRD.out _ hSw; go_simp; try with_reducible rfl)
         simp only [pS]; refine tz 8 24 hHeld ?_; simp only [pS]; refine tz 9 25 hHeld ?_; simp only [pS]; refine tk 10 26 (v := .int .i64 (q : Int)) ?_ hHeld ?_
         · (intro w hSw; go_simp; try with_reducible rfl)
         simp only [pS]; refine tz 11 27 hHeld ?_; simp only [pS]; refine tk 12 28 (v := .int .u64 (y : Int)) ?_ hHeld ?_
         · (intro w hSw; have hc9 := HRD.out _ hSw; go_simp; try with_reducible rfl)
         simp only [pS]; refine run_at (i := 13) rfl (by kernel_rfl) (by rfl) (fun K hK => ?_); simp only [gE]; go_simp
         (go_at_call 132; refine Calls.mono (HLS.out _) ?_; rintro e9 u9 ⟨rfl, hq9⟩; have hq9 := hq9.symm; subst hq9)
         (go_wp2_with fail); refine hK.out _ _ (by first | exact (bR _ _).drew | assumption) ?_; clear hK K; clear hHeld; intro hHeld; (try simp only [pS]); refine tz 14 30 hHeld ?_; simp only [pS]; refine wpAnyH_done (by kernel_rfl) ?_ _; refine NoPanic.normal ?_; clear hHeld; (go_wp2_with fail); have hcj := (HRD.out wr (bR _ _)).1; have hcq := (HRD.out wr (bR _ _)).2; have hfj : wr.frozen? ⟨g, j, none⟩ = false := OwnG.fz HST2.out.1 j; have hfq : wr.frozen? ⟨g, q, none⟩ = false := OwnG.fz HST2.out.1 q; have hne : ¬ j = q := by have := HQ.out; omega
         have hne2 : ¬ q = j := fun e => hne e.symm
         have HNX : Hid (∀ u, u = ((wr.setCell ⟨g, j, none⟩ (.int .u64 (y : Int))).setCell ⟨g, q, none⟩ (.int .u64 (x : Int))).drew.drew → OwnG KNu6 u B (.slice (some ⟨g, 0, none⟩) n cap) (swpN zs j) ∧ (swpN zs j).Perm xs ∧ InsN (swpN zs j) i q ∧ w.grownBy u (some g)) := fun u hu => by
          have e1 : swpN zs j = (zs.set j y).set q x := by rw [HXY.out.1, HXY.out.2, HQ.out]; rfl
          have h1 := setN6 HST2.out.1 HLZ.out hjn y; have h2 := setN6 h1 (by rw [List.length_set]; exact HLZ.out) (a := q) (by have := HQ.out; omega) x
          have h3 : OwnG KNu6 u B (.slice (some ⟨g, 0, none⟩) n cap) (swpN zs j) := by
           rw [hu, e1]; exact OwnG.below (OwnG.below h2 (bR _ _).drew) (bR _ _).drew
          have hlz : j < zs.length := by rw [← HLZ.out]; exact hjn
          refine ⟨h3, (swpN_perm hj0 hlz).trans HST2.out.2.1, ?_, ?_⟩
          · rw [HQ.out]; exact HST2.out.2.2.1.swap hj0 (by have h8 := HXY.out.1; have h9 := HXY.out.2; rw [HQ.out] at h9; omega)
          · rw [hu]; exact grow_trans HST2.out.2.2.2 (grow_trans (grow_trans (gset1 _ _ _ _) (gset1 _ _ _ _)) (grow_trans growK_drew growK_drew))
         go_region
         go_wp2; go_roundw
         case rel => exact ⟨q, swpN zs j, by first | rfl | (rw [hwq]), HNX.out _ rfl⟩
         case measure => have := HQ.out; simp [intOf]; omega
       · have HLS : Hid (∀ u, Calls Tryz.prog 132 #[.int .u64 (x : Int), .int .u64 (y : Int)] u fun e w' => e = .returned (.bool false) ∧ w' = u) := fun u => by
          have h9 := less6_t (x : Int) (y : Int) u; rw [decide_eq_false (by omega)] at h9; exact h9
         have HSR : Hid (SrtN zs (i + 1)) := HST2.out.2.2.1.stop hj0 (by have h8 := HXY.out.1; have h9 := HXY.out.2; rw [HQ.out] at h9; omega); (go_wp2_with fail); refine wp_region_noPanic ?_; refine wp_region_held_drew (S := (fun u => Below wr.heap.size wr u)) (by kernel_rfl) (by first | exact (bR _ _).drew | assumption) (fun hHeld => ?_); refine tz 0 16 hHeld ?_; simp only [pS]; refine tz 1 17 hHeld ?_; simp only [pS]; refine tk 2 18 (v := .bool true) ?_ hHeld ?_
         · (intro w hSw; go_simp; try with_reducible rfl)
         simp only [pS]; refine tz 3 19 hHeld ?_; simp only [pS]; refine tz 4 20 hHeld ?_; simp only [pS]; refine tz 5 21 hHeld ?_; simp only [pS]; refine tz 6 22 hHeld ?_; simp only [pS]; refine tk 7 23 (v := .int .u64 (x : Int)) ?_ hHeld ?_
         · (intro w hSw; have hc9 := HRD.out _ hSw; go_simp; try with_reducible rfl)
         simp only [pS]; refine tz 8 24 hHeld ?_; simp only [pS]; refine tz 9 25 hHeld ?_; simp only [pS]; refine tk 10 26 (v := .int .i64 (q : Int)) ?_ hHeld ?_
         · (intro w hSw; go_simp; try with_reducible rfl)
         simp only [pS]; refine tz 11 27 hHeld ?_; simp only [pS]; refine tk 12 28 (v := .int .u64 (y : Int)) ?_ hHeld ?_
         · (intro w hSw; have hc9 := HRD.out _ hSw; go_simp; try with_reducible rfl)
         simp only [pS]; refine run_at (i := 13) rfl (by kernel_rfl) (by rfl) (fun K hK => ?_); simp only [gE]; go_simp
         (go_at_call 132; refine Calls.mono (HLS.out _) ?_; rintro e9 u9 ⟨rfl, hq9⟩; have hq9 := hq9.symm; subst hq9)
         (go_wp2_with fail); refine hK.out _ _ (by first | exact (bR _ _).drew | assumption) ?_; clear hK K; clear hHeld; intro hHeld; (try simp only [pS]); refine tz 14 30 hHeld ?_; simp only [pS]; refine wpAnyH_done (by kernel_rfl) ?_ _; refine NoPanic.normal ?_; clear hHeld; go_wp2; exact ⟨⟨i + 1, zs, by rw [show ((i + 1 : Nat) : Int) = (i : Int) + 1 from by omega], by omega, OwnG.below HST2.out.1 (bR _ _).drew, HST2.out.2.1, HSR.out, grow_trans HST2.out.2.2.2 growK_drew, by omega⟩, by simp [intOf]; omega⟩
     · have hjI : ¬ (0 : Int) < (j : Int) := by omega
       have HSR : Hid (SrtN zs (i + 1)) := by
        have h9 := HST2.out.2.2.1; obtain rfl : j = 0 := by omega
        exact h9.stop0
       (go_wp2_with fail); refine wp_region_noPanic ?_; refine wp_region_held_drew (S := (fun u => Below wr.heap.size wr u)) (by kernel_rfl) (by first | exact (bR _ _).drew | assumption) (fun hHeld => ?_); refine tz 0 16 hHeld ?_; simp only [pS]; refine tz 1 17 hHeld ?_; simp only [pS]; refine tk 2 18 (v := .bool false) ?_ hHeld ?_
       · (intro w hSw; go_simp; try with_reducible rfl)
       simp only [pS]; refine tz 3 19 hHeld ?_; simp only [pS]; refine qS 4 20 hHeld ?_; simp only [pS]; refine qS 5 21 hHeld ?_; simp only [pS]; refine qS 6 22 hHeld ?_; simp only [pS]; refine qS 7 23 hHeld ?_; simp only [pS]; refine qS 8 24 hHeld ?_; simp only [pS]; refine qS 9 25 hHeld ?_; simp only [pS]; refine qS 10 26 hHeld ?_; simp only [pS]; refine qS 11 27 hHeld ?_; simp only [pS]; refine qS 12 28 hHeld ?_; simp only [pS]; refine qS 13 29 hHeld ?_; simp only [pS]; refine tk 14 30 (v := .bool false) ?_ hHeld ?_
       · (intro w hSw; go_simp; try with_reducible rfl)
       simp only [pS]; refine wpAnyH_done (by kernel_rfl) ?_ _; refine NoPanic.normal ?_; clear hHeld; go_wp2; exact ⟨⟨i + 1, zs, by rw [show ((i + 1 : Nat) : Int) = (i : Int) + 1 from by omega], by omega, OwnG.below HST2.out.1 (bR _ _).drew, HST2.out.2.1, HSR.out, grow_trans HST2.out.2.2.2 growK_drew, by omega⟩, by simp [intOf]; omega⟩
  · have hltI : ¬ (i : Int) < (n : Int) := by omega
    have HO : Hid _ := hown; have HP : Hid _ := hpm; have HS : Hid (SrtN ys n) := fun a b h1 h2 => hsr a b h1 (by omega)
    have HG : Hid _ := hg; clear hown hpm hsr hg; go_wp2; go_end0; exact ⟨rfl, ys, HO.out, HP.out, HS.out, HG.out⟩
end
open Go.RowKit Go.Maps
section
set_option maxRecDepth 20000
set_option maxHeartbeats 1600000
theorem insert6_n (w : World) : Calls Tryz.prog 126 #[.slice none 0 0, .int .i64 0, .int .i64 0] w fun e w' => e = .returned (.tuple #[]) ∧ w' = w := by
 go_enter Tryz.func126, Tryz.ntmps126
 go_wp2; go_loopw [6] (fun u6 wr => u6 = .int .i64 1 ∧ wr = w) (fun _ _ => 0)
 case atStart => exact ⟨rfl, rfl⟩
 case round =>
  obtain ⟨rfl, rfl⟩ := hrel; go_wp2; go_end0; exact ⟨rfl, rfl⟩
theorem insert6_v {w : World} {B n : Nat} {v : Value} {xs : List Nat} (h : OwnG KNu6 w B v xs) (hn : n = xs.length) (hl : n ≤ 4096) :
 Calls Tryz.prog 126 #[v, .int .i64 0, .int .i64 (n : Int)] w fun e w' => e = .returned (.tuple #[]) ∧ ∃ ys : List Nat, OwnG KNu6 w' B v ys ∧ ys.Perm xs ∧ SrtN ys n ∧ w.grownBy w' v.ownBlock := by
 rcases Nat.eq_zero_or_pos n with h0 | h0
 · have hx : xs = [] := List.eq_nil_of_length_eq_zero (by omega); subst hx h0; rcases h.2 with ⟨rfl, -⟩ | ⟨g, cap, cur, rfl, hB, hg, h1, h2, -⟩
   · refine (insert6_n w).mono ?_; rintro e u ⟨rfl, rfl⟩; exact ⟨rfl, [], h, List.Perm.refl _, (fun a b h1 h2 => by omega), ⟨rfl, rfl, rfl, Nat.le_refl _, fun _ _ _ => rfl⟩⟩
   · exact insert6_t h hn hl
 · obtain ⟨g, c, rfl, -⟩ := OwnG.one h (by omega); rw [← hn] at h ⊢; exact insert6_t h hn hl
theorem pdq6_t {w : World} {B n : Nat} {a : Option Addr} {c : Nat} {xs : List Nat} (h : OwnG KNu6 w B (.slice a n c) xs) (hn : n = xs.length) (hl : n ≤ 12) (z : Int) :
 Calls Tryz.prog 109 #[.slice a n c, .int .i64 0, .int .i64 (n : Int), .int .i64 z] w fun e w' => e = .returned (.tuple #[]) ∧ ∃ ys : List Nat, OwnG KNu6 w' B (.slice a n c) ys ∧ ys.Perm xs ∧ SrtN ys n ∧ w.grownBy w' (Value.slice a n c).ownBlock := by
 have HI : Hid _ := insert6_v h hn (by omega); have hle : (n : Int) ≤ 12 := by omega
 have hwr : IntKind.i64.wrap ((n : Int) - 0) = (n : Int) := by rw [IntKind.wrap_i64]; omega
 clear h hn hl; go_enter Tryz.func109, Tryz.ntmps109
 go_wp2; go_loopw [1, 2] (fun u1 u2 wr => u1 = .int .i64 0 ∧ u2 = .int .i64 (n : Int) ∧ wr = w) (fun _ _ _ => 0)
 case atStart => exact ⟨rfl, rfl, rfl⟩
 case round =>
  obtain ⟨rfl, rfl, rfl⟩ := hrel; (go_wp2_with fail); refine Calls.mono HI.out ?_; rintro e9 u ⟨rfl, hys⟩; have HY : Hid _ := hys; clear hys; go_wp2; refine bodyPost_ret (results_none rfl _ _ _) rfl ?_; exact ⟨rfl, HY.out⟩
theorem len6_t (x : Nat) (hx : x ≤ 4096) (w : World) : Calls Tryz.prog 110 #[.int .u64 (x : Int)] w fun e w' => (∃ z : Int, e = .returned (.int .i64 z)) ∧ w' = w := by
 have HL : Hid _ := Wh.len64_i (x : Int) (by omega) (by omega) w; go_enter Tryz.func110, Tryz.ntmps110
 (go_wp2_with fail); refine Calls.mono HL.out ?_; rintro e9 u ⟨rfl, hu⟩; have hu := hu.symm; subst hu; go_wp2; go_ret; exact ⟨⟨_, rfl⟩, rfl⟩
theorem sort6_t {w : World} {B n : Nat} {a : Option Addr} {c : Nat} {xs : List Nat} (h : OwnG KNu6 w B (.slice a n c) xs) (hn : n = xs.length) (hl : n ≤ 12) :
 Calls Tryz.prog 76 #[.slice a n c] w fun e w' => e = .returned (.tuple #[]) ∧ ∃ ys : List Nat, OwnG KNu6 w' B (.slice a n c) ys ∧ ys.Perm xs ∧ SrtN ys n ∧ w.grownBy w' (Value.slice a n c).ownBlock := by
 have HI : Hid _ := pdq6_t h hn hl; have HL : Hid _ := len6_t n (by omega) w; have hcv : IntKind.u64.wrap (n : Int) = (n : Int) := by rw [IntKind.wrap_u64]; omega
 clear h hn hl; go_enter Tryz.func76, Tryz.ntmps76
 (go_wp2_with fail); refine Calls.mono HL.out ?_; rintro e9 u ⟨⟨z, rfl⟩, hu⟩; have hu := hu.symm; subst hu; (go_wp2_with fail); refine Calls.mono (HI.out z) ?_; rintro e9 u ⟨rfl, hys⟩; have HY : Hid _ := hys; clear hys; go_wp2; go_end0; exact ⟨rfl, HY.out⟩
theorem srtN_pair {ys : List Nat} (h : SrtN ys ys.length) : ys.Pairwise (fun a b => a ≤ b) := by
 rw [List.pairwise_iff_getElem]; intro i j hi hj hij; have h9 := h i j hij hj; unfold atN at h9; rw [List.getElem?_eq_getElem hi, List.getElem?_eq_getElem hj] at h9; exact h9
theorem sorted6 {xs ys zs : List Nat} (hp : ys.Perm xs) (hs : SrtN ys xs.length) (hz : zs.Pairwise (fun a b => a < b)) (hm : ∀ i, i ∈ xs ↔ i ∈ zs) (hd : xs.Nodup) : ys = zs := by
 have h1 : ys.Pairwise (fun a b => a ≤ b) := srtN_pair (by rw [hp.length_eq]; exact hs); have h2 : ys.Nodup := hp.nodup_iff.2 hd; refine sortedN_uniq ?_ hz (fun i => (hp.mem_iff).trans (hm i)); refine (h1.and (List.nodup_iff_pairwise_ne.1 h2)).imp ?_; rintro a b ⟨q1, q2⟩; omega
end
open Go.RowKit Go.Maps
abbrev KZf : Kd Int := { t := 3, ts := 143, k := 1, by_ := 8, f := fun z => [.int .i64 z], z := .int .i64 0, hk := fun _ => rfl, h1 := (fun d u hu => by simp at hu; subst hu; rfl), hpos := by decide, ht := Tryz.underlying143, hi := by kernel_rfl, hz := rfl }
theorem flatZf (zs : List Int) : KZf.flat zs = zs.map (fun z => .int .i64 z) := by
 unfold Kd.flat
 induction zs with
 | nil => rfl
 | cons a r ih => rw [List.flatMap_cons, ih]; rfl
theorem ownZf {w : World} {B : Nat} {v : Value} {zs : List Int} (h : Wh.OwnZ w B v zs) : OwnG KZf w B v zs := by
 unfold OwnG; rw [flatZf]; exact h
theorem rdZf_at {w : World} {ao : Option Addr} {xs : List Int} (h : RdG KZf w ao xs) {j : Nat} (hj : j < xs.length) : ∃ b o, ao = some ⟨b, o, none⟩ ∧ b < w.heap.size ∧ w.cell? ⟨b, o + j, none⟩ = some (.int .i64 xs[j]) := by
 obtain ⟨b, o, h1, h2, cur, fr, h3⟩ := h j hj; have h9 := h2 0 (.int .i64 xs[j]) rfl; simp only [Nat.mul_one, Nat.add_zero] at h9; exact ⟨b, o, h1, (sI h3).1, h9⟩
structure FTi (s : Fs) (W : List Wh.Tm) : Prop where
 pm : W.Perm (tmsF s.L)
 at_ : ∀ x, x ∈ s.L → x.at_ = x.due ∨ (x.at_ = mxX + 1 ∧ x.due = mxX)
 dm : ∀ x, x ∈ s.L → x.due ≤ mxX
def dueF (s : Fs) : List Fe := s.L.filter (fun x => decide (x.due ≤ s.clk))
theorem dueF_all {s : Fs} {W : List Wh.Tm} (h : FTi s W) (hc : s.clk = mxX) : dueF s = s.L := by
 unfold dueF; rw [List.filter_eq_self]; intro x hx; have := h.dm x hx; simp only [decide_eq_true_eq]; omega
theorem dueF_up {s : Fs} (h : FInv s) : ((dueF s).map Fe.n).Pairwise (fun a b => a < b) := by
 rw [List.pairwise_map]; exact h.up.sublist List.filter_sublist
theorem dueF_wh {s : Fs} {W : List Wh.Tm} (hi : FInv s) (h : FTi s W) (hc : s.clk ≠ mxX) {D : List Wh.Tm} (hn : ∀ t, t ∈ D ↔ t ∈ W ∧ t.at_ ≤ s.clk) (hd : D.Nodup) : ∃ ns : List Nat, D.map Wh.Tm.id = ns.map (fun n : Nat => (n : Int)) ∧ ns.Nodup ∧ (∀ i, i ∈ ns ↔ i ∈ (dueF s).map Fe.n) ∧ (∀ i, i ∈ ns → i ≤ mxX) := by
 have h3 := hi.c
 have hm : ∀ t, t ∈ D ↔ ∃ x, x ∈ s.L ∧ x.due ≤ s.clk ∧ t = ⟨(x.n : Int), x.at_, x.sq⟩ := fun t => by
  rw [hn, h.pm.mem_iff]; unfold tmsF; rw [List.mem_map]; constructor
  · rintro ⟨⟨x, hx, rfl⟩, h9⟩; have := h.at_ x hx; exact ⟨x, hx, by have h9 : x.at_ ≤ s.clk := h9; omega, rfl⟩
  · rintro ⟨x, hx, h9, rfl⟩; have := h.at_ x hx; exact ⟨⟨x, hx, rfl⟩, by show x.at_ ≤ s.clk; omega⟩
 refine ⟨D.map (fun t => t.id.toNat), ?_, ?_, fun i => ?_, fun i hi' => ?_⟩
 · rw [List.map_map]; apply List.map_congr_left; intro t ht; obtain ⟨x, hx, -, rfl⟩ := (hm t).1 ht; show (x.n : Int) = (((x.n : Int).toNat : Nat) : Int); omega
 · rw [List.nodup_iff_pairwise_ne, List.pairwise_map]; refine List.Pairwise.imp_of_mem ?_ (List.nodup_iff_pairwise_ne.1 hd); intro a b ha hb hne e; obtain ⟨x, hx, -, rfl⟩ := (hm a).1 ha; obtain ⟨y, hy, -, rfl⟩ := (hm b).1 hb; have e : (x.n : Int).toNat = (y.n : Int).toNat := e; have e2 : x.n = y.n := by omega
   apply hne; obtain ⟨i, hi1, rfl⟩ := List.getElem_of_mem hx; obtain ⟨j, hj1, rfl⟩ := List.getElem_of_mem hy; have hpw := List.pairwise_iff_getElem.1 hi.up
   have hij : i = j := by
    rcases Nat.lt_trichotomy i j with q | q | q
    · have := hpw i j hi1 hj1 q; omega
    · exact q
    · have := hpw j i hj1 hi1 q; omega
   subst hij
   rfl
 · rw [List.mem_map, List.mem_map]; constructor
   · rintro ⟨t, ht, rfl⟩; obtain ⟨x, hx, h9, rfl⟩ := (hm t).1 ht; exact ⟨x, List.mem_filter.2 ⟨hx, by simpa using h9⟩, by show x.n = (x.n : Int).toNat; omega⟩
   · rintro ⟨x, hx, rfl⟩; obtain ⟨hx1, hx2⟩ := List.mem_filter.1 hx; exact ⟨⟨(x.n : Int), x.at_, x.sq⟩, (hm _).2 ⟨x, hx1, by simpa using hx2, rfl⟩, by show (x.n : Int).toNat = x.n; omega⟩
 · obtain ⟨t, ht, rfl⟩ := List.mem_map.1 hi'; obtain ⟨x, hx, -, rfl⟩ := (hm t).1 ht; have := (hi.num x hx).2; show (x.n : Int).toNat ≤ mxX; omega
def InOrdF : Prop := ∀ (u : World) (P : Fp) (s : Fs) (W : List Wh.Tm), FSw u P s W → Calls Tryz.prog 46 #[.pointer (some ⟨P.p, 0, none⟩)] u fun e w' => ∃ v, e = .returned v ∧ OwnG KNu6 w' u.heap.size v (s.L.map Fe.n) ∧ Below u.heap.size u w'
structure DueF (w w' : World) (P : Fp) (s : Fs) (W : List Wh.Tm) (v : Value) (B : Nat) (V' : Nat → Nat → Value) (W' : List Wh.Tm) : Prop where
 row : OwnG KNu6 w' B v ((dueF s).map Fe.n)
 base : w.heap.size ≤ B
 low : ∀ b, footF { P with V := V' } b → b < B
 st : FSw w' { P with V := V' } { s with N := s.clk } W'
 wt : W' = W.filter (fun t => decide (s.clk < t.at_))
 stp : FStp w w' P { P with V := V' }
section
variable {w w' : World} {P : Fp} {s : Fs} {W W' : List Wh.Tm}
theorem FSw.ats (h : FSw w P s W) {t : Wh.Tm} (ht : t ∈ W) : s.N < t.at_ := by
 obtain ⟨F, X, -, -, ho⟩ := h.wh; exact (ho.ats t ht).1
set_option maxRecDepth 20000
set_option maxHeartbeats 3200000
theorem fdue_t (hio : InOrdF) (h : FSw w P s W) (hT : FTi s W) (ht : Wh.TabZ w) : Calls Tryz.prog 43 #[.pointer (some ⟨P.p, 0, none⟩)] w fun e w' => ∃ v B V' W', e = .returned v ∧ DueF w w' P s W v B V' W' := by
 have hclk : s.clk ≤ mxX := h.inv.c; have hwl : W.length = s.L.length := by rw [hT.pm.length_eq]; simp [tmsF]
 have hl8 : s.L.length ≤ 8 := Nat.le_trans h.inv.lw h.inv.wn.2
 have HADV : Hid (∀ u, u = w.drew → Calls Tryz.prog 75 #[.pointer (some ⟨P.pw, 0, none⟩), .int .u64 (s.clk : Int)] u fun e w' => ∃ (a : Option Addr) (n c : Nat) (D : List Wh.Tm) (V' : Nat → Nat → Value) (W' : List Wh.Tm), e = .returned (.slice a n c) ∧ n = D.length ∧ RdG KZf w' a (D.map Wh.Tm.id) ∧ (∀ t, t ∈ D ↔ t ∈ W ∧ t.at_ ≤ s.clk) ∧ D.Nodup ∧ FSw w' { P with V := V' } { s with N := s.clk } W' ∧ W' = W.filter (fun t => decide (s.clk < t.at_)) ∧ FStp w w' P { P with V := V' } ∧ n ≤ 8) := fun u hu => by
  subst hu; have hd := h.below (bR _ _).drew
  by_cases hc : s.N < s.clk
  · have hm : min s.clk Wh.mxN = s.clk := Nat.min_eq_left hclk; refine (Wh.advance_t hd.wh s.clk (by rw [hm]; exact hc) (by omega) (fun j hj => ht j hj)).mono ?_; rintro e w' ⟨v, D, V', rfl, hD, hown, hwt, hst⟩; rw [hm] at hD hwt; obtain ⟨a, c, hv, -, -, -, hrd⟩ := (ownZf hown).val; rw [List.length_map] at hv
    have hDL : D.length ≤ 8 := by
     refine Nat.le_trans (Wh.sub_len (Wh.sorted_nd hD.1) (L := W) (fun t h9 => ((hD.2 t).1 h9).1)) ?_; omega
    obtain ⟨h8, h9⟩ := hd.wheel hwt hst (Nat.le_refl _); exact ⟨a, D.length, c, D, V', _, by rw [hv], rfl, hrd, hD.2, Wh.sorted_nd hD.1, h8, rfl, (FStp.below (Below.refl w.heap.size w).drew P).trans h9, hDL⟩
  · have hN : s.N = s.clk := Nat.le_antisymm h.inv.nc (Nat.le_of_not_lt hc); refine (Wh.advance_no hd.wh s.clk (by have := Nat.min_le_left s.clk Wh.mxN; omega)).mono ?_; rintro e w' ⟨rfl, rfl⟩; have hat : ∀ t, t ∈ W → s.clk < t.at_ := fun t h9 => by rw [← hN]; exact h.ats h9
    have hW : W = W.filter (fun t => decide (s.clk < t.at_)) := by
     symm
     rw [List.filter_eq_self]; intro t h9
     simpa using hat t h9
    refine ⟨none, 0, 0, [], P.V, W, rfl, rfl, RdG.nil _ _, fun t => ⟨(fun q => by cases q), (fun q => by have := hat t q.1; omega)⟩, List.nodup_nil, ?_, hW, FStp.below (Below.refl w.heap.size w).drew P, by omega⟩; have e9 : ({ s with N := s.clk } : Fs) = s := congrArg (fun z => ({ s with N := z } : Fs)) hN.symm; rw [e9]; exact hd
 have hcl : ∀ u, Below w.heap.size w u → u.cell? ⟨P.p, 8, none⟩ = some (.pointer (some ⟨P.pw, 0, none⟩)) ∧ u.cell? ⟨P.p, 5, none⟩ = some (.int .u64 (s.clk : Int)) := fun u hu => ⟨(h.below hu).cell 8, (h.below hu).cell 5⟩
 have HINV : Hid _ := h.inv; have HT : Hid _ := hT; have HIO : Hid _ := hio; clear h ht hT hio hwl hl8; go_enter Tryz.func43, Tryz.ntmps43
 go_wp2; refine wp_region_noPanic ?_; refine wp_region_held_drew (S := (fun u => u.cell? ⟨P.p, 8, none⟩ = some (.pointer (some ⟨P.pw, 0, none⟩)) ∧ u.cell? ⟨P.p, 5, none⟩ = some (.int .u64 (s.clk : Int)))) (by kernel_rfl) (by first | exact hcl _ (bR _ _).drew | exact HC1.out | assumption) (fun hHeld => ?_); refine tz 0 7 hHeld ?_; simp only [pS]; refine tz 1 8 hHeld ?_; simp only [pS]; refine tz 2 9 hHeld ?_; simp only [pS]; refine tz 3 10 hHeld ?_; simp only [pS]; refine tz 4 11 hHeld ?_; simp only [pS]; refine tz 5 12 hHeld ?_; simp only [pS]; refine tz 6 13 hHeld ?_; simp only [pS]; refine tz 7 14 hHeld ?_; simp only [pS]; refine run_at (i := 8) rfl (by kernel_rfl) (by rfl) (fun K hK => ?_); simp only [gE]; go_simp
 (go_at_call 75; refine Calls.mono (HADV.out _ rfl) ?_; rintro e9 w1 ⟨a, n, c, D, V', W', rfl, hnD, hrd, hDm, hDn, hxs, hW, hstp, hn8⟩; have HND : Hid _ := hnD; have HRD : Hid _ := hrd; have HDM : Hid _ := hDm; have HDN : Hid _ := hDn; have HXS : Hid _ := hxs; have HW : Hid _ := hW; have HSTP : Hid _ := hstp; have HC1 : Hid (w1.cell? ⟨P.p, 8, none⟩ = some (.pointer (some ⟨P.pw, 0, none⟩)) ∧ w1.cell? ⟨P.p, 5, none⟩ = some (.int .u64 (s.clk : Int))) := ⟨hxs.cell 8, hxs.cell 5⟩; clear hnD hrd hDm hDn hxs hW hstp)
 (go_wp2_with fail); refine hK.out _ _ (by first | exact hcl _ (bR _ _).drew | exact HC1.out | assumption) ?_; clear hK K; clear hHeld; intro hHeld; (try simp only [pS]); refine tz 9 3 hHeld ?_; simp only [pS]; refine wpAnyH_done (by kernel_rfl) ?_ _; refine NoPanic.normal ?_; have HSZ : Hid (w.heap.size ≤ w1.heap.size) := HSTP.out.chg.size; have hc3 : w1.cell? ⟨P.p, 5, none⟩ = some (.int .u64 (s.clk : Int)) := HC1.out.2; clear hcl HADV
 by_cases hmx : s.clk = mxX
 · have hbq : ((s.clk : Int) == 281474976710655) = true := by rw [hmx]; rfl
   have HI : Hid _ := HIO.out w1 _ _ _ HXS.out; have HDA : Hid _ := dueF_all HT.out hmx; clear hmx; (go_wp2_with fail); refine Calls.mono HI.out ?_; rintro e w2 ⟨v, rfl, hown, hb2⟩; have HO : Hid _ := hown; have HB2 : Hid _ := hb2; clear hown hb2; go_wp2; go_ret; refine ⟨_, w1.heap.size, V', W', rfl, ⟨?_, HSZ.out, fun b hb => HXS.out.lt hb, HXS.out.below HB2.out, HW.out, HSTP.out.trans (FStp.below HB2.out _)⟩⟩; rw [HDA.out]; exact HO.out
 · have hbq : ((s.clk : Int) == 281474976710655) = false := by
    simp only [beq_eq_false_iff_ne]; intro e; apply hmx; unfold mxX; omega
   obtain ⟨ns, hns, hnd, hnm, hnx⟩ := dueF_wh HINV.out HT.out hmx HDM.out HDN.out
   have HLN : Hid (n = ns.length) := by
    unfold Hid; have e8 := congrArg List.length hns; simp only [List.length_map] at e8; rw [HND.out, e8]
   have HRN : Hid (RdG KZf w1 a (ns.map (fun n : Nat => (n : Int)))) := by rw [← hns]; exact HRD.out
   have HNX : Hid _ := hnx; have HNM : Hid _ := hnm; have HNN : Hid _ := hnd; clear hns hnd hnm hnx hmx; go_wp2; go_loopw [4, 25] (fun u j wr => ∃ k : Nat, k ≤ n ∧ j = .int .i64 (k : Int) ∧ OwnG KNu6 wr w1.heap.size u (ns.take k) ∧ Below w1.heap.size w1 wr) (fun _ j _ => n - (intOf j).toNat)
   case atStart => exact ⟨0, Nat.zero_le _, rfl, World.ownsRow_nil _ _ _ _, bR _ _⟩
   case round =>
    obtain ⟨k, hk, rfl, hown, hbw⟩ := hrel
    by_cases hlt : k < n
    · have hltI : (k : Int) < (n : Int) := by omega
      have hk0 : (0 : Int) ≤ (k : Int) := by omega
      have hkL : k < ns.length := by rw [← HLN.out]; exact hlt
      obtain ⟨x, hx⟩ : ∃ x, x = ns[k] := ⟨_, rfl⟩; have hxn : x ≤ mxX := HNX.out x (by rw [hx]; exact List.getElem_mem hkL); obtain ⟨b, o, rfl, hbl, hcx⟩ := rdZf_at (RdG.below HRN.out hbw) (j := k) (by rw [List.length_map]; exact hkL); have hcx' : wr.cell? ⟨b, o + k, none⟩ = some (.int .i64 (x : Int)) := by rw [hcx, List.getElem_map, ← hx]
      have hwr : IntKind.u64.wrap (x : Int) = (x : Int) := by unfold mxX at hxn; rw [IntKind.wrap_u64]; omega
      have HO : Hid (OwnG KNu6 (wr.alloc (.cells #[.int .u64 (x : Int)] 23)) w1.heap.size u4 (ns.take k)) := hown.below (alw (bR _ _) _)
      have HTK : Hid (ns.take k ++ [x] = ns.take (k + 1)) := by
       unfold Hid; rw [List.take_succ_eq_append_getElem hkL, ← hx]
      have HLK : Hid (k = (ns.take k).length) := by unfold Hid; rw [List.length_take]; omega
      have HBW : Hid _ := hbw; have HSZ2 : Hid (w1.heap.size ≤ wr.heap.size) := hbw.size; have HLT3 : Hid (∀ b, u4.ownBlock = some b → w1.heap.size ≤ b) := fun b hb => (hown.lt' hb).1
      clear hx hcx hown hkL hbw hbl hxn; go_wp2_with (at_builtin; refine wp_appG1 (K := KNu6) rfl _ _ rfl w1.heap.size u4 (ns.take k) x k HLK.out ⟨wr.heap.size, 0, none⟩ 1 rfl HO.out rfl (rdG_lit (K := KNu6) (heap_alloc_new _ _) rfl) (by show (k + 1) * 8 ≤ _; omega) (by simp only [maxLen]; omega) (by have := HSZ2.out; simp; omega) ?_; intro g7 c7 w7 hown7 hg7 hlie7; rw [HTK.out] at hown7; have HO7 : Hid _ := hown7; have HG7 : Hid _ := hg7; clear hown7 hg7 hlie7)
      go_roundw
      case rel =>
       refine ⟨k + 1, hlt, by go_num, HO7.out, (alw HBW.out _).grown HG7.out (by have := HSZ2.out; simp; omega) (fun j hj => HLT3.out j hj)⟩
      case measure => simp [intOf]; omega
    · have hltI : ¬ (k : Int) < (n : Int) := by omega
      have hkn : k = n := by omega
      have hown2 : OwnG KNu6 wr w1.heap.size u4 ns := by
       have h9 := hown; rw [hkn, HLN.out, List.take_of_length_le (Nat.le_refl _)] at h9; exact h9
      obtain ⟨a4, c4, hv4, -⟩ := hown2.val; rw [← HLN.out] at hv4; have hsrt := sort6_t (w := wr) (B := w1.heap.size) (n := n) (a := a4) (c := c4) (xs := ns) (by rw [← hv4]; exact hown2) HLN.out (by omega); rw [← hv4] at hsrt; have HSR : Hid _ := hsrt; have HV4 : Hid (∀ b, u4.ownBlock = some b → w1.heap.size ≤ b) := fun b hb => (hown2.lt' hb).1
      have HBW : Hid _ := hbw; clear hown hown2 hbw hsrt hv4; (go_wp2_with fail); refine Calls.mono HSR.out ?_; rintro e9 w8 ⟨rfl, ys, ho8, hp8, hs8, hg8⟩; have e10 : ys = (dueF s).map Fe.n := sorted6 hp8 (by rw [← HLN.out]; exact hs8) (dueF_up HINV.out) HNM.out HNN.out; rw [e10] at ho8; have hb8 : Below w1.heap.size w1 w8 := HBW.out.grown hg8 HBW.out.size (fun j hj => HV4.out j hj); have HO8 : Hid _ := ho8; have HB8 : Hid _ := hb8; clear ho8 hp8 hs8 hg8 e10 hb8; go_wp2; go_ret; refine ⟨_, w1.heap.size, V', W', rfl, ⟨HO8.out, HSZ.out, fun b hb => HXS.out.lt hb, HXS.out.below HB8.out, HW.out, HSTP.out.trans (FStp.below HB8.out _)⟩⟩
end
open Go.RowKit Go.Maps
def agF (s : Fs) (y : Fe) : Fe := { y with ag := y.ag + 1, due := min (s.clk + s.rt) mxX, at_ := max (min (s.clk + s.rt) mxX) (s.N + 1), sq := s.S + 1 }
structure TkS where
 s : Fs
 W : List Wh.Tm
 us : List Uu
 ks : List Fk
def tkAt (t : TkS) (i : Nat) (y : Fe) : TkS := if y.ag < t.s.rs then ⟨{ t.s with L := t.s.L.set i (agF t.s y), S := t.s.S + 1 }, Wh.setL t.W t.s.N t.s.S (y.n : Int) (t.s.clk + t.s.rt), t.us ++ usF t.s.ep y, t.ks⟩ else ⟨{ t.s with L := t.s.L.eraseIdx i }, t.W.filter (fun z => decide (z.id ≠ (y.n : Int))), t.us, t.ks ++ [y.k]⟩
def tkStep (t : TkS) (n : Nat) : TkS := match t.s.L[t.s.L.findIdx (fun x => x.n == n)]? with
 | none => t
 | some y => tkAt t (t.s.L.findIdx (fun x => x.n == n)) y
def tkRun (t : TkS) (ns : List Nat) : TkS := ns.foldl tkStep t
theorem tkRun_snoc (t : TkS) (ns : List Nat) (n : Nat) : tkRun t (ns ++ [n]) = tkStep (tkRun t ns) n := by simp [tkRun, List.foldl_append]
theorem find_n {L : List Fe} {n : Nat} (h : n ∈ L.map Fe.n) : ∃ y, L[L.findIdx (fun x => x.n == n)]? = some y ∧ y.n = n := by
 have h9 : L.findIdx (fun x => x.n == n) < L.length := by
  rw [List.findIdx_lt_length]; obtain ⟨x, hx, e⟩ := List.mem_map.1 h; exact ⟨x, hx, by simp [e]⟩
 refine ⟨_, List.getElem?_eq_getElem h9, ?_⟩; have := List.findIdx_getElem (w := h9)
 simpa using this
structure TkOk (t0 t : TkS) (rest : List Nat) (k : Nat) : Prop where
 wl : t.W.length ≤ t0.W.length + k
 sS : t.s.S ≤ t0.s.S + k
 ul : t.us.length ≤ k * 65
 kl : t.ks.length ≤ k
 td : ∀ x, x ∈ t.s.L → x.told.length ≤ 1000000
 rs : ∀ m, m ∈ rest → m ∈ t.s.L.map Fe.n
 rt : t.s.rs = t0.s.rs
theorem tkAt_ok {t0 t : TkS} {rest : List Nat} {k i : Nat} {y : Fe} (hi : FInv t.s) (h : TkOk t0 t (y.n :: rest) k) (hn : y.n ∉ rest) (hy : t.s.L[i]? = some y) : TkOk t0 (tkAt t i y) rest (k + 1) := by
 have hsg := (hi.seg y (List.mem_of_getElem? hy)).1.2; have hml := (missI_len y.told y.T.length).1; have hul : (usF t.s.ep y).length = (missI y.told y.T.length).length := by simp [usF]
 unfold tkAt
 by_cases hc : y.ag < t.s.rs
 · rw [if_pos hc]
   have hmem : ∀ x, x ∈ t.s.L.set i (agF t.s y) → x = agF t.s y ∨ x ∈ t.s.L := fun x hx => by
    obtain ⟨j, hj, rfl⟩ := List.getElem_of_mem hx; rcases set_at (List.getElem?_eq_getElem hj) with ⟨-, h9⟩ | ⟨-, h9⟩
    · exact .inl h9
    · exact .inr (List.mem_of_getElem? h9)
   refine ⟨?_, ?_, ?_, ?_, fun x hx => ?_, fun m hm => ?_, h.rt⟩
   · have := setL_len t.W t.s.N t.s.S (y.n : Int) (t.s.clk + t.s.rt); have := h.wl; show (Wh.setL _ _ _ _ _).length ≤ _; omega
   · have := h.sS; show t.s.S + 1 ≤ _; omega
   · have := h.ul; show (t.us ++ usF t.s.ep y).length ≤ _; rw [List.length_append]; omega
   · have := h.kl; show t.ks.length ≤ _; omega
   · rcases hmem x hx with rfl | h9
     · exact h.td y (List.mem_of_getElem? hy)
     · exact h.td x h9
   · show m ∈ (t.s.L.set i (agF t.s y)).map Fe.n; rw [map_set_same Fe.n i hy (by rfl)]; exact h.rs m (List.mem_cons_of_mem _ hm)
 · rw [if_neg hc]; refine ⟨?_, ?_, ?_, ?_, fun x hx => h.td x ((List.eraseIdx_sublist _ _).mem hx), fun m hm => ?_, h.rt⟩
   · have := List.length_filter_le (fun z : Wh.Tm => decide (z.id ≠ (y.n : Int))) t.W; have := h.wl; show (t.W.filter _).length ≤ _; omega
   · have := h.sS; show t.s.S ≤ _; omega
   · have := h.ul; show t.us.length ≤ _; omega
   · have := h.kl; show (t.ks ++ [y.k]).length ≤ _; rw [List.length_append]; show _ + 1 ≤ _; omega
   · show m ∈ (t.s.L.eraseIdx i).map Fe.n; obtain ⟨x, hx, e⟩ := List.mem_map.1 (h.rs m (List.mem_cons_of_mem _ hm)); have hne : x ≠ y := fun e9 => hn (by rw [← e9, e]; exact hm)
     rw [List.mem_map]; refine ⟨x, ?_, e⟩; rw [List.mem_eraseIdx_iff_getElem?]; obtain ⟨j, hj⟩ := List.mem_iff_getElem?.1 hx; refine ⟨j, fun e9 => ?_, hj⟩; rw [e9, hy] at hj; exact hne (Option.some.inj hj).symm
section
variable {w w' : World} {P : Fp} {s : Fs} {W W' : List Wh.Tm}
structure TkF (w1 wr : World) (P1 : Fp) (B : Nat) (vn : Value) (ns : List Nat) (t0 : TkS) (k : Nat) (u4 u5 : Value) (P' : Fp) (D : List Dc) : Prop where
 st : FSw wr P' (tkRun t0 (ns.take k)).s (tkRun t0 (ns.take k)).W
 ok : TkOk t0 (tkRun t0 (ns.take k)) (ns.drop k) k
 us : URw wr w1.heap.size u4 D (tkRun t0 (ns.take k)).us
 ks : OwnG KKy wr w1.heap.size u5 (tkRun t0 (ns.take k)).ks
 row : OwnG KNu6 wr B vn ns
 stp : FStp w1 wr P1 P'
 far : ∀ b, (u4.ownBlock = some b ∨ XV D b) ∨ u5.ownBlock = some b → ¬ footF P' b
 rfa : ∀ b, vn.ownBlock = some b → ¬ footF P' b ∧ b < w1.heap.size
 pp : P'.p = P1.p
end
open Go.RowKit Go.Maps
section
variable {w w' : World} {P : Fp} {s : Fs} {W W' : List Wh.Tm}
theorem rdN6_at {w : World} {B : Nat} {a : Option Addr} {n c : Nat} {ns : List Nat} (h : OwnG KNu6 w B (.slice a n c) ns) (hn : n = ns.length) {k : Nat} (hk : k < n) : ∃ g, a = some ⟨g, 0, none⟩ ∧ w.cell? ⟨g, k, none⟩ = some (.int .u64 (ns[k]'(by omega) : Int)) := by
 obtain ⟨g, c', e, -⟩ := OwnG.one h (by omega)
 injection e with e1 e2 e3
 subst e1; refine ⟨g, rfl, ?_⟩; have h9 := rdN6 h hn hk; rw [h9]; unfold atN; rw [List.getElem?_eq_getElem (by omega)]
 rfl
structure TickF (w w' : World) (P : Fp) (s : Fs) (W : List Wh.Tm) (v4 v5 : Value) (P' : Fp) (D : List Dc) : Prop where
 st : FSw w' P' (tkRun ⟨{ s with N := s.clk }, W.filter (fun t => decide (s.clk < t.at_)), [], []⟩ ((dueF s).map Fe.n)).s (tkRun ⟨{ s with N := s.clk }, W.filter (fun t => decide (s.clk < t.at_)), [], []⟩ ((dueF s).map Fe.n)).W
 us : URw w' w.heap.size v4 D (tkRun ⟨{ s with N := s.clk }, W.filter (fun t => decide (s.clk < t.at_)), [], []⟩ ((dueF s).map Fe.n)).us
 ks : OwnG KKy w' w.heap.size v5 (tkRun ⟨{ s with N := s.clk }, W.filter (fun t => decide (s.clk < t.at_)), [], []⟩ ((dueF s).map Fe.n)).ks
 stp : FStp w w' P P'
 far : ∀ b, (v4.ownBlock = some b ∨ XV D b) ∨ v5.ownBlock = some b → ¬ footF P' b
 pp : P'.p = P.p
set_option maxRecDepth 20000
set_option maxHeartbeats 3200000
theorem ftick_t (hio : InOrdF) (h : FSw w P s W) (hT : FTi s W) (hS : s.S + 64 < 18446744073709551615) (htd : ∀ x, x ∈ s.L → x.told.length ≤ 1000000) (ht : Wh.TabZ w) (hz : ¬ footF P 0) (x : Nat) :
 Calls Tryz.prog 14 #[.pointer (some ⟨P.p, 0, none⟩), .int .u64 (x : Int)] w fun e w' => ∃ v4 v5 P' D, e = .returned (.tuple #[v4, v5]) ∧ TickF w w' P { s with clk := max s.clk (min x mxX) } W v4 v5 P' D := by
 have HM : Hid _ := fmade_t h; have hg := fgoOn_t h x; have hz0 : 0 < w.heap.size := World.block_lt_of_cell? w _ (ht 0 (by decide)); have HTB : Hid (∀ u, FStp w u P P → Wh.TabZ u) := fun u hu j hj => (World.cell?_of_block (hu.chg.block 0 hz0 hz)).trans (ht j hj)
 obtain ⟨s1, hs1⟩ : ∃ s1 : Fs, s1 = { s with clk := max s.clk (min x mxX) } := ⟨_, rfl⟩; have HT1 : Hid (FTi s1 W) := by unfold Hid; rw [hs1]; exact ⟨hT.pm, hT.at_, hT.dm⟩
 have HTD : Hid (∀ x, x ∈ s1.L → x.told.length ≤ 1000000) := by unfold Hid; rw [hs1]; exact htd
 have HSS : Hid (s1.S + 64 < 18446744073709551615) := by unfold Hid; rw [hs1]; exact hS
 have HIO : Hid _ := hio; rw [← hs1] at hg ⊢; have HG : Hid _ := hg; clear h hT hS htd ht hz hz0 hs1 hg hio; go_enter Tryz.func14, Tryz.ntmps14
 (go_wp2_with fail); refine Calls.mono HM.out ?_; rintro e w2 ⟨rfl, hq⟩; have hq := hq.symm; subst hq; (go_wp2_with fail); refine Calls.mono HG.out ?_; rintro e w0 ⟨rfl, hx0, hst0⟩; have HX0 : Hid _ := hx0; have HST0 : Hid _ := hst0; have HD : Hid _ := fdue_t HIO.out hx0 HT1.out (HTB.out _ hst0); clear hx0 hst0; (go_wp2_with fail); refine Calls.mono HD.out ?_; rintro e w1 ⟨vn, B, V1, W1, rfl, hdo⟩; obtain ⟨ns, hns⟩ : ∃ ns, ns = (dueF s1).map Fe.n := ⟨_, rfl⟩; have hrow : OwnG KNu6 w1 B vn ns := by rw [hns]; exact hdo.row
 obtain ⟨a, c, hv, hlc, -, -, -⟩ := hrow.val; obtain ⟨n, hn⟩ : ∃ n, n = ns.length := ⟨_, rfl⟩
 have hn8 : n ≤ 8 := by
  rw [hn, hns, List.length_map]; exact Nat.le_trans (List.length_filter_le _ _) (Nat.le_trans HX0.out.inv.lw HX0.out.inv.wn.2)
 rw [← hn] at hv hlc; subst hv; obtain ⟨t0, ht0⟩ : ∃ t0 : TkS, t0 = ⟨{ s1 with N := s1.clk }, W1, [], []⟩ := ⟨_, rfl⟩; have HNS : Hid (ns = _) := hns; have HT0 : Hid (t0 = _) := ht0; have HN : Hid (n = ns.length) := hn; have HDO : Hid _ := hdo
 have HNU : Hid (ns.Nodup) := by
  have h9 := dueF_up HX0.out.inv; rw [← hns] at h9; exact List.nodup_iff_pairwise_ne.2 (h9.imp (fun q => Nat.ne_of_lt q))
 have HAT : Hid (TkF w1 w1 { P with V := V1 } B (.slice a n c) ns t0 0 (.slice none 0 0) (.slice none 0 0) { P with V := V1 } []) := by
  rw [ht0]; refine ⟨?_, ⟨Nat.le_refl _, Nat.le_refl _, Nat.zero_le _, Nat.zero_le _, ?_, ?_, rfl⟩, ?_, World.ownsRow_nil _ _ _ _, hrow, FStp.below (bR _ _) _, fun b hb => ?_, fun b hb => ⟨fun hf => ?_, (hrow.lt' hb).2⟩, rfl⟩
  · exact hdo.st
  · exact HTD.out
  · rw [List.drop_zero, hns]; intro m hm; exact (List.filter_sublist.map _).mem hm
  · exact URw.nil _ _
  · rcases hb with (hb | ⟨i, d, hb, -⟩) | hb
    · cases hb
    · simp at hb
    · cases hb
  · have := hdo.low b hf; have := (hrow.lt' hb).1; omega
 have HSB : Hid (t0.s.S + 64 < 18446744073709551615 ∧ t0.W.length ≤ 8) := by
  rw [ht0]; refine ⟨HSS.out, ?_⟩; show W1.length ≤ 8; rw [hdo.wt]; refine Nat.le_trans (List.length_filter_le _ _) ?_; rw [HT1.out.pm.length_eq]; simp only [tmsF, List.length_map]; exact Nat.le_trans HX0.out.inv.lw HX0.out.inv.wn.2
 clear hdo hns hrow hn ht0; go_wp2; go_loopw [4, 5, 18] (fun u4 u5 j wr => ∃ (k : Nat) (P' : Fp) (D : List Dc), k ≤ n ∧ j = .int .i64 (k : Int) ∧ TkF w1 wr { P with V := V1 } B (.slice a n c) ns t0 k u4 u5 P' D) (fun _ _ j _ => n - (intOf j).toNat)
 case atStart => exact ⟨0, _, [], Nat.zero_le _, rfl, HAT.out⟩
 case round =>
  obtain ⟨k, P', D, hk, rfl, htk⟩ := hrel
  by_cases hlt : k < n
  · have hltI : (k : Int) < (n : Int) := by omega
    have hk0 : (0 : Int) ≤ (k : Int) := by omega
    have hkL : k < ns.length := by rw [← HN.out]; exact hlt
    obtain ⟨g, rfl, hcx⟩ := rdN6_at htk.row HN.out hlt; obtain ⟨t, ht⟩ : ∃ t, t = tkRun t0 (ns.take k) := ⟨_, rfl⟩; have hdr : ns.drop k = ns[k] :: ns.drop (k + 1) := List.drop_eq_getElem_cons hkL; have hok := htk.ok; have hst := htk.st; have hus := htk.us; have hks := htk.ks; rw [← ht] at hok hst hus hks; rw [hdr] at hok; obtain ⟨y, hy, hyn⟩ := find_n (hok.rs _ List.mem_cons_self); obtain ⟨i, hi⟩ : ∃ i, i = t.s.L.findIdx (fun x => x.n == ns[k]) := ⟨_, rfl⟩
    have htn : tkRun t0 (ns.take (k + 1)) = tkAt t i y := by
     rw [List.take_succ_eq_append_getElem hkL, tkRun_snoc, ← ht, hi]; unfold tkStep; rw [hy]
    rw [← hi] at hy
    have hndk : y.n ∉ ns.drop (k + 1) := by
     rw [hyn]; have h9 : (ns.drop k).Nodup := HNU.out.sublist (List.drop_sublist _ _); rw [hdr, List.nodup_cons] at h9; exact h9.1
    rw [← hyn] at hok hcx; have hokn := tkAt_ok hst.inv hok hndk hy; have hiM : i < P'.M.length := by rw [hst.len]; exact (List.getElem?_eq_some_iff.1 hy).1
    obtain ⟨m, hm⟩ : ∃ m, P'.M[i]? = some m := ⟨_, List.getElem?_eq_getElem hiM⟩; have hyL := List.mem_of_getElem? hy; have hnum := hst.inv.num y hyL; have hnu : KSp.ok y.n := by show y.n < 18446744073709551616; have := hnum.2; unfold mxX at this; omega
    have hl1 : (Instr.lookup tMp (.map (some P'.ms)) (.int .u64 (y.n : Int)) false).run Tryz.prog wr = .ok (.pointer (some ⟨m.g, 0, none⟩)) wr := by
     have h9 := hst.mp.get uMp zMp (s := y.n) hnu; rw [gl_mpF i hst.len hst.inv.nn hy hm] at h9; exact h9
    obtain ⟨r, hr⟩ : ∃ r, r = t.s.rs := ⟨_, rfl⟩; have hc7 : wr.cell? ⟨P.p, 7, none⟩ = some (.map (some P'.ms)) := by have h9 := hst.cell 7; rw [htk.pp] at h9; exact h9
    have hc2 : wr.cell? ⟨P.p, 2, none⟩ = some (.int .i64 (r : Int)) := by have h9 := hst.cell 2; rw [htk.pp] at h9; rw [hr]; exact h9
    have HCC : Hid (∀ u, Below wr.heap.size wr u → u.cell? ⟨m.g, 4, none⟩ = some (.int .i64 (y.ag : Int)) ∧ u.cell? ⟨P.p, 2, none⟩ = some (.int .i64 (r : Int))) := fun u hu => by
     have h9 := hst.below hu; have h8 := (h9.se i y m hy hm).box; refine ⟨by rw [cR h8]; rfl, ?_⟩; have h7 := h9.cell 2; rw [htk.pp] at h7; rw [hr]; exact h7
    have HR : Hid (r = t.s.rs) := hr; have HTN : Hid _ := htn; have HOK : Hid _ := hokn; have HTK : Hid _ := htk; have HST : Hid _ := hst; have HUS : Hid _ := hus; have HKS : Hid _ := hks; have HYM : Hid (t.s.L[i]? = some y ∧ P'.M[i]? = some m) := ⟨hy, hm⟩; have HSG : Hid (1 ≤ y.T.length ∧ y.T.length ≤ 64) := (hst.inv.seg y hyL).1; have HTDY : Hid (y.told.length ≤ 1000000) := hok.td y hyL; have HSB2 : Hid (t.s.S < 18446744073709551615 ∧ t.W.length ≤ 4398046511104) := by have h8 := hok.sS; have h9 := hok.wl; have := HSB.out; exact ⟨by omega, by omega⟩
    have HUL : Hid (t.us.length ≤ k * 65) := hok.ul; have HKL : Hid (t.ks.length ≤ k) := hok.kl
    have HOLD : Hid (∀ b, (u4.ownBlock = some b ∨ XV D b) ∨ u5.ownBlock = some b → w1.heap.size ≤ b ∧ b < wr.heap.size) := fun b hb => by
     rcases hb with hb | hb
     · exact hus.lt hb
     · exact hks.lt' hb
    have HSZ1 : Hid (w1.heap.size ≤ wr.heap.size) := htk.stp.chg.size; have HPP : Hid (P'.p = P.p) := htk.pp; clear ht hdr hok hst hus hks hyn hi htn hndk hokn hiM hyL hnum hnu hr htk hy hm
    by_cases hr0 : 0 < r
    · have hr0I : (0 : Int) < (r : Int) := by omega
      by_cases hag : y.ag < r
      · have hagI : (y.ag : Int) < (r : Int) := by omega
        have HAG : Hid (y.ag < t.s.rs) := by rw [← HR.out]; exact hag
        have HSA : Hid _ := fsendAgain_t (w := wr.drew) (x' := agF t.s y) (HST.out.below (bR _ _).drew) HYM.out.1 HYM.out.2 rfl rfl rfl rfl rfl (by show y.ag + 1 ≤ t.s.rs; have := HAG.out; omega) HSB2.out.1 HSB2.out.2 HTDY.out; rw [HPP.out] at HSA; have HEQ : Hid (tkRun t0 (ns.take (k + 1)) = _) := HTN.out.trans (if_pos HAG.out); (go_wp2_with fail); refine wp_region_noPanic ?_; refine wp_region_held_drew (S := (fun u => Below wr.heap.size wr u)) (by kernel_rfl) (by first | exact (bR _ _).drew | assumption) (fun hHeld => ?_); refine tz 0 34 hHeld ?_; simp only [pS]; refine tz 1 35 hHeld ?_; simp only [pS]; refine tz 2 36 hHeld ?_; simp only [pS]; refine tk 3 37 (v := .int .i64 (y.ag : Int)) ?_ hHeld ?_
        · (intro w hSw; have hc9 := HCC.out _ hSw; go_simp; try with_reducible rfl)
        simp only [pS]; refine tz 4 38 hHeld ?_; simp only [pS]; refine tz 5 39 hHeld ?_; simp only [pS]; refine tz 6 40 hHeld ?_; simp only [pS]; refine tk 7 41 (v := .int .i64 (r : Int)) ?_ hHeld ?_
        · (intro w hSw; have hc9 := HCC.out _ hSw; go_simp; try with_reducible rfl)
        simp only [pS]; refine tk 8 42 (v := .bool true) ?_ hHeld ?_
        · (intro w hSw; go_simp; try with_reducible rfl)
        simp only [pS]; refine wpAnyH_done (by kernel_rfl) ?_ _; refine NoPanic.normal ?_; clear hHeld hl1 hc7 hc2 hcx; (go_wp2_with fail); refine Calls.mono HSA.out ?_; rintro e9 u3 ⟨v3, ys, D3, P3, rfl, hms, hur, hF3, hS3, hfar3, hp3, -, -⟩; have hms' : MissF y ys := hms; have hU3 : URw u3 wr.heap.size v3 D3 (usF t.s.ep y) := UR.toRw (x := y) hur hms' HSG.out.1; obtain ⟨m3, hm3⟩ : ∃ m3, m3 = (usF t.s.ep y).length := ⟨_, rfl⟩; have hml := missI_len y.told y.T.length
        have hm3p : 0 < m3 ∧ m3 ≤ 65 := by
         have h8 : m3 = (missI y.told y.T.length).length := by rw [hm3]; simp [usF]
         have := HSG.out.2; omega
        obtain ⟨g3, c3, hv3, -, -, -, -⟩ := OwnG.one hU3.row (by rw [hU3.ulen]; omega); rw [hU3.ulen, ← hm3] at hv3; subst hv3
        have hrd3 : RdG KBf u3 (some ⟨g3, 0, none⟩) (List.zipWith (fun u d => (⟨u.ep, u.n, u.i, u.c, d⟩ : Bf)) (usF t.s.ep y) D3) := by
         have h9 := hU3.row; rw [hm3, ← hU3.ulen] at h9; exact OwnG.rd h9
        have hst9 : FStp wr u3 P' P3 := (FStp.below (Below.refl wr.heap.size wr).drew P').trans hS3
        have hfo : ∀ b, (u4.ownBlock = some b ∨ XV D b) ∨ u5.ownBlock = some b → ¬ footF P3 b := fun b hb hf => by
         rcases hst9.new b hf with q | q
         · exact HTK.out.far b hb q
         · have := (HOLD.out b hb).2; omega
        have hU8 : URw u3 w1.heap.size u4 D t.us := HUS.out.kept (fun b hb => hst9.chg.block b (HOLD.out b (.inl hb)).2 (HTK.out.far b (.inl hb))); have hK8 : OwnG KKy u3 w1.heap.size u5 t.ks := OwnG.kept HKS.out (fun b hb => hst9.chg.block b (HOLD.out b (.inr hb)).2 (HTK.out.far b (.inr hb))); have hR8 : OwnG KNu6 u3 B (.slice (some ⟨g, 0, none⟩) n c) ns := HTK.out.row.kept (fun b hb => hst9.chg.block b (HTK.out.row.lt' hb).2 (HTK.out.rfa b hb).1)
        have hrf : ∀ b, (Value.slice (some ⟨g, 0, none⟩) n c).ownBlock = some b → ¬ footF P3 b ∧ b < w1.heap.size := fun b hb => ⟨fun hf => by
          rcases hst9.new b hf with q | q
          · exact (HTK.out.rfa b hb).1 q
          · have := (HTK.out.row.lt' hb).2; omega, (HTK.out.rfa b hb).2⟩
        have HF3 : Hid _ := hF3; have HST3 : Hid _ := HTK.out.stp.trans hst9; have HU3 : Hid _ := hU3; have HU8 : Hid _ := hU8; have HK8 : Hid _ := hK8; have HR8 : Hid _ := hR8; have HRF : Hid _ := hrf; have HRD3 : Hid _ := hrd3; have HFO : Hid _ := hfo; have HFA3 : Hid _ := hfar3; have HP3 : Hid (P3.p = P.p) := hp3; have HM3 : Hid _ := hm3; have HM3P : Hid _ := hm3p; obtain ⟨n8, hn8'⟩ : ∃ n8, n8 = t.us.length := ⟨_, rfl⟩; have HN8 : Hid (n8 = (List.zipWith (fun u d => (⟨u.ep, u.n, u.i, u.c, d⟩ : Bf)) t.us D).length) := by unfold Hid; rw [hU8.ulen]; exact hn8'
        have HL8 : Hid (n8 ≤ 4160) := by have := HUL.out; unfold Hid; omega
        obtain ⟨t8, ht8⟩ : ∃ t8, t8 = n8 + m3 := ⟨_, rfl⟩; have HT8 : Hid _ := ht8; have HZ3 : Hid (w1.heap.size ≤ u3.heap.size) := Nat.le_trans HSZ1.out hst9.chg.size; clear hms hms' hur hF3 hS3 hfar3 hp3 hU3 hm3 hml hm3p hrd3 hst9 hfo hU8 hK8 hR8 hrf hn8' ht8; go_wp2_with (at_builtin; refine wp_appGL (K := KBf) rfl _ _ rfl w1.heap.size u4 _ _ n8 m3 t8 HN8.out (by rw [HU3.out.ulen]; exact HM3.out) HM3P.out.1 HT8.out ⟨g3, 0, none⟩ c3 rfl HU8.out.row rfl HRD3.out (by show (n8 + m3) * 104 ≤ _; have := HL8.out; have := HM3P.out; omega) (by have := HL8.out; have := HM3P.out; simp only [maxLen]; omega) HZ3.out ?_; intro g7 c7 w7 hown7 hg7 hlie7; have HO7 : Hid _ := hown7; have HG7 : Hid _ := hg7; have HL7 : Hid _ := hlie7; clear hown7 hg7 hlie7)
        go_roundw
        case rel =>
         have hc7 : Chg (fun b => u4.ownBlock = some b) u3 w7 := Chg.of_grown HG7.out (fun b e => e); have hu3b : URw u3 w1.heap.size (.slice (some ⟨g3, 0, none⟩) m3 c3) D3 (usF t.s.ep y) := ⟨OwnG.base HU3.out.row HSZ1.out, HU3.out.len, ⟨HU3.out.fml.len, fun i d t h1 h2 => Own.base (HU3.out.fml.own i d t h1 h2) HSZ1.out, HU3.out.fml.ap⟩⟩; have hok := HOK.out; rw [← HTN.out] at hok; refine ⟨k + 1, P3, D ++ D3, hlt, by go_num, ⟨?_, hok, ?_, ?_, ?_, ⟨HST3.out.chg.trans hc7 (fun b e => .inr (HOLD.out b (.inl (.inl e))).1), HST3.out.new⟩, fun b hb hf => ?_, HRF.out, HP3.out⟩⟩
         · rw [HEQ.out]; exact HF3.out.chg hc7 (fun b hb e => HFO.out b (.inl (.inl e)) hb)
         · rw [HEQ.out]; refine HU8.out.app hu3b (fun b h1 h2 => ?_) HG7.out HO7.out; have q1 := (HOLD.out b (.inl (.inr h1))).2; have q2 := (HU3.out.lt (.inr h2)).1; omega
         · rw [HEQ.out]; refine OwnG.kept HK8.out (fun b hb => hc7.block b (OwnG.lt' HK8.out hb).2 (fun e => ?_)); obtain ⟨cur, q1⟩ := OwnG.at_ HK8.out hb; obtain ⟨cur2, q2⟩ := OwnG.at_ HU8.out.row e; rw [q1] at q2
           injection q2 with q2
           injection q2 with q2 q3
           exact absurd q3 (by decide)
         · refine OwnG.kept HR8.out (fun b hb => hc7.block b (OwnG.lt' HR8.out hb).2 (fun e => ?_)); have q1 := (HOLD.out b (.inl (.inl e))).1; have q2 := (HRF.out b hb).2; omega
         · rcases hb with (hb | hb) | hb
           · have e : g7 = b := Option.some.inj hb; subst e; rcases HL7.out with q | q
             · exact HFO.out _ (.inl (.inl q)) hf
             · have := HF3.out.lt hf; omega
           · rcases XV.app hb with q | q
             · exact HFO.out b (.inl (.inr q)) hf
             · exact HFA3.out b (.inr q) hf
           · exact HFO.out b (.inr hb) hf
        case measure => simp [intOf]; omega
      · have hagI : ¬ (y.ag : Int) < (r : Int) := by omega
        have HAG : Hid (¬ y.ag < t.s.rs) := by rw [← HR.out]; exact hag
        have HSA : Hid _ := fend_t (w := wr.drew) (HST.out.below (bR _ _).drew) HYM.out.1 HYM.out.2 HSB2.out.2; rw [HPP.out] at HSA; have HEQ : Hid (tkRun t0 (ns.take (k + 1)) = _) := HTN.out.trans (if_neg HAG.out); have HBW : Hid (Below wr.heap.size wr wr.drew) := (bR _ _).drew; (go_wp2_with fail); refine wp_region_noPanic ?_; refine wp_region_held_drew (S := (fun u => Below wr.heap.size wr u)) (by kernel_rfl) (by first | exact (bR _ _).drew | assumption) (fun hHeld => ?_); refine tz 0 34 hHeld ?_; simp only [pS]; refine tz 1 35 hHeld ?_; simp only [pS]; refine tz 2 36 hHeld ?_; simp only [pS]; refine tk 3 37 (v := .int .i64 (y.ag : Int)) ?_ hHeld ?_
        · (intro w hSw; have hc9 := HCC.out _ hSw; go_simp; try with_reducible rfl)
        simp only [pS]; refine tz 4 38 hHeld ?_; simp only [pS]; refine tz 5 39 hHeld ?_; simp only [pS]; refine tz 6 40 hHeld ?_; simp only [pS]; refine tk 7 41 (v := .int .i64 (r : Int)) ?_ hHeld ?_
        · (intro w hSw; have hc9 := HCC.out _ hSw; go_simp; try with_reducible rfl)
        simp only [pS]; refine tk 8 42 (v := .bool false) ?_ hHeld ?_
        · (intro w hSw; go_simp; try with_reducible rfl)
        simp only [pS]; refine wpAnyH_done (by kernel_rfl) ?_ _; refine NoPanic.normal ?_; clear hHeld hl1 hc7 hc2 hcx; (go_wp2_with fail); refine Calls.mono HSA.out ?_; rintro e9 w3 ⟨rfl, V3, hF3, hS3⟩; obtain ⟨P3, hP3⟩ : ∃ P3 : Fp, P3 = { P' with p := P.p, M := P'.M.eraseIdx i, V := V3 } := ⟨_, rfl⟩; have hp3 : P3.p = P.p := by rw [hP3]
        rw [← hP3] at hF3 hS3; have hst9 : FStp wr w3 P' P3 := (FStp.below HBW.out P').trans hS3
        have hfo : ∀ b, (u4.ownBlock = some b ∨ XV D b) ∨ u5.ownBlock = some b → ¬ footF P3 b := fun b hb hf => by
         rcases hst9.new b hf with q | q
         · exact HTK.out.far b hb q
         · have := (HOLD.out b hb).2; omega
        have hU8 : URw w3 w1.heap.size u4 D t.us := HUS.out.kept (fun b hb => hst9.chg.block b (HOLD.out b (.inl hb)).2 (HTK.out.far b (.inl hb))); have hK8 : OwnG KKy w3 w1.heap.size u5 t.ks := OwnG.kept HKS.out (fun b hb => hst9.chg.block b (HOLD.out b (.inr hb)).2 (HTK.out.far b (.inr hb))); have hR8 : OwnG KNu6 w3 B (.slice (some ⟨g, 0, none⟩) n c) ns := HTK.out.row.kept (fun b hb => hst9.chg.block b (HTK.out.row.lt' hb).2 (HTK.out.rfa b hb).1)
        have hrf : ∀ b, (Value.slice (some ⟨g, 0, none⟩) n c).ownBlock = some b → ¬ footF P3 b ∧ b < w1.heap.size := fun b hb => ⟨fun hf => by
          rcases hst9.new b hf with q | q
          · exact (HTK.out.rfa b hb).1 q
          · have := (HTK.out.row.lt' hb).2; omega, (HTK.out.rfa b hb).2⟩
        have HO : Hid (OwnG KKy (w3.alloc (.cells #[.int .i64 y.k.1, .int .u64 (y.k.2 : Int)] tFk)) w1.heap.size u5 t.ks) := OwnG.below hK8 (alw (bR _ _) _); have HF3 : Hid _ := hF3; have HST3 : Hid _ := HTK.out.stp.trans hst9; have HU8 : Hid _ := hU8; have HR8 : Hid _ := hR8; have HRF : Hid _ := hrf; have HFO : Hid _ := hfo; have HP3 : Hid (P3.p = P.p) := hp3; obtain ⟨n8, hn8'⟩ : ∃ n8, n8 = t.ks.length := ⟨_, rfl⟩; have HN8 : Hid _ := hn8'; have HL8 : Hid (n8 ≤ 8) := by have := HKL.out; unfold Hid; omega
        have HZ3 : Hid (w1.heap.size ≤ w3.heap.size) := Nat.le_trans HSZ1.out hst9.chg.size; clear hF3 hS3 hP3 hp3 hst9 hfo hU8 hK8 hR8 hrf hn8'; go_wp2_with (at_builtin; refine wp_appG1 (K := KKy) rfl _ _ rfl w1.heap.size u5 t.ks y.k n8 HN8.out ⟨w3.heap.size, 0, none⟩ 1 rfl HO.out rfl (rdF_new _ y.k _ rfl) (by show (n8 + 1) * 16 ≤ _; have := HL8.out; omega) (by have := HL8.out; simp only [maxLen]; omega) (by have := HZ3.out; simp; omega) ?_; intro g7 c7 w7 hown7 hg7 hlie7; have HO7 : Hid _ := hown7; have HG7 : Hid _ := hg7; have HL7 : Hid _ := hlie7; clear hown7 hg7 hlie7)
        go_roundw
        case rel =>
         have hb4 : Below w3.heap.size w3 (w3.alloc (.cells #[.int .i64 y.k.1, .int .u64 (y.k.2 : Int)] tFk)) := alw (bR _ _) _; have hc7 : Chg (fun b => u5.ownBlock = some b) w3 w7 := (Chg.of_below hb4).trans (Chg.of_grown HG7.out (F := fun b => u5.ownBlock = some b) (fun b e => e)) (fun b e => .inl e); have hok := HOK.out; rw [← HTN.out] at hok; refine ⟨k + 1, P3, D, hlt, by go_num, ⟨?_, hok, ?_, ?_, ?_, ⟨HST3.out.chg.trans hc7 (fun b e => .inr (HOLD.out b (.inr e)).1), HST3.out.new⟩, fun b hb hf => ?_, HRF.out, HP3.out⟩⟩
         · rw [HEQ.out]; exact HF3.out.chg hc7 (fun b hb e => HFO.out b (.inr e) hb)
         · rw [HEQ.out]; refine HU8.out.kept (fun b hb => hc7.block b (HU8.out.lt hb).2 (fun e => ?_)); obtain ⟨cur, q1⟩ := OwnG.at_ HO.out e; have hbl := (HU8.out.lt hb).2; rw [hb4.block b hbl] at q1; rcases hb with hb | hb
           · obtain ⟨cur2, q2⟩ := OwnG.at_ HU8.out.row hb; rw [q1] at q2
             injection q2 with q2
             injection q2 with q2 q3
             exact absurd q3 (by decide)
           · obtain ⟨C, q2⟩ := HU8.out.fml.ty hb; rw [q1] at q2
             injection q2 with q2
             injection q2 with q2 q3
             exact absurd q3 (by decide)
         · rw [HEQ.out]; exact HO7.out
         · refine OwnG.kept HR8.out (fun b hb => hc7.block b (OwnG.lt' HR8.out hb).2 (fun e => ?_)); have q1 := (HOLD.out b (.inr e)).1; have q2 := (HRF.out b hb).2; omega
         · rcases hb with hb | hb
           · exact HFO.out b (.inl hb) hf
           · have e : g7 = b := Option.some.inj hb; subst e; rcases HL7.out with q | q
             · exact HFO.out _ (.inr q) hf
             · have := HF3.out.lt hf; simp at q; omega
        case measure => simp [intOf]; omega
    · have hr0I : ¬ (0 : Int) < (r : Int) := by omega
      have HAG : Hid (¬ y.ag < t.s.rs) := by rw [← HR.out]; unfold Hid; omega
      have HSA : Hid _ := fend_t (w := wr) HST.out HYM.out.1 HYM.out.2 HSB2.out.2; rw [HPP.out] at HSA; have HEQ : Hid (tkRun t0 (ns.take (k + 1)) = _) := HTN.out.trans (if_neg HAG.out); have HBW : Hid (Below wr.heap.size wr wr) := bR _ _; (go_wp2_with fail); clear hl1 hc7 hc2 hcx; refine Calls.mono HSA.out ?_; rintro e9 w3 ⟨rfl, V3, hF3, hS3⟩; obtain ⟨P3, hP3⟩ : ∃ P3 : Fp, P3 = { P' with p := P.p, M := P'.M.eraseIdx i, V := V3 } := ⟨_, rfl⟩; have hp3 : P3.p = P.p := by rw [hP3]
      rw [← hP3] at hF3 hS3; have hst9 : FStp wr w3 P' P3 := (FStp.below HBW.out P').trans hS3
      have hfo : ∀ b, (u4.ownBlock = some b ∨ XV D b) ∨ u5.ownBlock = some b → ¬ footF P3 b := fun b hb hf => by
       rcases hst9.new b hf with q | q
       · exact HTK.out.far b hb q
       · have := (HOLD.out b hb).2; omega
      have hU8 : URw w3 w1.heap.size u4 D t.us := HUS.out.kept (fun b hb => hst9.chg.block b (HOLD.out b (.inl hb)).2 (HTK.out.far b (.inl hb))); have hK8 : OwnG KKy w3 w1.heap.size u5 t.ks := OwnG.kept HKS.out (fun b hb => hst9.chg.block b (HOLD.out b (.inr hb)).2 (HTK.out.far b (.inr hb))); have hR8 : OwnG KNu6 w3 B (.slice (some ⟨g, 0, none⟩) n c) ns := HTK.out.row.kept (fun b hb => hst9.chg.block b (HTK.out.row.lt' hb).2 (HTK.out.rfa b hb).1)
      have hrf : ∀ b, (Value.slice (some ⟨g, 0, none⟩) n c).ownBlock = some b → ¬ footF P3 b ∧ b < w1.heap.size := fun b hb => ⟨fun hf => by
        rcases hst9.new b hf with q | q
        · exact (HTK.out.rfa b hb).1 q
        · have := (HTK.out.row.lt' hb).2; omega, (HTK.out.rfa b hb).2⟩
      have HO : Hid (OwnG KKy (w3.alloc (.cells #[.int .i64 y.k.1, .int .u64 (y.k.2 : Int)] tFk)) w1.heap.size u5 t.ks) := OwnG.below hK8 (alw (bR _ _) _); have HF3 : Hid _ := hF3; have HST3 : Hid _ := HTK.out.stp.trans hst9; have HU8 : Hid _ := hU8; have HR8 : Hid _ := hR8; have HRF : Hid _ := hrf; have HFO : Hid _ := hfo; have HP3 : Hid (P3.p = P.p) := hp3; obtain ⟨n8, hn8'⟩ : ∃ n8, n8 = t.ks.length := ⟨_, rfl⟩; have HN8 : Hid _ := hn8'; have HL8 : Hid (n8 ≤ 8) := by have := HKL.out; unfold Hid; omega
      have HZ3 : Hid (w1.heap.size ≤ w3.heap.size) := Nat.le_trans HSZ1.out hst9.chg.size; clear hF3 hS3 hP3 hp3 hst9 hfo hU8 hK8 hR8 hrf hn8'; go_wp2_with (at_builtin; refine wp_appG1 (K := KKy) rfl _ _ rfl w1.heap.size u5 t.ks y.k n8 HN8.out ⟨w3.heap.size, 0, none⟩ 1 rfl HO.out rfl (rdF_new _ y.k _ rfl) (by show (n8 + 1) * 16 ≤ _; have := HL8.out; omega) (by have := HL8.out; simp only [maxLen]; omega) (by have := HZ3.out; simp; omega) ?_; intro g7 c7 w7 hown7 hg7 hlie7; have HO7 : Hid _ := hown7; have HG7 : Hid _ := hg7; have HL7 : Hid _ := hlie7; clear hown7 hg7 hlie7)
      go_roundw
      case rel =>
       have hb4 : Below w3.heap.size w3 (w3.alloc (.cells #[.int .i64 y.k.1, .int .u64 (y.k.2 : Int)] tFk)) := alw (bR _ _) _; have hc7 : Chg (fun b => u5.ownBlock = some b) w3 w7 := (Chg.of_below hb4).trans (Chg.of_grown HG7.out (F := fun b => u5.ownBlock = some b) (fun b e => e)) (fun b e => .inl e); have hok := HOK.out; rw [← HTN.out] at hok; refine ⟨k + 1, P3, D, hlt, by go_num, ⟨?_, hok, ?_, ?_, ?_, ⟨HST3.out.chg.trans hc7 (fun b e => .inr (HOLD.out b (.inr e)).1), HST3.out.new⟩, fun b hb hf => ?_, HRF.out, HP3.out⟩⟩
       · rw [HEQ.out]; exact HF3.out.chg hc7 (fun b hb e => HFO.out b (.inr e) hb)
       · rw [HEQ.out]; refine HU8.out.kept (fun b hb => hc7.block b (HU8.out.lt hb).2 (fun e => ?_)); obtain ⟨cur, q1⟩ := OwnG.at_ HO.out e; have hbl := (HU8.out.lt hb).2; rw [hb4.block b hbl] at q1; rcases hb with hb | hb
         · obtain ⟨cur2, q2⟩ := OwnG.at_ HU8.out.row hb; rw [q1] at q2
           injection q2 with q2
           injection q2 with q2 q3
           exact absurd q3 (by decide)
         · obtain ⟨C, q2⟩ := HU8.out.fml.ty hb; rw [q1] at q2
           injection q2 with q2
           injection q2 with q2 q3
           exact absurd q3 (by decide)
       · rw [HEQ.out]; exact HO7.out
       · refine OwnG.kept HR8.out (fun b hb => hc7.block b (OwnG.lt' HR8.out hb).2 (fun e => ?_)); have q1 := (HOLD.out b (.inr e)).1; have q2 := (HRF.out b hb).2; omega
       · rcases hb with hb | hb
         · exact HFO.out b (.inl hb) hf
         · have e : g7 = b := Option.some.inj hb; subst e; rcases HL7.out with q | q
           · exact HFO.out _ (.inr q) hf
           · have := HF3.out.lt hf; simp at q; omega
      case measure => simp [intOf]; omega
  · have hltI : ¬ (k : Int) < (n : Int) := by omega
    have hkn : k = n := by omega
    have HTK : Hid _ := htk; have HKN : Hid (ns.take k = ns) := List.take_of_length_le (by have := HN.out; omega); clear htk hkn; go_wp2; refine bodyPost_ret (v := .tuple #[u4, u5]) (by simp [results, Tryz.results14, go_sem]) rfl ?_
    have h9 := HTK.out; have e1 := h9.st; have e2 := h9.us; have e3 := h9.ks; rw [HKN.out, HT0.out, HNS.out, HDO.out.wt] at e1 e2 e3; have hsz : w.heap.size ≤ w1.heap.size := (HST0.out.trans HDO.out.stp).chg.size; exact ⟨u4, u5, rfl, P', D, ⟨e1, ⟨OwnG.base e2.row hsz, e2.len, ⟨e2.fml.len, fun i d t h1 h2 => Own.base (e2.fml.own i d t h1 h2) hsz, e2.fml.ap⟩⟩, OwnG.base e3 hsz, HST0.out.trans (HDO.out.stp.trans h9.stp), h9.far, h9.pp⟩⟩
end
open Go.RowKit Go.Maps
theorem filt_id {L : List Fe} (hu : L.Pairwise (fun a b => a.n < b.n)) : ∀ {i : Nat} {y : Fe}, L[i]? = some y → (tmsF L).filter (fun t => decide (t.id ≠ (y.n : Int))) = tmsF (L.eraseIdx i) := by
 induction L with
 | nil => intro i y h; simp at h
 | cons x L ih =>
  intro i y h; rw [List.pairwise_cons] at hu; cases i with
  | zero =>
   simp at h; subst h; simp only [List.eraseIdx_cons_zero]; unfold tmsF; rw [List.map_cons, List.filter_cons]; simp only [ne_eq, not_true_eq_false, decide_false, Bool.false_eq_true, if_false]; rw [List.filter_eq_self]; intro t ht; obtain ⟨z, hz, rfl⟩ := List.mem_map.1 ht; have := hu.1 z hz; simp; omega
  | succ i =>
   have h' : L[i]? = some y := by simpa using h
   have h9 := ih hu.2 h'; have hy := hu.1 y (List.mem_of_getElem? h'); simp only [List.eraseIdx_cons_succ]; unfold tmsF at h9 ⊢; rw [List.map_cons, List.filter_cons]; have hne : decide ((x.n : Int) ≠ (y.n : Int)) = true := by simp; omega
   simp only [hne, if_true, List.map_cons]; rw [h9]
theorem FTi.end {s : Fs} {W : List Wh.Tm} (hi : FInv s) (h : FTi s W) {i : Nat} {y : Fe} (hy : s.L[i]? = some y) : FTi { s with L := s.L.eraseIdx i } (W.filter (fun t => decide (t.id ≠ (y.n : Int)))) := by
 refine ⟨?_, fun x hx => h.at_ x ((List.eraseIdx_sublist _ _).mem hx), fun x hx => h.dm x ((List.eraseIdx_sublist _ _).mem hx)⟩; have h9 := h.pm.filter (fun t => decide (t.id ≠ (y.n : Int))); rw [filt_id hi.up hy] at h9; exact h9
theorem FTi.begin {s : Fs} {W : List Wh.Tm} (hi : FInv s) (h : FTi s W) {n : Nat} {k : Fk} {xs : Seg} {row' : List (Fk × Seg)} (hnu : ∀ x, x ∈ s.L → x.n < n) : FTi { s with row := row', L := s.L ++ [begF s n k xs], S := s.S + 1 } (Wh.setL W s.N s.S (n : Int) (s.clk + s.rt)) := by
 have hc := hi.c; have hnc := hi.nc; have hrt := hi.rt.1
 have hm : ∀ x, x ∈ s.L ++ [begF s n k xs] → x ∈ s.L ∨ x = begF s n k xs := fun x hx => by
  rcases List.mem_append.1 hx with q | q
  · exact .inl q
  · simp at q; exact .inr q
 refine ⟨?_, fun x hx => ?_, fun x hx => ?_⟩
 · show (Wh.setL W s.N s.S (n : Int) (s.clk + s.rt)).Perm (tmsF (s.L ++ [begF s n k xs]))
   have e1 : W.filter (fun t => decide (t.id ≠ (n : Int))) = W := by
    rw [List.filter_eq_self]; intro t ht; obtain ⟨x, hx, rfl⟩ := List.mem_map.1 (h.pm.mem_iff.1 ht); have := hnu x hx; simp; omega
   unfold Wh.setL; rw [e1]; have e2 : tmsF (s.L ++ [begF s n k xs]) = tmsF s.L ++ [⟨(n : Int), max (min (s.clk + s.rt) Wh.mxN) (s.N + 1), s.S + 1⟩] := by unfold tmsF; rw [List.map_append]; rfl
   rw [e2]; exact h.pm.append_right _
 · rcases hm x hx with h9 | rfl
   · exact h.at_ x h9
   · show max (min (s.clk + s.rt) mxX) (s.N + 1) = min (s.clk + s.rt) mxX ∨ (max (min (s.clk + s.rt) mxX) (s.N + 1) = mxX + 1 ∧ min (s.clk + s.rt) mxX = mxX); omega
 · rcases hm x hx with h9 | rfl
   · exact h.dm x h9
   · exact Nat.min_le_right _ _
section
variable {w w' : World} {P : Fp} {s : Fs} {W W' : List Wh.Tm}
set_option maxRecDepth 20000
set_option maxHeartbeats 3200000
theorem frun_num (h : FSw w P s W) (n now : Nat) (hn : ¬ (1 ≤ n ∧ n ≤ mxX)) :
 Calls Tryz.prog 13 #[.pointer (some ⟨P.p, 0, none⟩), .int .u64 (n : Int), .int .u64 (now : Int)] w fun e w' => e = .returned (.tuple #[.int .i64 0, .slice none 0 0]) ∧ w' = w := by
 have HM : Hid _ := fmade_t h
 have HI : Hid (∀ u, Calls Tryz.prog 31 #[.int .u64 (n : Int)] u fun e w' => e = .returned (.bool false) ∧ w' = u) := fun u => by
  have h9 := fisNumber_t n u; rw [decide_eq_false hn] at h9; exact h9
 clear h hn; go_enter Tryz.func13, Tryz.ntmps13
 (go_wp2_with fail); refine Calls.mono HM.out ?_; rintro e9 u0 ⟨rfl, hq⟩; have hq := hq.symm; subst hq; (go_wp2_with fail); refine Calls.mono (HI.out _) ?_; rintro e9 u0 ⟨rfl, hq⟩; have hq := hq.symm; subst hq; go_wp2; refine bodyPost_ret (v := .tuple #[.int .i64 0, .slice none 0 0]) (by simp [results, Tryz.results13, go_sem]) rfl ?_
 exact ⟨rfl, rfl⟩
theorem frun_pass (h : FSw w P s W) (n now : Nat) (hn : 1 ≤ n ∧ n ≤ mxX) {y : Fe} (hy : y ∈ s.L) (hyn : n ≤ y.n) :
 Calls Tryz.prog 13 #[.pointer (some ⟨P.p, 0, none⟩), .int .u64 (n : Int), .int .u64 (now : Int)] w fun e w' => e = .returned (.tuple #[.int .i64 0, .slice none 0 0]) ∧ Below w.heap.size w w' := by
 have HM : Hid _ := fmade_t h
 have HI : Hid (∀ u, Calls Tryz.prog 31 #[.int .u64 (n : Int)] u fun e w' => e = .returned (.bool true) ∧ w' = u) := fun u => by
  have h9 := fisNumber_t n u; rw [decide_eq_true hn] at h9; exact h9
 have HP : Hid (Calls Tryz.prog 39 #[.pointer (some ⟨P.p, 0, none⟩), .int .u64 (n : Int)] w fun e w' => e = .returned (.bool true) ∧ Below w.heap.size w w') := by
  refine (fisPassed_t h n).mono ?_; rintro e u ⟨he, hu⟩; refine ⟨?_, hu⟩
  have h9 : s.L.any (fun x => decide (n ≤ x.n)) = true := by
   rw [List.any_eq_true]; exact ⟨y, hy, by simpa using hyn⟩
  rw [he, h9]
 clear h hn hy hyn; go_enter Tryz.func13, Tryz.ntmps13
 (go_wp2_with fail); refine Calls.mono HM.out ?_; rintro e9 u0 ⟨rfl, hq⟩; have hq := hq.symm; subst hq; (go_wp2_with fail); refine Calls.mono (HI.out _) ?_; rintro e9 u0 ⟨rfl, hq⟩; have hq := hq.symm; subst hq; (go_wp2_with fail); refine Calls.mono HP.out ?_; rintro e9 u1 ⟨rfl, hb1⟩; have HB1 : Hid _ := hb1; clear hb1; go_wp2; refine bodyPost_ret (v := .tuple #[.int .i64 0, .slice none 0 0]) (by simp [results, Tryz.results13, go_sem]) rfl ?_
 exact ⟨rfl, HB1.out⟩
end
open Go.RowKit Go.Maps
section
variable {α : Type} {K : Kd α}
structure MidG (K : Kd α) (w : World) (v : Value) (xs : List α) : Prop where
 blk : ∀ b, v.ownBlock = some b → ∃ cur, w.heap[b]? = some (.cells cur K.t (0, 0))
 ex : (∃ a, v = .slice a 0 0 ∧ xs = []) ∨ ∃ g o c cur, v = .slice (some ⟨g, o, none⟩) xs.length c ∧ w.heap[g]? = some (.cells cur K.t (0, 0)) ∧ o + c * K.k ≤ cur.size ∧ xs.length ≤ c ∧ c ≤ maxLen ∧ RdG K w (some ⟨g, o, none⟩) xs
variable {w w' : World} {v : Value} {xs : List α}
theorem MidG.lt (h : MidG K w v xs) {b : Nat} (hb : v.ownBlock = some b) : b < w.heap.size := by
 obtain ⟨cur, h9⟩ := h.blk b hb; exact (sI h9).1
theorem MidG.of_own {B : Nat} (h : OwnG K w B v xs) : MidG K w v xs := by
 refine ⟨fun b hb => h.at_ hb, ?_⟩; have h' := h; rcases h.2 with ⟨rfl, h0⟩ | ⟨g, cap, cur, rfl, hB, hg, hn, hm, hsz, -⟩
 · exact .inl ⟨none, rfl, List.eq_nil_of_length_eq_zero h0⟩
 · exact .inr ⟨g, 0, cap, cur, rfl, hg, by rw [Nat.zero_add, hsz]; exact Nat.le_refl _, hn, hm, OwnG.rd h'⟩
theorem rdG_kept {ao : Option Addr} (h : RdG K w ao xs) (hk : ∀ b o, ao = some ⟨b, o, none⟩ → w'.heap[b]? = w.heap[b]?) : RdG K w' ao xs := fun j hj => by
 obtain ⟨b, o, h1, h2, cur, fr, h3⟩ := h j hj; have h9 := hk b o h1; exact ⟨b, o, h1, fun i u hu => (World.cell?_of_block h9).trans (h2 i u hu), cur, fr, h9.trans h3⟩
theorem MidG.kept (h : MidG K w v xs) (hk : ∀ b, v.ownBlock = some b → w'.heap[b]? = w.heap[b]?) : MidG K w' v xs := by
 refine ⟨fun b hb => ?_, ?_⟩
 · obtain ⟨cur, h9⟩ := h.blk b hb; exact ⟨cur, (hk b hb).trans h9⟩
 · rcases h.ex with h0 | ⟨g, o, c, cur, rfl, hg, h1, h2, h3, h4⟩
   · exact .inl h0
   · exact .inr ⟨g, o, c, cur, rfl, (hk g rfl).trans hg, h1, h2, h3, rdG_kept h4 (fun b o e => by cases e; exact hk _ rfl)⟩
theorem MidG.val (h : MidG K w v xs) : ∃ a c, v = .slice a xs.length c ∧ xs.length ≤ c ∧ c ≤ maxLen ∧ RdG K w a xs := by
 rcases h.ex with ⟨a, rfl, rfl⟩ | ⟨g, o, c, cur, rfl, hg, h1, h2, h3, h4⟩
 · exact ⟨a, 0, rfl, Nat.le_refl _, Nat.zero_le _, RdG.nil _ _⟩
 · exact ⟨_, c, rfl, h2, h3, h4⟩
theorem MidG.one (h : MidG K w v xs) (h0 : 0 < xs.length) : ∃ g o c, v = .slice (some ⟨g, o, none⟩) xs.length c ∧ xs.length ≤ c ∧ c ≤ maxLen ∧ RdG K w (some ⟨g, o, none⟩) xs ∧ g < w.heap.size := by
 rcases h.ex with ⟨a, -, rfl⟩ | ⟨g, o, c, cur, rfl, hg, h1, h2, h3, h4⟩
 · simp at h0
 · exact ⟨g, o, c, rfl, h2, h3, h4, (sI hg).1⟩
theorem MidG.tail {g o c n : Nat} {y : α} {ys : List α} (h : MidG K w (.slice (some ⟨g, o, none⟩) n c) (y :: ys)) : MidG K w (.slice (if c = 1 then some ⟨g, o, none⟩ else some ⟨g, o + 1 * K.k, none⟩) ys.length (c - 1)) ys := by
 rcases h.ex with ⟨a, -, h0⟩ | ⟨g', o', c', cur, e, hg, h1, h2, h3, h4⟩
 · cases h0
 · cases e
   have hb : ∀ (a : Option Addr) m d, (a = some ⟨g, o, none⟩ ∨ a = some ⟨g, o + 1 * K.k, none⟩) → ∀ b, (Value.slice a m d).ownBlock = some b → ∃ cur, w.heap[b]? = some (.cells cur K.t (0, 0)) := fun a m d ha b hb => by
    rcases ha with rfl | rfl
    · cases hb; exact ⟨cur, hg⟩
    · cases hb; exact ⟨cur, hg⟩
   have hys : ys.length + 1 ≤ c := h2
   by_cases hc : c = 1
   · rw [if_pos hc]; have hy0 : ys = [] := List.eq_nil_of_length_eq_zero (by omega); subst hy0; refine ⟨hb _ _ _ (.inl rfl), .inl ⟨some ⟨g, o, none⟩, ?_, rfl⟩⟩; rw [hc]; rfl
   · rw [if_neg hc]; refine ⟨hb _ _ _ (.inr rfl), .inr ⟨g, o + 1 * K.k, c - 1, cur, rfl, hg, ?_, by omega, by omega, ?_⟩⟩
     · have : (1 + (c - 1)) * K.k = c * K.k := by congr 1; omega
       rw [Nat.add_mul] at this; omega
     · exact RdG.drop h4 1
theorem setCellsG (b : Nat) : ∀ (vs : List Value) (o : Nat) (w : World), w.grownBy (w.setCells b o vs) (some b)
 | [], _, w => ⟨rfl, rfl, rfl, Nat.le_refl _, fun _ _ _ => rfl⟩
 | x :: r, o, w => by
  have h1 := gset1 w b o x; have h2 := setCellsG b r (o + 1) (w.setCell ⟨b, o, none⟩ x); exact ⟨h2.os.trans h1.os, h2.tape.trans h1.tape, h2.output.trans h1.output, Nat.le_trans h1.size h2.size, fun k hk hn => (h2.block k (Nat.lt_of_lt_of_le hk h1.size) hn).trans (h1.block k hk hn)⟩
theorem setCells_blk (b : Nat) (t : TypeId) : ∀ (vs : List Value) (o : Nat) (w : World) (C : Array Value), w.heap[b]? = some (.cells C t (0, 0)) → ∃ C', (w.setCells b o vs).heap[b]? = some (.cells C' t (0, 0)) ∧ C'.size = C.size
 | [], _, w, C, h => ⟨C, h, rfl⟩
 | x :: r, o, w, C, h => by
  obtain ⟨C', h1, h2⟩ := setCells_blk b t r (o + 1) (w.setCell ⟨b, o, none⟩ x) _ (heap_setCell_same w b o C t x h); exact ⟨C', h1, h2.trans (by simp)⟩
theorem wpo_appM1 {o : Oper} {a : Act} {P : Act → World → Prop} {Q : Exit → Act → World → Prop} (s x : Operand)
 (ho : o.op = .call { callee := .builtin .append, args := #[s, x], argTypes := #[K.ts, K.ts] }) (v : Value) (xs : List α) (y : α) (n : Nat) (hn : n = xs.length) (ad : Addr) (cap : Nat)
 (hs : a.eval s = v) (hmid : MidG K w v xs) (hx : a.eval x = .slice (some ad) 1 cap) (hr : RdG K w (some ad) [y])
 (hb : (n + 1) * K.by_ ≤ 140737488355328) (hm : n + 1 ≤ maxLen)
 (h : ∀ v' w', MidG K w' v' (xs ++ [y]) → w.grownBy w' v.ownBlock → (∀ b, v'.ownBlock = some b → v.ownBlock = some b ∨ w.heap.size ≤ b) → P (a.put o.dst v') w') : o.wp Tryz.prog a w P Q := by
 subst hn; obtain ⟨i0, hi, hz0, hz1, hz2⟩ := info_parts K.hi; have hnl : (K.flat [y]).length = 1 * K.k := Kd.flat_len [y]
 have grow : ∀ v' w', (Builtin.append_ #[K.ts, K.ts] o.type #[v, .slice (some ad) 1 cap]).run Tryz.prog w = .ok v' w' → w'.ownsRow w.heap.size K.t K.k v' (xs.length + 1) (K.flat xs ++ K.flat [y]) → w.grownBy w' none → o.wp Tryz.prog a w P Q := fun v' w' hrun r1 r2 => by
  unfold Oper.wp; simp [execOp, ho, resolve, invoke, builtin, hs, hx, hrun, Result.andThen]; have r1' : OwnG K w' w.heap.size v' (xs ++ [y]) := by unfold OwnG; rw [List.length_append, Kd.flat_app]; exact r1
  exact h v' w' (MidG.of_own r1') ⟨r2.os, r2.tape, r2.output, r2.size, fun k hk _ => r2.block k hk (by simp)⟩ (fun b hb => .inr (r1'.lt' hb).1)
 rcases hmid.ex with ⟨a0, rfl, rfl⟩ | ⟨g, off, c, cur, rfl, hg, h1, h2, h3, h4⟩
 · cases a0 with
   | none =>
    obtain ⟨v', w', hrun, r1, r2, _⟩ := run_append_own (P := Tryz.prog) w w.heap.size K.ts o.type K.t i0 K.z K.k K.by_ K.ht hi hz0 hz1 hz2 K.hz K.hpos (.slice none 0 0) 0 [] (World.ownsRow_nil w _ K.t K.k) ad 1 cap (K.flat [y]) hnl hr.news (Kd.flat_one' [y]) hm hb (Nat.le_refl _); exact grow v' w' hrun r1 r2
   | some b =>
    obtain ⟨v', w', hrun, r1, r2⟩ := run_append_arg_grows (P := Tryz.prog) w K.ts o.type K.t i0 K.z K.k K.by_ K.ht hi hz0 hz1 hz2 K.hz K.hpos b 0 0 [] (by simp) (fun j u hj => by simp at hj) ad 1 cap (K.flat [y]) hnl hr.news (by omega) hm hb; exact grow v' w' hrun r1 r2
 · by_cases hc : xs.length + 1 ≤ c
   · have hk1 : (xs.length + 1) * K.k ≤ c * K.k := Nat.mul_le_mul_right _ hc; rw [Nat.succ_mul] at hk1
     have hthere : ∀ j, j < (K.flat [y]).length → (w.cell? ⟨g, off + xs.length * i0.size + j, none⟩).isSome = true := fun j hj => by
      rw [hz1, cR hg]; rw [hnl] at hj; rw [Array.getElem?_eq_getElem (by omega)]
      rfl
     have hrun := run_append_room_cells (P := Tryz.prog) w K.ts o.type K.t i0 K.ht hi g off xs.length c ad 1 cap (K.flat [y]) (by rw [hz1]; exact hnl) hr.news (Kd.flat_one' [y]) hc hthere (fun j hj => by simp [World.frozen?, hg]); rw [hz1] at hrun hthere; unfold Oper.wp; simp [execOp, ho, resolve, invoke, builtin, hs, hx, hrun, Result.andThen]; obtain ⟨C', hC, hCs⟩ := setCells_blk g K.t (K.flat [y]) (off + xs.length * K.k) w cur hg; refine h _ _ ⟨fun b hb => by cases hb; exact ⟨_, hC⟩, .inr ⟨g, off, c, C', by rw [List.length_append]; rfl, hC, by rw [hCs]; exact h1, by rw [List.length_append]; exact hc, h3, ?_⟩⟩ (setCellsG g _ _ w) (fun b hb => .inl hb); intro j hj; rw [List.length_append] at hj; have hj : j < xs.length + 1 := hj; refine ⟨g, off, rfl, fun q u hu => ?_, C', _, hC⟩
     by_cases hjx : j < xs.length
     · rw [List.getElem_append_left hjx] at hu; have hq : q < K.k := by have := (List.getElem?_eq_some_iff.1 hu).1; rw [K.hk] at this; exact this
       have hj2 : (j + 1) * K.k ≤ xs.length * K.k := Nat.mul_le_mul_right _ hjx; rw [Nat.succ_mul] at hj2; obtain ⟨b2, o2, e2, h8, -⟩ := h4 j hjx; cases e2; rw [World.cell?_setCells_out g (K.flat [y]) (off + xs.length * K.k) w _ (fun _ _ => .inl (by show off + j * K.k + q < _; omega))]; exact h8 q u hu
     · obtain rfl : j = xs.length := by omega
       rw [List.getElem_append_right (Nat.le_refl _)] at hu; simp only [Nat.sub_self, List.getElem_cons_zero] at hu
       have hq : q < (K.flat [y]).length := by
        have := (List.getElem?_eq_some_iff.1 hu).1; rw [K.hk] at this; rw [hnl, Nat.one_mul]; exact this
       rw [World.cell?_setCells_in g (K.flat [y]) (off + xs.length * K.k) w hthere q hq]; rw [← hu, ← List.getElem?_eq_getElem hq, Kd.flat_one]
   · obtain ⟨v', w', hrun, r1, r2⟩ := run_append_arg_grows (P := Tryz.prog) w K.ts o.type K.t i0 K.z K.k K.by_ K.ht hi hz0 hz1 hz2 K.hz K.hpos ⟨g, off, none⟩ xs.length c (K.flat xs) (Kd.flat_len xs) h4.news ad 1 cap (K.flat [y]) hnl hr.news (by omega) hm hb; exact grow v' w' hrun r1 r2
end
end Go.Proofs.YtpakkpahcpgnnaaGreatDoor
