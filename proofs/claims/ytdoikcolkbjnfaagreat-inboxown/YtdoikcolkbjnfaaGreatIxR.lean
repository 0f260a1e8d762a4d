import Derived.Test.YtdoikcolkbjnfaaGreatCuP
import Derived.Test.YtdoikcolkbjnfaaGreatUP
namespace Go.Proofs.YtdoikcolkbjnfaaGreat
set_option linter.unusedVariables false
set_option linter.unusedSimpArgs false
theorem nd_sub : ∀ {a b : List Ss}, a.Nodup → (∀ x, x ∈ a → x ∈ b) → a.length ≤ b.length
  | [], b => fun _ _ => Nat.zero_le _
  | x :: r, b => fun h hs => by
    obtain ⟨h1, h2⟩ := List.nodup_cons.1 h
    have hx := hs x List.mem_cons_self
    have h3 := nd_sub (b := b.erase x) h2 (fun y hy => (List.mem_erase_of_ne (fun e : y = x => h1 (by rw [← e]; exact hy))).2 (hs y (List.mem_cons_of_mem _ hy)))
    rw [List.length_erase_of_mem hx] at h3
    have := List.length_pos_of_mem hx
    simp only [List.length_cons]
    omega
section
variable {α β : Type}
/-- rows of sessions with what is held of each, the one that was touched least lately first -/
def ks (L : List (Ss × α)) : List Ss := L.map (fun x => x.1)
def lk : List (Ss × α) → Ss → Option α
  | [], _ => none
  | x :: r, s => if x.1 = s then some x.2 else lk r s
def rm (L : List (Ss × α)) (s : Ss) : List (Ss × α) := L.filter (fun x => decide (x.1 ≠ s))
def pt (m : Nat) (L : List (Ss × α)) (s : Ss) (a : α) : List (Ss × α) := (if s ∈ ks L then rm L s else if m ≤ L.length then L.drop 1 else L) ++ [(s, a)]
def mp (f : α → β) (L : List (Ss × α)) : List (Ss × β) := L.map (fun x => (x.1, f x.2))
theorem ks_mp (f : α → β) (L : List (Ss × α)) : ks (mp f L) = ks L := by simp [ks, mp, Function.comp_def]
theorem len_mp (f : α → β) (L : List (Ss × α)) : (mp f L).length = L.length := by simp [mp]
theorem len_ks (L : List (Ss × α)) : (ks L).length = L.length := by simp [ks]
theorem rm_mp (f : α → β) (L : List (Ss × α)) (s : Ss) : mp f (rm L s) = rm (mp f L) s := by simp [mp, rm, List.filter_map, Function.comp_def]
theorem pt_mp (f : α → β) (m : Nat) (L : List (Ss × α)) (s : Ss) (a : α) : mp f (pt m L s a) = pt m (mp f L) s (f a) := by
  unfold pt
  rw [ks_mp, len_mp]
  by_cases h : s ∈ ks L
  · rw [if_pos h, if_pos h, ← rm_mp]; simp [mp]
  · rw [if_neg h, if_neg h]
    by_cases h2 : m ≤ L.length
    · rw [if_pos h2, if_pos h2]; simp [mp, List.map_drop]
    · rw [if_neg h2, if_neg h2]; simp [mp]
theorem lk_mp (f : α → β) : ∀ (L : List (Ss × α)) (s : Ss), lk (mp f L) s = (lk L s).map f
  | [], s => rfl
  | x :: r, s => by
    show (if x.1 = s then some (f x.2) else lk (mp f r) s) = (if x.1 = s then some x.2 else lk r s).map f
    by_cases h : x.1 = s
    · rw [if_pos h, if_pos h]; rfl
    · rw [if_neg h, if_neg h]; exact lk_mp f r s
theorem lk_none : ∀ {L : List (Ss × α)} {s : Ss}, lk L s = none ↔ s ∉ ks L
  | [], s => by simp [lk, ks]
  | x :: r, s => by
    unfold lk
    by_cases h : x.1 = s
    · rw [if_pos h]; simp [ks, h]
    · rw [if_neg h, lk_none]
      have h' : ¬ s = x.1 := fun e => h e.symm
      simp [ks, h']
theorem lk_mem : ∀ {L : List (Ss × α)} {s : Ss} {a : α}, lk L s = some a → (s, a) ∈ L
  | [], s, a => fun h => by cases h
  | x :: r, s, a => fun h => by
    unfold lk at h
    by_cases e : x.1 = s
    · rw [if_pos e] at h
      cases h
      subst e
      exact List.mem_cons_self
    · rw [if_neg e] at h
      exact List.mem_cons_of_mem _ (lk_mem h)
theorem mem_ks {L : List (Ss × α)} {x : Ss × α} (h : x ∈ L) : x.1 ∈ ks L := List.mem_map.2 ⟨x, h, rfl⟩
theorem lk_of : ∀ {L : List (Ss × α)} {x : Ss × α}, (ks L).Nodup → x ∈ L → lk L x.1 = some x.2
  | [], x => fun _ h => by cases h
  | y :: r, x => fun hn h => by
    obtain ⟨h1, h2⟩ := List.nodup_cons.1 (show (y.1 :: ks r).Nodup from hn)
    unfold lk
    rcases List.mem_cons.1 h with rfl | h
    · rw [if_pos rfl]
    · rw [if_neg (fun e : y.1 = x.1 => h1 (by rw [e]; exact mem_ks h))]
      exact lk_of h2 h
theorem ks_rm (L : List (Ss × α)) (s : Ss) : ks (rm L s) = (ks L).filter (fun y => decide (y ≠ s)) := by simp [ks, rm, List.filter_map, Function.comp_def]
theorem mem_rm {L : List (Ss × α)} {s : Ss} {x : Ss × α} : x ∈ rm L s ↔ x ∈ L ∧ x.1 ≠ s := by simp [rm]
theorem mem_ks_rm {L : List (Ss × α)} {s y : Ss} : y ∈ ks (rm L s) ↔ y ∈ ks L ∧ y ≠ s := by rw [ks_rm]; simp
theorem rm_not {L : List (Ss × α)} {s : Ss} (h : s ∉ ks L) : rm L s = L := by
  unfold rm
  rw [List.filter_eq_self]
  intro x hx
  simp only [decide_eq_true_eq]
  exact fun e => h (e ▸ mem_ks hx)
theorem rm_len : ∀ {L : List (Ss × α)} (s : Ss), (ks L).Nodup → (rm L s).length + (if s ∈ ks L then 1 else 0) = L.length
  | [], s => fun _ => by simp [rm, ks]
  | x :: r, s => fun h => by
    obtain ⟨h1, h2⟩ := List.nodup_cons.1 (show (x.1 :: ks r).Nodup from h)
    have h3 := rm_len s h2
    by_cases e : x.1 = s
    · subst e
      have h4 : rm (x :: r) x.1 = r := by
        unfold rm
        rw [List.filter_cons_of_neg (by simp)]
        exact rm_not h1
      rw [h4, if_pos (mem_ks List.mem_cons_self)]
      rfl
    · have h4 : rm (x :: r) s = x :: rm r s := by
        unfold rm
        rw [List.filter_cons_of_pos (by simpa using e)]
      have h5 : s ∈ ks (x :: r) ↔ s ∈ ks r := by
        show s ∈ x.1 :: ks r ↔ _
        rw [List.mem_cons]
        exact ⟨fun h => h.resolve_left (fun e9 => e e9.symm), .inr⟩
      rw [h4]
      simp only [List.length_cons, h5]
      omega
theorem rm_head {x : Ss × α} {r : List (Ss × α)} (h : (ks (x :: r)).Nodup) : rm (x :: r) x.1 = r := by
  obtain ⟨h1, -⟩ := List.nodup_cons.1 (show (x.1 :: ks r).Nodup from h)
  unfold rm
  rw [List.filter_cons_of_neg (by simp)]
  exact rm_not h1
theorem rm_nd {L : List (Ss × α)} (h : (ks L).Nodup) (s : Ss) : (ks (rm L s)).Nodup := by rw [ks_rm]; exact h.filter _
theorem snoc_nd {L : List (Ss × α)} (h : (ks L).Nodup) {s : Ss} (hs : s ∉ ks L) (a : α) : (ks (L ++ [(s, a)])).Nodup := by
  have e : ks (L ++ [(s, a)]) = ks L ++ [s] := by simp [ks]
  rw [e]
  refine List.nodup_append.2 ⟨h, by simp, fun y hy z hz e2 => ?_⟩
  rw [List.mem_singleton] at hz
  rw [e2, hz] at hy
  exact hs hy
theorem drop_nd {L : List (Ss × α)} (h : (ks L).Nodup) : (ks (L.drop 1)).Nodup := by
  have e : ks (L.drop 1) = (ks L).drop 1 := by simp [ks, List.map_drop]
  rw [e]
  exact h.sublist (List.drop_sublist _ _)
theorem mem_drop_ks {L : List (Ss × α)} {s : Ss} (h : s ∈ ks (L.drop 1)) : s ∈ ks L := by
  have e : ks (L.drop 1) = (ks L).drop 1 := by simp [ks, List.map_drop]
  rw [e] at h
  exact List.mem_of_mem_drop h
/-- what stands ahead of the new one -/
def pf (m : Nat) (L : List (Ss × α)) (s : Ss) : List (Ss × α) := if s ∈ ks L then rm L s else if m ≤ L.length then L.drop 1 else L
theorem pt_eq (m : Nat) (L : List (Ss × α)) (s : Ss) (a : α) : pt m L s a = pf m L s ++ [(s, a)] := rfl
theorem pf_not {m : Nat} {L : List (Ss × α)} {s : Ss} : s ∉ ks (pf m L s) := by
  unfold pf
  by_cases h : s ∈ ks L
  · rw [if_pos h, mem_ks_rm]; exact fun h2 => h2.2 rfl
  · rw [if_neg h]
    by_cases h2 : m ≤ L.length
    · rw [if_pos h2]; exact fun h3 => h (mem_drop_ks h3)
    · rw [if_neg h2]; exact h
theorem pf_nd {m : Nat} {L : List (Ss × α)} (h : (ks L).Nodup) (s : Ss) : (ks (pf m L s)).Nodup := by
  unfold pf
  by_cases h1 : s ∈ ks L
  · rw [if_pos h1]; exact rm_nd h s
  · rw [if_neg h1]
    by_cases h2 : m ≤ L.length
    · rw [if_pos h2]; exact drop_nd h
    · rw [if_neg h2]; exact h
theorem pf_mem {m : Nat} {L : List (Ss × α)} {s : Ss} {x : Ss × α} (h : x ∈ pf m L s) : x ∈ L := by
  unfold pf at h
  by_cases h1 : s ∈ ks L
  · rw [if_pos h1] at h; exact (mem_rm.1 h).1
  · rw [if_neg h1] at h
    by_cases h2 : m ≤ L.length
    · rw [if_pos h2] at h; exact List.mem_of_mem_drop h
    · rw [if_neg h2] at h; exact h
theorem pf_sub {m : Nat} {L : List (Ss × α)} {s : Ss} : (pf m L s).Sublist L := by
  unfold pf
  by_cases h1 : s ∈ ks L
  · rw [if_pos h1]; exact List.filter_sublist
  · rw [if_neg h1]
    by_cases h2 : m ≤ L.length
    · rw [if_pos h2]; exact List.drop_sublist _ _
    · rw [if_neg h2]; exact List.Sublist.refl _
theorem pf_len {m : Nat} {L : List (Ss × α)} (hn : (ks L).Nodup) (s : Ss) (hm : 1 ≤ m) (hl : L.length ≤ m) : (pf m L s).length + 1 ≤ m := by
  unfold pf
  by_cases h1 : s ∈ ks L
  · rw [if_pos h1]
    have := rm_len s hn
    rw [if_pos h1] at this
    omega
  · rw [if_neg h1]
    by_cases h2 : m ≤ L.length
    · rw [if_pos h2, List.length_drop]; omega
    · rw [if_neg h2]; omega
theorem pt_len {m : Nat} {L : List (Ss × α)} (hn : (ks L).Nodup) (s : Ss) (a : α) (hm : 1 ≤ m) (hl : L.length ≤ m) : (pt m L s a).length ≤ m := by
  have := pf_len hn s hm hl
  rw [pt_eq, List.length_append]
  exact this
theorem pt_nd {m : Nat} {L : List (Ss × α)} (h : (ks L).Nodup) (s : Ss) (a : α) : (ks (pt m L s a)).Nodup := snoc_nd (pf_nd h s) pf_not a
end
end Go.Proofs.YtdoikcolkbjnfaaGreat
namespace Go.Proofs.YtdoikcolkbjnfaaGreat
set_option linter.unusedVariables false
set_option linter.unusedSimpArgs false
open Go.RowKit Go.Maps
def selfR (v : Value) : Option (DataW Value × List MemPlace) := some (.held v, [])
abbrev hdv (x : Value × Nat) : Value := .agg #[x.1, .int .u64 (x.2 : Int)]
/-- a row of sessions in memory: the map m, the count of touches T -/
structure RowM (w : World) (m T : Nat) (L : List (Ss × (Value × Nat))) : Prop where
  own : ∃ D, w.ownsMap Tryz.prog tSs selfR m L.length D ∧ Maps.size D = L.length ∧ (∀ s, inS s → (Maps.has D (kS s) = true ↔ s ∈ ks L)) ∧ ∀ x, x ∈ L → ∀ y, D.atKey (kS x.1) y = .held (hdv x.2)
  nd : (ks L).Nodup
  rg : ∀ s, s ∈ ks L → inS s
  so : L.Pairwise (fun a b => a.2.2 < b.2.2)
  le : ∀ x, x ∈ L → 1 ≤ x.2.2 ∧ x.2.2 ≤ T
section
variable {w w' : World} {m T : Nat} {L : List (Ss × (Value × Nat))}
theorem RowM.at_ (h : RowM w m T L) : ∃ es cl, w.heap[m]? = some (.map es cl) := by
  obtain ⟨D, ⟨es, cl, h1, -⟩, -⟩ := h.own
  exact ⟨es, cl, h1⟩
theorem RowM.lt (h : RowM w m T L) : m < w.heap.size := by
  obtain ⟨es, cl, h1⟩ := h.at_
  exact (Array.getElem?_eq_some_iff.1 h1).1
theorem RowM.kept (h : RowM w m T L) (hk : w'.heap[m]? = w.heap[m]?) : RowM w' m T L := by
  obtain ⟨D, ⟨es, cl, e1, e2⟩, h2⟩ := h.own
  exact ⟨⟨D, ⟨es, cl, hk.trans e1, e2⟩, h2⟩, h.nd, h.rg, h.so, h.le⟩
theorem RowM.below (h : RowM w m T L) (hb : Below w.heap.size w w') : RowM w' m T L := h.kept (hb.block m h.lt)
theorem RowM.more (h : RowM w m T L) {T' : Nat} (hT : T ≤ T') : RowM w m T' L := ⟨h.own, h.nd, h.rg, h.so, fun x hx => ⟨(h.le x hx).1, Nat.le_trans (h.le x hx).2 hT⟩⟩
theorem RowM.has {D : DataW Value} (h3 : ∀ s, inS s → (Maps.has D (kS s) = true ↔ s ∈ ks L)) {s : Ss} (hs : inS s) : Maps.has D (kS s) = decide (s ∈ ks L) := by
  have := h3 s hs
  by_cases h9 : s ∈ ks L
  · simp [h9, this.2 h9]
  · cases h8 : Maps.has D (kS s)
    · simp [h9]
    · exact absurd (this.1 h8) h9
theorem tightM {n : Nat} {D : DataW Value} (h : w.ownsMap Tryz.prog tSs selfR m n D) {n' : Nat} (hn : Maps.size D ≤ n') : w.ownsMap Tryz.prog tSs selfR m n' D := by
  obtain ⟨es, cl, h1, h2, h3, h4⟩ := h
  refine ⟨es, cl, h1, h2, ?_, h4⟩
  rw [h4] at hn
  simpa [Maps.size, length_sorted] using hn
section
variable {tM tE : TypeId} {z : Value}
theorem RowM.look (hu : Tryz.prog.underlying tM = some (.map tSs tE)) (hz : ∀ u : World, (zeroValue tE).run Tryz.prog u = .ok z u) (h : RowM w m T L) {s : Ss} (hs : inS s) : (Instr.lookup tM (.map (some m)) (sv s) true).run Tryz.prog w = .ok (.tuple #[match lk L s with | some x => hdv x | none => z, .bool (decide (s ∈ ks L))]) w := by
  obtain ⟨D, h1, h2, h3, h4⟩ := h.own
  obtain ⟨v, ps, hr, hv⟩ := h1.look_ok keyS hu (hz w) (zd := .held z) (zp := []) rfl (kS_of hs)
  have hhas := RowM.has h3 hs
  rw [hr, hhas]
  simp only [selfR, Option.some.injEq, Prod.mk.injEq] at hv
  have e1 := hv.1
  cases hl : lk L s with
  | some x =>
    rw [h4 (s, x) (lk_mem hl)] at e1
    rw [DataW.held.inj e1]
  | none =>
    have hf : Maps.has D (kS s) = false := by rw [hhas]; simp [lk_none.1 hl]
    rw [atKey_of_not_has hf] at e1
    rw [DataW.held.inj e1]
theorem RowM.look_in (hu : Tryz.prog.underlying tM = some (.map tSs tE)) (hz : ∀ u : World, (zeroValue tE).run Tryz.prog u = .ok z u) (h : RowM w m T L) {s : Ss} (hs : inS s) {x : Value × Nat} (hl : lk L s = some x) : (Instr.lookup tM (.map (some m)) (sv s) true).run Tryz.prog w = .ok (.tuple #[hdv x, .bool true]) w := by
  rw [h.look hu hz hs, hl, decide_eq_true (mem_ks (lk_mem hl))]
theorem RowM.look_no (hu : Tryz.prog.underlying tM = some (.map tSs tE)) (hz : ∀ u : World, (zeroValue tE).run Tryz.prog u = .ok z u) (h : RowM w m T L) {s : Ss} (hs : inS s) (hl : lk L s = none) : (Instr.lookup tM (.map (some m)) (sv s) true).run Tryz.prog w = .ok (.tuple #[z, .bool false]) w := by
  rw [h.look hu hz hs, hl, decide_eq_false (lk_none.1 hl)]
theorem RowM.get (hu : Tryz.prog.underlying tM = some (.map tSs tE)) (hz : ∀ u : World, (zeroValue tE).run Tryz.prog u = .ok z u) (h : RowM w m T L) {s : Ss} (hs : inS s) : (Instr.lookup tM (.map (some m)) (sv s) false).run Tryz.prog w = .ok (match lk L s with | some x => hdv x | none => z) w := by
  obtain ⟨D, h1, h2, h3, h4⟩ := h.own
  obtain ⟨v, ps, hr, hv⟩ := h1.lookup keyS hu (hz w) (zd := .held z) (zp := []) rfl (kS_of hs)
  have hhas := RowM.has h3 hs
  rw [hr]
  simp only [selfR, Option.some.injEq, Prod.mk.injEq] at hv
  have e1 := hv.1
  cases hl : lk L s with
  | some x =>
    rw [h4 (s, x) (lk_mem hl)] at e1
    rw [DataW.held.inj e1]
  | none =>
    have hf : Maps.has D (kS s) = false := by rw [hhas]; simp [lk_none.1 hl]
    rw [atKey_of_not_has hf] at e1
    rw [DataW.held.inj e1]
end
section
variable {tM tE : TypeId}
theorem RowM.len (hu : Tryz.prog.underlying tM = some (.map tSs tE)) (h : RowM w m T L) (ty : TypeId) : (Builtin.len_ #[tM] ty #[.map (some m)]).run Tryz.prog w = .ok (.int .i64 (L.length : Int)) w := by
  obtain ⟨D, h1, h2, h3, h4⟩ := h.own
  rw [h1.len hu ty, h2]
theorem RowM.del (hu : Tryz.prog.underlying tM = some (.map tSs tE)) (h : RowM w m T L) {s : Ss} (hs : inS s) (ty : TypeId) :
    ∃ w', (Builtin.delete_ #[tM, tSs] ty #[.map (some m), sv s]).run Tryz.prog w = .ok (.tuple #[]) w' ∧ RowM w' m T (rm L s) ∧ w.grownBy w' (some m) := by
  obtain ⟨D, h1, h2, h3, h4⟩ := h.own
  obtain ⟨w', hr, h5, h6⟩ := h1.drop keyS hu (kS_of hs) ty
  have hsz := Maps.size_del (k := kS s) (h1.tidy keyS)
  have hhas := RowM.has h3 hs
  have hlen : Maps.size (D.del (kS s)) = (rm L s).length := by
    rw [hhas, h2] at hsz
    have h7 := rm_len s h.nd
    by_cases h9 : s ∈ ks L
    · simp only [h9, decide_true, if_true] at hsz h7
      omega
    · simp only [h9, decide_false, if_false] at hsz h7
      simp at hsz
      omega
  refine ⟨w', hr, ⟨⟨_, tightM h5 (Nat.le_of_eq hlen), hlen, fun y hy => ?_, fun x hx v => ?_⟩, rm_nd h.nd s, fun y hy => h.rg y (mem_ks_rm.1 hy).1, h.so.sublist List.filter_sublist, fun x hx => h.le x (mem_rm.1 hx).1⟩, h6.grown⟩
  · by_cases e : y = s
    · subst e
      rw [has_del_same, mem_ks_rm]
      simp
    · rw [has_del_other (kS_ne hy hs e), h3 y hy, mem_ks_rm]
      simp [e]
  · obtain ⟨h8, h9⟩ := mem_rm.1 hx
    rw [atKey_del_other (kS_ne (h.rg _ (mem_ks h8)) hs h9)]
    exact h4 x h8 v
theorem RowM.put (hu : Tryz.prog.underlying tM = some (.map tSs tE)) (h : RowM w m T L) {s : Ss} (hs : inS s) (v : Value) (t : Nat) (h0 : 1 ≤ t) (ht : ∀ x, x ∈ L → x.2.2 < t) (htT : t ≤ T) (hL : L.length ≤ 8192) :
    ∃ w', (Instr.mapUpdate tM (.map (some m)) (sv s) (hdv (v, t))).run Tryz.prog w = .ok () w' ∧ RowM w' m T (rm L s ++ [(s, (v, t))]) ∧ w.grownBy w' (some m) := by
  obtain ⟨D, h1, h2, h3, h4⟩ := h.own
  obtain ⟨w', hr, h5, h6⟩ := h1.store keyS hu (by simp only [maxLen]; omega) (kS_of hs) (show selfR (hdv (v, t)) = some (.held (hdv (v, t)), []) from rfl)
  have hsz := Maps.size_put (k := kS s) (h1.tidy keyS) (.held (hdv (v, t)))
  have hhas := RowM.has h3 hs
  have hlen : Maps.size (D.put (kS s) (.held (hdv (v, t)))) = (rm L s ++ [(s, (v, t))]).length := by
    rw [hsz, hhas, h2, List.length_append]
    have h7 := rm_len s h.nd
    by_cases h9 : s ∈ ks L
    · simp only [h9, decide_true, if_true] at h7 ⊢
      simp; omega
    · simp only [h9, decide_false, if_false] at h7 ⊢
      simp; omega
  have hks : ∀ y, y ∈ ks (rm L s ++ [(s, (v, t))]) ↔ (y ∈ ks L ∧ y ≠ s) ∨ y = s := fun y => by
    have e : ks (rm L s ++ [(s, (v, t))]) = ks (rm L s) ++ [s] := by simp [ks]
    rw [e, List.mem_append, mem_ks_rm]
    simp
  refine ⟨w', hr, ⟨⟨_, tightM h5 (Nat.le_of_eq hlen), hlen, fun y hy => ?_, fun x hx u => ?_⟩, snoc_nd (rm_nd h.nd s) (fun h9 => (mem_ks_rm.1 h9).2 rfl) _, fun y hy => ?_, ?_, fun x hx => ?_⟩, h6.grown⟩
  · rw [hks]
    by_cases e : y = s
    · subst e
      rw [has_put_same h1.isMap (kS_key hs)]
      simp
    · rw [has_put_other (kS_ne hy hs e), h3 y hy]
      simp [e]
  · rcases List.mem_append.1 hx with hx | hx
    · obtain ⟨h8, h9⟩ := mem_rm.1 hx
      rw [atKey_put_other (kS_ne (h.rg _ (mem_ks h8)) hs h9)]
      exact h4 x h8 u
    · simp at hx
      subst hx
      rw [atKey_put_same h1.isMap (kS_key hs)]
  · rcases (hks y).1 hy with h9 | h9
    · exact h.rg y h9.1
    · rw [h9]; exact hs
  · refine List.pairwise_append.2 ⟨h.so.sublist List.filter_sublist, by simp, fun x hx y hy => ?_⟩
    simp at hy
    subst hy
    exact ht x (mem_rm.1 hx).1
  · rcases List.mem_append.1 hx with hx | hx
    · exact h.le x (mem_rm.1 hx).1
    · simp at hx
      subst hx
      exact ⟨h0, htT⟩
end
section
variable {tM tE : TypeId}
theorem wpo_del (hu : Tryz.prog.underlying tM = some (.map tSs tE)) {o : Oper} {a : Act} {P : Act → World → Prop} {Q : Exit → Act → World → Prop} (y z : Operand) (ho : o.op = .call { callee := .builtin .delete, args := #[y, z], argTypes := #[tM, tSs] }) (h : RowM w m T L) {s : Ss} (hs : inS s)
    (hy : a.eval y = .map (some m)) (hz : a.eval z = sv s) (hK : ∀ w', RowM w' m T (rm L s) → w.grownBy w' (some m) → P (a.put o.dst (.tuple #[])) w') : Oper.wp Tryz.prog o a w P Q := by
  obtain ⟨w', hr, h1, h2⟩ := h.del hu hs o.type
  unfold Oper.wp
  simp [execOp, ho, resolve, invoke, builtin, hy, hz, hr, Result.andThen]
  exact hK _ h1 h2
theorem wpo_upd (hu : Tryz.prog.underlying tM = some (.map tSs tE)) {o : Oper} {a : Act} {P : Act → World → Prop} {Q : Exit → Act → World → Prop} (y z u : Operand) (ho : o.op = .mapUpdate tM y z u) (h : RowM w m T L) {s : Ss} (hs : inS s) (v : Value) (t : Nat)
    (hy : a.eval y = .map (some m)) (hz : a.eval z = sv s) (hv : a.eval u = hdv (v, t)) (h0 : 1 ≤ t) (ht : ∀ x, x ∈ L → x.2.2 < t) (htT : t ≤ T) (hL : L.length ≤ 8192)
    (hK : ∀ w', RowM w' m T (rm L s ++ [(s, (v, t))]) → w.grownBy w' (some m) → P (a.put o.dst undef) w') : Oper.wp Tryz.prog o a w P Q := by
  obtain ⟨w', hr, h1, h2⟩ := h.put hu hs v t h0 ht htT hL
  unfold Oper.wp
  simp [execOp, ho, hy, hz, hv, hr, Result.andThen]
  exact hK _ h1 h2
end
/-- a ranging over a row: ds the sessions that have come -/
structure RngM (w : World) (m r T : Nat) (L : List (Ss × (Value × Nat))) (ds : List Ss) (cnt : Nat) : Prop where
  ex : ∃ D left, w.ranges Tryz.prog tSs selfR m r L.length D left cnt ∧ (∀ s, inS s → (Maps.has D (kS s) = true ↔ s ∈ ks L)) ∧ (∀ x, x ∈ L → ∀ y, D.atKey (kS x.1) y = .held (hdv x.2)) ∧ ∀ s, s ∈ ds ↔ s ∈ ks L ∧ left (kS s) = false
  nd : ds.Nodup
  nl : (ks L).Nodup
  rg : ∀ s, s ∈ ks L → inS s
theorem RngM.left_eq {r cnt : Nat} {ds : List Ss} (h : RngM w m r T L ds cnt) : w.rangeLeft m r = cnt := by
  obtain ⟨D, left, h1, -⟩ := h.ex
  exact h1.left_eq
theorem RngM.kept {r cnt : Nat} {ds : List Ss} (h : RngM w m r T L ds cnt) (hm : w'.heap[m]? = w.heap[m]?) (hr : w'.heap[r]? = w.heap[r]?) : RngM w' m r T L ds cnt := by
  obtain ⟨D, left, ⟨es, clock, since, seen, c0, h1, h2, h3, h4, h5, rest⟩, h6⟩ := h.ex
  exact ⟨⟨D, left, ⟨es, clock, since, seen, c0, hm.trans h1, h2, h3, h4, hr.trans h5, rest⟩, h6⟩, h.nd, h.nl, h.rg⟩
theorem RngM.lt {r cnt : Nat} {ds : List Ss} (h : RngM w m r T L ds cnt) : m < w.heap.size ∧ r < w.heap.size := by
  obtain ⟨D, left, h1, -⟩ := h.ex
  exact ⟨h1.owns.lt, h1.lt⟩
theorem RngM.alloc {r cnt : Nat} {ds : List Ss} (h : RngM w m r T L ds cnt) (ob : Obj) : RngM (w.alloc ob) m r T L ds cnt := h.kept (Below.heap_alloc _ _ _ h.lt.1) (Below.heap_alloc _ _ _ h.lt.2)
theorem RngM.set {r cnt : Nat} {ds : List Ss} (h : RngM w m r T L ds cnt) (b i : Nat) (v : Value) (hm : m ≠ b) (hr : r ≠ b) : RngM (w.setCell ⟨b, i, none⟩ v) m r T L ds cnt := h.kept (Below.heap_setCell _ _ _ _ hm) (Below.heap_setCell _ _ _ _ hr)
theorem RngM.drew {r cnt : Nat} {ds : List Ss} (h : RngM w m r T L ds cnt) : RngM w.drew m r T L ds cnt := h.kept rfl rfl
theorem RngM.sub {r cnt : Nat} {ds : List Ss} (h : RngM w m r T L ds cnt) : ds.length ≤ L.length := by
  obtain ⟨D, left, -, -, -, h4⟩ := h.ex
  have := nd_sub h.nd (fun s hs => ((h4 s).1 hs).1)
  rw [len_ks] at this
  exact this
section
variable {tM tE : TypeId}
theorem wpn_range (hu : Tryz.prog.underlying tM = some (.map tSs tE)) {ops : Array Oper} {rest : List Oper} {o : Oper} {a : Act} {Q : Exit → Act → World → Prop} (hg : o.guard = none) (y : Operand) (ho : o.op = Op.range tM y) (h : RowM w m T L) (hy : a.eval y = .map (some m))
    (hK : ∀ w', RngM w' m w.heap.size T L [] L.length → w.grownBy w' none → w'.heap.size = w.heap.size + 1 → wpList Tryz.prog ops Q rest (a.put o.dst (.pointer (some ⟨w.heap.size, 0, none⟩))) w') : wpList Tryz.prog ops Q (o :: rest) a w := by
  obtain ⟨D, h1, h2, h3, h4⟩ := h.own
  refine wpList_range_own w hg y tM ho tSs tE keyS hu selfR m L.length D hy h1 ?_
  intro w' h5 h6 h7
  rw [h2] at h5
  refine hK w' ⟨⟨D, _, h5, h3, h4, fun s => ?_⟩, List.nodup_nil, h.nd, h.rg⟩ h6 h7
  constructor
  · intro h8; cases h8
  · rintro ⟨h8, h9⟩
    rw [(h3 s (h.rg s h8)).2 h8] at h9
    cases h9
end
theorem wpn_next {ops : Array Oper} {rest : List Oper} {o : Oper} {a : Act} {Q : Exit → Act → World → Prop} {r cnt : Nat} {ds : List Ss} (hg : o.guard = none) (it : Operand) (ho : o.op = Op.next it false) (h : RngM w m r T L ds cnt) (hit : a.eval it = .pointer (some ⟨r, 0, none⟩))
    (hDone : (∀ s, s ∈ ds ↔ s ∈ ks L) → wpList Tryz.prog ops Q rest (a.put o.dst (.tuple #[.bool false])) w)
    (hMore : ∀ (x : Ss × (Value × Nat)) (w' : World) (cnt' : Nat), x ∈ L → x.1 ∉ ds → RngM w' m r T L (ds ++ [x.1]) cnt' → cnt' < cnt → w.grownBy w' (some r) → w'.heap.size = w.heap.size → (Instr.entry (.pointer (some ⟨r, 0, none⟩))).run Tryz.prog w' = .ok (.tuple #[sv x.1, hdv x.2]) w' → wpList Tryz.prog ops Q rest (a.put o.dst (.tuple #[.bool true, sv x.1, hdv x.2])) w') :
    wpList Tryz.prog ops Q (o :: rest) a w := by
  obtain ⟨D, left, h1, h3, h4, h5⟩ := h.ex
  refine wpList_next_ranges w hg it ho tSs keyS selfR (α := Ss) (β := Value) sv (fun v => v) (fun key kl hk => by obtain ⟨s, e, -⟩ := kS_inv hk; exact ⟨s, e⟩) (fun v y _ => ⟨v, rfl⟩) m r L.length D left cnt hit h1 ?_ ?_
  · intro _ hl
    exact hDone (fun s => by rw [h5 s]; simp [hl])
  · intro x c kl y w' cnt' hk hl hc hat hrg hlt hgr hsz hen
    have hx : inS x := by
      obtain ⟨s, e, h9⟩ := kS_inv hk
      rw [sv_inj e]
      exact h9
    obtain rfl : kl = kS x := by rw [kS_of hx] at hk; exact (Option.some.inj hk).symm
    have hin : x ∈ ks L := (h3 x hx).1 (has_true_of_atKey hat)
    obtain ⟨e, he, rfl⟩ := List.mem_map.1 hin
    have hce : c = hdv e.2 := by
      have h9 := hat (.held c)
      rw [h4 e he] at h9
      simp only [selfR, Option.some.injEq] at hc
      rw [← hc] at h9
      exact (DataW.held.inj h9).symm
    subst hce
    have hnd : e.1 ∉ ds := fun h9 => by
      have h8 := ((h5 _).1 h9).2
      rw [hl] at h8
      cases h8
    refine hMore e w' cnt' he hnd ⟨⟨D, _, hrg, h3, h4, fun s => ?_⟩, ?_, h.nl, h.rg⟩ hlt hgr hsz hen
    · rw [List.mem_append, List.mem_singleton, h5 s]
      constructor
      · rintro (⟨h8, h9⟩ | rfl)
        · exact ⟨h8, by rw [h9]; rfl⟩
        · exact ⟨hin, by rw [WideAt.sameKey_self (kS_key hx)]; simp⟩
      · rintro ⟨h8, h9⟩
        by_cases e9 : s = e.1
        · exact .inr e9
        · refine .inl ⟨h8, ?_⟩
          rw [sameKey_ne (kS_ne (h.rg s h8) hx e9)] at h9
          simpa using h9
    · rw [List.nodup_append]
      refine ⟨h.nd, by simp, fun a1 ha b1 hb => ?_⟩
      rw [List.mem_singleton.1 hb]
      intro e9
      exact hnd (e9 ▸ ha)
theorem fit_none (clock : Nat) : WideElems.Fit Tryz.prog tSs selfR #[] clock := ⟨Nat.zero_le _, by simp [MapKept.Stamped], fun x hx => by simp at hx⟩
theorem RowM.nil {cl : Nat} (h : w.heap[m]? = some (.map #[] cl)) (T : Nat) : RowM w m T [] :=
  ⟨⟨.map [], ⟨#[], cl, h, fit_none cl, Nat.zero_le _, rfl⟩, rfl, fun s _ => by simp [Maps.has, ks], fun x hx => by cases hx⟩, by simp [ks], fun s hs => by simp [ks] at hs, List.Pairwise.nil, fun x hx => by cases hx⟩
end
end Go.Proofs.YtdoikcolkbjnfaaGreat
