import Derived.Test.YtgdkiejlggiakaaDWrite
import Derived.Maps.RangeWalk
import Derived.MapFrom
namespace Go.Proofs.Ytgdkiejlggiakaa
set_option linter.unusedVariables false
set_option linter.unusedSimpArgs false
open Go.RowKit Go.Maps
theorem fit_empty (clock : Nat) : WideElems.Fit Try.prog 3 selfR #[] clock := ⟨Nat.zero_le _, by simp [MapKept.Stamped], fun x hx => by simp at hx⟩
theorem cache_none {w : World} {m N : Nat} {cl : Nat} (h : w.heap[m]? = some (.map #[] cl)) (n : Nat) : CacheAt w m N n (fun _ => []) (fun _ => nilS) := by
  refine ⟨⟨.map [], ⟨#[], cl, h, fit_empty cl, Nat.zero_le _, rfl⟩, fun i hi => absurd rfl hi, fun kl hk => ?_⟩, fun _ _ => rfl, fun _ => World.ownsRow_nil _ _ _ _, fun _ t ht => ?_, fun i j b hb => ?_, fun _ => Nat.zero_le _, fun i hi => absurd rfl hi⟩
  · simp [Maps.has] at hk
  · exact absurd ht (List.not_mem_nil)
  · simp [nilS, Value.ownBlock] at hb
theorem presS_none (s : Sec) : presS s [] = s := by simp [presS, afterS]
theorem presS_fit {s : Sec} (h : s.fit) {vs : List (List UInt8)} (hv : ∀ t ∈ vs, t.length = 128) : (presS s vs).fit := by
  unfold presS afterS
  split
  · exact h
  · split
    · rename_i h1 h2
      refine ⟨hv _ ?_, fun e => by cases e⟩
      rw [List.getD_eq_getElem?_getD, List.getElem?_eq_getElem (by omega), Option.getD_some]
      exact List.getElem_mem _
    · exact Sec.bad_fit
/-- the sectors, where those that are not left have come to be what they are at present -/
def flP (S : List Sec) (C : Nat → List (List UInt8)) (left : Lit → Bool) : List Sec := S.mapIdx fun k s => if left (kI k) then s else presS s (C k)
def flushed (S : List Sec) (C : Nat → List (List UInt8)) : List Sec := S.mapIdx fun k s => presS s (C k)
theorem flP_len (S : List Sec) (C : Nat → List (List UInt8)) (left : Lit → Bool) : (flP S C left).length = S.length := by simp [flP]
theorem flP_start (S : List Sec) (C : Nat → List (List UInt8)) (left : Lit → Bool) (h : ∀ k, k < S.length → C k ≠ [] → left (kI k) = true) : flP S C left = S := by
  apply List.ext_getElem (flP_len S C left)
  intro k h1 h2
  simp only [flP, List.getElem_mapIdx]
  by_cases hc : C k = []
  · rw [hc, presS_none]; split <;> rfl
  · rw [if_pos (h k h2 hc)]
theorem flP_end (S : List Sec) (C : Nat → List (List UInt8)) (left : Lit → Bool) (h : ∀ kl, left kl = false) : flP S C left = flushed S C := by
  unfold flP flushed
  simp only [h, Bool.false_eq_true, if_false]
theorem flP_fit {S : List Sec} (hs : ∀ s ∈ S, s.fit) {C : Nat → List (List UInt8)} (hv : ∀ i t, t ∈ C i → t.length = 128) (left : Lit → Bool) : ∀ s ∈ flP S C left, s.fit := by
  intro s h
  obtain ⟨k, hk, rfl⟩ := List.getElem_of_mem h
  simp only [flP, List.getElem_mapIdx]
  have hk' : k < S.length := by rw [flP_len] at hk; exact hk
  split
  · exact hs _ (List.getElem_mem hk')
  · exact presS_fit (hs _ (List.getElem_mem hk')) (hv k)
theorem flP_at {S : List Sec} {C : Nat → List (List UInt8)} {left : Lit → Bool} {i : Nat} (hi : i < (flP S C left).length) (hl : left (kI i) = true) : (flP S C left)[i] = S[i]'(by rw [flP_len] at hi; exact hi) := by
  simp only [flP, List.getElem_mapIdx, hl, if_true]
theorem flP_step (S : List Sec) (C : Nat → List (List UInt8)) (left : Lit → Bool) (i : Nat) (hi : i < (flP S C left).length) (hN : S.length ≤ 65536) (hl : left (kI i) = true) : (flP S C left).set i (presS (flP S C left)[i] (C i)) = flP S C (fun z => left z && !z.sameKey (kI i)) := by
  have hi' : i < S.length := by rw [flP_len] at hi; exact hi
  apply List.ext_getElem (by simp [flP])
  intro k h1 h2
  have hk : k < S.length := by rw [flP_len] at h2; exact h2
  rw [List.getElem_set]
  by_cases e : i = k
  · subst e
    rw [if_pos rfl, flP_at hi hl]
    simp only [flP, List.getElem_mapIdx, WideAt.sameKey_self (kI_key (show i ≤ 65536 by omega)), Bool.not_true, Bool.and_false, Bool.false_eq_true, if_false]
  · rw [if_neg e]
    have hs : (kI k).sameKey (kI i) = false := by
      cases h : (kI k).sameKey (kI i)
      · rfl
      · exact absurd (WideAt.sameKey_eq h) (kI_ne (Ne.symm e))
    simp only [flP, List.getElem_mapIdx, hs, Bool.not_false, Bool.and_true]
theorem run_clear {w : World} {m : Nat} {es : Array MapEntry} {cl : Nat} (h : w.heap[m]? = some (.map es cl)) (ty : TypeId) : (Builtin.clear_ #[55] ty #[.map (some m)]).run Try.prog w = .ok (.tuple #[]) (ChangeMaps.setBlock w m (.map #[] cl)) := by
  simp [Builtin.clear_, run_underlying Try.underlying55, MapKept.run_getObj_map h, MapKept.run_setObj_map _ h, Result.andThen, ChangeMaps.setBlock]
/-- a sector of the disk stored -/
theorem DK.setSec {w : World} {p g m : Nat} {S : List Sec} {C : Nat → List (List UInt8)} {V : Nat → Value} {off : Bool} {fuse : Int} {n : Nat} (h : DK w p g m S C V off fuse n) (k : Nat) (hk : k < S.length) (y : Sec) (hy : y.fit) : DK (w.setCells g (k * 129) y.cells) p g m (S.set k y) C V off fuse n := by
  have hl : (S.set k y).length = S.length := by simp
  have hne := h.ne
  have hok := fit_ok h.fit
  have hc : Chg (fun b => b = g) w (w.setCells g (k * 129) y.cells) := Chg.of_grown (setCells_grown g y.cells (k * 129) w) (fun b hb => by cases hb; rfl)
  refine ⟨fun s hs => ?_, by rw [hl]; exact h.one, by rw [hl]; exact h.most, ?_, ?_, ?_, h.few, h.fu⟩
  · rcases List.mem_or_eq_of_mem_set hs with h1 | rfl
    · exact h.fit s h1
    · exact hy
  · rw [hl]; exact (hc.block p (h.lt (.inl rfl)) hne.1).trans h.hp
  · have h1 : k * 129 + y.cells.length ≤ (secs S).length := by
      rw [secs_len hok, Sec.cells_len hy.1]
      have : (k + 1) * 129 ≤ S.length * 129 := Nat.mul_le_mul_right _ hk
      omega
    rw [← secs_set hok k hk y hy.1]
    exact heap_setCells g _ y.cells (k * 129) (secs S) w h.hg h1
  · rw [hl]; exact h.cache.kept hc (fun e => hne.2.2 e.symm) (fun i b hb e => by subst e; exact (h.apartV i).2.1 hb)
/-- the cache emptied -/
theorem DK.cleared {w w' : World} {p g m : Nat} {S : List Sec} {C : Nat → List (List UInt8)} {V : Nat → Value} {off : Bool} {fuse : Int} {n : Nat} (h : DK w p g m S C V off fuse n) {cl : Nat} (hm : w'.heap[m]? = some (.map #[] cl)) (hc : Chg (fun b => b = m) w w') : DK w' p g m S (fun _ => []) (fun _ => nilS) off fuse 0 := by
  have hne := h.ne
  exact ⟨h.fit, h.one, h.most, (hc.block p (h.lt (.inl rfl)) hne.2.1).trans h.hp, (hc.block g (h.lt (.inr (.inl rfl))) hne.2.2).trans h.hg, cache_none hm 0, by decide, h.fu⟩
theorem setBlock_chg {w : World} {m : Nat} {es : Array MapEntry} {cl : Nat} (h : w.heap[m]? = some (.map es cl)) : (ChangeMaps.setBlock w m (.map #[] cl)).heap[m]? = some (.map #[] cl) ∧ Chg (fun b => b = m) w (ChangeMaps.setBlock w m (.map #[] cl)) :=
  ⟨ChangeMaps.heap_setBlock_same h _, ⟨rfl, rfl, rfl, by simp [ChangeMaps.setBlock], fun k _ hk => ChangeMaps.heap_setBlock_other h _ hk⟩⟩
end Go.Proofs.Ytgdkiejlggiakaa
