import Derived.Test.YtpakkpahcpgnnaaGreatDoorRows
import Derived.WalkKit
import Derived.WalkSpells
import Derived.WalkLawsBesides
import Derived.Laws.IdiomStrings
import Derived.Deep.RegionHeld3
import Derived.Deep.QuietTactic
import Derived.BigQuiet
import Derived.DeepKeys4
import Derived.Maps.OwnSet
import Derived.Maps.RangeWalk
import Derived.MapFrom
set_option linter.unusedVariables false
set_option linter.unusedSimpArgs false
namespace Go.Proofs.YtpakkpahcpgnnaaGreatDoor
open Go.RowKit
theorem bR (B : Nat) (w : World) : Below B w w := Below.refl B w
theorem cR {w : World} {g j : Nat} {cs : Array Value} {t : TypeId} {fr : Nat × Nat} (hg : w.heap[g]? = some (.cells cs t fr)) : w.cell? ⟨g, j, none⟩ = cs[j]? := cell_of_row w g j cs t fr hg
theorem sI {α : Type} {xs : Array α} {i : Nat} {a : α} (h : xs[i]? = some a) : ∃ h : i < xs.size, xs[i] = a := Array.getElem?_eq_some_iff.1 h
def Rd (w : World) (ao : Option Addr) (xs : List UInt8) : Prop :=
 0 < xs.length → ∃ b o, ao = some ⟨b, o, none⟩ ∧ ∀ i (h : i < xs.length), w.cell? ⟨b, o + i, none⟩ = some (.int .u8 (xs[i].toNat : Int))
def bv (xs : List UInt8) : List Value := xs.map fun b => .int .u8 (b.toNat : Int)
def Own (w : World) (B : Nat) (v : Value) (xs : List UInt8) : Prop := w.ownsRow B 5 1 v xs.length (bv xs)
theorem bv_length (xs : List UInt8) : (bv xs).length = xs.length := by simp [bv]
theorem bv_append (xs ys : List UInt8) : bv (xs ++ ys) = bv xs ++ bv ys := by simp [bv]
theorem bv_get (xs : List UInt8) (i : Nat) (h : i < xs.length) : (bv xs)[i]? = some (.int .u8 (xs[i].toNat : Int)) := by simp [bv, h]
theorem bv_one (xs : List UInt8) : ∀ u ∈ bv xs, u.oneCell' = true := by
 intro u hu; simp only [bv, List.mem_map] at hu; obtain ⟨b, _, rfl⟩ := hu
 rfl
theorem Rd.below {w w' : World} {ao : Option Addr} {xs : List UInt8} (h : Rd w ao xs) (hb : Below w.heap.size w w') : Rd w' ao xs := by
 intro hp; obtain ⟨b, o, rfl, hc⟩ := h hp; refine ⟨b, o, rfl, fun i hi => ?_⟩; have h1 := hc i hi; exact (hb.cell (World.block_lt_of_cell? w _ h1)).trans h1
theorem Rd.grown {w w' : World} {ao : Option Addr} {xs : List UInt8} {row : Option Nat} (h : Rd w ao xs) (hg : w.grownBy w' row) (hne : ∀ a, ao = some a → some a.block ≠ row) : Rd w' ao xs := by
 intro hp; obtain ⟨b, o, rfl, hc⟩ := h hp; exact ⟨b, o, rfl, fun i hi => hg.cell (hc i hi) (hne ⟨b, o, none⟩ rfl)⟩
theorem Rd.alloc {w : World} {ao : Option Addr} {xs : List UInt8} (h : Rd w ao xs) (o : Obj) : Rd (w.alloc o) ao xs := h.below ((bR _ _).alloc (Nat.le_refl _) o)
theorem Rd.take {w : World} {ao : Option Addr} {xs : List UInt8} (h : Rd w ao xs) (k : Nat) : Rd w ao (xs.take k) := by
 intro hp; obtain ⟨b, o, e, hc⟩ := h (by simp at hp; omega); refine ⟨b, o, e, fun i hi => ?_⟩; rw [hc i (by simp at hi; omega), List.getElem_take]
theorem Rd.nil (w : World) (ao : Option Addr) : Rd w ao [] := fun h => absurd h (Nat.lt_irrefl 0)
theorem Own.val {w : World} {B : Nat} {v : Value} {xs : List UInt8} (h : Own w B v xs) :
 ∃ ao cap, v = .slice ao xs.length cap ∧ xs.length ≤ cap ∧ cap ≤ maxLen ∧ (ao = none → cap = 0) ∧ Rd w ao xs ∧ (∀ a, ao = some a → B ≤ a.block ∧ a.block < w.heap.size) := by
 have hlt := World.ownsRow.lt h; rcases h.2 with ⟨rfl, h0⟩ | ⟨g, cap, cur, rfl, hB, hg, hn, hm, hs, ht⟩
 · obtain rfl : xs = [] := List.eq_nil_of_length_eq_zero h0; exact ⟨none, 0, rfl, Nat.le_refl _, Nat.zero_le _, fun _ => rfl, Rd.nil _ _, fun a ha => by cases ha⟩
 · refine ⟨some ⟨g, 0, none⟩, cap, rfl, hn, hm, (fun h => by cases h), fun hp => ⟨g, 0, rfl, fun i hi => ?_⟩, fun a ha => by cases ha; exact hlt g rfl⟩; have h1 := World.ownsRow.cellAt h i (by omega); rw [Nat.zero_add, h1, bv_get xs i hi]
theorem Own.below {w w' : World} {B : Nat} {v : Value} {xs : List UInt8} (h : Own w B v xs) (hb : Below w.heap.size w w') : Own w' B v xs :=
 World.ownsRow.kept h ⟨hb.os, hb.tape, hb.output, hb.size, fun k hk _ => hb.block k hk⟩ (by cases hv : v.ownBlock <;> simp) (row := none)
theorem Own.base {w : World} {B B' : Nat} {v : Value} {xs : List UInt8} (h : Own w B v xs) (hB : B' ≤ B) : Own w B' v xs := by
 refine ⟨h.1, ?_⟩; rcases h.2 with h0 | ⟨g, cap, cur, hv, hg, r⟩
 · exact .inl h0
 · exact .inr ⟨g, cap, cur, hv, Nat.le_trans hB hg, r⟩
theorem _root_.Go.World.grownBy.trans' {a b c : World} {row : Option Nat} (h : a.grownBy b row) (k : b.grownBy c row) : a.grownBy c row :=
 ⟨k.os.trans h.os, k.tape.trans h.tape, k.output.trans h.output, Nat.le_trans h.size k.size, fun i hi hr => (k.block i (Nat.lt_of_lt_of_le hi h.size) hr).trans (h.block i hi hr)⟩
theorem _root_.Go.World.grownBy.any {a b : World} (h : a.grownBy b none) (row : Option Nat) : a.grownBy b row :=
 ⟨h.os, h.tape, h.output, h.size, fun i hi _ => h.block i hi (by simp)⟩
theorem below_next {B u v : World} (hu : Below B.heap.size B u) (h : Below u.heap.size u v) : Below B.heap.size B v := hu.trans (h.mono hu.size)
theorem own_set {w : World} {B g cap : Nat} {ys : List UInt8} (h : Own w B (.slice (some ⟨g, 0, none⟩) ys.length cap) ys) (i : Nat) (c : UInt8) (z : Int) (hz : z = (c.toNat : Int)) :
 Own (w.setCell ⟨g, i, none⟩ (.int .u8 z)) B (.slice (some ⟨g, 0, none⟩) ys.length cap) (ys.set i c) ∧ w.grownBy (w.setCell ⟨g, i, none⟩ (.int .u8 z)) (some g) := by
 subst hz; have h1 := World.ownsRow.stored h i (.int .u8 (c.toNat : Int)); refine ⟨?_, h1.2⟩; unfold Own; rw [List.length_set]; have e : bv (ys.set i c) = (bv ys).set i (.int .u8 (c.toNat : Int)) := by simp [bv, List.map_set]
 rw [e]; exact h1.1
open Go.RowKit
section
variable {P : Program} {ops : Array Oper} {Q : Exit → Act → World → Prop} {md : Region.Mode} {S : World → Prop}
theorem take_at {i : Nat} (d : Nat) {oi : Oper} {v : Value} {fuel : Nat} {listed : Array Bool} {a : Act} {w : World} (hi : ops[i]? = some oi) (hd : oi.dst = some d)
 (hs : Region.noSelect ops = true) (hf : Region.free md ops listed i = true) (hr : (Region.ready md ops listed).contains i = true)
 (hQ : ∀ c a w, Q (.panic c) (a.put (some d) v) w → Q (.panic c) a w) (hw : Region.wanted oi (yielded ops a.tmps) = true) (hy : ∀ w, S w → (execOp a.eval oi).run P w = .ok (.value v) w) (hS : S w)
 (h : wpAnyH P md ops Q S fuel (listed.setIfInBounds i true) (a.put (some d) v) w) : wpAnyH P md ops Q S (fuel + 1) listed a w :=
 wpAnyH_take hi hs hf hr (by rw [hd]; exact hQ) (.inl ⟨hw, hy⟩) hS (by rw [hd]; exact h)
theorem skip_at {i : Nat} (d : Nat) {oi : Oper} {fuel : Nat} {listed : Array Bool} {a : Act} {w : World} (hi : ops[i]? = some oi) (hd : oi.dst = some d)
 (hs : Region.noSelect ops = true) (hf : Region.free md ops listed i = true) (hr : (Region.ready md ops listed).contains i = true)
 (hQ : ∀ c a w, Q (.panic c) (a.put (some d) undef) w → Q (.panic c) a w) (hw : Region.wanted oi (yielded ops a.tmps) = false) (hS : S w)
 (h : wpAnyH P md ops Q S fuel (listed.setIfInBounds i true) (a.put (some d) undef) w) : wpAnyH P md ops Q S (fuel + 1) listed a w :=
 wpAnyH_take hi hs hf hr (by rw [hd]; exact hQ) (.inr ⟨hw, rfl⟩) hS (by rw [hd]; exact h)
theorem val_at {i : Nat} (d : Nat) {oi : Oper} {v : Value} {fuel : Nat} {listed : Array Bool} {a : Act} {w : World} (hi : ops[i]? = some oi) (hd : oi.dst = some d) (hr : Region.ready md ops listed = [i])
 (hw : Region.wanted oi (yielded ops a.tmps) = true) (hrun : (execOp a.eval oi).run P w = .ok (.value v) w) (hS : S w)
 (h : S w → wpAnyH P md ops Q S fuel (listed.setIfInBounds i true) (a.put (some d) v) w) : wpAnyH P md ops Q S (fuel + 1) listed a w := by
 refine wpAnyH_ready hr (by simp) (AllReadyH.cons hi (fun K' hK => ?_) AllReadyH.nil); rw [if_pos hw]; unfold Oper.wp; rw [hrun]; show K' (a.put oi.dst v) w; rw [hd]; exact hK.out _ _ hS h
theorem run_at {i : Nat} {oi : Oper} {fuel : Nat} {listed : Array Bool} {a : Act} {w : World} (hi : ops[i]? = some oi) (hr : Region.ready md ops listed = [i])
 (hw : Region.wanted oi (yielded ops a.tmps) = true)
 (h : ∀ K' : Act → World → Prop, Shut (∀ a w, S w → (S w → wpAnyH P md ops Q S fuel (listed.setIfInBounds i true) a w) → K' a w) → Oper.wp P oi a w K' Q) : wpAnyH P md ops Q S (fuel + 1) listed a w := by
 refine wpAnyH_ready hr (by simp) (AllReadyH.cons hi (fun K' hK => ?_) AllReadyH.nil); rw [if_pos hw]; exact h K' hK
theorem tk (i d : Nat) {oi : Oper} {v : Value} {fuel : Nat} {listed : Array Bool} {a : Act} {w : World} (hy : ∀ w, S w → (execOp a.eval oi).run P w = .ok (.value v) w) (hS : S w)
 (h : wpAnyH P md ops Q S fuel (listed.setIfInBounds i true) (a.put (some d) v) w) (hi : ops[i]? = some oi := by exact rfl) (hd : oi.dst = some d := by exact rfl) (hs : Region.noSelect ops = true := by kernel_rfl) (hf : Region.free md ops listed i = true := by kernel_rfl) (hr : (Region.ready md ops listed).contains i = true := by kernel_rfl)
 (hQ : ∀ c a w, Q (.panic c) (a.put (some d) v) w → Q (.panic c) a w := by exact fun _ _ _ h => h) (hw : Region.wanted oi (yielded ops a.tmps) = true := by rfl) : wpAnyH P md ops Q S (fuel + 1) listed a w :=
 take_at d hi hd hs hf hr hQ hw hy hS h
theorem tz (i d : Nat) {oi : Oper} {v : Value} {fuel : Nat} {listed : Array Bool} {a : Act} {w : World} (hS : S w)
 (h : wpAnyH P md ops Q S fuel (listed.setIfInBounds i true) (a.put (some d) v) w) (hi : ops[i]? = some oi := by exact rfl) (hd : oi.dst = some d := by exact rfl) (hy : ∀ w, S w → (execOp a.eval oi).run P w = .ok (.value v) w := by (intro w hSw; (try dsimp only at hSw); go_simp; try with_reducible rfl)) (hs : Region.noSelect ops = true := by kernel_rfl) (hf : Region.free md ops listed i = true := by kernel_rfl) (hr : (Region.ready md ops listed).contains i = true := by kernel_rfl)
 (hQ : ∀ c a w, Q (.panic c) (a.put (some d) v) w → Q (.panic c) a w := by exact fun _ _ _ h => h) (hw : Region.wanted oi (yielded ops a.tmps) = true := by rfl) : wpAnyH P md ops Q S (fuel + 1) listed a w :=
 take_at d hi hd hs hf hr hQ hw hy hS h
theorem pS : (∀ (a : Act) (d : Nat) (v : Value), a.put (some d) v = { a with tmps := a.tmps.setIfInBounds d v }) ∧ (∀ (l : List Value) (i : Nat) (v : Value), l.toArray.setIfInBounds i v = (l.set i v).toArray) ∧ (∀ (x : Value) (l : List Value) (v : Value), (x :: l).set 0 v = v :: l) ∧ (∀ (x : Value) (l : List Value) (n : Nat) (v : Value), (x :: l).set (n + 1) v = x :: l.set n v) ∧ (∀ (x : Bool) (l : List Bool) (v : Bool), (x :: l).set 0 v = v :: l) ∧ (∀ (x : Bool) (l : List Bool) (n : Nat) (v : Bool), (x :: l).set (n + 1) v = x :: l.set n v) ∧ (∀ (l : List Bool) (i : Nat) (v : Bool), l.toArray.setIfInBounds i v = (l.set i v).toArray) :=
 ⟨fun _ _ _ => rfl, fun _ _ _ => List.setIfInBounds_toArray _ _ _, fun _ _ _ => rfl, fun _ _ _ _ => rfl, fun _ _ _ => rfl, fun _ _ _ _ => rfl, fun _ _ _ => List.setIfInBounds_toArray _ _ _⟩
theorem qS (i d : Nat) {oi : Oper} {fuel : Nat} {listed : Array Bool} {a : Act} {w : World} (hS : S w)
 (h : wpAnyH P md ops Q S fuel (listed.setIfInBounds i true) (a.put (some d) undef) w) (hi : ops[i]? = some oi := by exact rfl) (hd : oi.dst = some d := by exact rfl) (hs : Region.noSelect ops = true := by kernel_rfl) (hf : Region.free md ops listed i = true := by kernel_rfl) (hr : (Region.ready md ops listed).contains i = true := by kernel_rfl)
 (hQ : ∀ c a w, Q (.panic c) (a.put (some d) undef) w → Q (.panic c) a w := by exact fun _ _ _ h => h) (hw : Region.wanted oi (yielded ops a.tmps) = false := by rfl) : wpAnyH P md ops Q S (fuel + 1) listed a w :=
 skip_at d hi hd hs hf hr hQ hw hS h
theorem gE {α : Type} : (∀ (xs : List α) (i : Nat) (h : i < xs.toArray.size), xs.toArray[i]'h = xs[i]'(by simpa using h)) ∧ (∀ (a : α) (l : List α) (h : 0 < (a :: l).length), (a :: l)[0]'h = a) ∧ (∀ (a : α) (l : List α) (i : Nat) (h : i + 1 < (a :: l).length), (a :: l)[i + 1]'h = l[i]'(by simpa using h)) :=
 ⟨fun _ _ _ => List.getElem_toArray _, fun _ _ _ => rfl, fun _ _ _ _ => rfl⟩
end
theorem gnd_sub {κ : Type} [DecidableEq κ] : ∀ {a b : List κ}, a.Nodup → (∀ x, x ∈ a → x ∈ b) → a.length ≤ b.length
 | [], b => fun _ _ => Nat.zero_le _
 | x :: r, b => fun h hs => by
  obtain ⟨h1, h2⟩ := List.nodup_cons.1 h; have hx := hs x List.mem_cons_self; have h3 := gnd_sub (b := b.erase x) h2 (fun y hy => (List.mem_erase_of_ne (fun e : y = x => h1 (by rw [← e]; exact hy))).2 (hs y (List.mem_cons_of_mem _ hy))); rw [List.length_erase_of_mem hx] at h3; have := List.length_pos_of_mem hx; simp only [List.length_cons]; omega
section
variable {κ α β : Type}
def gk (L : List (κ × α)) : List κ := L.map (fun x => x.1)
def gl [DecidableEq κ] : List (κ × α) → κ → Option α
 | [], _ => none
 | x :: r, s => if x.1 = s then some x.2 else gl r s
def gr [DecidableEq κ] (L : List (κ × α)) (s : κ) : List (κ × α) := L.filter (fun x => decide (x.1 ≠ s))
theorem len_gk (L : List (κ × α)) : (gk L).length = L.length := by simp [gk]
theorem gl_none [DecidableEq κ] : ∀ {L : List (κ × α)} {s : κ}, gl L s = none ↔ s ∉ gk L
 | [], s => by simp [gl, gk]
 | x :: r, s => by
  unfold gl
  by_cases h : x.1 = s
  · rw [if_pos h]; simp [gk, h]
  · rw [if_neg h, gl_none]; have h' : ¬ s = x.1 := fun e => h e.symm
    simp [gk, h']
theorem gl_mem [DecidableEq κ] : ∀ {L : List (κ × α)} {s : κ} {a : α}, gl L s = some a → (s, a) ∈ L
 | [], s, a => fun h => by cases h
 | x :: r, s, a => fun h => by
  unfold gl at h
  by_cases e : x.1 = s
  · rw [if_pos e] at h; cases h; subst e; exact List.mem_cons_self
  · rw [if_neg e] at h; exact List.mem_cons_of_mem _ (gl_mem h)
theorem mem_gk {L : List (κ × α)} {x : κ × α} (h : x ∈ L) : x.1 ∈ gk L := List.mem_map.2 ⟨x, h, rfl⟩
theorem gk_gr [DecidableEq κ] (L : List (κ × α)) (s : κ) : gk (gr L s) = (gk L).filter (fun y => decide (y ≠ s)) := by simp [gk, gr, List.filter_map, Function.comp_def]
theorem mem_gr [DecidableEq κ] {L : List (κ × α)} {s : κ} {x : κ × α} : x ∈ gr L s ↔ x ∈ L ∧ x.1 ≠ s := by simp [gr]
theorem mem_gk_gr [DecidableEq κ] {L : List (κ × α)} {s y : κ} : y ∈ gk (gr L s) ↔ y ∈ gk L ∧ y ≠ s := by rw [gk_gr]; simp
theorem gr_not [DecidableEq κ] {L : List (κ × α)} {s : κ} (h : s ∉ gk L) : gr L s = L := by
 unfold gr; rw [List.filter_eq_self]; intro x hx; simp only [decide_eq_true_eq]; exact fun e => h (e ▸ mem_gk hx)
theorem gr_len [DecidableEq κ] : ∀ {L : List (κ × α)} (s : κ), (gk L).Nodup → (gr L s).length + (if s ∈ gk L then 1 else 0) = L.length
 | [], s => fun _ => by simp [gr, gk]
 | x :: r, s => fun h => by
  obtain ⟨h1, h2⟩ := List.nodup_cons.1 (show (x.1 :: gk r).Nodup from h); have h3 := gr_len s h2
  by_cases e : x.1 = s
  · subst e
    have h4 : gr (x :: r) x.1 = r := by
     unfold gr; rw [List.filter_cons_of_neg (by simp)]; exact gr_not h1
    rw [h4, if_pos (mem_gk List.mem_cons_self)]
    rfl
  · have h4 : gr (x :: r) s = x :: gr r s := by
     unfold gr; rw [List.filter_cons_of_pos (by simpa using e)]
    have h5 : s ∈ gk (x :: r) ↔ s ∈ gk r := by
     show s ∈ x.1 :: gk r ↔ _; rw [List.mem_cons]; exact ⟨fun h => h.resolve_left (fun e9 => e e9.symm), .inr⟩
    rw [h4]; simp only [List.length_cons, h5]; omega
theorem gr_nd [DecidableEq κ] {L : List (κ × α)} (h : (gk L).Nodup) (s : κ) : (gk (gr L s)).Nodup := by rw [gk_gr]; exact h.filter _
theorem gsnoc_nd {L : List (κ × α)} (h : (gk L).Nodup) {s : κ} (hs : s ∉ gk L) (a : α) : (gk (L ++ [(s, a)])).Nodup := by
 have e : gk (L ++ [(s, a)]) = gk L ++ [s] := by simp [gk]
 rw [e]; refine List.nodup_append.2 ⟨h, by simp, fun y hy z hz e2 => ?_⟩; rw [List.mem_singleton] at hz; rw [e2, hz] at hy; exact hs hy
end
open Go.RowKit Go.Maps
def selfG (v : Value) : Option (DataW Value × List MemPlace) := some (.held v, [])
structure Kk (κ ν : Type) where
 t : TypeId
 kv : κ → Value
 kl : κ → Lit
 ok : κ → Prop
 vv : ν → Value
 keyed : Keyed Tryz.prog t
 of : ∀ {s}, ok s → keyOf Tryz.prog t (kv s) = some (kl s)
 inj : ∀ {s u}, kv s = kv u → s = u
 inv : ∀ {v l}, keyOf Tryz.prog t v = some l → ∃ s, v = kv s ∧ ok s
section
variable {κ ν : Type} {K : Kk κ ν}
theorem Kk.ne {s u : κ} (hs : K.ok s) (hu : K.ok u) (h : s ≠ u) : K.kl s ≠ K.kl u := fun e => h (K.inj (K.keyed.inj (K.of hs) (by rw [e]; exact K.of hu)))
theorem Kk.key {s : κ} (h : K.ok s) : WideAt.IsKeyLit (K.kl s) := K.keyed.key (K.of h)
structure MapG (K : Kk κ ν) (w : World) (m : Nat) (L : List (κ × ν)) : Prop where
 own : ∃ D, w.ownsMap Tryz.prog K.t selfG m L.length D ∧ Maps.size D = L.length ∧ (∀ s, K.ok s → (Maps.has D (K.kl s) = true ↔ s ∈ gk L)) ∧ ∀ x, x ∈ L → ∀ y, D.atKey (K.kl x.1) y = .held (K.vv x.2)
 nd : (gk L).Nodup
 rg : ∀ s, s ∈ gk L → K.ok s
section
variable {w w' : World} {m : Nat} {L : List (κ × ν)}
theorem MapG.at_ (h : MapG K w m L) : ∃ es cl, w.heap[m]? = some (.map es cl) := by
 obtain ⟨D, ⟨es, cl, h1, -⟩, -⟩ := h.own; exact ⟨es, cl, h1⟩
theorem MapG.lt (h : MapG K w m L) : m < w.heap.size := by
 obtain ⟨es, cl, h1⟩ := h.at_; exact (sI h1).1
theorem MapG.kept (h : MapG K w m L) (hk : w'.heap[m]? = w.heap[m]?) : MapG K w' m L := by
 obtain ⟨D, ⟨es, cl, e1, e2⟩, h2⟩ := h.own; exact ⟨⟨D, ⟨es, cl, hk.trans e1, e2⟩, h2⟩, h.nd, h.rg⟩
theorem MapG.below (h : MapG K w m L) (hb : Below w.heap.size w w') : MapG K w' m L := h.kept (hb.block m h.lt)
theorem MapG.has [DecidableEq κ] {D : DataW Value} (h3 : ∀ s, K.ok s → (Maps.has D (K.kl s) = true ↔ s ∈ gk L)) {s : κ} (hs : K.ok s) : Maps.has D (K.kl s) = decide (s ∈ gk L) := by
 have := h3 s hs
 by_cases h9 : s ∈ gk L
 · simp [h9, this.2 h9]
 · cases h8 : Maps.has D (K.kl s)
   · simp [h9]
   · exact absurd (this.1 h8) h9
theorem tightG {n : Nat} {D : DataW Value} (h : w.ownsMap Tryz.prog K.t selfG m n D) {n' : Nat} (hn : Maps.size D ≤ n') : w.ownsMap Tryz.prog K.t selfG m n' D := by
 obtain ⟨es, cl, h1, h2, h3, h4⟩ := h; refine ⟨es, cl, h1, h2, ?_, h4⟩; rw [h4] at hn
 simpa [Maps.size, length_sorted] using hn
section
variable {tM tE : TypeId} {z : Value}
theorem MapG.look [DecidableEq κ] (hu : Tryz.prog.underlying tM = some (.map K.t tE)) (hz : ∀ u : World, (zeroValue tE).run Tryz.prog u = .ok z u) (h : MapG K w m L) {s : κ} (hs : K.ok s) : (Instr.lookup tM (.map (some m)) (K.kv s) true).run Tryz.prog w = .ok (.tuple #[match gl L s with | some x => K.vv x | none => z, .bool (decide (s ∈ gk L))]) w := by
 obtain ⟨D, h1, h2, h3, h4⟩ := h.own; obtain ⟨v, ps, hr, hv⟩ := h1.look_ok K.keyed hu (hz w) (zd := .held z) (zp := []) rfl (K.of hs); have hhas := MapG.has h3 hs; rw [hr, hhas]; simp only [selfG, Option.some.injEq, Prod.mk.injEq] at hv; have e1 := hv.1; cases hl : gl L s with
 | some x =>
  rw [h4 (s, x) (gl_mem hl)] at e1; rw [DataW.held.inj e1]
 | none =>
  have hf : Maps.has D (K.kl s) = false := by rw [hhas]; simp [gl_none.1 hl]
  rw [atKey_of_not_has hf] at e1; rw [DataW.held.inj e1]
theorem MapG.look_in [DecidableEq κ] (hu : Tryz.prog.underlying tM = some (.map K.t tE)) (hz : ∀ u : World, (zeroValue tE).run Tryz.prog u = .ok z u) (h : MapG K w m L) {s : κ} (hs : K.ok s) {x : ν} (hl : gl L s = some x) : (Instr.lookup tM (.map (some m)) (K.kv s) true).run Tryz.prog w = .ok (.tuple #[K.vv x, .bool true]) w := by
 rw [h.look hu hz hs, hl, decide_eq_true (mem_gk (gl_mem hl))]
theorem MapG.look_no [DecidableEq κ] (hu : Tryz.prog.underlying tM = some (.map K.t tE)) (hz : ∀ u : World, (zeroValue tE).run Tryz.prog u = .ok z u) (h : MapG K w m L) {s : κ} (hs : K.ok s) (hl : gl L s = none) : (Instr.lookup tM (.map (some m)) (K.kv s) true).run Tryz.prog w = .ok (.tuple #[z, .bool false]) w := by
 rw [h.look hu hz hs, hl, decide_eq_false (gl_none.1 hl)]
theorem MapG.get [DecidableEq κ] (hu : Tryz.prog.underlying tM = some (.map K.t tE)) (hz : ∀ u : World, (zeroValue tE).run Tryz.prog u = .ok z u) (h : MapG K w m L) {s : κ} (hs : K.ok s) : (Instr.lookup tM (.map (some m)) (K.kv s) false).run Tryz.prog w = .ok (match gl L s with | some x => K.vv x | none => z) w := by
 obtain ⟨D, h1, h2, h3, h4⟩ := h.own; obtain ⟨v, ps, hr, hv⟩ := h1.lookup K.keyed hu (hz w) (zd := .held z) (zp := []) rfl (K.of hs); have hhas := MapG.has h3 hs; rw [hr]; simp only [selfG, Option.some.injEq, Prod.mk.injEq] at hv; have e1 := hv.1; cases hl : gl L s with
 | some x =>
  rw [h4 (s, x) (gl_mem hl)] at e1; rw [DataW.held.inj e1]
 | none =>
  have hf : Maps.has D (K.kl s) = false := by rw [hhas]; simp [gl_none.1 hl]
  rw [atKey_of_not_has hf] at e1; rw [DataW.held.inj e1]
end
section
variable {tM tE : TypeId}
theorem MapG.len (hu : Tryz.prog.underlying tM = some (.map K.t tE)) (h : MapG K w m L) (ty : TypeId) : (Builtin.len_ #[tM] ty #[.map (some m)]).run Tryz.prog w = .ok (.int .i64 (L.length : Int)) w := by
 obtain ⟨D, h1, h2, h3, h4⟩ := h.own; rw [h1.len hu ty, h2]
theorem MapG.del [DecidableEq κ] (hu : Tryz.prog.underlying tM = some (.map K.t tE)) (h : MapG K w m L) {s : κ} (hs : K.ok s) (ty : TypeId) :
 ∃ w', (Builtin.delete_ #[tM, K.t] ty #[.map (some m), K.kv s]).run Tryz.prog w = .ok (.tuple #[]) w' ∧ MapG K w' m (gr L s) ∧ w.grownBy w' (some m) := by
 obtain ⟨D, h1, h2, h3, h4⟩ := h.own; obtain ⟨w', hr, h5, h6⟩ := h1.drop K.keyed hu (K.of hs) ty; have hsz := Maps.size_del (k := K.kl s) (h1.tidy K.keyed); have hhas := MapG.has h3 hs
 have hlen : Maps.size (D.del (K.kl s)) = (gr L s).length := by
  rw [hhas, h2] at hsz; have h7 := gr_len s h.nd
  by_cases h9 : s ∈ gk L
  · simp only [h9, decide_true, if_true] at hsz h7; omega
  · simp only [h9, decide_false, if_false] at hsz h7; simp at hsz; omega
 refine ⟨w', hr, ⟨⟨_, tightG h5 (Nat.le_of_eq hlen), hlen, fun y hy => ?_, fun x hx v => ?_⟩, gr_nd h.nd s, fun y hy => h.rg y (mem_gk_gr.1 hy).1⟩, h6.grown⟩
 · by_cases e : y = s
   · subst e; rw [has_del_same, mem_gk_gr]; simp
   · rw [has_del_other (K.ne hy hs e), h3 y hy, mem_gk_gr]; simp [e]
 · obtain ⟨h8, h9⟩ := mem_gr.1 hx; rw [atKey_del_other (K.ne (h.rg _ (mem_gk h8)) hs h9)]; exact h4 x h8 v
theorem MapG.put [DecidableEq κ] (hu : Tryz.prog.underlying tM = some (.map K.t tE)) (h : MapG K w m L) {s : κ} (hs : K.ok s) (v : ν) (hL : L.length ≤ 8192) :
 ∃ w', (Instr.mapUpdate tM (.map (some m)) (K.kv s) (K.vv v)).run Tryz.prog w = .ok () w' ∧ MapG K w' m (gr L s ++ [(s, v)]) ∧ w.grownBy w' (some m) := by
 obtain ⟨D, h1, h2, h3, h4⟩ := h.own; obtain ⟨w', hr, h5, h6⟩ := h1.store K.keyed hu (by simp only [maxLen]; omega) (K.of hs) (show selfG (K.vv v) = some (.held (K.vv v), []) from rfl); have hsz := Maps.size_put (k := K.kl s) (h1.tidy K.keyed) (.held (K.vv v)); have hhas := MapG.has h3 hs
 have hlen : Maps.size (D.put (K.kl s) (.held (K.vv v))) = (gr L s ++ [(s, v)]).length := by
  rw [hsz, hhas, h2, List.length_append]; have h7 := gr_len s h.nd
  by_cases h9 : s ∈ gk L
  · simp only [h9, decide_true, if_true] at h7 ⊢; simp; omega
  · simp only [h9, decide_false, if_false] at h7 ⊢; simp; omega
 have hks : ∀ y, y ∈ gk (gr L s ++ [(s, v)]) ↔ (y ∈ gk L ∧ y ≠ s) ∨ y = s := fun y => by
  have e : gk (gr L s ++ [(s, v)]) = gk (gr L s) ++ [s] := by simp [gk]
  rw [e, List.mem_append, mem_gk_gr]; simp
 refine ⟨w', hr, ⟨⟨_, tightG h5 (Nat.le_of_eq hlen), hlen, fun y hy => ?_, fun x hx u => ?_⟩, gsnoc_nd (gr_nd h.nd s) (fun h9 => (mem_gk_gr.1 h9).2 rfl) _, fun y hy => ?_⟩, h6.grown⟩
 · rw [hks]
   by_cases e : y = s
   · subst e; rw [has_put_same h1.isMap (K.key hs)]; simp
   · rw [has_put_other (K.ne hy hs e), h3 y hy]; simp [e]
 · rcases List.mem_append.1 hx with hx | hx
   · obtain ⟨h8, h9⟩ := mem_gr.1 hx; rw [atKey_put_other (K.ne (h.rg _ (mem_gk h8)) hs h9)]; exact h4 x h8 u
   · simp at hx; subst hx; rw [atKey_put_same h1.isMap (K.key hs)]
 · rcases (hks y).1 hy with h9 | h9
   · exact h.rg y h9.1
   · rw [h9]; exact hs
end
section
variable {tM tE : TypeId}
end
structure RngG (K : Kk κ ν) (w : World) (m r : Nat) (L : List (κ × ν)) (ds : List κ) (cnt : Nat) : Prop where
 ex : ∃ D left, w.ranges Tryz.prog K.t selfG m r L.length D left cnt ∧ (∀ s, K.ok s → (Maps.has D (K.kl s) = true ↔ s ∈ gk L)) ∧ (∀ x, x ∈ L → ∀ y, D.atKey (K.kl x.1) y = .held (K.vv x.2)) ∧ ∀ s, s ∈ ds ↔ s ∈ gk L ∧ left (K.kl s) = false
 nd : ds.Nodup
 nl : (gk L).Nodup
 rg : ∀ s, s ∈ gk L → K.ok s
theorem RngG.left_eq {r cnt : Nat} {ds : List κ} (h : RngG K w m r L ds cnt) : w.rangeLeft m r = cnt := by
 obtain ⟨D, left, h1, -⟩ := h.ex; exact h1.left_eq
theorem RngG.kept {r cnt : Nat} {ds : List κ} (h : RngG K w m r L ds cnt) (hm : w'.heap[m]? = w.heap[m]?) (hr : w'.heap[r]? = w.heap[r]?) : RngG K w' m r L ds cnt := by
 obtain ⟨D, left, ⟨es, clock, since, seen, c0, h1, h2, h3, h4, h5, rest⟩, h6⟩ := h.ex; exact ⟨⟨D, left, ⟨es, clock, since, seen, c0, hm.trans h1, h2, h3, h4, hr.trans h5, rest⟩, h6⟩, h.nd, h.nl, h.rg⟩
theorem RngG.sub [DecidableEq κ] {r cnt : Nat} {ds : List κ} (h : RngG K w m r L ds cnt) : ds.length ≤ L.length := by
 obtain ⟨D, left, -, -, -, h4⟩ := h.ex; have := gnd_sub h.nd (fun s hs => ((h4 s).1 hs).1); rw [len_gk] at this; exact this
section
variable {tM tE : TypeId}
theorem gwpn_range (hu : Tryz.prog.underlying tM = some (.map K.t tE)) {ops : Array Oper} {rest : List Oper} {o : Oper} {a : Act} {Q : Exit → Act → World → Prop} (hg : o.guard = none) (y : Operand) (ho : o.op = Op.range tM y) (h : MapG K w m L) (hy : a.eval y = .map (some m))
 (hK : ∀ w', RngG K w' m w.heap.size L [] L.length → w.grownBy w' none → w'.heap.size = w.heap.size + 1 → wpList Tryz.prog ops Q rest (a.put o.dst (.pointer (some ⟨w.heap.size, 0, none⟩))) w') : wpList Tryz.prog ops Q (o :: rest) a w := by
 obtain ⟨D, h1, h2, h3, h4⟩ := h.own; refine wpList_range_own w hg y tM ho K.t tE K.keyed hu selfG m L.length D hy h1 ?_; intro w' h5 h6 h7; rw [h2] at h5; refine hK w' ⟨⟨D, _, h5, h3, h4, fun s => ?_⟩, List.nodup_nil, h.nd, h.rg⟩ h6 h7; constructor
 · intro h8; cases h8
 · rintro ⟨h8, h9⟩; rw [(h3 s (h.rg s h8)).2 h8] at h9; cases h9
end
theorem gwpn_next [DecidableEq κ] {ops : Array Oper} {rest : List Oper} {o : Oper} {a : Act} {Q : Exit → Act → World → Prop} {r cnt : Nat} {ds : List κ} (hg : o.guard = none) (it : Operand) (ho : o.op = Op.next it false) (h : RngG K w m r L ds cnt) (hit : a.eval it = .pointer (some ⟨r, 0, none⟩))
 (hDone : (∀ s, s ∈ ds ↔ s ∈ gk L) → wpList Tryz.prog ops Q rest (a.put o.dst (.tuple #[.bool false])) w)
 (hMore : ∀ (x : κ × ν) (w' : World) (cnt' : Nat), x ∈ L → x.1 ∉ ds → RngG K w' m r L (ds ++ [x.1]) cnt' → cnt' < cnt → w.grownBy w' (some r) → w'.heap.size = w.heap.size → (Instr.entry (.pointer (some ⟨r, 0, none⟩))).run Tryz.prog w' = .ok (.tuple #[K.kv x.1, K.vv x.2]) w' → wpList Tryz.prog ops Q rest (a.put o.dst (.tuple #[.bool true, K.kv x.1, K.vv x.2])) w') :
 wpList Tryz.prog ops Q (o :: rest) a w := by
 obtain ⟨D, left, h1, h3, h4, h5⟩ := h.ex; refine wpList_next_ranges w hg it ho K.t K.keyed selfG (α := κ) (β := Value) K.kv (fun v => v) (fun key kl hk => by obtain ⟨s, e, -⟩ := K.inv hk; exact ⟨s, e⟩) (fun v y _ => ⟨v, rfl⟩) m r L.length D left cnt hit h1 ?_ ?_
 · intro _ hl; exact hDone (fun s => by rw [h5 s]; simp [hl])
 · intro x c kl y w' cnt' hk hl hc hat hrg hlt hgr hsz hen
   have hx : K.ok x := by
    obtain ⟨s, e, h9⟩ := K.inv hk; rw [K.inj e]; exact h9
   obtain rfl : kl = K.kl x := by rw [K.of hx] at hk; exact (Option.some.inj hk).symm
   have hin : x ∈ gk L := (h3 x hx).1 (has_true_of_atKey hat); obtain ⟨e, he, rfl⟩ := List.mem_map.1 hin
   have hce : c = K.vv e.2 := by
    have h9 := hat (.held c); rw [h4 e he] at h9; simp only [selfG, Option.some.injEq] at hc; rw [← hc] at h9; exact (DataW.held.inj h9).symm
   subst hce
   have hnd : e.1 ∉ ds := fun h9 => by
    have h8 := ((h5 _).1 h9).2; rw [hl] at h8; cases h8
   refine hMore e w' cnt' he hnd ⟨⟨D, _, hrg, h3, h4, fun s => ?_⟩, ?_, h.nl, h.rg⟩ hlt hgr hsz hen
   · rw [List.mem_append, List.mem_singleton, h5 s]; constructor
     · rintro (⟨h8, h9⟩ | rfl)
       · exact ⟨h8, by rw [h9]; rfl⟩
       · exact ⟨hin, by rw [WideAt.sameKey_self (K.key hx)]; simp⟩
     · rintro ⟨h8, h9⟩
       by_cases e9 : s = e.1
       · exact .inr e9
       · refine .inl ⟨h8, ?_⟩; rw [sameKey_ne (K.ne (h.rg s h8) hx e9)] at h9
         simpa using h9
   · rw [List.nodup_append]; refine ⟨h.nd, by simp, fun a1 ha b1 hb => ?_⟩; rw [List.mem_singleton.1 hb]; intro e9; exact hnd (e9 ▸ ha)
theorem gfit_none (K : Kk κ ν) (clock : Nat) : WideElems.Fit Tryz.prog K.t selfG #[] clock := ⟨Nat.zero_le _, by simp [MapKept.Stamped], fun x hx => by simp at hx⟩
theorem MapG.nil {cl : Nat} (h : w.heap[m]? = some (.map #[] cl)) : MapG K w m [] :=
 ⟨⟨.map [], ⟨#[], cl, h, gfit_none K cl, Nat.zero_le _, rfl⟩, rfl, fun s _ => by simp [Maps.has, gk], fun x hx => by cases hx⟩, by simp [gk], fun s hs => by simp [gk] at hs⟩
end
end
open Go.RowKit Go.Maps
abbrev Fk := Int × Nat
abbrev tFk : TypeId := 33
abbrev fv (s : Fk) : Value := .agg #[.int .i64 s.1, .int .u64 (s.2 : Int)]
def inF (s : Fk) : Prop := -9223372036854775808 ≤ s.1 ∧ s.1 < 9223372036854775808 ∧ s.2 < 18446744073709551616
theorem xu64 : Tryz.prog.underlying 23 = some (.int .u64) := by kernel_rfl
theorem xwf64 {n : Nat} (h : n < 18446744073709551616) : (Lit.int .u64 (n : Int)).wf = true := by
 simp [Lit.wf, IntKind.min, IntKind.max, IntKind.signed, IntKind.bits]; omega
theorem nU_inv {v : Value} {l : Lit} (h : keyOf Tryz.prog 23 v = some l) : ∃ n : Nat, v = .int .u64 (n : Int) ∧ n < 18446744073709551616 := by
 simp only [keyOf, xu64] at h; cases v <;> simp [mapKey, xu64] at h
 rename_i q n
 obtain ⟨⟨rfl, h2⟩, -⟩ := h; simp [Lit.wf, IntKind.min, IntKind.max, IntKind.signed, IntKind.bits] at h2; refine ⟨n.toNat, ?_, by omega⟩; rw [show ((n.toNat : Nat) : Int) = n by omega]
end Go.Proofs.YtpakkpahcpgnnaaGreatDoor
