import Derived.Test.YtibepnilhmbpeaaDoorSMh
import Derived.Test.YtibepnilhmbpeaaDoorSMd
import Derived.Test.YtibepnilhmbpeaaDoorSNd
import Derived.Test.YtibepnilhmbpeaaDoorSGb
import Derived.Test.YtibepnilhmbpeaaDoorKPs
import Derived.Test.YtibepnilhmbpeaaDoorHelp
namespace Go.Proofs.YtibepnilhmbpeaaDoor
set_option linter.unusedVariables false
set_option linter.unusedSimpArgs false
open Go.RowKit
abbrev tKp : TypeId := 35
abbrev KI : Kd Nb := { t := 42, ts := 32, k := 2, by_ := 32, f := fun x => [.int .u64 (x.n : Int), .slice x.a x.m x.c], z := .agg #[.int .u64 0, .slice none 0 0], hk := fun _ => rfl, h1 := (fun d u hu => by simp at hu; rcases hu with rfl | rfl <;> rfl), hpos := by decide, ht := Tryd.underlying32, hi := by kernel_rfl, hz := rfl }
/-- a keeper's numbers -/
structure Kp where
  size : Nat
  last : Nat
  fst : Nat
  may : Nat
  ep : Nat
  dead : Bool
  told : Nat
abbrev Kp.c (k : Kp) (p g : Nat) (v : Value) : Array Value := #[.pointer (some ⟨p, 0, none⟩), .pointer (some ⟨g, 0, none⟩), .int .i64 (k.size : Int), v, .int .i64 (k.last : Int), .int .u64 (k.fst : Int), .int .u64 (k.may : Int), .int .u64 (k.ep : Int), .bool k.dead, .int .i64 (k.told : Int), .int .i64 0]
theorem cells11 {w : World} {g : Nat} {a0 a1 a2 a3 a4 a5 a6 a7 a8 a9 b0 : Value} {t : TypeId} {fr : Nat × Nat} (h : w.heap[g]? = some (.cells #[a0, a1, a2, a3, a4, a5, a6, a7, a8, a9, b0] t fr)) :
    w.cell? ⟨g, 0, none⟩ = some a0 ∧ w.cell? ⟨g, 1, none⟩ = some a1 ∧ w.cell? ⟨g, 2, none⟩ = some a2 ∧ w.cell? ⟨g, 3, none⟩ = some a3 ∧ w.cell? ⟨g, 4, none⟩ = some a4 ∧ w.cell? ⟨g, 5, none⟩ = some a5 ∧ w.cell? ⟨g, 6, none⟩ = some a6 ∧ w.cell? ⟨g, 7, none⟩ = some a7 ∧ w.cell? ⟨g, 8, none⟩ = some a8 ∧ w.cell? ⟨g, 9, none⟩ = some a9 := by
  refine ⟨?_, ?_, ?_, ?_, ?_, ?_, ?_, ?_, ?_, ?_⟩ <;> (rw [cell_of_row _ _ _ _ _ _ h]; rfl)
section
variable {w w' v : World} {g p n n' : Nat} {x x' : Lg} {sa : Option Addr} {sc : Nat} {d d' : Dst} {F O X Y : Nat → Prop}
/-- what others do changes no log -/
theorem LogM.kept (h : LogM w g p x sa sc d n F) {G : Nat → Prop} (hc : Chg G w w') (hF : ∀ b, F b → ¬ G b) (hg : ¬ G g) (hs : ∀ a, sa = some a → ¬ G a.block) (hS : ¬ G 0) : LogM w' g p x sa sc d n F :=
  ⟨⟨(hc.block _ (Array.getElem?_eq_some_iff.1 h.s.bx).1 hg).trans h.s.bx, RdG.chg h.s.rd hc hs, h.s.ris, h.s.len, h.s.dk.kept hc hF, h.s.gF, h.s.sF, h.s.cap, h.s.Z, h.s.AZ, h.s.tab.chg hc hS⟩, h.mid.kept (fun b hb => by
    obtain ⟨a, e1, rfl⟩ := SA_blk hb
    exact hc.block _ (h.slt a e1) (hs a e1)), h.sums, h.sumsS⟩
/-- a log and its disk: X has all their blocks -/
structure LogX (w : World) (g p : Nat) (x : Lg) (d : Dst) (n : Nat) (X : Nat → Prop) : Prop where
  ex : ∃ sa sc F, LogM w g p x sa sc d n F ∧ (∀ b, F b → X b) ∧ X g ∧ (∀ a, sa = some a → X a.block) ∧ X 0
  lt : ∀ b, X b → b < w.heap.size
theorem LogX.kept (h : LogX w g p x d n X) {G : Nat → Prop} (hc : Chg G w w') (hX : ∀ b, X b → ¬ G b) : LogX w' g p x d n X := by
  obtain ⟨⟨sa, sc, F, h1, h2, h3, h4, h5⟩, h6⟩ := h
  exact ⟨⟨sa, sc, F, h1.kept hc (fun b hb => hX b (h2 b hb)) (hX g h3) (fun a e => hX _ (h4 a e)) (hX _ h5), h2, h3, h4, h5⟩, fun b hb => Nat.lt_of_lt_of_le (h6 b hb) hc.size⟩
theorem LogX.below (h : LogX w g p x d n X) (hb : Below w.heap.size w w') : LogX w' g p x d n X := h.kept (G := fun _ => False) (Chg.of_below hb) (fun _ _ => id)
/-- what a call on the log leaves -/
structure LogO (w : World) (g p : Nat) (X : Nat → Prop) (x' : Lg) (d' : Dst) (n' : Nat) (w' : World) : Prop where
  ex : ∃ X', LogX w' g p x' d' n' X' ∧ ∀ b, X' b → X b ∨ w.heap.size ≤ b
  chg : Chg X w w'
  sm : w'.heap[0]? = w.heap[0]?
theorem LogX.out (h : LogM w g p x sa sc d n F) (hF : ∀ b, F b → X b) (hg : X g) (hs : ∀ a, sa = some a → X a.block) (hS : X 0) {sa' : Option Addr} {sc' : Nat} {F' : Nat → Prop} (h' : LogM w' g p x' sa' sc' d' n' F') (h1 : ∀ b, F' b → F b ∨ w.heap.size ≤ b) (h2 : ∀ a, sa' = some a → (∃ a0, sa = some a0 ∧ a.block = a0.block) ∨ w.heap.size ≤ a.block) (hc : Chg (fun b => F b ∨ b = g ∨ ∃ a0, sa = some a0 ∧ b = a0.block) w w') (hl : ∀ b, X b → b < w.heap.size) : LogO w g p X x' d' n' w' := by
  refine ⟨⟨fun b => X b ∨ F' b ∨ ∃ a, sa' = some a ∧ b = a.block, ⟨⟨sa', sc', F', h', fun b hb => .inr (.inl hb), .inl hg, fun a e => .inr (.inr ⟨a, e, rfl⟩), .inl hS⟩, ?_⟩, ?_⟩, ?_, ?_⟩
  · rintro b (hb | hb | ⟨a, e, rfl⟩)
    · exact Nat.lt_of_lt_of_le (hl b hb) hc.size
    · exact h'.s.dk.lt b hb
    · exact h'.slt a e
  · rintro b (hb | hb | ⟨a, e, rfl⟩)
    · exact .inl hb
    · exact (h1 b hb).imp (hF b) id
    · rcases h2 a e with ⟨a0, e1, e2⟩ | h9
      · rw [e2]; exact .inl (hs a0 e1)
      · exact .inr h9
  · refine hc.mono ?_
    rintro b (hb | rfl | ⟨a0, e, rfl⟩)
    · exact hF b hb
    · exact hg
    · exact hs a0 e
  · refine hc.block _ (hl _ hS) ?_
    rintro (h9 | h9 | ⟨a0, e, h9⟩)
    · exact h.sums h9
    · exact h.sg h9.symm
    · exact h.sumsS a0 e h9.symm
/-- items in memory -/
structure Its (w : World) (N : List Nb) (T : List Itm) : Prop where
  len : N.length = T.length
  at_ : ∀ (i : Nat) y t, N[i]? = some y → T[i]? = some t → y.n = t.n ∧ ∃ B, Own w B y.v t.b
theorem Its.kept {N : List Nb} {T : List Itm} (h : Its w N T) (hk : ∀ (i : Nat) y b, N[i]? = some y → y.v.ownBlock = some b → w'.heap[b]? = w.heap[b]?) : Its w' N T :=
  ⟨h.len, fun i y t h1 h2 => ⟨(h.at_ i y t h1 h2).1, by obtain ⟨B, h3⟩ := (h.at_ i y t h1 h2).2; exact ⟨B, ownKept h3 (fun b hb => hk i y b h1 hb)⟩⟩⟩
/-- a keeper in memory; Y: its blocks -/
structure KpA (w : World) (kb g p : Nat) (x : Lg) (d : Dst) (n : Nat) (X Y : Nat → Prop) (T : List Itm) (k : Kp) : Prop where
  log : LogX w g p x d n X
  ex : ∃ ia ic N, w.heap[kb]? = some (.cells (k.c p g (.slice ia N.length ic)) tKp (0, 0)) ∧ MidG KI w (.slice ia N.length ic) N ∧ Its w N T ∧ Y kb ∧ (∀ a, ia = some a → Y a.block) ∧ (∀ (i : Nat) y b, N[i]? = some y → y.v.ownBlock = some b → Y b)
  y : ∀ b, Y b → b < w.heap.size ∧ ¬ X b
/-- what others do changes no keeper -/
theorem KpA.kept {kb : Nat} {T : List Itm} {k : Kp} (h : KpA w kb g p x d n X Y T k) {G : Nat → Prop} (hc : Chg G w w') (hX : ∀ b, X b → ¬ G b) (hY : ∀ b, Y b → ¬ G b) : KpA w' kb g p x d n X Y T k := by
  obtain ⟨h0, ⟨ia, ic, N, h1, h2, h3, h4, h5, h6⟩, h7⟩ := h
  refine ⟨h0.kept hc hX, ⟨ia, ic, N, (hc.block _ (h7 _ h4).1 (hY _ h4)).trans h1, h2.kept (fun b hb => ?_), h3.kept (fun i y b hy hb => ?_), h4, h5, h6⟩, fun b hb => ⟨Nat.lt_of_lt_of_le (h7 b hb).1 hc.size, (h7 b hb).2⟩⟩
  · obtain ⟨a, e1, rfl⟩ := SA_blk hb
    exact hc.block _ (h7 _ (h5 a e1)).1 (hY _ (h5 a e1))
  · exact hc.block _ (h7 _ (h6 i y b hy hb)).1 (hY _ (h6 i y b hy hb))
theorem KpA.below {kb : Nat} {T : List Itm} {k : Kp} (h : KpA w kb g p x d n X Y T k) (hb : Below w.heap.size w w') : KpA w' kb g p x d n X Y T k := h.kept (G := fun _ => False) (Chg.of_below hb) (fun _ _ => id) (fun _ _ => id)
/-- the keeper's numbers change -/
theorem KpA.box {kb : Nat} {T : List Itm} {k : Kp} (h : KpA w kb g p x d n X Y T k) : ∃ (ia : Option Addr) (ic : Nat) (N : List Nb), w.heap[kb]? = some (.cells (k.c p g (.slice ia N.length ic)) tKp (0, 0)) ∧ ∀ (w' : World) (k' : Kp), Chg (fun b => b = kb) w w' → w'.heap[kb]? = some (.cells (Kp.c k' p g (.slice ia N.length ic)) tKp (0, 0)) → KpA w' kb g p x d n X Y T k' := by
  have hk := h
  obtain ⟨h0, ⟨ia, ic, N, h1, h2, h3, h4, h5, h6⟩, h7⟩ := h
  refine ⟨ia, ic, N, h1, fun w' k' hc hb => ?_⟩
  have nx : ∀ b, X b → ¬ b = kb := fun b hX e => (h7 _ h4).2 (e ▸ hX)
  refine ⟨h0.kept hc nx, ⟨ia, ic, N, hb, h2.kept (fun b hb => ?_), h3.kept (fun i y b hy hb => ?_), h4, h5, h6⟩, fun b hb => ⟨Nat.lt_of_lt_of_le (h7 b hb).1 hc.size, (h7 b hb).2⟩⟩
  · obtain ⟨a, e1, rfl⟩ := SA_blk hb
    refine hc.block _ (h7 _ (h5 a e1)).1 (fun e => ?_)
    obtain ⟨cur, h9⟩ := h2.blk _ hb
    rw [e, h1] at h9
    cases h9
  · refine hc.block _ (h7 _ (h6 i y b hy hb)).1 (fun e => ?_)
    obtain ⟨B, ho⟩ := (h3.at_ i y _ hy (List.getElem?_eq_getElem (by rw [← h3.len]; exact (List.getElem?_eq_some_iff.1 hy).1))).2
    rcases ho.2 with ⟨e9, -⟩ | ⟨g9, cap, cur, e9, -, hg9, -⟩
    · rw [e9] at hb; cases hb
    · rw [e9] at hb; cases hb
      have e : g9 = kb := e
      rw [e, h1] at hg9
      cases hg9
theorem KpA.sums {kb : Nat} {T : List Itm} {k : Kp} (h : KpA w kb g p x d n X Y T k) : 0 < w.heap.size ∧ ¬ Y 0 ∧ Y kb := by
  obtain ⟨⟨⟨sa, sc, F, -, -, -, -, h5⟩, h6⟩, ⟨_, _, _, -, -, -, h4, -⟩, h9⟩ := h
  exact ⟨h6 _ h5, fun hY => (h9 _ hY).2 h5, h4⟩
/-- a call on the log, seen by its keeper -/
theorem KpA.logged {kb : Nat} {T : List Itm} {k : Kp} (h : KpA w kb g p x d n X Y T k) (ho : LogO w g p X x' d' n' w') : ∃ X', KpA w' kb g p x' d' n' X' Y T k ∧ ∀ b, X' b → X b ∨ w.heap.size ≤ b := by
  obtain ⟨⟨X', h1, h2⟩, hc, -⟩ := ho
  obtain ⟨h0, ⟨ia, ic, N, h3, h4, h5, h6, h7, h8⟩, h9⟩ := h
  refine ⟨X', ⟨h1, ⟨ia, ic, N, (hc.block _ (h9 _ h6).1 (h9 _ h6).2).trans h3, h4.kept (fun b hb => ?_), h5.kept (fun i y b hy hb => ?_), h6, h7, h8⟩, fun b hb => ⟨Nat.lt_of_lt_of_le (h9 b hb).1 hc.size, fun hX => ?_⟩⟩, h2⟩
  · obtain ⟨a, e1, rfl⟩ := SA_blk hb
    exact hc.block _ (h9 _ (h7 a e1)).1 (h9 _ (h7 a e1)).2
  · exact hc.block _ (h9 _ (h8 i y b hy hb)).1 (h9 _ (h8 i y b hy hb)).2
  · rcases h2 b hX with h | h
    · exact (h9 b hb).2 h
    · have := (h9 b hb).1; omega
end
end Go.Proofs.YtibepnilhmbpeaaDoor
namespace Go.Proofs.YtibepnilhmbpeaaDoor
set_option linter.unusedVariables false
set_option linter.unusedSimpArgs false
open Go.RowKit
set_option maxRecDepth 20000 in
set_option maxHeartbeats 1600000 in
theorem bytesSame_t (ao bo : Option Addr) (n ca cb : Nat) (xs : List UInt8) (hn : n = xs.length) (hl : n ≤ 9223372036854775807) (w : World) (hx : Rd w ao xs) (hy : Rd w bo xs) :
    Calls Tryd.prog 28 #[.slice ao n ca, .slice bo n cb] w fun e w' => e = .returned (.bool true) ∧ Below w.heap.size w w' := by
  have HX : Hid (Rd w ao xs) := hx
  have HY : Hid (Rd w bo xs) := hy
  have HN : Hid (n = xs.length) := hn
  have HL : Hid (n ≤ 9223372036854775807) := hl
  clear hx hy hn hl
  go_enter Tryd.func28, Tryd.ntmps28
  go_wp2_with fail
  go_loopw [5] (fun j wr => ∃ i : Nat, i ≤ n ∧ j = .int .i64 (i : Int) ∧ Below w.heap.size w wr) (fun j _ => n - (intOf j).toNat)
  case atStart => exact ⟨0, Nat.zero_le _, rfl, Below.refl _ _⟩
  case round =>
    obtain ⟨i, him, rfl, hbw⟩ := hrel
    have HBW : Hid (Below w.heap.size w wr) := hbw
    clear hbw
    by_cases hlt : i < n
    · have hltI : (i : Int) < (n : Int) := by omega
      have hi0 : (0 : Int) ≤ (i : Int) := by omega
      have hkw : IntKind.i64.wrap ((i : Int) + 1) = ((i + 1 : Nat) : Int) := by have := HL.out; rw [IntKind.wrap_i64]; omega
      have hiL : i < xs.length := by rw [← HN.out]; exact hlt
      obtain ⟨b1, o1, e1, h1⟩ := Rd.below HX.out HBW.out (by omega)
      obtain ⟨b2, o2, e2, h2⟩ := Rd.below HY.out HBW.out (by omega)
      subst e1
      subst e2
      have c1 := h1 i hiL
      have c2 := h2 i hiL
      have HI : Hid (i < xs.length) := hiL
      generalize xs[i] = c at c1 c2
      clear h1 h2 hiL
      go_wp2_with fail
      go_quiet (fail)
      go_wp2_with fail
      refine ⟨⟨i + 1, by omega, by go_num, below_next HBW.out (⟨rfl, rfl, rfl, Nat.le_refl _, fun _ _ => rfl⟩ : Below wr.heap.size wr (wr.drewN nq))⟩, by simp [intOf]; omega⟩
    · obtain rfl : i = n := by omega
      have hltI : ¬ (i : Int) < (i : Int) := by omega
      go_wp2_with fail
      go_ret
      exact ⟨rfl, HBW.out⟩
theorem rdB_z {w : World} {N : Nat} {z : Int} (hN : w.heap[N]? = some (.cells #[.int .u8 z] 5 (0, 0))) (h0 : 0 ≤ z) (h1 : z < 256) : Rd w (some ⟨N, 0, none⟩) [UInt8.ofNat z.toNat] := fun _ => ⟨N, 0, rfl, fun i hi => by
  obtain rfl : i = 0 := by simp at hi; exact hi
  rw [cell_of_row _ _ _ _ _ _ hN]
  have e : ((UInt8.ofNat z.toNat).toNat : Int) = z := by rw [UInt8.toNat_ofNat']; omega
  show some (Value.int .u8 z) = some (Value.int .u8 ((UInt8.ofNat z.toNat).toNat : Int))
  rw [e]⟩
set_option maxRecDepth 20000 in
set_option maxHeartbeats 3200000 in
theorem text_t {w : World} {kb g p : Nat} {x : Lg} {d : Dst} {n : Nat} {X Y : Nat → Prop} {T : List Itm} {k : Kp} (h : KpA w kb g p x d n X Y T k) (bs : Int) (hb1 : -9223372036854775808 ≤ bs) (hb2 : bs ≤ 9223372036854775807) (ht : k.told + 1 < 4611686018427387904) :
    Calls Tryd.prog 10 #[.pointer (some ⟨kb, 0, none⟩), .int .i64 bs] w fun e w' => ∃ v rec, e = .returned v ∧ rec.length = spanK bs 0 8192 ∧ Own w' w.heap.size v rec ∧ KpA w' kb g p x d n X Y T { k with told := k.told + 1 } ∧ Chg (fun b => b = kb) w w' := by
  obtain ⟨ia, ic, N, hbx, hkk⟩ := h.box
  have HKK : Hid _ := hkk
  clear h hkk
  obtain ⟨c0, -, -, -, -, -, -, -, -, c9⟩ := cells11 hbx
  have hf9 := frz hbx 9
  obtain ⟨t1, ht1⟩ : ∃ t1, t1 = k.told + 1 := ⟨_, rfl⟩
  have hw1 : IntKind.i64.wrap ((k.told : Int) + 1) = (t1 : Int) := by rw [IntKind.wrap_i64]; omega
  have HSP : Hid (∀ u, Calls _ _ _ u _) := fun u => spanK_t bs 0 8192 u hb1 hb2 (by decide) (by decide)
  obtain ⟨m, hm⟩ : ∃ m, m = spanK bs 0 8192 := ⟨_, rfl⟩
  have hmi := spanK_in bs 0 8192 (by decide)
  rw [← hm] at HSP hmi ⊢
  clear hm ht
  go_enter Tryd.func10, Tryd.ntmps10
  go_wp2_with (go_at_call 9; refine Calls.mono (HSP.out _) ?_; rintro e w' ⟨rfl, hq⟩; have hq := hq.symm; subst hq)
  have hbx1 : (w.setCell ⟨kb, 9, none⟩ (.int .i64 ((k.told : Int) + 1))).heap[kb]? = some (.cells #[.pointer (some ⟨p, 0, none⟩), .pointer (some ⟨g, 0, none⟩), .int .i64 (k.size : Int), .slice ia N.length ic, .int .i64 (k.last : Int), .int .u64 (k.fst : Int), .int .u64 (k.may : Int), .int .u64 (k.ep : Int), .bool k.dead, .int .i64 ((k.told : Int) + 1), .int .i64 0] tKp (0, 0)) := heap_setCell_same w kb 9 _ _ _ hbx
  have hc1 : Chg (fun b => b = kb) w (w.setCell ⟨kb, 9, none⟩ (.int .i64 ((k.told : Int) + 1))) := Chg.of_grown (gset1 w kb 9 _) (fun b e => by cases e; rfl)
  generalize (w.setCell ⟨kb, 9, none⟩ (.int .i64 ((k.told : Int) + 1))) = W1 at *
  have HBX : Hid (∀ u, Below W1.heap.size W1 u → u.cell? ⟨kb, 9, none⟩ = some (.int .i64 ((k.told : Int) + 1))) := fun u hu => (cells11 (below_blk hu hbx1)).2.2.2.2.2.2.2.2.2
  have HX1 : Hid (W1.heap[kb]? = _ ∧ Chg (fun b => b = kb) w W1) := ⟨hbx1, hc1⟩
  have HKW : Hid (W1.heap.size = w.heap.size ∨ True) := .inr trivial
  clear hbx1 hc1 c0 c9 hf9 hbx
  go_loopw [6, 7] (fun v j wr => ∃ (i : Nat) (rec : List UInt8), i ≤ m ∧ j = .int .i64 (i : Int) ∧ Hid (rec.length = i) ∧ Own wr W1.heap.size v rec ∧ Below W1.heap.size W1 wr) (fun _ j _ => m - (intOf j).toNat)
  case atStart => exact ⟨0, [], Nat.zero_le _, rfl, rfl, World.ownsRow_nil _ _ _ _, Below.refl _ _⟩
  case round =>
    obtain ⟨i, rec, him, rfl, HRL, hown, hbw⟩ := hrel
    have HOW : Hid (Own wr W1.heap.size u6 rec) := hown
    have HBW : Hid (Below W1.heap.size W1 wr) := hbw
    obtain ⟨a0, q0, hv0, -⟩ := Own.val hown
    rw [HRL.out] at hv0
    subst hv0
    have hc9 := HBX.out wr hbw
    clear hown hbw
    by_cases hlt : i < m
    · have hltI : (i : Int) < (m : Int) := by omega
      have hi0 : (0 : Int) ≤ (i : Int) := by omega
      have hkw : IntKind.i64.wrap ((i : Int) + 1) = ((i + 1 : Nat) : Int) := by rw [IntKind.wrap_i64]; omega
      have HLE : Hid (rec.length + 1 ≤ 140737488355328) := by unfold Hid; rw [HRL.out]; omega
      have HSZ : Hid (∀ ob, W1.heap.size ≤ (wr.alloc ob).heap.size) := fun ob => Nat.le_trans HBW.out.size (alS (Below.refl wr.heap.size wr) ob).size
      go_wp2_with (at_builtin; refine wp_app1 rfl _ _ rfl W1.heap.size _ i rec _ _ _ (by rfl) HRL.out.symm (Own.below HOW.out (alS (Below.refl _ _) _)) (by rfl) (rdB_z (heap_alloc_new wr _) (Int.emod_nonneg _ (by decide)) (Int.emod_lt_of_pos _ (by decide))) HLE.out (HSZ.out _) ?_; intro g2 c2 w2 hown hg h9x; have HO2 : Hid _ := hown; have HB2 : Hid (Below W1.heap.size W1 w2) := (below_next HBW.out (alS (Below.refl wr.heap.size wr) _)).grown hg (HSZ.out _) (fun j9 h9 => (World.ownsRow.lt HOW.out j9 h9).1); clear hown hg h9x)
      go_roundw
      case rel => exact ⟨i + 1, _, by omega, by go_num, by unfold Hid; rw [List.length_append, HRL.out]; rfl, HO2.out, HB2.out⟩
      case measure => simp [intOf]; omega
    · obtain rfl : i = m := by omega
      have hltI : ¬ (i : Int) < (i : Int) := by omega
      clear hc9
      go_wp2_with fail
      go_ret
      have hcw : Chg (fun b => b = kb) w wr := HX1.out.2.trans (Chg.of_below HBW.out : Chg (fun b => b = kb) W1 wr) (fun b h => .inl h)
      refine ⟨_, rfl, rec, HRL.out, Own.base HOW.out HX1.out.2.size, ?_, hcw⟩
      exact HKK.out _ { k with told := k.told + 1 } hcw (below_blk HBW.out HX1.out.1)
end Go.Proofs.YtibepnilhmbpeaaDoor
