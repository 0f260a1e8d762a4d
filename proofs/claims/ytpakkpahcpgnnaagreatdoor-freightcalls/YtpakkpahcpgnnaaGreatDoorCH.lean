import Derived.Test.YtpakkpahcpgnnaaGreatDoorVWhM
import Derived.Laws.ResultCell
set_option linter.unusedVariables false
set_option linter.unusedSimpArgs false
namespace Go.Proofs.YtpakkpahcpgnnaaGreatDoor
open Go.RowKit
abbrev iv (n : Nat) : Value := .int .i64 (n : Int)
section
variable {w w' : World} {p : Nat} {V : List Dc} {S : List Seg}
end
section
variable {w w' : World} {p : Nat} {V : List Dc} {S : List Seg}
end
open Go.RowKit
structure Fml (w : World) (B : Nat) (V : List Dc) (T : List (List UInt8)) : Prop where
 len : V.length = T.length
 own : ∀ (i : Nat) d t, V[i]? = some d → T[i]? = some t → Own w B d.v t
 ap : ∀ (i j : Nat) d e b, V[i]? = some d → V[j]? = some e → i ≠ j → d.v.ownBlock = some b → e.v.ownBlock = some b → False
def XV (V : List Dc) (b : Nat) : Prop := ∃ (i : Nat) (d : Dc), V[i]? = some d ∧ d.v.ownBlock = some b
theorem Own.blk {w : World} {B : Nat} {v : Value} {xs : List UInt8} (h : Own w B v xs) {b : Nat} (e : v.ownBlock = some b) : ∃ C, w.heap[b]? = some (.cells C 5 (0, 0)) := by
 rcases h.2 with ⟨rfl, -⟩ | ⟨g, cap, cur, rfl, -, hg, -⟩
 · cases e
 · cases e; exact ⟨cur, hg⟩
section
variable {w w' : World} {B : Nat} {V : List Dc} {T : List (List UInt8)}
theorem Fml.get (h : Fml w B V T) {i : Nat} {d : Dc} (hd : V[i]? = some d) : ∃ t, T[i]? = some t ∧ Own w B d.v t := by
 have hi : i < T.length := by rw [← h.len]; exact (List.getElem?_eq_some_iff.1 hd).1
 exact ⟨T[i], List.getElem?_eq_getElem hi, h.own i d _ hd (List.getElem?_eq_getElem hi)⟩
theorem Fml.lt (h : Fml w B V T) {b : Nat} (hb : XV V b) : B ≤ b ∧ b < w.heap.size := by
 obtain ⟨i, d, hd, e⟩ := hb; obtain ⟨t, -, ho⟩ := h.get hd; exact World.ownsRow.lt ho b e
theorem Fml.kept (h : Fml w B V T) (hk : ∀ b, XV V b → w'.heap[b]? = w.heap[b]?) : Fml w' B V T :=
 ⟨h.len, fun i d t hd ht => Own.keptb (h.own i d t hd ht) (fun b e => hk b ⟨i, d, hd, e⟩), h.ap⟩
theorem Fml.below (h : Fml w B V T) (hb : Below w.heap.size w w') : Fml w' B V T := h.kept (fun b hx => hb.block b (h.lt hx).2)
theorem Fml.ty (h : Fml w B V T) {b : Nat} (hb : XV V b) : ∃ C, w.heap[b]? = some (.cells C 5 (0, 0)) := by
 obtain ⟨i, d, hd, e⟩ := hb; obtain ⟨t, -, ho⟩ := h.get hd; exact ho.blk e
theorem Fml.push (h : Fml w B V T) (hb : Below w.heap.size w w') (hB : B ≤ w.heap.size) {d : Dc} {t : List UInt8} (ho : Own w' w.heap.size d.v t) : Fml w' B (V ++ [d]) (T ++ [t]) := by
 have h' := h.below hb; have old : ∀ (i : Nat) e b, V[i]? = some e → e.v.ownBlock = some b → b < w.heap.size := fun i e b he hb => (h.lt ⟨i, e, he, hb⟩).2
 have new : ∀ b, d.v.ownBlock = some b → w.heap.size ≤ b := fun b e => (World.ownsRow.lt ho b e).1
 refine ⟨by rw [List.length_append, List.length_append, h.len]; rfl, fun i e s he hs => ?_, fun i j e f b he hf hne h1 h2 => ?_⟩
 · rw [List.getElem?_append] at he hs; rw [h.len] at he
   by_cases hi : i < T.length
   · rw [if_pos hi] at he hs; exact h'.own i e s he hs
   · rw [if_neg hi] at he hs
     have h0 : i - T.length = 0 := by
      have := (List.getElem?_eq_some_iff.1 hs).1; simp at this; exact this
     rw [h0] at he hs; simp at he hs; subst he hs; exact Own.base ho hB
 · rw [List.getElem?_append] at he hf
   by_cases hi : i < V.length
   · rw [if_pos hi] at he
     by_cases hj : j < V.length
     · rw [if_pos hj] at hf; exact h.ap i j e f b he hf hne h1 h2
     · rw [if_neg hj] at hf
       have h0 : j - V.length = 0 := by
        have := (List.getElem?_eq_some_iff.1 hf).1; simp at this; exact this
       rw [h0] at hf; simp at hf; subst hf; have := old i e b he h1; have := new b h2; omega
   · rw [if_neg hi] at he
     have h0 : i - V.length = 0 := by
      have := (List.getElem?_eq_some_iff.1 he).1; simp at this; exact this
     rw [h0] at he; simp at he; subst he
     by_cases hj : j < V.length
     · rw [if_pos hj] at hf; have := old j f b hf h2; have := new b h1; omega
     · rw [if_neg hj] at hf; have h3 := (List.getElem?_eq_some_iff.1 hf).1; simp at h3; omega
end
structure Lists (w : World) (B : Nat) (v : Value) (E : List Dc) (T : List (List UInt8)) : Prop where
 row : OwnG KL w B v E
 fml : Fml w B E T
section
variable {w w' w2 w3 : World} {B : Nat} {v v' : Value} {E : List Dc} {T : List (List UInt8)}
theorem Lists.nil (w : World) (B : Nat) : Lists w B (.slice none 0 0) [] [] := ⟨World.ownsRow_nil _ _ _ _, rfl, fun i d t h => by simp at h, fun i j d e b h => by simp at h⟩
theorem Lists.below (h : Lists w B v E T) (hb : Below w.heap.size w w') : Lists w' B v E T := ⟨h.row.below hb, h.fml.below hb⟩
theorem Lists.base {B' : Nat} (h : Lists w B v E T) (hB : B' ≤ B) : Lists w B' v E T := ⟨h.row.base hB, h.fml.len, fun i d t hd ht => Own.base (h.fml.own i d t hd ht) hB, h.fml.ap⟩
theorem Lists.kept (h : Lists w B v E T) (hk : ∀ b, (v.ownBlock = some b ∨ XV E b) → w'.heap[b]? = w.heap[b]?) : Lists w' B v E T := ⟨h.row.kept (fun b e => hk b (.inl e)), h.fml.kept (fun b e => hk b (.inr e))⟩
theorem Lists.lt (h : Lists w B v E T) {b : Nat} (hb : v.ownBlock = some b ∨ XV E b) : B ≤ b ∧ b < w.heap.size := by
 rcases hb with hb | hb
 · exact h.row.lt' hb
 · exact h.fml.lt hb
theorem Lists.len (h : Lists w B v E T) : E.length = T.length := h.fml.len
theorem Fml.keep5 (h : Fml w B E T) (hk : ∀ (b : Nat) C, w.heap[b]? = some (.cells C 5 (0, 0)) → w'.heap[b]? = w.heap[b]?) : Fml w' B E T := h.kept (fun b hx => by obtain ⟨C, h1⟩ := h.ty hx; exact hk b C h1)
theorem XV.push {d : Dc} {b : Nat} (h : XV (E ++ [d]) b) : XV E b ∨ d.v.ownBlock = some b := by
 obtain ⟨i, e, he, hb⟩ := h; rw [List.getElem?_append] at he
 by_cases hi : i < E.length
 · rw [if_pos hi] at he; exact .inl ⟨i, e, he, hb⟩
 · rw [if_neg hi] at he
   have h0 : i - E.length = 0 := by
    have := (List.getElem?_eq_some_iff.1 he).1; simp at this; exact this
   rw [h0] at he; simp at he; subst he; exact .inr hb
theorem Lists.push (h : Lists w B v E T) (hb : Below w.heap.size w w2) (hB : B ≤ w.heap.size) {d : Dc} {t : List UInt8} (ho : Own w2 w.heap.size d.v t) (hg : w2.grownBy w3 v.ownBlock) (hr : OwnG KL w3 B v' (E ++ [d])) : Lists w3 B v' (E ++ [d]) (T ++ [t]) := by
 have hrow2 := h.row.below hb; have hf2 := h.fml.push hb hB ho
 exact ⟨hr, hf2.keep5 (fun b C h1 => hg.block b (sI h1).1 (fun e => by
   obtain ⟨cur, h2⟩ := hrow2.at_ e.symm
   exact absurd (ty_of h1 h2) (by decide)))⟩
end
theorem cutN_of {n m j : Nat} (hm : 0 < m) (h1 : n ≤ j * m) (h2 : j * m < n + m) : cutN n m = j := by
 unfold cutN; refine Nat.div_eq_of_lt_le (by omega) ?_; rw [Nat.succ_mul]; omega
theorem drop_min (xs : Seg) (f m : Nat) : (xs.drop f).take (min (f + m) xs.length - f) = (xs.drop f).take m := by
 by_cases h : f + m ≤ xs.length
 · rw [show min (f + m) xs.length - f = m by omega]
 · rw [List.take_of_length_le (by rw [List.length_drop]; omega), List.take_of_length_le (by rw [List.length_drop]; omega)]
theorem rd_part {w : World} {b o : Nat} {xs : List UInt8} (h : Rd w (some ⟨b, o, none⟩) xs) (i n : Nat) : Rd w (some ⟨b, o + i, none⟩) ((xs.drop i).take n) := fun hp => by
 rw [List.length_take, List.length_drop] at hp; obtain ⟨b2, o2, e, h2⟩ := h (by omega); cases e; refine ⟨b, o + i, rfl, fun j hj => ?_⟩; rw [List.length_take, List.length_drop] at hj; have h3 := h2 (i + j) (by omega); rw [← Nat.add_assoc] at h3; rw [h3]; simp
section
variable {w w' : World}
def CRel (xs : Seg) (m : Nat) (w : World) (v f : Value) (wr : World) : Prop := ∃ (j : Nat) (E : List Dc), f = .int .i64 ((j * m : Nat) : Int) ∧ j * m < xs.length + m ∧ Lists wr w.heap.size v E (segN xs m j) ∧ j ≤ 1024 ∧ Below w.heap.size w wr
set_option maxRecDepth 20000 in
set_option maxHeartbeats 3200000 in
theorem cut_t (ao : Option Addr) (n cap : Nat) (xs : Seg) (m : Nat) (hn : n = xs.length) (hx : Rd w ao xs) (hle : n ≤ cap) (h1 : 1 ≤ m) (h2 : m ≤ 1024) (h3 : 1 ≤ n) (h4 : n ≤ 1024) (h5 : n ≤ m * 64) :
 Calls Tryz.prog 72 #[.slice ao n cap, .int .i64 (m : Int)] w fun e w' => ∃ v E, e = .returned (.tuple #[v, .int .i64 0]) ∧ Lists w' w.heap.size v E (segN xs m (cutN n m)) ∧ Below w.heap.size w w' := by
 have g1 : ¬ (m : Int) < 1 := by omega
 have g2 : ¬ 1024 < (m : Int) := by omega
 have g3 : ((n : Int) == 0) = false := by simp; omega
 have g4 : ¬ (1024 : Int) < (n : Int) := by omega
 have hw : IntKind.i64.wrap ((m : Int) * 64) = ((m * 64 : Nat) : Int) := by rw [IntKind.wrap_i64]; omega
 have g5 : ¬ ((m * 64 : Nat) : Int) < (n : Int) := by omega
 obtain ⟨b, o, rfl, -⟩ := hx (by omega); have HX : Hid _ := hx; have HN : Hid _ := hn; clear hn hx; go_enter Tryz.func72, Tryz.ntmps72
 go_wp2; go_loopw [6, 7] (fun v f wr => CRel xs m w v f wr) (fun _ f _ => n - (intOf f).toNat)
 case atStart => exact ⟨0, [], by simp, by simp; omega, Lists.nil _ _, by omega, bR _ _⟩
 case round =>
  obtain ⟨j, E, rfl, hjm, hls, hj, hbw⟩ := hrel; obtain ⟨f, hf⟩ : ∃ f, f = j * m := ⟨_, rfl⟩; rw [← hf] at hjm ⊢; have HF : Hid _ := hf; have HL : Hid _ := hls; have HB : Hid _ := hbw; have hsz := hbw.size; rw [← HN.out] at hjm; have hEl : E.length = j := by have := hls.len; rw [segN_len] at this; exact this
  have HEL : Hid _ := hEl; clear hf hls hbw hEl
  by_cases hlt : f < n
  · have hltI : (f : Int) < (n : Int) := by omega
    obtain ⟨q, hq⟩ : ∃ q, q = f + m := ⟨_, rfl⟩; have hwa : IntKind.i64.wrap ((f : Int) + (m : Int)) = (q : Int) := by rw [IntKind.wrap_i64, hq]; omega
    have HQ : Hid (q = f + m) := hq
    by_cases hqn : q ≤ n
    · have hqI : (q : Int) ≤ (n : Int) := by omega
      have htf : f < q := by omega
      have htn : q ≤ n := by omega
      have HLN : Hid (((xs.drop f).take (q - f)).length = q - f) := by unfold Hid; rw [List.length_take, List.length_drop, ← HN.out]; omega
      have HTK : Hid ((xs.drop f).take (q - f) = (xs.drop (j * m)).take m) := by
       unfold Hid; have h9 := drop_min xs f m; rw [← HN.out, show min (f + m) n = q by omega] at h9; rw [h9, HF.out]
      have hc1 : ¬ cap = f := by omega
      have hc2 : f ≤ cap := by omega
      have hc3 : q ≤ cap := by omega
      have hf0 : (0 : Int) ≤ (f : Int) := by omega
      have hft : (f : Int) ≤ (q : Int) := by omega
      have htc : (q : Int) ≤ (cap : Int) := by omega
      clear hq; go_wp2_with (first | (go_at_call 38; refine Calls.mono (clone_n _ _ _ ((xs.drop f).take (q - f)) HLN.out.symm _ (rd_part (Rd.below HX.out HB.out) f (q - f)) (fun h => by cases h) (by omega)) ?_; rintro e w2 ⟨u2, rfl, hown2, hb2⟩; obtain ⟨a2, c2, hv2, -⟩ := hown2.val; rw [HLN.out] at hv2; subst hv2; have HO2 : Hid (Own w2 wr.heap.size (Dc.v ⟨a2, q - f, c2⟩) ((xs.drop f).take (q - f))) := hown2; have HB2 : Hid _ := hb2; have hs2 := hb2.size; clear hown2 hb2) | (at_builtin; refine wp_appG (K := KL) rfl _ _ rfl w.heap.size u6 E [⟨a2, q - f, c2⟩] 1 _ _ rfl rfl (HL.out.row.below (al HB2.out _)) rfl (rdG_lit (heap_alloc_new _ _) rfl) (fun h => by cases h) (by rw [HEL.out]; show (j + 1) * 24 ≤ _; omega) (by rw [HEL.out]; simp only [maxLen]; omega) (by simp; omega) ?_; intro v3 w3 hown3 hg3; have HO3 : Hid _ := hown3; have HG3 : Hid _ := hg3; clear hown3 hg3))
      go_roundw
      case rel =>
       have hls := HL.out.push (al HB2.out _) HB.out.size (Own.below HO2.out (al (bR _ _) _)) HG3.out HO3.out; rw [HTK.out, ← segN_succ] at hls; refine ⟨j + 1, _, ?_, ?_, hls, ?_, ?_⟩
       · rw [show (j + 1) * m = q by rw [Nat.succ_mul, HQ.out, HF.out]]
       · rw [Nat.succ_mul, ← HF.out, ← HN.out]; omega
       · have h9 : (j + 1) * 1 ≤ (j + 1) * m := Nat.mul_le_mul_left _ h1; rw [Nat.succ_mul j m, ← HF.out] at h9
         by_cases hj0 : j ≤ 1023
         · omega
         · exfalso
           have h8 : 1024 * 1 ≤ j * m := Nat.mul_le_mul (by omega) h1; rw [← HF.out] at h8; omega
       · exact (HB.out.trans ((al HB2.out _).mono HB.out.size)).grown HG3.out (by simp; omega) (fun k hk => (HL.out.row.lt' hk).1)
      case measure => simp [intOf]; omega
    · have hqI : ¬ (q : Int) ≤ (n : Int) := by omega
      have hqI2 : (n : Int) < (q : Int) := by omega
      have htf : f < n := by omega
      have htn : n ≤ n := by omega
      have HLN : Hid (((xs.drop f).take (n - f)).length = n - f) := by unfold Hid; rw [List.length_take, List.length_drop, ← HN.out]; omega
      have HTK : Hid ((xs.drop f).take (n - f) = (xs.drop (j * m)).take m) := by
       unfold Hid; have h9 := drop_min xs f m; rw [← HN.out, show min (f + m) n = n by omega] at h9; rw [h9, HF.out]
      have hc1 : ¬ cap = f := by omega
      have hc2 : f ≤ cap := by omega
      have hc3 : n ≤ cap := by omega
      have hf0 : (0 : Int) ≤ (f : Int) := by omega
      have hft : (f : Int) ≤ (n : Int) := by omega
      have htc : (n : Int) ≤ (cap : Int) := by omega
      clear hq; go_wp2_with (first | (go_at_call 38; refine Calls.mono (clone_n _ _ _ ((xs.drop f).take (n - f)) HLN.out.symm _ (rd_part (Rd.below HX.out HB.out) f (n - f)) (fun h => by cases h) (by omega)) ?_; rintro e w2 ⟨u2, rfl, hown2, hb2⟩; obtain ⟨a2, c2, hv2, -⟩ := hown2.val; rw [HLN.out] at hv2; subst hv2; have HO2 : Hid (Own w2 wr.heap.size (Dc.v ⟨a2, n - f, c2⟩) ((xs.drop f).take (n - f))) := hown2; have HB2 : Hid _ := hb2; have hs2 := hb2.size; clear hown2 hb2) | (at_builtin; refine wp_appG (K := KL) rfl _ _ rfl w.heap.size u6 E [⟨a2, n - f, c2⟩] 1 _ _ rfl rfl (HL.out.row.below (al HB2.out _)) rfl (rdG_lit (heap_alloc_new _ _) rfl) (fun h => by cases h) (by rw [HEL.out]; show (j + 1) * 24 ≤ _; omega) (by rw [HEL.out]; simp only [maxLen]; omega) (by simp; omega) ?_; intro v3 w3 hown3 hg3; have HO3 : Hid _ := hown3; have HG3 : Hid _ := hg3; clear hown3 hg3))
      go_roundw
      case rel =>
       have hls := HL.out.push (al HB2.out _) HB.out.size (Own.below HO2.out (al (bR _ _) _)) HG3.out HO3.out; rw [HTK.out, ← segN_succ] at hls; refine ⟨j + 1, _, ?_, ?_, hls, ?_, ?_⟩
       · rw [show (j + 1) * m = q by rw [Nat.succ_mul, HQ.out, HF.out]]
       · rw [Nat.succ_mul, ← HF.out, ← HN.out]; omega
       · have h9 : (j + 1) * 1 ≤ (j + 1) * m := Nat.mul_le_mul_left _ h1; rw [Nat.succ_mul j m, ← HF.out] at h9
         by_cases hj0 : j ≤ 1023
         · omega
         · exfalso
           have h8 : 1024 * 1 ≤ j * m := Nat.mul_le_mul (by omega) h1; rw [← HF.out] at h8; omega
       · exact (HB.out.trans ((al HB2.out _).mono HB.out.size)).grown HG3.out (by simp; omega) (fun k hk => (HL.out.row.lt' hk).1)
      case measure => simp [intOf]; omega
  · have hltI : ¬ (f : Int) < (n : Int) := by omega
    go_wp2; go_ret2; have hc : cutN n m = j := cutN_of h1 (by rw [← HF.out]; omega) (by rw [← HF.out]; exact hjm); rw [hc]
    first | exact ⟨_, _, rfl, HL.out, HB.out⟩ | exact ⟨_, rfl, ⟨_, HL.out⟩, HB.out⟩
end
end Go.Proofs.YtpakkpahcpgnnaaGreatDoor
