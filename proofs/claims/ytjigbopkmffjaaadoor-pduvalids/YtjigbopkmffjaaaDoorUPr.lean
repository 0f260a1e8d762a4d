import Derived.Test.YtjigbopkmffjaaaDoorUGi
namespace Go.Proofs.YtjigbopkmffjaaaDoor
set_option linter.unusedVariables false
set_option linter.unusedSimpArgs false
open Go.RowKit
def EncIs (ys : List UInt8) (r : Int) (w : World) (er : Ending) (w' : World) : Prop := ∃ (a : Option Addr) (L c : Nat), er = .returned (.tuple #[.slice a L c, .int .i64 r]) ∧ L = ys.length ∧ Rd w' a ys ∧ Below w.heap.size w w'
theorem EncOut.is {T : List UInt8} {w w' : World} {er : Ending} (h : EncOut T w er w') : EncIs (T ++ sealL T) 0 w er w' := by
  obtain ⟨a, L, c, h1, h2, h3, -, h5⟩ := h
  exact ⟨a, L, c, h1, h2, h3, h5⟩
theorem EncOwn.is {T : List UInt8} {w w' : World} {er : Ending} (h : EncOwn T w er w') : EncIs (T ++ sealL T) 0 w er w' := h.out.is
/-- what the four answer of one unit -/
structure Four (k e s p i c : Int) (dn : Nat) (cd : Int) (gn : Nat) (ds : List UInt8) (l : List Rg) (ys : List UInt8) (r : Int) : Prop where
  enc : ∀ da dc ga gc w, Rd w da ds → (da = none → dc = 0) → RdR w ga l → gn ≤ gc → TabOk w → Calls Tryd.prog 9 #[.agg #[.int .i64 k, .int .u64 e, .int .u64 s, .int .i64 p, .int .i64 i, .int .i64 c, .slice da dn dc, .int .i64 cd, .slice ga gn gc]] w fun er w' => EncIs ys r w er w'
  renc : ∀ da dc ga gc w, Rd w da ds → (da = none → dc = 0) → RdR w ga l → Calls Tryd.prog 17 #[.agg #[.int .i64 k, .int .u64 e, .int .u64 s, .int .i64 p, .int .i64 i, .int .i64 c, .slice da dn dc, .int .i64 cd, .slice ga gn gc]] w fun er w' => EncIs ys r w er w'
  val : ∀ da dc ga gc w, RdR w ga l → gn ≤ gc → Calls Tryd.prog 14 #[.agg #[.int .i64 k, .int .u64 e, .int .u64 s, .int .i64 p, .int .i64 i, .int .i64 c, .slice da dn dc, .int .i64 cd, .slice ga gn gc]] w fun er w' => er = .returned (.int .i64 r) ∧ Below w.heap.size w w'
  rval : ∀ da dc ga gc w, RdR w ga l → Calls Tryd.prog 15 #[.agg #[.int .i64 k, .int .u64 e, .int .u64 s, .int .i64 p, .int .i64 i, .int .i64 c, .slice da dn dc, .int .i64 cd, .slice ga gn gc]] w fun er w' => er = .returned (.int .i64 r) ∧ Below w.heap.size w w'
theorem four (k e s p i c : Int) (dn : Nat) (cd : Int) (gn : Nat) (ds : List UInt8) (l : List Rg) (hdn : dn = ds.length) (hgn : gn = l.length) (hl : gn ≤ 8796093022208) : ∃ ys r, Four k e s p i c dn cd gn ds l ys r := by
  by_cases hv : validR k e s p i c dn cd gn l
  · have hval : ∀ da dc ga gc w, RdR w ga l → gn ≤ gc → Calls Tryd.prog 14 #[.agg #[.int .i64 k, .int .u64 e, .int .u64 s, .int .i64 p, .int .i64 i, .int .i64 c, .slice da dn dc, .int .i64 cd, .slice ga gn gc]] w fun er w' => er = .returned (.int .i64 0) ∧ Below w.heap.size w w' := fun da dc ga gc w hx hc => valid_t k e s p i c da dn dc cd ga gn gc l true ⟨fun _ => hv, fun _ => rfl⟩ w hgn hx hl hc
    have hrval : ∀ da dc ga gc w, RdR w ga l → Calls Tryd.prog 15 #[.agg #[.int .i64 k, .int .u64 e, .int .u64 s, .int .i64 p, .int .i64 i, .int .i64 c, .slice da dn dc, .int .i64 cd, .slice ga gn gc]] w fun er w' => er = .returned (.int .i64 0) ∧ Below w.heap.size w w' := fun da dc ga gc w hx => rvalid_t k e s p i c da dn dc cd ga gn gc l true ⟨fun _ => hv, fun _ => rfl⟩ w hgn hx hl
    have hv' := hv
    obtain ⟨⟨hE, hS⟩, hk⟩ := hv'
    unfold nameOk at hE hS
    obtain ⟨E, rfl⟩ : ∃ E : Nat, e = (E : Int) := ⟨e.toNat, by omega⟩
    obtain ⟨S, rfl⟩ : ∃ S : Nat, s = (S : Int) := ⟨s.toNat, by omega⟩
    rcases hk with ⟨rfl, h⟩ | ⟨rfl, h⟩ | ⟨rfl, h⟩
    · obtain ⟨C, rfl⟩ : ∃ C : Nat, c = (C : Int) := ⟨c.toNat, by omega⟩
      obtain ⟨I, rfl⟩ : ∃ I : Nat, i = (I : Int) := ⟨i.toNat, by omega⟩
      obtain ⟨Q, rfl⟩ : ∃ Q : Nat, p = (Q : Int) := ⟨p.toNat, by omega⟩
      exact ⟨_, 0, ⟨fun da dc ga gc w hd hn hx hc ht => (enc_1 E S Q I C da dn dc ds cd ga gn gc l w hv hdn hd hn hgn hx hl hc ht).mono fun _ _ h => h.is, fun da dc ga gc w hd hn hx => (renc_1 E S Q I C da dn dc ds cd ga gn gc l w hv hdn hd hn hgn hx hl).mono fun _ _ h => h.is, hval, hrval⟩⟩
    · obtain ⟨CD, rfl⟩ : ∃ CD : Nat, cd = (CD : Int) := ⟨cd.toNat, by omega⟩
      exact ⟨_, 0, ⟨fun da dc ga gc w _ _ hx hc ht => (enc_2 E S p i c da dn dc CD ga gn gc l w hv hgn hx hl hc ht).mono fun _ _ h => h.is, fun da dc ga gc w _ _ hx => (renc_2 E S p i c da dn dc CD ga gn gc l w hv hgn hx hl).mono fun _ _ h => h.is, hval, hrval⟩⟩
    · exact ⟨_, 0, ⟨fun da dc ga gc w _ _ hx hc ht => (enc_3 E S p i c da dn dc cd ga gn gc l w hv hgn hx hl hc ht).mono fun _ _ h => h.is, fun da dc ga gc w _ _ hx => (renc_3 E S p i c da dn dc cd ga gn gc l w hv hgn hx hl).mono fun _ _ h => h.is, hval, hrval⟩⟩
  · refine ⟨[], 30, ⟨fun da dc ga gc w _ _ hx hc _ => (enc_bad k e s p i c da dn dc cd ga gn gc l hv w hgn hx hl hc).mono fun _ _ h => ⟨none, 0, 0, h.1, rfl, Rd.nil _ _, h.2⟩, fun da dc ga gc w _ _ hx => (renc_bad k e s p i c da dn dc cd ga gn gc l hv w hgn hx hl).mono fun _ _ h => ⟨none, 0, 0, h.1, rfl, Rd.nil _ _, h.2⟩, ?_, ?_⟩⟩
    · exact fun da dc ga gc w hx hc => valid_t k e s p i c da dn dc cd ga gn gc l false ⟨(fun h => by cases h), fun h => absurd h hv⟩ w hgn hx hl hc
    · exact fun da dc ga gc w hx => rvalid_t k e s p i c da dn dc cd ga gn gc l false ⟨(fun h => by cases h), fun h => absurd h hv⟩ w hgn hx hl
end Go.Proofs.YtjigbopkmffjaaaDoor
