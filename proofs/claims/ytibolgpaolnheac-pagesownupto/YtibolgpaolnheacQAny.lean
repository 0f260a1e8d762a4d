import Derived.Test.YtibolgpaolnheacQGr0
namespace Go.Proofs.Ytibolgpaolnheac
set_option linter.unusedVariables false
set_option linter.unusedSimpArgs false
open Go.RowKit Go.Shelf
variable {w : World} {g S : Nat} {P : List (List Ent)} {v : Value} {vs : List Value}
/-- what Up tells, by the whole row -/
def upL (P : List (List Ent)) (s : St) : List Ent := P.flatten.filter (fun x => !ltS x.st s)
theorem SeqG.more {α : Type} {F : Fence} {n : Nat} {P : Program} {g : Nat} {lb : Array Value} {encs : α → Array Value} {Z0 : BlkS} {S Sp : List α → Prop} {N N' : Nat} {w : World} (h : SeqG F n P g lb encs Z0 S Sp N w) (hN : N ≤ N') : SeqG F n P g lb encs Z0 S Sp N' w :=
  fun l J Jx W h1 h2 h3 h4 h5 h6 => h l J Jx W h1 h2 h3 h4 (fun pre Z x V hj hl => h5 pre Z x V hj (Nat.lt_of_lt_of_le hl hN)) h6
theorem IdxAt.has0 (h : IdxAt w g S [] v vs) : ∃ pa cap, v = .slice pa 0 cap ∧ ((pa = none ∧ cap = 0) ∨ (∃ b o, pa = some ⟨b, o, none⟩)) ∧ PgV w (.pointer (some ⟨g, 0, none⟩)) pa 0 cap := by
  obtain ⟨pa, cap, hv, hcap, hnil, hrd, hpg⟩ := h.rd
  refine ⟨pa, cap, hv, ?_, hpg⟩
  rcases h.row.2 with ⟨e, -⟩ | ⟨g', c', cur, e, -⟩
  · rw [hv] at e; cases e; exact .inl ⟨rfl, rfl⟩
  · rw [hv] at e; cases e; exact .inr ⟨g', 0, rfl⟩
theorem IdxAt.has (h : IdxAt w g S P v vs) (hne : P ≠ []) : ∃ b o cap, PgV w (.pointer (some ⟨g, 0, none⟩)) (some ⟨b, o, none⟩) P.length cap ∧ 0 < P.length ∧ P.length ≤ cap ∧ RdP w (some ⟨b, o, none⟩) P := by
  obtain ⟨pa, cap, hv, hcap, hnil, hrd, hpg⟩ := h.rd
  have hpos : 0 < P.length := List.length_pos_iff.2 hne
  obtain ⟨b, o, hpa, -⟩ := hrd 0 hpos
  subst hpa
  exact ⟨b, o, cap, hpg, hpos, hcap, hrd⟩
/-- Up's closure, whatever the index has -/
theorem up_any (n : Nat) (hn : 4 ≤ n) (gx gs s1 s2 : Nat) (h : IdxAt w g S P v vs) (ht : Tid S P) (hS : S ≤ 64) (hPl : P.length ≤ 4398046511104) (hcx : w.cell? ⟨gx, 0, none⟩ = some (.pointer (some ⟨g, 0, none⟩))) (hcs : w.rangeAt gs 0 (sc (s1, s2))) :
    SeqG Fence.wide n Try.prog 57 #[.pointer (some ⟨gx, 0, none⟩), .pointer (some ⟨gs, 0, none⟩)] encU (EntB w) (fun xs => xs = upL P (s1, s2)) (fun pre => pre <+: upL P (s1, s2)) (upL P (s1, s2)).length w := by
  by_cases hne : P = []
  · subst hne
    obtain ⟨pa, cap, -, hpa, hpg⟩ := h.has0
    exact up_stops0 n hn gx gs (.pointer (some ⟨g, 0, none⟩)) pa cap hpa rfl (some ⟨g, 0, none⟩) rfl s1 s2 w hcx hcs hpg
  · obtain ⟨b, o, cap, hpg, hpos, hcap, hrd⟩ := h.has hne
    obtain ⟨p, i, ok, hpl⟩ := place_ex ht.1 (s1, s2)
    have h9 := up_stops n hn gx gs g b o P.length cap P s1 s2 w hcx hcs hpg rfl hpos hcap hrd ht.1 hPl (fun q hq => by have := ht.2 q hq; omega) p i ok hpl
    rw [up_list hpl ht.1 (hpl.lt hne)] at h9
    exact h9
/-- Down's closure, whatever the index has -/
theorem down_any (n : Nat) (hn : 10 ≤ n) (gx gs s1 s2 : Nat) (h : IdxAt w g S P v vs) (ht : Tid S P) (hS : S ≤ 64) (hPl : P.length ≤ 4398046511104) (hcx : w.cell? ⟨gx, 0, none⟩ = some (.pointer (some ⟨g, 0, none⟩))) (hcs : w.rangeAt gs 0 (sc (s1, s2))) :
    SeqG Fence.wide n Try.prog 59 #[.pointer (some ⟨gx, 0, none⟩), .pointer (some ⟨gs, 0, none⟩)] encU (EntB w) (fun xs => xs = downL P (s1, s2)) (fun pre => pre <+: downL P (s1, s2)) 1125899906842624 w := by
  by_cases hne : P = []
  · subst hne
    obtain ⟨pa, cap, -, hpa, hpg⟩ := h.has0
    exact (down_G0 n hn gx gs (.pointer (some ⟨g, 0, none⟩)) pa cap hpa rfl (some ⟨g, 0, none⟩) rfl s1 s2 w hcx hcs hpg).more (Nat.zero_le _)
  · obtain ⟨b, o, cap, hpg, hpos, hcap, hrd⟩ := h.has hne
    obtain ⟨p, i, ok, hpl⟩ := place_ex ht.1 (s1, s2)
    exact down_G n hn gx gs g b o P.length cap P s1 s2 w hcx hcs hpg rfl hpos hcap hrd ht.1 hPl (fun q hq => by have := ht.2 q hq; omega) p i ok hpl
/-- the first of a row, as Least and Greatest answer it -/
def FirstIs (L : List Ent) (s : St) (n : Nat) (ok : Bool) : Prop := (L = [] ∧ s = (0, 0) ∧ n = 0 ∧ ok = false) ∨ (∃ y, L.head? = some y ∧ s = y.st ∧ n = y.n ∧ ok = true)
theorem least_any (h : IdxAt w g S P v vs) (ht : Tid S P) (hS : S ≤ 64) (hPl : P.length ≤ 4398046511104) (s1 s2 : Nat) :
    Calls Try.prog 23 #[.pointer (some ⟨g, 0, none⟩), sv (s1, s2)] w fun e w' => ∃ (s : St) (n : Nat) (ok : Bool), e = .returned (.tuple #[sv s, .int .u64 (n : Int), .bool ok]) ∧ FirstIs (upL P (s1, s2)) s n ok ∧ Below w.heap.size w w' := by
  by_cases hne : P = []
  · subst hne
    obtain ⟨pa, cap, -, hpa, hpg⟩ := h.has0
    refine (least0_t (.pointer (some ⟨g, 0, none⟩)) pa cap hpa s1 s2 w hpg).mono ?_
    rintro e w' ⟨rfl, hb⟩
    exact ⟨(0, 0), 0, false, rfl, .inl ⟨rfl, rfl, rfl, rfl⟩, hb⟩
  · obtain ⟨b, o, cap, hpg, hpos, hcap, hrd⟩ := h.has hne
    refine (least_t (.pointer (some ⟨g, 0, none⟩)) b o P.length cap P s1 s2 w hpg rfl hcap hpos hrd ht.1 hPl (fun q hq => by have := ht.2 q hq; omega)).mono ?_
    rintro e w' ⟨p, i, ok0, s, v9, ok, rfl, hpl, hc, hb⟩
    rw [up_list hpl ht.1 (hpl.lt hne)] at hc
    rcases hc with ⟨h1, h2, rfl, h4⟩ | ⟨y, h1, h2, rfl, h4⟩
    · exact ⟨s, 0, ok, rfl, .inl ⟨h1, h2, rfl, h4⟩, hb⟩
    · exact ⟨s, y.n, ok, rfl, .inr ⟨y, h1, h2, rfl, h4⟩, hb⟩
theorem greatest_any (h : IdxAt w g S P v vs) (ht : Tid S P) (hS : S ≤ 64) (hPl : P.length ≤ 4398046511104) (s1 s2 : Nat) :
    Calls Try.prog 25 #[.pointer (some ⟨g, 0, none⟩), sv (s1, s2)] w fun e w' => ∃ (s : St) (n : Nat) (ok : Bool), e = .returned (.tuple #[sv s, .int .u64 (n : Int), .bool ok]) ∧ FirstIs (downL P (s1, s2)) s n ok ∧ Below w.heap.size w w' := by
  by_cases hne : P = []
  · subst hne
    obtain ⟨pa, cap, -, hpa, hpg⟩ := h.has0
    refine (greatest0_t (.pointer (some ⟨g, 0, none⟩)) pa cap hpa s1 s2 w hpg).mono ?_
    rintro e w' ⟨rfl, hb⟩
    exact ⟨(0, 0), 0, false, rfl, .inl ⟨rfl, rfl, rfl, rfl⟩, hb⟩
  · obtain ⟨b, o, cap, hpg, hpos, hcap, hrd⟩ := h.has hne
    refine (greatest_t (.pointer (some ⟨g, 0, none⟩)) b o P.length cap P s1 s2 w hpg rfl hcap hpos hrd ht.1 hPl (fun q hq => by have := ht.2 q hq; omega)).mono ?_
    rintro e w' ⟨p, i, ok0, s, v9, ok, rfl, hpl, hc, hb⟩
    rcases hc with ⟨h1, h2, rfl, h4⟩ | ⟨y, h1, h2, rfl, h4⟩
    · exact ⟨s, 0, ok, rfl, .inl ⟨h1, h2, rfl, h4⟩, hb⟩
    · exact ⟨s, y.n, ok, rfl, .inr ⟨y, h1, h2, rfl, h4⟩, hb⟩
end Go.Proofs.Ytibolgpaolnheac
