import Derived.Test.YtpakkpahcpgnnaaGreatDoorKy
import Derived.Test.YtpakkpahcpgnnaaGreatDoorUW
import Derived.Test.YtpakkpahcpgnnaaGreatDoorRL
import Derived.Test.YtpakkpahcpgnnaaGreatDoorCH
set_option linter.unusedVariables false
set_option linter.unusedSimpArgs false
namespace Go.Proofs.YtpakkpahcpgnnaaGreatDoor
open Go.RowKit Go.Maps
theorem neq_fk (u : World) (a b : Int) : (binOp .neq tFk (.agg #[.int .i64 a, .int .u64 b]) (.agg #[.int .i64 a, .int .u64 b])).run Tryz.prog u = .ok (.bool false) u := by
 go_simp
section
variable {w w' : World}
set_option maxRecDepth 20000
set_option maxHeartbeats 3200000
theorem sameKeys_t (a b : Option Addr) (n c d : Nat) (xs : List Fk) (hn : n = xs.length) (hb : n ≤ 1099511627776) (ha : RdG KKy w a xs) (hd : RdG KKy w b xs) : Calls Tryz.prog 17 #[.slice a n c, .slice b n d] w fun e w' => e = .returned (.bool true) ∧ Below w.heap.size w w' := by
 have HN : Hid _ := hn; have HA : Hid (RdG KKy w a xs) := ha; have HD : Hid (RdG KKy w b xs) := hd; have hnq := neq_fk; clear hn ha hd; go_enter Tryz.func17, Tryz.ntmps17
 go_wp2; go_loopw [5] (fun j wr => ∃ k : Nat, k ≤ n ∧ j = .int .i64 (k : Int) ∧ Below w.heap.size w wr) (fun j _ => n - (intOf j).toNat)
 case atStart => exact ⟨0, Nat.zero_le _, rfl, bR _ _⟩
 case round =>
  obtain ⟨k, hkn, rfl, hbw⟩ := hrel; have hkw : IntKind.i64.wrap ((k : Int) + 1) = ((k + 1 : Nat) : Int) := by rw [IntKind.wrap_i64]; omega
  by_cases hlt : k < n
  · have hlti : (k : Int) < (n : Int) := by omega
    have hk0 : (0 : Int) ≤ (k : Int) := by omega
    have hk1 : k < xs.length := by rw [← HN.out]; exact hlt
    obtain ⟨b1, o1, rfl, r1, -⟩ := RdG.below HA.out hbw k hk1; obtain ⟨b2, o2, rfl, r2, -⟩ := RdG.below HD.out hbw k hk1; obtain ⟨x, hx⟩ : ∃ x : Fk, x = xs[k] := ⟨_, rfl⟩; have g1 := r1 0 (.int .i64 x.1) (by rw [hx]; rfl); have g2 := r1 1 (.int .u64 (x.2 : Int)) (by rw [hx]; rfl); have g3 := r2 0 (.int .i64 x.1) (by rw [hx]; rfl); have g4 := r2 1 (.int .u64 (x.2 : Int)) (by rw [hx]; rfl); rw [Nat.add_zero] at g1 g3; have hc : ∀ u, Below wr.heap.size wr u → u.cell? ⟨b1, o1 + k * 2, none⟩ = some (.int .i64 x.1) ∧ u.cell? ⟨b1, o1 + k * 2 + 1, none⟩ = some (.int .u64 (x.2 : Int)) ∧ u.cell? ⟨b2, o2 + k * 2, none⟩ = some (.int .i64 x.1) ∧ u.cell? ⟨b2, o2 + k * 2 + 1, none⟩ = some (.int .u64 (x.2 : Int)) := fun u hu => ⟨(hu.cell (World.block_lt_of_cell? _ _ g1)).trans g1, (hu.cell (World.block_lt_of_cell? _ _ g2)).trans g2, (hu.cell (World.block_lt_of_cell? _ _ g3)).trans g3, (hu.cell (World.block_lt_of_cell? _ _ g4)).trans g4⟩
    have HBW : Hid _ := hbw; clear r1 r2 g1 g2 g3 g4 hx hk1 hbw; (go_wp2_with fail); refine wp_region_noPanic ?_; refine wp_region_held_drew (S := (fun u => Below wr.heap.size wr u)) (by kernel_rfl) (by first | exact (bR _ _).drew | assumption) (fun hHeld => ?_); refine tz 0 17 hHeld ?_; simp only [pS]; refine tz 1 18 hHeld ?_; simp only [pS]; refine tz 2 19 hHeld ?_; simp only [pS]; refine tz 3 20 hHeld ?_; simp only [pS]; refine tz 4 21 hHeld ?_; simp only [pS]; refine tz 5 22 hHeld ?_; simp only [pS]; refine tz 6 23 hHeld ?_; simp only [pS]; refine tz 7 24 hHeld ?_; simp only [pS]; refine tz 8 25 hHeld ?_; simp only [pS]; refine wpAnyH_done (by kernel_rfl) ?_ _; refine NoPanic.normal ?_; clear hHeld; go_wp2; go_roundw
    case rel => exact ⟨k + 1, by omega, by go_num, HBW.out.drew⟩
    case measure => simp [intOf]; omega
  · have hlti : ¬ (k : Int) < (n : Int) := by omega
    have HBW : Hid _ := hbw; clear hbw; go_wp2; go_ret; exact ⟨rfl, HBW.out⟩
end
structure Uv where
 k : Int
 e : Int
 s : Int
 p : Int
 i : Int
 c : Int
 d : Dc
 cd : Int
 g : Dc
abbrev uvl (u : Uv) : List Value := [.int .i64 u.k, .int .u64 u.e, .int .u64 u.s, .int .i64 u.p, .int .i64 u.i, .int .i64 u.c, .slice u.d.a u.d.n u.d.c, .int .i64 u.cd, .slice u.g.a u.g.n u.g.c]
abbrev KUv : Kd Uv := { t := 49, ts := 39, k := 9, by_ := 104, f := uvl, z := .agg #[.int .i64 0, .int .u64 0, .int .u64 0, .int .i64 0, .int .i64 0, .int .i64 0, .slice none 0 0, .int .i64 0, .slice none 0 0], hk := fun _ => rfl, h1 := (fun d u hu => by simp at hu; rcases hu with rfl | rfl | rfl | rfl | rfl | rfl | rfl | rfl | rfl <;> rfl), hpos := by decide, ht := Tryz.underlying39, hi := by kernel_rfl, hz := rfl }
structure SmU (w : World) (x y : Uv) (ds : List UInt8) (l : List Rg) : Prop where
 sc : x.k = y.k ∧ x.e = y.e ∧ x.s = y.s ∧ x.p = y.p ∧ x.i = y.i ∧ x.c = y.c ∧ x.cd = y.cd
 n1 : x.d.n = ds.length
 n2 : y.d.n = ds.length
 d1 : Rd w x.d.a ds
 d2 : Rd w y.d.a ds
 m1 : x.g.n = l.length
 m2 : y.g.n = l.length
 g1 : RdR w x.g.a l
 g2 : RdR w y.g.a l
 bd : ds.length ≤ 140737488351232
 bg : l.length ≤ 8796093022208
theorem SmU.below {w w' : World} {x y : Uv} {ds : List UInt8} {l : List Rg} (h : SmU w x y ds l) (hb : Below w.heap.size w w') : SmU w' x y ds l := ⟨h.sc, h.n1, h.n2, h.d1.below hb, h.d2.below hb, h.m1, h.m2, h.g1.below hb, h.g2.below hb, h.bd, h.bg⟩
end Go.Proofs.YtpakkpahcpgnnaaGreatDoor
