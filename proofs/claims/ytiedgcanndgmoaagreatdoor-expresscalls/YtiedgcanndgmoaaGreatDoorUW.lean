import Derived.Test.YtiedgcanndgmoaaGreatDoorUT
import Derived.Deep.CutRange
namespace Go.Proofs.YtiedgcanndgmoaaGreatDoor
set_option linter.unusedVariables false
set_option linter.unusedSimpArgs false
open Go.RowKit
/-- what a unit must be -/
def validR (k e s p i c : Int) (dn : Nat) (cd : Int) (gn : Nat) (l : List Rg) : Prop := (nameOk e ∧ nameOk s) ∧ ((k = 1 ∧ ((p = 1 ∨ p = 2) ∧ (0 ≤ i ∧ i < 64) ∧ (i < c ∧ c ≤ 64) ∧ (1 ≤ dn ∧ dn ≤ 1024) ∧ (cd = 0 ∧ gn = 0))) ∨ (k = 2 ∧ ((p = 0 ∧ i = 0 ∧ c = 0 ∧ dn = 0) ∧ (0 ≤ cd ∧ cd ≤ 7) ∧ gotOk l ∧ (cd = 0 ∨ gn = 0))) ∨ (k = 3 ∧ ((p = 0 ∧ i = 0 ∧ c = 0 ∧ dn = 0) ∧ (cd = 0 ∧ gn = 0))))
theorem exB (p : Prop) : ∃ b : Bool, b = true ↔ p := by
  by_cases h : p
  · exact ⟨true, fun _ => h, fun _ => rfl⟩
  · exact ⟨false, (fun h9 => by cases h9), fun h9 => absurd h9 h⟩
section
set_option maxRecDepth 20000
set_option maxHeartbeats 12800000
theorem rvalid_t (k e s p i c : Int) (da : Option Addr) (dn dc : Nat) (cd : Int) (ga : Option Addr) (gn gc : Nat) (l : List Rg) (v : Bool) (hv : v = true ↔ validR k e s p i c dn cd gn l) (w : World) (hn : gn = l.length) (hx : RdR w ga l) (hl : gn ≤ 8796093022208) :
    Calls Tryz.prog 64 #[.agg #[.int .i64 k, .int .u64 e, .int .u64 s, .int .i64 p, .int .i64 i, .int .i64 c, .slice da dn dc, .int .i64 cd, .slice ga gn gc]] w fun e w' => e = .returned (.int .i64 (if v then 0 else 30)) ∧ Below w.heap.size w w' := by
  have HV : Hid (v = true ↔ validR k e s p i c dn cd gn l) := hv
  obtain ⟨tb, htb⟩ := exB (gotOk l)
  have HTB : Hid (tb = true ↔ gotOk l) := htb
  have HTO : Hid (∀ u, Below w.heap.size w u → Calls Tryz.prog 76 #[.slice ga gn gc] u fun e w' => e = .returned (.bool tb) ∧ Below u.heap.size u w') := fun u hu => told_b ga gn gc l tb htb u hn (hx.below hu) hl
  obtain ⟨nb, hnb⟩ := exB (nameOk e ∧ nameOk s)
  obtain ⟨sb, hsb⟩ := exB (p = 0 ∧ i = 0 ∧ c = 0 ∧ dn = 0)
  have HNB : Hid (nb = true ↔ nameOk e ∧ nameOk s) := hnb
  have HSB : Hid (sb = true ↔ (p = 0 ∧ i = 0 ∧ c = 0 ∧ dn = 0)) := hsb
  clear hv htb hn hx hl hnb hsb
  go_enter Tryz.func64, Tryz.ntmps64
  go_upto_region 1 with fail
  go_cut [3] from 5 to 22 (fun cv wx => cv = .bool nb ∧ wx = w.alloc (.cells #[.int .i64 k, .int .u64 e, .int .u64 s, .int .i64 p, .int .i64 i, .int .i64 c, .slice da dn dc, .int .i64 cd, .slice ga gn gc] 41 (0, 0)))
  case first =>
    by_cases h0 : 1 ≤ e
    · skip
      by_cases h1 : e ≤ 281474976710655
      · skip
        by_cases h2 : 1 ≤ s
        · skip
          by_cases h3 : s ≤ 281474976710655
          · skip
            obtain rfl : nb = true := HNB.out.2 ⟨⟨h0, h1⟩, ⟨h2, h3⟩⟩
            clear HNB
            go_wp2_with fail
            go_meet
            exact ⟨by first | rfl | (simp; done) | (simp; omega) | simp_all, rfl⟩
          · skip
            obtain rfl : nb = false := bF HNB.out (fun h => by obtain ⟨⟨g0, g1⟩, ⟨g2, g3⟩⟩ := h; omega)
            clear HNB
            go_wp2_with fail
            go_meet
            exact ⟨by first | rfl | (simp; done) | (simp; omega) | simp_all, rfl⟩
        · skip
          obtain rfl : nb = false := bF HNB.out (fun h => by obtain ⟨⟨g0, g1⟩, ⟨g2, g3⟩⟩ := h; omega)
          clear HNB
          go_wp2_with fail
          go_meet
          exact ⟨by first | rfl | (simp; done) | (simp; omega) | simp_all, rfl⟩
      · skip
        obtain rfl : nb = false := bF HNB.out (fun h => by obtain ⟨⟨g0, g1⟩, ⟨g2, g3⟩⟩ := h; omega)
        clear HNB
        go_wp2_with fail
        go_meet
        exact ⟨by first | rfl | (simp; done) | (simp; omega) | simp_all, rfl⟩
    · skip
      obtain rfl : nb = false := bF HNB.out (fun h => by obtain ⟨⟨g0, g1⟩, ⟨g2, g3⟩⟩ := h; omega)
      clear HNB
      go_wp2_with fail
      go_meet
      exact ⟨by first | rfl | (simp; done) | (simp; omega) | simp_all, rfl⟩
  obtain ⟨rfl, rfl⟩ := hcut
  go_upto_region 2 with fail
  go_cut [4] from 23 to 41 (fun cv wx => cv = .bool sb ∧ wx = w.alloc (.cells #[.int .i64 k, .int .u64 e, .int .u64 s, .int .i64 p, .int .i64 i, .int .i64 c, .slice da dn dc, .int .i64 cd, .slice ga gn gc] 41 (0, 0)))
  case first =>
    by_cases h0 : p = 0
    · subst h0
      by_cases h1 : i = 0
      · subst h1
        by_cases h2 : c = 0
        · subst h2
          by_cases h3 : dn = 0
          · subst h3
            obtain rfl : sb = true := HSB.out.2 ⟨rfl, rfl, rfl, rfl⟩
            clear HSB
            go_wp2_with fail
            go_meet
            exact ⟨by first | rfl | (simp; done) | (simp; omega) | simp_all, rfl⟩
          · have hb3 : ((dn : Int) == 0) = false := by simpa using h3
            obtain rfl : sb = false := bF HSB.out (fun h => by obtain ⟨g0, g1, g2, g3⟩ := h; omega)
            clear HSB
            go_wp2_with fail
            go_meet
            exact ⟨by first | rfl | (simp; done) | (simp; omega) | simp_all, rfl⟩
        · have hb2 : ((c : Int) == 0) = false := by simpa using h2
          obtain rfl : sb = false := bF HSB.out (fun h => by obtain ⟨g0, g1, g2, g3⟩ := h; omega)
          clear HSB
          go_wp2_with fail
          go_meet
          exact ⟨by first | rfl | (simp; done) | (simp; omega) | simp_all, rfl⟩
      · have hb1 : ((i : Int) == 0) = false := by simpa using h1
        obtain rfl : sb = false := bF HSB.out (fun h => by obtain ⟨g0, g1, g2, g3⟩ := h; omega)
        clear HSB
        go_wp2_with fail
        go_meet
        exact ⟨by first | rfl | (simp; done) | (simp; omega) | simp_all, rfl⟩
    · have hb0 : ((p : Int) == 0) = false := by simpa using h0
      obtain rfl : sb = false := bF HSB.out (fun h => by obtain ⟨g0, g1, g2, g3⟩ := h; omega)
      clear HSB
      go_wp2_with fail
      go_meet
      exact ⟨by first | rfl | (simp; done) | (simp; omega) | simp_all, rfl⟩
  obtain ⟨rfl, rfl⟩ := hcut
  cases nb
  · obtain rfl : v = false := bF HV.out (fun h => by have h9 := HNB.out.2 h.1; cases h9)
    by_cases k1 : k = 1
    · subst k1
      clear HV HNB HSB HTB
      go_wp2
      go_ret
      exact ⟨by first | rfl | (simp; done) | simp_all, al (Below.refl _ _) _⟩
    · have kb1 : (k == 1) = false := by simpa using k1
      by_cases k2 : k = 2
      · subst k2
        clear HV HNB HSB HTB
        go_wp2
        go_ret
        exact ⟨by first | rfl | (simp; done) | simp_all, al (Below.refl _ _) _⟩
      · have kb2 : (k == 2) = false := by simpa using k2
        by_cases k3 : k = 3
        · subst k3
          clear HV HNB HSB HTB
          go_wp2
          go_ret
          exact ⟨by first | rfl | (simp; done) | simp_all, al (Below.refl _ _) _⟩
        · have kb3 : (k == 3) = false := by simpa using k3
          clear HV HNB HSB HTB
          go_wp2
          go_ret
          exact ⟨by first | rfl | (simp; done) | simp_all, al (Below.refl _ _) _⟩
  · skip
    by_cases k1 : k = 1
    · subst k1
      by_cases p1 : p = 1
      · subst p1
        by_cases h0 : 1 ≤ c
        · skip
          by_cases h1 : c ≤ 64
          · skip
            by_cases h2 : 0 ≤ i
            · skip
              by_cases h3 : i < c
              · skip
                by_cases h4 : 1 ≤ dn
                · have hi4 : (1 : Int) ≤ (dn : Int) := by omega
                  by_cases h5 : dn ≤ 1024
                  · have hi5 : (dn : Int) ≤ 1024 := by omega
                    by_cases h6 : cd = 0
                    · subst h6
                      by_cases h7 : gn = 0
                      · subst h7
                        obtain rfl : v = true := HV.out.2 ⟨HNB.out.1 rfl, .inl ⟨rfl, (by omega), (by omega), (by omega), (by omega), rfl, rfl⟩⟩
                        clear HV HNB HSB HTB
                        go_wp2
                        go_ret
                        exact ⟨by first | rfl | (simp; done) | simp_all, al (Below.refl _ _) _⟩
                      · have hb7 : ((gn : Int) == 0) = false := by simpa using h7
                        obtain rfl : v = false := bF HV.out (fun h => by rcases h with ⟨hh, ⟨hk, d1, ⟨d2, d3⟩, ⟨d4, d5⟩, ⟨d6, d7⟩, d8, d9⟩ | ⟨hk, hR⟩ | ⟨hk, hC⟩⟩ <;> omega)
                        clear HV HNB HSB HTB
                        go_wp2
                        go_ret
                        exact ⟨by first | rfl | (simp; done) | simp_all, al (Below.refl _ _) _⟩
                    · have hb6 : (cd == 0) = false := by simpa using h6
                      obtain rfl : v = false := bF HV.out (fun h => by rcases h with ⟨hh, ⟨hk, d1, ⟨d2, d3⟩, ⟨d4, d5⟩, ⟨d6, d7⟩, d8, d9⟩ | ⟨hk, hR⟩ | ⟨hk, hC⟩⟩ <;> omega)
                      clear HV HNB HSB HTB
                      go_wp2
                      go_ret
                      exact ⟨by first | rfl | (simp; done) | simp_all, al (Below.refl _ _) _⟩
                  · have hi5 : ¬ (dn : Int) ≤ 1024 := by omega
                    obtain rfl : v = false := bF HV.out (fun h => by rcases h with ⟨hh, ⟨hk, d1, ⟨d2, d3⟩, ⟨d4, d5⟩, ⟨d6, d7⟩, d8, d9⟩ | ⟨hk, hR⟩ | ⟨hk, hC⟩⟩ <;> omega)
                    clear HV HNB HSB HTB
                    go_wp2
                    go_ret
                    exact ⟨by first | rfl | (simp; done) | simp_all, al (Below.refl _ _) _⟩
                · have hi4 : ¬ (1 : Int) ≤ (dn : Int) := by omega
                  obtain rfl : v = false := bF HV.out (fun h => by rcases h with ⟨hh, ⟨hk, d1, ⟨d2, d3⟩, ⟨d4, d5⟩, ⟨d6, d7⟩, d8, d9⟩ | ⟨hk, hR⟩ | ⟨hk, hC⟩⟩ <;> omega)
                  clear HV HNB HSB HTB
                  go_wp2
                  go_ret
                  exact ⟨by first | rfl | (simp; done) | simp_all, al (Below.refl _ _) _⟩
              · skip
                obtain rfl : v = false := bF HV.out (fun h => by rcases h with ⟨hh, ⟨hk, d1, ⟨d2, d3⟩, ⟨d4, d5⟩, ⟨d6, d7⟩, d8, d9⟩ | ⟨hk, hR⟩ | ⟨hk, hC⟩⟩ <;> omega)
                clear HV HNB HSB HTB
                go_wp2
                go_ret
                exact ⟨by first | rfl | (simp; done) | simp_all, al (Below.refl _ _) _⟩
            · skip
              obtain rfl : v = false := bF HV.out (fun h => by rcases h with ⟨hh, ⟨hk, d1, ⟨d2, d3⟩, ⟨d4, d5⟩, ⟨d6, d7⟩, d8, d9⟩ | ⟨hk, hR⟩ | ⟨hk, hC⟩⟩ <;> omega)
              clear HV HNB HSB HTB
              go_wp2
              go_ret
              exact ⟨by first | rfl | (simp; done) | simp_all, al (Below.refl _ _) _⟩
          · skip
            obtain rfl : v = false := bF HV.out (fun h => by rcases h with ⟨hh, ⟨hk, d1, ⟨d2, d3⟩, ⟨d4, d5⟩, ⟨d6, d7⟩, d8, d9⟩ | ⟨hk, hR⟩ | ⟨hk, hC⟩⟩ <;> omega)
            clear HV HNB HSB HTB
            go_wp2
            go_ret
            exact ⟨by first | rfl | (simp; done) | simp_all, al (Below.refl _ _) _⟩
        · skip
          obtain rfl : v = false := bF HV.out (fun h => by rcases h with ⟨hh, ⟨hk, d1, ⟨d2, d3⟩, ⟨d4, d5⟩, ⟨d6, d7⟩, d8, d9⟩ | ⟨hk, hR⟩ | ⟨hk, hC⟩⟩ <;> omega)
          clear HV HNB HSB HTB
          go_wp2
          go_ret
          exact ⟨by first | rfl | (simp; done) | simp_all, al (Below.refl _ _) _⟩
      · have pb1 : (p == 1) = false := by simpa using p1
        by_cases p2 : p = 2
        · subst p2
          by_cases h0 : 1 ≤ c
          · skip
            by_cases h1 : c ≤ 64
            · skip
              by_cases h2 : 0 ≤ i
              · skip
                by_cases h3 : i < c
                · skip
                  by_cases h4 : 1 ≤ dn
                  · have hi4 : (1 : Int) ≤ (dn : Int) := by omega
                    by_cases h5 : dn ≤ 1024
                    · have hi5 : (dn : Int) ≤ 1024 := by omega
                      by_cases h6 : cd = 0
                      · subst h6
                        by_cases h7 : gn = 0
                        · subst h7
                          obtain rfl : v = true := HV.out.2 ⟨HNB.out.1 rfl, .inl ⟨rfl, (by omega), (by omega), (by omega), (by omega), rfl, rfl⟩⟩
                          clear HV HNB HSB HTB
                          go_wp2
                          go_ret
                          exact ⟨by first | rfl | (simp; done) | simp_all, al (Below.refl _ _) _⟩
                        · have hb7 : ((gn : Int) == 0) = false := by simpa using h7
                          obtain rfl : v = false := bF HV.out (fun h => by rcases h with ⟨hh, ⟨hk, d1, ⟨d2, d3⟩, ⟨d4, d5⟩, ⟨d6, d7⟩, d8, d9⟩ | ⟨hk, hR⟩ | ⟨hk, hC⟩⟩ <;> omega)
                          clear HV HNB HSB HTB
                          go_wp2
                          go_ret
                          exact ⟨by first | rfl | (simp; done) | simp_all, al (Below.refl _ _) _⟩
                      · have hb6 : (cd == 0) = false := by simpa using h6
                        obtain rfl : v = false := bF HV.out (fun h => by rcases h with ⟨hh, ⟨hk, d1, ⟨d2, d3⟩, ⟨d4, d5⟩, ⟨d6, d7⟩, d8, d9⟩ | ⟨hk, hR⟩ | ⟨hk, hC⟩⟩ <;> omega)
                        clear HV HNB HSB HTB
                        go_wp2
                        go_ret
                        exact ⟨by first | rfl | (simp; done) | simp_all, al (Below.refl _ _) _⟩
                    · have hi5 : ¬ (dn : Int) ≤ 1024 := by omega
                      obtain rfl : v = false := bF HV.out (fun h => by rcases h with ⟨hh, ⟨hk, d1, ⟨d2, d3⟩, ⟨d4, d5⟩, ⟨d6, d7⟩, d8, d9⟩ | ⟨hk, hR⟩ | ⟨hk, hC⟩⟩ <;> omega)
                      clear HV HNB HSB HTB
                      go_wp2
                      go_ret
                      exact ⟨by first | rfl | (simp; done) | simp_all, al (Below.refl _ _) _⟩
                  · have hi4 : ¬ (1 : Int) ≤ (dn : Int) := by omega
                    obtain rfl : v = false := bF HV.out (fun h => by rcases h with ⟨hh, ⟨hk, d1, ⟨d2, d3⟩, ⟨d4, d5⟩, ⟨d6, d7⟩, d8, d9⟩ | ⟨hk, hR⟩ | ⟨hk, hC⟩⟩ <;> omega)
                    clear HV HNB HSB HTB
                    go_wp2
                    go_ret
                    exact ⟨by first | rfl | (simp; done) | simp_all, al (Below.refl _ _) _⟩
                · skip
                  obtain rfl : v = false := bF HV.out (fun h => by rcases h with ⟨hh, ⟨hk, d1, ⟨d2, d3⟩, ⟨d4, d5⟩, ⟨d6, d7⟩, d8, d9⟩ | ⟨hk, hR⟩ | ⟨hk, hC⟩⟩ <;> omega)
                  clear HV HNB HSB HTB
                  go_wp2
                  go_ret
                  exact ⟨by first | rfl | (simp; done) | simp_all, al (Below.refl _ _) _⟩
              · skip
                obtain rfl : v = false := bF HV.out (fun h => by rcases h with ⟨hh, ⟨hk, d1, ⟨d2, d3⟩, ⟨d4, d5⟩, ⟨d6, d7⟩, d8, d9⟩ | ⟨hk, hR⟩ | ⟨hk, hC⟩⟩ <;> omega)
                clear HV HNB HSB HTB
                go_wp2
                go_ret
                exact ⟨by first | rfl | (simp; done) | simp_all, al (Below.refl _ _) _⟩
            · skip
              obtain rfl : v = false := bF HV.out (fun h => by rcases h with ⟨hh, ⟨hk, d1, ⟨d2, d3⟩, ⟨d4, d5⟩, ⟨d6, d7⟩, d8, d9⟩ | ⟨hk, hR⟩ | ⟨hk, hC⟩⟩ <;> omega)
              clear HV HNB HSB HTB
              go_wp2
              go_ret
              exact ⟨by first | rfl | (simp; done) | simp_all, al (Below.refl _ _) _⟩
          · skip
            obtain rfl : v = false := bF HV.out (fun h => by rcases h with ⟨hh, ⟨hk, d1, ⟨d2, d3⟩, ⟨d4, d5⟩, ⟨d6, d7⟩, d8, d9⟩ | ⟨hk, hR⟩ | ⟨hk, hC⟩⟩ <;> omega)
            clear HV HNB HSB HTB
            go_wp2
            go_ret
            exact ⟨by first | rfl | (simp; done) | simp_all, al (Below.refl _ _) _⟩
        · have pb2 : (p == 2) = false := by simpa using p2
          obtain rfl : v = false := bF HV.out (fun h => by rcases h with ⟨hh, ⟨hk, d1, ⟨d2, d3⟩, ⟨d4, d5⟩, ⟨d6, d7⟩, d8, d9⟩ | ⟨hk, hR⟩ | ⟨hk, hC⟩⟩ <;> omega)
          clear HV HNB HSB HTB
          go_wp2
          go_ret
          exact ⟨by first | rfl | (simp; done) | simp_all, al (Below.refl _ _) _⟩
    · have kb1 : (k == 1) = false := by simpa using k1
      by_cases k2 : k = 2
      · subst k2
        cases sb
        · obtain rfl : v = false := bF HV.out (fun h => by rcases h with ⟨hh, ⟨hk, hD⟩ | ⟨hk, r1, ⟨r2, r3⟩, r4, r5⟩ | ⟨hk, hC⟩⟩; (· omega); (· have h9 := HSB.out.2 r1; cases h9); (· omega))
          clear HV HNB HSB HTB
          go_wp2
          go_ret
          exact ⟨by first | rfl | (simp; done) | simp_all, al (Below.refl _ _) _⟩
        · by_cases h0 : 0 ≤ cd
          · by_cases h1 : cd ≤ 7
            · cases tb
              · obtain rfl : v = false := bF HV.out (fun h => by rcases h with ⟨hh, ⟨hk, hD⟩ | ⟨hk, r1, ⟨r2, r3⟩, r4, r5⟩ | ⟨hk, hC⟩⟩; (· omega); (· have h9 := HTB.out.2 r4; cases h9); (· omega))
                clear HV HNB HSB HTB
                go_wp2_with (go_at_call 76; refine Calls.mono (HTO.out _ (al (Below.refl _ _) _)) ?_; rintro e1 w1 ⟨rfl, hb1⟩; have HB1 : Hid (Below w.heap.size w w1) := below_next (al (Below.refl _ _) _) hb1; have hx7 : w1.cell? ⟨w.heap.size, 7, none⟩ = some (.int .i64 cd) := (range_below (range_box w [.int .i64 2, .int .u64 e, .int .u64 s, .int .i64 p, .int .i64 i, .int .i64 c, .slice da dn dc, .int .i64 cd, .slice ga gn gc] 41) hb1 7 _ rfl); have hx8 : w1.cell? ⟨w.heap.size, 8, none⟩ = some (.slice ga gn gc) := (range_below (range_box w [.int .i64 2, .int .u64 e, .int .u64 s, .int .i64 p, .int .i64 i, .int .i64 c, .slice da dn dc, .int .i64 cd, .slice ga gn gc] 41) hb1 8 _ rfl))
                go_ret
                exact ⟨by first | rfl | (simp; done) | simp_all, HB1.out⟩
              · by_cases h2 : cd = 0
                · have hb2 : (cd == 0) = true := by simpa using h2
                  obtain rfl : v = true := HV.out.2 ⟨HNB.out.1 rfl, .inr (.inl ⟨rfl, HSB.out.1 rfl, ⟨h0, h1⟩, HTB.out.1 rfl, .inl h2⟩)⟩
                  clear h2
                  clear HV HNB HSB HTB
                  go_wp2_with (go_at_call 76; refine Calls.mono (HTO.out _ (al (Below.refl _ _) _)) ?_; rintro e1 w1 ⟨rfl, hb1⟩; have HB1 : Hid (Below w.heap.size w w1) := below_next (al (Below.refl _ _) _) hb1; have hx7 : w1.cell? ⟨w.heap.size, 7, none⟩ = some (.int .i64 cd) := (range_below (range_box w [.int .i64 2, .int .u64 e, .int .u64 s, .int .i64 p, .int .i64 i, .int .i64 c, .slice da dn dc, .int .i64 cd, .slice ga gn gc] 41) hb1 7 _ rfl); have hx8 : w1.cell? ⟨w.heap.size, 8, none⟩ = some (.slice ga gn gc) := (range_below (range_box w [.int .i64 2, .int .u64 e, .int .u64 s, .int .i64 p, .int .i64 i, .int .i64 c, .slice da dn dc, .int .i64 cd, .slice ga gn gc] 41) hb1 8 _ rfl))
                  go_ret
                  exact ⟨by first | rfl | (simp; done) | simp_all, HB1.out⟩
                · have hb2 : (cd == 0) = false := by simpa using h2
                  by_cases h3 : gn = 0
                  · have hb3 : ((gn : Int) == 0) = true := by simpa using h3
                    obtain rfl : v = true := HV.out.2 ⟨HNB.out.1 rfl, .inr (.inl ⟨rfl, HSB.out.1 rfl, ⟨h0, h1⟩, HTB.out.1 rfl, .inr h3⟩)⟩
                    clear h2 h3
                    clear HV HNB HSB HTB
                    go_wp2_with (go_at_call 76; refine Calls.mono (HTO.out _ (al (Below.refl _ _) _)) ?_; rintro e1 w1 ⟨rfl, hb1⟩; have HB1 : Hid (Below w.heap.size w w1) := below_next (al (Below.refl _ _) _) hb1; have hx7 : w1.cell? ⟨w.heap.size, 7, none⟩ = some (.int .i64 cd) := (range_below (range_box w [.int .i64 2, .int .u64 e, .int .u64 s, .int .i64 p, .int .i64 i, .int .i64 c, .slice da dn dc, .int .i64 cd, .slice ga gn gc] 41) hb1 7 _ rfl); have hx8 : w1.cell? ⟨w.heap.size, 8, none⟩ = some (.slice ga gn gc) := (range_below (range_box w [.int .i64 2, .int .u64 e, .int .u64 s, .int .i64 p, .int .i64 i, .int .i64 c, .slice da dn dc, .int .i64 cd, .slice ga gn gc] 41) hb1 8 _ rfl))
                    go_ret
                    exact ⟨by first | rfl | (simp; done) | simp_all, HB1.out⟩
                  · have hb3 : ((gn : Int) == 0) = false := by simpa using h3
                    obtain rfl : v = false := bF HV.out (fun h => by rcases h with ⟨hh, ⟨hk, hD⟩ | ⟨hk, r1, ⟨r2, r3⟩, r4, r5⟩ | ⟨hk, hC⟩⟩; (· omega); (· omega); (· omega))
                    clear HV HNB HSB HTB
                    go_wp2_with (go_at_call 76; refine Calls.mono (HTO.out _ (al (Below.refl _ _) _)) ?_; rintro e1 w1 ⟨rfl, hb1⟩; have HB1 : Hid (Below w.heap.size w w1) := below_next (al (Below.refl _ _) _) hb1; have hx7 : w1.cell? ⟨w.heap.size, 7, none⟩ = some (.int .i64 cd) := (range_below (range_box w [.int .i64 2, .int .u64 e, .int .u64 s, .int .i64 p, .int .i64 i, .int .i64 c, .slice da dn dc, .int .i64 cd, .slice ga gn gc] 41) hb1 7 _ rfl); have hx8 : w1.cell? ⟨w.heap.size, 8, none⟩ = some (.slice ga gn gc) := (range_below (range_box w [.int .i64 2, .int .u64 e, .int .u64 s, .int .i64 p, .int .i64 i, .int .i64 c, .slice da dn dc, .int .i64 cd, .slice ga gn gc] 41) hb1 8 _ rfl))
                    go_ret
                    exact ⟨by first | rfl | (simp; done) | simp_all, HB1.out⟩
            · obtain rfl : v = false := bF HV.out (fun h => by rcases h with ⟨hh, ⟨hk, hD⟩ | ⟨hk, r1, ⟨r2, r3⟩, r4, r5⟩ | ⟨hk, hC⟩⟩; (· omega); (· omega); (· omega))
              clear HV HNB HSB HTB
              go_wp2
              go_ret
              exact ⟨by first | rfl | (simp; done) | simp_all, al (Below.refl _ _) _⟩
          · obtain rfl : v = false := bF HV.out (fun h => by rcases h with ⟨hh, ⟨hk, hD⟩ | ⟨hk, r1, ⟨r2, r3⟩, r4, r5⟩ | ⟨hk, hC⟩⟩; (· omega); (· omega); (· omega))
            clear HV HNB HSB HTB
            go_wp2
            go_ret
            exact ⟨by first | rfl | (simp; done) | simp_all, al (Below.refl _ _) _⟩
      · have kb2 : (k == 2) = false := by simpa using k2
        by_cases k3 : k = 3
        · subst k3
          cases sb
          · obtain rfl : v = false := bF HV.out (fun h => by rcases h with ⟨hh, ⟨hk, hD⟩ | ⟨hk, hR⟩ | ⟨hk, c1, c2, c3⟩⟩; (· omega); (· omega); (· have h9 := HSB.out.2 c1; cases h9))
            clear HV HNB HSB HTB
            go_wp2
            go_ret
            exact ⟨by first | rfl | (simp; done) | simp_all, al (Below.refl _ _) _⟩
          · by_cases h0 : cd = 0
            · subst h0
              by_cases h1 : gn = 0
              · subst h1
                obtain rfl : v = true := HV.out.2 ⟨HNB.out.1 rfl, .inr (.inr ⟨rfl, HSB.out.1 rfl, rfl, rfl⟩)⟩
                clear HV HNB HSB HTB
                go_wp2
                go_ret
                exact ⟨by first | rfl | (simp; done) | simp_all, al (Below.refl _ _) _⟩
              · have hb1 : ((gn : Int) == 0) = false := by simpa using h1
                obtain rfl : v = false := bF HV.out (fun h => by rcases h with ⟨hh, ⟨hk, hD⟩ | ⟨hk, hR⟩ | ⟨hk, c1, c2, c3⟩⟩; (· omega); (· omega); (· omega))
                clear HV HNB HSB HTB
                go_wp2
                go_ret
                exact ⟨by first | rfl | (simp; done) | simp_all, al (Below.refl _ _) _⟩
            · have hb0 : (cd == 0) = false := by simpa using h0
              obtain rfl : v = false := bF HV.out (fun h => by rcases h with ⟨hh, ⟨hk, hD⟩ | ⟨hk, hR⟩ | ⟨hk, c1, c2, c3⟩⟩; (· omega); (· omega); (· omega))
              clear HV HNB HSB HTB
              go_wp2
              go_ret
              exact ⟨by first | rfl | (simp; done) | simp_all, al (Below.refl _ _) _⟩
        · have kb3 : (k == 3) = false := by simpa using k3
          obtain rfl : v = false := bF HV.out (fun h => by rcases h with ⟨hh, ⟨hk, hD⟩ | ⟨hk, hR⟩ | ⟨hk, hC⟩⟩ <;> omega)
          clear HV HNB HSB HTB
          go_wp2
          go_ret
          exact ⟨by first | rfl | (simp; done) | simp_all, al (Below.refl _ _) _⟩
end
end Go.Proofs.YtiedgcanndgmoaaGreatDoor
