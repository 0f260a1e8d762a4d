import Derived.Test.YtkdgjfjcpgiokaaGreatLxC
namespace Go.Proofs.YtkdgjfjcpgiokaaGreat
set_option linter.unusedVariables false
set_option linter.unusedSimpArgs false
open Go.RowKit Go.Maps
section
set_option maxRecDepth 20000
set_option maxHeartbeats 6400000
theorem refData_t (u : Un) (da : Option Addr) (dn dc : Nat) (ga : Option Addr) (gn gc : Nat) (hn : dn = u.data.length) (hg : gn = u.got.length) (w : World) : Calls Tryz.prog 25 #[unV u da dn dc ga gn gc] w fun r w' => r = .returned (.bool (dataB u)) ∧ Below w.heap.size w w' := by
  obtain ⟨k, e, se, pa, i, c, xs, cd, l⟩ := u
  simp only at hn hg
  by_cases h1 : k ≠ 1
  · have q1 : (k == 1) = false := by simp [h1]
    have HD : Hid (dataB ⟨k, e, se, pa, i, c, xs, cd, l⟩ = false) := by unfold Hid dataB; exact decide_eq_false (fun h9 => by simp only at h9; omega)
    clear hn hg
    go_enter Tryz.func25, Tryz.ntmps25
    go_wp2
    go_ret
    exact ⟨by rw [HD.out]; rfl, al (Below.refl _ _) _⟩
  · have hx1 := Classical.not_not.1 h1; subst hx1; clear h1
    by_cases h2 : e < 1
    · have HD : Hid (dataB ⟨1, e, se, pa, i, c, xs, cd, l⟩ = false) := by unfold Hid dataB; exact decide_eq_false (fun h9 => by simp only at h9; omega)
      clear hn hg
      go_enter Tryz.func25, Tryz.ntmps25
      go_wp2
      go_ret
      exact ⟨by rw [HD.out]; rfl, al (Below.refl _ _) _⟩
    · have hx2 := h2
      by_cases h3 : 281474976710655 < e
      · have HD : Hid (dataB ⟨1, e, se, pa, i, c, xs, cd, l⟩ = false) := by unfold Hid dataB; exact decide_eq_false (fun h9 => by simp only at h9; omega)
        clear hn hg
        go_enter Tryz.func25, Tryz.ntmps25
        go_wp2
        go_ret
        exact ⟨by rw [HD.out]; rfl, al (Below.refl _ _) _⟩
      · have hx3 := h3
        by_cases h4 : se < 1
        · have HD : Hid (dataB ⟨1, e, se, pa, i, c, xs, cd, l⟩ = false) := by unfold Hid dataB; exact decide_eq_false (fun h9 => by simp only at h9; omega)
          clear hn hg
          go_enter Tryz.func25, Tryz.ntmps25
          go_wp2
          go_ret
          exact ⟨by rw [HD.out]; rfl, al (Below.refl _ _) _⟩
        · have hx4 := h4
          by_cases h5 : 281474976710655 < se
          · have HD : Hid (dataB ⟨1, e, se, pa, i, c, xs, cd, l⟩ = false) := by unfold Hid dataB; exact decide_eq_false (fun h9 => by simp only at h9; omega)
            clear hn hg
            go_enter Tryz.func25, Tryz.ntmps25
            go_wp2
            go_ret
            exact ⟨by rw [HD.out]; rfl, al (Below.refl _ _) _⟩
          · have hx5 := h5
            by_cases h6 : pa < 1
            · have HD : Hid (dataB ⟨1, e, se, pa, i, c, xs, cd, l⟩ = false) := by unfold Hid dataB; exact decide_eq_false (fun h9 => by simp only at h9; omega)
              clear hn hg
              go_enter Tryz.func25, Tryz.ntmps25
              go_wp2
              go_ret
              exact ⟨by rw [HD.out]; rfl, al (Below.refl _ _) _⟩
            · have hx6 := h6
              by_cases h7 : 2 < pa
              · have HD : Hid (dataB ⟨1, e, se, pa, i, c, xs, cd, l⟩ = false) := by unfold Hid dataB; exact decide_eq_false (fun h9 => by simp only at h9; omega)
                clear hn hg
                go_enter Tryz.func25, Tryz.ntmps25
                go_wp2
                go_ret
                exact ⟨by rw [HD.out]; rfl, al (Below.refl _ _) _⟩
              · have hx7 := h7
                by_cases h8 : c < 1
                · have HD : Hid (dataB ⟨1, e, se, pa, i, c, xs, cd, l⟩ = false) := by unfold Hid dataB; exact decide_eq_false (fun h9 => by simp only at h9; omega)
                  clear hn hg
                  go_enter Tryz.func25, Tryz.ntmps25
                  go_wp2
                  go_ret
                  exact ⟨by rw [HD.out]; rfl, al (Below.refl _ _) _⟩
                · have hx8 := h8
                  by_cases h9 : 64 < c
                  · have HD : Hid (dataB ⟨1, e, se, pa, i, c, xs, cd, l⟩ = false) := by unfold Hid dataB; exact decide_eq_false (fun h9 => by simp only at h9; omega)
                    clear hn hg
                    go_enter Tryz.func25, Tryz.ntmps25
                    go_wp2
                    go_ret
                    exact ⟨by rw [HD.out]; rfl, al (Below.refl _ _) _⟩
                  · have hx9 := h9
                    by_cases h10 : i < 0
                    · have HD : Hid (dataB ⟨1, e, se, pa, i, c, xs, cd, l⟩ = false) := by unfold Hid dataB; exact decide_eq_false (fun h9 => by simp only at h9; omega)
                      clear hn hg
                      go_enter Tryz.func25, Tryz.ntmps25
                      go_wp2
                      go_ret
                      exact ⟨by rw [HD.out]; rfl, al (Below.refl _ _) _⟩
                    · have hx10 := h10
                      by_cases h11 : c ≤ i
                      · have HD : Hid (dataB ⟨1, e, se, pa, i, c, xs, cd, l⟩ = false) := by unfold Hid dataB; exact decide_eq_false (fun h9 => by simp only at h9; omega)
                        clear hn hg
                        go_enter Tryz.func25, Tryz.ntmps25
                        go_wp2
                        go_ret
                        exact ⟨by rw [HD.out]; rfl, al (Below.refl _ _) _⟩
                      · have hx11 := h11
                        by_cases h12 : (dn : Int) < 1
                        · have HD : Hid (dataB ⟨1, e, se, pa, i, c, xs, cd, l⟩ = false) := by unfold Hid dataB; exact decide_eq_false (fun h9 => by simp only at h9; omega)
                          clear hn hg
                          go_enter Tryz.func25, Tryz.ntmps25
                          go_wp2
                          go_ret
                          exact ⟨by rw [HD.out]; rfl, al (Below.refl _ _) _⟩
                        · have hx12 := h12
                          by_cases h13 : 1024 < (dn : Int)
                          · have HD : Hid (dataB ⟨1, e, se, pa, i, c, xs, cd, l⟩ = false) := by unfold Hid dataB; exact decide_eq_false (fun h9 => by simp only at h9; omega)
                            clear hn hg
                            go_enter Tryz.func25, Tryz.ntmps25
                            go_wp2
                            go_ret
                            exact ⟨by rw [HD.out]; rfl, al (Below.refl _ _) _⟩
                          · have hx13 := h13
                            by_cases h14 : cd ≠ 0
                            · have HD : Hid (dataB ⟨1, e, se, pa, i, c, xs, cd, l⟩ = false) := by unfold Hid dataB; exact decide_eq_false (fun h9 => by simp only at h9; omega)
                              clear hn hg
                              have q9 : (cd == 0) = false := by simp [h14]
                              go_enter Tryz.func25, Tryz.ntmps25
                              go_wp2
                              go_ret
                              exact ⟨by rw [HD.out]; rfl, al (Below.refl _ _) _⟩
                            · have hx14 := Classical.not_not.1 h14; subst hx14; clear h14
                              by_cases h15 : (gn : Int) ≠ 0
                              · have HD : Hid (dataB ⟨1, e, se, pa, i, c, xs, 0, l⟩ = false) := by unfold Hid dataB; exact decide_eq_false (fun h9 => by simp only at h9; omega)
                                clear hn hg
                                have q9 : ((gn : Int) == 0) = false := by simp; omega
                                go_enter Tryz.func25, Tryz.ntmps25
                                go_wp2
                                go_ret
                                exact ⟨by rw [HD.out]; rfl, al (Below.refl _ _) _⟩
                              · obtain rfl : gn = 0 := by omega
                                have hL2 : 1 ≤ e := by omega
                                have hL3 : e ≤ 281474976710655 := by omega
                                have hL4 : 1 ≤ se := by omega
                                have hL5 : se ≤ 281474976710655 := by omega
                                have hL6 : pa = 1 ∨ pa = 2 := by omega
                                have hL7 : 0 ≤ i := by omega
                                have hL8 : i < 64 := by omega
                                have hL9 : i < c := by omega
                                have hL10 : c ≤ 64 := by omega
                                have hL11 : 1 ≤ xs.length := by omega
                                have hL12 : xs.length ≤ 1024 := by omega
                                have hL13 : l.length = 0 := by omega
                                have HD : Hid (dataB ⟨1, e, se, pa, i, c, xs, 0, l⟩ = true) := by unfold Hid dataB; exact (dataB_iff _).2 (by unfold dataP nameOk; exact ⟨rfl, ⟨hL2, hL3⟩, ⟨hL4, hL5⟩, hL6, ⟨hL7, hL8⟩, ⟨hL9, hL10⟩, ⟨hL11, hL12⟩, rfl, hL13⟩)
                                clear hn hg hL2 hL3 hL4 hL5 hL6 hL7 hL8 hL9 hL10 hL11 hL12 hL13
                                go_enter Tryz.func25, Tryz.ntmps25
                                go_wp2
                                go_ret
                                exact ⟨by rw [HD.out]; rfl, al (Below.refl _ _) _⟩
end
end Go.Proofs.YtkdgjfjcpgiokaaGreat
