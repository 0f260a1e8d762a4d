import Derived.Test.YtnpcgegcoakbmaaDoorBase
namespace Go.Proofs.YtnpcgegcoakbmaaDoor
set_option linter.unusedVariables false
set_option linter.unusedSimpArgs false
open Go.RowKit
def tab : List Int := [0, 498536548, 997073096, 651767980, 1994146192, 1802195444, 1303535960, 1342533948, 3988292384, 4027552580, 3604390888, 3412177804, 2607071920, 2262029012, 2685067896, 3183342108]
def tabAt (m : Int) : Int := tab.getD (m % 16).toNat 0
def TabOk (w : World) : Prop := ∀ m : Int, w.cell? ⟨1, (m % 16).toNat, none⟩ = some (.int .u32 (tabAt m))
theorem xor_bd (a b : Int) : 0 ≤ bits .xor .u32 a b ∧ bits .xor .u32 a b ≤ 4294967295 := by
  unfold bits
  rw [IntKind.wrap_u32']
  omega
def crcHalf (c : Int) : Int := bits .xor .u32 (c / 16) (tabAt c)
def crcStep (z x : Int) : Int := crcHalf (crcHalf (bits .xor .u32 z (x % 4294967296)))
def crcI (xs : List UInt8) : Int := xs.foldl (fun z x => crcStep z x.toNat) 4294967295
theorem crcHalf_bd (c : Int) : 0 ≤ crcHalf c ∧ crcHalf c ≤ 4294967295 := xor_bd _ _
theorem crcI_bd (xs : List UInt8) : 0 ≤ crcI xs ∧ crcI xs ≤ 4294967295 := by
  unfold crcI
  suffices h : ∀ z : Int, 0 ≤ z ∧ z ≤ 4294967295 → 0 ≤ xs.foldl (fun z x => crcStep z x.toNat) z ∧ xs.foldl (fun z x => crcStep z x.toNat) z ≤ 4294967295 from h _ (by omega)
  induction xs with
  | nil => intro z h; exact h
  | cons x xs ih => intro z _; exact ih _ (crcHalf_bd _)
theorem take_snoc (xs : List UInt8) (k : Nat) (h : k < xs.length) : xs.take (k + 1) = xs.take k ++ [xs[k]] := by
  rw [List.take_succ_eq_append_getElem h]
theorem crcI_snoc (xs : List UInt8) (x : UInt8) : crcI (xs ++ [x]) = crcStep (crcI xs) x.toNat := by
  simp [crcI, List.foldl_append]
set_option maxHeartbeats 400000 in
theorem crc_any (ao : Option Addr) (cap : Nat) (xs : List UInt8) (w : World) (hx : Rd w ao xs) (hl : xs.length ≤ 140737488355328) (ht : TabOk w) :
    Calls Tryd.prog 43 #[.slice ao xs.length cap] w fun e w' => e = .returned (.int .u32 (bits .xor .u32 4294967295 (crcI xs))) ∧ w' = w := by
  go_enter Tryd.func43, Tryd.ntmps43
  go_wp2
  go_loop [3, 8] (fun c i => ∃ k : Nat, k ≤ xs.length ∧ i = .int .i64 k ∧ c = .int .u32 (crcI (xs.take k))) (fun _ i => xs.length - (intOf i).toNat)
  case atStart => exact ⟨0, Nat.zero_le _, rfl, rfl⟩
  case round =>
    obtain ⟨k, hk, rfl, rfl⟩ := hrel
    have hz := crcI_bd (xs.take k)
    by_cases hlt : k < xs.length
    · obtain ⟨b, o, rfl, hc⟩ := hx (by omega)
      have hc1 := hc k hlt
      have HS : Hid (crcI (xs.take (k + 1)) = crcStep (crcI (xs.take k)) xs[k].toNat) := by
        rw [take_snoc xs k hlt]; exact crcI_snoc _ _
      clear hc hx
      generalize hzz : crcI (xs.take k) = z at *
      clear hzz
      unfold TabOk at ht
      obtain ⟨h1, h2⟩ := xor_bd z (↑xs[k].toNat % 4294967296)
      obtain ⟨h3, h4⟩ := xor_bd (bits BinOp.xor IntKind.u32 z (↑xs[k].toNat % 4294967296) / 16) (tabAt (bits BinOp.xor IntKind.u32 z (↑xs[k].toNat % 4294967296)))
      go_wp2
      go_round
      case rel => exact ⟨k + 1, by omega, by go_num, by rw [HS.out]; rfl⟩
      case measure => simp [intOf]; omega
    · go_wp2
      go_ret
      exact ⟨by rw [List.take_of_length_le (by omega)]; rfl, rfl⟩
theorem TabOk.below {w w' : World} (h : TabOk w) (hb : Below w.heap.size w w') : TabOk w' := by
  intro m
  have h1 := h m
  exact (hb.cell (World.block_lt_of_cell? w _ h1)).trans h1
theorem TabOk.alloc {w : World} (h : TabOk w) (o : Obj) : TabOk (w.alloc o) := h.below ((Below.refl _ _).alloc (Nat.le_refl _) o)
end Go.Proofs.YtnpcgegcoakbmaaDoor
