import Derived.Test.YtpakkpahcpgnnaaGreatDoorXK
import Derived.ProofKit
import Derived.OpenShut
import Derived.SizedLaws
import Derived.Below
set_option linter.unusedVariables false
set_option linter.unusedSimpArgs false
namespace Go.Proofs.YtpakkpahcpgnnaaGreatDoor
open Go.ChangeShapes Go.WideShapes Go.ChangeAt Go.RowKit
theorem ownKn : ownKnob Tryz.prog.godebug = none := by kernel_rfl
theorem laidOut : laidOutB Tryz.prog = true := by kernel_rfl
theorem bytes5 : Tryz.prog.bytesOf 5 = 1 := by kernel_rfl
theorem byte_of {n : Int} (h : (Lit.int .u8 n).wf = true) : 0 ≤ n ∧ n ≤ 255 := by
 simpa [Lit.wf, IntKind.min, IntKind.max, IntKind.signed, IntKind.bits] using h
theorem opened_u8 {H : Type} {enc : TypeId × Value → H} {W : World} {a : Option Addr} {len cap : Nat} {d : DataW H} {p : List MemPlace}
 (h : DataW.Trod enc Tryz.prog W 0 (fun _ => true) true 22 (.slice a len cap) d p) :
 ∃ xs : List UInt8, xs.length = len ∧ Rd W a xs ∧ len ≤ cap ∧ (a = none → cap = 0) ∧ (cap = 0 ∨ ∃ el sp, d = .slice el sp ∧ el.length + sp.length = cap) := by
 obtain ⟨fuel, hf⟩ := h; rcases open_ints Tryz.underlying22 Tryz.underlying5 (by kernel_rfl) hf with ⟨hcs, _⟩ | ⟨x, l, c, zs, hcs, _, hl, hm, hz, hd, hcell, hwz⟩
 · simp [Value.cells] at hcs; obtain ⟨rfl, rfl, rfl⟩ := hcs; exact ⟨[], rfl, Rd.nil _ _, Nat.le_refl _, fun _ => rfl, .inl rfl⟩
 · simp [Value.cells] at hcs; obtain ⟨rfl, rfl, rfl⟩ := hcs; simp only [if_true] at hz; simp only [Prod.mk.injEq] at hd; refine ⟨(zs.take len).map fun z => UInt8.ofNat z.toNat, by simp; omega, ?_, hl, (fun h => by cases h), .inr ⟨_, _, hd.1, by simp [lits]; omega⟩⟩; intro hp; have hp' : 0 < len := by simpa using (show 0 < ((zs.take len).map fun z => UInt8.ofNat z.toNat).length from hp) |> fun h => by simp at h; omega
   obtain ⟨b, o, s⟩ := x; obtain rfl : s = none := by simpa [Addr.add] using World.cell?_spot (hcell 0 (by omega))
   refine ⟨b, o, rfl, fun i hi => ?_⟩; have hi' : i < len := by simp at hi; omega
   have h1 := hcell i (by omega); rw [Go.WideShapes.add_plain] at h1; rw [h1]; have hzi : zs.getD i 0 = zs[i]'(by omega) := by simp [List.getD, List.getElem?_eq_getElem (show i < zs.length by omega)]
   have hb := byte_of (hwz (zs[i]'(by omega)) (List.getElem_mem _)); rw [hzi]; simp only [List.getElem_map, List.getElem_take, UInt8.toNat_ofNat']
   congr 2
   omega
end Go.Proofs.YtpakkpahcpgnnaaGreatDoor
