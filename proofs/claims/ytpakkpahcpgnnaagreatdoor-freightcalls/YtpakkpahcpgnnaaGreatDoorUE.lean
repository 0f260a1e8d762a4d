import Derived.Test.YtpakkpahcpgnnaaGreatDoorUVd
import Derived.Test.YtpakkpahcpgnnaaGreatDoorAppB
import Derived.Test.YtpakkpahcpgnnaaGreatDoorLfsr
set_option linter.unusedVariables false
set_option linter.unusedSimpArgs false
namespace Go.Proofs.YtpakkpahcpgnnaaGreatDoor
open Go.RowKit
theorem valid_t (k e s p i c : Int) (da : Option Addr) (dn dc : Nat) (cd : Int) (ga : Option Addr) (gn gc : Nat) (l : List Rg) (v : Bool) (hv : v = true ↔ validR k e s p i c dn cd gn l) (w : World) (hn : gn = l.length) (hx : RdR w ga l) (hl : gn ≤ 8796093022208) (hc : gn ≤ gc) :
 Calls Tryz.prog 49 #[.agg #[.int .i64 k, .int .u64 e, .int .u64 s, .int .i64 p, .int .i64 i, .int .i64 c, .slice da dn dc, .int .i64 cd, .slice ga gn gc]] w fun e w' => e = .returned (.int .i64 (if v then 0 else 30)) ∧ Below w.heap.size w w' := by
 have bad : ¬ validR k e s p i c dn cd gn l → v = false := fun h => bF hv h
 by_cases he : nameOk e
 · by_cases hs : nameOk s
   · by_cases k1 : k = 1
     · subst k1
       by_cases hg : ((p = 1 ∨ p = 2) ∧ (0 ≤ i ∧ i < 64) ∧ (i < c ∧ c ≤ 64) ∧ (1 ≤ dn ∧ dn ≤ 1024) ∧ (cd = 0 ∧ gn = 0))
       · rw [hv.2 ⟨⟨he, hs⟩, .inl ⟨rfl, hg⟩⟩]; exact valid_1g e s p i c da dn dc cd ga gn gc l w he hs hg
       · rw [bad (by rintro ⟨-, h | h | h⟩; (· exact hg h.2); (· have := h.1; omega); (· have := h.1; omega))]; exact valid_1b e s p i c da dn dc cd ga gn gc l w he hs hg
     · by_cases k2 : k = 2
       · subst k2
         by_cases hg : ((p = 0 ∧ i = 0 ∧ c = 0 ∧ dn = 0) ∧ (0 ≤ cd ∧ cd ≤ 7) ∧ gotOk l ∧ (cd = 0 ∨ gn = 0))
         · rw [hv.2 ⟨⟨he, hs⟩, .inr (.inl ⟨rfl, hg⟩)⟩]; exact valid_2g e s p i c da dn dc cd ga gn gc l w hn hx hl hc he hs hg
         · rw [bad (by rintro ⟨-, h | h | h⟩; (· have := h.1; omega); (· exact hg h.2); (· have := h.1; omega))]; exact valid_2b e s p i c da dn dc cd ga gn gc l w hn hx hl hc he hs hg
       · by_cases k3 : k = 3
         · subst k3
           by_cases hg : ((p = 0 ∧ i = 0 ∧ c = 0 ∧ dn = 0) ∧ (cd = 0 ∧ gn = 0))
           · rw [hv.2 ⟨⟨he, hs⟩, .inr (.inr ⟨rfl, hg⟩)⟩]; exact valid_3g e s p i c da dn dc cd ga gn gc l w he hs hg
           · rw [bad (by rintro ⟨-, h | h | h⟩; (· have := h.1; omega); (· have := h.1; omega); (· exact hg h.2))]; exact valid_3b e s p i c da dn dc cd ga gn gc l w he hs hg
         · rw [bad (by rintro ⟨-, h | h | h⟩ <;> (have := h.1; omega))]; exact valid_k k e s p i c da dn dc cd ga gn gc l w ⟨k1, k2, k3⟩
   · rw [bad (fun h => hs h.1.2)]
     by_cases k1 : k = 1
     · subst k1; exact valid_1s e s p i c da dn dc cd ga gn gc l w he hs
     · by_cases k2 : k = 2
       · subst k2; exact valid_2s e s p i c da dn dc cd ga gn gc l w he hs
       · by_cases k3 : k = 3
         · subst k3; exact valid_3s e s p i c da dn dc cd ga gn gc l w he hs
         · exact valid_k k e s p i c da dn dc cd ga gn gc l w ⟨k1, k2, k3⟩
 · rw [bad (fun h => he h.1.1)]
   by_cases k1 : k = 1
   · subst k1; exact valid_1e e s p i c da dn dc cd ga gn gc l w he
   · by_cases k2 : k = 2
     · subst k2; exact valid_2e e s p i c da dn dc cd ga gn gc l w he
     · by_cases k3 : k = 3
       · subst k3; exact valid_3e e s p i c da dn dc cd ga gn gc l w he
       · exact valid_k k e s p i c da dn dc cd ga gn gc l w ⟨k1, k2, k3⟩
section
set_option maxRecDepth 20000
set_option maxHeartbeats 6400000
end
end Go.Proofs.YtpakkpahcpgnnaaGreatDoor
