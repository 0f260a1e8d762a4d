import Derived.Test.YtpakkpahcpgnnaaGreatDoorUP
import Derived.Test.YtpakkpahcpgnnaaGreatDoorGRMiss
set_option linter.unusedVariables false
set_option linter.unusedSimpArgs false
namespace Go.Proofs.YtpakkpahcpgnnaaGreatDoor
open Go.RowKit
theorem bF {b : Bool} {p : Prop} (h : b = true ↔ p) (n : ¬ p) : b = false := by
 cases b
 · rfl
 · exact absurd (h.1 rfl) n
theorem bT {b : Bool} {p : Prop} (h : b = true ↔ p) (y : p) : b = true := h.2 y
theorem range_box (w : World) (cs : List Value) (t : TypeId) : (w.alloc (.cells cs.toArray t (0, 0))).rangeAt w.heap.size 0 cs := fun j v hv => by
 rw [Nat.zero_add, cR (heap_alloc_new w _)]
 simpa using hv
theorem range_below {w w' : World} {b o : Nat} {cs : List Value} (h : w.rangeAt b o cs) (hb : Below w.heap.size w w') : w'.rangeAt b o cs := rangeAt_below h hb
theorem info_un : (Tryz.prog.info? 49).map (·.size) = some 9 := by kernel_rfl
section
set_option maxRecDepth 20000
set_option maxHeartbeats 1600000
theorem goodName_b (n : Int) (b : Bool) (hb : b = true ↔ nameOk n) (w : World) : Calls Tryz.prog 87 #[.int .u64 n] w fun e w' => e = .returned (.bool b) ∧ w' = w := by
 unfold nameOk at hb
 by_cases h0 : 1 ≤ n
 · skip
   by_cases h1 : n ≤ 281474976710655
   · skip
     obtain rfl : b = true := bT hb ⟨h0, h1⟩; clear hb; go_enter Tryz.func87, Tryz.ntmps87
     go_wp2; go_ret; exact ⟨by first | rfl | (simp; done) | (simp; omega) | simp_all, rfl⟩
   · obtain rfl : b = false := bF hb (fun h => h1 h.2); clear hb; go_enter Tryz.func87, Tryz.ntmps87
     go_wp2; go_ret; exact ⟨by first | rfl | (simp; done) | (simp; omega) | simp_all, rfl⟩
 · obtain rfl : b = false := bF hb (fun h => h0 h.1); clear hb; go_enter Tryz.func87, Tryz.ntmps87
   go_wp2; go_ret; exact ⟨by first | rfl | (simp; done) | (simp; omega) | simp_all, rfl⟩
theorem goodIndex_b (i : Int) (b : Bool) (hb : b = true ↔ 0 ≤ i ∧ i < 64) (w : World) : Calls Tryz.prog 178 #[.int .i64 i] w fun e w' => e = .returned (.bool b) ∧ w' = w := by
 by_cases h0 : 0 ≤ i
 · skip
   by_cases h1 : i < 64
   · skip
     obtain rfl : b = true := bT hb ⟨h0, h1⟩; clear hb; go_enter Tryz.func178, Tryz.ntmps178
     go_wp2; go_ret; exact ⟨by first | rfl | (simp; done) | (simp; omega) | simp_all, rfl⟩
   · obtain rfl : b = false := bF hb (fun h => h1 h.2); clear hb; go_enter Tryz.func178, Tryz.ntmps178
     go_wp2; go_ret; exact ⟨by first | rfl | (simp; done) | (simp; omega) | simp_all, rfl⟩
 · obtain rfl : b = false := bF hb (fun h => h0 h.1); clear hb; go_enter Tryz.func178, Tryz.ntmps178
   go_wp2; go_ret; exact ⟨by first | rfl | (simp; done) | (simp; omega) | simp_all, rfl⟩
theorem goodCount_b (i c : Int) (b : Bool) (hb : b = true ↔ i < c ∧ c ≤ 64) (w : World) : Calls Tryz.prog 179 #[.int .i64 i, .int .i64 c] w fun e w' => e = .returned (.bool b) ∧ w' = w := by
 by_cases h0 : i < c
 · skip
   by_cases h1 : c ≤ 64
   · skip
     obtain rfl : b = true := bT hb ⟨h0, h1⟩; clear hb; go_enter Tryz.func179, Tryz.ntmps179
     go_wp2; go_ret; exact ⟨by first | rfl | (simp; done) | (simp; omega) | simp_all, rfl⟩
   · obtain rfl : b = false := bF hb (fun h => h1 h.2); clear hb; go_enter Tryz.func179, Tryz.ntmps179
     go_wp2; go_ret; exact ⟨by first | rfl | (simp; done) | (simp; omega) | simp_all, rfl⟩
 · obtain rfl : b = false := bF hb (fun h => h0 h.1); clear hb; go_enter Tryz.func179, Tryz.ntmps179
   go_wp2; go_ret; exact ⟨by first | rfl | (simp; done) | (simp; omega) | simp_all, rfl⟩
theorem goodCode_b (c : Int) (b : Bool) (hb : b = true ↔ 0 ≤ c ∧ c ≤ 7) (w : World) : Calls Tryz.prog 188 #[.int .i64 c] w fun e w' => e = .returned (.bool b) ∧ w' = w := by
 by_cases h0 : 0 ≤ c
 · skip
   by_cases h1 : c ≤ 7
   · skip
     obtain rfl : b = true := bT hb ⟨h0, h1⟩; clear hb; go_enter Tryz.func188, Tryz.ntmps188
     go_wp2; go_ret; exact ⟨by first | rfl | (simp; done) | (simp; omega) | simp_all, rfl⟩
   · obtain rfl : b = false := bF hb (fun h => h1 h.2); clear hb; go_enter Tryz.func188, Tryz.ntmps188
     go_wp2; go_ret; exact ⟨by first | rfl | (simp; done) | (simp; omega) | simp_all, rfl⟩
 · obtain rfl : b = false := bF hb (fun h => h0 h.1); clear hb; go_enter Tryz.func188, Tryz.ntmps188
   go_wp2; go_ret; exact ⟨by first | rfl | (simp; done) | (simp; omega) | simp_all, rfl⟩
theorem goodBytes_b (a : Option Addr) (n c : Nat) (b : Bool) (hb : b = true ↔ 1 ≤ n ∧ n ≤ 1024) (w : World) : Calls Tryz.prog 180 #[.slice a n c] w fun e w' => e = .returned (.bool b) ∧ w' = w := by
 by_cases h0 : 1 ≤ n
 · skip
   by_cases h1 : n ≤ 1024
   · skip
     obtain rfl : b = true := bT hb ⟨h0, h1⟩; clear hb; go_enter Tryz.func180, Tryz.ntmps180
     go_wp2; go_ret; exact ⟨by first | rfl | (simp; done) | (simp; omega) | simp_all, rfl⟩
   · obtain rfl : b = false := bF hb (fun h => h1 h.2); clear hb; go_enter Tryz.func180, Tryz.ntmps180
     go_wp2; go_ret; exact ⟨by first | rfl | (simp; done) | (simp; omega) | simp_all, rfl⟩
 · obtain rfl : b = false := bF hb (fun h => h0 h.1); clear hb; go_enter Tryz.func180, Tryz.ntmps180
   go_wp2; go_ret; exact ⟨by first | rfl | (simp; done) | (simp; omega) | simp_all, rfl⟩
theorem goodPath_b (p : Int) (b : Bool) (hb : b = true ↔ (p = 1 ∨ p = 2)) (w : World) : Calls Tryz.prog 177 #[.int .i64 p] w fun e w' => e = .returned (.bool b) ∧ w' = w := by
 by_cases h0 : p = 1
 · obtain rfl : b = true := bT hb (.inl h0); clear hb; subst h0; go_enter Tryz.func177, Tryz.ntmps177
   go_wp2; go_ret; exact ⟨by first | rfl | (simp; done) | (simp; omega) | simp_all, rfl⟩
 · by_cases h1 : p = 2
   · obtain rfl : b = true := bT hb (.inr h1); clear hb; subst h1; go_enter Tryz.func177, Tryz.ntmps177
     go_wp2; go_ret; exact ⟨by first | rfl | (simp; done) | (simp; omega) | simp_all, rfl⟩
   · obtain rfl : b = false := bF hb (fun h => by omega); clear hb; go_enter Tryz.func177, Tryz.ntmps177
     go_wp2; go_ret; exact ⟨by first | rfl | (simp; done) | (simp; omega) | simp_all, rfl⟩
theorem dataless_b (k e s p i c : Int) (da : Option Addr) (dn dc : Nat) (cd : Int) (ga : Option Addr) (gn gc : Nat) (b : Bool) (hb : b = true ↔ (p = 0 ∧ i = 0 ∧ c = 0 ∧ dn = 0)) (w : World) : Calls Tryz.prog 187 #[.agg #[.int .i64 k, .int .u64 e, .int .u64 s, .int .i64 p, .int .i64 i, .int .i64 c, .slice da dn dc, .int .i64 cd, .slice ga gn gc]] w fun e w' => e = .returned (.bool b) ∧ Below w.heap.size w w' := by
 by_cases h0 : p = 0
 · skip
   by_cases h1 : i = 0
   · skip
     by_cases h2 : c = 0
     · skip
       by_cases h3 : dn = 0
       · skip
         obtain rfl : b = true := bT hb ⟨h0, h1, h2, h3⟩; clear hb; go_enter Tryz.func187, Tryz.ntmps187
         go_wp2; go_ret; exact ⟨by first | rfl | (simp; done) | (simp; omega) | simp_all, al (bR _ _) _⟩
       · obtain rfl : b = false := bF hb (fun h => h3 h.2.2.2); clear hb; go_enter Tryz.func187, Tryz.ntmps187
         go_wp2; go_ret; exact ⟨by first | rfl | (simp; done) | (simp; omega) | simp_all, al (bR _ _) _⟩
     · obtain rfl : b = false := bF hb (fun h => h2 h.2.2.1); clear hb; go_enter Tryz.func187, Tryz.ntmps187
       go_wp2; go_ret; exact ⟨by first | rfl | (simp; done) | (simp; omega) | simp_all, al (bR _ _) _⟩
   · obtain rfl : b = false := bF hb (fun h => h1 h.2.1); clear hb; go_enter Tryz.func187, Tryz.ntmps187
     go_wp2; go_ret; exact ⟨by first | rfl | (simp; done) | (simp; omega) | simp_all, al (bR _ _) _⟩
 · obtain rfl : b = false := bF hb (fun h => h0 h.1); clear hb; go_enter Tryz.func187, Tryz.ntmps187
   go_wp2; go_ret; exact ⟨by first | rfl | (simp; done) | (simp; omega) | simp_all, al (bR _ _) _⟩
theorem reportless_b (k e s p i c : Int) (da : Option Addr) (dn dc : Nat) (cd : Int) (ga : Option Addr) (gn gc : Nat) (b : Bool) (hb : b = true ↔ (cd = 0 ∧ gn = 0)) (w : World) : Calls Tryz.prog 181 #[.agg #[.int .i64 k, .int .u64 e, .int .u64 s, .int .i64 p, .int .i64 i, .int .i64 c, .slice da dn dc, .int .i64 cd, .slice ga gn gc]] w fun e w' => e = .returned (.bool b) ∧ Below w.heap.size w w' := by
 by_cases h0 : cd = 0
 · skip
   by_cases h1 : gn = 0
   · skip
     obtain rfl : b = true := bT hb ⟨h0, h1⟩; clear hb; go_enter Tryz.func181, Tryz.ntmps181
     go_wp2; go_ret; exact ⟨by first | rfl | (simp; done) | (simp; omega) | simp_all, al (bR _ _) _⟩
   · obtain rfl : b = false := bF hb (fun h => h1 h.2); clear hb; go_enter Tryz.func181, Tryz.ntmps181
     go_wp2; go_ret; exact ⟨by first | rfl | (simp; done) | (simp; omega) | simp_all, al (bR _ _) _⟩
 · obtain rfl : b = false := bF hb (fun h => h0 h.1); clear hb; go_enter Tryz.func181, Tryz.ntmps181
   go_wp2; go_ret; exact ⟨by first | rfl | (simp; done) | (simp; omega) | simp_all, al (bR _ _) _⟩
end
end Go.Proofs.YtpakkpahcpgnnaaGreatDoor
