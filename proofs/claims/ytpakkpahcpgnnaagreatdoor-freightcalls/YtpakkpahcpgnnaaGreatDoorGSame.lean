import Derived.Test.YtpakkpahcpgnnaaGreatDoorGRMiss
set_option linter.unusedVariables false
set_option linter.unusedSimpArgs false
namespace Go.Proofs.YtpakkpahcpgnnaaGreatDoor
open Go.RowKit
theorem load_rg (u : World) (b o : Nat) (x y : Int) (h : u.rangeAt b o [.int .i64 x, .int .i64 y]) : (Instr.loadAt 108 (.pointer (some ⟨b, o, none⟩))).run Tryz.prog u = .ok (.agg #[.int .i64 x, .int .i64 y]) u :=
 run_loadAt_mid u b o _ [.int .i64 x, .int .i64 y] _ h Tryz.underlying108 rfl (by rw [(zero_of_info info_rg).2]; rfl)
section
set_option maxRecDepth 20000
set_option maxHeartbeats 800000
end
end Go.Proofs.YtpakkpahcpgnnaaGreatDoor
