import Derived.Test.YtjigbopkmffjaaaDoorUG3
import Derived.Test.YtjigbopkmffjaaaDoorHelp
import Derived.Test.YtjigbopkmffjaaaDoorUT
namespace Go.Proofs.YtjigbopkmffjaaaDoor
set_option linter.unusedVariables false
set_option linter.unusedSimpArgs false
open Go.RowKit
theorem RdR.left {w : World} {ao : Option Addr} {xs ys : List Rg} (h : RdR w ao (xs ++ ys)) : RdR w ao xs := fun j hj => by
  obtain ⟨b, o, h1, h2, h3⟩ := h j (by rw [List.length_append]; omega)
  rw [List.getElem_append_left hj] at h2 h3
  exact ⟨b, o, h1, h2, h3⟩
section
set_option maxRecDepth 20000
set_option maxHeartbeats 6400000
theorem sameUnit_t (k e s p i c : Int) (da : Option Addr) (dn dc : Nat) (cd : Int) (ga : Option Addr) (gn gc : Nat) (da2 : Option Addr) (dc2 : Nat) (ga2 : Option Addr) (gc2 : Nat) (ds : List UInt8) (l : List Rg) (w : World) (hdn : dn = ds.length) (hgn : gn = l.length) (hd : Rd w da ds) (hd2 : Rd w da2 ds) (hg : RdR w ga l) (hg2 : RdR w ga2 l) (hl : gn ≤ 8796093022208) (hdl : dn ≤ 140737488351232) :
    Calls Tryd.prog 12 #[.agg #[.int .i64 k, .int .u64 e, .int .u64 s, .int .i64 p, .int .i64 i, .int .i64 c, .slice da dn dc, .int .i64 cd, .slice ga gn gc], .agg #[.int .i64 k, .int .u64 e, .int .u64 s, .int .i64 p, .int .i64 i, .int .i64 c, .slice da2 dn dc2, .int .i64 cd, .slice ga2 gn gc2]] w fun e w' => e = .returned (.bool true) ∧ Below w.heap.size w w' := by
  have hcv := fun (u : World) (hu : Below w.heap.size w u) => conv_rd' (n := dn) (cap := dc) (hd.below hu) hdn
  have hcv2 := fun (u : World) (hu : Below w.heap.size w u) => conv_rd' (n := dn) (cap := dc2) (hd2.below hu) hdn
  have hv1 := hcv _ (al (al (Below.refl _ w) (.cells #[.int .i64 k, .int .u64 e, .int .u64 s, .int .i64 p, .int .i64 i, .int .i64 c, .slice da dn dc, .int .i64 cd, .slice ga gn gc] 26 (0, 0))) (.cells #[.int .i64 k, .int .u64 e, .int .u64 s, .int .i64 p, .int .i64 i, .int .i64 c, .slice da2 dn dc2, .int .i64 cd, .slice ga2 gn gc2] 26 (0, 0)))
  have hv2 := hcv2 _ (al (al (Below.refl _ w) (.cells #[.int .i64 k, .int .u64 e, .int .u64 s, .int .i64 p, .int .i64 i, .int .i64 c, .slice da dn dc, .int .i64 cd, .slice ga gn gc] 26 (0, 0))) (.cells #[.int .i64 k, .int .u64 e, .int .u64 s, .int .i64 p, .int .i64 i, .int .i64 c, .slice da2 dn dc2, .int .i64 cd, .slice ga2 gn gc2] 26 (0, 0)))
  have HS : Hid _ := fun (u : World) (hu : Below w.heap.size w u) => same_t ga ga2 gn gn gc gc2 l l u hgn hgn (hg.below hu) (hg2.below hu) hl rfl
  clear hcv hcv2 hd hd2 hg hg2 hdn hgn
  go_enter Tryd.func12, Tryd.ntmps12
  go_wp2_with (go_at_call 26; refine Calls.mono (HS.out _ (al (al (Below.refl _ _) _) _)) ?_; rintro e1 w1 ⟨rfl, hb1⟩; have HB1 : Hid (Below w.heap.size w w1) := below_next (al (al (Below.refl _ _) _) _) hb1; clear hb1)
  go_ret
  exact ⟨rfl, HB1.out⟩

end
end Go.Proofs.YtjigbopkmffjaaaDoor
