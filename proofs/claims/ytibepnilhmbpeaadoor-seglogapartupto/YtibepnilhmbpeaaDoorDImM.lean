import Derived.Test.YtibepnilhmbpeaaDoorDBeg
namespace Go.Proofs.YtibepnilhmbpeaaDoor
set_option linter.unusedVariables false
set_option linter.unusedSimpArgs false
open Go.RowKit
/-- may a disk have this sector? -/
def Sec.fit (s : Sec) : Prop := s.text.length = 128 ∧ (s.torn = true → s.text.all (· == 0) = true)
theorem Sec.zero_fit : Sec.zero.fit := ⟨by simp [Sec.zero], by simp [Sec.zero]⟩
theorem Sec.bad_fit : Sec.bad.fit := ⟨by simp [Sec.bad], by simp [Sec.bad]⟩
theorem fit_ok {T : List Sec} (h : ∀ s ∈ T, s.fit) : SOk T := fun s hs => (h s hs).1
end Go.Proofs.YtibepnilhmbpeaaDoor
