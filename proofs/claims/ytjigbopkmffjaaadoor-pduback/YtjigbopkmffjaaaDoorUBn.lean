import Derived.Test.YtjigbopkmffjaaaDoorUSl
namespace Go.Proofs.YtjigbopkmffjaaaDoor
set_option linter.unusedVariables false
set_option linter.unusedSimpArgs false
open Go.RowKit
theorem valid_got {u : Un} (h : validV u) : u.got.length ≤ 33 := by
  obtain ⟨-, h⟩ := h
  rcases h with ⟨-, -, -, -, -, -, h⟩ | ⟨-, -, -, h, -⟩ | ⟨-, -, -, h⟩
  · omega
  · exact gotOk_cnt h
  · omega
theorem valid_data {u : Un} (h : validV u) : u.data.length ≤ 1024 := by
  obtain ⟨-, h⟩ := h
  rcases h with ⟨-, -, -, -, h, -⟩ | ⟨-, ⟨-, -, -, h⟩, -⟩ | ⟨-, ⟨-, -, -, h⟩, -⟩ <;> omega
theorem encT_le {u : Un} (h : validV u) : (encT u).length ≤ 2000 := by
  have hd := valid_data h
  obtain ⟨k, e, s, p, i, c, d, cd, g⟩ := u
  obtain ⟨⟨he, hs⟩, h⟩ := h
  unfold nameOk at he hs
  simp only at he hs h hd
  have hb : ∀ K : Nat, K ≤ 3 → (dgs [K, e.toNat, s.toNat]).length ≤ 30 := fun K hK => dgs_len [K, e.toNat, s.toNat] (fun n hn => by simp at hn; omega)
  rcases h with ⟨rfl, hp, hi, hc, -, -, hg⟩ | ⟨rfl, -, hcd, hg, hz⟩ | ⟨rfl, -, -, hg⟩
  · have h1 := hb 1 (by omega)
    have h2 := dgs_len [p.toNat, i.toNat, c.toNat] (fun n hn => by simp at hn; omega)
    have h3 := dg_len d.length (by omega)
    unfold encT
    simp only [if_true, List.length_append, List.length_cons, List.length_nil] at h2 ⊢
    omega
  · have h1 := hb 2 (by omega)
    have h2 := dgs_len [cd.toNat] (fun n hn => by simp at hn; omega)
    have hg9 := gotOk_cnt hg
    have h3 := dgs_len [g.length] (fun n hn => by simp at hn; omega)
    have h4 := gotB_len hg
    unfold encT repX
    simp only [show ¬ ((2 : Int) = 1) by decide, if_false, if_true]
    simp only [List.length_cons, List.length_nil] at h2 h3
    split <;> simp only [List.length_append] <;> omega
  · have h1 := hb 3 (by omega)
    unfold encT
    simp only [show ¬ ((3 : Int) = 1) by decide, show ¬ ((3 : Int) = 2) by decide, if_false]
    omega
theorem encT_len {u : Un} (h : validV u) : (encT u ++ sealL (encT u)).length ≤ 140737488355328 := by
  have h1 := encT_le h
  rw [List.length_append, show (sealL (encT u)).length = 4 from rfl]
  omega
end Go.Proofs.YtjigbopkmffjaaaDoor
