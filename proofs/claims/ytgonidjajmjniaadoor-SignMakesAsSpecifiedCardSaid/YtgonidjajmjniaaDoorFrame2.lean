/-
  The frame of a row that lists both tables of the round constants.
  No condition.
-/
import Derived.Test.YtgonidjajmjniaaDoorFrame
namespace Go.Proofs.YtgonidjajmjniaaDoor
open Go.ChangeShapes Go.WideShapes Go.ChangeAt Go.RowKit Wr Sh
set_option linter.unusedVariables false
set_option maxRecDepth 100000
theorem met2 (os : Os) (args : Array Value) : laidMet Tryd.prog [("culprit/culpritref02.constants", Rows.laid_culprit_culpritref02_constants), ("culprit/hash.roundConstants", Rows.laid_culprit_hash_roundConstants)] ((laidWorld os).forCall (fun _ _ => 0) ⟨#[], args, []⟩).memory :=
  ⟨_, ⟨0, 100, KC, 8, [], _, glob0, glob0Type, by kernel_rfl, by kernel_rfl, ⟨1, 100, KC, 8, [], [], glob1, glob1Type, by kernel_rfl, by kernel_rfl, rfl, rfl⟩, rfl⟩, by decide +kernel, fun b off h => by
    have hb : b = 0 ∨ b = 1 := by
      simp only [List.append_nil, List.mem_append] at h
      rcases h with h | h
      · exact .inl (in_row h)
      · exact .inr (in_row h)
    rcases hb with rfl | rfl
    · exact ⟨⟨_, _, laid_row0 os args⟩, fun u v hc => absurd hc (no_iface (laid_row0 os args))⟩
    · exact ⟨⟨_, _, laid_row1 os args⟩, fun u v hc => absurd hc (no_iface (laid_row1 os args))⟩⟩
theorem tabs_of {W : World} {ps : List MemPlace} (h : DataW.LaidVars Tryd.prog W [("culprit/culpritref02.constants", Rows.laid_culprit_culpritref02_constants), ("culprit/hash.roundConstants", Rows.laid_culprit_hash_roundConstants)] ps) : Tab 0 W ∧ Tab 1 W := by
  refine ⟨tab_of glob0 glob0Type laid0 h, ?_⟩
  obtain ⟨g, t, cs, fuel, p, q, _, _, _, _, h2, _⟩ := h
  exact tab_of glob1 glob1Type laid1 h2
end Go.Proofs.YtgonidjajmjniaaDoor
