/-
  What prove and range show of few leaves is small.
  Conditions: at most 11 leaves, valid.
-/
import Derived.Test.YtofccgkgjcnfbaaDoorGenm
import Derived.Test.YtofccgkgjcnfbaaDoorKeys
import Derived.Test.YtofccgkgjcnfbaaDoorSamel
namespace Go.Proofs.YtofccgkgjcnfbaaDoor
open Go.RowKit Wr Sh
set_option linter.unusedVariables false
set_option maxRecDepth 100000

structure Few (p : Pf) : Prop where
  ok : okL p.leaves
  sides : p.sides.length ≤ 11
  ints : okInt p.first ∧ okInt p.size
theorem few_shown (L : List Lf) (hN : L.length ≤ 11) (hk : okL L) (f e : Nat) (hf : f ≤ 11) : Few (shown node lf top L f e) := by
  refine ⟨ok_cut hk _ _, ?_, ⟨?_, ?_⟩, ⟨?_, ?_⟩⟩
  · rw [shown_sides]
    split
    · simp
    · have := sides_le node (leafAt lf L) f e L.length 0 L.length (by omega) (by omega); omega
  · show -9223372036854775808 ≤ (f : Int); omega
  · show (f : Int) ≤ 9223372036854775807; omega
  · show -9223372036854775808 ≤ (L.length : Int); omega
  · show (L.length : Int) ≤ 9223372036854775807; omega
theorem few_noPf : Few noPf := ⟨⟨by decide, fun x h => by cases h⟩, by decide, ⟨by decide, by decide⟩, ⟨by decide, by decide⟩⟩
theorem few_prove (L : List Lf) (k : ByteArray) (hN : L.length ≤ 11) (hk : okL L) (hv : validE L = 0) : Few (proveR node lf top L k).1 := by
  have := cb_le L k
  unfold proveR
  rw [if_pos hv]
  dsimp only
  split
  · exact few_shown L hN hk _ _ (by omega)
  · exact few_shown L hN hk _ _ (by omega)
theorem few_range (L : List Lf) (k t : ByteArray) (hN : L.length ≤ 11) (hk : okL L) (hv : validE L = 0) : Few (rangeR node lf top L k t).1 := by
  have := cb_le L k
  unfold rangeR
  rw [if_pos hv]
  split
  · exact few_noPf
  · exact few_shown L hN hk _ _ (by omega)
theorem rootR_ok (L : List Lf) (hv : validE L = 0) : rootR L = rootD node lf top L := by unfold rootR; rw [if_pos hv]
/-- What the law finds: the key's check. -/
theorem law_check (L : List Lf) (k : ByteArray) (hv : validE L = 0) (R : List UInt8) (hR : R = rootR L) : checkR node lf top R k (proveR node lf top L k).1 = if hitB L k = true then ((L.getD (cb L k) (ByteArray.empty, ByteArray.empty)).2, true, 0) else (ByteArray.empty, false, 0) := by
  rw [hR, rootR_ok L hv]; exact check_prove node lf top L k hv
/-- What the law finds: the range's check. -/
theorem law_range (L : List Lf) (k t : ByteArray) (hv : validE L = 0) (hkt : sl t k = false) (R : List UInt8) (hR : R = rootR L) : checkRangeR node lf top R k t (rangeR node lf top L k t).1 = (insideR L k t, 0) ∧ (rangeR node lf top L k t).2 = 0 := by
  refine ⟨?_, ?_⟩
  · rw [hR, rootR_ok L hv, inside_cut L k t (valid_ok hv).2.2 hkt]; exact check_range node lf top L k t hv hkt
  · unfold rangeR; rw [if_pos hv, if_neg (by rw [hkt]; simp)]
theorem law_range_bad (L : List Lf) (k t : ByteArray) (hv : validE L = 0) (hkt : sl t k = true) (R : List UInt8) (p : Pf) : checkRangeR node lf top R k t p = ([], 5) ∧ (rangeR node lf top L k t).2 = 5 := by
  refine ⟨?_, ?_⟩
  · unfold checkRangeR; rw [if_pos hkt]
  · unfold rangeR; rw [if_pos hv, if_pos hkt]
end Go.Proofs.YtofccgkgjcnfbaaDoor
