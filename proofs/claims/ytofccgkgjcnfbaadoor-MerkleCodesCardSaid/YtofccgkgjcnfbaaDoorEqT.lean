/-
  Digests are compared as lists of bytes; short names for the laws of a written slot.
  No condition.
-/
import Derived.Test.YtofccgkgjcnfbaaDoorRTrees
import Derived.Test.YtofccgkgjcnfbaaDoorGen
import Derived.Test.YtofccgkgjcnfbaaDoorLives
set_option linter.unusedSimpArgs false
namespace Go.Proofs.YtofccgkgjcnfbaaDoor
open Go.RowKit Wr Sh
set_option linter.unusedVariables false
set_option maxRecDepth 100000
theorem eqi29 (d e : List UInt8) (hd : d.length = 16) (he : e.length = 16) (w : World) : (Op.equalIn 10000 29 (.agg (B8 d).toArray) (.agg (B8 e).toArray)).run Tryd.prog w = .ok (d == e) w := by
 obtain ⟨i0, hi0, _⟩ := info_parts Tryd.info5
 rw [show (10000 : Nat) = 9999 + 1 from rfl, run_equalIn_array w 9999 _ _ Tryd.underlying29 hi0, show (9999 : Nat) = 9998 + 1 from rfl, items_all 9998 d e w (by omega) _ (by intro i hi; rw [hd]; exact List.mem_range.1 hi)]
 have : ((List.range 16).all fun i => d[i]? == e[i]?) = (d == e) := by
  rw [Bool.eq_iff_iff, List.all_eq_true, beq_iff_eq]
  constructor
  ·
   intro h
   apply List.ext_getElem?
   intro i
   rcases Nat.lt_or_ge i 16 with hi | hi
   ·
    exact beq_iff_eq.1 (h i (List.mem_range.2 hi))
   ·
    rw [List.getElem?_eq_none (by omega), List.getElem?_eq_none (by omega)]
  ·
   rintro rfl i _; simp
 rw [this]
theorem eqi29s (d : List UInt8) (hd : d.length = 16) (w : World) : (Op.equalIn 10000 29 (.agg (B8 d).toArray) (.agg (B8 d).toArray)).run Tryd.prog w = .ok true w := by
 rw [eqi29 d d hd hd w, beq_self_eq_true]
end Go.Proofs.YtofccgkgjcnfbaaDoor
