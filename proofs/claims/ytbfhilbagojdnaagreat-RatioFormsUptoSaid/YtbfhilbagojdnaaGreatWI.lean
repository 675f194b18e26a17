/-
  Bytes and integers of a row, cut.
  No condition.
-/
import Derived.Test.YtbfhilbagojdnaaGreatWRLists
import Derived.Test.YtbfhilbagojdnaaGreatWGets
import Derived.Test.YtbfhilbagojdnaaGreatWAux
namespace Go.Proofs.YtbfhilbagojdnaaGreat.W1
open Go.RowKit Go.Proofs.YtbfhilbagojdnaaGreat.Wr Go.Proofs.YtbfhilbagojdnaaGreat.W1.Wr
set_option linter.unusedVariables false
set_option maxRecDepth 100000

theorem B8_drop (b : List UInt8) (k : Nat) : B8 (b.drop k) = (B8 b).drop k := by simp [B8]
theorem I64_one (l : List Int) : ∀ u ∈ I64 l, u.oneCell' = true := by
  intro u hu; obtain ⟨_, _, rfl⟩ := List.mem_map.1 hu; rfl
theorem I64_len (l : List Int) : (I64 l).length = l.length := by simp [I64]
end Go.Proofs.YtbfhilbagojdnaaGreat.W1
