/-
  The contracts of the encoding and decoding functions in the form in which callers meet them: the slices written out, their cells told.
  Conditions: as of the contracts that they come from.
-/
import Derived.Test.YtbfhilbagojdnaaGreatWGets
import Derived.Test.YtbfhilbagojdnaaGreatWSame
namespace Go.Proofs.YtbfhilbagojdnaaGreat.W1
open Go.RowKit Go.Proofs.YtbfhilbagojdnaaGreat.Wr Go.Proofs.YtbfhilbagojdnaaGreat.W1.Wr
set_option linter.unusedVariables false
set_option maxRecDepth 100000

theorem own_form {w : World} {base e size n : Nat} {v : Value} {xs : List Value} (h : w.ownsRow base e size v n xs) : ∃ (A : Option Addr) (c : Nat), v = .slice A n c ∧ n ≤ c ∧ (A = none → c = 0) ∧ Rd w w.heap.size A xs := by
  rcases h.2 with ⟨rfl, rfl⟩ | ⟨g, cap, cur, rfl, hb, hg, hnc, _, _, _⟩
  · exact ⟨none, 0, rfl, Nat.le_refl _, fun _ => rfl, Rd.of_own h⟩
  · exact ⟨_, cap, rfl, hnc, (fun e => by cases e), Rd.of_own h⟩

end Go.Proofs.YtbfhilbagojdnaaGreat.W1
