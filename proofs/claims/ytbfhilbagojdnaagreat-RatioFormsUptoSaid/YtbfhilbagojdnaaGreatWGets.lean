/-
  The contracts of wire.GetInts, GetStrings and GetDigests: they return the decoding of the list at the beginning of the bytes.
  No condition but that the bytes can be read; at most 2^30 of them.
-/
import Derived.Test.YtbfhilbagojdnaaGreatWList
namespace Go.Proofs.YtbfhilbagojdnaaGreat.W1
open Go.RowKit Go.Proofs.YtbfhilbagojdnaaGreat.Wr Go.Proofs.YtbfhilbagojdnaaGreat.W1.Wr
set_option linter.unusedVariables false
set_option maxRecDepth 100000

set_option maxRecDepth 100000 in
set_option maxHeartbeats 400000 in
theorem getInts_any (A : Option Addr) (b : List UInt8) (c : Nat) (w : World) (hr : Rd w w.heap.size A (B8 b)) (hc : b.length ≤ c) (hl : b.length ≤ 1073741824) :
    Calls Tryz.prog 84 #[.slice A b.length c] w fun e w' => ∃ v', e = .returned (.tuple #[v', .int .i64 ((decInts b).2.1 : Nat), .int .i64 ((decInts b).2.2 : Nat)]) ∧
      w'.ownsRow w.heap.size 3 1 v' (decInts b).1.length (I64 (decInts b).1) ∧ Below w.heap.size w w' := by
  go_enter Tryz.func84, Tryz.ntmps84
  go_wp2_with (go_at_call 119; refine (getList_int A b c _ hr hc hl).mono ?_; rintro e w' ⟨v', rfl, ho, hb⟩)
  go_ret3
  exact ⟨v', rfl, ho, hb⟩

end Go.Proofs.YtbfhilbagojdnaaGreat.W1
