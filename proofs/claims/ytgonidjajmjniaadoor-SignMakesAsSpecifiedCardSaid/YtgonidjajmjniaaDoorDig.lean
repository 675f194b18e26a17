/-
  The digits of a digest, as a function; the contract of sign's lowDigit.
-/
import Derived.Test.YtgonidjajmjniaaDoorProg
import Derived.Test.YtgonidjajmjniaaDoorMem
import Derived.Laws.BitsAllLaws
import Derived.Outline
namespace Go.Proofs.YtgonidjajmjniaaDoor
open Go.RowKit Wr Sh
set_option linter.unusedVariables false
set_option maxRecDepth 100000

theorem and3 (n : Nat) (h : n < 4294967296) : bits .and .i64 (n : Int) 3 = ((n % 4 : Nat) : Int) := by
  have hm : (BitVec.ofInt 64 (n : Int) &&& BitVec.ofInt 64 3).toNat = ((n : Int) % 18446744073709551616).toNat % 4 := by
    rw [BitVec.toNat_and, show (BitVec.ofInt 64 3).toNat = 3 by decide, nat_mask2, BitVec.toNat_ofInt]; rfl
  show IntKind.i64.wrap ((BitVec.ofInt 64 (n : Int) &&& BitVec.ofInt 64 3).toNat : Int) = _
  rw [hm, IntKind.wrap_i64]
  omega
/-- The digit of n at a place. -/
def low (n place : Nat) : Nat := n / 4 ^ place % 4
theorem low_le (n p : Nat) : low n p ≤ 3 := by unfold low; omega

set_option maxHeartbeats 1000000 in
theorem low_any (n p : Nat) (w : World) (hn : n < 65536) (hp : p < 4) :
    Calls Tryd.prog 21 #[.int .i64 n, .int .i64 p] w fun e w' => e = .returned (.int .i64 (low n p : Nat)) ∧ w = w' := by
  rcases (show p = 0 ∨ p = 1 ∨ p = 2 ∨ p = 3 by omega) with rfl | rfl | rfl | rfl
  · go_enter Tryd.func21, Tryd.ntmps21
    go_wp2_with fail
    go_ret
    refine ⟨?_, rfl⟩
    show Ending.returned (.int .i64 (bits .and .i64 ((n : Int)) 3)) = _
    rw [and3 _ (by omega)]; simp [low]
  · go_enter Tryd.func21, Tryd.ntmps21
    go_wp2_with fail
    go_ret
    refine ⟨?_, rfl⟩
    show Ending.returned (.int .i64 (bits .and .i64 ((n : Int) / 4) 3)) = _
    rw [show (n : Int) / 4 = ((n / 4 : Nat) : Int) by omega, and3 _ (by omega)]; simp [low]
  · go_enter Tryd.func21, Tryd.ntmps21
    go_wp2_with fail
    go_ret
    refine ⟨?_, rfl⟩
    show Ending.returned (.int .i64 (bits .and .i64 ((n : Int) / 16) 3)) = _
    rw [show (n : Int) / 16 = ((n / 16 : Nat) : Int) by omega, and3 _ (by omega)]; simp [low]
  · go_enter Tryd.func21, Tryd.ntmps21
    go_wp2_with fail
    go_ret
    refine ⟨?_, rfl⟩
    show Ending.returned (.int .i64 (bits .and .i64 ((n : Int) / 64) 3)) = _
    rw [show (n : Int) / 64 = ((n / 64 : Nat) : Int) by omega, and3 _ (by omega)]; simp [low]
end Go.Proofs.YtgonidjajmjniaaDoor
