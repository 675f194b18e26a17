/-
  The contracts of bits.Len and of merkle's powerBelow.
  Condition: a number up to 2^30.
-/
import Derived.Test.YtofccgkgjcnfbaaDoorProg
import Derived.Test.YtofccgkgjcnfbaaDoorTree
import Derived.Shelf.Small.Bits
import Derived.WalkKit
import Derived.Outline
import Derived.Lib.Hide
namespace Go.Proofs.YtofccgkgjcnfbaaDoor
open Go.RowKit Wr
set_option linter.unusedVariables false
set_option maxRecDepth 100000

def renB : Go.Shelf.Ren := ⟨fun | 125 => 114 | 128 => 117 | 129 => 118 | n => n, fun | 46 => 141 | 51 => 147 | 53 => 139 | n => n, fun n => n⟩
theorem laysB : Lays.n125 Tryd.prog renB := by
  constructor
  all_goals (intros; kernel_rfl)
theorem len_any (x : Nat) (w : World) (h : x ≤ 1073741824) : Calls Tryd.prog 114 #[.int .u64 (x : Int)] w fun e w' => e = .returned (.int .i64 (Lib.bitLen x : Nat)) ∧ w = w' :=
  (Any.bits_Len laysB (x : Int) w (by omega) (by omega)).mono fun e w' ⟨h1, h2⟩ => ⟨by rw [h1, Int.toNat_natCast], h2.symm⟩
theorem bitLenAux_log (f : Nat) : ∀ x, 0 < x → x < 2 ^ f → Lib.bitLenAux f x = Nat.log2 x + 1 := by
  induction f with
  | zero => intro x h0 h1; simp at h1; omega
  | succ f ih =>
    intro x h0 h1
    unfold Lib.bitLenAux
    rw [if_neg (by omega)]
    by_cases h : x / 2 = 0
    · rw [h]
      have : x = 1 := by omega
      subst this
      have : Lib.bitLenAux f 0 = 0 := by cases f <;> simp [Lib.bitLenAux]
      rw [this]; decide
    · rw [ih (x / 2) (by omega) (by rw [Nat.pow_succ] at h1; omega), Nat.log2_def x, if_pos (by omega)]
      omega
theorem bitLen_log (x : Nat) (h0 : 0 < x) (h1 : x ≤ 1073741824) : Lib.bitLen x = Nat.log2 x + 1 := bitLenAux_log 64 x h0 (Nat.lt_of_le_of_lt h1 (by decide))

set_option maxHeartbeats 400000 in
theorem power_any (n : Nat) (w : World) (h1 : 1 < n) (h2 : n ≤ 1073741824) : Calls Tryd.prog 104 #[.int .i64 (n : Int)] w fun e w' => e = .returned (.int .i64 (half n : Nat)) ∧ w = w' := by
  obtain ⟨k, hk⟩ : ∃ k, k = Nat.log2 (n - 1) := ⟨_, rfl⟩
  have hb : Lib.bitLen (n - 1) = k + 1 := by rw [hk]; exact bitLen_log _ (by omega) (by omega)
  have hk30 : k ≤ 30 := by rw [hk]; have := (Nat.log2_lt (n := n - 1) (k := 31) (by omega)).2 (by omega); omega
  have HB := Lib.hid hb
  have e : half n = 2 ^ k := by rw [hk]; rfl
  rw [e]
  have hc : (((n - 1 : Nat)) : Int) = (n : Int) - 1 := by omega
  have HC := Lib.hid hc
  clear hk hb e hc
  go_enter Tryd.func104, Tryd.ntmps104
  go_wp2_with (go_at_call 114; rw [← HC.out]; refine (len_any (n - 1) _ (by omega)).mono ?_; rintro e w' ⟨rfl, rfl⟩; rw [HB.out])
  go_ret
  have hp : (2 : Nat) ^ k ≤ 2 ^ 30 := Nat.pow_le_pow_right (by decide) hk30
  have hw : wrap64 ((2 : Int) ^ k) = ((2 ^ k : Nat) : Int) := by
    rw [show ((2 : Int) ^ k) = ((2 ^ k : Nat) : Int) by simp]
    have : (2 : Nat) ^ 30 = 1073741824 := by decide
    generalize (2 : Nat) ^ k = q at hp
    simp only [wrap64]; omega
  exact ⟨by rw [hw]; rfl, rfl⟩
end Go.Proofs.YtofccgkgjcnfbaaDoor
