/-
  Plain mathematics of 32-bit words: Go's operations on them as those of bit vectors.
  No condition.
-/
import Derived.Laws.BitsAllLaws
import Derived.WalkKit
namespace Go.Proofs.YtofccgkgjcnfbaaDoor
open Go.RowKit
set_option linter.unusedVariables false
namespace Sh
/-- A word as Go's integer. -/
def val (x : BitVec 32) : Int := (x.toNat : Int)
theorem val_lo (x : BitVec 32) : 0 ≤ val x := by unfold val; omega
theorem val_hi (x : BitVec 32) : val x < 4294967296 := by unfold val; have := x.isLt; omega
theorem val_inj {x y : BitVec 32} (h : val x = val y) : x = y := by
  unfold val at h; exact BitVec.eq_of_toNat_eq (by omega)
theorem bv_of (x : BitVec 32) : BitVec.ofInt 32 (x.toNat : Int) = x := by
  rw [BitVec.ofInt_natCast]; simp
theorem wrap_nat (n : Nat) : IntKind.u32.wrap (n : Int) = ((n % 4294967296 : Nat) : Int) := by
  rw [IntKind.wrap_u32']; omega
theorem wrap_bv (x : BitVec 32) : IntKind.u32.wrap (x.toNat : Int) = (x.toNat : Int) := by
  rw [IntKind.wrap_u32']; have := x.isLt; omega
theorem xor_val (x y : BitVec 32) : bits .xor .u32 (val x) (val y) = val (x ^^^ y) := by
  show IntKind.u32.wrap ((BitVec.ofInt 32 (x.toNat : Int) ^^^ BitVec.ofInt 32 (y.toNat : Int)).toNat : Int) = _
  rw [bv_of, bv_of, wrap_bv]; rfl
theorem and_val (x y : BitVec 32) : bits .and .u32 (val x) (val y) = val (x &&& y) := by
  show IntKind.u32.wrap ((BitVec.ofInt 32 (x.toNat : Int) &&& BitVec.ofInt 32 (y.toNat : Int)).toNat : Int) = _
  rw [bv_of, bv_of, wrap_bv]; rfl
theorem or_val (x y : BitVec 32) : bits .or .u32 (val x) (val y) = val (x ||| y) := by
  show IntKind.u32.wrap ((BitVec.ofInt 32 (x.toNat : Int) ||| BitVec.ofInt 32 (y.toNat : Int)).toNat : Int) = _
  rw [bv_of, bv_of, wrap_bv]; rfl
theorem add_val (x y : BitVec 32) : IntKind.u32.wrap (val x + val y) = val (x + y) := by
  unfold val
  rw [← Int.natCast_add, wrap_nat, BitVec.toNat_add]
theorem add_val' (x y : BitVec 32) : (val x + val y) % (4294967296 : Int) = val (x + y) := by
  rw [← add_val, IntKind.wrap_u32']
theorem not_val (x : BitVec 32) : bits .xor .u32 (val x) (4294967295 : Int) = val (~~~x) := by
  have h : (4294967295 : Int) = val (BitVec.allOnes 32) := by rfl
  rw [h, xor_val, BitVec.xor_allOnes]
theorem wrap_val (x : BitVec 32) : IntKind.u32.wrap (val x) = val x := wrap_bv x
theorem shl_val (x : BitVec 32) (k p : Nat) (hp : p = 2 ^ k) : val x * (p : Int) % (4294967296 : Int) = val (x <<< k) := by
  unfold val
  rw [BitVec.toNat_shiftLeft, Nat.shiftLeft_eq, ← hp]
  have e : (2 : Nat) ^ 32 = 4294967296 := by decide
  rw [e, Int.natCast_emod, Int.natCast_mul]; rfl
theorem shr_val (x : BitVec 32) (k q : Nat) (hq : q = 2 ^ k) : val x / (q : Int) = val (x >>> k) := by
  unfold val
  rw [BitVec.toNat_ushiftRight, Nat.shiftRight_eq_div_pow, ← hq, Int.natCast_ediv]
theorem shr_3 (x : BitVec 32) : val x / (8 : Int) = val (x >>> 3) := shr_val x 3 8 rfl
theorem shr_8 (x : BitVec 32) : val x / (256 : Int) = val (x >>> 8) := shr_val x 8 256 rfl
theorem shr_10 (x : BitVec 32) : val x / (1024 : Int) = val (x >>> 10) := shr_val x 10 1024 rfl
theorem shr_16 (x : BitVec 32) : val x / (65536 : Int) = val (x >>> 16) := shr_val x 16 65536 rfl
theorem shr_24 (x : BitVec 32) : val x / (16777216 : Int) = val (x >>> 24) := shr_val x 24 16777216 rfl
theorem rot_l (x : BitVec 32) (n p q : Nat) (hn : n < 32) (hp : p = 2 ^ (32 - n)) (hq : q = 2 ^ n) :
    bits .or .u32 (val x * (p : Int) % (4294967296 : Int)) (val x / (q : Int)) = val (x.rotateRight n) := by
  rw [shl_val x (32 - n) p hp, shr_val x n q hq, or_val, BitVec.rotateRight_def, Nat.mod_eq_of_lt hn, BitVec.or_comm]
theorem rot_r (x : BitVec 32) (n p q : Nat) (hn : n < 32) (hp : p = 2 ^ (32 - n)) (hq : q = 2 ^ n) :
    bits .or .u32 (val x / (q : Int)) (val x * (p : Int) % (4294967296 : Int)) = val (x.rotateRight n) := by
  rw [shl_val x (32 - n) p hp, shr_val x n q hq, or_val, BitVec.rotateRight_def, Nat.mod_eq_of_lt hn]
end Sh
end Go.Proofs.YtofccgkgjcnfbaaDoor
