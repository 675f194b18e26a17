/-
  Contracts and words of several parts of the program (Bits, Rot, Sha, Mem), one after the other.
  Conditions: those that each says.
-/
import Derived.Laws.BitsAllLaws
import Derived.WalkKit
import Derived.Test.YtofccgkgjcnfbaaDoorProg
import Derived.Deep.QuietTactic
import Derived.BigQuiet
import Derived.Deep.AppendLies
import Derived.Deep.Draws
import Derived.ShutString
import Derived.Laws.CopyRow
set_option linter.unusedSimpArgs false
namespace Go.Proofs.YtofccgkgjcnfbaaDoor
open Go.RowKit
set_option linter.unusedVariables false
namespace Sh
def val (x : BitVec 32) : Int := (x.toNat : Int)
theorem bv_of (x : BitVec 32) : BitVec.ofInt 32 (x.toNat : Int) = x := by
 rw [BitVec.ofInt_natCast]; simp
theorem wrap_nat (n : Nat) : IntKind.u32.wrap (n : Int) = ((n % 4294967296 : Nat) : Int) := by
 rw [IntKind.wrap_u32']; omega
theorem wrap_bv (x : BitVec 32) : IntKind.u32.wrap (x.toNat : Int) = (x.toNat : Int) := by
 rw [IntKind.wrap_u32']; have := x.isLt; omega
theorem xor_val (x y : BitVec 32) : bits .xor .u32 (val x) (val y) = val (x ^^^ y) := by
 show IntKind.u32.wrap ((BitVec.ofInt 32 (x.toNat : Int) ^^^ BitVec.ofInt 32 (y.toNat : Int)).toNat : Int) = _
 rw [bv_of, bv_of, wrap_bv]; rfl
theorem and_val (x y : BitVec 32) : bits .and .u32 (val x) (val y) = val (x &&& y) := by
 show IntKind.u32.wrap ((BitVec.ofInt 32 (x.toNat : Int) &&& BitVec.ofInt 32 (y.toNat : Int)).toNat : Int) = _
 rw [bv_of, bv_of, wrap_bv]; rfl
theorem or_val (x y : BitVec 32) : bits .or .u32 (val x) (val y) = val (x ||| y) := by
 show IntKind.u32.wrap ((BitVec.ofInt 32 (x.toNat : Int) ||| BitVec.ofInt 32 (y.toNat : Int)).toNat : Int) = _
 rw [bv_of, bv_of, wrap_bv]; rfl
theorem add_val (x y : BitVec 32) : IntKind.u32.wrap (val x + val y) = val (x + y) := by
 unfold val
 rw [← Int.natCast_add, wrap_nat, BitVec.toNat_add]
theorem add_val' (x y : BitVec 32) : (val x + val y) % (4294967296 : Int) = val (x + y) := by
 rw [← add_val, IntKind.wrap_u32']
theorem not_val (x : BitVec 32) : bits .xor .u32 (val x) (4294967295 : Int) = val (~~~x) := by
 have h : (4294967295 : Int) = val (BitVec.allOnes 32) := by rfl
 rw [h, xor_val, BitVec.xor_allOnes]
theorem shl_val (x : BitVec 32) (k p : Nat) (hp : p = 2 ^ k) : val x * (p : Int) % (4294967296 : Int) = val (x <<< k) := by
 unfold val
 rw [BitVec.toNat_shiftLeft, Nat.shiftLeft_eq, ← hp]
 have e : (2 : Nat) ^ 32 = 4294967296 := by decide
 rw [e, Int.natCast_emod, Int.natCast_mul]; rfl
theorem shr_val (x : BitVec 32) (k q : Nat) (hq : q = 2 ^ k) : val x / (q : Int) = val (x >>> k) := by
 unfold val
 rw [BitVec.toNat_ushiftRight, Nat.shiftRight_eq_div_pow, ← hq, Int.natCast_ediv]
theorem shr_3 (x : BitVec 32) : val x / (8 : Int) = val (x >>> 3) := shr_val x 3 8 rfl
theorem shr_8 (x : BitVec 32) : val x / (256 : Int) = val (x >>> 8) := shr_val x 8 256 rfl
theorem shr_10 (x : BitVec 32) : val x / (1024 : Int) = val (x >>> 10) := shr_val x 10 1024 rfl
theorem shr_16 (x : BitVec 32) : val x / (65536 : Int) = val (x >>> 16) := shr_val x 16 65536 rfl
theorem shr_24 (x : BitVec 32) : val x / (16777216 : Int) = val (x >>> 24) := shr_val x 24 16777216 rfl
theorem rot_l (x : BitVec 32) (n p q : Nat) (hn : n < 32) (hp : p = 2 ^ (32 - n)) (hq : q = 2 ^ n) :
  bits .or .u32 (val x * (p : Int) % (4294967296 : Int)) (val x / (q : Int)) = val (x.rotateRight n) := by
 rw [shl_val x (32 - n) p hp, shr_val x n q hq, or_val, BitVec.rotateRight_def, Nat.mod_eq_of_lt hn, BitVec.or_comm]
theorem rot_r (x : BitVec 32) (n p q : Nat) (hn : n < 32) (hp : p = 2 ^ (32 - n)) (hq : q = 2 ^ n) :
  bits .or .u32 (val x / (q : Int)) (val x * (p : Int) % (4294967296 : Int)) = val (x.rotateRight n) := by
 rw [shl_val x (32 - n) p hp, shr_val x n q hq, or_val, BitVec.rotateRight_def, Nat.mod_eq_of_lt hn]
end Sh
end Go.Proofs.YtofccgkgjcnfbaaDoor
namespace Go.Proofs.YtofccgkgjcnfbaaDoor
open Go.RowKit Sh
set_option linter.unusedVariables false
theorem ret_u32 {a b : Int} (h : a = b) : Ending.returned (.int .u32 a) = .returned (.int .u32 b) := by rw [h]
set_option maxHeartbeats 400000 in
theorem rotl_2 (x : BitVec 32) (w : World) :
  Calls Tryd.prog 119 #[.int .u32 (val x), .int .i64 (-2)] w fun e w' => e = .returned (.int .u32 (val (x.rotateRight 2))) ∧ w = w' := by
 have hb : bits .and .u64 (IntKind.u64.wrap (-2)) 31 = 30 := by kernel_rfl
 go_enter Tryd.func119, Tryd.ntmps119
 go_wp2
 go_ret
 exact ⟨ret_u32 (rot_l x 2 1073741824 4 (by omega) (by rfl) (by rfl)), rfl⟩
set_option maxHeartbeats 400000 in
theorem rotr_2 (x : BitVec 32) (w : World) :
  Calls Tryd.prog 116 #[.int .u32 (val x), .int .i64 2] w fun e w' => e = .returned (.int .u32 (val (x.rotateRight 2))) ∧ w = w' := by
 go_enter Tryd.func116, Tryd.ntmps116
 go_wp2_with (go_at_call 119; refine (rotl_2 _ _).mono ?_; rintro e w' ⟨rfl, rfl⟩)
 go_ret
 exact ⟨rfl, rfl⟩
theorem rots_2 (x : BitVec 32) (w : World) :
  Calls Tryd.prog 116 #[.int .u32 (val x), .int .i64 2] w fun e w' => e = .returned (.int .u32 (val (x.rotateRight 2))) ∧ w' = w := (rotr_2 x w).mono fun _ _ h => ⟨h.1, h.2.symm⟩
set_option maxHeartbeats 400000 in
theorem rref_2 (x : BitVec 32) (w : World) :
  Calls Tryd.prog 112 #[.int .u32 (val x), .int .i64 2] w fun e w' => e = .returned (.int .u32 (val (x.rotateRight 2))) ∧ ∃ n, w' = w.drewN n := by
 go_enter Tryd.func112, Tryd.ntmps112
 go_wp2
 go_quiet (fail)
 go_wp2
 go_ret
 exact ⟨ret_u32 (rot_r x 2 1073741824 4 (by omega) (by rfl) (by rfl)), _, rfl⟩
set_option maxHeartbeats 400000 in
theorem rotl_6 (x : BitVec 32) (w : World) :
  Calls Tryd.prog 119 #[.int .u32 (val x), .int .i64 (-6)] w fun e w' => e = .returned (.int .u32 (val (x.rotateRight 6))) ∧ w = w' := by
 have hb : bits .and .u64 (IntKind.u64.wrap (-6)) 31 = 26 := by kernel_rfl
 go_enter Tryd.func119, Tryd.ntmps119
 go_wp2
 go_ret
 exact ⟨ret_u32 (rot_l x 6 67108864 64 (by omega) (by rfl) (by rfl)), rfl⟩
set_option maxHeartbeats 400000 in
theorem rotr_6 (x : BitVec 32) (w : World) :
  Calls Tryd.prog 116 #[.int .u32 (val x), .int .i64 6] w fun e w' => e = .returned (.int .u32 (val (x.rotateRight 6))) ∧ w = w' := by
 go_enter Tryd.func116, Tryd.ntmps116
 go_wp2_with (go_at_call 119; refine (rotl_6 _ _).mono ?_; rintro e w' ⟨rfl, rfl⟩)
 go_ret
 exact ⟨rfl, rfl⟩
theorem rots_6 (x : BitVec 32) (w : World) :
  Calls Tryd.prog 116 #[.int .u32 (val x), .int .i64 6] w fun e w' => e = .returned (.int .u32 (val (x.rotateRight 6))) ∧ w' = w := (rotr_6 x w).mono fun _ _ h => ⟨h.1, h.2.symm⟩
set_option maxHeartbeats 400000 in
theorem rref_6 (x : BitVec 32) (w : World) :
  Calls Tryd.prog 112 #[.int .u32 (val x), .int .i64 6] w fun e w' => e = .returned (.int .u32 (val (x.rotateRight 6))) ∧ ∃ n, w' = w.drewN n := by
 go_enter Tryd.func112, Tryd.ntmps112
 go_wp2
 go_quiet (fail)
 go_wp2
 go_ret
 exact ⟨ret_u32 (rot_r x 6 67108864 64 (by omega) (by rfl) (by rfl)), _, rfl⟩
set_option maxHeartbeats 400000 in
theorem rotl_7 (x : BitVec 32) (w : World) :
  Calls Tryd.prog 119 #[.int .u32 (val x), .int .i64 (-7)] w fun e w' => e = .returned (.int .u32 (val (x.rotateRight 7))) ∧ w = w' := by
 have hb : bits .and .u64 (IntKind.u64.wrap (-7)) 31 = 25 := by kernel_rfl
 go_enter Tryd.func119, Tryd.ntmps119
 go_wp2
 go_ret
 exact ⟨ret_u32 (rot_l x 7 33554432 128 (by omega) (by rfl) (by rfl)), rfl⟩
set_option maxHeartbeats 400000 in
theorem rotr_7 (x : BitVec 32) (w : World) :
  Calls Tryd.prog 116 #[.int .u32 (val x), .int .i64 7] w fun e w' => e = .returned (.int .u32 (val (x.rotateRight 7))) ∧ w = w' := by
 go_enter Tryd.func116, Tryd.ntmps116
 go_wp2_with (go_at_call 119; refine (rotl_7 _ _).mono ?_; rintro e w' ⟨rfl, rfl⟩)
 go_ret
 exact ⟨rfl, rfl⟩
theorem rots_7 (x : BitVec 32) (w : World) :
  Calls Tryd.prog 116 #[.int .u32 (val x), .int .i64 7] w fun e w' => e = .returned (.int .u32 (val (x.rotateRight 7))) ∧ w' = w := (rotr_7 x w).mono fun _ _ h => ⟨h.1, h.2.symm⟩
set_option maxHeartbeats 400000 in
theorem rref_7 (x : BitVec 32) (w : World) :
  Calls Tryd.prog 112 #[.int .u32 (val x), .int .i64 7] w fun e w' => e = .returned (.int .u32 (val (x.rotateRight 7))) ∧ ∃ n, w' = w.drewN n := by
 go_enter Tryd.func112, Tryd.ntmps112
 go_wp2
 go_quiet (fail)
 go_wp2
 go_ret
 exact ⟨ret_u32 (rot_r x 7 33554432 128 (by omega) (by rfl) (by rfl)), _, rfl⟩
set_option maxHeartbeats 400000 in
theorem rotl_11 (x : BitVec 32) (w : World) :
  Calls Tryd.prog 119 #[.int .u32 (val x), .int .i64 (-11)] w fun e w' => e = .returned (.int .u32 (val (x.rotateRight 11))) ∧ w = w' := by
 have hb : bits .and .u64 (IntKind.u64.wrap (-11)) 31 = 21 := by kernel_rfl
 go_enter Tryd.func119, Tryd.ntmps119
 go_wp2
 go_ret
 exact ⟨ret_u32 (rot_l x 11 2097152 2048 (by omega) (by rfl) (by rfl)), rfl⟩
set_option maxHeartbeats 400000 in
theorem rotr_11 (x : BitVec 32) (w : World) :
  Calls Tryd.prog 116 #[.int .u32 (val x), .int .i64 11] w fun e w' => e = .returned (.int .u32 (val (x.rotateRight 11))) ∧ w = w' := by
 go_enter Tryd.func116, Tryd.ntmps116
 go_wp2_with (go_at_call 119; refine (rotl_11 _ _).mono ?_; rintro e w' ⟨rfl, rfl⟩)
 go_ret
 exact ⟨rfl, rfl⟩
theorem rots_11 (x : BitVec 32) (w : World) :
  Calls Tryd.prog 116 #[.int .u32 (val x), .int .i64 11] w fun e w' => e = .returned (.int .u32 (val (x.rotateRight 11))) ∧ w' = w := (rotr_11 x w).mono fun _ _ h => ⟨h.1, h.2.symm⟩
set_option maxHeartbeats 400000 in
theorem rref_11 (x : BitVec 32) (w : World) :
  Calls Tryd.prog 112 #[.int .u32 (val x), .int .i64 11] w fun e w' => e = .returned (.int .u32 (val (x.rotateRight 11))) ∧ ∃ n, w' = w.drewN n := by
 go_enter Tryd.func112, Tryd.ntmps112
 go_wp2
 go_quiet (fail)
 go_wp2
 go_ret
 exact ⟨ret_u32 (rot_r x 11 2097152 2048 (by omega) (by rfl) (by rfl)), _, rfl⟩
set_option maxHeartbeats 400000 in
theorem rotl_13 (x : BitVec 32) (w : World) :
  Calls Tryd.prog 119 #[.int .u32 (val x), .int .i64 (-13)] w fun e w' => e = .returned (.int .u32 (val (x.rotateRight 13))) ∧ w = w' := by
 have hb : bits .and .u64 (IntKind.u64.wrap (-13)) 31 = 19 := by kernel_rfl
 go_enter Tryd.func119, Tryd.ntmps119
 go_wp2
 go_ret
 exact ⟨ret_u32 (rot_l x 13 524288 8192 (by omega) (by rfl) (by rfl)), rfl⟩
set_option maxHeartbeats 400000 in
theorem rotr_13 (x : BitVec 32) (w : World) :
  Calls Tryd.prog 116 #[.int .u32 (val x), .int .i64 13] w fun e w' => e = .returned (.int .u32 (val (x.rotateRight 13))) ∧ w = w' := by
 go_enter Tryd.func116, Tryd.ntmps116
 go_wp2_with (go_at_call 119; refine (rotl_13 _ _).mono ?_; rintro e w' ⟨rfl, rfl⟩)
 go_ret
 exact ⟨rfl, rfl⟩
theorem rots_13 (x : BitVec 32) (w : World) :
  Calls Tryd.prog 116 #[.int .u32 (val x), .int .i64 13] w fun e w' => e = .returned (.int .u32 (val (x.rotateRight 13))) ∧ w' = w := (rotr_13 x w).mono fun _ _ h => ⟨h.1, h.2.symm⟩
set_option maxHeartbeats 400000 in
theorem rref_13 (x : BitVec 32) (w : World) :
  Calls Tryd.prog 112 #[.int .u32 (val x), .int .i64 13] w fun e w' => e = .returned (.int .u32 (val (x.rotateRight 13))) ∧ ∃ n, w' = w.drewN n := by
 go_enter Tryd.func112, Tryd.ntmps112
 go_wp2
 go_quiet (fail)
 go_wp2
 go_ret
 exact ⟨ret_u32 (rot_r x 13 524288 8192 (by omega) (by rfl) (by rfl)), _, rfl⟩
set_option maxHeartbeats 400000 in
theorem rotl_17 (x : BitVec 32) (w : World) :
  Calls Tryd.prog 119 #[.int .u32 (val x), .int .i64 (-17)] w fun e w' => e = .returned (.int .u32 (val (x.rotateRight 17))) ∧ w = w' := by
 have hb : bits .and .u64 (IntKind.u64.wrap (-17)) 31 = 15 := by kernel_rfl
 go_enter Tryd.func119, Tryd.ntmps119
 go_wp2
 go_ret
 exact ⟨ret_u32 (rot_l x 17 32768 131072 (by omega) (by rfl) (by rfl)), rfl⟩
set_option maxHeartbeats 400000 in
theorem rotr_17 (x : BitVec 32) (w : World) :
  Calls Tryd.prog 116 #[.int .u32 (val x), .int .i64 17] w fun e w' => e = .returned (.int .u32 (val (x.rotateRight 17))) ∧ w = w' := by
 go_enter Tryd.func116, Tryd.ntmps116
 go_wp2_with (go_at_call 119; refine (rotl_17 _ _).mono ?_; rintro e w' ⟨rfl, rfl⟩)
 go_ret
 exact ⟨rfl, rfl⟩
theorem rots_17 (x : BitVec 32) (w : World) :
  Calls Tryd.prog 116 #[.int .u32 (val x), .int .i64 17] w fun e w' => e = .returned (.int .u32 (val (x.rotateRight 17))) ∧ w' = w := (rotr_17 x w).mono fun _ _ h => ⟨h.1, h.2.symm⟩
set_option maxHeartbeats 400000 in
theorem rref_17 (x : BitVec 32) (w : World) :
  Calls Tryd.prog 112 #[.int .u32 (val x), .int .i64 17] w fun e w' => e = .returned (.int .u32 (val (x.rotateRight 17))) ∧ ∃ n, w' = w.drewN n := by
 go_enter Tryd.func112, Tryd.ntmps112
 go_wp2
 go_quiet (fail)
 go_wp2
 go_ret
 exact ⟨ret_u32 (rot_r x 17 32768 131072 (by omega) (by rfl) (by rfl)), _, rfl⟩
set_option maxHeartbeats 400000 in
theorem rotl_18 (x : BitVec 32) (w : World) :
  Calls Tryd.prog 119 #[.int .u32 (val x), .int .i64 (-18)] w fun e w' => e = .returned (.int .u32 (val (x.rotateRight 18))) ∧ w = w' := by
 have hb : bits .and .u64 (IntKind.u64.wrap (-18)) 31 = 14 := by kernel_rfl
 go_enter Tryd.func119, Tryd.ntmps119
 go_wp2
 go_ret
 exact ⟨ret_u32 (rot_l x 18 16384 262144 (by omega) (by rfl) (by rfl)), rfl⟩
set_option maxHeartbeats 400000 in
theorem rotr_18 (x : BitVec 32) (w : World) :
  Calls Tryd.prog 116 #[.int .u32 (val x), .int .i64 18] w fun e w' => e = .returned (.int .u32 (val (x.rotateRight 18))) ∧ w = w' := by
 go_enter Tryd.func116, Tryd.ntmps116
 go_wp2_with (go_at_call 119; refine (rotl_18 _ _).mono ?_; rintro e w' ⟨rfl, rfl⟩)
 go_ret
 exact ⟨rfl, rfl⟩
theorem rots_18 (x : BitVec 32) (w : World) :
  Calls Tryd.prog 116 #[.int .u32 (val x), .int .i64 18] w fun e w' => e = .returned (.int .u32 (val (x.rotateRight 18))) ∧ w' = w := (rotr_18 x w).mono fun _ _ h => ⟨h.1, h.2.symm⟩
set_option maxHeartbeats 400000 in
theorem rref_18 (x : BitVec 32) (w : World) :
  Calls Tryd.prog 112 #[.int .u32 (val x), .int .i64 18] w fun e w' => e = .returned (.int .u32 (val (x.rotateRight 18))) ∧ ∃ n, w' = w.drewN n := by
 go_enter Tryd.func112, Tryd.ntmps112
 go_wp2
 go_quiet (fail)
 go_wp2
 go_ret
 exact ⟨ret_u32 (rot_r x 18 16384 262144 (by omega) (by rfl) (by rfl)), _, rfl⟩
set_option maxHeartbeats 400000 in
theorem rotl_19 (x : BitVec 32) (w : World) :
  Calls Tryd.prog 119 #[.int .u32 (val x), .int .i64 (-19)] w fun e w' => e = .returned (.int .u32 (val (x.rotateRight 19))) ∧ w = w' := by
 have hb : bits .and .u64 (IntKind.u64.wrap (-19)) 31 = 13 := by kernel_rfl
 go_enter Tryd.func119, Tryd.ntmps119
 go_wp2
 go_ret
 exact ⟨ret_u32 (rot_l x 19 8192 524288 (by omega) (by rfl) (by rfl)), rfl⟩
set_option maxHeartbeats 400000 in
theorem rotr_19 (x : BitVec 32) (w : World) :
  Calls Tryd.prog 116 #[.int .u32 (val x), .int .i64 19] w fun e w' => e = .returned (.int .u32 (val (x.rotateRight 19))) ∧ w = w' := by
 go_enter Tryd.func116, Tryd.ntmps116
 go_wp2_with (go_at_call 119; refine (rotl_19 _ _).mono ?_; rintro e w' ⟨rfl, rfl⟩)
 go_ret
 exact ⟨rfl, rfl⟩
theorem rots_19 (x : BitVec 32) (w : World) :
  Calls Tryd.prog 116 #[.int .u32 (val x), .int .i64 19] w fun e w' => e = .returned (.int .u32 (val (x.rotateRight 19))) ∧ w' = w := (rotr_19 x w).mono fun _ _ h => ⟨h.1, h.2.symm⟩
set_option maxHeartbeats 400000 in
theorem rref_19 (x : BitVec 32) (w : World) :
  Calls Tryd.prog 112 #[.int .u32 (val x), .int .i64 19] w fun e w' => e = .returned (.int .u32 (val (x.rotateRight 19))) ∧ ∃ n, w' = w.drewN n := by
 go_enter Tryd.func112, Tryd.ntmps112
 go_wp2
 go_quiet (fail)
 go_wp2
 go_ret
 exact ⟨ret_u32 (rot_r x 19 8192 524288 (by omega) (by rfl) (by rfl)), _, rfl⟩
set_option maxHeartbeats 400000 in
theorem rotl_22 (x : BitVec 32) (w : World) :
  Calls Tryd.prog 119 #[.int .u32 (val x), .int .i64 (-22)] w fun e w' => e = .returned (.int .u32 (val (x.rotateRight 22))) ∧ w = w' := by
 have hb : bits .and .u64 (IntKind.u64.wrap (-22)) 31 = 10 := by kernel_rfl
 go_enter Tryd.func119, Tryd.ntmps119
 go_wp2
 go_ret
 exact ⟨ret_u32 (rot_l x 22 1024 4194304 (by omega) (by rfl) (by rfl)), rfl⟩
set_option maxHeartbeats 400000 in
theorem rotr_22 (x : BitVec 32) (w : World) :
  Calls Tryd.prog 116 #[.int .u32 (val x), .int .i64 22] w fun e w' => e = .returned (.int .u32 (val (x.rotateRight 22))) ∧ w = w' := by
 go_enter Tryd.func116, Tryd.ntmps116
 go_wp2_with (go_at_call 119; refine (rotl_22 _ _).mono ?_; rintro e w' ⟨rfl, rfl⟩)
 go_ret
 exact ⟨rfl, rfl⟩
theorem rots_22 (x : BitVec 32) (w : World) :
  Calls Tryd.prog 116 #[.int .u32 (val x), .int .i64 22] w fun e w' => e = .returned (.int .u32 (val (x.rotateRight 22))) ∧ w' = w := (rotr_22 x w).mono fun _ _ h => ⟨h.1, h.2.symm⟩
set_option maxHeartbeats 400000 in
theorem rref_22 (x : BitVec 32) (w : World) :
  Calls Tryd.prog 112 #[.int .u32 (val x), .int .i64 22] w fun e w' => e = .returned (.int .u32 (val (x.rotateRight 22))) ∧ ∃ n, w' = w.drewN n := by
 go_enter Tryd.func112, Tryd.ntmps112
 go_wp2
 go_quiet (fail)
 go_wp2
 go_ret
 exact ⟨ret_u32 (rot_r x 22 1024 4194304 (by omega) (by rfl) (by rfl)), _, rfl⟩
set_option maxHeartbeats 400000 in
theorem rotl_25 (x : BitVec 32) (w : World) :
  Calls Tryd.prog 119 #[.int .u32 (val x), .int .i64 (-25)] w fun e w' => e = .returned (.int .u32 (val (x.rotateRight 25))) ∧ w = w' := by
 have hb : bits .and .u64 (IntKind.u64.wrap (-25)) 31 = 7 := by kernel_rfl
 go_enter Tryd.func119, Tryd.ntmps119
 go_wp2
 go_ret
 exact ⟨ret_u32 (rot_l x 25 128 33554432 (by omega) (by rfl) (by rfl)), rfl⟩
set_option maxHeartbeats 400000 in
theorem rotr_25 (x : BitVec 32) (w : World) :
  Calls Tryd.prog 116 #[.int .u32 (val x), .int .i64 25] w fun e w' => e = .returned (.int .u32 (val (x.rotateRight 25))) ∧ w = w' := by
 go_enter Tryd.func116, Tryd.ntmps116
 go_wp2_with (go_at_call 119; refine (rotl_25 _ _).mono ?_; rintro e w' ⟨rfl, rfl⟩)
 go_ret
 exact ⟨rfl, rfl⟩
theorem rots_25 (x : BitVec 32) (w : World) :
  Calls Tryd.prog 116 #[.int .u32 (val x), .int .i64 25] w fun e w' => e = .returned (.int .u32 (val (x.rotateRight 25))) ∧ w' = w := (rotr_25 x w).mono fun _ _ h => ⟨h.1, h.2.symm⟩
set_option maxHeartbeats 400000 in
theorem rref_25 (x : BitVec 32) (w : World) :
  Calls Tryd.prog 112 #[.int .u32 (val x), .int .i64 25] w fun e w' => e = .returned (.int .u32 (val (x.rotateRight 25))) ∧ ∃ n, w' = w.drewN n := by
 go_enter Tryd.func112, Tryd.ntmps112
 go_wp2
 go_quiet (fail)
 go_wp2
 go_ret
 exact ⟨ret_u32 (rot_r x 25 128 33554432 (by omega) (by rfl) (by rfl)), _, rfl⟩
def rotBy (n : Int) : Bool := n == 2 || n == 6 || n == 7 || n == 11 || n == 13 || n == 17 || n == 18 || n == 19 || n == 22 || n == 25
theorem rotBy_of {n : Int} (h : rotBy n = true) : n = 2 ∨ n = 6 ∨ n = 7 ∨ n = 11 ∨ n = 13 ∨ n = 17 ∨ n = 18 ∨ n = 19 ∨ n = 22 ∨ n = 25 := by
 simp only [rotBy, Bool.or_eq_true, beq_iff_eq, or_assoc] at h
 exact h
theorem rots_m (x : BitVec 32) (n : Int) (w : World) (h : rotBy n = true) :
  Calls Tryd.prog 116 #[.int .u32 (val x), .int .i64 n] w fun e w' => e = .returned (.int .u32 (val (x.rotateRight n.toNat))) ∧ w' = w := by
 obtain rfl | rfl | rfl | rfl | rfl | rfl | rfl | rfl | rfl | rfl := rotBy_of h
 ·
  exact rots_2 x w
 ·
  exact rots_6 x w
 ·
  exact rots_7 x w
 ·
  exact rots_11 x w
 ·
  exact rots_13 x w
 ·
  exact rots_17 x w
 ·
  exact rots_18 x w
 ·
  exact rots_19 x w
 ·
  exact rots_22 x w
 ·
  exact rots_25 x w
theorem rotr_m (x : BitVec 32) (n : Int) (w : World) (h : rotBy n = true) :
  Calls Tryd.prog 116 #[.int .u32 (val x), .int .i64 n] w fun e w' => e = .returned (.int .u32 (val (x.rotateRight n.toNat))) ∧ w = w' :=
 (rots_m x n w h).mono fun _ _ h => ⟨h.1, h.2.symm⟩
theorem rref_m (x : BitVec 32) (n : Int) (w : World) (h : rotBy n = true) :
  Calls Tryd.prog 112 #[.int .u32 (val x), .int .i64 n] w fun e w' => e = .returned (.int .u32 (val (x.rotateRight n.toNat))) ∧ ∃ n, w' = w.drewN n := by
 obtain rfl | rfl | rfl | rfl | rfl | rfl | rfl | rfl | rfl | rfl := rotBy_of h
 ·
  exact rref_2 x w
 ·
  exact rref_6 x w
 ·
  exact rref_7 x w
 ·
  exact rref_11 x w
 ·
  exact rref_13 x w
 ·
  exact rref_17 x w
 ·
  exact rref_18 x w
 ·
  exact rref_19 x w
 ·
  exact rref_22 x w
 ·
  exact rref_25 x w
end Go.Proofs.YtofccgkgjcnfbaaDoor
namespace Go.Proofs.YtofccgkgjcnfbaaDoor
set_option linter.unusedVariables false
namespace Sh
abbrev W := BitVec 32
structure S8 where
 a : W
 b : W
 c : W
 d : W
 e : W
 f : W
 g : W
 h : W
def S8.list (s : S8) : List W := [s.a, s.b, s.c, s.d, s.e, s.f, s.g, s.h]
def S8.add (s t : S8) : S8 := ⟨s.a + t.a, s.b + t.b, s.c + t.c, s.d + t.d, s.e + t.e, s.f + t.f, s.g + t.g, s.h + t.h⟩
def KL : List W := [1116352408, 1899447441, 3049323471, 3921009573, 961987163, 1508970993, 2453635748, 2870763221, 3624381080, 310598401, 607225278, 1426881987, 1925078388, 2162078206, 2614888103, 3248222580, 3835390401, 4022224774, 264347078, 604807628, 770255983, 1249150122, 1555081692, 1996064986, 2554220882, 2821834349, 2952996808, 3210313671, 3336571891, 3584528711, 113926993, 338241895, 666307205, 773529912, 1294757372, 1396182291, 1695183700, 1986661051, 2177026350, 2456956037, 2730485921, 2820302411, 3259730800, 3345764771, 3516065817, 3600352804, 4094571909, 275423344, 430227734, 506948616, 659060556, 883997877, 958139571, 1322822218, 1537002063, 1747873779, 1955562222, 2024104815, 2227730452, 2361852424, 2428436474, 2756734187, 3204031479, 3329325298]
def K (t : Nat) : W := KL.getD t 0
def init : S8 := ⟨1779033703, 3144134277, 1013904242, 2773480762, 1359893119, 2600822924, 528734635, 1541459225⟩
def s0 (x : W) : W := x.rotateRight 7 ^^^ x.rotateRight 18 ^^^ (x >>> 3)
def s1 (x : W) : W := x.rotateRight 17 ^^^ x.rotateRight 19 ^^^ (x >>> 10)
def byteAt (b : List UInt8) (i : Nat) : W := BitVec.ofNat 32 (b.getD i 0).toNat
def be (b : List UInt8) (t : Nat) : W := byteAt b (4 * t) <<< 24 ||| byteAt b (4 * t + 1) <<< 16 ||| byteAt b (4 * t + 2) <<< 8 ||| byteAt b (4 * t + 3)
def ext (l : List W) (t : Nat) : W := l.getD (t - 16) 0 + s0 (l.getD (t - 15) 0) + l.getD (t - 7) 0 + s1 (l.getD (t - 2) 0)
def wl (b : List UInt8) : Nat → List W
 | 0 => (List.range 16).map (be b)
 | n + 1 => wl b n ++ [ext (wl b n) (16 + n)]
def sched (b : List UInt8) : List W := wl b 48
def xOf (s : S8) (k w : W) : W := s.h + (s.e.rotateRight 6 ^^^ s.e.rotateRight 11 ^^^ s.e.rotateRight 25) + ((s.e &&& s.f) ^^^ (~~~s.e &&& s.g)) + k + w
def yOf (s : S8) : W := (s.a.rotateRight 2 ^^^ s.a.rotateRight 13 ^^^ s.a.rotateRight 22) + ((s.a &&& s.b) ^^^ (s.a &&& s.c) ^^^ (s.b &&& s.c))
def round (s : S8) (k w : W) : S8 := ⟨xOf s k w + yOf s, s.a, s.b, s.c, s.d + xOf s k w, s.e, s.f, s.g⟩
def rnds (s : S8) (ws : List W) : Nat → S8
 | 0 => s
 | t + 1 => round (rnds s ws t) (K t) (ws.getD t 0)
def compress (s : S8) (b : List UInt8) : S8 := s.add (rnds s (sched b) 64)
def blocks (m : List UInt8) : Nat → S8
 | 0 => init
 | n + 1 => compress (blocks m n) ((m.drop (64 * n)).take 64)
def lo8 (x : W) : UInt8 := UInt8.ofNat x.toNat
def bytes4 (x : W) : List UInt8 := [lo8 (x >>> 24), lo8 (x >>> 16), lo8 (x >>> 8), lo8 x]
def S8.bytes (s : S8) : List UInt8 := s.list.flatMap bytes4
def be8 (n : Nat) : List UInt8 := (List.range 8).map fun i => UInt8.ofNat (n >>> (56 - 8 * i))
def noughts (n : Nat) : Nat := (119 - n % 64) % 64
def tail (n : Nat) : List UInt8 := 128 :: (List.replicate (noughts n) 0 ++ be8 (8 * n))
def pad (m : List UInt8) : List UInt8 := m ++ tail m.length
def sha (m : List UInt8) : List UInt8 := (blocks (pad m) ((pad m).length / 64)).bytes
end Sh
end Go.Proofs.YtofccgkgjcnfbaaDoor
namespace Go.Proofs.YtofccgkgjcnfbaaDoor
open Go.RowKit
set_option linter.unusedVariables false
namespace Wr
def B8 (l : List UInt8) : List Value := l.map fun c => .int .u8 (c.toNat : Int)
theorem B8_len (l : List UInt8) : (B8 l).length = l.length := by simp [B8]
theorem B8_one (l : List UInt8) : ∀ u ∈ B8 l, u.oneCell' = true := by
 intro u hu
 obtain ⟨_, _, rfl⟩ := List.mem_map.1 hu
 rfl
theorem B8_get (l : List UInt8) (j : Nat) (h : j < l.length) : (B8 l)[j]? = some (.int .u8 (l[j].toNat : Int)) := by
 simp [B8, h]
theorem B8_append (a b : List UInt8) : B8 (a ++ b) = B8 a ++ B8 b := by simp [B8]
def Blk (w : World) (g : Nat) (t : TypeId) (cs : List Value) : Prop := w.heap[g]? = some (.cells cs.toArray t (0, 0))
section
variable {w w' : World} {g : Nat} {t : TypeId} {cs : List Value}
theorem Blk.lt (h : Blk w g t cs) : g < w.heap.size := by
 rcases Nat.lt_or_ge g w.heap.size with hlt | hge
 ·
  exact hlt
 ·
  unfold Blk at h; rw [Array.getElem?_eq_none hge] at h; cases h
theorem Blk.cell (h : Blk w g t cs) (i : Nat) : w.cell? ⟨g, i, none⟩ = cs[i]? := by
 rw [cell_of_row w g i cs.toArray t (0, 0) h]; simp
theorem Blk.frozen (h : Blk w g t cs) (i : Nat) : w.frozen? ⟨g, i, none⟩ = false := by
 unfold Blk at h
 simp [World.frozen?, h]
theorem Blk.new (w : World) (t : TypeId) (cs : List Value) : Blk (w.alloc (.cells cs.toArray t)) w.heap.size t cs := heap_alloc_new w _
theorem Blk.newAt (w : World) (n : Nat) (t : TypeId) (cs : List Value) (h : w.heap.size = n) : Blk (w.alloc (.cells cs.toArray t)) n t cs := by subst h; exact Blk.new w t cs
theorem Blk.drew (h : Blk w g t cs) : Blk w.drew g t cs := h
theorem Blk.drewN (h : Blk w g t cs) (n : Nat) : Blk (w.drewN n) g t cs := h
theorem Blk.alloc (h : Blk w g t cs) (o : Obj) : Blk (w.alloc o) g t cs := (Below.heap_alloc w o g h.lt).trans h
theorem Blk.put (h : Blk w g t cs) (i : Nat) (u : Value) : Blk (w.setCell ⟨g, i, none⟩ u) g t (cs.set i u) := by
 unfold Blk at h ⊢
 simp [World.setCell, Array.getElem?_modify, h]
theorem Blk.far (h : Blk w g t cs) {p : Addr} (hp : g ≠ p.block) (u : Value) : Blk (w.setCell p u) g t cs := (Below.heap_setCell w p u g hp).trans h
theorem Blk.below {B : Nat} (h : Blk w g t cs) (hb : Below B w w') (hg : g < B) : Blk w' g t cs := (hb.block g hg).trans h
theorem Blk.grown {row : Option Nat} (h : Blk w g t cs) (hb : w.grownBy w' row) (hg : some g ≠ row) : Blk w' g t cs := (hb.block g h.lt hg).trans h
end
def Rd (w : World) (B : Nat) (A : Option Addr) (xs : List Value) : Prop :=
 xs ≠ [] → ∃ g o, A = some ⟨g, o, none⟩ ∧ g < B ∧ ∀ (j : Nat) u, xs[j]? = some u → w.cell? ⟨g, o + j, none⟩ = some u
section
variable {w w' : World} {B B' : Nat} {A : Option Addr} {xs : List Value}
theorem Rd.nil : Rd w B A [] := fun h => absurd rfl h
theorem Rd.keep (h : Rd w B A xs) (hk : ∀ p : Addr, p.block < B → w'.cell? p = w.cell? p) : Rd w' B A xs := fun hn => by
 obtain ⟨g, o, e, hb, hc⟩ := h hn
 exact ⟨g, o, e, hb, fun j u hu => (hk ⟨g, o + j, none⟩ hb).trans (hc j u hu)⟩
theorem Rd.more (h : Rd w B A xs) (hB : B ≤ B') : Rd w B' A xs := fun hn => by
 obtain ⟨g, o, e, hb, hc⟩ := h hn
 exact ⟨g, o, e, Nat.lt_of_lt_of_le hb hB, hc⟩
theorem Rd.below (h : Rd w B A xs) (hb : Below B w w') : Rd w' B A xs := h.keep fun _ hp => hb.cell hp
theorem Rd.cut (h : Rd w B A xs) (k cap : Nat) (hk : k ≤ xs.length) (hc : xs.length ≤ cap) : Rd w B (if cap = k then A else A.map (·.add k)) (xs.drop k) := by
 intro hn
 have hl : k < xs.length := by
  rcases Nat.lt_or_ge k xs.length with h | h
  ·
   exact h
  ·
   exact absurd (List.drop_eq_nil_of_le h) hn
 obtain ⟨g, o, rfl, hb, hcell⟩ := h (by intro e; subst e; simp at hl)
 rw [if_neg (by omega)]
 refine ⟨g, o + k, by simp [Addr.add_lit], hb, fun j u hu => ?_⟩
 rw [Nat.add_assoc]
 exact hcell _ u (by rw [← hu, List.getElem?_drop])
theorem Rd.take (h : Rd w B A xs) (k : Nat) : Rd w B A (xs.take k) := by
 intro hn
 obtain ⟨g, o, rfl, hb, hcell⟩ := h (by rintro rfl; simp at hn)
 refine ⟨g, o, rfl, hb, fun j u hu => hcell j u ?_⟩
 rw [List.getElem?_take] at hu
 split at hu
 ·
  exact hu
 ·
  cases hu
theorem Rd.of_own {base e c n size : Nat} (h : w.ownsRow base e size (.slice A n c) n xs) : Rd w w.heap.size A xs := by
 intro hn
 have hn0 : 0 < n := by
  rcases Nat.eq_zero_or_pos n with h0 | h0
  ·
   subst h0; exact absurd (List.eq_nil_of_length_eq_zero (by simpa using h.1)) hn
  ·
   exact h0
 obtain ⟨g, cap, hv, _, hlt⟩ := h.form hn0
 have hA : A = some ⟨g, 0, none⟩ := by injection hv
 subst hA
 refine ⟨g, 0, rfl, hlt, fun j u hu => ?_⟩
 have := h.cells (g := g) rfl j u hu
 rwa [Addr.add_lit] at this
end
theorem heap_setRow (w : World) (g : Nat) (cs old : Array Value) (t : TypeId) (h : w.heap[g]? = some (.cells old t (0, 0))) : (w.setRow g cs).heap[g]? = some (.cells cs t (0, 0)) := by
 simp [World.setRow, Array.getElem?_modify, h]
theorem heap_setRow_other (w : World) (g k : Nat) (cs : Array Value) (h : k ≠ g) : (w.setRow g cs).heap[k]? = w.heap[k]? := by
 simp [World.setRow, Array.getElem?_modify]
 intro e; exact absurd e.symm h
theorem belowRow {B : Nat} {a w : World} (h : Below B a w) {g : Nat} (hg : B ≤ g) (cs : Array Value) : Below B a (w.setRow g cs) :=
 h.trans ⟨rfl, rfl, rfl, by simp, fun k hk => heap_setRow_other _ _ _ _ (by omega)⟩
theorem Blk.setRow {w : World} {g g' : Nat} {t : TypeId} {cs : List Value} (h : Blk w g t cs) (hg : g ≠ g') (c : Array Value) : Blk (w.setRow g' c) g t cs := (heap_setRow_other w g' g c hg).trans h
theorem Blk.row {w : World} {g : Nat} {t : TypeId} {cs : List Value} (h : Blk w g t cs) (c : List Value) : Blk (w.setRow g c.toArray) g t c := heap_setRow w g c.toArray _ t h
section
variable {P : Program}
theorem run_loadVar_at (w : World) (ad : Addr) (ty : TypeId) (cs : List Value) (d : TypeDesc) (hc : ∀ j v, cs[j]? = some v → w.cell? (ad.add j) = some v)
  (hu : P.underlying ty = some d) (hd : (match d with | .struct _ | .array _ _ => true | _ => false) = true) (hi : (P.info? ty).map (·.size) = some cs.length) :
  (loadVar ty ad).run P w = .ok (.agg cs.toArray) w := by
 have hl := run_loadCells_list (P := P) w ad cs hc
 cases hq : P.info? ty with
 | none => simp [hq] at hi
 | some i =>
  have hs : i.size = cs.length := by simpa [hq] using hi
  have hagg : (isAgg ty).run P w = .ok true w := by
   unfold isAgg
   rw [Sem.run_bind, run_underlying hu w]
   cases d <;> simp_all
  simp [loadVar, Sem.run_bind, hagg, sizeOf, typeInfo, hq, hs, hl]
theorem wp_load_at {o : Oper} {a : Act} {w : World} {K : Act → World → Prop} {Q : Exit → Act → World → Prop} (ty : TypeId) (x : Operand) (ho : o.op = .load ty x)
  (ad : Addr) (hx : a.eval x = .pointer (some ad)) (cs : List Value) (d : TypeDesc) (hc : ∀ j v, cs[j]? = some v → w.cell? (ad.add j) = some v)
  (hu : P.underlying ty = some d) (hd : (match d with | .struct _ | .array _ _ => true | _ => false) = true) (hi : (P.info? ty).map (·.size) = some cs.length)
  (h : K (a.put o.dst (.agg cs.toArray)) w) : o.wp P a w K Q := by
 unfold Oper.wp execOp
 simp only [ho, hx, Instr.loadAt, Instr.sureAddr, Sem.run_bind, Sem.run_pure, Result.andThen_ok, run_loadVar_at w ad ty cs d hc hu hd hi]
 exact h
theorem wpList_load_at {ops : Array Oper} {rest : List Oper} {o : Oper} {a : Act} {w : World} {Q : Exit → Act → World → Prop} (hgd : o.guard = none) (ty : TypeId) (x : Operand) (ho : o.op = .load ty x)
  (ad : Addr) (hx : a.eval x = .pointer (some ad)) (cs : List Value) (d : TypeDesc) (hc : ∀ j v, cs[j]? = some v → w.cell? (ad.add j) = some v)
  (hu : P.underlying ty = some d) (hd : (match d with | .struct _ | .array _ _ => true | _ => false) = true) (hi : (P.info? ty).map (·.size) = some cs.length)
  (h : wpList P ops Q rest (a.put o.dst (.agg cs.toArray)) w) : wpList P ops Q (o :: rest) a w :=
 wpList_plain hgd fun _ hK => wp_load_at ty x ho ad hx cs d hc hu hd hi (hK _ _ h)
end
theorem own_below {w w' : World} {base e size n : Nat} {v : Value} {xs : List Value} (h : w.ownsRow base e size v n xs) (hb : Below w.heap.size w w') : w'.ownsRow base e size v n xs :=
 h.kept (row := none) ⟨hb.os, hb.tape, hb.output, hb.size, fun i hi _ => hb.block i hi⟩ (by cases hv : v.ownBlock <;> simp)
theorem below_drewN {B : Nat} {a w : World} (h : Below B a w) (n : Nat) : Below B a (w.drewN n) := ⟨h.os, h.tape, h.output, h.size, h.block⟩
theorem Blk.at {w : World} {g : Nat} {t : TypeId} {cs : List Value} (h : Blk w g t cs) : ∀ j v, cs[j]? = some v → w.cell? ((⟨g, 0, none⟩ : Addr).add j) = some v := by
 intro j v hv
 rw [Addr.add_lit, Nat.zero_add, h.cell, hv]
end Wr
end Go.Proofs.YtofccgkgjcnfbaaDoor
