/-
  The contracts of the rotations.
  Condition: by as many bits as SHA-256 asks for.
-/
import Derived.Test.YtofccgkgjcnfbaaDoorProg
import Derived.Test.YtofccgkgjcnfbaaDoorBits
import Derived.Deep.QuietTactic
import Derived.BigQuiet
namespace Go.Proofs.YtofccgkgjcnfbaaDoor
open Go.RowKit Sh
set_option linter.unusedVariables false
theorem quiet_add {P : Program} {f : FuncId} {args : Array Value} {w : World} {a n : Nat} {v : Value}
    (h : Calls P f args (w.drewN (a + n)) fun e w' => e = .returned v ∧ ∃ m, w' = (w.drewN (a + n)).drewN m) :
    Calls P f args (w.drewN (a + n)) fun e w'' => e = .returned v ∧ ∃ m, w'' = w.drewN (a + m) :=
  h.mono fun _ _ ⟨he, m, hm⟩ => ⟨he, n + m, by rw [hm, World.drewN_drewN, Nat.add_assoc]⟩
theorem quiet_add_same {P : Program} {f : FuncId} {args : Array Value} {w : World} {a n : Nat} {v : Value}
    (h : Calls P f args (w.drewN (a + n)) fun e w' => e = .returned v ∧ w' = w.drewN (a + n)) :
    Calls P f args (w.drewN (a + n)) fun e w'' => e = .returned v ∧ ∃ m, w'' = w.drewN (a + m) :=
  h.mono fun _ _ ⟨he, hm⟩ => ⟨he, n, hm⟩
theorem ret_u32 {a b : Int} (h : a = b) : Ending.returned (.int .u32 a) = .returned (.int .u32 b) := by rw [h]

set_option maxHeartbeats 400000 in
theorem rotl_2 (x : BitVec 32) (w : World) :
    Calls Tryd.prog 119 #[.int .u32 (val x), .int .i64 (-2)] w fun e w' => e = .returned (.int .u32 (val (x.rotateRight 2))) ∧ w = w' := by
  have hb : bits .and .u64 (IntKind.u64.wrap (-2)) 31 = 30 := by kernel_rfl
  go_enter Tryd.func119, Tryd.ntmps119
  go_wp2
  go_ret
  exact ⟨ret_u32 (rot_l x 2 1073741824 4 (by omega) (by rfl) (by rfl)), rfl⟩
set_option maxHeartbeats 400000 in
theorem rotr_2 (x : BitVec 32) (w : World) :
    Calls Tryd.prog 116 #[.int .u32 (val x), .int .i64 2] w fun e w' => e = .returned (.int .u32 (val (x.rotateRight 2))) ∧ w = w' := by
  go_enter Tryd.func116, Tryd.ntmps116
  go_wp2_with (go_at_call 119; refine (rotl_2 _ _).mono ?_; rintro e w' ⟨rfl, rfl⟩)
  go_ret
  exact ⟨rfl, rfl⟩
theorem rots_2 (x : BitVec 32) (w : World) :
    Calls Tryd.prog 116 #[.int .u32 (val x), .int .i64 2] w fun e w' => e = .returned (.int .u32 (val (x.rotateRight 2))) ∧ w' = w := (rotr_2 x w).mono fun _ _ h => ⟨h.1, h.2.symm⟩
set_option maxHeartbeats 400000 in
theorem rref_2 (x : BitVec 32) (w : World) :
    Calls Tryd.prog 112 #[.int .u32 (val x), .int .i64 2] w fun e w' => e = .returned (.int .u32 (val (x.rotateRight 2))) ∧ ∃ n, w' = w.drewN n := by
  go_enter Tryd.func112, Tryd.ntmps112
  go_wp2
  go_quiet (fail)
  go_wp2
  go_ret
  exact ⟨ret_u32 (rot_r x 2 1073741824 4 (by omega) (by rfl) (by rfl)), _, rfl⟩

set_option maxHeartbeats 400000 in
theorem rotl_6 (x : BitVec 32) (w : World) :
    Calls Tryd.prog 119 #[.int .u32 (val x), .int .i64 (-6)] w fun e w' => e = .returned (.int .u32 (val (x.rotateRight 6))) ∧ w = w' := by
  have hb : bits .and .u64 (IntKind.u64.wrap (-6)) 31 = 26 := by kernel_rfl
  go_enter Tryd.func119, Tryd.ntmps119
  go_wp2
  go_ret
  exact ⟨ret_u32 (rot_l x 6 67108864 64 (by omega) (by rfl) (by rfl)), rfl⟩
set_option maxHeartbeats 400000 in
theorem rotr_6 (x : BitVec 32) (w : World) :
    Calls Tryd.prog 116 #[.int .u32 (val x), .int .i64 6] w fun e w' => e = .returned (.int .u32 (val (x.rotateRight 6))) ∧ w = w' := by
  go_enter Tryd.func116, Tryd.ntmps116
  go_wp2_with (go_at_call 119; refine (rotl_6 _ _).mono ?_; rintro e w' ⟨rfl, rfl⟩)
  go_ret
  exact ⟨rfl, rfl⟩
theorem rots_6 (x : BitVec 32) (w : World) :
    Calls Tryd.prog 116 #[.int .u32 (val x), .int .i64 6] w fun e w' => e = .returned (.int .u32 (val (x.rotateRight 6))) ∧ w' = w := (rotr_6 x w).mono fun _ _ h => ⟨h.1, h.2.symm⟩
set_option maxHeartbeats 400000 in
theorem rref_6 (x : BitVec 32) (w : World) :
    Calls Tryd.prog 112 #[.int .u32 (val x), .int .i64 6] w fun e w' => e = .returned (.int .u32 (val (x.rotateRight 6))) ∧ ∃ n, w' = w.drewN n := by
  go_enter Tryd.func112, Tryd.ntmps112
  go_wp2
  go_quiet (fail)
  go_wp2
  go_ret
  exact ⟨ret_u32 (rot_r x 6 67108864 64 (by omega) (by rfl) (by rfl)), _, rfl⟩

set_option maxHeartbeats 400000 in
theorem rotl_7 (x : BitVec 32) (w : World) :
    Calls Tryd.prog 119 #[.int .u32 (val x), .int .i64 (-7)] w fun e w' => e = .returned (.int .u32 (val (x.rotateRight 7))) ∧ w = w' := by
  have hb : bits .and .u64 (IntKind.u64.wrap (-7)) 31 = 25 := by kernel_rfl
  go_enter Tryd.func119, Tryd.ntmps119
  go_wp2
  go_ret
  exact ⟨ret_u32 (rot_l x 7 33554432 128 (by omega) (by rfl) (by rfl)), rfl⟩
set_option maxHeartbeats 400000 in
theorem rotr_7 (x : BitVec 32) (w : World) :
    Calls Tryd.prog 116 #[.int .u32 (val x), .int .i64 7] w fun e w' => e = .returned (.int .u32 (val (x.rotateRight 7))) ∧ w = w' := by
  go_enter Tryd.func116, Tryd.ntmps116
  go_wp2_with (go_at_call 119; refine (rotl_7 _ _).mono ?_; rintro e w' ⟨rfl, rfl⟩)
  go_ret
  exact ⟨rfl, rfl⟩
theorem rots_7 (x : BitVec 32) (w : World) :
    Calls Tryd.prog 116 #[.int .u32 (val x), .int .i64 7] w fun e w' => e = .returned (.int .u32 (val (x.rotateRight 7))) ∧ w' = w := (rotr_7 x w).mono fun _ _ h => ⟨h.1, h.2.symm⟩
set_option maxHeartbeats 400000 in
theorem rref_7 (x : BitVec 32) (w : World) :
    Calls Tryd.prog 112 #[.int .u32 (val x), .int .i64 7] w fun e w' => e = .returned (.int .u32 (val (x.rotateRight 7))) ∧ ∃ n, w' = w.drewN n := by
  go_enter Tryd.func112, Tryd.ntmps112
  go_wp2
  go_quiet (fail)
  go_wp2
  go_ret
  exact ⟨ret_u32 (rot_r x 7 33554432 128 (by omega) (by rfl) (by rfl)), _, rfl⟩

set_option maxHeartbeats 400000 in
theorem rotl_11 (x : BitVec 32) (w : World) :
    Calls Tryd.prog 119 #[.int .u32 (val x), .int .i64 (-11)] w fun e w' => e = .returned (.int .u32 (val (x.rotateRight 11))) ∧ w = w' := by
  have hb : bits .and .u64 (IntKind.u64.wrap (-11)) 31 = 21 := by kernel_rfl
  go_enter Tryd.func119, Tryd.ntmps119
  go_wp2
  go_ret
  exact ⟨ret_u32 (rot_l x 11 2097152 2048 (by omega) (by rfl) (by rfl)), rfl⟩
set_option maxHeartbeats 400000 in
theorem rotr_11 (x : BitVec 32) (w : World) :
    Calls Tryd.prog 116 #[.int .u32 (val x), .int .i64 11] w fun e w' => e = .returned (.int .u32 (val (x.rotateRight 11))) ∧ w = w' := by
  go_enter Tryd.func116, Tryd.ntmps116
  go_wp2_with (go_at_call 119; refine (rotl_11 _ _).mono ?_; rintro e w' ⟨rfl, rfl⟩)
  go_ret
  exact ⟨rfl, rfl⟩
theorem rots_11 (x : BitVec 32) (w : World) :
    Calls Tryd.prog 116 #[.int .u32 (val x), .int .i64 11] w fun e w' => e = .returned (.int .u32 (val (x.rotateRight 11))) ∧ w' = w := (rotr_11 x w).mono fun _ _ h => ⟨h.1, h.2.symm⟩
set_option maxHeartbeats 400000 in
theorem rref_11 (x : BitVec 32) (w : World) :
    Calls Tryd.prog 112 #[.int .u32 (val x), .int .i64 11] w fun e w' => e = .returned (.int .u32 (val (x.rotateRight 11))) ∧ ∃ n, w' = w.drewN n := by
  go_enter Tryd.func112, Tryd.ntmps112
  go_wp2
  go_quiet (fail)
  go_wp2
  go_ret
  exact ⟨ret_u32 (rot_r x 11 2097152 2048 (by omega) (by rfl) (by rfl)), _, rfl⟩

set_option maxHeartbeats 400000 in
theorem rotl_13 (x : BitVec 32) (w : World) :
    Calls Tryd.prog 119 #[.int .u32 (val x), .int .i64 (-13)] w fun e w' => e = .returned (.int .u32 (val (x.rotateRight 13))) ∧ w = w' := by
  have hb : bits .and .u64 (IntKind.u64.wrap (-13)) 31 = 19 := by kernel_rfl
  go_enter Tryd.func119, Tryd.ntmps119
  go_wp2
  go_ret
  exact ⟨ret_u32 (rot_l x 13 524288 8192 (by omega) (by rfl) (by rfl)), rfl⟩
set_option maxHeartbeats 400000 in
theorem rotr_13 (x : BitVec 32) (w : World) :
    Calls Tryd.prog 116 #[.int .u32 (val x), .int .i64 13] w fun e w' => e = .returned (.int .u32 (val (x.rotateRight 13))) ∧ w = w' := by
  go_enter Tryd.func116, Tryd.ntmps116
  go_wp2_with (go_at_call 119; refine (rotl_13 _ _).mono ?_; rintro e w' ⟨rfl, rfl⟩)
  go_ret
  exact ⟨rfl, rfl⟩
theorem rots_13 (x : BitVec 32) (w : World) :
    Calls Tryd.prog 116 #[.int .u32 (val x), .int .i64 13] w fun e w' => e = .returned (.int .u32 (val (x.rotateRight 13))) ∧ w' = w := (rotr_13 x w).mono fun _ _ h => ⟨h.1, h.2.symm⟩
set_option maxHeartbeats 400000 in
theorem rref_13 (x : BitVec 32) (w : World) :
    Calls Tryd.prog 112 #[.int .u32 (val x), .int .i64 13] w fun e w' => e = .returned (.int .u32 (val (x.rotateRight 13))) ∧ ∃ n, w' = w.drewN n := by
  go_enter Tryd.func112, Tryd.ntmps112
  go_wp2
  go_quiet (fail)
  go_wp2
  go_ret
  exact ⟨ret_u32 (rot_r x 13 524288 8192 (by omega) (by rfl) (by rfl)), _, rfl⟩

set_option maxHeartbeats 400000 in
theorem rotl_17 (x : BitVec 32) (w : World) :
    Calls Tryd.prog 119 #[.int .u32 (val x), .int .i64 (-17)] w fun e w' => e = .returned (.int .u32 (val (x.rotateRight 17))) ∧ w = w' := by
  have hb : bits .and .u64 (IntKind.u64.wrap (-17)) 31 = 15 := by kernel_rfl
  go_enter Tryd.func119, Tryd.ntmps119
  go_wp2
  go_ret
  exact ⟨ret_u32 (rot_l x 17 32768 131072 (by omega) (by rfl) (by rfl)), rfl⟩
set_option maxHeartbeats 400000 in
theorem rotr_17 (x : BitVec 32) (w : World) :
    Calls Tryd.prog 116 #[.int .u32 (val x), .int .i64 17] w fun e w' => e = .returned (.int .u32 (val (x.rotateRight 17))) ∧ w = w' := by
  go_enter Tryd.func116, Tryd.ntmps116
  go_wp2_with (go_at_call 119; refine (rotl_17 _ _).mono ?_; rintro e w' ⟨rfl, rfl⟩)
  go_ret
  exact ⟨rfl, rfl⟩
theorem rots_17 (x : BitVec 32) (w : World) :
    Calls Tryd.prog 116 #[.int .u32 (val x), .int .i64 17] w fun e w' => e = .returned (.int .u32 (val (x.rotateRight 17))) ∧ w' = w := (rotr_17 x w).mono fun _ _ h => ⟨h.1, h.2.symm⟩
set_option maxHeartbeats 400000 in
theorem rref_17 (x : BitVec 32) (w : World) :
    Calls Tryd.prog 112 #[.int .u32 (val x), .int .i64 17] w fun e w' => e = .returned (.int .u32 (val (x.rotateRight 17))) ∧ ∃ n, w' = w.drewN n := by
  go_enter Tryd.func112, Tryd.ntmps112
  go_wp2
  go_quiet (fail)
  go_wp2
  go_ret
  exact ⟨ret_u32 (rot_r x 17 32768 131072 (by omega) (by rfl) (by rfl)), _, rfl⟩

set_option maxHeartbeats 400000 in
theorem rotl_18 (x : BitVec 32) (w : World) :
    Calls Tryd.prog 119 #[.int .u32 (val x), .int .i64 (-18)] w fun e w' => e = .returned (.int .u32 (val (x.rotateRight 18))) ∧ w = w' := by
  have hb : bits .and .u64 (IntKind.u64.wrap (-18)) 31 = 14 := by kernel_rfl
  go_enter Tryd.func119, Tryd.ntmps119
  go_wp2
  go_ret
  exact ⟨ret_u32 (rot_l x 18 16384 262144 (by omega) (by rfl) (by rfl)), rfl⟩
set_option maxHeartbeats 400000 in
theorem rotr_18 (x : BitVec 32) (w : World) :
    Calls Tryd.prog 116 #[.int .u32 (val x), .int .i64 18] w fun e w' => e = .returned (.int .u32 (val (x.rotateRight 18))) ∧ w = w' := by
  go_enter Tryd.func116, Tryd.ntmps116
  go_wp2_with (go_at_call 119; refine (rotl_18 _ _).mono ?_; rintro e w' ⟨rfl, rfl⟩)
  go_ret
  exact ⟨rfl, rfl⟩
theorem rots_18 (x : BitVec 32) (w : World) :
    Calls Tryd.prog 116 #[.int .u32 (val x), .int .i64 18] w fun e w' => e = .returned (.int .u32 (val (x.rotateRight 18))) ∧ w' = w := (rotr_18 x w).mono fun _ _ h => ⟨h.1, h.2.symm⟩
set_option maxHeartbeats 400000 in
theorem rref_18 (x : BitVec 32) (w : World) :
    Calls Tryd.prog 112 #[.int .u32 (val x), .int .i64 18] w fun e w' => e = .returned (.int .u32 (val (x.rotateRight 18))) ∧ ∃ n, w' = w.drewN n := by
  go_enter Tryd.func112, Tryd.ntmps112
  go_wp2
  go_quiet (fail)
  go_wp2
  go_ret
  exact ⟨ret_u32 (rot_r x 18 16384 262144 (by omega) (by rfl) (by rfl)), _, rfl⟩

set_option maxHeartbeats 400000 in
theorem rotl_19 (x : BitVec 32) (w : World) :
    Calls Tryd.prog 119 #[.int .u32 (val x), .int .i64 (-19)] w fun e w' => e = .returned (.int .u32 (val (x.rotateRight 19))) ∧ w = w' := by
  have hb : bits .and .u64 (IntKind.u64.wrap (-19)) 31 = 13 := by kernel_rfl
  go_enter Tryd.func119, Tryd.ntmps119
  go_wp2
  go_ret
  exact ⟨ret_u32 (rot_l x 19 8192 524288 (by omega) (by rfl) (by rfl)), rfl⟩
set_option maxHeartbeats 400000 in
theorem rotr_19 (x : BitVec 32) (w : World) :
    Calls Tryd.prog 116 #[.int .u32 (val x), .int .i64 19] w fun e w' => e = .returned (.int .u32 (val (x.rotateRight 19))) ∧ w = w' := by
  go_enter Tryd.func116, Tryd.ntmps116
  go_wp2_with (go_at_call 119; refine (rotl_19 _ _).mono ?_; rintro e w' ⟨rfl, rfl⟩)
  go_ret
  exact ⟨rfl, rfl⟩
theorem rots_19 (x : BitVec 32) (w : World) :
    Calls Tryd.prog 116 #[.int .u32 (val x), .int .i64 19] w fun e w' => e = .returned (.int .u32 (val (x.rotateRight 19))) ∧ w' = w := (rotr_19 x w).mono fun _ _ h => ⟨h.1, h.2.symm⟩
set_option maxHeartbeats 400000 in
theorem rref_19 (x : BitVec 32) (w : World) :
    Calls Tryd.prog 112 #[.int .u32 (val x), .int .i64 19] w fun e w' => e = .returned (.int .u32 (val (x.rotateRight 19))) ∧ ∃ n, w' = w.drewN n := by
  go_enter Tryd.func112, Tryd.ntmps112
  go_wp2
  go_quiet (fail)
  go_wp2
  go_ret
  exact ⟨ret_u32 (rot_r x 19 8192 524288 (by omega) (by rfl) (by rfl)), _, rfl⟩

set_option maxHeartbeats 400000 in
theorem rotl_22 (x : BitVec 32) (w : World) :
    Calls Tryd.prog 119 #[.int .u32 (val x), .int .i64 (-22)] w fun e w' => e = .returned (.int .u32 (val (x.rotateRight 22))) ∧ w = w' := by
  have hb : bits .and .u64 (IntKind.u64.wrap (-22)) 31 = 10 := by kernel_rfl
  go_enter Tryd.func119, Tryd.ntmps119
  go_wp2
  go_ret
  exact ⟨ret_u32 (rot_l x 22 1024 4194304 (by omega) (by rfl) (by rfl)), rfl⟩
set_option maxHeartbeats 400000 in
theorem rotr_22 (x : BitVec 32) (w : World) :
    Calls Tryd.prog 116 #[.int .u32 (val x), .int .i64 22] w fun e w' => e = .returned (.int .u32 (val (x.rotateRight 22))) ∧ w = w' := by
  go_enter Tryd.func116, Tryd.ntmps116
  go_wp2_with (go_at_call 119; refine (rotl_22 _ _).mono ?_; rintro e w' ⟨rfl, rfl⟩)
  go_ret
  exact ⟨rfl, rfl⟩
theorem rots_22 (x : BitVec 32) (w : World) :
    Calls Tryd.prog 116 #[.int .u32 (val x), .int .i64 22] w fun e w' => e = .returned (.int .u32 (val (x.rotateRight 22))) ∧ w' = w := (rotr_22 x w).mono fun _ _ h => ⟨h.1, h.2.symm⟩
set_option maxHeartbeats 400000 in
theorem rref_22 (x : BitVec 32) (w : World) :
    Calls Tryd.prog 112 #[.int .u32 (val x), .int .i64 22] w fun e w' => e = .returned (.int .u32 (val (x.rotateRight 22))) ∧ ∃ n, w' = w.drewN n := by
  go_enter Tryd.func112, Tryd.ntmps112
  go_wp2
  go_quiet (fail)
  go_wp2
  go_ret
  exact ⟨ret_u32 (rot_r x 22 1024 4194304 (by omega) (by rfl) (by rfl)), _, rfl⟩

set_option maxHeartbeats 400000 in
theorem rotl_25 (x : BitVec 32) (w : World) :
    Calls Tryd.prog 119 #[.int .u32 (val x), .int .i64 (-25)] w fun e w' => e = .returned (.int .u32 (val (x.rotateRight 25))) ∧ w = w' := by
  have hb : bits .and .u64 (IntKind.u64.wrap (-25)) 31 = 7 := by kernel_rfl
  go_enter Tryd.func119, Tryd.ntmps119
  go_wp2
  go_ret
  exact ⟨ret_u32 (rot_l x 25 128 33554432 (by omega) (by rfl) (by rfl)), rfl⟩
set_option maxHeartbeats 400000 in
theorem rotr_25 (x : BitVec 32) (w : World) :
    Calls Tryd.prog 116 #[.int .u32 (val x), .int .i64 25] w fun e w' => e = .returned (.int .u32 (val (x.rotateRight 25))) ∧ w = w' := by
  go_enter Tryd.func116, Tryd.ntmps116
  go_wp2_with (go_at_call 119; refine (rotl_25 _ _).mono ?_; rintro e w' ⟨rfl, rfl⟩)
  go_ret
  exact ⟨rfl, rfl⟩
theorem rots_25 (x : BitVec 32) (w : World) :
    Calls Tryd.prog 116 #[.int .u32 (val x), .int .i64 25] w fun e w' => e = .returned (.int .u32 (val (x.rotateRight 25))) ∧ w' = w := (rotr_25 x w).mono fun _ _ h => ⟨h.1, h.2.symm⟩
set_option maxHeartbeats 400000 in
theorem rref_25 (x : BitVec 32) (w : World) :
    Calls Tryd.prog 112 #[.int .u32 (val x), .int .i64 25] w fun e w' => e = .returned (.int .u32 (val (x.rotateRight 25))) ∧ ∃ n, w' = w.drewN n := by
  go_enter Tryd.func112, Tryd.ntmps112
  go_wp2
  go_quiet (fail)
  go_wp2
  go_ret
  exact ⟨ret_u32 (rot_r x 25 128 33554432 (by omega) (by rfl) (by rfl)), _, rfl⟩
/-- As many bits as SHA-256 rotates by. -/
def rotBy (n : Int) : Bool := n == 2 || n == 6 || n == 7 || n == 11 || n == 13 || n == 17 || n == 18 || n == 19 || n == 22 || n == 25
theorem rotBy_of {n : Int} (h : rotBy n = true) : n = 2 ∨ n = 6 ∨ n = 7 ∨ n = 11 ∨ n = 13 ∨ n = 17 ∨ n = 18 ∨ n = 19 ∨ n = 22 ∨ n = 25 := by
  simp only [rotBy, Bool.or_eq_true, beq_iff_eq, or_assoc] at h
  exact h
theorem rots_m (x : BitVec 32) (n : Int) (w : World) (h : rotBy n = true) :
    Calls Tryd.prog 116 #[.int .u32 (val x), .int .i64 n] w fun e w' => e = .returned (.int .u32 (val (x.rotateRight n.toNat))) ∧ w' = w := by
  obtain rfl | rfl | rfl | rfl | rfl | rfl | rfl | rfl | rfl | rfl := rotBy_of h
  · exact rots_2 x w
  · exact rots_6 x w
  · exact rots_7 x w
  · exact rots_11 x w
  · exact rots_13 x w
  · exact rots_17 x w
  · exact rots_18 x w
  · exact rots_19 x w
  · exact rots_22 x w
  · exact rots_25 x w
theorem rotr_m (x : BitVec 32) (n : Int) (w : World) (h : rotBy n = true) :
    Calls Tryd.prog 116 #[.int .u32 (val x), .int .i64 n] w fun e w' => e = .returned (.int .u32 (val (x.rotateRight n.toNat))) ∧ w = w' :=
  (rots_m x n w h).mono fun _ _ h => ⟨h.1, h.2.symm⟩
theorem rref_m (x : BitVec 32) (n : Int) (w : World) (h : rotBy n = true) :
    Calls Tryd.prog 112 #[.int .u32 (val x), .int .i64 n] w fun e w' => e = .returned (.int .u32 (val (x.rotateRight n.toNat))) ∧ ∃ n, w' = w.drewN n := by
  obtain rfl | rfl | rfl | rfl | rfl | rfl | rfl | rfl | rfl | rfl := rotBy_of h
  · exact rref_2 x w
  · exact rref_6 x w
  · exact rref_7 x w
  · exact rref_11 x w
  · exact rref_13 x w
  · exact rref_17 x w
  · exact rref_18 x w
  · exact rref_19 x w
  · exact rref_22 x w
  · exact rref_25 x w
end Go.Proofs.YtofccgkgjcnfbaaDoor
