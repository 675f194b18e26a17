/-
  The contracts of sign's isSeed and isHeight, and of the law's seed.
  No condition but the length of a machine's string.
-/
import Derived.Test.YtgonidjajmjniaaDoorLeaf
import Derived.Laws.MakeOwn
namespace Go.Proofs.YtgonidjajmjniaaDoor
open Go.RowKit Wr Sh
set_option linter.unusedVariables false
set_option maxRecDepth 100000

theorem isSeed_any (s : ByteArray) (w : World) : Calls Tryd.prog 22 #[.string s] w fun e w' => e = .returned (.bool (s.size == 32)) ∧ w = w' := by
  have h : ((s.size : Int) == 32) = (s.size == 32) := by rw [Bool.eq_iff_iff]; simp only [beq_iff_eq]; omega
  go_enter Tryd.func22, Tryd.ntmps22
  go_wp2_with fail
  go_ret
  exact ⟨by rw [← h]; rfl, rfl⟩
theorem isHeight_any (n : Int) (w : World) : Calls Tryd.prog 23 #[.int .i64 n] w fun e w' => e = .returned (.bool (decide (0 ≤ n ∧ n ≤ 6))) ∧ w = w' := by
  by_cases h0 : 0 ≤ n
  · by_cases h6 : n ≤ 6
    · rw [show decide (0 ≤ n ∧ n ≤ 6) = true by simp [h0, h6]]
      go_enter Tryd.func23, Tryd.ntmps23
      go_wp2_with fail
      go_ret
      exact ⟨rfl, rfl⟩
    · rw [show decide (0 ≤ n ∧ n ≤ 6) = false by simp [h6]]
      have h6' : decide (n ≤ 6) = false := by simp; omega
      go_enter Tryd.func23, Tryd.ntmps23
      go_wp2_with fail
      go_ret
      exact ⟨rfl, rfl⟩
  · rw [show decide (0 ≤ n ∧ n ≤ 6) = false by simp [h0]]
    have h0' : decide (0 ≤ n) = false := by simp; omega
    go_enter Tryd.func23, Tryd.ntmps23
    go_wp2_with fail
    go_ret
    exact ⟨rfl, rfl⟩
/-- The first bytes laid. -/
def sfill (c : UInt8) (j : Nat) : List UInt8 := List.replicate j c ++ List.replicate (32 - j) 0
theorem sfill_at (c : UInt8) (j : Nat) (h : j < 32) : (B8 (sfill c j))[j]? = some (.int .u8 0) := by
  unfold B8 sfill
  rw [List.getElem?_map, List.getElem?_append_right (by simp)]
  simp [List.getElem?_replicate]
  omega
theorem sfill_set (c : UInt8) (j : Nat) (h : j < 32) : (B8 (sfill c j)).set j (.int .u8 (c.toNat : Int)) = B8 (sfill c (j + 1)) := by
  unfold B8 sfill
  have e : 32 - j = (32 - (j + 1)) + 1 := by omega
  rw [List.replicate_succ' (n := j), e, List.replicate_succ, List.map_append, List.set_append_right _ _ (by simp)]
  simp
theorem sfill_end (c : UInt8) : sfill c 32 = List.replicate 32 c := by simp [sfill]

theorem mk32 (c : UInt8) (W : World) : (Instr.makeSlice 54 (.int .i64 32) (.int .i64 32)).run Tryd.prog W = .ok (.slice (some ⟨W.heap.size, 0, none⟩) 32 32) (W.alloc (.cells (B8 (sfill c 0)).toArray 5)) := by
  obtain ⟨i0, hi0, hz0, hz1, hz2⟩ := info_parts Tryd.info5
  have h := run_makeSlice (w := W) (P := Tryd.prog) 54 5 i0 (.int .u8 0) Tryd.underlying54 hi0 hz0 .i64 .i64 32 32 (by decide) (by decide) (by rw [hz1]; decide) (by rw [hz2]; decide) (by decide)
  have e : madeCells (Value.int .u8 0).cells (Int.toNat 32 * 1) = (B8 (List.replicate 32 0)).toArray := by kernel_rfl
  have e2 : sfill c 0 = List.replicate 32 0 := by simp [sfill]
  rw [hz1, e] at h
  rw [e2]
  exact h

set_option maxHeartbeats 1000000 in
theorem seed_any (c : UInt8) (w : World) : Calls Tryd.prog 20 #[.int .u8 (c.toNat : Int)] w fun e w' => e = .returned (.string ⟨(List.replicate 32 c).toArray⟩) ∧ Below w.heap.size w w' := by
  obtain ⟨s, hs⟩ : ∃ s : ByteArray, s = ⟨(List.replicate 32 c).toArray⟩ := ⟨_, rfl⟩
  rw [← hs]
  have HS := Lib.hid hs
  clear hs
  have hmk := mk32 c w
  go_enter Tryd.func20, Tryd.ntmps20
  go_wp2_with fail
  go_loopw [4] (fun s4 wr => ∃ j : Nat, j ≤ 32 ∧ s4 = .int .i64 j ∧ Hid (Blk wr w.heap.size 5 (B8 (sfill c j))) ∧ Hid (Below w.heap.size w wr))
    (fun s4 _ => 32 - (intOf s4).toNat)
  case atStart =>
    refine ⟨0, by omega, rfl, Lib.hid ?_, Lib.hid ?_⟩
    · exact Blk.new w 5 (B8 (sfill c 0))
    · exact (Below.refl _ _).alloc (Nat.le_refl _) _
  case round =>
    obtain ⟨j, hj, rfl, k, hbel⟩ := hrel
    by_cases hlt : j < 32
    · have c2 : wr.cell? ⟨w.heap.size, j, none⟩ = some (.int .u8 0) := by rw [k.out.cell]; exact sfill_at c j hlt
      have f2 : wr.frozen? ⟨w.heap.size, j, none⟩ = false := k.out.frozen j
      go_wp2_with fail
      go_roundw
      case rel =>
        refine ⟨j + 1, by omega, by go_num, Lib.hid ?_, Lib.hid (hbel.out.setCell (Nat.le_refl _) _)⟩
        have := k.out.put j (.int .u8 (c.toNat : Int))
        rw [sfill_set c j hlt] at this
        exact this
      case measure => simp only [intOf]; omega
    · obtain rfl : j = 32 := by omega
      have hcv := conv_at w.heap.size 0 32 (sfill c 32) wr (fun j u hu => by rw [Nat.zero_add, k.out.cell]; exact hu)
      rw [sfill_end] at hcv
      simp only [List.length_replicate] at hcv
      rw [← HS.out] at hcv
      go_wp2_with fail
      go_ret
      exact ⟨rfl, hbel.out⟩
end Go.Proofs.YtgonidjajmjniaaDoor
