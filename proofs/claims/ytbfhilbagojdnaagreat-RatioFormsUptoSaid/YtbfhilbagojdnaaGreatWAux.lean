/-
  Small facts for the readers of lists.
  No condition.
-/
import Derived.Test.YtbfhilbagojdnaaGreatWRLists
import Derived.Test.YtbfhilbagojdnaaGreatWGets
namespace Go.Proofs.YtbfhilbagojdnaaGreat.W1
open Go.RowKit Go.Proofs.YtbfhilbagojdnaaGreat.Wr Go.Proofs.YtbfhilbagojdnaaGreat.W1.Wr
set_option maxRecDepth 100000
set_option linter.unusedVariables false

theorem encInts_le (l : List Int) : (encInts l).length ≤ 9 + 9 * l.length ∧ 1 ≤ (encInts l).length := by
  have h := partE_len enc l 9 l.length (fun x _ => (enc_le x).2) (Nat.le_refl _)
  rw [partE_all] at h
  refine ⟨h, ?_⟩
  unfold encInts encList
  have := enc_le (l.length : Int)
  rw [List.length_append]; omega
theorem ne_nil {l : List UInt8} (h : 1 ≤ l.length) : B8 l ≠ [] := by
  intro e
  have := congrArg List.length e
  rw [B8_len] at this
  simp at this
  subst this
  simp at h

/-- A cut of a slice of bytes to its end. -/
theorem slice_from (A : Option Addr) (L c k : Nat) (hk : k ≤ L) (W : World) : (Instr.sliceAt 38 (.slice A L c) (some (.int .i64 (k : Int))) none none).run Tryz.prog W = .ok (.slice (if c = k then A else A.map (·.add k)) (L - k) (c - k)) W := by
  have hu : Tryz.prog.underlying 38 = some (.slice (Tryz.prog.elem 38)) := by kernel_rfl
  have he : Tryz.prog.elem 38 = 5 := by kernel_rfl
  have h5 : (sizeOf 5).run Tryz.prog W = .ok 1 W := by kernel_rfl
  rw [run_sliceAt_slice W 38 _ _ _ _ hu, run_slice_l W 38 A L c hu .i64 k (by omega) (by omega), he, h5]
  simp [Result.andThen, sliced]

end Go.Proofs.YtbfhilbagojdnaaGreat.W1
