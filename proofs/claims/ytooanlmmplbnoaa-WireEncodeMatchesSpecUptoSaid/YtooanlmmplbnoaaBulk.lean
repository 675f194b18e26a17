/-
  What the bound on the bulk says of slices and strings that came in.
  No condition.
-/
import Derived.Test.YtooanlmmplbnoaaRows
import Derived.Test.YtooanlmmplbnoaaOpen
namespace Go.Proofs.Ytooanlmmplbnoaa
open Go.RowKit Wr Go.ChangeShapes
set_option linter.unusedVariables false
section
variable {H : Type}
theorem bulk_pos (d : DataW H) : 1 ≤ Rows.uptoBulk d := by
  cases d
  case lit l => cases l <;> simp [Rows.uptoBulk]
  all_goals simp [Rows.uptoBulk]
theorem bulk_in {d : DataW H} : ∀ {l : List (DataW H)}, d ∈ l → Rows.uptoBulk d ≤ Rows.uptoBulkAll l := by
  intro l
  induction l with
  | nil => intro h; cases h
  | cons x l ih =>
    intro h
    rw [Rows.uptoBulkAll]
    rcases List.mem_cons.1 h with rfl | h
    · omega
    · have := ih h; omega
theorem bulk_len : ∀ l : List (DataW H), l.length ≤ Rows.uptoBulkAll l := by
  intro l
  induction l with
  | nil => exact Nat.le_refl _
  | cons x l ih => have := bulk_pos x; rw [Rows.uptoBulkAll, List.length_cons]; omega
theorem bulk_slice (es sp : List (DataW H)) : es.length < Rows.uptoBulk (.slice es sp) := by
  have := bulk_len es
  rw [Rows.uptoBulk]; omega
theorem bulk_strs : ∀ x : List ByteArray, Rows.uptoBulkAll (strs x : List (DataW H)) = x.length + (x.map (·.size)).sum := by
  intro x
  induction x with
  | nil => rfl
  | cons y x ih =>
    have e : (strs (y :: x) : List (DataW H)) = .lit (.string y.data.toList) :: strs x := rfl
    have hy : y.data.toList.length = y.size := by simp
    rw [e, Rows.uptoBulkAll, Rows.uptoBulk, ih, hy, List.map_cons, List.sum_cons, List.length_cons]; omega
theorem bulk_texts (x sp : List ByteArray) : x.length + (x.map (·.size)).sum < Rows.uptoBulk (.slice (strs x) (strs sp) : DataW H) := by
  rw [Rows.uptoBulk, bulk_strs]; omega
theorem bulk_all {l : List (DataW H)} (h : Rows.uptoSmall H l = true) : Rows.uptoBulkAll l ≤ 1048576 := of_decide_eq_true h
end
end Go.Proofs.Ytooanlmmplbnoaa
