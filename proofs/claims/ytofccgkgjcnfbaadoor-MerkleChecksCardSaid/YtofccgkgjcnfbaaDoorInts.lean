/-
  The contracts of wire.Int and wire.Ints.
  No condition but that the list can be read, and its length.
-/
import Derived.Test.YtofccgkgjcnfbaaDoorPut
namespace Go.Proofs.YtofccgkgjcnfbaaDoor
open Go.RowKit Wr Sh
set_option linter.unusedVariables false
set_option maxRecDepth 100000

set_option maxHeartbeats 400000 in
theorem int_any (n : Int) (w : World) (h0 : -9223372036854775808 ≤ n) (h1 : n ≤ 9223372036854775807) :
    Calls Tryd.prog 47 #[.int .i64 n] w fun e w' => ∃ v', e = .returned v' ∧ w'.ownsRow w.heap.size 5 1 v' (enc n).length (B8 (enc n)) ∧ Below w.heap.size w w' := by
  go_enter Tryd.func47, Tryd.ntmps47
  go_wp2_with (go_at_call 69; refine (appendInt_any _ n _ w.heap.size 0 [] (Nat.le_refl _) (World.ownsRow_nil _ _ _ _) (by omega) h0 h1).mono ?_; rintro e w' ⟨v', rfl, ho, hb⟩)
  go_ret
  exact ⟨v', rfl, by simpa using ho, hb⟩
/-- The encoding of a list behind j elements. -/
def partE {α : Type} (e : α → List UInt8) (l : List α) (j : Nat) : List UInt8 := enc (l.length : Int) ++ ((l.take j).map e).flatten
theorem partE_zero {α : Type} (e : α → List UInt8) (l : List α) : partE e l 0 = enc (l.length : Int) := by simp [partE]
theorem partE_succ {α : Type} (e : α → List UInt8) (l : List α) (j : Nat) (h : j < l.length) : partE e l (j + 1) = partE e l j ++ e l[j] := by
  unfold partE
  rw [List.take_succ_eq_append_getElem h, List.map_append, List.flatten_append, ← List.append_assoc]
  simp only [List.map_cons, List.map_nil, List.flatten_cons, List.flatten_nil, List.append_nil]
theorem partE_all {α : Type} (e : α → List UInt8) (l : List α) : partE e l l.length = encList e l := by simp [partE, encList]
end Go.Proofs.YtofccgkgjcnfbaaDoor
