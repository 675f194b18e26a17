/-
  The contract of the laws' few: whether the number of the strings and their lengths come to at most 2000.
  Condition: the sum fits an int64.
-/
import Derived.Test.YtooanlmmplbnoaaPut
namespace Go.Proofs.Ytooanlmmplbnoaa
open Go.RowKit Wr
set_option linter.unusedVariables false

/-- The length of a list of strings and the lengths of the first j of them. -/
def sumTo (l : List ByteArray) (j : Nat) : Nat := l.length + ((l.take j).map (·.size)).sum
theorem sumTo_zero (l : List ByteArray) : sumTo l 0 = l.length := by simp [sumTo]
theorem sumTo_succ (l : List ByteArray) (j : Nat) (h : j < l.length) : sumTo l (j + 1) = sumTo l j + l[j].size := by
  unfold sumTo
  rw [List.take_succ_eq_append_getElem h, List.map_append, List.sum_append]
  simp only [List.map_cons, List.map_nil, List.sum_cons, List.sum_nil]; omega
theorem sumTo_mono (l : List ByteArray) : ∀ (d j : Nat), j + d ≤ l.length → sumTo l j ≤ sumTo l (j + d) := by
  intro d
  induction d with
  | zero => intro j h; exact Nat.le_refl _
  | succ d ih =>
    intro j h
    have h1 := ih j (by omega)
    rw [← Nat.add_assoc, sumTo_succ l (j + d) (by omega)]; omega

set_option maxRecDepth 100000 in
set_option maxHeartbeats 400000 in
theorem few_any (A : Option Addr) (l : List ByteArray) (c : Nat) (w : World) (B : Nat) (hr : Rd w B A (St l)) (hs : sumTo l l.length ≤ 4611686018427387904) :
    Calls Try.prog 11 #[.slice A l.length c] w fun e w' => e = .returned (.bool (decide (sumTo l l.length ≤ 2000))) ∧ w = w' := by
  obtain ⟨N, hN⟩ : ∃ N, N = l.length := ⟨_, rfl⟩
  have hz := sumTo_mono l N 0 (by omega)
  rw [sumTo_zero, Nat.zero_add, hN] at hz
  rw [← hN] at hs hz ⊢
  have HN := Lib.hid hN
  clear hN
  go_enter Try.func11, Try.ntmps11
  go_wp2_with fail
  go_loopw [3, 10] (fun s3 s10 wr => ∃ j : Nat, j ≤ N ∧ s3 = .int .i64 (sumTo l j : Nat) ∧ s10 = .int .i64 j ∧ w = wr) (fun _ s10 _ => N - (intOf s10).toNat)
  case atStart => exact ⟨0, Nat.zero_le _, by rw [sumTo_zero, ← HN.out], rfl, rfl⟩
  case round =>
    obtain ⟨j, hj, rfl, rfl, rfl⟩ := hrel
    by_cases hlt : j < N
    · have hjl : j < l.length := by have := HN.out; omega
      obtain ⟨g, o, rfl, hg, hcell⟩ := hr (by intro e; have := congrArg List.length e; simp only [St, List.length_map, List.length_nil] at this; omega)
      have hcj : w.cell? ⟨g, o + j, none⟩ = some (.string l[j]) := hcell j _ (St_get l j hjl)
      have hsu := sumTo_succ l j hjl
      have hmo := sumTo_mono l (N - (j + 1)) (j + 1) (by have := HN.out; omega)
      rw [show j + 1 + (N - (j + 1)) = N by omega] at hmo
      have hw : IntKind.i64.wrap ((sumTo l j : Int) + (l[j].size : Int)) = (sumTo l (j + 1) : Nat) := by
        rw [hsu]; simp [IntKind.wrap, IntKind.bits, IntKind.signed]; omega
      have HM := Lib.hid hmo
      clear hcell hr hsu hmo
      go_wp2_with fail
      go_roundw
      case rel => exact ⟨j + 1, hlt, by go_num, by go_num, trivial⟩
      case measure => simp only [intOf]; omega
    · obtain rfl : j = N := by omega
      go_wp2_with fail
      go_ret
      have hd : decide (((sumTo l j : Nat) : Int) ≤ 2000) = decide (sumTo l j ≤ 2000) := by rw [decide_eq_decide]; omega
      refine ⟨?_, rfl⟩
      show Ending.returned (.bool (decide (((sumTo l j : Nat) : Int) ≤ 2000))) = _
      rw [hd]
end Go.Proofs.Ytooanlmmplbnoaa
