/-
  The contract of merkle's isBounded.
  Condition: the numbers are small.
-/
import Derived.Test.YtofccgkgjcnfbaaDoorPof
namespace Go.Proofs.YtofccgkgjcnfbaaDoor
open Go.RowKit Wr Sh
set_option linter.unusedVariables false
set_option maxRecDepth 100000

def bndB (f s : Int) (n b e : Nat) : Bool := (decide (0 < b) || decide (f = 0)) && (decide (e < n) || decide (f + n = s))
set_option maxHeartbeats 4000000 in
theorem bounded_any (f s : Int) (A1 A2 : Option Addr) (n c1 m c2 b e : Nat) (w : World) (hf0 : 0 ≤ f) (hf1 : f ≤ 1073741824) (hn : n ≤ 1073741824) :
    Calls Tryd.prog 60 #[.agg #[.int .i64 f, .int .i64 s, .slice A1 n c1, .slice A2 m c2], .int .i64 (b : Int), .int .i64 (e : Int)] w fun en w' => en = .returned (.bool (bndB f s n b e)) ∧ Below w.heap.size w w' := by
  have HB := Lib.hid ((Below.refl w.heap.size w).alloc (Nat.le_refl _) (.cells #[.int .i64 f, .int .i64 s, .slice A1 n c1, .slice A2 m c2] 50))
  by_cases h1 : 0 < b
  · have i1 : (0 : Int) < (b : Int) := by omega
    by_cases h3 : e < n
    · have i3 : (e : Int) < (n : Int) := by omega
      rw [show bndB f s n b e = true by simp [bndB, h1, h3]]
      go_enter Tryd.func60, Tryd.ntmps60
      go_wp2_with fail
      go_ret
      exact ⟨rfl, HB.out⟩
    · have i3 : ¬ (e : Int) < (n : Int) := by omega
      by_cases h4 : f + n = s
      · rw [show bndB f s n b e = true by simp [bndB, h1, h4]]
        subst h4
        go_enter Tryd.func60, Tryd.ntmps60
        go_wp2_with fail
        go_ret
        exact ⟨rfl, HB.out⟩
      · have i4 : (f + (n : Int) == s) = false := by rw [beq_eq_false_iff_ne]; exact h4
        rw [show bndB f s n b e = false by simp [bndB, h3, h4]]
        clear h4
        go_enter Tryd.func60, Tryd.ntmps60
        go_wp2_with fail
        go_ret
        exact ⟨rfl, HB.out⟩
  · have i1 : ¬ (0 : Int) < (b : Int) := by omega
    by_cases h2 : f = 0
    · subst h2
      by_cases h3 : e < n
      · have i3 : (e : Int) < (n : Int) := by omega
        rw [show bndB 0 s n b e = true by simp [bndB, h3]]
        go_enter Tryd.func60, Tryd.ntmps60
        go_wp2_with fail
        go_ret
        exact ⟨rfl, HB.out⟩
      · have i3 : ¬ (e : Int) < (n : Int) := by omega
        by_cases h4 : (n : Int) = s
        · rw [show bndB 0 s n b e = true by simp [bndB, h4]]
          subst h4
          go_enter Tryd.func60, Tryd.ntmps60
          go_wp2_with fail
          go_ret
          exact ⟨rfl, HB.out⟩
        · have i4 : ((n : Int) == s) = false := by rw [beq_eq_false_iff_ne]; exact h4
          rw [show bndB 0 s n b e = false by simp [bndB, h3, h4]]
          clear h4
          go_enter Tryd.func60, Tryd.ntmps60
          go_wp2_with fail
          go_ret
          exact ⟨rfl, HB.out⟩
    · have i2 : (f == 0) = false := by rw [beq_eq_false_iff_ne]; exact h2
      rw [show bndB f s n b e = false by simp [bndB, h1, h2]]
      clear h2
      by_cases h3 : e < n
      · have i3 : (e : Int) < (n : Int) := by omega
        go_enter Tryd.func60, Tryd.ntmps60
        go_wp2_with fail
        go_ret
        exact ⟨rfl, HB.out⟩
      · have i3 : ¬ (e : Int) < (n : Int) := by omega
        by_cases h4 : f + n = s
        · subst h4
          go_enter Tryd.func60, Tryd.ntmps60
          go_wp2_with fail
          go_ret
          exact ⟨rfl, HB.out⟩
        · have i4 : (f + (n : Int) == s) = false := by rw [beq_eq_false_iff_ne]; exact h4
          clear h4
          go_enter Tryd.func60, Tryd.ntmps60
          go_wp2_with fail
          go_ret
          exact ⟨rfl, HB.out⟩
end Go.Proofs.YtofccgkgjcnfbaaDoor
