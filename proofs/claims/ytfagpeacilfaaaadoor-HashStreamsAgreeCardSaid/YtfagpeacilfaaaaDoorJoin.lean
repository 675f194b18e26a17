/-
  The contract of the reference's Joined: the strings, one behind the other.
  Condition: together no longer than 2^40 bytes.
-/
import Derived.Test.YtfagpeacilfaaaaDoorFew
namespace Go.Proofs.YtfagpeacilfaaaaDoor
open Go.RowKit Wr Sh
set_option linter.unusedVariables false
/-- Strings, one behind the other. -/
def joined (l : List ByteArray) : ByteArray := l.foldl (· ++ ·) ByteArray.empty
theorem joined_succ (l : List ByteArray) (j : Nat) (h : j < l.length) : joined (l.take (j + 1)) = joined (l.take j) ++ l[j] := by
  unfold joined
  rw [List.take_succ_eq_append_getElem h, List.foldl_append]; rfl
theorem joined_size : ∀ (l : List ByteArray) (a : ByteArray), a.size ≤ (l.foldl (· ++ ·) a).size := by
  intro l
  induction l with
  | nil => intro a; exact Nat.le_refl _
  | cons x l ih => intro a; exact Nat.le_trans (by simp) (ih (a ++ x))
theorem joined_le (l : List ByteArray) (j : Nat) : (joined (l.take j)).size ≤ (joined l).size := by
  conv => rhs; rw [← List.take_append_drop j l]
  unfold joined
  rw [List.foldl_append]
  exact joined_size _ _

set_option maxRecDepth 100000 in
set_option maxHeartbeats 4000000 in
theorem joined_any (A : Option Addr) (l : List ByteArray) (c : Nat) (w : World) (hr : Rd w w.heap.size A (St l)) (hn : l.length ≤ 281474976710656) (hz : (joined l).size ≤ 1099511627776) :
    Calls Tryd.prog 16 #[.slice A l.length c] w fun e w' => e = .returned (.string (joined l)) ∧ w = w' := by
  obtain ⟨N, hN⟩ : ∃ N, N = l.length := ⟨_, rfl⟩
  rw [← hN] at hn ⊢
  have HN := Lib.hid hN
  clear hN
  go_enter Tryd.func16, Tryd.ntmps16
  go_wp2_with fail
  have HR := Lib.hid hr
  clear hr
  go_loopw [3, 4] (fun s3 s4 wr => ∃ (j : Nat) (S : ByteArray), j ≤ N ∧ s3 = .string S ∧ s4 = .int .i64 j ∧ Hid (S = joined (l.take j)) ∧ w = wr) (fun _ s4 _ => N - (intOf s4).toNat)
  case atStart => exact ⟨0, _, Nat.zero_le _, rfl, rfl, Lib.hid rfl, rfl⟩
  case round =>
    obtain ⟨j, S, hj, rfl, rfl, HS, rfl⟩ := hrel
    by_cases hlt : j < N
    · have hjl : j < l.length := by have := HN.out; omega
      obtain ⟨g, o, rfl, hg, hcell⟩ := HR.out (by intro e; have := congrArg List.length e; simp only [St, List.length_map, List.length_nil] at this; omega)
      have hcj : w.cell? ⟨g, o + j, none⟩ = some (.string l[j]) := hcell j _ (St_get l j hjl)
      obtain ⟨x, hx⟩ : ∃ x, x = l[j] := ⟨_, rfl⟩
      rw [← hx] at hcj
      have hsz : S.size + x.size ≤ 1099511627776 := by
        have h1 := joined_le l (j + 1)
        rw [joined_succ l j hjl, ← HS.out, ← hx, ByteArray.size_append] at h1
        omega
      have HX := Lib.hid hx
      clear hcell hx
      go_wp2_with fail
      go_roundw
      case rel => exact ⟨j + 1, S ++ x, hlt, rfl, by go_num, Lib.hid (by rw [HS.out, HX.out, joined_succ l j hjl]), trivial⟩
      case measure => simp only [intOf]; omega
    · have hjN : j = N := by omega
      subst hjN
      have hS : S = joined l := by rw [HS.out, List.take_of_length_le (by have := HN.out; omega)]
      subst hS
      go_wp2_with fail
      go_ret
      exact ⟨rfl, rfl⟩
end Go.Proofs.YtfagpeacilfaaaaDoor
