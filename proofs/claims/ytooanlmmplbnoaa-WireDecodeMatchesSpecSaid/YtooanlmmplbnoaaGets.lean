/-
  The contracts of wire.GetInts, GetStrings and GetDigests: they return the decoding of the list at the beginning of the bytes.
  No condition but that the bytes can be read; at most 2^30 of them.
-/
import Derived.Test.YtooanlmmplbnoaaList
import Derived.Test.YtooanlmmplbnoaaListD
namespace Go.Proofs.Ytooanlmmplbnoaa
open Go.RowKit Wr
set_option linter.unusedVariables false

set_option maxRecDepth 100000 in
set_option maxHeartbeats 400000 in
theorem getInts_any (A : Option Addr) (b : List UInt8) (c : Nat) (w : World) (hr : Rd w w.heap.size A (B8 b)) (hc : b.length ≤ c) (hl : b.length ≤ 1073741824) :
    Calls Try.prog 28 #[.slice A b.length c] w fun e w' => ∃ v', e = .returned (.tuple #[v', .int .i64 ((decInts b).2.1 : Nat), .int .i64 ((decInts b).2.2 : Nat)]) ∧
      w'.ownsRow w.heap.size 3 1 v' (decInts b).1.length (I64 (decInts b).1) ∧ Below w.heap.size w w' := by
  go_enter Try.func28, Try.ntmps28
  go_wp2_with (go_at_call 42; refine (getList_int A b c _ hr hc hl).mono ?_; rintro e w' ⟨v', rfl, ho, hb⟩)
  go_ret3
  exact ⟨v', rfl, ho, hb⟩

set_option maxRecDepth 100000 in
set_option maxHeartbeats 400000 in
theorem getStrings_any (A : Option Addr) (b : List UInt8) (c : Nat) (w : World) (hr : Rd w w.heap.size A (B8 b)) (hc : b.length ≤ c) (hl : b.length ≤ 1073741824) :
    Calls Try.prog 31 #[.slice A b.length c] w fun e w' => ∃ v', e = .returned (.tuple #[v', .int .i64 ((decStrs b).2.1 : Nat), .int .i64 ((decStrs b).2.2 : Nat)]) ∧
      w'.ownsRow w.heap.size 9 1 v' (decStrs b).1.length (Sb (decStrs b).1) ∧ Below w.heap.size w w' := by
  go_enter Try.func31, Try.ntmps31
  go_wp2_with (go_at_call 43; refine (getList_str A b c _ hr hc hl).mono ?_; rintro e w' ⟨v', rfl, ho, hb⟩)
  go_ret3
  exact ⟨v', rfl, ho, hb⟩

set_option maxRecDepth 100000 in
set_option maxHeartbeats 400000 in
theorem getDigests_any (A : Option Addr) (b : List UInt8) (c : Nat) (w : World) (hr : Rd w w.heap.size A (B8 b)) (hc : b.length ≤ c) (hl : b.length ≤ 1073741824) :
    Calls Try.prog 34 #[.slice A b.length c] w fun e w' => ∃ v', e = .returned (.tuple #[v', .int .i64 ((decDigs b).2.1 : Nat), .int .i64 ((decDigs b).2.2 : Nat)]) ∧
      w'.ownsRow w.heap.size 57 16 v' (decDigs b).1.length (Dg (decDigs b).1) ∧ Below w.heap.size w w' := by
  go_enter Try.func34, Try.ntmps34
  go_wp2_with (go_at_call 44; refine (getList_dig A b c _ hr hc hl).mono ?_; rintro e w' ⟨v', rfl, ho, hb⟩)
  go_ret3
  exact ⟨v', rfl, ho, hb⟩
end Go.Proofs.Ytooanlmmplbnoaa
