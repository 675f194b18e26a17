/-
  The law HashEqualIsEquality returns true, whatever the strings.
  Condition: the table of the round constants is as the text lays it; the strings are no longer than a machine's.
-/
import Derived.Test.YtfagpeacilfaaaaDoorSane
import Derived.Outline
namespace Go.Proofs.YtfagpeacilfaaaaDoor
open Go.RowKit Wr Sh
set_option linter.unusedVariables false

theorem equal_e (a b : ByteArray) (E : Bool) (h : eqB a b = E) (w : World) (ha : a.size ≤ 1099511627776) (hb : b.size ≤ 1099511627776) :
    Calls Tryd.prog 24 #[.string a, .string b] w fun e w' => e = .returned (.bool E) ∧ Below w.heap.size w w' := by
  subst h; exact equal_any a b w ha hb
theorem eqB_symm (a b : ByteArray) : eqB b a = eqB a b := by
  unfold eqB; rw [decide_eq_decide]; exact eq_comm
theorem eqB_list (a b : ByteArray) : (a.toList == b.toList) = eqB a b := by
  rw [ByteArray.toList_eq, ByteArray.toList_eq, eqB, Bool.eq_iff_iff]; simp
theorem eqB_self (a : ByteArray) : eqB a a = true := by simp [eqB]

theorem data_more (a : ByteArray) : (a ++ { data := #[] } : ByteArray).data.toList = a.data.toList := by simp
theorem eqB_more (a : ByteArray) : eqB a (a ++ { data := #[] }) = true := by rw [eqB, data_more]; simp
theorem size_more (a : ByteArray) : (a ++ { data := #[] } : ByteArray).size = a.size := by rw [← size_l, data_more, size_l]

set_option maxRecDepth 100000 in
set_option maxHeartbeats 4000000 in
theorem equality_walk (a b : ByteArray) (w : World) (ha : a.size ≤ 281474976710656) (hb : b.size ≤ 281474976710656) (ht : Tab 1 w) :
    Calls Tryd.prog 9 #[.string a, .string b] w fun e w' => e = .returned (.bool true) ∧ Below w.heap.size w w' := by
  have HT := Lib.hid ht
  clear ht
  by_cases h1 : 400 < a.size
  · go_enter Tryd.func9, Tryd.ntmps9
    go_wp2_with (go_at_call 10; refine (sanity_any _ HT.out).mono ?_; rintro e w1 ⟨rfl, hb1⟩)
    go_ret
    exact ⟨rfl, hb1⟩
  by_cases h2 : 400 < b.size
  · go_enter Tryd.func9, Tryd.ntmps9
    go_wp2_with (go_at_call 10; refine (sanity_any _ HT.out).mono ?_; rintro e w1 ⟨rfl, hb1⟩)
    go_ret
    exact ⟨rfl, hb1⟩
  obtain ⟨E, hE⟩ : ∃ E, E = eqB a b := ⟨_, rfl⟩
  have hl := eqB_list a b
  rw [← hE] at hl
  have HE := Lib.hid hE
  clear hE
  cases E
  all_goals
    go_enter Tryd.func9, Tryd.ntmps9
    go_wp2_with (first
      | (go_at_call 10; refine (sanity_any _ HT.out).mono ?_; rintro e w1 ⟨rfl, hb1⟩)
      | (go_at_call 24; (with_reducible refine (equal_e a b _ HE.out.symm _ (by omega) (by omega)).mono ?_); rintro e w2 ⟨rfl, hb2⟩; replace hb2 : Below w.heap.size w w2 := hb1.trans (hb2.mono hb1.size); clear hb1)
      | (go_at_call 24; (with_reducible refine (equal_e b a _ ((eqB_symm a b).trans HE.out.symm) _ (by omega) (by omega)).mono ?_); rintro e w3 ⟨rfl, hb3⟩; replace hb3 : Below w.heap.size w w3 := hb2.trans (hb3.mono hb2.size); clear hb2)
      | (go_at_call 24; (with_reducible refine (equal_e a (a ++ { data := #[] }) true (eqB_more a) _ (by omega) (by rw [size_more]; omega)).mono ?_); rintro e w4 ⟨rfl, hb4⟩; replace hb4 : Below w.heap.size w w4 := hb3.trans (hb4.mono hb3.size); clear hb3))
    go_ret
    exact ⟨rfl, hb4⟩
end Go.Proofs.YtfagpeacilfaaaaDoor
