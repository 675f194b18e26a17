/-
  The contract of the reference's Bytes: it returns the encoding of the string.
  Condition: the string is no longer than a machine's.
-/
import Derived.Test.YtooanlmmplbnoaaRIntN
namespace Go.Proofs.Ytooanlmmplbnoaa
open Go.RowKit Wr
set_option linter.unusedVariables false
set_option maxRecDepth 100000 in
set_option maxHeartbeats 4000000 in
theorem rbytes_any (s : ByteArray) (w : World) (hs : s.size ≤ 1099511627776) :
    Calls Try.prog 17 #[.string s] w fun e w' => ∃ v', e = .returned v' ∧ w'.ownsRow w.heap.size 5 1 v' (encStr s.data.toList).length (B8 (encStr s.data.toList)) ∧ Below w.heap.size w w' := by
  go_enter Try.func17, Try.ntmps17
  have hel := enc_le (s.size : Int)
  go_wp2_with (first
    | (go_at_call 15; refine (rint_any _ _ (by omega) (by omega)).mono ?_; rintro e w1 ⟨v1, rfl, ho1, hb1⟩; have HO1 := Lib.hid ho1; have HB1 := Lib.hid hb1; clear ho1 hb1)
    | (refine wpList_bytes_of rfl 9 28 5 (.tmp 6) rfl s rfl Try.underlying9 Try.underlying28 Try.underlying5 ?_; intro C w2 hC hrd hb2; have HRD := Lib.hid hrd; have HB2 := Lib.hid hb2; clear hrd hb2)
    | (at_builtin; refine wpList_append_rd rfl (.tmp 5) (.tmp 7) rfl w.heap.size v1 _ _ rfl (own_below HO1.out HB2.out) _ s.size C _ s.data.toList rfl (fun h => by cases h) (size_list s) HRD.out (by omega) (Nat.le_trans HB1.out.size HB2.out.size) ?_; intro v3 w3 ho3 hg3; have HO3 := Lib.hid ho3; have HB3 := Lib.hid ((HB1.out.trans (HB2.out.mono HB1.out.size)).grown hg3 (Nat.le_trans HB1.out.size HB2.out.size) (fun q hq => (HO1.out.lt q hq).1)); clear ho3 hg3))
  go_ret
  refine ⟨_, rfl, ?_, HB3.out⟩
  have := HO3.out
  rw [← B8_append] at this
  unfold encStr
  rw [List.length_append, size_list]
  exact this
end Go.Proofs.Ytooanlmmplbnoaa
