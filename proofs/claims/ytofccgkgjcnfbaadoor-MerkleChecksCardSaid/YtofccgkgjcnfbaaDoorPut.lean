/-
  The contracts of wire.appendBytes, Bytes, Ints, Strings and Digests: they append, or return, the encodings.
  No condition but that the arguments can be read and that a slice that is appended to is of the call's own making; sums of lengths below 2^40.
-/
import Derived.Test.YtofccgkgjcnfbaaDoorInt
import Derived.Test.YtofccgkgjcnfbaaDoorPure3
import Derived.Lib.AppendStr
namespace Go.Proofs.YtofccgkgjcnfbaaDoor
open Go.RowKit Wr
set_option linter.unusedVariables false
set_option maxRecDepth 100000

theorem size_list (s : ByteArray) : s.data.toList.length = s.size := by simp
theorem strCells_B8 (s : ByteArray) : Lib.strCells s = B8 s.data.toList := rfl

set_option maxRecDepth 100000 in
set_option maxHeartbeats 400000 in
theorem appendBytes_any (v : Value) (s : ByteArray) (w : World) (B k : Nat) (xs : List UInt8) (hB : B ≤ w.heap.size) (hown : w.ownsRow B 5 1 v k (B8 xs))
    (hk : k ≤ 1099511627776) (hs : s.size ≤ 1099511627776) :
    Calls Tryd.prog 70 #[v, .string s] w fun e w' => ∃ v', e = .returned v' ∧ w'.ownsRow B 5 1 v' (k + (encStr s.data.toList).length) (B8 (xs ++ encStr s.data.toList)) ∧ Below B w w' := by
  obtain ⟨i0, hi0, hz0, hz1, hz2⟩ := info_parts Tryd.info5
  have hel := enc_le (s.size : Int)
  go_enter Tryd.func70, Tryd.ntmps70
  go_wp2_with (first
    | (go_at_call 69; refine (appendInt_any _ _ _ B k xs hB hown hk (by omega) (by omega)).mono ?_; rintro e w1 ⟨v1, rfl, ho1, hb1⟩)
    | (at_builtin; refine Lib.wpList_append_own_string _ rfl (.tmp 8) (.tmp 9) 39 9 rfl B 5 i0 Tryd.underlying39 Tryd.underlying9 hi0 hz0 hz1 hz2 v1 (k + (enc (s.size : Int)).length) (B8 (xs ++ enc (s.size : Int))) rfl ho1 s rfl (by unfold maxLen; omega) (by omega) (Nat.le_trans hB hb1.size) ?_; intro v2 w2 ho2 hg2 _))
  go_ret
  refine ⟨v2, rfl, ?_, hb1.grown hg2 (Nat.le_trans hB hb1.size) (fun q hq => (ho1.lt q hq).1)⟩
  unfold encStr
  rw [size_list, List.length_append, size_list, ← Nat.add_assoc, ← List.append_assoc, B8_append _ s.data.toList]
  exact ho2

set_option maxHeartbeats 400000 in
theorem bytes_any (s : ByteArray) (w : World) (hs : s.size ≤ 1099511627776) :
    Calls Tryd.prog 101 #[.string s] w fun e w' => ∃ v', e = .returned v' ∧ w'.ownsRow w.heap.size 5 1 v' (encStr s.data.toList).length (B8 (encStr s.data.toList)) ∧ Below w.heap.size w w' := by
  go_enter Tryd.func101, Tryd.ntmps101
  go_wp2_with (go_at_call 70; refine (appendBytes_any _ s _ w.heap.size 0 [] (Nat.le_refl _) (World.ownsRow_nil _ _ _ _) (by omega) hs).mono ?_; rintro e w' ⟨v', rfl, ho, hb⟩)
  go_ret
  exact ⟨v', rfl, by simpa using ho, hb⟩

end Go.Proofs.YtofccgkgjcnfbaaDoor
