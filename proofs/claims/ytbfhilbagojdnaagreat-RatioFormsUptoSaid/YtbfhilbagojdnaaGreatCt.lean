/-
  Where the first slash of a text lies, and what is before and behind it.
  No condition.
-/
import Derived.Test.YtbfhilbagojdnaaGreatNu
import Derived.Lib.IndexMore
namespace Go.Proofs.YtbfhilbagojdnaaGreat
open Go.RowKit Wr Go.Proofs.YtbfhilbagojdnaaGreat.Nm
set_option linter.unusedVariables false

theorem occ_one (l : List UInt8) (j : Nat) : Lib.occAt l [47] j = decide (l[j]? = some 47) := by
  unfold Lib.occAt
  rw [← List.head?_drop]
  cases h : l.drop j with
  | nil => rfl
  | cons a t =>
    by_cases ha : a = 47
    · subst ha; simp [List.isPrefixOf]
    · have hb : ((47 : UInt8) == a) = false := by rw [beq_eq_false_iff_ne]; exact fun e => ha e.symm
      simp [List.isPrefixOf, ha, hb]
/-- The slash is found at k, or k is the end. -/
theorem cut_at {l : List UInt8} {k : Nat} (hk : k ≤ l.length) (hno : ∀ j, j < k → l[j]? ≠ some 47) (he : k = l.length ∨ l[k]? = some 47) : Lib.cut l [47] = (l.take k, l.drop (k + 1), decide (k < l.length)) := by
  unfold Lib.cut
  rcases he with he | he
  · have hi : Lib.index l [47] = -1 := Lib.index_none (fun j hj => by
      rw [occ_one, decide_eq_false_iff_not]
      rcases Nat.lt_or_ge j k with h | h
      · exact hno j h
      · rw [List.getElem?_eq_none (by omega)]; exact fun e => by cases e)
    rw [hi, if_neg (by decide), he, List.take_length, List.drop_of_length_le (by omega), decide_eq_false (by omega)]
  · have hi : Lib.index l [47] = k := Lib.index_first hk (by rw [occ_one]; exact decide_eq_true he) (fun j hj => by rw [occ_one, decide_eq_false_iff_not]; exact hno j hj)
    have hlt : k < l.length := (List.getElem?_eq_some_iff.1 he).1
    rw [hi, if_pos (by omega), decide_eq_true hlt]
    simp
/-- number, of any row of digits. -/
def NaP (w : World) (l : List UInt8) (e : Ending) (w' : World) : Prop := ∃ v, e = .returned (.tuple #[v, .bool (decide (l.length ≤ 617 ∧ (lim (decV l)).length ≤ 64))]) ∧ Sl w' v (if l.length ≤ 617 then lim (decV l) else []) ∧ Below w.heap.size w w'
theorem number_all (s : ByteArray) (w : World) (hall : s.data.toList.all digB = true) : Calls Tryz.prog 89 #[.string s] w (NaP w s.data.toList) := by
  have hsl : s.data.toList.length = s.size := by simp
  rcases Nat.lt_or_ge 617 s.size with h | h
  · refine (number_long s w h).mono ?_
    rintro e w' ⟨rfl, rfl⟩
    exact ⟨_, by rw [decide_eq_false (by omega)], by rw [if_neg (by omega)]; exact Sl.nil _, Below.refl _ _⟩
  · refine (number_any s w hall h).mono ?_
    rintro e w' ⟨v, rfl, hs, hb⟩
    exact ⟨v, by congr 3; rw [hsl]; congr 1; simp [h], by rw [if_pos (by omega)]; exact hs, hb⟩
end Go.Proofs.YtbfhilbagojdnaaGreat
