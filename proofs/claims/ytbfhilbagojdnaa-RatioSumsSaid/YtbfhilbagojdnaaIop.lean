/-
  Slices of integers that came in, as lists.
  No condition but that they can be read.
-/
import Derived.Test.YtbfhilbagojdnaaSq
import Derived.Test.YtbfhilbagojdnaaLop
namespace Go.Proofs.Ytbfhilbagojdnaa
open Go.RowKit Wr Go.ChangeShapes Go.Proofs.Ytbfhilbagojdnaa.Nm
set_option linter.unusedVariables false

section
variable {H : Type} {enc : TypeId × Value → H} {P : Program} {w : World} {base : Nat} {held : Bool} {fuel : Nat} {x : DataW H × List MemPlace}
theorem ints_rd {t e : TypeId} {a0 : Option Addr} {len0 cap0 : Nat} (ht : P.underlying t = some (.slice e)) (he : P.underlying e = some (.int .i64)) (hc : P.cellsOf e = 1)
    (h : DataW.trod enc P w base (fun _ => true) held fuel t [.slice a0 len0 cap0] = some x) :
    ∃ l : List Int, In w a0 len0 cap0 l ∧ (len0 : Int) ≤ 9223372036854775807 := by
  rcases open_ints ht he hc h with ⟨hcs, rfl⟩ | ⟨a, len, cap, zs, hcs, _, hl, hm, hz, _, hcell, hwz⟩
  · simp only [List.cons.injEq, Value.slice.injEq, and_true] at hcs
    obtain ⟨rfl, rfl, rfl⟩ := hcs
    exact ⟨[], ⟨rfl, Nat.le_refl _, by simp, fun h => absurd rfl h⟩, by omega⟩
  · simp only [List.cons.injEq, Value.slice.injEq, and_true] at hcs
    obtain ⟨rfl, rfl, rfl⟩ := hcs
    have hz2 : zs.length = cap0 := by simpa using hz
    have hlen : (zs.take len0).length = len0 := by simp; omega
    refine ⟨zs.take len0, ⟨hlen, hl, fun y hy => bounds_i64 (hwz y (List.mem_of_mem_take hy)), fun hn => ?_⟩, by unfold maxLen at hm; omega⟩
    have hpos : 0 < len0 := by
      rcases Nat.eq_zero_or_pos len0 with h0 | h0
      · subst h0; exact absurd rfl hn
      · exact h0
    obtain ⟨g, o, rfl, hg⟩ := spot_of w a _ (hcell 0 (by omega))
    refine ⟨g, o, rfl, hg, fun j y hu => ?_⟩
    have hj := (List.getElem?_eq_some_iff.1 hu).1
    rw [hlen] at hj
    rw [List.getElem?_take, if_pos hj] at hu
    have h1 := hcell j (by omega)
    rw [Addr.add_lit] at h1
    rw [h1, List.getD_eq_getElem?_getD, hu]
    rfl
end
end Go.Proofs.Ytbfhilbagojdnaa
