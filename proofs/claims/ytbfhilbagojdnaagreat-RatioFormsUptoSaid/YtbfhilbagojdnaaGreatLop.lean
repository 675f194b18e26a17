/-
  Slices of limbs that came in, as lists.
  No condition but that they can be read.
-/
import Derived.Test.YtbfhilbagojdnaaGreatHr13
import Derived.Deep.Slices
import Derived.OpenShut
namespace Go.Proofs.YtbfhilbagojdnaaGreat
open Go.RowKit Wr Go.ChangeShapes Go.Proofs.YtbfhilbagojdnaaGreat.Nm
set_option linter.unusedVariables false

section
variable {H : Type} {enc : TypeId × Value → H} {P : Program} {w : World} {base : Nat} {held : Bool} {fuel : Nat} {x : DataW H × List MemPlace}
theorem bounds_u32 {n : Int} (h : (Lit.int .u32 n).wf = true) : 0 ≤ n ∧ n ≤ 4294967295 := by
  simp [Lit.wf, IntKind.min, IntKind.max, IntKind.signed, IntKind.bits] at h
  omega
/-- The address of something that can be read is whole, and below the heap's end. -/
theorem spot_of (w : World) (a : Addr) (u : Value) (h : w.cell? (a.add 0) = some u) : ∃ g o, a = ⟨g, o, none⟩ ∧ g < w.heap.size := by
  obtain ⟨g, o, spot⟩ := a
  have hs : spot = none := by
    have := World.cell?_spot h
    simpa [Addr.add] using this
  subst hs
  exact ⟨g, o, rfl, by have := World.block_lt_of_cell? w _ h; simpa [Addr.add] using this⟩
theorem lims_rd {t e : TypeId} {a0 : Option Addr} {len0 cap0 : Nat} (ht : P.underlying t = some (.slice e)) (he : P.underlying e = some (.int .u32)) (hc : P.cellsOf e = 1)
    (h : DataW.trod enc P w base (fun _ => true) held fuel t [.slice a0 len0 cap0] = some x) :
    ∃ l : List Nat, Sl w (.slice a0 len0 cap0) l ∧ Ok l ∧ len0 ≤ 9223372036854775807 := by
  rcases open_ints ht he hc h with ⟨hcs, rfl⟩ | ⟨a, len, cap, zs, hcs, _, hl, hm, hz, _, hcell, hwz⟩
  · simp only [List.cons.injEq, Value.slice.injEq, and_true] at hcs
    obtain ⟨rfl, rfl, rfl⟩ := hcs
    exact ⟨[], Sl.nil w, Ok.nil, by omega⟩
  · simp only [List.cons.injEq, Value.slice.injEq, and_true] at hcs
    obtain ⟨rfl, rfl, rfl⟩ := hcs
    have hz2 : zs.length = cap0 := by simpa using hz
    have hlen : ((zs.take len0).map Int.toNat).length = len0 := by simp; omega
    refine ⟨(zs.take len0).map Int.toNat, ⟨some a, cap0, by rw [hlen], by rw [hlen]; exact hl, (fun e => by cases e), fun hn => ?_⟩, ?_, by unfold maxLen at hm; omega⟩
    · have hpos : 0 < len0 := by
        rcases Nat.eq_zero_or_pos len0 with h0 | h0
        · subst h0; exact absurd rfl hn
        · exact h0
      obtain ⟨g, o, rfl, hg⟩ := spot_of w a _ (hcell 0 (by omega))
      refine ⟨g, o, rfl, hg, fun j u hu => ?_⟩
      have hj := (List.getElem?_eq_some_iff.1 hu).1
      rw [Lc_len, hlen] at hj
      rw [Lc_get _ j (by rw [hlen]; exact hj)] at hu
      have h1 := hcell j (by omega)
      rw [Addr.add_lit] at h1
      have hzj : zs[j]'(by omega) ∈ zs := List.getElem_mem _
      have hb := bounds_u32 (hwz _ hzj)
      rw [h1, ← hu]
      simp only [List.getElem_map, List.getElem_take, List.getD_eq_getElem?_getD, List.getElem?_eq_getElem (show j < zs.length by omega), Option.getD_some, Option.some.injEq, Value.int.injEq, true_and]
      omega
    · intro y hy
      obtain ⟨z, hz1, rfl⟩ := List.mem_map.1 hy
      have hb := bounds_u32 (hwz z (List.mem_of_mem_take hz1))
      omega
end
end Go.Proofs.YtbfhilbagojdnaaGreat
