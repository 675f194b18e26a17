/-
  Slices of integers that came in, as lists.
  No condition but that they can be read.
-/
import Derived.Test.YtofccgkgjcnfbaaDoorGen
import Derived.OpenShut
import Derived.SizedLaws
namespace Go.Proofs.YtofccgkgjcnfbaaDoor
open Go.RowKit Wr
set_option linter.unusedVariables false

/-- What is told of a slice of integers that came in. -/
def InRow (k : IntKind) (w : World) (a : Option Addr) (len cap : Nat) (zs : List Int) : Prop :=
  (a = none ∧ len = 0 ∧ cap = 0 ∧ zs = []) ∨
  ∃ x, a = some x ∧ len ≤ cap ∧ cap ≤ maxLen ∧ zs.length = cap ∧ (∀ i, i < zs.length → w.cell? (x.add i) = some (.int k (zs.getD i 0))) ∧ ∀ n ∈ zs, (Lit.int k n).wf = true

theorem in_rd {k : IntKind} {w : World} {a : Option Addr} {len cap : Nat} {zs : List Int} (h : InRow k w a len cap zs) :
    (zs.take len).length = len ∧ len ≤ cap ∧ (a = none → cap = 0) ∧ Rd w w.heap.size a ((zs.take len).map (Value.int k)) ∧ ∀ n ∈ zs.take len, (Lit.int k n).wf = true := by
  rcases h with ⟨rfl, rfl, rfl, rfl⟩ | ⟨x, rfl, hl, hm, hz, hc, hw⟩
  · exact ⟨rfl, Nat.le_refl _, fun _ => rfl, fun h => absurd rfl h, by simp⟩
  · refine ⟨by simp; omega, hl, (fun e => by cases e), fun hn => ?_, fun n hn => hw n (List.mem_of_mem_take hn)⟩
    have hl0 : 0 < zs.length := by
      rcases zs with _ | ⟨z, zs⟩
      · simp at hn
      · simp
    obtain ⟨g, o, spot⟩ := x
    have h0 := hc 0 hl0
    have hs : spot = none := by
      have := World.cell?_spot h0
      simpa [Addr.add] using this
    subst hs
    refine ⟨g, o, rfl, ?_, fun j u hu => ?_⟩
    · have := World.block_lt_of_cell? w _ h0
      simpa [Addr.add] using this
    · rw [List.getElem?_map] at hu
      obtain ⟨n, hn1, rfl⟩ := Option.map_eq_some_iff.1 hu
      have hj := (List.getElem?_eq_some_iff.1 hn1).1
      have hj2 : j < zs.length := by simp at hj; omega
      have := hc j hj2
      rw [Addr.add_lit] at this
      rw [this]
      rw [List.getElem?_take] at hn1
      split at hn1
      · simp [hn1]
      · cases hn1
theorem in_bytes {w : World} {a : Option Addr} {len cap : Nat} {zs : List Int} (h : InRow .u8 w a len cap zs) :
    ∃ b : List UInt8, b.length = len ∧ len ≤ cap ∧ (a = none → cap = 0) ∧ Rd w w.heap.size a (B8 b) := by
  obtain ⟨h1, h2, h3, h4, h5⟩ := in_rd h
  refine ⟨(zs.take len).map (fun n => UInt8.ofNat n.toNat), by rw [List.length_map]; exact h1, h2, h3, ?_⟩
  have he : B8 ((zs.take len).map (fun n => UInt8.ofNat n.toNat)) = (zs.take len).map (Value.int .u8) := by
    unfold B8
    rw [List.map_map]
    apply List.map_congr_left
    intro n hn
    have := bounds_u8 (h5 n hn)
    simp only [Function.comp]
    congr 1
    rw [UInt8.toNat_ofNat']
    omega
  rw [he]
  exact h4
theorem in_ints {w : World} {a : Option Addr} {len cap : Nat} {zs : List Int} (h : InRow .i64 w a len cap zs) :
    ∃ l : List Int, l.length = len ∧ len ≤ cap ∧ (a = none → cap = 0) ∧ Rd w w.heap.size a (I64 l) ∧ ∀ x ∈ l, okInt x := by
  obtain ⟨h1, h2, h3, h4, h5⟩ := in_rd h
  exact ⟨zs.take len, h1, h2, h3, h4, fun x hx => bounds_i64 (h5 x hx)⟩

end Go.Proofs.YtofccgkgjcnfbaaDoor
