/-
  Slices of strings, and arrays of bytes, that came in, as lists.
  No condition but that they can be read.
-/
import Derived.Test.YtfagpeacilfaaaaDoorOf
import Derived.SliceStrings
import Derived.Deep.Slices
import Derived.OpenShut
import Derived.SizedLaws
namespace Go.Proofs.YtfagpeacilfaaaaDoor
open Go.RowKit Wr Go.ChangeShapes Go.WideShapes
set_option linter.unusedVariables false

section
variable {H : Type} {enc : TypeId × Value → H} {P : Program} {w : World} {base : Nat} {spare : Nat → Bool} {held : Bool} {fuel : Nat} {cs : List Value} {x : DataW H × List MemPlace}

/-- The address of something that can be read is whole, and below the heap's end. -/
theorem spot_of (w : World) (a : Addr) (u : Value) (h : w.cell? (a.add 0) = some u) : ∃ g o, a = ⟨g, o, none⟩ ∧ g < w.heap.size := by
  obtain ⟨g, o, spot⟩ := a
  have hs : spot = none := by
    have := World.cell?_spot h
    simpa [Addr.add] using this
  subst hs
  exact ⟨g, o, rfl, by have := World.block_lt_of_cell? w _ h; simpa [Addr.add] using this⟩

theorem strs_rd {t e : TypeId} {a0 : Option Addr} {len0 cap0 : Nat} (ht : P.underlying t = some (.slice e)) (he : P.underlying e = some .string) (hc : P.cellsOf e = 1)
    (h : DataW.trod enc P w base (fun _ => true) held fuel t [.slice a0 len0 cap0] = some x) :
    ∃ l : List ByteArray, l.length = len0 ∧ len0 ≤ cap0 ∧ (a0 = none → cap0 = 0) ∧ Rd w w.heap.size a0 (St l) ∧ (∀ y ∈ l, y.size ≤ maxLen) ∧
      ∃ spare : List ByteArray, spare.length = cap0 - len0 ∧ ((x.1 = .nil ∧ len0 = 0) ∨ x.1 = .slice (strs l) (strs spare)) := by
  rcases open_strings ht he hc h with ⟨hcs, rfl⟩ | ⟨a, len, cap, ss, hcs, _, hl, hm, hz, rfl, hcell, hws⟩
  · simp only [List.cons.injEq, Value.slice.injEq, and_true] at hcs
    obtain ⟨rfl, rfl, rfl⟩ := hcs
    exact ⟨[], rfl, Nat.le_refl _, fun _ => rfl, Rd.nil, by simp, [], rfl, .inl ⟨rfl, rfl⟩⟩
  · simp only [List.cons.injEq, Value.slice.injEq, and_true] at hcs
    obtain ⟨rfl, rfl, rfl⟩ := hcs
    have hz2 : ss.length = cap0 := by simpa using hz
    refine ⟨ss.take len0, by simp; omega, hl, (fun e => by cases e), fun hn => ?_, fun y hy => hws y (List.mem_of_mem_take hy), ss.drop len0, by simp; omega, .inr rfl⟩
    have hpos : 0 < ss.length := by
      rcases Nat.eq_zero_or_pos ss.length with h0 | h0
      · have : ss = [] := List.eq_nil_of_length_eq_zero h0
        subst this; simp [St] at hn
      · exact h0
    obtain ⟨g, o, rfl, hg⟩ := spot_of w a _ (hcell 0 hpos)
    refine ⟨g, o, rfl, hg, fun j u hu => ?_⟩
    unfold St at hu
    rw [List.getElem?_map] at hu
    obtain ⟨n, hn1, rfl⟩ := Option.map_eq_some_iff.1 hu
    have hj := (List.getElem?_eq_some_iff.1 hn1).1
    have hj2 : j < ss.length := by simp at hj; omega
    have := hcell j hj2
    rw [Addr.add_lit] at this
    rw [this]
    rw [List.getElem?_take] at hn1
    split at hn1
    · simp [hn1]
    · cases hn1

theorem okWide_array {n : Nat} {e : TypeId} {r : Reach} {t : TypeId} {v : Value} (ht : P.underlying t = some (.array n e)) (h : Value.okWide P w r base t v) : ∃ cs, v = .agg cs ∧ cs.size = P.cellsOf t := by
  simp only [Value.okWide, ht] at h
  obtain ⟨cs, h1, h2, _⟩ := h
  exact ⟨cs, h1, h2⟩

def byteOf (v : Value) : UInt8 := match v with | .int _ n => UInt8.ofNat n.toNat | _ => 0

theorem arr_cells {n : Nat} {t e : TypeId} (ht : P.underlying t = some (.array n e)) (he : P.underlying e = some (.int .u8)) (hc : P.cellsOf e = 1) (hct : P.cellsOf t = n)
    (h : DataW.trod enc P w base spare held fuel t cs = some x) : ∃ d : List UInt8, d.length = n ∧ cs = B8 d := by
  obtain ⟨xs, m, rfl, rfl, hl, hx, hf⟩ := DataW.trod_array ht h
  rw [hct] at hl
  have each : ∀ i (hi : i < cs.length), cs[i] = .int .u8 ((byteOf cs[i]).toNat : Int) := by
    intro i hi
    have h1 := hf i (by omega)
    rw [hc, Nat.mul_one] at h1
    have hxi : i < xs.length := by omega
    rw [List.getElem?_eq_getElem hxi] at h1
    obtain ⟨n, h2, _, h4⟩ := DataW.trod_int he h1
    have hb := bounds_u8 h4
    rw [List.drop_eq_getElem_cons hi, List.take_succ_cons, List.take_zero] at h2
    simp only [List.cons.injEq, and_true] at h2
    rw [h2]
    simp only [byteOf, UInt8.toNat_ofNat']
    congr 1
    omega
  refine ⟨cs.map byteOf, by simp [hl], ?_⟩
  apply List.ext_getElem
  · simp [B8]
  · intro i h1 h2
    rw [each i h1]
    simp [B8]

theorem sized_strs {ts : List TypeId} {ds : List (DataW H)} (h : (DataW.weightsEach P ts ds).all (· ≤ reachBytes) = true) {j : Nat} {t e : TypeId} {l sp : List ByteArray} (ht : ts[j]? = some t) (hd : ds[j]? = some (.slice (strs l) (strs sp))) (hu : P.underlying t = some (.slice e)) :
    ∀ y ∈ l, y.size ≤ reachBytes := by
  intro y hy
  have hall : ∀ l : List ByteArray, y ∈ l → y.data.toList.length ∈ DataW.weightsAll (H := H) P e (strs l) := by
    intro l
    induction l with
    | nil => intro h; simp at h
    | cons z l ih =>
      intro h
      simp only [strs, List.map_cons, DataW.weightsAll, DataW.weights, List.mem_append, List.mem_singleton]
      rcases List.mem_cons.1 h with rfl | h
      · exact .inl rfl
      · exact .inr (ih h)
  have := List.all_eq_true.1 h _ (DataW.weights_mem_each ht hd y.data.toList.length (by
    simp only [DataW.weights, hu, List.mem_cons, List.mem_append]
    exact .inr (.inl (hall l hy))))
  have h2 : y.data.toList.length = y.size := by simp
  simpa [h2] using this
end
end Go.Proofs.YtfagpeacilfaaaaDoor
