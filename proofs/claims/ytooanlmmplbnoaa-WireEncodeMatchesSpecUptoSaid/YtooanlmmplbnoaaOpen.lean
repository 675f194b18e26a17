/-
  Slices of strings and of digests that came in, as lists.
  No condition but that they can be read.
-/
import Derived.Test.YtooanlmmplbnoaaArg
import Derived.SliceStrings
import Derived.Deep.Slices
import Derived.OpenShut
import Derived.SizedLaws
namespace Go.Proofs.Ytooanlmmplbnoaa
open Go.RowKit Wr Go.ChangeShapes
set_option linter.unusedVariables false

section
variable {H : Type} {enc : TypeId × Value → H} {P : Program} {w : World} {base : Nat} {spare : Nat → Bool} {held : Bool} {fuel : Nat} {cs : List Value} {x : DataW H × List MemPlace}

/-- The address of something that can be read is whole, and below the heap's end. -/
theorem spot_of (w : World) (a : Addr) (u : Value) (h : w.cell? (a.add 0) = some u) : ∃ g o, a = ⟨g, o, none⟩ ∧ g < w.heap.size := by
  obtain ⟨g, o, spot⟩ := a
  have hs : spot = none := by
    have := World.cell?_spot h
    simpa [Addr.add] using this
  subst hs
  exact ⟨g, o, rfl, by have := World.block_lt_of_cell? w _ h; simpa [Addr.add] using this⟩

theorem strs_rd {t e : TypeId} {a0 : Option Addr} {len0 cap0 : Nat} (ht : P.underlying t = some (.slice e)) (he : P.underlying e = some .string) (hc : P.cellsOf e = 1)
    (h : DataW.trod enc P w base (fun _ => true) held fuel t [.slice a0 len0 cap0] = some x) :
    ∃ l : List ByteArray, l.length = len0 ∧ len0 ≤ cap0 ∧ (a0 = none → cap0 = 0) ∧ Rd w w.heap.size a0 (St l) ∧ (∀ y ∈ l, y.size ≤ maxLen) ∧
      ∃ spare : List ByteArray, spare.length = cap0 - len0 ∧ ((x.1 = .nil ∧ len0 = 0) ∨ x.1 = .slice (strs l) (strs spare)) := by
  rcases open_strings ht he hc h with ⟨hcs, rfl⟩ | ⟨a, len, cap, ss, hcs, _, hl, hm, hz, rfl, hcell, hws⟩
  · simp only [List.cons.injEq, Value.slice.injEq, and_true] at hcs
    obtain ⟨rfl, rfl, rfl⟩ := hcs
    exact ⟨[], rfl, Nat.le_refl _, fun _ => rfl, Rd.nil, by simp, [], rfl, .inl ⟨rfl, rfl⟩⟩
  · simp only [List.cons.injEq, Value.slice.injEq, and_true] at hcs
    obtain ⟨rfl, rfl, rfl⟩ := hcs
    have hz2 : ss.length = cap0 := by simpa using hz
    refine ⟨ss.take len0, by simp; omega, hl, (fun e => by cases e), fun hn => ?_, fun y hy => hws y (List.mem_of_mem_take hy), ss.drop len0, by simp; omega, .inr rfl⟩
    have hpos : 0 < ss.length := by
      rcases Nat.eq_zero_or_pos ss.length with h0 | h0
      · have : ss = [] := List.eq_nil_of_length_eq_zero h0
        subst this; simp [St] at hn
      · exact h0
    obtain ⟨g, o, rfl, hg⟩ := spot_of w a _ (hcell 0 hpos)
    refine ⟨g, o, rfl, hg, fun j u hu => ?_⟩
    unfold St at hu
    rw [List.getElem?_map] at hu
    obtain ⟨n, hn1, rfl⟩ := Option.map_eq_some_iff.1 hu
    have hj := (List.getElem?_eq_some_iff.1 hn1).1
    have hj2 : j < ss.length := by simp at hj; omega
    have := hcell j hj2
    rw [Addr.add_lit] at this
    rw [this]
    rw [List.getElem?_take] at hn1
    split at hn1
    · simp [hn1]
    · cases hn1

def byteOf (v : Value) : UInt8 := match v with | .int _ n => UInt8.ofNat n.toNat | _ => 0

theorem dig_cells {t e : TypeId} (ht : P.underlying t = some (.array 16 e)) (he : P.underlying e = some (.int .u8)) (hc : P.cellsOf e = 1) (hct : P.cellsOf t = 16)
    (h : DataW.trod enc P w base spare held fuel t cs = some x) : ∃ d : List UInt8, d.length = 16 ∧ cs = B8 d := by
  obtain ⟨xs, m, rfl, rfl, hl, hx, hf⟩ := DataW.trod_array ht h
  rw [hct] at hl
  have each : ∀ i (hi : i < cs.length), cs[i] = .int .u8 ((byteOf cs[i]).toNat : Int) := by
    intro i hi
    have h1 := hf i (by omega)
    rw [hc, Nat.mul_one] at h1
    have hxi : i < xs.length := by omega
    rw [List.getElem?_eq_getElem hxi] at h1
    obtain ⟨n, h2, _, h4⟩ := DataW.trod_int he h1
    have hb := bounds_u8 h4
    rw [List.drop_eq_getElem_cons hi, List.take_succ_cons, List.take_zero] at h2
    simp only [List.cons.injEq, and_true] at h2
    rw [h2]
    simp only [byteOf, UInt8.toNat_ofNat']
    congr 1
    omega
  refine ⟨cs.map byteOf, by simp [hl], ?_⟩
  apply List.ext_getElem
  · simp [B8]
  · intro i h1 h2
    rw [each i h1]
    simp [B8]

theorem digs_rd {t e b : TypeId} {a0 : Option Addr} {len0 cap0 : Nat} (ht : P.underlying t = some (.slice e)) (hte : P.underlying e = some (.array 16 b)) (he : P.underlying b = some (.int .u8)) (hc : P.cellsOf b = 1) (hct : P.cellsOf e = 16)
    (h : DataW.trod enc P w base (fun _ => true) held fuel t [.slice a0 len0 cap0] = some x) :
    ∃ d : List (List UInt8), d.length = len0 ∧ len0 ≤ cap0 ∧ (a0 = none → cap0 = 0) ∧ Rd w w.heap.size a0 (Dg d) ∧ (∀ y ∈ d, okDig y) ∧
      ((x.1 = .nil ∧ len0 = 0) ∨ ∃ es sp : List (DataW H), es.length = len0 ∧ sp.length = cap0 - len0 ∧ x.1 = .slice es sp) := by
  rcases Go.Deep.open_slice ht h with ⟨hcs, rfl⟩ | ⟨a, len, cap, m, n, D, Pl, hcs, _, hl, hm, hmm, rfl, hx⟩
  · simp only [List.cons.injEq, Value.slice.injEq, and_true] at hcs
    obtain ⟨rfl, rfl, rfl⟩ := hcs
    exact ⟨[], rfl, Nat.le_refl _, fun _ => rfl, Rd.nil, by simp, .inl ⟨rfl, rfl⟩⟩
  · simp only [List.cons.injEq, Value.slice.injEq, and_true] at hcs
    obtain ⟨rfl, rfl, rfl⟩ := hcs
    have hm2 : m = cap0 := by simpa using hmm
    subst hm2
    obtain ⟨f, hf⟩ := Go.Deep.choose_lt (α := List UInt8) (n := m) (p := fun i d => d.length = 16 ∧ w.cells? base (a.add (i * 16)) 16 = some (B8 d)) (fun i hi => by
      obtain ⟨cs', h1, h2⟩ := hx i hi
      rw [hct] at h1
      obtain ⟨d, hd, rfl⟩ := dig_cells hte he hc hct h2
      exact ⟨d, hd, h1⟩)
    have hlen : ((List.range len0).map f).length = len0 := by simp
    have hok : ∀ y ∈ (List.range len0).map f, okDig y := by
      intro y hy
      obtain ⟨i, hi, rfl⟩ := List.mem_map.1 hy
      exact (hf i (by have := List.mem_range.1 hi; omega)).1
    refine ⟨(List.range len0).map f, hlen, hl, (fun e => by cases e), fun hn => ?_, hok, .inr ⟨_, _, by simp, by simp, rfl⟩⟩
    have hpos : 0 < len0 := by
      rcases Nat.eq_zero_or_pos len0 with h0 | h0
      · subst h0; exact absurd rfl hn
      · exact h0
    have hf0 := (hf 0 (by omega)).1
    have h00 := (World.cells?_some (hf 0 (by omega)).2).2.2 0 (by omega)
    rw [B8_get _ _ (by rw [hf0]; omega), show (a.add (0 * 16)).add 0 = a.add 0 from rfl] at h00
    obtain ⟨g, o, rfl, hg⟩ := spot_of w a _ h00
    have cellat : ∀ q r, q < m → r < 16 → w.cell? ⟨g, o + (16 * q + r), none⟩ = (B8 (f q))[r]? := by
      intro q r hq hr
      have := (World.cells?_some (hf q hq).2).2.2 r hr
      rw [← this, Addr.add_lit, Addr.add_lit, Nat.mul_comm 16 q, Nat.add_assoc]
    refine ⟨g, o, rfl, hg, fun j u hu => ?_⟩
    have hfl := flat_len _ hok
    rw [hlen] at hfl
    have hj : j < 16 * len0 := by
      have := (List.getElem?_eq_some_iff.1 hu).1
      rw [Dg, B8_len, hfl] at this
      exact this
    have hq : j / 16 < len0 := by omega
    have hr : j % 16 < 16 := Nat.mod_lt _ (by omega)
    have hfq := (hf (j / 16) (by omega)).1
    have hget : ((List.range len0).map f)[j / 16]'(by rw [hlen]; exact hq) = f (j / 16) := by simp
    have h1 := flat_at _ hok (j / 16) (by rw [hlen]; exact hq) (j % 16) (by rw [hget, hfq]; exact hr)
    rw [show 16 * (j / 16) + j % 16 = j by omega] at h1
    have h2 := cellat (j / 16) (j % 16) (by omega) hr
    rw [show 16 * (j / 16) + j % 16 = j by omega] at h2
    rw [h2, ← hu, B8_get _ _ (by rw [hfq]; exact hr)]
    unfold Dg B8
    rw [List.getElem?_map, h1]
    simp only [Option.map_some, hget]
theorem sized_strs {ts : List TypeId} {ds : List (DataW H)} (h : (DataW.weightsEach P ts ds).all (· ≤ reachBytes) = true) {j : Nat} {t e : TypeId} {l sp : List ByteArray} (ht : ts[j]? = some t) (hd : ds[j]? = some (.slice (strs l) (strs sp))) (hu : P.underlying t = some (.slice e)) :
    ∀ y ∈ l, y.size ≤ reachBytes := by
  intro y hy
  have hall : ∀ l : List ByteArray, y ∈ l → y.data.toList.length ∈ DataW.weightsAll (H := H) P e (strs l) := by
    intro l
    induction l with
    | nil => intro h; simp at h
    | cons z l ih =>
      intro h
      simp only [strs, List.map_cons, DataW.weightsAll, DataW.weights, List.mem_append, List.mem_singleton]
      rcases List.mem_cons.1 h with rfl | h
      · exact .inl rfl
      · exact .inr (ih h)
  have := List.all_eq_true.1 h _ (DataW.weights_mem_each ht hd y.data.toList.length (by
    simp only [DataW.weights, hu, List.mem_cons, List.mem_append]
    exact .inr (.inl (hall l hy))))
  have h2 : y.data.toList.length = y.size := by simp
  simpa [h2] using this
end
end Go.Proofs.Ytooanlmmplbnoaa
