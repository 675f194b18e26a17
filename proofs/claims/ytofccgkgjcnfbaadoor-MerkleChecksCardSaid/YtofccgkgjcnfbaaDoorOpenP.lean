/-
  Slices of pairs of strings that came in, as lists of leaves; the frame of a row that lists both tables of the round constants.
  No condition but that they can be read.
-/
import Derived.Test.YtofccgkgjcnfbaaDoorFrame
import Derived.Test.YtofccgkgjcnfbaaDoorInRow
import Derived.SliceStrings
import Derived.Deep.Slices
namespace Go.Proofs.YtofccgkgjcnfbaaDoor
open Go.ChangeShapes Go.WideShapes Go.ChangeAt Go.RowKit Wr Sh
set_option linter.unusedVariables false
set_option maxRecDepth 100000

theorem met2 (os : Os) (args : Array Value) : laidMet Tryd.prog [("culprit/culpritref02.constants", Rows.laid_culprit_culpritref02_constants), ("culprit/hash.roundConstants", Rows.laid_culprit_hash_roundConstants)] ((laidWorld os).forCall (fun _ _ => 0) ⟨#[], args, []⟩).memory :=
  ⟨_, ⟨0, 160, KC, 8, [], _, glob0, glob0Type, by kernel_rfl, by kernel_rfl, ⟨1, 160, KC, 8, [], [], glob1, glob1Type, by kernel_rfl, by kernel_rfl, rfl, rfl⟩, rfl⟩, by decide +kernel, fun b off h => by
    have hb : b = 0 ∨ b = 1 := by
      simp only [List.append_nil, List.mem_append] at h
      rcases h with h | h
      · exact .inl (in_row h)
      · exact .inr (in_row h)
    rcases hb with rfl | rfl
    · exact ⟨⟨_, _, laid_row0 os args⟩, fun u v hc => absurd hc (no_iface (laid_row0 os args))⟩
    · exact ⟨⟨_, _, laid_row1 os args⟩, fun u v hc => absurd hc (no_iface (laid_row1 os args))⟩⟩
theorem tabs_of {W : World} {ps : List MemPlace} (h : DataW.LaidVars Tryd.prog W [("culprit/culpritref02.constants", Rows.laid_culprit_culpritref02_constants), ("culprit/hash.roundConstants", Rows.laid_culprit_hash_roundConstants)] ps) : Tab 0 W ∧ Tab 1 W := by
  refine ⟨tab_of glob0 glob0Type laid0 h, ?_⟩
  obtain ⟨g, t, cs, fuel, p, q, _, _, _, _, h2, _⟩ := h
  exact tab_of glob1 glob1Type laid1 h2
section
variable {H : Type} {enc : TypeId × Value → H} {P : Program} {w : World} {base : Nat} {spare : Nat → Bool} {held : Bool} {fuel : Nat} {cs : List Value} {x : DataW H × List MemPlace}
/-- The address of something that can be read is whole, and below the heap's end. -/
theorem spot_of (w : World) (a : Addr) (u : Value) (h : w.cell? (a.add 0) = some u) : ∃ g o, a = ⟨g, o, none⟩ ∧ g < w.heap.size := by
  obtain ⟨g, o, spot⟩ := a
  have hs : spot = none := by
    have := World.cell?_spot h
    simpa [Addr.add] using this
  subst hs
  exact ⟨g, o, rfl, by have := World.block_lt_of_cell? w _ h; simpa [Addr.add] using this⟩
theorem pair_cells {t e : TypeId} (ht : P.underlying t = some (.array 2 e)) (he : P.underlying e = some .string) (hc : P.cellsOf e = 1) (hct : P.cellsOf t = 2)
    (h : DataW.trod enc P w base spare held fuel t cs = some x) : ∃ y : Lf, cs = [.string y.1, .string y.2] ∧ y.1.size ≤ maxLen ∧ y.2.size ≤ maxLen := by
  obtain ⟨xs, m, rfl, rfl, hl, hx, hf⟩ := DataW.trod_array ht h
  rw [hct] at hl
  match cs, hl with
  | [c0, c1], _ =>
    have h0 := hf 0 (by omega)
    have h1 := hf 1 (by omega)
    rw [hc] at h0 h1
    simp only [Nat.zero_mul, List.drop_zero, List.take_succ_cons, List.take_zero, Nat.one_mul, List.drop_succ_cons] at h0 h1
    rw [List.getElem?_eq_getElem (by omega)] at h0 h1
    obtain ⟨s0, e0, _, w0⟩ := DataW.trod_string he h0
    obtain ⟨s1, e1, _, w1⟩ := DataW.trod_string he h1
    simp only [List.cons.injEq, and_true] at e0 e1
    exact ⟨(s0, s1), by rw [e0, e1], w0, w1⟩
theorem pairs_rd {t e b : TypeId} {a0 : Option Addr} {len0 cap0 : Nat} (ht : P.underlying t = some (.slice e)) (hte : P.underlying e = some (.array 2 b)) (he : P.underlying b = some .string) (hc : P.cellsOf b = 1) (hct : P.cellsOf e = 2)
    (h : DataW.trod enc P w base (fun _ => true) held fuel t [.slice a0 len0 cap0] = some x) :
    ∃ d : List Lf, d.length = len0 ∧ len0 ≤ cap0 ∧ (a0 = none → cap0 = 0) ∧ Rd w w.heap.size a0 (LC d) ∧ (∀ y ∈ d, y.1.size ≤ maxLen ∧ y.2.size ≤ maxLen) ∧
      ((x.1 = .nil ∧ len0 = 0) ∨ ∃ es sp : List (DataW H), es.length = len0 ∧ sp.length = cap0 - len0 ∧ x.1 = .slice es sp) := by
  rcases Go.Deep.open_slice ht h with ⟨hcs, rfl⟩ | ⟨a, len, cap, m, n, D, Pl, hcs, _, hl, hm, hmm, rfl, hx⟩
  · simp only [List.cons.injEq, Value.slice.injEq, and_true] at hcs
    obtain ⟨rfl, rfl, rfl⟩ := hcs
    exact ⟨[], rfl, Nat.le_refl _, fun _ => rfl, Rd.nil, by simp, .inl ⟨rfl, rfl⟩⟩
  · simp only [List.cons.injEq, Value.slice.injEq, and_true] at hcs
    obtain ⟨rfl, rfl, rfl⟩ := hcs
    have hm2 : m = cap0 := by simpa using hmm
    subst hm2
    obtain ⟨f, hf⟩ := Go.Deep.choose_lt (α := Lf) (n := m) (p := fun i d => (d.1.size ≤ maxLen ∧ d.2.size ≤ maxLen) ∧ w.cells? base (a.add (i * 2)) 2 = some [.string d.1, .string d.2]) (fun i hi => by
      obtain ⟨cs', h1, h2⟩ := hx i hi
      rw [hct] at h1
      obtain ⟨d, rfl, hd⟩ := pair_cells hte he hc hct h2
      exact ⟨d, hd, h1⟩)
    have hlen : ((List.range len0).map f).length = len0 := by simp
    refine ⟨(List.range len0).map f, hlen, hl, (fun e => by cases e), fun hn => ?_, fun y hy => ?_, .inr ⟨_, _, by simp, by simp, rfl⟩⟩
    · have hpos : 0 < len0 := by
        rcases Nat.eq_zero_or_pos len0 with h0 | h0
        · subst h0; exact absurd rfl hn
        · exact h0
      have h00 := (World.cells?_some (hf 0 (by omega)).2).2.2 0 (by omega)
      rw [show (a.add (0 * 2)).add 0 = a.add 0 from rfl] at h00
      obtain ⟨g, o, rfl, hg⟩ := spot_of w a _ h00
      refine ⟨g, o, rfl, hg, fun j u hu => ?_⟩
      have hj := (List.getElem?_eq_some_iff.1 hu).1
      rw [LC_len, hlen] at hj
      have hq : j / 2 < len0 := by omega
      have hget : ((List.range len0).map f)[j / 2]'(by rw [hlen]; exact hq) = f (j / 2) := by simp
      have h1 := LC_at ((List.range len0).map f) (j / 2) (by rw [hlen]; exact hq)
      rw [hget] at h1
      have h2 := (World.cells?_some (hf (j / 2) (by omega)).2).2.2 (j % 2) (by omega)
      rw [Addr.add_lit, Addr.add_lit] at h2
      rcases Nat.mod_two_eq_zero_or_one j with h0 | h0
      · rw [h0, show o + j / 2 * 2 + 0 = o + j by omega] at h2
        rw [show j / 2 * 2 = j by omega] at h1
        rw [h2, ← hu, h1.1]; rfl
      · rw [h0, show o + j / 2 * 2 + 1 = o + j by omega] at h2
        rw [show j / 2 * 2 + 1 = j by omega] at h1
        rw [h2, ← hu, h1.2]; rfl
    · obtain ⟨i, hi, rfl⟩ := List.mem_map.1 hy
      exact (hf i (by have := List.mem_range.1 hi; omega)).1
end
end Go.Proofs.YtofccgkgjcnfbaaDoor
