/-
  The contracts of the encoding and decoding functions in the form in which callers meet them: the slices written out, their cells told.
  Conditions: as of the contracts that they come from.
-/
import Derived.Test.YtbfhilbagojdnaaGreatWGets
import Derived.Test.YtbfhilbagojdnaaGreatWSame
namespace Go.Proofs.YtbfhilbagojdnaaGreat.W1
open Go.RowKit Go.Proofs.YtbfhilbagojdnaaGreat.Wr Go.Proofs.YtbfhilbagojdnaaGreat.W1.Wr
set_option linter.unusedVariables false
set_option maxRecDepth 100000

theorem own_form {w : World} {base e size n : Nat} {v : Value} {xs : List Value} (h : w.ownsRow base e size v n xs) : ∃ (A : Option Addr) (c : Nat), v = .slice A n c ∧ n ≤ c ∧ (A = none → c = 0) ∧ Rd w w.heap.size A xs := by
  rcases h.2 with ⟨rfl, rfl⟩ | ⟨g, cap, cur, rfl, hb, hg, hnc, _, _, _⟩
  · exact ⟨none, 0, rfl, Nat.le_refl _, fun _ => rfl, Rd.of_own h⟩
  · exact ⟨_, cap, rfl, hnc, (fun e => by cases e), Rd.of_own h⟩

theorem int_s (n : Int) (w : World) (h0 : -9223372036854775808 ≤ n) (h1 : n ≤ 9223372036854775807) :
    Calls Tryz.prog 116 #[.int .i64 n] w fun e w' => ∃ (A' : Option Addr) (c' : Nat), e = .returned (.slice A' (enc n).length c') ∧ (enc n).length ≤ c' ∧ (A' = none → c' = 0) ∧ Rd w' w'.heap.size A' (B8 (enc n)) ∧ Below w.heap.size w w' := by
  refine (int_any n w h0 h1).mono ?_
  rintro e w' ⟨v, rfl, ho, hb⟩
  obtain ⟨A', c', rfl, h1, h2, h3⟩ := own_form ho
  exact ⟨A', c', rfl, h1, h2, h3, hb⟩

theorem ints_s (A : Option Addr) (l : List Int) (c : Nat) (w : World) (hr : Rd w w.heap.size A (I64 l)) (hc : l.length ≤ c) (hl : l.length ≤ 1073741824) (hi : ∀ x ∈ l, okInt x) :
    Calls Tryz.prog 76 #[.slice A l.length c] w fun e w' => ∃ (A' : Option Addr) (c' : Nat), e = .returned (.slice A' (encInts l).length c') ∧ (encInts l).length ≤ c' ∧ (A' = none → c' = 0) ∧ Rd w' w'.heap.size A' (B8 (encInts l)) ∧ Below w.heap.size w w' := by
  refine (ints_any A l c w hr hc hl hi).mono ?_
  rintro e w' ⟨v, rfl, ho, hb⟩
  obtain ⟨A', c', rfl, h1, h2, h3⟩ := own_form ho
  exact ⟨A', c', rfl, h1, h2, h3, hb⟩

theorem getInts_s (A : Option Addr) (b : List UInt8) (c : Nat) (w : World) (hr : Rd w w.heap.size A (B8 b)) (hc : b.length ≤ c) (hl : b.length ≤ 1073741824) :
    Calls Tryz.prog 84 #[.slice A b.length c] w fun e w' => ∃ (A' : Option Addr) (c' : Nat), e = .returned (.tuple #[.slice A' (decInts b).1.length c', .int .i64 ((decInts b).2.1 : Nat), .int .i64 ((decInts b).2.2 : Nat)]) ∧
      Rd w' w'.heap.size A' (I64 (decInts b).1) ∧ Below w.heap.size w w' := by
  refine (getInts_any A b c w hr hc hl).mono ?_
  rintro e w' ⟨v, rfl, ho, hb⟩
  obtain ⟨A', c', rfl, h1, h2, h3⟩ := own_form ho
  exact ⟨A', c', rfl, h3, hb⟩

/-- A new block reads as the cells that it was made of. -/
theorem rd_new (W : World) (xs : List Value) (t : TypeId) : Rd (W.alloc (.cells xs.toArray t)) (W.alloc (.cells xs.toArray t)).heap.size (some ⟨W.heap.size, 0, none⟩) xs := by
  intro _
  refine ⟨W.heap.size, 0, rfl, by simp, fun j u hu => ?_⟩
  rw [Nat.zero_add, cell_of_row _ _ _ _ _ _ (heap_alloc_new W _)]
  simpa using hu
end Go.Proofs.YtbfhilbagojdnaaGreat.W1
