/-
  The contracts of the encoding and decoding functions in the form in which callers meet them: the slices written out, their cells told.
  Conditions: as of the contracts that they come from.
-/
import Derived.Test.YtooanlmmplbnoaaGets
import Derived.Test.YtooanlmmplbnoaaSameD
namespace Go.Proofs.Ytooanlmmplbnoaa
open Go.RowKit Wr
set_option linter.unusedVariables false

theorem own_form {w : World} {base e size n : Nat} {v : Value} {xs : List Value} (h : w.ownsRow base e size v n xs) : ∃ (A : Option Addr) (c : Nat), v = .slice A n c ∧ n ≤ c ∧ (A = none → c = 0) ∧ Rd w w.heap.size A xs := by
  rcases h.2 with ⟨rfl, rfl⟩ | ⟨g, cap, cur, rfl, hb, hg, hnc, _, _, _⟩
  · exact ⟨none, 0, rfl, Nat.le_refl _, fun _ => rfl, Rd.of_own h⟩
  · exact ⟨_, cap, rfl, hnc, (fun e => by cases e), Rd.of_own h⟩

theorem int_s (n : Int) (w : World) (h0 : -9223372036854775808 ≤ n) (h1 : n ≤ 9223372036854775807) :
    Calls Try.prog 14 #[.int .i64 n] w fun e w' => ∃ (A' : Option Addr) (c' : Nat), e = .returned (.slice A' (enc n).length c') ∧ (enc n).length ≤ c' ∧ (A' = none → c' = 0) ∧ Rd w' w'.heap.size A' (B8 (enc n)) ∧ Below w.heap.size w w' := by
  refine (int_any n w h0 h1).mono ?_
  rintro e w' ⟨v, rfl, ho, hb⟩
  obtain ⟨A', c', rfl, h1, h2, h3⟩ := own_form ho
  exact ⟨A', c', rfl, h1, h2, h3, hb⟩

theorem bytes_s (s : ByteArray) (w : World) (hs : s.size ≤ 1099511627776) :
    Calls Try.prog 16 #[.string s] w fun e w' => ∃ (A' : Option Addr) (c' : Nat), e = .returned (.slice A' (encStr s.data.toList).length c') ∧ (encStr s.data.toList).length ≤ c' ∧ (A' = none → c' = 0) ∧ Rd w' w'.heap.size A' (B8 (encStr s.data.toList)) ∧ Below w.heap.size w w' := by
  refine (bytes_any s w hs).mono ?_
  rintro e w' ⟨v, rfl, ho, hb⟩
  obtain ⟨A', c', rfl, h1, h2, h3⟩ := own_form ho
  exact ⟨A', c', rfl, h1, h2, h3, hb⟩

theorem ints_s (A : Option Addr) (l : List Int) (c : Nat) (w : World) (hr : Rd w w.heap.size A (I64 l)) (hc : l.length ≤ c) (hl : l.length ≤ 1073741824) (hi : ∀ x ∈ l, okInt x) :
    Calls Try.prog 18 #[.slice A l.length c] w fun e w' => ∃ (A' : Option Addr) (c' : Nat), e = .returned (.slice A' (encInts l).length c') ∧ (encInts l).length ≤ c' ∧ (A' = none → c' = 0) ∧ Rd w' w'.heap.size A' (B8 (encInts l)) ∧ Below w.heap.size w w' := by
  refine (ints_any A l c w hr hc hl hi).mono ?_
  rintro e w' ⟨v, rfl, ho, hb⟩
  obtain ⟨A', c', rfl, h1, h2, h3⟩ := own_form ho
  exact ⟨A', c', rfl, h1, h2, h3, hb⟩

theorem strings_s (A : Option Addr) (l : List ByteArray) (c : Nat) (w : World) (hr : Rd w w.heap.size A (St l)) (hc : l.length ≤ c) (hl : l.length ≤ 1073741824) (hsum : (encStrs (bs l)).length ≤ 1073741824) (hi : ∀ x ∈ l, x.size ≤ 1073741824) :
    Calls Try.prog 20 #[.slice A l.length c] w fun e w' => ∃ (A' : Option Addr) (c' : Nat), e = .returned (.slice A' (encStrs (bs l)).length c') ∧ (encStrs (bs l)).length ≤ c' ∧ (A' = none → c' = 0) ∧ Rd w' w'.heap.size A' (B8 (encStrs (bs l))) ∧ Below w.heap.size w w' := by
  refine (strings_any A l c w hr hc hl hsum hi).mono ?_
  rintro e w' ⟨v, rfl, ho, hb⟩
  obtain ⟨A', c', rfl, h1, h2, h3⟩ := own_form ho
  exact ⟨A', c', rfl, h1, h2, h3, hb⟩

theorem digests_s (A : Option Addr) (l : List (List UInt8)) (c : Nat) (w : World) (hr : Rd w w.heap.size A (Dg l)) (hc : l.length ≤ c) (hl : l.length ≤ 67108864) (hi : ∀ x ∈ l, okDig x) :
    Calls Try.prog 22 #[.slice A l.length c] w fun e w' => ∃ (A' : Option Addr) (c' : Nat), e = .returned (.slice A' (encDigs l).length c') ∧ (encDigs l).length ≤ c' ∧ (A' = none → c' = 0) ∧ Rd w' w'.heap.size A' (B8 (encDigs l)) ∧ Below w.heap.size w w' := by
  refine (digests_any A l c w hr hc hl hi).mono ?_
  rintro e w' ⟨v, rfl, ho, hb⟩
  obtain ⟨A', c', rfl, h1, h2, h3⟩ := own_form ho
  exact ⟨A', c', rfl, h1, h2, h3, hb⟩

theorem getInts_s (A : Option Addr) (b : List UInt8) (c : Nat) (w : World) (hr : Rd w w.heap.size A (B8 b)) (hc : b.length ≤ c) (hl : b.length ≤ 1073741824) :
    Calls Try.prog 28 #[.slice A b.length c] w fun e w' => ∃ (A' : Option Addr) (c' : Nat), e = .returned (.tuple #[.slice A' (decInts b).1.length c', .int .i64 ((decInts b).2.1 : Nat), .int .i64 ((decInts b).2.2 : Nat)]) ∧
      Rd w' w'.heap.size A' (I64 (decInts b).1) ∧ Below w.heap.size w w' := by
  refine (getInts_any A b c w hr hc hl).mono ?_
  rintro e w' ⟨v, rfl, ho, hb⟩
  obtain ⟨A', c', rfl, h1, h2, h3⟩ := own_form ho
  exact ⟨A', c', rfl, h3, hb⟩

theorem getStrings_s (A : Option Addr) (b : List UInt8) (c : Nat) (w : World) (hr : Rd w w.heap.size A (B8 b)) (hc : b.length ≤ c) (hl : b.length ≤ 1073741824) :
    Calls Try.prog 31 #[.slice A b.length c] w fun e w' => ∃ (A' : Option Addr) (c' : Nat), e = .returned (.tuple #[.slice A' (decStrs b).1.length c', .int .i64 ((decStrs b).2.1 : Nat), .int .i64 ((decStrs b).2.2 : Nat)]) ∧
      Rd w' w'.heap.size A' (Sb (decStrs b).1) ∧ Below w.heap.size w w' := by
  refine (getStrings_any A b c w hr hc hl).mono ?_
  rintro e w' ⟨v, rfl, ho, hb⟩
  obtain ⟨A', c', rfl, h1, h2, h3⟩ := own_form ho
  exact ⟨A', c', rfl, h3, hb⟩

theorem getDigests_s (A : Option Addr) (b : List UInt8) (c : Nat) (w : World) (hr : Rd w w.heap.size A (B8 b)) (hc : b.length ≤ c) (hl : b.length ≤ 1073741824) :
    Calls Try.prog 34 #[.slice A b.length c] w fun e w' => ∃ (A' : Option Addr) (c' : Nat), e = .returned (.tuple #[.slice A' (decDigs b).1.length c', .int .i64 ((decDigs b).2.1 : Nat), .int .i64 ((decDigs b).2.2 : Nat)]) ∧
      Rd w' w'.heap.size A' (Dg (decDigs b).1) ∧ Below w.heap.size w w' := by
  refine (getDigests_any A b c w hr hc hl).mono ?_
  rintro e w' ⟨v, rfl, ho, hb⟩
  obtain ⟨A', c', rfl, h1, h2, h3⟩ := own_form ho
  exact ⟨A', c', rfl, h3, hb⟩

/-- A new block reads as the cells that it was made of. -/
theorem rd_new (W : World) (xs : List Value) (t : TypeId) : Rd (W.alloc (.cells xs.toArray t)) (W.alloc (.cells xs.toArray t)).heap.size (some ⟨W.heap.size, 0, none⟩) xs := by
  intro _
  refine ⟨W.heap.size, 0, rfl, by simp, fun j u hu => ?_⟩
  rw [Nat.zero_add, cell_of_row _ _ _ _ _ _ (heap_alloc_new W _)]
  simpa using hu
end Go.Proofs.Ytooanlmmplbnoaa
