/-
  The five decodings of an encoding cut short: each says ErrMore (3).
  Condition: the encoding is at most 2^30 bytes long.
-/
import Derived.Test.YtooanlmmplbnoaaLawC
import Derived.Test.YtooanlmmplbnoaaFew
namespace Go.Proofs.Ytooanlmmplbnoaa
open Go.RowKit Wr
set_option linter.unusedVariables false

/-- The call says ErrMore, and turns no block that was there. -/
def More (w : World) (e : Ending) (w' : World) : Prop := ∃ v u : Value, e = .returned (.tuple #[v, u, .int .i64 3]) ∧ Below w.heap.size w w'
theorem rd_cut {w : World} {B : Nat} {A : Option Addr} {b : List UInt8} (hr : Rd w B A (B8 b)) (i : Nat) : Rd w B A (B8 (b.take i)) := by
  have := hr.take i
  rwa [show (B8 b).take i = B8 (b.take i) by simp [B8]] at this
theorem take_len {b : List UInt8} {i : Nat} (h : i < b.length) : (b.take i).length = i := by rw [List.length_take]; omega

theorem getInt_cut (A : Option Addr) (n : Int) (c i : Nat) (w : World) (hr : Rd w w.heap.size A (B8 (enc n))) (hc : (enc n).length ≤ c) (hi : i < (enc n).length) :
    Calls Try.prog 24 #[.slice A i c] w (More w) := by
  have h9 := (enc_le n).2
  have h := getInt_any A ((enc n).take i) c w _ (rd_cut hr i) (by rw [take_len hi]; omega) (by rw [take_len hi]; omega)
  rw [take_len hi, decInt_cut n i hi] at h
  refine h.mono ?_
  rintro e w' ⟨rfl, rfl⟩
  exact ⟨_, _, rfl, Below.refl _ _⟩
theorem getBytes_cut (A : Option Addr) (s : List UInt8) (c i : Nat) (w : World) (hr : Rd w w.heap.size A (B8 (encStr s))) (hc : (encStr s).length ≤ c) (hl : (encStr s).length ≤ 1073741824) (hi : i < (encStr s).length) :
    Calls Try.prog 26 #[.slice A i c] w (More w) := by
  have hs : s.length ≤ (encStr s).length := by unfold encStr; rw [List.length_append]; omega
  have h := getBytes_any A ((encStr s).take i) c w _ (rd_cut hr i) (by rw [take_len hi]; omega) (by rw [take_len hi]; omega)
  rw [take_len hi, decStr_cut s i (by omega) hi] at h
  refine h.mono ?_
  rintro e w' ⟨rfl, rfl⟩
  exact ⟨_, _, rfl, Below.refl _ _⟩
theorem getInts_cut (A : Option Addr) (l : List Int) (c i : Nat) (w : World) (hr : Rd w w.heap.size A (B8 (encInts l))) (hc : (encInts l).length ≤ c) (hl : (encInts l).length ≤ 1073741824) (hn : l.length ≤ 1073741824) (ho : ∀ x ∈ l, okInt x) (hi : i < (encInts l).length) :
    Calls Try.prog 28 #[.slice A i c] w (More w) := by
  have h := getInts_any A ((encInts l).take i) c w (rd_cut hr i) (by rw [take_len hi]; omega) (by rw [take_len hi]; omega)
  have hcut : (decInts ((encInts l).take i)).2.2 = 3 := list_cut codecInt l i (by omega) ho hi
  rw [take_len hi, hcut] at h
  refine h.mono ?_
  rintro e w' ⟨v, rfl, _, hb⟩
  exact ⟨_, _, rfl, hb⟩
theorem getStrings_cut (A : Option Addr) (l : List (List UInt8)) (c i : Nat) (w : World) (hr : Rd w w.heap.size A (B8 (encStrs l))) (hc : (encStrs l).length ≤ c) (hl : (encStrs l).length ≤ 1073741824) (hn : l.length ≤ 1073741824) (ho : ∀ x ∈ l, okStr x) (hi : i < (encStrs l).length) :
    Calls Try.prog 31 #[.slice A i c] w (More w) := by
  have h := getStrings_any A ((encStrs l).take i) c w (rd_cut hr i) (by rw [take_len hi]; omega) (by rw [take_len hi]; omega)
  have hcut : (decStrs ((encStrs l).take i)).2.2 = 3 := list_cut codecStr l i (by omega) ho hi
  rw [take_len hi, hcut] at h
  refine h.mono ?_
  rintro e w' ⟨v, rfl, _, hb⟩
  exact ⟨_, _, rfl, hb⟩
theorem getDigests_cut (A : Option Addr) (l : List (List UInt8)) (c i : Nat) (w : World) (hr : Rd w w.heap.size A (B8 (encDigs l))) (hc : (encDigs l).length ≤ c) (hl : (encDigs l).length ≤ 1073741824) (hn : l.length ≤ 1073741824) (ho : ∀ x ∈ l, okDig x) (hi : i < (encDigs l).length) :
    Calls Try.prog 34 #[.slice A i c] w (More w) := by
  have h := getDigests_any A ((encDigs l).take i) c w (rd_cut hr i) (by rw [take_len hi]; omega) (by rw [take_len hi]; omega)
  have hcut : (decDigs ((encDigs l).take i)).2.2 = 3 := list_cut codecDig l i (by omega) ho hi
  rw [take_len hi, hcut] at h
  refine h.mono ?_
  rintro e w' ⟨v, rfl, _, hb⟩
  exact ⟨_, _, rfl, hb⟩
end Go.Proofs.Ytooanlmmplbnoaa
