/-
  The contracts of wire.appendBytes, Bytes, Ints, Strings and Digests: they append, or return, the encodings.
  No condition but that the arguments can be read and that a slice that is appended to is of the call's own making; sums of lengths below 2^40.
-/
import Derived.Test.YtbfhilbagojdnaaGreatWInt
import Derived.Test.YtbfhilbagojdnaaGreatWPure3
import Derived.Lib.AppendStr
namespace Go.Proofs.YtbfhilbagojdnaaGreat.W1
open Go.RowKit Go.Proofs.YtbfhilbagojdnaaGreat.Wr Go.Proofs.YtbfhilbagojdnaaGreat.W1.Wr
set_option linter.unusedVariables false
set_option maxRecDepth 100000

/-- The encoding of a list behind j elements. -/
def partE {α : Type} (e : α → List UInt8) (l : List α) (j : Nat) : List UInt8 := enc (l.length : Int) ++ ((l.take j).map e).flatten
theorem partE_zero {α : Type} (e : α → List UInt8) (l : List α) : partE e l 0 = enc (l.length : Int) := by simp [partE]
theorem partE_succ {α : Type} (e : α → List UInt8) (l : List α) (j : Nat) (h : j < l.length) : partE e l (j + 1) = partE e l j ++ e l[j] := by
  unfold partE
  rw [List.take_succ_eq_append_getElem h, List.map_append, List.flatten_append, ← List.append_assoc]
  simp only [List.map_cons, List.map_nil, List.flatten_cons, List.flatten_nil, List.append_nil]
theorem partE_all {α : Type} (e : α → List UInt8) (l : List α) : partE e l l.length = encList e l := by simp [partE, encList]
theorem partE_len {α : Type} (e : α → List UInt8) (l : List α) (m j : Nat) (h : ∀ x ∈ l, (e x).length ≤ m) (hj : j ≤ l.length) : (partE e l j).length ≤ 9 + m * j := by
  induction j with
  | zero => rw [partE_zero]; have := enc_le (l.length : Int); omega
  | succ j ih =>
    rw [partE_succ e l j (by omega), List.length_append]
    have := ih (by omega)
    have := h l[j] (List.getElem_mem _)
    rw [Nat.mul_succ]; omega

/-- The cells of integers, and of strings. -/
def I64 (l : List Int) : List Value := l.map (Value.int .i64)
theorem I64_get (l : List Int) (j : Nat) (h : j < l.length) : (I64 l)[j]? = some (.int .i64 l[j]) := by simp [I64, h]
set_option maxRecDepth 100000 in
set_option maxHeartbeats 400000 in
theorem ints_any (A : Option Addr) (l : List Int) (c : Nat) (w : World) (hr : Rd w w.heap.size A (I64 l)) (hc : l.length ≤ c) (hl : l.length ≤ 1073741824) (hi : ∀ x ∈ l, okInt x) :
    Calls Tryz.prog 76 #[.slice A l.length c] w fun e w' => ∃ v', e = .returned v' ∧ w'.ownsRow w.heap.size 5 1 v' (encInts l).length (B8 (encInts l)) ∧ Below w.heap.size w w' := by
  have hz := enc_le (l.length : Int)
  obtain ⟨N, hN⟩ : ∃ N, N = l.length := ⟨_, rfl⟩
  rw [← hN] at hc hl hz ⊢
  have HN := Lib.hid hN
  clear hN
  go_enter Tryz.func76, Tryz.ntmps76
  go_wp2_with (go_at_call 116; refine (int_any _ _ (by omega) (by omega)).mono ?_; rintro e w1 ⟨v1, rfl, ho1, hb1⟩)
  go_loopw [3, 11] (fun s3 s11 wr => ∃ j : Nat, j ≤ N ∧ s11 = .int .i64 j ∧ wr.ownsRow w.heap.size 5 1 s3 (partE enc l j).length (B8 (partE enc l j)) ∧ Below w.heap.size w wr)
    (fun _ s11 _ => N - (intOf s11).toNat)
  case atStart => exact ⟨0, Nat.zero_le _, rfl, by rw [partE_zero, ← HN.out]; exact ho1, hb1⟩
  case round =>
    obtain ⟨j, hj, rfl, ho, hb⟩ := hrel
    by_cases hlt : j < N
    · have hjl : j < l.length := by have := HN.out; omega
      obtain ⟨g, o, rfl, hg, hcell⟩ := (hr.below hb) (by intro e; have := congrArg List.length e; simp only [I64, List.length_map, List.length_nil] at this; omega)
      have hcj : wr.cell? ⟨g, o + j, none⟩ = some (.int .i64 l[j]) := hcell j _ (I64_get l j hjl)
      have hb2 := hi l[j] (List.getElem_mem _)
      have hb3 := partE_len enc l 9 j (fun x _ => (enc_le x).2) (by have := HN.out; omega)
      have hsz := hb.size
      have HP := Lib.hid (partE_succ enc l j hjl)
      clear hcell
      go_wp2_with (go_at_call 117; refine (appendInt_any _ _ _ w.heap.size _ _ hsz ho (by omega) hb2.1 hb2.2).mono ?_; rintro e w2 ⟨v2, rfl, ho2, hbb2⟩)
      go_roundw
      case rel => exact ⟨j + 1, by omega, by go_num, by rw [HP.out, List.length_append]; exact ho2, hb.trans hbb2⟩
      case measure => simp only [intOf]; omega
    · obtain rfl : j = N := by omega
      go_wp2_with fail
      go_ret
      exact ⟨_, rfl, by unfold encInts; rw [← partE_all, ← HN.out]; exact ho, hb⟩

end Go.Proofs.YtbfhilbagojdnaaGreat.W1
