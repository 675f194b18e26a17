/-
  Two different digests have digits that cross.
-/
import Derived.Test.YtgonidjajmjniaaDoorDigs
namespace Go.Proofs.YtgonidjajmjniaaDoor
open Go.RowKit Wr Sh
set_option linter.unusedVariables false

theorem lack_mono (d e : List UInt8) : ∀ j, (∀ i, i < j → tdig e i ≤ tdig d i) → lack d j ≤ lack e j ∧ (lack d j = lack e j → ∀ i, i < j → tdig d i = tdig e i) := by
  intro j
  induction j with
  | zero => intro _; exact ⟨Nat.le_refl _, fun _ i hi => absurd hi (by omega)⟩
  | succ j ih =>
    intro h
    obtain ⟨h1, h2⟩ := ih (fun i hi => h i (by omega))
    have h3 := h j (by omega)
    have h4 := tdig_le d j
    have h5 := tdig_le e j
    rw [lack, lack]
    refine ⟨by omega, fun he i hi => ?_⟩
    rcases Nat.lt_or_ge i j with hl | hl
    · exact h2 (by omega) i hl
    · rw [show i = j by omega]; omega
theorem low_sum (n : Nat) (h : n < 256) : n = 64 * low n 3 + 16 * low n 2 + 4 * low n 1 + low n 0 := by
  simp only [low, Nat.pow_zero, Nat.pow_one, show 4 ^ 2 = 16 by rfl, show 4 ^ 3 = 64 by rfl]; omega
theorem tdig_at (d : List UInt8) (i k : Nat) (hk : k < 4) : tdig d (4 * i + k) = low (d.getD i 0).toNat (3 - k) := by
  unfold tdig
  rw [show (4 * i + k) / 4 = i by omega, show (4 * i + k) % 4 = k by omega]
theorem digs_bytes (d e : List UInt8) (hd : d.length = 16) (he : e.length = 16) (h : ∀ i, i < 64 → tdig d i = tdig e i) : d = e := by
  refine List.ext_getElem (by omega) fun i h1 h2 => ?_
  have hb (l : List UInt8) (hl : i < l.length) : l.getD i 0 = l[i] := by rw [List.getD_eq_getElem?_getD, List.getElem?_eq_getElem hl]; rfl
  have k0 := h (4 * i + 0) (by omega)
  have k1 := h (4 * i + 1) (by omega)
  have k2 := h (4 * i + 2) (by omega)
  have k3 := h (4 * i + 3) (by omega)
  rw [tdig_at _ _ _ (by omega), tdig_at _ _ _ (by omega), hb d h1, hb e h2] at k0 k1 k2 k3
  apply UInt8.toNat_inj.1
  rw [low_sum d[i].toNat d[i].toNat_lt, low_sum e[i].toNat e[i].toNat_lt]
  simp only [Nat.sub_zero, Nat.sub_self, show 3 - 1 = 2 by rfl, show 3 - 2 = 1 by rfl] at k0 k1 k2 k3
  rw [k0, k1, k2, k3]
/-- Different digests: somewhere the first one's digit is less. -/
theorem less_some (d e : List UInt8) (hd : d.length = 16) (he : e.length = 16) (hne : d ≠ e) : ∃ i, i < 68 ∧ sdig d i < sdig e i := by
  apply Classical.byContradiction
  intro hno
  have hall : ∀ i, i < 68 → sdig e i ≤ sdig d i := fun i hi => Nat.le_of_not_lt fun h => hno ⟨i, hi, h⟩
  have ht : ∀ i, i < 64 → tdig e i ≤ tdig d i := fun i hi => by have := hall i (by omega); unfold sdig at this; rwa [if_pos hi, if_pos hi] at this
  obtain ⟨h1, h2⟩ := lack_mono d e 64 ht
  have hc (k : Nat) (hk : k < 4) : low (lack e 64) (3 - k) ≤ low (lack d 64) (3 - k) := by
    have := hall (64 + k) (by omega)
    unfold sdig at this
    rw [if_neg (by omega), if_neg (by omega), show 67 - (64 + k) = 3 - k by omega] at this
    exact this
  have c0 := hc 0 (by omega)
  have c1 := hc 1 (by omega)
  have c2 := hc 2 (by omega)
  have c3 := hc 3 (by omega)
  have l1 := lack_le d 64
  have l2 := lack_le e 64
  have s1 := low_sum (lack d 64) (by omega)
  have s2 := low_sum (lack e 64) (by omega)
  simp only [Nat.sub_zero, Nat.sub_self, show 3 - 1 = 2 by rfl, show 3 - 2 = 1 by rfl] at c0 c1 c2 c3
  exact hne (digs_bytes d e hd he (h2 (by omega)))
/-- Whether a digit of the first ones is less, and greater. -/
def lessB (d e : List UInt8) (j : Nat) : Bool := (List.range j).any fun i => decide (sdig d i < sdig e i)
theorem lessB_succ (d e : List UInt8) (j : Nat) : lessB d e (j + 1) = (lessB d e j || decide (sdig d j < sdig e j)) := by
  unfold lessB; rw [List.range_succ, List.any_append]; simp
theorem lessB_all (d e : List UInt8) (hd : d.length = 16) (he : e.length = 16) (hne : d ≠ e) : lessB d e 68 = true := by
  obtain ⟨i, hi, h⟩ := less_some d e hd he hne
  unfold lessB
  rw [List.any_eq_true]
  exact ⟨i, List.mem_range.2 hi, by simpa using h⟩
end Go.Proofs.YtgonidjajmjniaaDoor
