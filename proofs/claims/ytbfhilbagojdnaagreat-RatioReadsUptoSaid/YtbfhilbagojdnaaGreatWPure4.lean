/-
  The plain mathematics of the order of encodings: the encodings of integers, compared byte by byte, have the order of the integers.
  No condition but that the integers are int64s; it speaks of lists of bytes and of numbers alone.
-/
import Derived.Test.YtbfhilbagojdnaaGreatWPure2
import GoSem.Op.String
namespace Go.Proofs.YtbfhilbagojdnaaGreat.W1
namespace Wr
open Go.Op (bytesLess)

theorem less_nil (a : List UInt8) : bytesLess a [] = false := by cases a <;> rfl
theorem less_cons (x y : UInt8) (a b : List UInt8) : bytesLess (x :: a) (y :: b) = (decide (x < y) || (x == y && bytesLess a b)) := rfl
theorem less_head {x y : UInt8} (a b : List UInt8) (h : x.toNat < y.toNat) : bytesLess (x :: a) (y :: b) = true := by
  rw [less_cons]; simp [UInt8.lt_iff_toNat_lt, h]
theorem less_head_no {x y : UInt8} (a b : List UInt8) (h : y.toNat < x.toNat) : bytesLess (x :: a) (y :: b) = false := by
  rw [less_cons]
  have h1 : ¬ x < y := by rw [UInt8.lt_iff_toNat_lt]; omega
  have h2 : x ≠ y := by rintro rfl; omega
  simp [h1, h2]
theorem less_same (x : UInt8) (a b : List UInt8) : bytesLess (x :: a) (x :: b) = bytesLess a b := by
  rw [less_cons]; simp [UInt8.lt_irrefl]
theorem val_cons (c : UInt8) (l : List UInt8) : val (c :: l) = c.toNat * 256 ^ l.length + val l := by
  suffices h : ∀ r : List UInt8, val (c :: r.reverse) = c.toNat * 256 ^ r.reverse.length + val r.reverse by
    have := h l.reverse; simpa using this
  intro r
  induction r with
  | nil => simp [val]
  | cons d r ih =>
    rw [List.reverse_cons, ← List.cons_append, val_snoc, val_snoc, ih, List.length_append, List.length_singleton, Nat.pow_succ, Nat.add_mul]
    rw [Nat.mul_assoc]; omega
/-- Byte strings of one length have the order of their numbers. -/
theorem less_val : ∀ (a b : List UInt8), a.length = b.length → bytesLess a b = decide (val a < val b) := by
  intro a
  induction a with
  | nil => intro b h; cases b with
    | nil => simp [less_nil]
    | cons y b => simp at h
  | cons x a ih =>
    intro b h
    cases b with
    | nil => simp at h
    | cons y b =>
      have hl : a.length = b.length := by simpa using h
      have ha := val_lt a
      have hb := val_lt b
      rw [val_cons, val_cons, hl]
      rw [hl] at ha
      rcases Nat.lt_trichotomy x.toNat y.toNat with hxy | hxy | hxy
      · rw [less_head _ _ hxy]
        symm
        rw [decide_eq_true_iff]
        have : (x.toNat + 1) * 256 ^ b.length ≤ y.toNat * 256 ^ b.length := Nat.mul_le_mul_right _ hxy
        rw [Nat.add_mul] at this
        omega
      · obtain rfl : x = y := UInt8.toNat.inj hxy
        rw [less_same, ih b hl]
        congr 1
        simp
      · rw [less_head_no _ _ hxy]
        symm
        rw [decide_eq_false_iff_not]
        have : (y.toNat + 1) * 256 ^ b.length ≤ x.toNat * 256 ^ b.length := Nat.mul_le_mul_right _ hxy
        rw [Nat.add_mul] at this
        omega
theorem flip_toNat (c : UInt8) : (c ^^^ 255).toNat = 255 - c.toNat := byte_all (fun c => (c ^^^ 255).toNat = 255 - c.toNat) (by decide +kernel) c
/-- Complemented, the order turns round. -/
theorem less_flip : ∀ (a b : List UInt8), a.length = b.length → bytesLess (a.map (· ^^^ 255)) (b.map (· ^^^ 255)) = bytesLess b a := by
  intro a
  induction a with
  | nil => intro b h; cases b with
    | nil => rfl
    | cons y b => simp at h
  | cons x a ih =>
    intro b h
    cases b with
    | nil => simp at h
    | cons y b =>
      have hl : a.length = b.length := by simpa using h
      have hx := x.toNat_lt
      have hy := y.toNat_lt
      rw [List.map_cons, List.map_cons]
      rcases Nat.lt_trichotomy x.toNat y.toNat with hxy | hxy | hxy
      · rw [less_head_no _ _ (by rw [flip_toNat, flip_toNat]; omega), less_head_no _ _ hxy]
      · obtain rfl : x = y := UInt8.toNat.inj hxy
        rw [less_same, less_same, ih b hl]
      · rw [less_head _ _ (by rw [flip_toNat, flip_toNat]; omega), less_head _ _ hxy]
theorem val_ge (c : UInt8) (l : List UInt8) (h : c ≠ 0) : 256 ^ l.length ≤ val (c :: l) := by
  rw [val_cons]
  have : 0 < c.toNat := by
    rcases Nat.eq_zero_or_pos c.toNat with h0 | h0
    · exact absurd (UInt8.toNat.inj (by simpa using h0)) h
    · exact h0
  have := Nat.mul_le_mul_right (256 ^ l.length) this
  omega
/-- More digits stand for a greater number. -/
theorem digs_longer (a b : Nat) (ha : a < 256 ^ 8) (hb : b < 256 ^ 8) (h : (digs 8 a).length < (digs 8 b).length) : a < b := by
  have h1 := val_lt (digs 8 a)
  rw [val_digs 8 a ha] at h1
  cases hd : digs 8 b with
  | nil => rw [hd] at h; simp at h
  | cons c l =>
    have hz := digs_head 8 b hb
    rw [hd] at hz h
    have h2 := val_ge c l (by rintro rfl; simp at hz)
    rw [← hd, val_digs 8 b hb] at h2
    have h3 : (256 : Nat) ^ (digs 8 a).length ≤ 256 ^ l.length := Nat.pow_le_pow_right (by decide) (by simp at h; omega)
    omega
theorem pos_less (a b : Nat) (ha : a < 256 ^ 8) (hb : b < 256 ^ 8) :
    bytesLess (UInt8.ofNat (128 + (digs 8 a).length) :: digs 8 a) (UInt8.ofNat (128 + (digs 8 b).length) :: digs 8 b) = decide (a < b) := by
  have la := digs_len 8 a
  have lb := digs_len 8 b
  have ea : (UInt8.ofNat (128 + (digs 8 a).length)).toNat = 128 + (digs 8 a).length := by rw [UInt8.toNat_ofNat']; omega
  have eb : (UInt8.ofNat (128 + (digs 8 b).length)).toNat = 128 + (digs 8 b).length := by rw [UInt8.toNat_ofNat']; omega
  rcases Nat.lt_trichotomy (digs 8 a).length (digs 8 b).length with h | h | h
  · rw [less_head _ _ (by omega)]
    symm; rw [decide_eq_true_iff]; exact digs_longer a b ha hb h
  · rw [h, less_same, less_val _ _ h, val_digs 8 a ha, val_digs 8 b hb]
  · rw [less_head_no _ _ (by omega)]
    symm; rw [decide_eq_false_iff_not]; have := digs_longer b a hb ha h; omega
theorem less_flip_cons (x y : UInt8) (a b : List UInt8) : bytesLess ((x :: a).map (· ^^^ 255)) ((y :: b).map (· ^^^ 255)) = bytesLess (y :: b) (x :: a) ∨ x = y := by
  have hx := x.toNat_lt
  have hy := y.toNat_lt
  rw [List.map_cons, List.map_cons]
  rcases Nat.lt_trichotomy x.toNat y.toNat with hxy | hxy | hxy
  · left; rw [less_head_no _ _ (by rw [flip_toNat, flip_toNat]; omega), less_head_no _ _ hxy]
  · right; exact UInt8.toNat.inj hxy
  · left; rw [less_head _ _ (by rw [flip_toNat, flip_toNat]; omega), less_head _ _ hxy]
/-- The encodings have the order of the integers. -/
theorem enc_less (m n : Int) (m0 : -9223372036854775808 ≤ m) (m1 : m ≤ 9223372036854775807) (n0 : -9223372036854775808 ≤ n) (n1 : n ≤ 9223372036854775807) : bytesLess (enc m) (enc n) = decide (m < n) := by
  have hm := mag_lt8 m m0 m1
  have hn := mag_lt8 n n0 n1
  have lm := digs_len 8 (mag m)
  have ln := digs_len 8 (mag n)
  have em : (UInt8.ofNat (128 + (digs 8 (mag m)).length)).toNat = 128 + (digs 8 (mag m)).length := by rw [UInt8.toNat_ofNat']; omega
  have en : (UInt8.ofNat (128 + (digs 8 (mag n)).length)).toNat = 128 + (digs 8 (mag n)).length := by rw [UInt8.toNat_ofNat']; omega
  have x0 : ∀ l : List UInt8, l.map (· ^^^ 0) = l := fun l => by simp
  unfold enc
  by_cases hm0 : m < 0 <;> by_cases hn0 : n < 0
  · have fm : fl m = 255 := by simp [fl, hm0]
    have fn : fl n = 255 := by simp [fl, hn0]
    rw [fm, fn]
    have hd : bytesLess ((UInt8.ofNat (128 + (digs 8 (mag m)).length) :: digs 8 (mag m)).map (· ^^^ 255)) ((UInt8.ofNat (128 + (digs 8 (mag n)).length) :: digs 8 (mag n)).map (· ^^^ 255)) = bytesLess (UInt8.ofNat (128 + (digs 8 (mag n)).length) :: digs 8 (mag n)) (UInt8.ofNat (128 + (digs 8 (mag m)).length) :: digs 8 (mag m)) := by
      rcases less_flip_cons (UInt8.ofNat (128 + (digs 8 (mag m)).length)) (UInt8.ofNat (128 + (digs 8 (mag n)).length)) (digs 8 (mag m)) (digs 8 (mag n)) with h | h
      · exact h
      · have := congrArg UInt8.toNat h
        exact less_flip _ _ (by simp; omega)
    rw [hd, pos_less _ _ hn hm]
    have h1 : mag m = (-1 - m).toNat := by unfold mag; rw [if_pos hm0]
    have h2 : mag n = (-1 - n).toNat := by unfold mag; rw [if_pos hn0]
    rw [h1, h2]
    by_cases h : m < n
    · rw [decide_eq_true h, decide_eq_true (by omega)]
    · rw [decide_eq_false h, decide_eq_false (by omega)]
  · have fm : fl m = 255 := by simp [fl, hm0]
    have fn : fl n = 0 := by simp [fl]; omega
    rw [fm, fn, x0, List.map_cons, less_head _ _ (by rw [flip_toNat]; omega)]
    symm; rw [decide_eq_true_iff]; omega
  · have fm : fl m = 0 := by simp [fl]; omega
    have fn : fl n = 255 := by simp [fl, hn0]
    rw [fm, fn, x0, List.map_cons, less_head_no _ _ (by rw [flip_toNat]; omega)]
    symm; rw [decide_eq_false_iff_not]; omega
  · have fm : fl m = 0 := by simp [fl]; omega
    have fn : fl n = 0 := by simp [fl]; omega
    rw [fm, fn, x0, x0, pos_less _ _ hm hn]
    have h1 : mag m = m.toNat := by unfold mag; rw [if_neg hm0]
    have h2 : mag n = n.toNat := by unfold mag; rw [if_neg hn0]
    rw [h1, h2]
    by_cases h : m < n
    · rw [decide_eq_true h, decide_eq_true (by omega)]
    · rw [decide_eq_false h, decide_eq_false (by omega)]
/-- An encoding is no beginning of another one. -/
theorem enc_take (m n : Int) (k : Nat) (hk : k = min (enc m).length (enc n).length) (m0 : -9223372036854775808 ≤ m) (m1 : m ≤ 9223372036854775807) (n0 : -9223372036854775808 ≤ n) (n1 : n ≤ 9223372036854775807) :
    (enc m).take k = (enc n).take k ↔ m = n := by
  constructor
  · intro h
    have dm := decInt_enc m [] m0 m1
    have dn := decInt_enc n [] n0 n1
    rw [List.append_nil] at dm dn
    rcases Nat.le_total (enc m).length (enc n).length with hl | hl
    · rw [Nat.min_eq_left hl] at hk
      rw [hk, List.take_of_length_le (Nat.le_refl _)] at h
      rcases Nat.lt_or_ge (enc m).length (enc n).length with h2 | h2
      · have := decInt_cut n (enc m).length h2
        rw [← h, dm] at this
        simp at this
      · rw [List.take_of_length_le h2] at h
        rw [h, dn] at dm
        simp at dm; exact dm.symm
    · rw [Nat.min_eq_right hl] at hk
      rw [hk, List.take_of_length_le (l := enc n) (Nat.le_refl _)] at h
      rcases Nat.lt_or_ge (enc n).length (enc m).length with h2 | h2
      · have := decInt_cut m (enc n).length h2
        rw [h, dn] at this
        simp at this
      · rw [List.take_of_length_le h2] at h
        rw [h, dn] at dm
        simp at dm; exact dm.symm
  · rintro rfl; rfl
theorem enc_inj (m n : Int) (m0 : -9223372036854775808 ≤ m) (m1 : m ≤ 9223372036854775807) (n0 : -9223372036854775808 ≤ n) (n1 : n ≤ 9223372036854775807) : enc m = enc n ↔ m = n := by
  constructor
  · intro h
    exact (enc_take m n _ rfl m0 m1 n0 n1).1 (by rw [h])
  · rintro rfl; rfl
end Wr
end Go.Proofs.YtbfhilbagojdnaaGreat.W1
