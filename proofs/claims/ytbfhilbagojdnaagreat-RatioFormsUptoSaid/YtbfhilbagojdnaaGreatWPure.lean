/-
  The plain mathematics of the wire encodings: the encoding of an integer, its decoding, and that they are inverse to each other.
  No condition; it speaks of lists of bytes and of numbers alone.
-/
namespace Go.Proofs.YtbfhilbagojdnaaGreat.W1
namespace Wr

/-- The digits of m in base 256, most significant first, none for 0; f bounds their number. -/
def digs : Nat → Nat → List UInt8
  | 0, _ => []
  | f + 1, m => if m = 0 then [] else digs f (m / 256) ++ [UInt8.ofNat (m % 256)]

def mag (n : Int) : Nat := if n < 0 then (-1 - n).toNat else n.toNat
def fl (n : Int) : UInt8 := if n < 0 then 255 else 0

/-- The encoding of an integer. -/
def enc (n : Int) : List UInt8 := (UInt8.ofNat (128 + (digs 8 (mag n)).length) :: digs 8 (mag n)).map (· ^^^ fl n)

/-- The number that digits stand for. -/
def val (l : List UInt8) : Nat := l.foldl (fun a c => a * 256 + c.toNat) 0

theorem digs_zero (f : Nat) : digs f 0 = [] := by cases f <;> simp [digs]
theorem digs_step (f m : Nat) (h : m ≠ 0) : digs (f + 1) m = digs f (m / 256) ++ [UInt8.ofNat (m % 256)] := by simp [digs, h]
theorem digs_len (f m : Nat) : (digs f m).length ≤ f := by
  induction f generalizing m with
  | zero => simp [digs]
  | succ f ih =>
    unfold digs
    split
    · simp
    · have := ih (m / 256)
      simp; omega
theorem val_snoc (l : List UInt8) (c : UInt8) : val (l ++ [c]) = val l * 256 + c.toNat := by simp [val]
theorem val_digs (f m : Nat) (h : m < 256 ^ f) : val (digs f m) = m := by
  induction f generalizing m with
  | zero => simp at h; subst h; rfl
  | succ f ih =>
    unfold digs
    split
    · next h0 => subst h0; rfl
    · have h2 : m / 256 < 256 ^ f := by rw [Nat.div_lt_iff_lt_mul (by decide)]; rw [Nat.pow_succ] at h; omega
      rw [val_snoc, ih _ h2]
      simp
      omega
theorem mag_lt (n : Int) (h0 : -9223372036854775808 ≤ n) (h1 : n ≤ 9223372036854775807) : mag n < 9223372036854775808 := by
  unfold mag; split <;> omega
theorem pow8 : (256 : Nat) ^ 8 = 18446744073709551616 := by decide
theorem mag_lt8 (n : Int) (h0 : -9223372036854775808 ≤ n) (h1 : n ≤ 9223372036854775807) : mag n < 256 ^ 8 := by
  have := mag_lt n h0 h1; rw [pow8]; omega
theorem enc_len (n : Int) : (enc n).length = 1 + (digs 8 (mag n)).length := by simp [enc]; omega
theorem enc_le (n : Int) : 1 ≤ (enc n).length ∧ (enc n).length ≤ 9 := by
  have := digs_len 8 (mag n)
  have := enc_len n
  omega

/-- The complement that the first byte of an encoding asks for. -/
def flag (h : UInt8) : UInt8 := if h < 128 then 255 else 0
/-- The number of bytes behind the first byte. -/
def cnt (h : UInt8) : Nat := (h ^^^ flag h).toNat - 128
def maxI : Nat := 9223372036854775807
theorem maxI_lt (m : Nat) : maxI < m ↔ 9223372036854775807 < m := Iff.rfl
/-- The decoding of an integer: the integer, the number of its bytes, the error. -/
def decInt : List UInt8 → Int × Nat × Nat
  | [] => (0, 0, 3)
  | h :: t =>
    if 8 < cnt h then (0, 0, 2)
    else if t.length < cnt h then (0, 0, 3)
    else if (0 < cnt h ∧ t.head? = some (flag h)) ∨ maxI < val ((t.take (cnt h)).map (· ^^^ flag h)) then (0, 0, 2)
    else (if flag h = 0 then (val ((t.take (cnt h)).map (· ^^^ flag h)) : Int) else -1 - (val ((t.take (cnt h)).map (· ^^^ flag h)) : Int), 1 + cnt h, 0)

theorem decInt_cons (h : UInt8) (t : List UInt8) : decInt (h :: t) = if 8 < cnt h then (0, 0, 2) else if t.length < cnt h then (0, 0, 3)
    else if (0 < cnt h ∧ t.head? = some (flag h)) ∨ maxI < val ((t.take (cnt h)).map (· ^^^ flag h)) then (0, 0, 2)
    else (if flag h = 0 then (val ((t.take (cnt h)).map (· ^^^ flag h)) : Int) else -1 - (val ((t.take (cnt h)).map (· ^^^ flag h)) : Int), 1 + cnt h, 0) := by
  simp only [decInt]
theorem byte_all (p : UInt8 → Prop) [DecidablePred p] (h : ∀ i : Fin 256, p (UInt8.ofNat i.val)) (c : UInt8) : p c := by
  have := h ⟨c.toNat, c.toNat_lt⟩
  simpa using this
theorem cnt_eq (h : UInt8) : (h ^^^ flag h).toNat = cnt h + 128 := by
  have : 128 ≤ (h ^^^ flag h).toNat := byte_all (fun h => 128 ≤ (h ^^^ flag h).toNat) (by decide +kernel) h
  unfold cnt; omega
theorem flag_cases (h : UInt8) : (flag h = 0 ∧ 128 ≤ h.toNat) ∨ (flag h = 255 ∧ h.toNat < 128) := by
  unfold flag
  split
  · next hh => exact .inr ⟨rfl, by simpa [UInt8.lt_iff_toNat_lt] using hh⟩
  · next hh => exact .inl ⟨rfl, by simpa [UInt8.lt_iff_toNat_lt] using hh⟩
theorem val_lt (l : List UInt8) : val l < 256 ^ l.length := by
  suffices h : ∀ r : List UInt8, val r.reverse < 256 ^ r.length by simpa using h l.reverse
  intro r
  induction r with
  | nil => simp [val]
  | cons c r ih =>
    rw [List.reverse_cons, val_snoc, List.length_cons, Nat.pow_succ]
    have := c.toNat_lt
    omega
end Wr
end Go.Proofs.YtbfhilbagojdnaaGreat.W1
