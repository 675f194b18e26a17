/-
  The plain mathematics of decoding: encoding and decoding of integers are inverse to each other; lengths, byte strings and lists.
  No condition; it speaks of lists of bytes and of numbers alone.
-/
import Derived.Test.YtbfhilbagojdnaaGreatWPure
namespace Go.Proofs.YtbfhilbagojdnaaGreat.W1
namespace Wr

theorem val_pos (l : List UInt8) (c : UInt8) (h : l.head? = some c) (hc : c ≠ 0) : 0 < val l := by
  suffices hs : ∀ r : List UInt8, r.reverse.head? = some c → 0 < val r.reverse by
    have := hs l.reverse (by simpa using h); simpa using this
  intro r
  induction r with
  | nil => intro h; simp at h
  | cons d r ih =>
    intro h
    rw [List.reverse_cons] at h ⊢
    rw [val_snoc]
    cases hr : r.reverse with
    | nil =>
      rw [hr] at h
      simp at h
      subst h
      have : d.toNat ≠ 0 := fun e => hc (UInt8.toNat.inj (by simpa using e))
      omega
    | cons x y =>
      have := ih (by rw [hr] at h ⊢; simpa using h)
      rw [hr] at this
      omega
theorem digs_val (f : Nat) (l : List UInt8) (hf : l.length ≤ f) (hz : l.head? ≠ some 0) : digs f (val l) = l := by
  suffices hs : ∀ (r : List UInt8) (f : Nat), r.length ≤ f → r.reverse.head? ≠ some 0 → digs f (val r.reverse) = r.reverse by
    have := hs l.reverse f (by simpa using hf) (by simpa using hz); simpa using this
  intro r
  induction r with
  | nil => intro f _ _; simp [val, digs_zero]
  | cons d r ih =>
    intro f hf hz
    obtain ⟨f, rfl⟩ : ∃ f', f = f' + 1 := ⟨f - 1, by simp at hf; omega⟩
    rw [List.reverse_cons, val_snoc]
    have hd := d.toNat_lt
    have hne : val r.reverse * 256 + d.toNat ≠ 0 := by
      have hp : 0 < val (r.reverse ++ [d]) := by
        cases hh : (r.reverse ++ [d]).head? with
        | none => simp at hh
        | some c =>
          refine val_pos _ c hh ?_
          intro e
          subst e
          exact hz (by rw [List.reverse_cons]; exact hh)
      rw [val_snoc] at hp
      omega
    rw [digs_step _ _ hne]
    have e1 : (val r.reverse * 256 + d.toNat) / 256 = val r.reverse := by omega
    have e2 : (val r.reverse * 256 + d.toNat) % 256 = d.toNat := by omega
    rw [e1, e2, UInt8.ofNat_toNat]
    congr 1
    cases hr : r.reverse with
    | nil => simp [val, digs_zero]
    | cons x y =>
      rw [← hr]
      refine ih f (by simp at hf; omega) ?_
      rw [List.reverse_cons, hr] at hz
      rw [hr]
      simpa using hz
theorem digs_head (f m : Nat) (h : m < 256 ^ f) : (digs f m).head? ≠ some 0 := by
  induction f generalizing m with
  | zero => simp [digs]
  | succ f ih =>
    unfold digs
    split
    · simp
    · next h0 =>
      have h2 : m / 256 < 256 ^ f := by rw [Nat.div_lt_iff_lt_mul (by decide)]; rw [Nat.pow_succ] at h; omega
      have := ih _ h2
      cases hd : digs f (m / 256) with
      | nil =>
        have hv := val_digs f _ h2
        rw [hd] at hv
        simp [val] at hv
        simp only [List.nil_append, List.head?_cons, ne_eq, Option.some.injEq]
        intro e
        have := congrArg UInt8.toNat e
        simp at this
        omega
      | cons x y =>
        rw [hd] at this
        simpa using this
theorem xor_self_right (a f : UInt8) : a ^^^ f ^^^ f = a := by rw [UInt8.xor_assoc]; simp
theorem map_xor (l : List UInt8) (f : UInt8) : (l.map (· ^^^ f)).map (· ^^^ f) = l := by
  rw [List.map_map]
  conv => rhs; rw [← List.map_id l]
  apply List.map_congr_left
  intro x _
  exact xor_self_right x f
theorem fl_cases (n : Int) : fl n = 0 ∨ fl n = 255 := by unfold fl; split <;> simp
theorem head_facts (k : Nat) (hk : k ≤ 8) (f : UInt8) (hf : f = 0 ∨ f = 255) : flag (UInt8.ofNat (128 + k) ^^^ f) = f ∧ cnt (UInt8.ofNat (128 + k) ^^^ f) = k := by
  have h : ∀ k : Fin 9, (flag (UInt8.ofNat (128 + k.val) ^^^ 0) = 0 ∧ cnt (UInt8.ofNat (128 + k.val) ^^^ 0) = k.val) ∧ (flag (UInt8.ofNat (128 + k.val) ^^^ 255) = 255 ∧ cnt (UInt8.ofNat (128 + k.val) ^^^ 255) = k.val) := by decide +kernel
  have := h ⟨k, by omega⟩
  rcases hf with rfl | rfl
  · exact this.1
  · exact this.2
theorem int_back (n : Int) : (if fl n = 0 then (mag n : Int) else -1 - (mag n : Int)) = n := by
  unfold fl mag
  by_cases h : n < 0
  · simp [h]; omega
  · simp [h]; omega

/-- Decoding what was encoded. -/
theorem decInt_enc (n : Int) (t : List UInt8) (h0 : -9223372036854775808 ≤ n) (h1 : n ≤ 9223372036854775807) : decInt (enc n ++ t) = (n, (enc n).length, 0) := by
  have hm := mag_lt n h0 h1
  have hm8 := mag_lt8 n h0 h1
  have hk := digs_len 8 (mag n)
  have hh := head_facts _ hk (fl n) (fl_cases n)
  have he : enc n ++ t = (UInt8.ofNat (128 + (digs 8 (mag n)).length) ^^^ fl n) :: ((digs 8 (mag n)).map (· ^^^ fl n) ++ t) := by simp [enc]
  have ht : (((digs 8 (mag n)).map (· ^^^ fl n) ++ t).take (digs 8 (mag n)).length).map (· ^^^ fl n) = digs 8 (mag n) := by
    rw [List.take_left' (by simp), map_xor]
  rw [he, decInt_cons, hh.1, hh.2, if_neg (by omega), if_neg (by simp), ht, val_digs 8 _ hm8, if_neg, int_back, enc_len]
  rintro (⟨hp, hx⟩ | hx)
  · have hz := digs_head 8 (mag n) hm8
    cases hd : digs 8 (mag n) with
    | nil => rw [hd] at hp; simp at hp
    | cons x y =>
      rw [hd] at hx hz
      simp only [List.map_cons, List.cons_append, List.head?_cons, Option.some.injEq] at hx
      apply hz
      rw [List.head?_cons]
      congr 1
      have := congrArg (· ^^^ fl n) hx
      simpa [xor_self_right] using this
  · rw [maxI_lt] at hx; omega

/-- A proper beginning of an encoding. -/
theorem decInt_cut (n : Int) (i : Nat) (hi : i < (enc n).length) : decInt ((enc n).take i) = (0, 0, 3) := by
  cases i with
  | zero => rfl
  | succ i =>
    have hk := digs_len 8 (mag n)
    have hh := head_facts _ hk (fl n) (fl_cases n)
    rw [enc_len] at hi
    have he : (enc n).take (i + 1) = (UInt8.ofNat (128 + (digs 8 (mag n)).length) ^^^ fl n) :: ((digs 8 (mag n)).map (· ^^^ fl n)).take i := by simp [enc]
    rw [he, decInt_cons, hh.1, hh.2, if_neg (by omega), if_pos]
    simp
    omega

/-- What was decoded is the encoding. -/
theorem decInt_back (b : List UInt8) (n : Int) (u : Nat) (h : decInt b = (n, u, 0)) :
    u ≤ b.length ∧ b.take u = enc n ∧ u = (enc n).length ∧ -9223372036854775808 ≤ n ∧ n ≤ 9223372036854775807 := by
  cases b with
  | nil => simp [decInt] at h
  | cons c t =>
    rw [decInt_cons] at h
    split at h
    · simp at h
    split at h
    · simp at h
    split at h
    · simp at h
    next h8 hs hb =>
    simp only [Prod.mk.injEq, and_true] at h
    obtain ⟨hn, hu⟩ := h
    have hm : ¬ 9223372036854775807 < val ((t.take (cnt c)).map (· ^^^ flag c)) := fun e => hb (.inr e)
    have hz : ((t.take (cnt c)).map (· ^^^ flag c)).head? ≠ some 0 := by
      intro e
      apply hb
      left
      cases t with
      | nil => simp at e
      | cons x y =>
        cases hk : cnt c with
        | zero => rw [hk] at e; simp at e
        | succ k =>
          rw [hk] at e
          simp at e
          refine ⟨by omega, ?_⟩
          rw [List.head?_cons, e]
    have hl : ((t.take (cnt c)).map (· ^^^ flag c)).length = cnt c := by simp; omega
    have hmag : mag n = val ((t.take (cnt c)).map (· ^^^ flag c)) ∧ fl n = flag c := by
      rcases flag_cases c with ⟨hf, _⟩ | ⟨hf, _⟩
      · rw [if_pos hf] at hn
        unfold mag fl
        rw [if_neg (by omega), if_neg (by omega)]
        exact ⟨by omega, hf.symm⟩
      · rw [if_neg (by rw [hf]; decide)] at hn
        unfold mag fl
        rw [if_pos (by omega), if_pos (by omega)]
        exact ⟨by omega, hf.symm⟩
    have hd : digs 8 (mag n) = (t.take (cnt c)).map (· ^^^ flag c) := by
      rw [hmag.1]; exact digs_val 8 _ (by omega) hz
    have henc : enc n = c :: t.take (cnt c) := by
      have hc : UInt8.ofNat (128 + cnt c) = c ^^^ flag c := by
        apply UInt8.toNat.inj
        have h1 := cnt_eq c
        have h2 := (c ^^^ flag c).toNat_lt
        rw [h1, UInt8.toNat_ofNat']
        omega
      unfold enc
      rw [hd, hl, hmag.2, List.map_cons, map_xor, hc, xor_self_right]
    have hlen : (enc n).length = 1 + cnt c := by rw [henc]; simp; omega
    refine ⟨by simp; omega, by rw [henc, ← hu, Nat.add_comm]; simp, by omega, ?_, ?_⟩
    · rw [← hn]; split <;> omega
    · rw [← hn]; split <;> omega
/-- The error of a decoding is none, ErrForm or ErrMore, and together with an error the rest is nought. -/
theorem decInt_err (b : List UInt8) : (decInt b).2.2 = 0 ∨ decInt b = (0, 0, 2) ∨ decInt b = (0, 0, 3) := by
  cases b with
  | nil => exact .inr (.inr rfl)
  | cons c t =>
    rw [decInt_cons]
    split
    · simp
    split
    · simp
    split
    · simp
    · exact .inl rfl
theorem decInt_le (b : List UInt8) : (decInt b).2.1 ≤ b.length := by
  rcases decInt_err b with h | h | h
  · exact (decInt_back b (decInt b).1 (decInt b).2.1 (Prod.ext rfl (Prod.ext rfl h))).1
  · rw [h]; exact Nat.zero_le _
  · rw [h]; exact Nat.zero_le _
end Wr
end Go.Proofs.YtbfhilbagojdnaaGreat.W1
