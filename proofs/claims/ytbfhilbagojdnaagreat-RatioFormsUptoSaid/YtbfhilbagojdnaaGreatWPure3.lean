/-
  The plain mathematics of the encodings of byte strings and of lists: encoding and decoding are inverse to each other, and what is cut off asks for more.
  No condition; it speaks of lists of bytes and of numbers alone.
-/
import Derived.Test.YtbfhilbagojdnaaGreatWPure2
namespace Go.Proofs.YtbfhilbagojdnaaGreat.W1
namespace Wr

/-- A length, of elements of at least 'least' bytes each. -/
def decLen (least : Nat) (b : List UInt8) : Nat × Nat × Nat :=
  if (decInt b).2.2 ≠ 0 then (0, 0, (decInt b).2.2)
  else if (decInt b).1 < 0 then (0, 0, 2)
  else if (b.length - (decInt b).2.1) / least < (decInt b).1.toNat then (0, 0, 3)
  else ((decInt b).1.toNat, (decInt b).2.1, 0)

def encStr (s : List UInt8) : List UInt8 := enc (s.length : Int) ++ s
def decStr (b : List UInt8) : List UInt8 × Nat × Nat :=
  if (decLen 1 b).2.2 ≠ 0 then ([], 0, (decLen 1 b).2.2)
  else ((b.drop (decLen 1 b).2.1).take (decLen 1 b).1, (decLen 1 b).2.1 + (decLen 1 b).1, 0)
def decDig (b : List UInt8) : List UInt8 × Nat × Nat := if b.length < 16 then ([], 0, 3) else (b.take 16, 16, 0)

def decGo {α : Type} (get : List UInt8 → α × Nat × Nat) (b : List UInt8) : Nat → Nat → List α → List α × Nat × Nat
  | 0, at_, acc => (acc, at_, 0)
  | k + 1, at_, acc => if (get (b.drop at_)).2.2 ≠ 0 then ([], 0, (get (b.drop at_)).2.2) else decGo get b k (at_ + (get (b.drop at_)).2.1) (acc ++ [(get (b.drop at_)).1])
def decList {α : Type} (get : List UInt8 → α × Nat × Nat) (least : Nat) (b : List UInt8) : List α × Nat × Nat :=
  if (decLen least b).2.2 ≠ 0 then ([], 0, (decLen least b).2.2) else decGo get b (decLen least b).1 (decLen least b).2.1 []
def encList {α : Type} (e : α → List UInt8) (l : List α) : List UInt8 := enc (l.length : Int) ++ (l.map e).flatten

def decInts := decList decInt 1
def decStrs := decList decStr 1
def decDigs := decList decDig 16
def encInts := encList enc
def encStrs := encList encStr
def encDigs := encList (fun d : List UInt8 => d)

theorem decLen_ok {least : Nat} {b : List UInt8} {n u : Nat} (h : decLen least b = (n, u, 0)) :
    u ≤ b.length ∧ b.take u = enc (n : Int) ∧ u = (enc (n : Int)).length ∧ n ≤ (b.length - u) / least ∧ n ≤ 9223372036854775807 := by
  unfold decLen at h
  split at h
  · next h0 => simp at h; exact absurd h.2.2 h0
  next h0 =>
  split at h
  · simp at h
  next h1 =>
  split at h
  · simp at h
  next h2 =>
  simp only [Prod.mk.injEq, and_true] at h
  obtain ⟨hn, hu⟩ := h
  have hd : decInt b = ((n : Int), u, 0) := by
    rw [← hn, ← hu]
    refine Prod.ext ?_ (Prod.ext rfl ?_)
    · simp only; omega
    · simpa using h0
  have := decInt_back b n u hd
  refine ⟨this.1, this.2.1, this.2.2.1, ?_, by omega⟩
  rw [hd] at h2
  simp only [Int.toNat_natCast] at h2
  omega
theorem decLen_enc (least n : Nat) (t : List UInt8) (hn : n ≤ 9223372036854775807) (hl : n ≤ t.length / least) : decLen least (enc (n : Int) ++ t) = (n, (enc (n : Int)).length, 0) := by
  unfold decLen
  rw [decInt_enc _ _ (by omega) (by omega)]
  simp only [ne_eq, not_true_eq_false, if_false, Int.toNat_natCast, List.length_append, Nat.add_sub_cancel_left]
  rw [if_neg (by omega), if_neg (by omega)]
/-- What the decoding of elements keeps. -/
structure Codec {α : Type} (e : α → List UInt8) (get : List UInt8 → α × Nat × Nat) (least : Nat) (ok : α → Prop) : Prop where
  least1 : 1 ≤ least
  there : ∀ x t, ok x → get (e x ++ t) = (x, (e x).length, 0)
  back : ∀ b x u, get b = (x, u, 0) → u ≤ b.length ∧ b.take u = e x ∧ u = (e x).length ∧ ok x
  cut : ∀ x i, ok x → i < (e x).length → (get ((e x).take i)).2.2 = 3
  long : ∀ x, ok x → least ≤ (e x).length
  err : ∀ b, (get b).2.2 = 0 ∨ (get b).2.2 = 2 ∨ (get b).2.2 = 3

def okInt (n : Int) : Prop := -9223372036854775808 ≤ n ∧ n ≤ 9223372036854775807
def okStr (s : List UInt8) : Prop := s.length ≤ 9223372036854775807
def okDig (s : List UInt8) : Prop := s.length = 16
theorem codecInt : Codec enc decInt 1 okInt where
  least1 := by omega
  there x t h := decInt_enc x t h.1 h.2
  back b x u h := by have := decInt_back b x u h; exact ⟨this.1, this.2.1, this.2.2.1, this.2.2.2⟩
  cut x i _ h := by rw [decInt_cut x i h]
  long x _ := (enc_le x).1
  err b := by rcases decInt_err b with h | h | h <;> simp [h]
section
variable {α : Type} {e : α → List UInt8} {get : List UInt8 → α × Nat × Nat} {least : Nat} {ok : α → Prop}
theorem flat_long (c : Codec e get least ok) (l : List α) (hl : ∀ x ∈ l, ok x) : l.length * least ≤ (l.map e).flatten.length := by
  induction l with
  | nil => simp
  | cons x l ih =>
    have h1 := c.long x (hl x (by simp))
    have h2 := ih (fun y hy => hl y (by simp [hy]))
    simp only [List.length_cons, List.map_cons, List.flatten_cons, List.length_append, Nat.succ_mul]
    omega
theorem go_there (c : Codec e get least ok) (b t : List UInt8) : ∀ (l : List α) (at_ : Nat) (acc : List α), (∀ x ∈ l, ok x) → b.drop at_ = (l.map e).flatten ++ t →
    decGo get b l.length at_ acc = (acc ++ l, at_ + (l.map e).flatten.length, 0) := by
  intro l
  induction l with
  | nil => intro at_ acc _ _; simp [decGo]
  | cons x l ih =>
    intro at_ acc hl hb
    have hx : get (b.drop at_) = (x, (e x).length, 0) := by
      rw [hb, List.map_cons, List.flatten_cons, List.append_assoc]
      exact c.there x _ (hl x (by simp))
    rw [List.length_cons, decGo, hx]
    simp only [ne_eq, not_true_eq_false, if_false]
    rw [ih _ _ (fun y hy => hl y (by simp [hy]))]
    · simp; omega
    · rw [← List.drop_drop, hb]
      simp
theorem list_there (c : Codec e get least ok) (l : List α) (t : List UInt8) (hn : l.length ≤ 9223372036854775807) (hl : ∀ x ∈ l, ok x) : decList get least (encList e l ++ t) = (l, (encList e l).length, 0) := by
  unfold decList encList
  have hf := flat_long c l hl
  rw [List.append_assoc, decLen_enc least l.length _ hn (by rw [Nat.le_div_iff_mul_le (by have := c.least1; omega), List.length_append]; omega)]
  simp only [ne_eq, not_true_eq_false, if_false]
  rw [go_there c _ t l _ [] hl (by simp)]
  simp
theorem go_back (c : Codec e get least ok) (b : List UInt8) : ∀ (k at_ : Nat) (acc l : List α) (u : Nat), at_ ≤ b.length → decGo get b k at_ acc = (l, u, 0) →
    ∃ l', l = acc ++ l' ∧ l'.length = k ∧ u ≤ b.length ∧ u = at_ + (l'.map e).flatten.length ∧ (b.drop at_).take (l'.map e).flatten.length = (l'.map e).flatten ∧ ∀ x ∈ l', ok x := by
  intro k
  induction k with
  | zero =>
    intro at_ acc l u ha h
    simp [decGo] at h
    exact ⟨[], by simp [h.1], rfl, by omega, by simp [h.2], by simp, by simp⟩
  | succ k ih =>
    intro at_ acc l u ha h
    rw [decGo] at h
    split at h
    · next h0 => simp at h; exact absurd h.2.2 h0
    next h0 =>
    have hg : get (b.drop at_) = ((get (b.drop at_)).1, (get (b.drop at_)).2.1, 0) := Prod.ext rfl (Prod.ext rfl (by simpa using h0))
    obtain ⟨b1, b2, b3, b4⟩ := c.back _ _ _ hg
    rw [List.length_drop] at b1
    obtain ⟨l', r1, r2, r3, r4, r5, r6⟩ := ih _ _ _ _ (by omega) h
    refine ⟨(get (b.drop at_)).1 :: l', by rw [r1]; simp, by simp [r2], r3, ?_, ?_, ?_⟩
    · rw [r4, List.map_cons, List.flatten_cons, List.length_append, ← b3]; omega
    · rw [List.map_cons, List.flatten_cons, List.length_append, ← b3, List.take_add, b2, List.drop_drop, r5]
    · intro x hx
      rcases List.mem_cons.1 hx with rfl | hx
      · exact b4
      · exact r6 x hx
theorem list_back (c : Codec e get least ok) (b : List UInt8) (l : List α) (u : Nat) (h : decList get least b = (l, u, 0)) : u ≤ b.length ∧ b.take u = encList e l ∧ u = (encList e l).length ∧ ∀ x ∈ l, ok x := by
  unfold decList at h
  split at h
  · next h0 => simp at h; exact absurd h.2.2 h0
  next h0 =>
  have hd : decLen least b = ((decLen least b).1, (decLen least b).2.1, 0) := Prod.ext rfl (Prod.ext rfl (by simpa using h0))
  obtain ⟨a1, a2, a3, a4, a5⟩ := decLen_ok hd
  obtain ⟨l', r1, r2, r3, r4, r5, r6⟩ := go_back c b _ _ _ _ _ a1 h
  simp only [List.nil_append] at r1
  subst r1
  refine ⟨r3, ?_, ?_, r6⟩
  · unfold encList
    rw [r2, ← a2, ← r5, r4, List.take_add]
  · unfold encList
    rw [r2, List.length_append, ← a3, r4]
theorem go_cut (c : Codec e get least ok) (b : List UInt8) : ∀ (l : List α) (at_ r : Nat) (acc : List α), (∀ x ∈ l, ok x) → b.drop at_ = (l.map e).flatten.take r → r < (l.map e).flatten.length →
    (decGo get b l.length at_ acc).2.2 = 3 := by
  intro l
  induction l with
  | nil => intro at_ r acc _ _ h; simp at h
  | cons x l ih =>
    intro at_ r acc hl hb hr
    rw [List.map_cons, List.flatten_cons] at hb hr
    rw [List.length_append] at hr
    rw [List.length_cons, decGo]
    rcases Nat.lt_or_ge r (e x).length with h | h
    · rw [List.take_append_of_le_length (by omega)] at hb
      have := c.cut x r (hl x (by simp)) h
      rw [← hb] at this
      rw [if_pos (by omega)]
      exact this
    · obtain ⟨q, rfl⟩ : ∃ q, r = (e x).length + q := ⟨r - (e x).length, by omega⟩
      rw [List.take_length_add_append] at hb
      have hx : get (b.drop at_) = (x, (e x).length, 0) := by rw [hb]; exact c.there x _ (hl x (by simp))
      rw [hx]
      simp only [ne_eq, not_true_eq_false, if_false]
      exact ih _ q _ (fun y hy => hl y (by simp [hy])) (by rw [← List.drop_drop, hb]; simp) (by omega)
end
end Wr
end Go.Proofs.YtbfhilbagojdnaaGreat.W1
