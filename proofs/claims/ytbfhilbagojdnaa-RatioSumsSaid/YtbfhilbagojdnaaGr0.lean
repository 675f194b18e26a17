/-
  Texts of the proof, joined: Lim, Bit, Dc, Dv, Fm, Knu, Lw, Kn2, Leh, RatM, RatF, RatS, RatL, RatO, Rx, Ry.
  No condition: lemmas.
-/
namespace Go.Proofs.Ytbfhilbagojdnaa
set_option linter.unusedVariables false
namespace Nm

def num : List Nat → Nat
  | [] => 0
  | a :: l => a + 4294967296 * num l
def Ok (l : List Nat) : Prop := ∀ x ∈ l, x < 4294967296
/-- The k lowest limbs of n. -/
def digs : Nat → Nat → List Nat
  | 0, _ => []
  | k + 1, n => n % 4294967296 :: digs k (n / 4294967296)
/-- A list without the noughts at its end. -/
def dropz : List Nat → List Nat
  | [] => []
  | a :: l => if a = 0 ∧ dropz l = [] then [] else a :: dropz l
/-- The limbs of n, without noughts at the end. -/
def lim (n : Nat) : List Nat := if h : n = 0 then [] else n % 4294967296 :: lim (n / 4294967296)
termination_by n
decreasing_by exact Nat.div_lt_self (by omega) (by omega)

theorem num_cons (a : Nat) (l : List Nat) : num (a :: l) = a + 4294967296 * num l := rfl
theorem num_append : ∀ a b : List Nat, num (a ++ b) = num a + 4294967296 ^ a.length * num b
  | [], b => by simp [num]
  | x :: a, b => by
    rw [List.cons_append, num_cons, num_cons, num_append a b, List.length_cons, Nat.pow_succ, Nat.mul_add]
    rw [show 4294967296 ^ a.length * 4294967296 * num b = 4294967296 * (4294967296 ^ a.length * num b) by rw [Nat.mul_comm (4294967296 ^ a.length) 4294967296, Nat.mul_assoc]]
    omega
theorem Ok.tail {a : Nat} {l : List Nat} (h : Ok (a :: l)) : Ok l := fun x hx => h x (List.mem_cons_of_mem _ hx)
theorem Ok.head {a : Nat} {l : List Nat} (h : Ok (a :: l)) : a < 4294967296 := h a (List.mem_cons_self ..)
theorem Ok.nil : Ok [] := fun _ h => by cases h
theorem Ok.cons {a : Nat} {l : List Nat} (h : a < 4294967296) (hl : Ok l) : Ok (a :: l) := by
  intro x hx
  rcases List.mem_cons.1 hx with rfl | hx
  · exact h
  · exact hl x hx
theorem Ok.append {a b : List Nat} (ha : Ok a) (hb : Ok b) : Ok (a ++ b) := by
  intro x hx
  rcases List.mem_append.1 hx with h | h
  · exact ha x h
  · exact hb x h
theorem Ok.take {l : List Nat} (h : Ok l) (k : Nat) : Ok (l.take k) := fun x hx => h x (List.mem_of_mem_take hx)
theorem Ok.drop {l : List Nat} (h : Ok l) (k : Nat) : Ok (l.drop k) := fun x hx => h x (List.mem_of_mem_drop hx)
theorem Ok.get {l : List Nat} (h : Ok l) (k : Nat) (hk : k < l.length) : l[k] < 4294967296 := h _ (List.getElem_mem hk)
theorem num_lt : ∀ (l : List Nat), Ok l → num l < 4294967296 ^ l.length
  | [], _ => by simp [num]
  | a :: l, h => by
    have h1 := num_lt l h.tail
    have h2 := h.head
    rw [num_cons, List.length_cons, Nat.pow_succ]
    omega
theorem digs_len : ∀ k n : Nat, (digs k n).length = k
  | 0, _ => rfl
  | k + 1, n => by rw [digs, List.length_cons, digs_len]
theorem digs_ok : ∀ k n : Nat, Ok (digs k n)
  | 0, _ => Ok.nil
  | k + 1, n => by rw [digs]; exact Ok.cons (Nat.mod_lt _ (by omega)) (digs_ok k _)
theorem num_digs : ∀ k n : Nat, num (digs k n) = n % 4294967296 ^ k
  | 0, n => by simp [digs, num, Nat.mod_one]
  | k + 1, n => by rw [digs, num_cons, num_digs k, Nat.pow_succ', Nat.mod_mul]
theorem digs_num : ∀ l : List Nat, Ok l → digs l.length (num l) = l
  | [], _ => rfl
  | a :: l, h => by
    have h2 := h.head
    rw [List.length_cons, digs, num_cons, show (a + 4294967296 * num l) % 4294967296 = a by omega, show (a + 4294967296 * num l) / 4294967296 = num l by omega, digs_num l h.tail]
theorem digs_append : ∀ i j n : Nat, digs (i + j) n = digs i n ++ digs j (n / 4294967296 ^ i)
  | 0, j, n => by simp [digs]
  | i + 1, j, n => by
    rw [show i + 1 + j = (i + j) + 1 by omega, digs, digs, digs_append i j, List.cons_append, Nat.pow_succ', Nat.div_div_eq_div_mul]
theorem digs_snoc (k n : Nat) : digs (k + 1) n = digs k n ++ [n / 4294967296 ^ k % 4294967296] := by rw [digs_append k 1]; rfl
theorem digs_add : ∀ k n m : Nat, digs k (n + 4294967296 ^ k * m) = digs k n
  | 0, _, _ => rfl
  | k + 1, n, m => by
    have e : n + 4294967296 ^ (k + 1) * m = n + 4294967296 * (4294967296 ^ k * m) := by rw [Nat.pow_succ', Nat.mul_assoc]
    rw [digs, digs, e]
    have h1 : (n + 4294967296 * (4294967296 ^ k * m)) % 4294967296 = n % 4294967296 := by omega
    have h2 : (n + 4294967296 * (4294967296 ^ k * m)) / 4294967296 = n / 4294967296 + 4294967296 ^ k * m := by omega
    rw [h1, h2, digs_add k]
theorem digs_mod (k n : Nat) : digs k (n % 4294967296 ^ k) = digs k n := by
  have h := digs_add k (n % 4294967296 ^ k) (n / 4294967296 ^ k)
  rw [Nat.mod_add_div] at h
  exact h.symm
theorem digs_zero : ∀ k : Nat, digs k 0 = List.replicate k 0
  | 0 => rfl
  | k + 1 => by rw [digs]; simp only [Nat.zero_mod, Nat.zero_div, digs_zero k, List.replicate_succ]
theorem pow_pos (k : Nat) : 0 < 4294967296 ^ k := Nat.pow_pos (by omega)

theorem dropz_num : ∀ l : List Nat, num (dropz l) = num l
  | [] => rfl
  | a :: l => by
    have ih := dropz_num l
    rw [dropz, num_cons]
    by_cases h : a = 0 ∧ dropz l = []
    · rw [if_pos h]
      rw [h.2] at ih
      rw [h.1, ← ih]; simp [num]
    · rw [if_neg h, num_cons, ih]
theorem lim_zero : lim 0 = [] := by rw [lim]; simp
theorem lim_pos (n : Nat) (h : n ≠ 0) : lim n = n % 4294967296 :: lim (n / 4294967296) := by rw [lim]; simp [h]
theorem lim_num : ∀ l : List Nat, Ok l → lim (num l) = dropz l
  | [], _ => lim_zero
  | a :: l, h => by
    have ih := lim_num l h.tail
    have h2 := h.head
    rw [num_cons, dropz]
    by_cases hz : a = 0 ∧ dropz l = []
    · rw [if_pos hz]
      have := dropz_num l
      rw [hz.2] at this
      rw [hz.1, ← this]; simp [num, lim_zero]
    · rw [if_neg hz]
      have hn : a + 4294967296 * num l ≠ 0 := by
        intro he
        have h0 : num l = 0 := by omega
        rw [h0, lim_zero] at ih
        exact hz ⟨by omega, ih.symm⟩
      rw [lim_pos _ hn, show (a + 4294967296 * num l) % 4294967296 = a by omega, show (a + 4294967296 * num l) / 4294967296 = num l by omega, ih]
theorem num_lim (n : Nat) : num (lim n) = n := by
  induction n using Nat.strongRecOn with
  | ind n ih =>
    by_cases h : n = 0
    · rw [h, lim_zero]; rfl
    · rw [lim_pos n h, num_cons, ih _ (Nat.div_lt_self (by omega) (by omega))]; omega
theorem lim_ok (n : Nat) : Ok (lim n) := by
  induction n using Nat.strongRecOn with
  | ind n ih =>
    by_cases h : n = 0
    · rw [h, lim_zero]; exact Ok.nil
    · rw [lim_pos n h]; exact Ok.cons (Nat.mod_lt _ (by omega)) (ih _ (Nat.div_lt_self (by omega) (by omega)))
theorem lim_inj {n m : Nat} (h : lim n = lim m) : n = m := by rw [← num_lim n, h, num_lim]
theorem lim_nil {n : Nat} : lim n = [] ↔ n = 0 := ⟨fun h => lim_inj (h.trans lim_zero.symm), fun h => by rw [h, lim_zero]⟩
theorem lim_len0 {n : Nat} : (lim n).length = 0 ↔ n = 0 := by rw [List.length_eq_zero_iff, lim_nil]
theorem dropz_lim (n : Nat) : dropz (lim n) = lim n := by rw [← lim_num _ (lim_ok n), num_lim]
theorem dropz_len_le : ∀ l : List Nat, (dropz l).length ≤ l.length
  | [] => Nat.le_refl _
  | a :: l => by
    have := dropz_len_le l
    rw [dropz]
    by_cases h : a = 0 ∧ dropz l = []
    · rw [if_pos h]; simp
    · rw [if_neg h, List.length_cons, List.length_cons]; omega
theorem dropz_digs (k n : Nat) (h : n < 4294967296 ^ k) : dropz (digs k n) = lim n := by
  rw [← lim_num _ (digs_ok k n), num_digs, Nat.mod_eq_of_lt h]
theorem lim_len {n k : Nat} : (lim n).length ≤ k ↔ n < 4294967296 ^ k := by
  constructor
  · intro h
    have h1 := num_lt _ (lim_ok n)
    rw [num_lim] at h1
    exact Nat.lt_of_lt_of_le h1 (Nat.pow_le_pow_right (by omega) h)
  · intro h
    rw [← dropz_digs k n h]
    have := dropz_len_le (digs k n)
    rw [digs_len] at this; exact this
theorem lim_mono {n m : Nat} (h : n ≤ m) : (lim n).length ≤ (lim m).length := lim_len.2 (Nat.lt_of_le_of_lt h (lim_len.1 (Nat.le_refl _)))
theorem dropz_snoc0 : ∀ l : List Nat, dropz (l ++ [0]) = dropz l
  | [] => by simp [dropz]
  | a :: l => by rw [List.cons_append, dropz, dropz, dropz_snoc0 l]
theorem dropz_snoc {a : Nat} (h : a ≠ 0) : ∀ l : List Nat, dropz (l ++ [a]) = l ++ [a]
  | [] => by simp [dropz, h]
  | b :: l => by rw [List.cons_append, dropz, dropz_snoc h l, if_neg (by simp)]
theorem take_snoc {α} (l : List α) (k : Nat) (h : k < l.length) : l.take (k + 1) = l.take k ++ [l[k]] := by
  rw [List.take_succ_eq_append_getElem h]
theorem dropz_step (l : List Nat) (k : Nat) (h : k < l.length) (h0 : l[k] = 0) : dropz (l.take (k + 1)) = dropz (l.take k) := by
  rw [take_snoc l k h, h0, dropz_snoc0]
theorem dropz_stop (l : List Nat) (k : Nat) (h : k < l.length) (h0 : l[k] ≠ 0) : dropz (l.take (k + 1)) = l.take (k + 1) := by
  rw [take_snoc l k h, dropz_snoc h0]
/-- A proper list: no nought at its end. -/
def Prp (l : List Nat) : Prop := dropz l = l
theorem prp_lim (n : Nat) : Prp (lim n) := dropz_lim n
theorem Prp.eq {l : List Nat} (h : Prp l) (ho : Ok l) : l = lim (num l) := by rw [lim_num l ho]; exact h.symm
theorem prp_nil : Prp [] := rfl
theorem prp_last (l : List Nat) (k : Nat) (h : l.length = k + 1) : Prp l ↔ l[k]'(by omega) ≠ 0 := by
  have ht : l.take (k + 1) = l := List.take_of_length_le (by omega)
  constructor
  · intro hp h0
    have := dropz_step l k (by omega) h0
    rw [ht] at this
    have h2 := dropz_len_le (l.take k)
    rw [← this, hp, List.length_take] at h2
    omega
  · intro h0
    have := dropz_stop l k (by omega) h0
    rw [ht] at this; exact this
theorem lim_last (n k : Nat) (h : (lim n).length = k + 1) : (lim n)[k]'(by omega) ≠ 0 := (prp_last _ k h).1 (prp_lim n)
theorem lim_ge (n k : Nat) (h : (lim n).length = k + 1) : 4294967296 ^ k ≤ n := by
  rcases Nat.lt_or_ge n (4294967296 ^ k) with h1 | h1
  · have := lim_len.2 h1; omega
  · exact h1
theorem lim_one : lim 1 = [1] := by rw [lim_pos 1 (by omega)]; simp [lim_zero]
theorem lim_small (n : Nat) (h : n ≠ 0) (h2 : n < 4294967296) : lim n = [n] := by
  rw [lim_pos n h, Nat.mod_eq_of_lt h2, Nat.div_eq_of_lt h2, lim_zero]
theorem lim_eq_one {n : Nat} : lim n = [1] ↔ n = 1 := ⟨fun h => lim_inj (h.trans lim_one.symm), fun h => by rw [h, lim_one]⟩
theorem num_split (l : List Nat) (k : Nat) (h : k < l.length) : num l = num (l.take k) + 4294967296 ^ k * (l[k] + 4294967296 * num (l.drop (k + 1))) := by
  have e : l = l.take k ++ (l[k] :: l.drop (k + 1)) := by rw [List.getElem_cons_drop, List.take_append_drop]
  have h2 := num_append (l.take k) (l[k] :: l.drop (k + 1))
  rw [← e, List.length_take, Nat.min_eq_left (by omega), num_cons] at h2
  exact h2
theorem num_take_succ (l : List Nat) (k : Nat) (h : k < l.length) : num (l.take (k + 1)) = num (l.take k) + 4294967296 ^ k * l[k] := by
  rw [take_snoc l k h, num_append, List.length_take, Nat.min_eq_left (by omega)]
  simp [num]
theorem num_drop (l : List Nat) (h : Ok l) (k : Nat) : num (l.drop k) = num l / 4294967296 ^ k := by
  rcases Nat.lt_or_ge k l.length with hk | hk
  · have h1 := num_append (l.take k) (l.drop k)
    rw [List.take_append_drop, List.length_take, Nat.min_eq_left (by omega)] at h1
    have h2 := num_lt _ (h.take k)
    rw [List.length_take, Nat.min_eq_left (by omega)] at h2
    rw [h1, Nat.add_mul_div_left _ _ (pow_pos k), Nat.div_eq_of_lt h2, Nat.zero_add]
  · rw [List.drop_of_length_le hk]
    have h2 := num_lt l h
    rw [Nat.div_eq_of_lt (Nat.lt_of_lt_of_le h2 (Nat.pow_le_pow_right (by omega) hk))]; rfl
theorem num_take (l : List Nat) (h : Ok l) (k : Nat) : num (l.take k) = num l % 4294967296 ^ k := by
  rcases Nat.lt_or_ge k l.length with hk | hk
  · have h1 := num_append (l.take k) (l.drop k)
    rw [List.take_append_drop, List.length_take, Nat.min_eq_left (by omega)] at h1
    have h2 := num_lt _ (h.take k)
    rw [List.length_take, Nat.min_eq_left (by omega)] at h2
    rw [h1, Nat.add_mul_mod_self_left, Nat.mod_eq_of_lt h2]
  · rw [List.take_of_length_le hk]
    have h2 := num_lt l h
    rw [Nat.mod_eq_of_lt (Nat.lt_of_lt_of_le h2 (Nat.pow_le_pow_right (by omega) hk))]
/-- The limb at an index, which may lie behind the end. -/
def at0 (l : List Nat) (i : Nat) : Nat := l.getD i 0
theorem at0_in (l : List Nat) (i : Nat) (h : i < l.length) : at0 l i = l[i] := by unfold at0; simp [List.getD, h]
theorem at0_out (l : List Nat) (i : Nat) (h : l.length ≤ i) : at0 l i = 0 := by unfold at0; simp [List.getD, h]
theorem at0_lt (l : List Nat) (h : Ok l) (i : Nat) : at0 l i < 4294967296 := by
  rcases Nat.lt_or_ge i l.length with hi | hi
  · rw [at0_in l i hi]; exact h.get i hi
  · rw [at0_out l i hi]; omega
theorem at0_num (l : List Nat) (h : Ok l) (i : Nat) : at0 l i = num l / 4294967296 ^ i % 4294967296 := by
  rcases Nat.lt_or_ge i l.length with hi | hi
  · rw [at0_in l i hi, ← num_drop l h i]
    have e : l.drop i = l[i] :: l.drop (i + 1) := (List.getElem_cons_drop ..).symm
    have := h.get i hi
    rw [e, num_cons]; omega
  · have h2 := num_lt l h
    rw [at0_out l i hi, Nat.div_eq_of_lt (Nat.lt_of_lt_of_le h2 (Nat.pow_le_pow_right (by omega) hi))]
/-- The order of two numbers. -/
def ord (a b : Nat) : Int := if a < b then -1 else if a = b then 0 else 1
theorem ord_at (l m : List Nat) (hl : Ok l) (hm : Ok m) (hlen : l.length = m.length) (i : Nat) (hi : i < l.length) (ht : l.drop (i + 1) = m.drop (i + 1)) (hlt : l[i] < m[i]'(by omega)) : num l < num m := by
  rw [num_split l i hi, num_split m i (by omega), ht]
  have h1 := num_lt _ (hl.take i)
  rw [List.length_take, Nat.min_eq_left (by omega)] at h1
  have h2 : 4294967296 ^ i * (l[i] + 4294967296 * num (m.drop (i + 1))) + 4294967296 ^ i ≤ 4294967296 ^ i * (m[i]'(by omega) + 4294967296 * num (m.drop (i + 1))) := by
    rw [← Nat.mul_succ]; exact Nat.mul_le_mul_left _ (by omega)
  omega
theorem ord_len (x y : Nat) (h : (lim x).length < (lim y).length) : x < y := by
  rcases Nat.lt_or_ge x y with h1 | h1
  · exact h1
  · have := lim_mono h1; omega
end Nm
end Go.Proofs.Ytbfhilbagojdnaa
namespace Go.Proofs.Ytbfhilbagojdnaa
set_option linter.unusedVariables false
namespace Nm

theorem digs_set : ∀ (n k Q c : Nat), k < n → Q / 4294967296 ^ k % 4294967296 + c < 4294967296 → digs n (Q + 4294967296 ^ k * c) = (digs n Q).set k (Q / 4294967296 ^ k % 4294967296 + c)
  | 0, k, _, _, h, _ => by omega
  | n + 1, 0, Q, c, _, hc => by
    simp only [Nat.pow_zero, Nat.div_one, Nat.one_mul] at hc ⊢
    rw [digs, digs, List.set_cons_zero, show (Q + c) % 4294967296 = Q % 4294967296 + c by omega, show (Q + c) / 4294967296 = Q / 4294967296 by omega]
  | n + 1, k + 1, Q, c, h, hc => by
    have e : Q / 4294967296 ^ (k + 1) = Q / 4294967296 / 4294967296 ^ k := by rw [Nat.pow_succ', Nat.div_div_eq_div_mul]
    rw [e] at hc ⊢
    have e2 : Q + 4294967296 ^ (k + 1) * c = Q + 4294967296 * (4294967296 ^ k * c) := by rw [Nat.pow_succ', Nat.mul_assoc]
    rw [e2, digs, digs, List.set_cons_succ, show (Q + 4294967296 * (4294967296 ^ k * c)) % 4294967296 = Q % 4294967296 by omega, show (Q + 4294967296 * (4294967296 ^ k * c)) / 4294967296 = Q / 4294967296 + 4294967296 ^ k * c by omega]
    rw [digs_set n k _ c (by omega) hc]
theorem digs_get (n Q k : Nat) (h : k < n) : (digs n Q)[k]'(by rw [digs_len]; exact h) = Q / 4294967296 ^ k % 4294967296 := by
  have h1 := at0_in (digs n Q) k (by rw [digs_len]; exact h)
  rw [← h1, at0_num _ (digs_ok n Q), num_digs]
  have e : n = k + (n - k - 1) + 1 := by omega
  have e2 : 4294967296 ^ n = 4294967296 ^ k * (4294967296 * 4294967296 ^ (n - k - 1)) := by
    rw [← Nat.pow_succ', ← Nat.pow_add]; congr 1
  rw [e2, Nat.mod_mul_right_div_self, Nat.mod_mul_right_mod]
theorem gcd_half_left (a b : Nat) (h : b % 2 = 1) : Nat.gcd (2 * a) b = Nat.gcd a b := by
  have hc : Nat.Coprime 2 b := by
    rw [Nat.coprime_iff_gcd_eq_one, Nat.gcd_rec, h]; rfl
  exact Nat.Coprime.gcd_mul_left_cancel a hc
theorem gcd_half_right (a b : Nat) (h : a % 2 = 1) : Nat.gcd a (2 * b) = Nat.gcd a b := by
  rw [Nat.gcd_comm, gcd_half_left b a h, Nat.gcd_comm]
theorem gcd_take (a b : Nat) (h : a ≤ b) : Nat.gcd a (b - a) = Nat.gcd a b := by
  rw [Nat.gcd_sub_self_right h]
/-- One bit of a quotient. -/
theorem bit_step (M y b : Nat) (hy : 0 < y) (hb : b < 2) :
    (2 * M + b) / y = 2 * (M / y) + (if y ≤ 2 * (M % y) + b then 1 else 0) ∧ (2 * M + b) % y = 2 * (M % y) + b - (if y ≤ 2 * (M % y) + b then y else 0) := by
  have h := Nat.div_add_mod M y
  have hm := Nat.mod_lt M hy
  obtain ⟨q, hq⟩ : ∃ q, q = M / y := ⟨_, rfl⟩
  obtain ⟨r, hr⟩ : ∃ r, r = M % y := ⟨_, rfl⟩
  rw [← hq, ← hr] at h
  rw [← hr] at hm
  rw [← hq, ← hr]
  have e : 2 * M + b = (2 * r + b) + y * (2 * q) := by rw [← h, Nat.mul_add, Nat.mul_left_comm]; omega
  rw [e, Nat.add_mul_div_left _ _ hy, Nat.add_mul_mod_self_left]
  by_cases hc : y ≤ 2 * r + b
  · rw [if_pos hc, if_pos hc]
    have e2 : 2 * r + b = (2 * r + b - y) + y := by omega
    have hlt : 2 * r + b - y < y := by omega
    constructor
    · rw [e2, Nat.add_div_right _ hy, Nat.div_eq_of_lt hlt]; omega
    · rw [e2, Nat.add_mod_right, Nat.mod_eq_of_lt hlt]; omega
  · rw [if_neg hc, if_neg hc, Nat.div_eq_of_lt (by omega), Nat.mod_eq_of_lt (by omega)]
    omega
end Nm
end Go.Proofs.Ytbfhilbagojdnaa
namespace Go.Proofs.Ytbfhilbagojdnaa
set_option linter.unusedVariables false
namespace Nm
/-- The digits of a number, none for 0. -/
def decX (n : Nat) : List UInt8 := if n = 0 then [] else decX (n / 10) ++ [UInt8.ofNat (48 + n % 10)]
/-- The decimal form. -/
def decS (n : Nat) : List UInt8 := if n = 0 then [48] else decX n
theorem decX_zero : decX 0 = [] := by rw [decX, if_pos rfl]
theorem decX_pos {n : Nat} (h : n ≠ 0) : decX n = decX (n / 10) ++ [UInt8.ofNat (48 + n % 10)] := by rw [decX, if_neg h]
theorem decX_len : ∀ (k n : Nat), n < 10 ^ k → (decX n).length ≤ k
  | 0, n, h => by
    have : n = 0 := by simp at h; exact h
    rw [this, decX_zero]; simp
  | k + 1, n, h => by
    by_cases h0 : n = 0
    · rw [h0, decX_zero]; simp
    · rw [decX_pos h0, List.length_append]
      have := decX_len k (n / 10) (by rw [Nat.pow_succ] at h; omega)
      simp; exact this
/-- A digit is written: the number y * 10 ^ (k + 1) + p loses its last digit. -/
theorem dec_step (y k p : Nat) (tail : List UInt8) (h : y * 10 ^ (k + 1) + p ≠ 0) : decX (y * 10 ^ k + p / 10) ++ UInt8.ofNat (48 + p % 10) :: tail = decX (y * 10 ^ (k + 1) + p) ++ tail := by
  have e : y * 10 ^ (k + 1) = 10 * (y * 10 ^ k) := by rw [Nat.pow_succ]; ac_rfl
  rw [e] at h ⊢
  generalize y * 10 ^ k = t at h ⊢
  rw [decX_pos h, show (10 * t + p) / 10 = t + p / 10 by omega, show (10 * t + p) % 10 = p % 10 by omega, List.append_assoc]
  rfl
theorem dec_big : (2 : Nat) ^ 2048 < 10 ^ 617 := by decide +kernel
theorem dec_sixhundred {n : Nat} (h : n < 4294967296 ^ 64) : (decX n).length ≤ 617 := by
  refine decX_len 617 n (Nat.lt_trans h ?_)
  have e : (4294967296 : Nat) ^ 64 = 2 ^ 2048 := by decide +kernel
  rw [e]; exact dec_big
theorem decX_ne {n : Nat} (h : n ≠ 0) : decX n ≠ [] := by rw [decX_pos h]; simp
end Nm
end Go.Proofs.Ytbfhilbagojdnaa
namespace Go.Proofs.Ytbfhilbagojdnaa
set_option linter.unusedVariables false
namespace Nm

/-- The state of a guess q for T / y, T = U * 2^32 + d, with what is left of the high part. -/
structure Gs (U d y q r : Nat) : Prop where
  lo : (U * 4294967296 + d) / y ≤ q
  rh : r + q * (y / 4294967296) = U
  hi : q ≤ 4294967297
theorem guess_lo' (U d y : Nat) (hd : d < 4294967296) (h0 : 0 < y / 4294967296) : (U * 4294967296 + d) / y ≤ U / (y / 4294967296) := by
  rw [Nat.le_div_iff_mul_le h0]
  have hy : 0 < y := by omega
  have h1 := Nat.div_mul_le_self (U * 4294967296 + d) y
  have h2 : (U * 4294967296 + d) / y * (y / 4294967296 * 4294967296) ≤ (U * 4294967296 + d) / y * y := Nat.mul_le_mul_left _ (Nat.div_mul_le_self y 4294967296)
  rw [← Nat.mul_assoc] at h2
  omega
theorem Gs.start (U d y : Nat) (hy : 9223372036854775808 ≤ y) (hy2 : y < 18446744073709551616) (hU : U < y) (hd : d < 4294967296) :
    Gs U d y (U / (y / 4294967296)) (U - U / (y / 4294967296) * (y / 4294967296)) := by
  have h0 : 0 < y / 4294967296 := by omega
  have hle := Nat.div_mul_le_self U (y / 4294967296)
  refine ⟨guess_lo' U d y hd h0, by omega, ?_⟩
  have : U / (y / 4294967296) < 4294967298 := by
    rw [Nat.div_lt_iff_lt_mul h0]
    omega
  omega
theorem prod_split (q y : Nat) : q * y = q * (y / 4294967296) * 4294967296 + q * (y % 4294967296) := by
  rw [Nat.mul_assoc, ← Nat.mul_add, Nat.mul_comm (y / 4294967296), Nat.div_add_mod]
/-- A guess that is too great is taken down. -/
theorem Gs.down {U d y q r : Nat} (h : Gs U d y q r) (hU : U < y) (hy : 9223372036854775808 ≤ y) (hd : d < 4294967296) (hbad : 4294967296 ≤ q ∨ 4294967296 * r + d < q * (y % 4294967296)) :
    1 ≤ q ∧ Gs U d y (q - 1) (r + y / 4294967296) := by
  have hy0 : 0 < y := by omega
  have hlt : (U * 4294967296 + d) / y < q := by
    rw [Nat.div_lt_iff_lt_mul hy0]
    rcases hbad with hb | hb
    · have : 4294967296 * y ≤ q * y := Nat.mul_le_mul_right _ hb
      omega
    · rw [prod_split q y]
      have := h.rh
      obtain ⟨A, hA⟩ : ∃ A, A = q * (y / 4294967296) := ⟨_, rfl⟩
      obtain ⟨C, hC⟩ : ∃ C, C = q * (y % 4294967296) := ⟨_, rfl⟩
      rw [← hA] at this
      rw [← hC] at hb
      rw [← hA, ← hC]
      omega
  have hq : 1 ≤ q := Nat.lt_of_le_of_lt (Nat.zero_le _) hlt
  refine ⟨hq, Nat.le_sub_one_of_lt hlt, ?_, by have := h.hi; omega⟩
  have := h.rh
  obtain ⟨k, rfl⟩ : ∃ k, q = k + 1 := ⟨q - 1, by omega⟩
  rw [Nat.add_mul] at this
  rw [Nat.add_sub_cancel]
  omega
/-- A guess that passes the test is right. -/
theorem Gs.fits {U d y q r : Nat} (h : Gs U d y q r) (hy : 0 < y) (hok : q * (y % 4294967296) ≤ 4294967296 * r + d) : q = (U * 4294967296 + d) / y := by
  have h1 := h.lo
  have h2 : q ≤ (U * 4294967296 + d) / y := by
    rw [Nat.le_div_iff_mul_le hy, prod_split q y]
    have := h.rh
    obtain ⟨A, hA⟩ : ∃ A, A = q * (y / 4294967296) := ⟨_, rfl⟩
    obtain ⟨C, hC⟩ : ∃ C, C = q * (y % 4294967296) := ⟨_, rfl⟩
    rw [← hA] at this
    rw [← hC] at hok
    rw [← hA, ← hC]
    omega
  omega
theorem Gs.over {U d y q r : Nat} (h : Gs U d y q r) (hy : 0 < y) (hq : q ≤ 4294967296) (hr : 4294967296 ≤ r) : q = (U * 4294967296 + d) / y := by
  apply h.fits hy
  have h1 : q * (y % 4294967296) ≤ 4294967296 * 4294967296 := Nat.mul_le_mul hq (Nat.le_of_lt (Nat.mod_lt _ (by omega)))
  omega
/-- The two halves of the quotient. -/
theorem halves (T d0 y : Nat) (hy : 0 < y) : T / y * 4294967296 + (T % y * 4294967296 + d0) / y = (T * 4294967296 + d0) / y := by
  have h := Nat.div_add_mod T y
  have e : T * 4294967296 + d0 = (T % y * 4294967296 + d0) + y * (T / y * 4294967296) := by
    rw [← Nat.mul_assoc]
    obtain ⟨A, hA⟩ : ∃ A, A = y * (T / y) := ⟨_, rfl⟩
    rw [← hA] at h ⊢
    omega
  rw [e, Nat.add_mul_div_left _ _ hy, Nat.add_comm]
end Nm
end Go.Proofs.Ytbfhilbagojdnaa
namespace Go.Proofs.Ytbfhilbagojdnaa
set_option linter.unusedVariables false
namespace Nm

def decC (v c i : Nat) : Nat := (c + 10 * (v % 4294967296 ^ i)) / 4294967296 ^ i
theorem decC_zero (v c : Nat) : decC v c 0 = c := by unfold decC; simp [Nat.mod_one]
theorem decC_lt (v c i : Nat) (h : c < 10) : decC v c i < 10 := by
  unfold decC
  have := Nat.mod_lt v (pow_pos i)
  rw [Nat.div_lt_iff_lt_mul (pow_pos i)]
  omega
theorem decC_step (v c i : Nat) : decC v c (i + 1) = (decC v c i + v / 4294967296 ^ i % 4294967296 * 10) / 4294967296 ∧ (decC v c i + v / 4294967296 ^ i % 4294967296 * 10) % 4294967296 = (c + 10 * v) / 4294967296 ^ i % 4294967296 := by
  have p := pow_pos i
  have hmod : v % 4294967296 ^ (i + 1) = v % 4294967296 ^ i + 4294967296 ^ i * (v / 4294967296 ^ i % 4294967296) := by rw [Nat.pow_succ, Nat.mod_mul]
  have hs : (c + 10 * (v % 4294967296 ^ (i + 1))) / 4294967296 ^ i = decC v c i + v / 4294967296 ^ i % 4294967296 * 10 := by
    unfold decC
    rw [hmod, Nat.mul_add, ← Nat.add_assoc, Nat.mul_left_comm, Nat.add_mul_div_left _ _ p, Nat.mul_comm 10 (v / 4294967296 ^ i % 4294967296)]
  constructor
  · rw [← hs, Nat.div_div_eq_div_mul, ← Nat.pow_succ]; rfl
  · rw [← hs]
    have hd := Nat.mod_add_div v (4294967296 ^ (i + 1))
    have e : c + 10 * v = (c + 10 * (v % 4294967296 ^ (i + 1))) + 4294967296 ^ i * (4294967296 * (10 * (v / 4294967296 ^ (i + 1)))) := by
      have h2 : 4294967296 ^ i * (4294967296 * (10 * (v / 4294967296 ^ (i + 1)))) = 10 * (4294967296 ^ (i + 1) * (v / 4294967296 ^ (i + 1))) := by
        rw [Nat.pow_succ, ← Nat.mul_assoc, Nat.mul_left_comm]
      rw [h2]; omega
    rw [e, Nat.add_mul_div_left _ _ p]
    omega
/-- What the digits' limbs become when one more digit is read. -/
theorem dec_end (v c n : Nat) (hn : n = (lim v).length) (hc : c < 10) :
    (decC v c n = 0 → lim (c + 10 * v) = digs n (c + 10 * v)) ∧ (decC v c n ≠ 0 → lim (c + 10 * v) = digs n (c + 10 * v) ++ [decC v c n]) := by
  have hv : v < 4294967296 ^ n := lim_len.1 (by omega)
  have hd : decC v c n = (c + 10 * v) / 4294967296 ^ n := by unfold decC; rw [Nat.mod_eq_of_lt hv]
  have hlt := decC_lt v c n hc
  have hge : n ≤ (lim (c + 10 * v)).length := by rw [hn]; exact lim_mono (by omega)
  constructor
  · intro h0
    rw [hd] at h0
    have h1 : c + 10 * v < 4294967296 ^ n := by
      rcases Nat.lt_or_ge (c + 10 * v) (4294967296 ^ n) with h | h
      · exact h
      · have := Nat.div_pos h (pow_pos n); omega
    have h2 := lim_len.2 h1
    have h3 := digs_num (lim (c + 10 * v)) (lim_ok _)
    rw [num_lim, show (lim (c + 10 * v)).length = n by omega] at h3
    exact h3.symm
  · intro h0
    have h1 : c + 10 * v < 4294967296 ^ (n + 1) := by
      rw [Nat.pow_succ]; omega
    have h2 := lim_len.2 h1
    have h4 : ¬ (lim (c + 10 * v)).length ≤ n := by
      intro h
      have := lim_len.1 h
      rw [hd, Nat.div_eq_of_lt this] at h0
      exact h0 rfl
    have h3 := digs_num (lim (c + 10 * v)) (lim_ok _)
    rw [num_lim, show (lim (c + 10 * v)).length = n + 1 by omega, digs_snoc, ← hd, Nat.mod_eq_of_lt (by omega)] at h3
    exact h3.symm
end Nm
end Go.Proofs.Ytbfhilbagojdnaa
namespace Go.Proofs.Ytbfhilbagojdnaa
set_option linter.unusedVariables false
namespace Nm

/-- The guess out of the first limbs: never too small. -/
theorem guess_lo (U D P uh dh : Nat) (hP : 0 < P) (huh : uh = U / P) (hdh : dh = D / P) (hd0 : 0 < dh) : U / D ≤ uh / dh := by
  have hD : 0 < D := by
    rcases Nat.eq_zero_or_pos D with h | h
    · rw [h, Nat.zero_div] at hdh; omega
    · exact h
  have h1 : U / D * D ≤ U := Nat.div_mul_le_self U D
  have h2 : dh * P ≤ D := by rw [hdh]; exact Nat.div_mul_le_self D P
  rw [Nat.le_div_iff_mul_le hd0, huh, Nat.le_div_iff_mul_le hP, Nat.mul_assoc]
  exact Nat.le_trans (Nat.mul_le_mul_left _ h2) h1
/-- The guess out of the first limbs: too great by one at most. -/
theorem guess_hi (U D P uh dh c : Nat) (hP : 0 < P) (huh : uh = U / P) (hdh : dh = D / P) (hbig : 4294967296 ≤ dh) (hc : c ≤ uh / dh) (hcB : c ≤ 4294967295) : c ≤ U / D + 1 := by
  have hd0 : 0 < dh := by omega
  have hD : 0 < D := by
    rcases Nat.eq_zero_or_pos D with h | h
    · rw [h, Nat.zero_div] at hdh; omega
    · exact h
  rcases Nat.lt_or_ge (U / D + 1) c with h | h
  · exfalso
    have hc1 : 1 ≤ c := Nat.lt_of_le_of_lt (Nat.zero_le _) h
    have h1 : c * dh ≤ uh := (Nat.le_div_iff_mul_le hd0).1 hc
    have h2 : c * dh * P ≤ U := by
      have : uh * P ≤ U := by rw [huh]; exact Nat.div_mul_le_self U P
      exact Nat.le_trans (Nat.mul_le_mul_right _ h1) this
    have h3 : D < (dh + 1) * P := by
      have := Nat.lt_mul_div_succ D hP
      rw [← hdh] at this; rw [Nat.mul_comm]; exact this
    have h4 : U < (U / D + 1) * D := by rw [Nat.mul_comm]; exact Nat.lt_mul_div_succ U hD
    have h5 : (U / D + 1) * D ≤ (c - 1) * D := Nat.mul_le_mul_right _ (Nat.le_sub_one_of_lt h)
    have h6 : (c - 1) * D ≤ (c - 1) * ((dh + 1) * P) := Nat.mul_le_mul_left _ (Nat.le_of_lt h3)
    have h7 : c * dh * P < (c - 1) * ((dh + 1) * P) := Nat.lt_of_le_of_lt h2 (Nat.lt_of_lt_of_le h4 (Nat.le_trans h5 h6))
    rw [← Nat.mul_assoc] at h7
    have h8 : c * dh < (c - 1) * (dh + 1) := Nat.lt_of_mul_lt_mul_right h7
    obtain ⟨k, rfl⟩ : ∃ k, c = k + 1 := ⟨c - 1, by omega⟩
    rw [Nat.add_sub_cancel, Nat.mul_add, Nat.add_mul] at h8
    omega
  · exact h
/-- One step of the division: what is left of N before (i + 1) and after (i). -/
theorem left_step (N D i : Nat) : N % (D * 4294967296 ^ (i + 1)) % (D * 4294967296 ^ i) = N % (D * 4294967296 ^ i) :=
  Nat.mod_mod_of_dvd N ⟨4294967296, by rw [Nat.pow_succ, ← Nat.mul_assoc]⟩
theorem left_window (V D i : Nat) : V % (D * 4294967296 ^ i) = V - D * (V / 4294967296 ^ i / D) * 4294967296 ^ i := by
  rw [Nat.mod_eq_sub_mul_div, Nat.div_div_eq_div_mul, Nat.mul_comm (4294967296 ^ i) D]
  rw [Nat.mul_right_comm]
theorem left_window' (V D i : Nat) : V % (D * 4294967296 ^ i) = V % 4294967296 ^ i + 4294967296 ^ i * (V / 4294967296 ^ i % D) := by
  rw [Nat.mul_comm D, Nat.mod_mul]
theorem quo_digit (N D i : Nat) (hD : 0 < D) : N % (D * 4294967296 ^ (i + 1)) / 4294967296 ^ i / D = N / D / 4294967296 ^ i % 4294967296 := by
  rw [Nat.div_div_eq_div_mul, Nat.mul_comm (4294967296 ^ i) D, Nat.div_div_eq_div_mul]
  have hp := pow_pos i
  have hQ : 0 < D * 4294967296 ^ i := Nat.mul_pos hD hp
  obtain ⟨Q, hQe⟩ : ∃ Q, Q = D * 4294967296 ^ i := ⟨_, rfl⟩
  have e : D * 4294967296 ^ (i + 1) = Q * 4294967296 := by rw [hQe, Nat.pow_succ, Nat.mul_assoc]
  rw [e, ← hQe]
  rw [Nat.mod_mul, Nat.add_mul_div_left _ _ (by rw [hQe]; exact hQ), Nat.div_eq_of_lt (Nat.mod_lt _ (by rw [hQe]; exact hQ)), Nat.zero_add]
theorem left_lt (N D i : Nat) (hD : 0 < D) : N % (D * 4294967296 ^ (i + 1)) / 4294967296 ^ i < D * 4294967296 := by
  rw [Nat.div_lt_iff_lt_mul (pow_pos i), Nat.mul_assoc, ← Nat.pow_succ']
  exact Nat.mod_lt _ (Nat.mul_pos hD (pow_pos _))
theorem scaled_div (a b s : Nat) (hs : 0 < s) : a * s / (b * s) = a / b := Nat.mul_div_mul_right _ _ hs
theorem scaled_mod (a b s : Nat) (hs : 0 < s) : a * s % (b * s) / s = a % b := by rw [Nat.mul_mod_mul_right]; exact Nat.mul_div_cancel _ hs
/-- What is taken from a row, with what is borrowed behind it. -/
def bor (R X P : Nat) : Nat := (X + (P - 1) - R) / P
theorem bor_lo (R X P : Nat) (hP : 0 < P) (hR : R < P) : X ≤ R + P * bor R X P := by
  unfold bor
  have := Nat.lt_mul_div_succ (X + (P - 1) - R) hP
  rw [Nat.mul_add] at this
  omega
theorem bor_hi (R X P : Nat) (hP : 0 < P) (hR : R < P) : R + P * bor R X P - X < P := by
  unfold bor
  have := Nat.mul_div_le (X + (P - 1) - R) P
  omega
theorem bor_eq (R X P b : Nat) (hP : 0 < P) (hR : R < P) (h1 : X ≤ R + P * b) (h2 : R + P * b - X < P) : b = bor R X P := by
  have l1 := bor_lo R X P hP hR
  have l2 := bor_hi R X P hP hR
  rcases Nat.lt_trichotomy b (bor R X P) with h | h | h
  · have : P * (b + 1) ≤ P * bor R X P := Nat.mul_le_mul_left _ h
    rw [Nat.mul_add] at this; omega
  · exact h
  · have : P * (bor R X P + 1) ≤ P * b := Nat.mul_le_mul_left _ h
    rw [Nat.mul_add] at this; omega
end Nm
end Go.Proofs.Ytbfhilbagojdnaa
namespace Go.Proofs.Ytbfhilbagojdnaa
set_option linter.unusedVariables false
namespace Nm

/-- What is reached behind i limbs: the number of R, and m times that of l. -/
def sumT (R l : List Nat) (m i : Nat) : Nat := num (R.take i) + m * num (l.take i)
theorem sumT_zero (R l : List Nat) (m : Nat) : sumT R l m 0 = 0 := by simp [sumT, num]
theorem sumT_succ (R l : List Nat) (m i : Nat) (hR : i < R.length) (hl : i < l.length) : sumT R l m (i + 1) = sumT R l m i + 4294967296 ^ i * (R[i] + m * l[i]) := by
  unfold sumT
  rw [num_take_succ R i hR, num_take_succ l i hl, Nat.mul_add, Nat.mul_add, Nat.mul_left_comm m]
  omega
theorem sumT_div (R l : List Nat) (m i : Nat) (hR : i < R.length) (hl : i < l.length) : sumT R l m (i + 1) / 4294967296 ^ i = sumT R l m i / 4294967296 ^ i + (R[i] + m * l[i]) := by
  rw [sumT_succ R l m i hR hl, Nat.add_mul_div_left _ _ (pow_pos i)]
theorem sumT_next (R l : List Nat) (m i : Nat) (hR : i < R.length) (hl : i < l.length) : sumT R l m (i + 1) / 4294967296 ^ (i + 1) = (sumT R l m i / 4294967296 ^ i + (R[i] + m * l[i])) / 4294967296 := by
  rw [Nat.pow_succ, ← Nat.div_div_eq_div_mul, sumT_div R l m i hR hl]
theorem sumT_digs (R l : List Nat) (m i : Nat) (hR : i < R.length) (hl : i < l.length) : digs (i + 1) (sumT R l m (i + 1)) = digs i (sumT R l m i) ++ [(sumT R l m i / 4294967296 ^ i + (R[i] + m * l[i])) % 4294967296] := by
  rw [digs_snoc, sumT_div R l m i hR hl, sumT_succ R l m i hR hl, digs_add]
theorem sumT_lt (R l : List Nat) (m i : Nat) (hR : Ok R) (hl : Ok l) (hm : m < 4294967296) (h1 : i ≤ R.length) (h2 : i ≤ l.length) : sumT R l m i / 4294967296 ^ i < 4294967296 := by
  rw [Nat.div_lt_iff_lt_mul (pow_pos i)]
  unfold sumT
  have a := num_lt _ (hR.take i)
  have b := num_lt _ (hl.take i)
  rw [List.length_take, Nat.min_eq_left h1] at a
  rw [List.length_take, Nat.min_eq_left h2] at b
  have c : m * num (l.take i) ≤ 4294967295 * num (l.take i) := Nat.mul_le_mul_right _ (by omega)
  omega
theorem sumT_all (R l : List Nat) (m : Nat) (h : l.length = R.length) : sumT R l m R.length = num R + m * num l := by
  unfold sumT; rw [List.take_length, ← h, List.take_length]

/-- What is left behind i limbs, if b is borrowed. -/
structure Tk (R l : List Nat) (m i b d : Nat) : Prop where
  e : num (R.take i) + 4294967296 ^ i * b = m * num (l.take i) + d
  lt : d < 4294967296 ^ i
theorem Tk.zero (R l : List Nat) (m : Nat) : Tk R l m 0 0 0 := ⟨by simp [num], by simp⟩
theorem Tk.le {R l : List Nat} {m i b d : Nat} (h : Tk R l m i b d) (hl : Ok l) (h2 : i ≤ l.length) : b ≤ m := by
  have b1 := num_lt _ (hl.take i)
  rw [List.length_take, Nat.min_eq_left h2] at b1
  rcases Nat.lt_or_ge m b with h1 | h1
  · exfalso
    have c1 : 4294967296 ^ i * (m + 1) ≤ 4294967296 ^ i * b := Nat.mul_le_mul_left _ h1
    have c2 : m * num (l.take i) ≤ m * 4294967296 ^ i := Nat.mul_le_mul_left _ (Nat.le_of_lt b1)
    rw [Nat.mul_add, Nat.mul_one, Nat.mul_comm _ m] at c1
    have := h.e; have := h.lt
    omega
  · exact h1
theorem Tk.step {R l : List Nat} {m i b d b' v : Nat} (h : Tk R l m i b d) (hR : i < R.length) (hl : i < l.length) (hv : v < 4294967296) (he : R[i] + 4294967296 * b' = b + l[i] * m + v) :
    Tk R l m (i + 1) b' (d + 4294967296 ^ i * v) := by
  have e := h.e
  have lt := h.lt
  refine ⟨?_, ?_⟩
  · rw [num_take_succ R i hR, num_take_succ l i hl, Nat.pow_succ]
    have q : 4294967296 ^ i * (R[i] + 4294967296 * b') = 4294967296 ^ i * (b + l[i] * m + v) := by rw [he]
    generalize 4294967296 ^ i = p at *
    generalize R[i] = r at *
    generalize l[i] = x at *
    have q1 : p * (r + 4294967296 * b') = p * r + p * 4294967296 * b' := by rw [Nat.mul_add, Nat.mul_assoc]
    have q2 : p * (b + x * m + v) = p * b + m * (p * x) + p * v := by
      rw [Nat.mul_add, Nat.mul_add]
      have : p * (x * m) = m * (p * x) := by rw [← Nat.mul_assoc, Nat.mul_comm]
      rw [this]
    have q3 : m * (num (l.take i) + p * x) = m * num (l.take i) + m * (p * x) := Nat.mul_add _ _ _
    omega
  · rw [Nat.pow_succ]
    have : 4294967296 ^ i * v ≤ 4294967296 ^ i * 4294967295 := Nat.mul_le_mul_left _ (by omega)
    omega
/-- The limb that is stored, and what is borrowed then. -/
theorem take_limb (r t : Nat) (hr : r < 4294967296) (hlt : r < t % 4294967296) : r + 4294967296 * (t / 4294967296 + 1) = t + (r + 4294967296 - t % 4294967296) ∧ r + 4294967296 - t % 4294967296 < 4294967296 := by omega
theorem take_limb' (r t : Nat) (hr : r < 4294967296) (hge : t % 4294967296 ≤ r) : r + 4294967296 * (t / 4294967296) = t + (r - t % 4294967296) ∧ r - t % 4294967296 < 4294967296 := by omega
theorem digs_more (i d v : Nat) (hd : d < 4294967296 ^ i) (hv : v < 4294967296) : digs (i + 1) (d + 4294967296 ^ i * v) = digs i d ++ [v] := by
  rw [digs_snoc, digs_add, Nat.add_mul_div_left _ _ (pow_pos i), Nat.div_eq_of_lt hd, Nat.zero_add, Nat.mod_eq_of_lt hv]
theorem Tk.all {R l : List Nat} {m b d : Nat} (h : Tk R l m R.length b d) (hl : l.length = R.length) : num R + 4294967296 ^ R.length * b = m * num l + d ∧ d < 4294967296 ^ R.length := by
  have e := h.e
  rw [List.take_length, ← hl, List.take_length, hl] at e
  exact ⟨e, h.lt⟩

/-- One limb of u times a number. -/
theorem mod_next (x i : Nat) : x % 4294967296 ^ (i + 1) = x % 4294967296 ^ i + 4294967296 ^ i * (x / 4294967296 ^ i % 4294967296) := by rw [Nat.pow_succ, Nat.mod_mul]
def partN (u x i : Nat) : Nat := u * (x % 4294967296 ^ i)
theorem part_zero (u x : Nat) : partN u x 0 = 0 := by simp [partN, Nat.mod_one]
theorem part_div (u x i : Nat) : partN u x (i + 1) / 4294967296 ^ i = partN u x i / 4294967296 ^ i + u * (x / 4294967296 ^ i % 4294967296) := by
  unfold partN
  rw [mod_next, Nat.mul_add, show u * (4294967296 ^ i * (x / 4294967296 ^ i % 4294967296)) = 4294967296 ^ i * (u * (x / 4294967296 ^ i % 4294967296)) by rw [← Nat.mul_assoc, Nat.mul_comm u, Nat.mul_assoc], Nat.add_mul_div_left _ _ (pow_pos i)]
theorem part_next (u x i : Nat) : partN u x (i + 1) / 4294967296 ^ (i + 1) = (partN u x i / 4294967296 ^ i + u * (x / 4294967296 ^ i % 4294967296)) / 4294967296 := by
  rw [Nat.pow_succ, ← Nat.div_div_eq_div_mul, part_div]
theorem part_mod (u x i : Nat) : partN u x (i + 1) % 4294967296 ^ i = partN u x i % 4294967296 ^ i := by
  unfold partN
  rw [mod_next, Nat.mul_add, show u * (4294967296 ^ i * (x / 4294967296 ^ i % 4294967296)) = 4294967296 ^ i * (u * (x / 4294967296 ^ i % 4294967296)) by rw [← Nat.mul_assoc, Nat.mul_comm u, Nat.mul_assoc], Nat.add_mul_mod_self_left]
theorem part_more (u x i : Nat) : partN u x (i + 1) % 4294967296 ^ (i + 1) = partN u x i % 4294967296 ^ i + 4294967296 ^ i * ((partN u x i / 4294967296 ^ i + u * (x / 4294967296 ^ i % 4294967296)) % 4294967296) := by
  rw [mod_next, part_mod, part_div]
theorem part_lt (u x i : Nat) (hu : u < 4294967296) : partN u x i / 4294967296 ^ i ≤ 4294967295 := by
  have : partN u x i / 4294967296 ^ i < 4294967296 := by
    rw [Nat.div_lt_iff_lt_mul (pow_pos i)]
    unfold partN
    have h1 : x % 4294967296 ^ i < 4294967296 ^ i := Nat.mod_lt _ (pow_pos i)
    have h2 : u * (x % 4294967296 ^ i) ≤ 4294967295 * (x % 4294967296 ^ i) := Nat.mul_le_mul_right _ (by omega)
    omega
  omega
/-- What is left of u times x without v times y behind i limbs, and whether something is borrowed. -/
structure Ls (u x v y i b d : Nat) : Prop where
  e : partN u x i % 4294967296 ^ i + 4294967296 ^ i * b = partN v y i % 4294967296 ^ i + d
  lt : d < 4294967296 ^ i
  b : b ≤ 1
theorem Ls.zero (u x v y : Nat) : Ls u x v y 0 0 0 := ⟨by simp [Nat.mod_one], by simp, by omega⟩
theorem Ls.step {u x v y i b d e f b' g : Nat} (h : Ls u x v y i b d) (he : e = (partN u x i / 4294967296 ^ i + u * (x / 4294967296 ^ i % 4294967296)) % 4294967296)
    (hf : f = (partN v y i / 4294967296 ^ i + v * (y / 4294967296 ^ i % 4294967296)) % 4294967296) (hg : g < 4294967296) (hb : b' ≤ 1) (heq : e + 4294967296 * b' = f + b + g) :
    Ls u x v y (i + 1) b' (d + 4294967296 ^ i * g) := by
  have e0 := h.e
  have lt := h.lt
  refine ⟨?_, ?_, hb⟩
  · rw [part_more, part_more, ← he, ← hf, Nat.pow_succ]
    have q : 4294967296 ^ i * (e + 4294967296 * b') = 4294967296 ^ i * (f + b + g) := by rw [heq]
    generalize 4294967296 ^ i = p at *
    have q1 : p * (e + 4294967296 * b') = p * e + p * 4294967296 * b' := by rw [Nat.mul_add, Nat.mul_assoc]
    have q2 : p * (f + b + g) = p * f + p * b + p * g := by rw [Nat.mul_add, Nat.mul_add]
    omega
  · rw [Nat.pow_succ]
    have : 4294967296 ^ i * g ≤ 4294967296 ^ i * 4294967295 := Nat.mul_le_mul_left _ (by omega)
    omega
theorem Ls.all {u x v y n b d : Nat} (h : Ls u x v y n b d) (hx : x < 4294967296 ^ n) (hy : y < 4294967296 ^ n) (hle : v * y ≤ u * x) (hlt : u * x - v * y < 4294967296 ^ n) : d = u * x - v * y := by
  have e := h.e
  have lt := h.lt
  have hb := h.b
  unfold partN at e
  rw [Nat.mod_eq_of_lt hx, Nat.mod_eq_of_lt hy] at e
  obtain ⟨w, hw⟩ : ∃ w, w = u * x - v * y := ⟨_, rfl⟩
  have e2 : u * x = v * y + w := by omega
  rw [e2] at e
  rw [← hw] at hlt ⊢
  have m1 := Nat.mod_add_div (v * y) (4294967296 ^ n)
  have m2 := Nat.mod_lt (v * y) (pow_pos n)
  have m3 : (v * y + w) % 4294967296 ^ n = (v * y % 4294967296 ^ n + w) % 4294967296 ^ n := by rw [Nat.mod_add_mod]
  rw [m3] at e
  generalize v * y % 4294967296 ^ n = f at *
  generalize 4294967296 ^ n = p at *
  rcases Nat.lt_or_ge (f + w) p with h1 | h1
  · rw [Nat.mod_eq_of_lt h1] at e
    rcases (show b = 0 ∨ b = 1 by omega) with rfl | rfl <;> omega
  · have : (f + w) % p = f + w - p := by rw [Nat.mod_eq_sub_mod h1, Nat.mod_eq_of_lt (by omega)]
    rw [this] at e
    rcases (show b = 0 ∨ b = 1 by omega) with rfl | rfl <;> omega

/-- The division by one limb, from the highest limb down. -/
theorem quo_step (N a d : Nat) (hd : 0 < d) (ha : a < 4294967296) : (a + 4294967296 * N) / d = (N % d * 4294967296 + a) / d + 4294967296 * (N / d) ∧ (a + 4294967296 * N) % d = (N % d * 4294967296 + a) % d ∧ (d < 4294967297 → (N % d * 4294967296 + a) / d < 4294967296) := by
  have e : a + 4294967296 * N = (N % d * 4294967296 + a) + d * (4294967296 * (N / d)) := by
    have := Nat.mod_add_div N d
    have h2 : d * (4294967296 * (N / d)) = 4294967296 * (d * (N / d)) := by rw [← Nat.mul_assoc, Nat.mul_comm d, Nat.mul_assoc]
    rw [h2]; omega
  refine ⟨?_, ?_, ?_⟩
  · rw [e, Nat.add_mul_div_left _ _ hd]
  · rw [e, Nat.add_mul_mod_self_left]
  · intro h
    rw [Nat.div_lt_iff_lt_mul hd]
    have := Nat.mod_lt N hd
    have : (N % d + 1) * 4294967296 ≤ d * 4294967296 := Nat.mul_le_mul_right _ this
    rw [Nat.mul_comm 4294967296]; omega
theorem digs_cons (k q Q : Nat) (hq : q < 4294967296) : digs (k + 1) (q + 4294967296 * Q) = q :: digs k Q := by
  rw [digs, show (q + 4294967296 * Q) % 4294967296 = q by omega, show (q + 4294967296 * Q) / 4294967296 = Q by omega]
theorem num_drop_succ (l : List Nat) (i : Nat) (h : i < l.length) : num (l.drop i) = l[i] + 4294967296 * num (l.drop (i + 1)) := by rw [← List.getElem_cons_drop h, num_cons]
end Nm
end Go.Proofs.Ytbfhilbagojdnaa
namespace Go.Proofs.Ytbfhilbagojdnaa
set_option linter.unusedVariables false
namespace Nm

theorem take_right (lo hi D Bn c b d W : Nat) (hW : W = lo + Bn * hi) (hD : D < Bn) (hc : c = W / D) (hT : lo + Bn * b = c * D + d) (hd : d < Bn) (hD0 : 0 < D) : b = hi ∧ d = W % D := by
  have e := Nat.mod_add_div W D
  have r := Nat.mod_lt W hD0
  rw [← hc] at e
  rw [Nat.mul_comm c D] at hT
  generalize D * c = q at *
  rcases Nat.lt_trichotomy b hi with h | h | h
  · have : Bn * (b + 1) ≤ Bn * hi := Nat.mul_le_mul_left _ h
    rw [Nat.mul_add] at this; omega
  · subst h; exact ⟨rfl, by omega⟩
  · have : Bn * (hi + 1) ≤ Bn * b := Nat.mul_le_mul_left _ h
    rw [Nat.mul_add] at this; omega
theorem take_over (lo hi D Bn c b d W : Nat) (hW : W = lo + Bn * hi) (hD : D < Bn) (hc : c = W / D + 1) (hT : lo + Bn * b = c * D + d) (hd : d < Bn) (hD0 : 0 < D) : b = hi + 1 ∧ d + D = W % D + Bn := by
  have e := Nat.mod_add_div W D
  have r := Nat.mod_lt W hD0
  rw [hc, Nat.add_mul, Nat.one_mul, Nat.mul_comm (W / D) D] at hT
  generalize D * (W / D) = q at *
  rcases Nat.lt_trichotomy b (hi + 1) with h | h | h
  · have : Bn * b ≤ Bn * hi := Nat.mul_le_mul_left _ (by omega)
    omega
  · subst h; rw [Nat.mul_add] at hT; exact ⟨rfl, by omega⟩
  · have : Bn * (hi + 1 + 1) ≤ Bn * b := Nat.mul_le_mul_left _ h
    rw [Nat.mul_add, Nat.mul_add] at this; omega

/-- The number of bits. -/
def blen (n : Nat) : Nat := if n = 0 then 0 else Nat.log2 n + 1
theorem blen_zero : blen 0 = 0 := rfl
theorem blen_lt (n : Nat) : n < 2 ^ blen n := by
  unfold blen
  by_cases h : n = 0
  · rw [if_pos h, h]; decide
  · rw [if_neg h]; exact Nat.lt_log2_self
theorem blen_ge (n : Nat) (h : n ≠ 0) : 2 ^ (blen n - 1) ≤ n := by
  unfold blen
  rw [if_neg h, Nat.add_sub_cancel]; exact Nat.log2_self_le h
theorem blen_pos {n : Nat} (h : n ≠ 0) : 0 < blen n := by unfold blen; rw [if_neg h]; omega
theorem blen_eq {n k : Nat} (h1 : 2 ^ k ≤ n) (h2 : n < 2 ^ (k + 1)) : blen n = k + 1 := by
  have h0 : n ≠ 0 := by have := Nat.two_pow_pos k; omega
  have a := blen_lt n
  have b := blen_ge n h0
  have p := blen_pos h0
  rcases Nat.lt_trichotomy (blen n) (k + 1) with h | h | h
  · have : (2 : Nat) ^ blen n ≤ 2 ^ k := Nat.pow_le_pow_right (by omega) (by omega)
    omega
  · exact h
  · have : (2 : Nat) ^ (k + 1) ≤ 2 ^ (blen n - 1) := Nat.pow_le_pow_right (by omega) (by omega)
    omega
theorem blen_le {n k : Nat} : blen n ≤ k ↔ n < 2 ^ k := by
  constructor
  · intro h; exact Nat.lt_of_lt_of_le (blen_lt n) (Nat.pow_le_pow_right (by omega) h)
  · intro h
    by_cases h0 : n = 0
    · subst h0; rw [blen_zero]; omega
    · rcases Nat.lt_or_ge k (blen n) with h1 | h1
      · have := blen_ge n h0
        have : (2 : Nat) ^ k ≤ 2 ^ (blen n - 1) := Nat.pow_le_pow_right (by omega) (by omega)
        omega
      · exact h1
theorem B_two (k : Nat) : 4294967296 ^ k = 2 ^ (32 * k) := by rw [Nat.pow_mul]
/-- The bits of a number by its limbs. -/
theorem blen_limbs (l : List Nat) (t k x : Nat) (h : num l = t + 4294967296 ^ k * x) (ht : t < 4294967296 ^ k) (hx : x ≠ 0) : blen (num l) = 32 * k + blen x := by
  have p := blen_pos hx
  have a := blen_lt x
  have b := blen_ge x hx
  have e : blen (num l) = (32 * k + (blen x - 1)) + 1 := by
    refine blen_eq ?_ ?_
    · rw [h, Nat.pow_add, ← B_two]
      have : 4294967296 ^ k * 2 ^ (blen x - 1) ≤ 4294967296 ^ k * x := Nat.mul_le_mul_left _ b
      omega
    · rw [h, show 32 * k + (blen x - 1) + 1 = 32 * k + blen x by omega, Nat.pow_add, ← B_two]
      have : 4294967296 ^ k * (x + 1) ≤ 4294967296 ^ k * 2 ^ blen x := Nat.mul_le_mul_left _ a
      rw [Nat.mul_add] at this; omega
  omega
/-- The scale that gives the highest limb its highest bit. -/
theorem scale_top (x : Nat) (h : x ≠ 0) (hx : x < 4294967296) : 2147483648 ≤ x * 2 ^ (32 - blen x) ∧ x * 2 ^ (32 - blen x) < 4294967296 ∧ blen x ≤ 32 := by
  have p := blen_pos h
  have a := blen_lt x
  have b := blen_ge x h
  have c : blen x ≤ 32 := blen_le.2 hx
  refine ⟨?_, ?_, c⟩
  · have : 2 ^ (blen x - 1) * 2 ^ (32 - blen x) ≤ x * 2 ^ (32 - blen x) := Nat.mul_le_mul_right _ b
    rw [← Nat.pow_add, show blen x - 1 + (32 - blen x) = 31 by omega] at this
    exact this
  · have : (x + 1) * 2 ^ (32 - blen x) ≤ 2 ^ blen x * 2 ^ (32 - blen x) := Nat.mul_le_mul_right _ a
    rw [← Nat.pow_add, show blen x + (32 - blen x) = 32 by omega, Nat.add_mul] at this
    have := Nat.two_pow_pos (32 - blen x)
    have e : (2 : Nat) ^ 32 = 4294967296 := by decide
    omega
theorem or_add (a b k : Nat) (h : a < 2 ^ k) : a ||| (b * 2 ^ k) = a + b * 2 ^ k := by
  rw [Nat.mul_comm b, Nat.or_comm, ← Nat.two_pow_add_eq_or_of_lt h b, Nat.add_comm]
/-- The 64 bits from a bit on, out of three limbs. -/
theorem word_of (a b c r s : Nat) (ha : a < 4294967296) (hb : b < 4294967296) (hs : s < 32) : (a + b * 4294967296) / 2 ^ s + c % 2 ^ s * 2 ^ (64 - s) = (a + 4294967296 * (b + 4294967296 * (c + 4294967296 * r))) / 2 ^ s % 2 ^ 64 := by
  have e : a + 4294967296 * (b + 4294967296 * (c + 4294967296 * r)) = (a + b * 4294967296) + 2 ^ s * (2 ^ (64 - s) * (c + 4294967296 * r)) := by
    rw [← Nat.mul_assoc, ← Nat.pow_add, show s + (64 - s) = 64 by omega]
    have : (2 : Nat) ^ 64 = 18446744073709551616 := by decide
    rw [this]; omega
  rw [e, Nat.add_mul_div_left _ _ (Nat.two_pow_pos s)]
  have h1 : (a + b * 4294967296) / 2 ^ s < 2 ^ (64 - s) := by
    rw [Nat.div_lt_iff_lt_mul (Nat.two_pow_pos s), ← Nat.pow_add, show 64 - s + s = 64 by omega]
    have : (2 : Nat) ^ 64 = 18446744073709551616 := by decide
    omega
  have h2 : (2 : Nat) ^ 64 = 2 ^ (64 - s) * 2 ^ s := by rw [← Nat.pow_add, show 64 - s + s = 64 by omega]
  rw [h2, Nat.mod_mul, Nat.add_mul_mod_self_left, Nat.add_mul_div_left _ _ (Nat.two_pow_pos _), Nat.div_eq_of_lt h1, Nat.zero_add, Nat.mod_eq_of_lt h1]
  have h3 : (c + 4294967296 * r) % 2 ^ s = c % 2 ^ s := by
    have : (4294967296 : Nat) = 2 ^ s * 2 ^ (32 - s) := by rw [← Nat.pow_add, show s + (32 - s) = 32 by omega]
    rw [this, Nat.mul_assoc, Nat.add_mul_mod_self_left]
  rw [h3, Nat.mul_comm (c % 2 ^ s)]
theorem at0_three (l : List Nat) (ho : Ok l) (i : Nat) : num l / 4294967296 ^ i = at0 l i + 4294967296 * (at0 l (i + 1) + 4294967296 * (at0 l (i + 2) + 4294967296 * (num l / 4294967296 ^ (i + 3)))) := by
  have e (j : Nat) : num l / 4294967296 ^ j = at0 l j + 4294967296 * (num l / 4294967296 ^ (j + 1)) := by
    rw [at0_num l ho j, Nat.pow_succ, ← Nat.div_div_eq_div_mul]
    exact (Nat.mod_add_div _ _).symm
  rw [e i, e (i + 1), e (i + 2)]
end Nm
end Go.Proofs.Ytbfhilbagojdnaa
namespace Go.Proofs.Ytbfhilbagojdnaa
set_option linter.unusedVariables false
namespace Nm

/-- What two factors make of two numbers, with the sign of the step. -/
def sgn (odd : Bool) (u v : Nat) (a b : Int) : Int := if odd then (u : Int) * a - (v : Int) * b else (v : Int) * b - (u : Int) * a
theorem sgn_real (odd : Bool) (u v : Nat) (X Y P al bl : Int) : sgn odd u v (X * P + al) (Y * P + bl) = sgn odd u v X Y * P + sgn odd u v al bl := by
  cases odd <;> simp only [sgn, if_true, Bool.false_eq_true, if_false] <;> grind
theorem sgn_next (odd : Bool) (u1 v1 u v q : Nat) (a b : Int) : sgn odd (u1 + q * u) (v1 + q * v) a b = sgn odd u1 v1 a b - (q : Int) * sgn (!odd) u v a b := by
  cases odd <;> simp only [sgn, if_true, Bool.false_eq_true, if_false, Bool.not_true, Bool.not_false, Int.natCast_add, Int.natCast_mul] <;> grind
theorem gcd_step (a b q : Int) : Int.gcd b (a - q * b) = Int.gcd a b := by
  apply Nat.dvd_antisymm
  · apply Int.dvd_gcd
    · have h1 : ((Int.gcd b (a - q * b) : Nat) : Int) ∣ b := Int.gcd_dvd_left ..
      have h2 : ((Int.gcd b (a - q * b) : Nat) : Int) ∣ a - q * b := Int.gcd_dvd_right ..
      have h3 := Int.dvd_add h2 (Int.dvd_mul_of_dvd_right (b := q) h1)
      rw [Int.sub_add_cancel] at h3; exact h3
    · exact Int.gcd_dvd_left ..
  · apply Int.dvd_gcd
    · exact Int.gcd_dvd_right ..
    · exact Int.dvd_sub (Int.gcd_dvd_left ..) (Int.dvd_mul_of_dvd_right (Int.gcd_dvd_right ..))

/-- What stands between two numbers at the same step. -/
theorem step_between (odd : Bool) (x y u1 v1 u v P al bl : Nat) (hal : al < P) (hbl : bl < P) (uv : u ≤ v) (u1v1 : odd = true ∨ u1 ≤ v1) (vp : 1 ≤ v) (c1 : v ≤ y) (c2 : v1 + v ≤ x - y) (hle : y ≤ x) :
    0 ≤ (y : Int) * P + sgn (!odd) u v al bl ∧ (y : Int) * P + sgn (!odd) u v al bl < (x : Int) * P + sgn odd u1 v1 al bl := by
  obtain ⟨d, rfl⟩ : ∃ d, x = y + d := ⟨x - y, by omega⟩
  have c2' : v1 + v ≤ d := by omega
  have m1 : v * P ≤ y * P := Nat.mul_le_mul_right _ c1
  have m2 : (v1 + v) * P ≤ d * P := Nat.mul_le_mul_right _ c2'
  have m3 : u * al ≤ v * P := Nat.mul_le_mul uv (Nat.le_of_lt hal)
  have m4 : v * bl ≤ v * P := Nat.mul_le_mul_left _ (Nat.le_of_lt hbl)
  have m5 : (v1 + v) * bl < (v1 + v) * P := Nat.mul_lt_mul_of_pos_left hbl (by omega)
  have m6 : (v1 + v) * al < (v1 + v) * P := Nat.mul_lt_mul_of_pos_left hal (by omega)
  have m7 : u * al ≤ v * al := Nat.mul_le_mul_right _ uv
  have e1 : (((y + d : Nat) : Int)) * P = (y : Int) * P + (d : Int) * P := by rw [Int.natCast_add, Int.add_mul]
  simp only [Nat.add_mul] at m5 m6 m2
  have k1 : (y : Int) * P = ((y * P : Nat) : Int) := by rw [Int.natCast_mul]
  have k2 : (d : Int) * P = ((d * P : Nat) : Int) := by rw [Int.natCast_mul]
  have k3 : (u : Int) * al = ((u * al : Nat) : Int) := by rw [Int.natCast_mul]
  have k4 : (v : Int) * bl = ((v * bl : Nat) : Int) := by rw [Int.natCast_mul]
  have k5 : (u1 : Int) * al = ((u1 * al : Nat) : Int) := by rw [Int.natCast_mul]
  have k6 : (v1 : Int) * bl = ((v1 * bl : Nat) : Int) := by rw [Int.natCast_mul]
  rw [e1, k1, k2]
  cases odd
  · have h1 : u1 ≤ v1 := by rcases u1v1 with h | h; cases h; exact h
    have m8 : u1 * al ≤ v1 * al := Nat.mul_le_mul_right _ h1
    simp only [sgn, Bool.not_false, if_true, Bool.false_eq_true, if_false]
    rw [k3, k4, k5, k6]
    omega
  · simp only [sgn, Bool.not_true, if_true, Bool.false_eq_true, if_false]
    rw [k3, k4, k5, k6]
    omega

/-- Right behind the first step: the numbers themselves. -/
def First (u1 v1 u v v0 : Nat) (odd : Bool) : Prop := u1 = 1 ∧ v1 = 0 ∧ u = 0 ∧ v = 1 ∧ v0 = 0 ∧ odd = true
/-- The last two numbers made of a and b. -/
def Made (a b u0 v0 u1 v1 : Nat) (odd : Bool) : Prop :=
  0 ≤ sgn odd u1 v1 a b ∧ sgn odd u1 v1 a b < sgn (!odd) u0 v0 a b ∧ sgn odd u1 v1 a b ≤ b ∧ (v0 = 0 ∨ sgn (!odd) u0 v0 a b ≤ b) ∧ Int.gcd (sgn (!odd) u0 v0 a b) (sgn odd u1 v1 a b) = Nat.gcd a b
structure Inv (X Y x y u0 v0 u1 v1 u v : Nat) (odd : Bool) : Prop where
  hx : x * v + y * v1 = X
  hX : X ≤ 18446744073709551615
  le : y ≤ x
  vp : 1 ≤ v
  vv : v1 ≤ v
  uv : u ≤ v
  u1v1 : First u1 v1 u v v0 odd ∨ u1 ≤ v1
  b1 : u0 < 4294967296
  b2 : v0 < 4294967296
  b3 : u1 < 4294967296
  b4 : v1 < 4294967296
  vb : v ≤ 18446744073709551615
  sx : (x : Int) = sgn odd u1 v1 X Y
  sy : (y : Int) = sgn (!odd) u v X Y
  re : ∀ a b P : Nat, 0 < P → a / P = X → b / P = Y → Int.gcd (sgn odd u1 v1 a b) (sgn (!odd) u v a b) = Nat.gcd a b ∧ (First u1 v1 u v v0 odd ∨ Made a b u0 v0 u1 v1 odd)
theorem Inv.start (X Y : Nat) (h : Y ≤ X) (hX : X ≤ 18446744073709551615) : Inv X Y X Y 0 0 1 0 0 1 true where
  hx := by simp
  hX := hX
  le := h
  vp := by omega
  vv := by omega
  uv := by omega
  u1v1 := .inl ⟨rfl, rfl, rfl, rfl, rfl, rfl⟩
  b1 := by omega
  b2 := by omega
  b3 := by omega
  b4 := by omega
  vb := by omega
  sx := by simp [sgn]
  sy := by simp [sgn]
  re := fun a b P _ _ _ => ⟨by simp [sgn, Int.gcd], .inl ⟨rfl, rfl, rfl, rfl, rfl, rfl⟩⟩
theorem small_factor {X x y v v1 : Nat} (hx : x * v + y * v1 = X) (hX : X ≤ 18446744073709551615) (le : y ≤ x) (c : v ≤ y) : v < 4294967296 := by
  rcases Nat.lt_or_ge v 4294967296 with h | h
  · exact h
  · have h1 : 4294967296 * 4294967296 ≤ x * v := Nat.mul_le_mul (by omega) h
    omega
theorem sgn_not_not (odd : Bool) (u v : Nat) (a b : Int) : sgn (!!odd) u v a b = sgn odd u v a b := by rw [Bool.not_not]
theorem Inv.step {X Y x y u0 v0 u1 v1 u v : Nat} {odd : Bool} (h : Inv X Y x y u0 v0 u1 v1 u v odd) (c1 : v ≤ y) (c2 : v1 + v ≤ x - y) :
    Inv X Y y (x - x / y * y) u1 v1 u v (u1 + x / y * u) (v1 + x / y * v) (!odd) := by
  have hy : 0 < y := by have := h.vp; omega
  have hq : 1 ≤ x / y := (Nat.le_div_iff_mul_le hy).2 (by have := h.le; omega)
  have hqy : x / y * y ≤ x := Nat.div_mul_le_self x y
  have hr : x - x / y * y < y := by
    have := Nat.lt_mul_div_succ x hy
    rw [Nat.mul_add, Nat.mul_comm y] at this; omega
  have hv := small_factor h.hx h.hX h.le c1
  obtain ⟨q, hqe⟩ : ∃ q, q = x / y := ⟨_, rfl⟩
  rw [← hqe] at hq hqy hr ⊢
  obtain ⟨r, hre⟩ : ∃ r, r = x - q * y := ⟨_, rfl⟩
  have hxr : x = q * y + r := by omega
  rw [← hre] at hr ⊢
  have hnew : y * (v1 + q * v) + r * v = X := by
    have := h.hx
    rw [hxr, Nat.add_mul] at this
    rw [Nat.mul_add, ← Nat.mul_assoc, Nat.mul_comm y q]; omega
  have hqv : v ≤ q * v := Nat.le_mul_of_pos_left _ hq
  have hqu : q * u ≤ q * v := Nat.mul_le_mul_left _ h.uv
  have huv' : u1 + q * u ≤ v1 + q * v := by
    rcases h.u1v1 with hf | hle
    · obtain ⟨rfl, rfl, rfl, rfl, _, _⟩ := hf
      simp only [Nat.mul_zero, Nat.mul_one]; omega
    · omega
  have hou : odd = true ∨ u1 ≤ v1 := by
    rcases h.u1v1 with hf | hle
    · exact .inl hf.2.2.2.2.2
    · exact .inr hle
  have hvb : v1 + q * v ≤ X := by
    have : 1 * (v1 + q * v) ≤ y * (v1 + q * v) := Nat.mul_le_mul_right _ hy
    omega
  have hxI : (r : Int) = (x : Int) - (q : Int) * y := by rw [hxr, Int.natCast_add, Int.natCast_mul]; omega
  exact
    { hx := hnew, hX := h.hX, le := Nat.le_of_lt hr, vp := by have := h.vp; omega, vv := by omega, uv := huv', u1v1 := .inr h.uv, b1 := h.b3, b2 := h.b4
      b3 := Nat.lt_of_le_of_lt h.uv hv, b4 := hv, vb := Nat.le_trans hvb h.hX, sx := h.sy
      sy := by rw [sgn_not_not, sgn_next, ← h.sx, ← h.sy]; exact hxI
      re := by
        intro a b P hP ha hb
        obtain ⟨hg, hm⟩ := h.re a b P hP ha hb
        have hal : a % P < P := Nat.mod_lt _ hP
        have hbl : b % P < P := Nat.mod_lt _ hP
        have ea : (a : Int) = (X : Int) * P + ((a % P : Nat) : Int) := by
          rw [← ha, ← Int.natCast_mul, ← Int.natCast_add, Nat.mul_comm, Nat.div_add_mod]
        have eb : (b : Int) = (Y : Int) * P + ((b % P : Nat) : Int) := by
          rw [← hb, ← Int.natCast_mul, ← Int.natCast_add, Nat.mul_comm, Nat.div_add_mod]
        have hbt := step_between odd x y u1 v1 u v P (a % P) (b % P) hal hbl h.uv hou h.vp c1 c2 h.le
        have r1 : sgn odd u1 v1 a b = (x : Int) * P + sgn odd u1 v1 (a % P : Nat) (b % P : Nat) := by
          rw [h.sx, ← sgn_real, ← ea, ← eb]
        have r2 : sgn (!odd) u v a b = (y : Int) * P + sgn (!odd) u v (a % P : Nat) (b % P : Nat) := by
          rw [h.sy, ← sgn_real, ← ea, ← eb]
        rw [← r1, ← r2] at hbt
        refine ⟨?_, .inr ⟨hbt.1, ?_, ?_, ?_, ?_⟩⟩
        · rw [sgn_not_not, sgn_next, gcd_step]; exact hg
        · rw [sgn_not_not]; exact hbt.2
        · rcases hm with hf | hm
          · obtain ⟨rfl, rfl, rfl, rfl, _, rfl⟩ := hf
            simp [sgn]
          · exact Int.le_trans (Int.le_of_lt hbt.2) hm.2.2.1
        · rcases hm with hf | hm
          · exact .inl hf.2.1
          · right; rw [sgn_not_not]; exact hm.2.2.1
        · rw [sgn_not_not]; exact hg }
/-- What the factors are good for. -/
def Gd (X Y u0 v0 u1 v1 : Nat) (odd : Bool) : Prop :=
  u0 < 4294967296 ∧ v0 < 4294967296 ∧ u1 < 4294967296 ∧ v1 < 4294967296 ∧ (v0 ≠ 0 → ∀ a b P : Nat, 0 < P → a / P = X → b / P = Y → Made a b u0 v0 u1 v1 odd)
theorem Inv.good {X Y x y u0 v0 u1 v1 u v : Nat} {odd : Bool} (h : Inv X Y x y u0 v0 u1 v1 u v odd) : Gd X Y u0 v0 u1 v1 odd :=
  ⟨h.b1, h.b2, h.b3, h.b4, fun hv a b P hP ha hb => by
    rcases (h.re a b P hP ha hb).2 with hf | hm
    · exact absurd hf.2.2.2.2.1 hv
    · exact hm⟩
end Nm
end Go.Proofs.Ytbfhilbagojdnaa
namespace Go.Proofs.Ytbfhilbagojdnaa
set_option linter.unusedVariables false
namespace Nm

/-- A ratio: the limbs of the numerator and of the denominator. -/
abbrev Rt := List Nat × List Nat
def noR : Rt := ([], [])
/-- The limbs of a denominator: none for 1. -/
def dl (y : Nat) : List Nat := if y = 1 then [] else lim y
def denN (d : List Nat) : Nat := if d = [] then 1 else num d
/-- What Valid says. -/
def vld (r : Rt) : Nat :=
  if 64 < r.1.length ∨ 64 < r.2.length then 4
  else if dropz r.1 ≠ r.1 ∨ dropz r.2 ≠ r.2 then 1
  else if r.2 ≠ [] ∧ (r.2 = [1] ∨ r.1 = [] ∨ Nat.gcd (num r.1) (num r.2) ≠ 1) then 1
  else 0
def OkR (r : Rt) : Prop := Ok r.1 ∧ Ok r.2
/-- A valid ratio of the numbers x and y. -/
structure Vr (x y : Nat) : Prop where
  pos : 0 < y
  co : Nat.gcd x y = 1
  hx : x < 4294967296 ^ 64
  hy : y < 4294967296 ^ 64
theorem dl_one : dl 1 = [] := rfl
theorem dl_ok (y : Nat) : Ok (dl y) := by
  unfold dl; split
  · exact Ok.nil
  · exact lim_ok y
theorem dl_den (y : Nat) (h : 0 < y) : denN (dl y) = y := by
  unfold denN dl
  by_cases h1 : y = 1
  · rw [if_pos h1, if_pos rfl, h1]
  · rw [if_neg h1, if_neg (by rw [lim_nil]; omega), num_lim]
theorem dl_len (y : Nat) (h : 0 < y) : (dl y).length ≤ 64 ↔ y < 4294967296 ^ 64 := by
  unfold dl
  by_cases h1 : y = 1
  · rw [if_pos h1, h1]
    exact ⟨fun _ => Nat.one_lt_pow (by omega) (by omega), fun _ => by simp⟩
  · rw [if_neg h1, lim_len]
theorem vld_of {x y : Nat} (h : Vr x y) : vld (lim x, dl y) = 0 := by
  unfold vld
  have l1 : (lim x).length ≤ 64 := lim_len.2 h.hx
  have l2 : (dl y).length ≤ 64 := (dl_len y h.pos).2 h.hy
  rw [if_neg (by dsimp only; omega)]
  have p1 : dropz (lim x) = lim x := dropz_lim x
  have p2 : dropz (dl y) = dl y := by
    unfold dl; split
    · rfl
    · exact dropz_lim y
  rw [if_neg (by dsimp only; rw [p1, p2]; simp)]
  rw [if_neg]
  dsimp only
  rintro ⟨hd, hc⟩
  unfold dl at hd hc
  by_cases h1 : y = 1
  · rw [if_pos h1] at hd; exact hd rfl
  · rw [if_neg h1] at hd hc
    rcases hc with hc | hc | hc
    · exact h1 (lim_eq_one.1 hc)
    · have hx := lim_nil.1 hc
      have := h.co
      rw [hx, Nat.gcd_zero_left] at this; exact h1 this
    · rw [num_lim, num_lim] at hc; exact hc h.co
theorem vld_to {r : Rt} (ho : OkR r) (h : vld r = 0) : ∃ x y, Vr x y ∧ r = (lim x, dl y) := by
  obtain ⟨n, d⟩ := r
  unfold vld at h
  dsimp only at h
  by_cases c1 : 64 < n.length ∨ 64 < d.length
  · rw [if_pos c1] at h; cases h
  rw [if_neg c1] at h
  by_cases c2 : dropz n ≠ n ∨ dropz d ≠ d
  · rw [if_pos c2] at h; cases h
  rw [if_neg c2] at h
  by_cases c3 : d ≠ [] ∧ (d = [1] ∨ n = [] ∨ Nat.gcd (num n) (num d) ≠ 1)
  · rw [if_pos c3] at h; cases h
  have e1 : dropz n = n := by
    by_cases e : dropz n = n
    · exact e
    · exact absurd (.inl e) c2
  have e2 : dropz d = d := by
    by_cases e : dropz d = d
    · exact e
    · exact absurd (.inr e) c2
  have f1 : n = lim (num n) := Prp.eq e1 ho.1
  have f2 : d = lim (num d) := Prp.eq e2 ho.2
  have hn : num n < 4294967296 ^ 64 := Nat.lt_of_lt_of_le (num_lt n ho.1) (Nat.pow_le_pow_right (by omega) (by omega))
  have hdl : num d < 4294967296 ^ 64 := Nat.lt_of_lt_of_le (num_lt d ho.2) (Nat.pow_le_pow_right (by omega) (by omega))
  by_cases hd : d = []
  · refine ⟨num n, 1, ⟨by omega, Nat.gcd_one_right _, hn, Nat.one_lt_pow (by omega) (by omega)⟩, ?_⟩
    rw [← f1, dl_one, hd]
  · have hd0 : num d ≠ 0 := fun e => hd (by rw [f2, e, lim_zero])
    have hd1 : d ≠ [1] := fun e => c3 ⟨hd, .inl e⟩
    have hg : Nat.gcd (num n) (num d) = 1 := by
      by_cases e : Nat.gcd (num n) (num d) = 1
      · exact e
      · exact absurd ⟨hd, .inr (.inr e)⟩ c3
    have hne : num d ≠ 1 := fun e => hd1 (by rw [f2, e, lim_one])
    refine ⟨num n, num d, ⟨by omega, hg, hn, hdl⟩, ?_⟩
    rw [← f1]
    unfold dl
    rw [if_neg hne, ← f2]
def madeR (x y : Nat) : Rt × Nat := if x < 4294967296 ^ 64 ∧ y < 4294967296 ^ 64 then ((lim x, dl y), 0) else (noR, 4)
def lowR (x y : Nat) : Rt × Nat := madeR (x / Nat.gcd x y) (y / Nat.gcd x y)
def bothE (a b : Rt) : Nat := if vld a ≠ 0 then vld a else vld b
def addR (a b : Rt) : Rt × Nat := if bothE a b ≠ 0 then (noR, bothE a b) else lowR (num a.1 * denN b.2 + num b.1 * denN a.2) (denN a.2 * denN b.2)
def subR (a b : Rt) : Rt × Nat := if bothE a b ≠ 0 then (noR, bothE a b) else if num a.1 * denN b.2 < num b.1 * denN a.2 then (noR, 5) else lowR (num a.1 * denN b.2 - num b.1 * denN a.2) (denN a.2 * denN b.2)
def mulR (a b : Rt) : Rt × Nat := if bothE a b ≠ 0 then (noR, bothE a b) else lowR (num a.1 * num b.1) (denN a.2 * denN b.2)
def divR (a b : Rt) : Rt × Nat := if bothE a b ≠ 0 then (noR, bothE a b) else if b.1 = [] then (noR, 5) else lowR (num a.1 * denN b.2) (denN a.2 * num b.1)
def cmpR (a b : Rt) : Int × Nat := if bothE a b ≠ 0 then (0, bothE a b) else (ord (num a.1 * denN b.2) (num b.1 * denN a.2), 0)
def ofR (n d : Int) : Rt × Nat := if n < 0 ∨ d ≤ 0 then (noR, 5) else lowR n.toNat d.toNat
theorem made_ok (x y : Nat) : OkR (madeR x y).1 := by
  unfold madeR; split
  · exact ⟨lim_ok x, dl_ok y⟩
  · exact ⟨Ok.nil, Ok.nil⟩
theorem made_vr {x y : Nat} (hy : 0 < y) (hg : Nat.gcd x y = 1) (h : (madeR x y).2 = 0) : Vr x y := by
  unfold madeR at h
  by_cases c : x < 4294967296 ^ 64 ∧ y < 4294967296 ^ 64
  · exact ⟨hy, hg, c.1, c.2⟩
  · rw [if_neg c] at h; cases h
theorem low_co (x y : Nat) (hy : 0 < y) : 0 < y / Nat.gcd x y ∧ Nat.gcd (x / Nat.gcd x y) (y / Nat.gcd x y) = 1 := by
  have hg : 0 < Nat.gcd x y := Nat.gcd_pos_of_pos_right x hy
  exact ⟨Nat.div_pos (Nat.le_of_dvd hy (Nat.gcd_dvd_right x y)) hg, Nat.coprime_iff_gcd_eq_one.1 (Nat.coprime_div_gcd_div_gcd hg)⟩
end Nm
end Go.Proofs.Ytbfhilbagojdnaa
namespace Go.Proofs.Ytbfhilbagojdnaa
set_option linter.unusedVariables false
namespace Nm

/-- Two fractions without a common divisor that are the same number are the same. -/
theorem frac_unique {a b a' b' : Nat} (hb : 0 < b) (hb' : 0 < b') (h1 : Nat.gcd a b = 1) (h2 : Nat.gcd a' b' = 1) (h : a * b' = a' * b) : a = a' ∧ b = b' := by
  have d1 : b ∣ b' := by
    have h3 : b ∣ a * b' := ⟨a', by rw [h, Nat.mul_comm]⟩
    exact Nat.Coprime.dvd_of_dvd_mul_left (Nat.coprime_iff_gcd_eq_one.2 (by rw [Nat.gcd_comm]; exact h1)) h3
  have d2 : b' ∣ b := by
    have h3 : b' ∣ a' * b := ⟨a, by rw [← h, Nat.mul_comm]⟩
    exact Nat.Coprime.dvd_of_dvd_mul_left (Nat.coprime_iff_gcd_eq_one.2 (by rw [Nat.gcd_comm]; exact h2)) h3
  have e : b = b' := Nat.dvd_antisymm d1 d2
  subst e
  exact ⟨Nat.eq_of_mul_eq_mul_right hb h, rfl⟩
theorem low_eq {n d n' d' : Nat} (hd : 0 < d) (hd' : 0 < d') (h : n * d' = n' * d) : lowR n d = lowR n' d' := by
  obtain ⟨p1, c1⟩ := low_co n d hd
  obtain ⟨p2, c2⟩ := low_co n' d' hd'
  have g1 := Nat.gcd_pos_of_pos_right n hd
  have g2 := Nat.gcd_pos_of_pos_right n' hd'
  have e1 : n / Nat.gcd n d * Nat.gcd n d = n := Nat.div_mul_cancel (Nat.gcd_dvd_left n d)
  have e2 : d / Nat.gcd n d * Nat.gcd n d = d := Nat.div_mul_cancel (Nat.gcd_dvd_right n d)
  have e3 : n' / Nat.gcd n' d' * Nat.gcd n' d' = n' := Nat.div_mul_cancel (Nat.gcd_dvd_left n' d')
  have e4 : d' / Nat.gcd n' d' * Nat.gcd n' d' = d' := Nat.div_mul_cancel (Nat.gcd_dvd_right n' d')
  have hx : n / Nat.gcd n d * (d' / Nat.gcd n' d') = n' / Nat.gcd n' d' * (d / Nat.gcd n d) := by
    apply Nat.eq_of_mul_eq_mul_right (Nat.mul_pos g1 g2)
    calc n / Nat.gcd n d * (d' / Nat.gcd n' d') * (Nat.gcd n d * Nat.gcd n' d')
        = (n / Nat.gcd n d * Nat.gcd n d) * (d' / Nat.gcd n' d' * Nat.gcd n' d') := by ac_rfl
      _ = (n' / Nat.gcd n' d' * Nat.gcd n' d') * (d / Nat.gcd n d * Nat.gcd n d) := by rw [e1, e4, e3, e2, h]
      _ = n' / Nat.gcd n' d' * (d / Nat.gcd n d) * (Nat.gcd n d * Nat.gcd n' d') := by ac_rfl
  obtain ⟨q1, q2⟩ := frac_unique p1 p2 c1 c2 hx
  unfold lowR
  rw [q1, q2]
theorem low_self {x y : Nat} (h : Nat.gcd x y = 1) : lowR x y = madeR x y := by unfold lowR; rw [h, Nat.div_one, Nat.div_one]
theorem made_self {x y : Nat} (h : Vr x y) : madeR x y = ((lim x, dl y), 0) := by unfold madeR; rw [if_pos ⟨h.hx, h.hy⟩]
/-- A fraction that is a valid ratio's number gives this ratio. -/
theorem low_valid {n d x y : Nat} (hd : 0 < d) (h : Vr x y) (he : n * y = x * d) : lowR n d = ((lim x, dl y), 0) := by
  rw [low_eq hd h.pos he, low_self h.co, made_self h]
/-- What comes out of a lowest form that fits. -/
theorem low_out {n d : Nat} (hd : 0 < d) (h : (lowR n d).2 = 0) : ∃ x y, Vr x y ∧ (lowR n d).1 = (lim x, dl y) ∧ n * y = x * d := by
  obtain ⟨p1, c1⟩ := low_co n d hd
  have hv := made_vr p1 c1 h
  refine ⟨n / Nat.gcd n d, d / Nat.gcd n d, hv, ?_, ?_⟩
  · unfold lowR; rw [made_self hv]
  · have e1 : n / Nat.gcd n d * Nat.gcd n d = n := Nat.div_mul_cancel (Nat.gcd_dvd_left n d)
    have e2 : d / Nat.gcd n d * Nat.gcd n d = d := Nat.div_mul_cancel (Nat.gcd_dvd_right n d)
    calc n * (d / Nat.gcd n d) = (n / Nat.gcd n d * Nat.gcd n d) * (d / Nat.gcd n d) := by rw [e1]
      _ = n / Nat.gcd n d * (d / Nat.gcd n d * Nat.gcd n d) := by ac_rfl
      _ = n / Nat.gcd n d * d := by rw [e2]
theorem both_valid {x y x' y' : Nat} (h : Vr x y) (h' : Vr x' y') : bothE (lim x, dl y) (lim x', dl y') = 0 := by unfold bothE; rw [vld_of h, vld_of h', if_neg (by simp)]
theorem add_val' {x y x' y' : Nat} (h : Vr x y) (h' : Vr x' y') : addR (lim x, dl y) (lim x', dl y') = lowR (x * y' + x' * y) (y * y') := by
  unfold addR; rw [both_valid h h', if_neg (by simp)]; dsimp only; rw [num_lim, num_lim, dl_den y h.pos, dl_den y' h'.pos]
theorem mul_val' {x y x' y' : Nat} (h : Vr x y) (h' : Vr x' y') : mulR (lim x, dl y) (lim x', dl y') = lowR (x * x') (y * y') := by
  unfold mulR; rw [both_valid h h', if_neg (by simp)]; dsimp only; rw [num_lim, num_lim, dl_den y h.pos, dl_den y' h'.pos]
theorem sub_val' {x y x' y' : Nat} (h : Vr x y) (h' : Vr x' y') : subR (lim x, dl y) (lim x', dl y') = if x * y' < x' * y then (noR, 5) else lowR (x * y' - x' * y) (y * y') := by
  unfold subR; rw [both_valid h h', if_neg (by simp)]; dsimp only; rw [num_lim, num_lim, dl_den y h.pos, dl_den y' h'.pos]
theorem div_val' {x y x' y' : Nat} (h : Vr x y) (h' : Vr x' y') : divR (lim x, dl y) (lim x', dl y') = if x' = 0 then (noR, 5) else lowR (x * y') (y * x') := by
  unfold divR; rw [both_valid h h', if_neg (by simp)]; dsimp only; rw [num_lim, num_lim, dl_den y h.pos, dl_den y' h'.pos]
  by_cases e : x' = 0
  · rw [if_pos (lim_nil.2 e), if_pos e]
  · rw [if_neg (fun q => e (lim_nil.1 q)), if_neg e]
theorem cmp_val' {x y x' y' : Nat} (h : Vr x y) (h' : Vr x' y') : cmpR (lim x, dl y) (lim x', dl y') = (ord (x * y') (x' * y), 0) := by
  unfold cmpR; rw [both_valid h h', if_neg (by simp)]; dsimp only; rw [num_lim, num_lim, dl_den y h.pos, dl_den y' h'.pos]
end Nm
end Go.Proofs.Ytbfhilbagojdnaa
namespace Go.Proofs.Ytbfhilbagojdnaa
set_option linter.unusedVariables false
namespace Nm

/-- Numerator and denominator of the simplest number from an/ad to bn/bd. -/
def betw (an ad bn bd : Nat) : Nat × Nat :=
  if h : 0 < ad ∧ 0 < bd ∧ an % ad ≠ 0 ∧ bn < (an / ad + 1) * bd ∧ an / ad * bd ≤ bn then
    (an / ad * (betw bd (bn - an / ad * bd) ad (an % ad)).1 + (betw bd (bn - an / ad * bd) ad (an % ad)).2, (betw bd (bn - an / ad * bd) ad (an % ad)).1)
  else if an % ad = 0 then (an / ad, 1) else (an / ad + 1, 1)
termination_by ad + bd
decreasing_by
  all_goals
    have h1 := Nat.mod_lt an h.1
    have h2 := h.2.2.2.1
    have h3 := h.2.2.2.2
    have h4 := h.2.1
    rw [Nat.add_mul] at h2
    omega
/-- An interval of positive denominators. -/
structure Itv (an ad bn bd : Nat) : Prop where
  ha : 0 < ad
  hb : 0 < bd
  le : an * bd ≤ bn * ad
/-- A fraction in the interval. -/
def InI (an ad bn bd n d : Nat) : Prop := 0 < d ∧ an * d ≤ n * ad ∧ n * bd ≤ bn * d
theorem betw_int {an ad bn bd : Nat} (h : an % ad = 0) : betw an ad bn bd = (an / ad, 1) := by
  rw [betw, dif_neg (fun q => q.2.2.1 h), if_pos h]
theorem betw_next {an ad bn bd : Nat} (h : an % ad ≠ 0) (h2 : (an / ad + 1) * bd ≤ bn) : betw an ad bn bd = (an / ad + 1, 1) := by
  rw [betw, dif_neg (fun q => by have := q.2.2.2.1; omega), if_neg h]
/-- The inner interval: that of the reciprocals of the rests. -/
theorem Itv.inner {an ad bn bd : Nat} (h : Itv an ad bn bd) (h1 : an % ad ≠ 0) (h2 : bn < (an / ad + 1) * bd) : an / ad * bd < bn ∧ Itv bd (bn - an / ad * bd) ad (an % ad) := by
  have e := Nat.div_add_mod an ad
  obtain ⟨q, hq⟩ : ∃ q, q = an / ad := ⟨_, rfl⟩
  obtain ⟨r, hr⟩ : ∃ r, r = an % ad := ⟨_, rfl⟩
  rw [← hq, ← hr] at e
  rw [← hr] at h1
  rw [← hq] at h2
  rw [← hq, ← hr]
  have hle := h.le
  have e2 : an * bd = q * bd * ad + r * bd := by rw [← e, Nat.add_mul]; congr 1; ac_rfl
  have hlt : q * bd < bn := by
    apply Nat.lt_of_mul_lt_mul_right (a := ad)
    have : 0 < r * bd := Nat.mul_pos (by omega) h.hb
    omega
  refine ⟨hlt, by omega, by omega, ?_⟩
  have e3 : (bn - q * bd) * ad + q * bd * ad = bn * ad := by rw [← Nat.add_mul]; congr 1; omega
  have e4 : ad * (bn - q * bd) = (bn - q * bd) * ad := Nat.mul_comm _ _
  have e5 : bd * r = r * bd := Nat.mul_comm _ _
  omega
theorem betw_rec {an ad bn bd : Nat} (h : Itv an ad bn bd) (h1 : an % ad ≠ 0) (h2 : bn < (an / ad + 1) * bd) :
    betw an ad bn bd = (an / ad * (betw bd (bn - an / ad * bd) ad (an % ad)).1 + (betw bd (bn - an / ad * bd) ad (an % ad)).2, (betw bd (bn - an / ad * bd) ad (an % ad)).1) := by
  rw [betw, dif_pos ⟨h.ha, h.hb, h1, h2, Nat.le_of_lt (h.inner h1 h2).1⟩]
/-- It lies in the interval, is in its lowest form, and no fraction of the interval has a lesser numerator or denominator. -/
theorem betw_good : ∀ (k an ad bn bd : Nat), ad + bd ≤ k → Itv an ad bn bd → InI an ad bn bd (betw an ad bn bd).1 (betw an ad bn bd).2 ∧ Nat.gcd (betw an ad bn bd).1 (betw an ad bn bd).2 = 1 ∧
    ∀ n d, InI an ad bn bd n d → (betw an ad bn bd).1 ≤ n ∧ (betw an ad bn bd).2 ≤ d
  | 0, an, ad, bn, bd, hk, h => by have := h.ha; omega
  | k + 1, an, ad, bn, bd, hk, h => by
    have e := Nat.div_add_mod an ad
    have hrl := Nat.mod_lt an h.ha
    by_cases h1 : an % ad = 0
    · rw [betw_int h1]
      rw [h1, Nat.add_zero] at e
      refine ⟨⟨by omega, ?_, ?_⟩, Nat.gcd_one_right _, ?_⟩
      · show an * 1 ≤ an / ad * ad
        rw [Nat.mul_comm (an / ad)]; omega
      · show an / ad * bd ≤ bn * 1
        have hle := h.le
        apply Nat.le_of_mul_le_mul_right (c := ad) ?_ h.ha
        have e2 : an / ad * bd * ad = an * bd := by rw [← e, Nat.mul_div_cancel_left _ h.ha]; ac_rfl
        rw [Nat.mul_one]
        omega
      · rintro n d ⟨hd, h2, h3⟩
        refine ⟨?_, hd⟩
        show an / ad ≤ n
        have e3 : an * d = an / ad * d * ad := by
          conv => lhs; rw [← e]
          ac_rfl
        have h4 : an / ad * d ≤ n := by
          apply Nat.le_of_mul_le_mul_right (c := ad) ?_ h.ha
          omega
        have h5 : an / ad * 1 ≤ an / ad * d := Nat.mul_le_mul_left _ hd
        omega
    · by_cases h2 : (an / ad + 1) * bd ≤ bn
      · rw [betw_next h1 h2]
        refine ⟨⟨by omega, ?_, ?_⟩, Nat.gcd_one_right _, ?_⟩
        · show an * 1 ≤ (an / ad + 1) * ad
          rw [Nat.add_mul, Nat.mul_comm (an / ad)]; omega
        · show (an / ad + 1) * bd ≤ bn * 1
          omega
        · rintro n d ⟨hd, h3, h4⟩
          refine ⟨?_, hd⟩
          show an / ad + 1 ≤ n
          have h6 : an / ad * d < n := by
            apply Nat.lt_of_mul_lt_mul_right (a := ad)
            have e3 : an * d = an / ad * d * ad + an % ad * d := by
              conv => lhs; rw [← e]
              rw [Nat.add_mul]; congr 1; ac_rfl
            have : 0 < an % ad * d := Nat.mul_pos (by omega) hd
            omega
          have h5 : an / ad * 1 ≤ an / ad * d := Nat.mul_le_mul_left _ hd
          omega
      · have h2' : bn < (an / ad + 1) * bd := by omega
        obtain ⟨hlt, hin⟩ := h.inner h1 h2'
        rw [betw_rec h h1 h2']
        have hsm : (bn - an / ad * bd) + an % ad ≤ k := by
          have h9 := h2'
          rw [Nat.add_mul] at h9
          omega
        obtain ⟨⟨p1, p2, p3⟩, pg, pm⟩ := betw_good k bd (bn - an / ad * bd) ad (an % ad) hsm hin
        obtain ⟨R, hR⟩ : ∃ R, R = betw bd (bn - an / ad * bd) ad (an % ad) := ⟨_, rfl⟩
        rw [← hR] at p1 p2 p3 pg pm ⊢
        obtain ⟨rn, rd⟩ := R
        dsimp only at p1 p2 p3 pg pm ⊢
        obtain ⟨q, hq⟩ : ∃ q, q = an / ad := ⟨_, rfl⟩
        obtain ⟨r, hr⟩ : ∃ r, r = an % ad := ⟨_, rfl⟩
        obtain ⟨m, hm⟩ : ∃ m, m = bn - an / ad * bd := ⟨_, rfl⟩
        have hbn : bn = q * bd + m := by rw [hm, hq]; omega
        have han : an = q * ad + r := by rw [hq, hr, Nat.mul_comm]; omega
        rw [← hm] at p2 pm hin
        rw [← hr] at p3 pm hin h1
        rw [← hq]
        clear hm hq hr hlt h2 h2' hR
        have hrn : 0 < rn := by
          rcases Nat.eq_zero_or_pos rn with h0 | h0
          · subst h0
            have : 0 < bd * rd := Nat.mul_pos h.hb p1
            omega
          · exact h0
        refine ⟨⟨hrn, ?_, ?_⟩, ?_, ?_⟩
        · rw [han, Nat.add_mul, Nat.add_mul]
          have e1 : q * ad * rn = q * rn * ad := by ac_rfl
          have e2 : r * rn = rn * r := Nat.mul_comm _ _
          have e3 : rd * ad = ad * rd := Nat.mul_comm _ _
          omega
        · rw [hbn, Nat.add_mul, Nat.add_mul]
          have e1 : q * rn * bd = q * bd * rn := by ac_rfl
          have e2 : rd * bd = bd * rd := Nat.mul_comm _ _
          have e3 : m * rn = rn * m := Nat.mul_comm _ _
          omega
        · rw [Nat.gcd_comm, Nat.gcd_mul_right_add_right]; exact pg
        · rintro n d ⟨hd, h3, h4⟩
          have h6 : q * d < n := by
            apply Nat.lt_of_mul_lt_mul_right (a := ad)
            have e3 : an * d = q * d * ad + r * d := by rw [han, Nat.add_mul]; congr 1; ac_rfl
            have : 0 < r * d := Nat.mul_pos (by omega) hd
            omega
          obtain ⟨s, rfl⟩ : ∃ s, n = q * d + s := ⟨n - q * d, by omega⟩
          have hs : 0 < s := by omega
          have hi : InI bd m ad r d s := by
            refine ⟨hs, ?_, ?_⟩
            · rw [hbn, Nat.add_mul, Nat.add_mul] at h4
              have e1 : q * d * bd = q * bd * d := by ac_rfl
              have e2 : bd * s = s * bd := Nat.mul_comm _ _
              have e3 : d * m = m * d := Nat.mul_comm _ _
              omega
            · rw [han, Nat.add_mul, Nat.add_mul] at h3
              have e1 : q * ad * d = q * d * ad := by ac_rfl
              have e2 : d * r = r * d := Nat.mul_comm _ _
              have e3 : ad * s = s * ad := Nat.mul_comm _ _
              omega
          obtain ⟨m1, m2⟩ := pm d s hi
          refine ⟨?_, m1⟩
          have : q * rn ≤ q * d := Nat.mul_le_mul_left _ m1
          omega
end Nm
end Go.Proofs.Ytbfhilbagojdnaa
namespace Go.Proofs.Ytbfhilbagojdnaa
set_option linter.unusedVariables false
namespace Nm

theorem add_comm' (x1 y1 x2 y2 : Nat) : lowR (x1 * y2 + x2 * y1) (y1 * y2) = lowR (x2 * y1 + x1 * y2) (y2 * y1) := by rw [Nat.add_comm, Nat.mul_comm y1]
theorem mul_comm' (x1 y1 x2 y2 : Nat) : lowR (x1 * x2) (y1 * y2) = lowR (x2 * x1) (y2 * y1) := by rw [Nat.mul_comm x1, Nat.mul_comm y1]
theorem cross_add {x1 y1 x2 y2 x3 y3 p q p' q' : Nat} (hy2 : 0 < y2) (h1 : (x1 * y2 + x2 * y1) * q = p * (y1 * y2)) (h2 : (x2 * y3 + x3 * y2) * q' = p' * (y2 * y3)) :
    (p * y3 + x3 * q) * (y1 * q') = (x1 * q' + p' * y1) * (q * y3) := by
  apply Nat.eq_of_mul_eq_mul_right hy2
  have e1 : (p * y3 + x3 * q) * (y1 * q') * y2 = p * (y1 * y2) * (y3 * q') + x3 * q * y1 * q' * y2 := by grind
  have e2 : (x1 * q' + p' * y1) * (q * y3) * y2 = p' * (y2 * y3) * (y1 * q) + x1 * q' * q * y3 * y2 := by grind
  rw [e1, e2, ← h1, ← h2]
  grind
theorem add_assoc' {x1 y1 x2 y2 x3 y3 p q p' q' : Nat} (hq : 0 < q) (hq' : 0 < q') (hy1 : 0 < y1) (hy2 : 0 < y2) (hy3 : 0 < y3) (h1 : (x1 * y2 + x2 * y1) * q = p * (y1 * y2)) (h2 : (x2 * y3 + x3 * y2) * q' = p' * (y2 * y3)) :
    lowR (p * y3 + x3 * q) (q * y3) = lowR (x1 * q' + p' * y1) (y1 * q') :=
  low_eq (Nat.mul_pos hq hy3) (Nat.mul_pos hy1 hq') (cross_add hy2 h1 h2)
/-- Sub leads back from a sum. -/
theorem sub_back {x1 y1 x2 y2 p q : Nat} (h : Vr x1 y1) (hq : 0 < q) (hy2 : 0 < y2) (h1 : (x1 * y2 + x2 * y1) * q = p * (y1 * y2)) : ¬ p * y2 < x2 * q ∧ lowR (p * y2 - x2 * q) (q * y2) = ((lim x1, dl y1), 0) := by
  have hy1 := h.pos
  have e : p * y2 * y1 = x1 * y2 * q + x2 * q * y1 := by
    have : p * y2 * y1 = p * (y1 * y2) := by ac_rfl
    rw [this, ← h1]; grind
  have hle : x2 * q ≤ p * y2 := by
    apply Nat.le_of_mul_le_mul_right (c := y1) ?_ hy1
    omega
  refine ⟨by omega, low_valid (Nat.mul_pos hq hy2) h ?_⟩
  obtain ⟨m, hm⟩ : ∃ m, m = p * y2 - x2 * q := ⟨_, rfl⟩
  have e2 : p * y2 = m + x2 * q := by omega
  rw [← hm]
  rw [e2, Nat.add_mul] at e
  have e3 : x1 * (q * y2) = x1 * y2 * q := by ac_rfl
  omega
/-- Div leads back from a product. -/
theorem div_back {x1 y1 x2 y2 p q : Nat} (h : Vr x1 y1) (hq : 0 < q) (hx2 : 0 < x2) (hy2 : 0 < y2) (h1 : x1 * x2 * q = p * (y1 * y2)) : lowR (p * y2) (q * x2) = ((lim x1, dl y1), 0) := by
  refine low_valid (Nat.mul_pos hq hx2) h ?_
  have e1 : p * y2 * y1 = p * (y1 * y2) := by ac_rfl
  have e2 : x1 * (q * x2) = x1 * x2 * q := by ac_rfl
  rw [e1, e2, h1]
/-- Products of sums are sums of products. -/
theorem mul_add' {x1 y1 x2 y2 x3 y3 p q u v s t : Nat} (hy1 : 0 < y1) (hy2 : 0 < y2) (hy3 : 0 < y3) (hq : 0 < q) (hv : 0 < v) (ht : 0 < t) (h1 : (x2 * y3 + x3 * y2) * q = p * (y2 * y3)) (h2 : x1 * x2 * v = u * (y1 * y2)) (h3 : x1 * x3 * t = s * (y1 * y3)) :
    lowR (x1 * p) (y1 * q) = lowR (u * t + s * v) (v * t) := by
  refine low_eq (Nat.mul_pos hy1 hq) (Nat.mul_pos hv ht) ?_
  apply Nat.eq_of_mul_eq_mul_right (Nat.mul_pos hy2 hy3)
  have e1 : x1 * p * (v * t) * (y2 * y3) = p * (y2 * y3) * (x1 * v * t) := by ac_rfl
  have e2 : (u * t + s * v) * (y1 * q) * (y2 * y3) = u * (y1 * y2) * (t * q * y3) + s * (y1 * y3) * (v * q * y2) := by grind
  rw [e1, e2, ← h1, ← h2, ← h3]
  grind
end Nm
end Go.Proofs.Ytbfhilbagojdnaa
namespace Go.Proofs.Ytbfhilbagojdnaa
set_option linter.unusedVariables false
namespace Nm

theorem ord_mul (a b k : Nat) (hk : 0 < k) : ord (a * k) (b * k) = ord a b := by
  unfold ord
  rcases Nat.lt_trichotomy a b with h | h | h
  · rw [if_pos (Nat.mul_lt_mul_of_pos_right h hk), if_pos h]
  · subst h; rw [if_neg (by omega), if_pos rfl, if_neg (by omega), if_pos rfl]
  · have := Nat.mul_lt_mul_of_pos_right h hk
    rw [if_neg (by omega), if_neg (by omega), if_neg (by omega), if_neg (by omega)]
theorem ord_add (a b k : Nat) : ord (a + k) (b + k) = ord a b := by
  unfold ord
  rcases Nat.lt_trichotomy a b with h | h | h
  · rw [if_pos (by omega), if_pos h]
  · subst h; rw [if_neg (by omega), if_pos rfl, if_neg (by omega), if_pos rfl]
  · rw [if_neg (by omega), if_neg (by omega), if_neg (by omega), if_neg (by omega)]
theorem ord_flip (a b : Nat) : ord b a = - ord a b := by
  unfold ord
  rcases Nat.lt_trichotomy a b with h | h | h
  · rw [if_neg (by omega), if_neg (by omega), if_pos h]; rfl
  · subst h; rw [if_neg (by omega), if_pos rfl]; rfl
  · rw [if_pos h, if_neg (by omega), if_neg (by omega)]
theorem ord_of {A B a b k m : Nat} (hk : 0 < k) (hm : 0 < m) (h1 : A * m = a * k) (h2 : B * m = b * k) : ord A B = ord a b := by
  rw [← ord_mul A B m hm, h1, h2, ord_mul a b k hk]
theorem ord_le (a b : Nat) : 0 ≤ ord a b ↔ b ≤ a := by
  unfold ord
  rcases Nat.lt_trichotomy a b with h | h | h
  · rw [if_pos h]; omega
  · subst h; rw [if_neg (by omega), if_pos rfl]; omega
  · rw [if_neg (by omega), if_neg (by omega)]; omega
theorem ord_zero (a b : Nat) : ord a b = 0 ↔ a = b := by
  unfold ord
  rcases Nat.lt_trichotomy a b with h | h | h
  · rw [if_pos h]; omega
  · subst h; rw [if_neg (by omega), if_pos rfl]; omega
  · rw [if_neg (by omega), if_neg (by omega)]; omega
/-- The order of sums with a common summand. -/
theorem ord_sums {x1 y1 x2 y2 x3 y3 p q p' q' : Nat} (hy1 : 0 < y1) (hy2 : 0 < y2) (hy3 : 0 < y3) (hq : 0 < q) (hq' : 0 < q') (h1 : (x1 * y3 + x3 * y1) * q = p * (y1 * y3)) (h2 : (x2 * y3 + x3 * y2) * q' = p' * (y2 * y3)) :
    ord (p * q') (p' * q) = ord (x1 * y2) (x2 * y1) := by
  have e : ord (x1 * y2) (x2 * y1) = ord (x1 * y2 * y3 + x3 * y1 * y2) (x2 * y1 * y3 + x3 * y1 * y2) := by rw [ord_add, ord_mul _ _ _ hy3]
  rw [e]
  refine ord_of (k := q * q' * y3) (m := y1 * y3 * (y2 * y3)) (Nat.mul_pos (Nat.mul_pos hq hq') hy3) (Nat.mul_pos (Nat.mul_pos hy1 hy3) (Nat.mul_pos hy2 hy3)) ?_ ?_
  · have e1 : p * q' * (y1 * y3 * (y2 * y3)) = p * (y1 * y3) * (q' * (y2 * y3)) := by ac_rfl
    rw [e1, ← h1]; grind
  · have e1 : p' * q * (y1 * y3 * (y2 * y3)) = p' * (y2 * y3) * (q * (y1 * y3)) := by ac_rfl
    rw [e1, ← h2]; grind
/-- The order of products with a common factor. -/
theorem ord_muls {x1 y1 x2 y2 x3 y3 p q p' q' : Nat} (hy1 : 0 < y1) (hy2 : 0 < y2) (hy3 : 0 < y3) (hq : 0 < q) (hq' : 0 < q') (hx3 : 0 < x3) (h1 : x1 * x3 * q = p * (y1 * y3)) (h2 : x2 * x3 * q' = p' * (y2 * y3)) :
    ord (p * q') (p' * q) = ord (x1 * y2) (x2 * y1) := by
  refine ord_of (k := x3 * q * q' * y3) (m := y1 * y3 * (y2 * y3)) (Nat.mul_pos (Nat.mul_pos (Nat.mul_pos hx3 hq) hq') hy3) (Nat.mul_pos (Nat.mul_pos hy1 hy3) (Nat.mul_pos hy2 hy3)) ?_ ?_
  · have e1 : p * q' * (y1 * y3 * (y2 * y3)) = p * (y1 * y3) * (q' * (y2 * y3)) := by ac_rfl
    rw [e1, ← h1]; grind
  · have e1 : p' * q * (y1 * y3 * (y2 * y3)) = p' * (y2 * y3) * (q * (y1 * y3)) := by ac_rfl
    rw [e1, ← h2]; grind
/-- Equal numbers are equal ratios. -/
theorem eq_of_ord {x1 y1 x2 y2 : Nat} (h1 : Vr x1 y1) (h2 : Vr x2 y2) (h : ord (x1 * y2) (x2 * y1) = 0) : x1 = x2 ∧ y1 = y2 :=
  frac_unique h1.pos h2.pos h1.co h2.co ((ord_zero _ _).1 h)
/-- The integer below. -/
theorem floor_le (x y : Nat) (hy : 0 < y) : x / y * y ≤ x * 1 ∧ x * 1 < (x / y + 1) * y := by
  have h1 := Nat.div_mul_le_self x y
  have h2 := Nat.lt_mul_div_succ x hy
  rw [Nat.mul_comm] at h2
  omega
end Nm
end Go.Proofs.Ytbfhilbagojdnaa
namespace Go.Proofs.Ytbfhilbagojdnaa
set_option linter.unusedVariables false
namespace Nm

/-- The borrow of a difference below limb i. -/
def brw (A B D : Nat) : Nat := if A % D < B % D then 1 else 0
theorem brw_le (A B D : Nat) : brw A B D ≤ 1 := by unfold brw; split <;> omega
theorem brw_digit (A B D : Nat) (h : 0 < D) (hAB : B ≤ A) : (A / D % 4294967296 + 4294967296 - B / D % 4294967296 - brw A B D) % 4294967296 = (A - B) / D % 4294967296 := by
  have e1 := Nat.div_add_mod A D
  have e2 := Nat.div_add_mod B D
  have m1 := Nat.mod_lt A h
  have m2 := Nat.mod_lt B h
  obtain ⟨qa, hqa⟩ : ∃ q, q = A / D := ⟨_, rfl⟩
  obtain ⟨qb, hqb⟩ : ∃ q, q = B / D := ⟨_, rfl⟩
  have hq : qb ≤ qa := by rw [hqa, hqb]; exact Nat.div_le_div_right hAB
  unfold brw
  rw [← hqa] at e1 ⊢
  rw [← hqb] at e2 ⊢
  generalize A % D = r at *
  generalize B % D = s at *
  by_cases hk : r < s
  · rw [if_pos hk]
    have hlt : qb + 1 ≤ qa := by
      rcases Nat.lt_or_ge qb qa with h1 | h1
      · exact h1
      · have : qa = qb := by omega
        subst this; omega
    obtain ⟨t, ht⟩ : ∃ t, qa = qb + 1 + t := ⟨qa - (qb + 1), by omega⟩
    have e : A - B = (r + D - s) + D * t := by
      have : D * qa = D * qb + D + D * t := by rw [ht, Nat.mul_add, Nat.mul_add, Nat.mul_one]
      omega
    rw [e, Nat.add_mul_div_left _ _ h, Nat.div_eq_of_lt (by omega)]
    omega
  · rw [if_neg hk]
    obtain ⟨t, ht⟩ : ∃ t, qa = qb + t := ⟨qa - qb, by omega⟩
    have e : A - B = (r - s) + D * t := by
      have : D * qa = D * qb + D * t := by rw [ht, Nat.mul_add]
      omega
    rw [e, Nat.add_mul_div_left _ _ h, Nat.div_eq_of_lt (by omega)]
    omega
theorem brw_next (A B D : Nat) (h : 0 < D) : 1 - (A / D % 4294967296 + 4294967296 - B / D % 4294967296 - brw A B D) / 4294967296 = brw A B (D * 4294967296) := by
  unfold brw
  rw [Nat.mod_mul, Nat.mod_mul]
  have m1 := Nat.mod_lt A h
  have m2 := Nat.mod_lt B h
  have a1 : A / D % 4294967296 < 4294967296 := Nat.mod_lt _ (by omega)
  have b1 : B / D % 4294967296 < 4294967296 := Nat.mod_lt _ (by omega)
  generalize A / D % 4294967296 = a at *
  generalize B / D % 4294967296 = b at *
  generalize A % D = r at *
  generalize B % D = s at *
  rcases Nat.lt_trichotomy a b with hab | hab | hab
  · obtain ⟨t, ht⟩ : ∃ t, b = a + 1 + t := ⟨b - (a + 1), by omega⟩
    have e : D * b = D * a + D + D * t := by rw [ht, Nat.mul_add, Nat.mul_add, Nat.mul_one]
    rw [if_pos (show r + D * a < s + D * b by omega)]
    split <;> omega
  · subst hab
    by_cases hk : r < s
    · rw [if_pos hk, if_pos (by omega)]; omega
    · rw [if_neg hk, if_neg (by omega)]; omega
  · obtain ⟨t, ht⟩ : ∃ t, a = b + 1 + t := ⟨a - (b + 1), by omega⟩
    have e : D * a = D * b + D + D * t := by rw [ht, Nat.mul_add, Nat.mul_add, Nat.mul_one]
    rw [if_neg (show ¬ (r + D * a < s + D * b) by omega)]
    split <;> omega
theorem brw_zero (A B : Nat) : brw A B 1 = 0 := by unfold brw; rw [Nat.mod_one, Nat.mod_one]; rfl
/-- A limb put in the place of another one. -/
theorem num_set : ∀ (l : List Nat) (j v : Nat) (h : j < l.length), num (l.set j v) + 4294967296 ^ j * l[j] = num l + 4294967296 ^ j * v
  | [], j, v, h => by simp at h
  | a :: l, 0, v, h => by
    simp only [List.set_cons_zero, num_cons, Nat.pow_zero, Nat.one_mul, List.getElem_cons_zero]; omega
  | a :: l, j + 1, v, h => by
    have ih := num_set l j v (by simpa using h)
    simp only [List.set_cons_succ, num_cons, List.getElem_cons_succ]
    have e : ∀ z, 4294967296 ^ (j + 1) * z = 4294967296 * (4294967296 ^ j * z) := fun z => by rw [Nat.pow_succ', Nat.mul_assoc]
    rw [e, e]
    omega
theorem ok_set {l : List Nat} (h : Ok l) (j v : Nat) (hv : v < 4294967296) : Ok (l.set j v) := by
  intro x hx
  rcases List.mem_or_eq_of_mem_set hx with h1 | h1
  · exact h x h1
  · omega
/-- One limb of the inner loop of Times. -/
theorem mul_step (l : List Nat) (P X Y i k carry : Nat) (h : i + k < l.length) (hl : Ok l) (hc : carry < 4294967296) (hX : X < 4294967296)
    (hinv : num l + 4294967296 ^ (i + k) * carry = P + 4294967296 ^ i * (X * (Y % 4294967296 ^ k))) :
    num (l.set (i + k) ((X * (Y / 4294967296 ^ k % 4294967296) + l[i + k] + carry) % 4294967296)) + 4294967296 ^ (i + (k + 1)) * ((X * (Y / 4294967296 ^ k % 4294967296) + l[i + k] + carry) / 4294967296) = P + 4294967296 ^ i * (X * (Y % 4294967296 ^ (k + 1))) ∧
    (X * (Y / 4294967296 ^ k % 4294967296) + l[i + k] + carry) / 4294967296 < 4294967296 := by
  have hy : Y / 4294967296 ^ k % 4294967296 < 4294967296 := Nat.mod_lt _ (by omega)
  have hmod : Y % 4294967296 ^ (k + 1) = Y % 4294967296 ^ k + 4294967296 ^ k * (Y / 4294967296 ^ k % 4294967296) := by rw [Nat.pow_succ, Nat.mod_mul]
  have hx := hl.get (i + k) h
  obtain ⟨y, ey⟩ : ∃ y, y = Y / 4294967296 ^ k % 4294967296 := ⟨_, rfl⟩
  rw [← ey] at hy hmod ⊢
  have hXy : X * y ≤ 4294967295 * 4294967295 := Nat.mul_le_mul (by omega) (by omega)
  obtain ⟨s, hs⟩ : ∃ s, s = X * y + l[i + k] + carry := ⟨_, rfl⟩
  have hns := num_set l (i + k) (s % 4294967296) h
  rw [← hs]
  refine ⟨?_, by omega⟩
  have e1 : 4294967296 ^ (i + (k + 1)) * (s / 4294967296) = 4294967296 ^ (i + k) * (4294967296 * (s / 4294967296)) := by rw [← Nat.add_assoc, Nat.pow_succ, Nat.mul_assoc]
  have e2 : 4294967296 ^ (i + k) * (s % 4294967296) + 4294967296 ^ (i + k) * (4294967296 * (s / 4294967296)) = 4294967296 ^ (i + k) * s := by
    rw [← Nat.mul_add, Nat.mod_add_div]
  have e3 : 4294967296 ^ (i + k) * s = 4294967296 ^ (i + k) * (X * y) + 4294967296 ^ (i + k) * l[i + k] + 4294967296 ^ (i + k) * carry := by
    rw [hs, Nat.mul_add, Nat.mul_add]
  have e4 : 4294967296 ^ i * (X * (Y % 4294967296 ^ (k + 1))) = 4294967296 ^ i * (X * (Y % 4294967296 ^ k)) + 4294967296 ^ (i + k) * (X * y) := by
    rw [hmod, Nat.mul_add, Nat.mul_add, Nat.pow_add, Nat.mul_left_comm X, Nat.mul_assoc (4294967296 ^ i) (4294967296 ^ k)]
  rw [e1, e4]
  omega
/-- The end of the inner loop of Times. -/
theorem mul_row (l : List Nat) (P X Y i lb carry T : Nat) (hY : Y < 4294967296 ^ lb) (hT : T < 4294967296 ^ (i + 1)) (hP : P + 4294967296 ^ i * (X * Y) = T * Y)
    (hinv : num l + 4294967296 ^ (i + (lb + 1)) * carry = P + 4294967296 ^ i * (X * (Y % 4294967296 ^ (lb + 1)))) : num l = T * Y ∧ carry = 0 := by
  have hY2 : Y < 4294967296 ^ (lb + 1) := by rw [Nat.pow_succ]; omega
  rw [Nat.mod_eq_of_lt hY2, hP] at hinv
  have h1 : T * Y < 4294967296 ^ (i + (lb + 1)) := by
    rw [show i + (lb + 1) = (i + 1) + lb by omega, Nat.pow_add]
    exact Nat.mul_lt_mul'' hT hY
  rcases Nat.eq_zero_or_pos carry with h0 | h0
  · subst h0
    rw [Nat.mul_zero] at hinv
    exact ⟨by omega, rfl⟩
  · have : 4294967296 ^ (i + (lb + 1)) * 1 ≤ 4294967296 ^ (i + (lb + 1)) * carry := Nat.mul_le_mul_left _ h0
    omega
/-- Half of a number, limb by limb. -/
theorem half_digit (V k : Nat) : V / 4294967296 ^ k % 4294967296 / 2 + V / 4294967296 ^ (k + 1) % 4294967296 % 2 * 2147483648 = V / 2 / 4294967296 ^ k % 4294967296 := by
  rw [Nat.pow_succ, ← Nat.div_div_eq_div_mul, Nat.div_div_eq_div_mul V 2, Nat.mul_comm 2, ← Nat.div_div_eq_div_mul V]
  generalize V / 4294967296 ^ k = z
  omega
end Nm
end Go.Proofs.Ytbfhilbagojdnaa
namespace Go.Proofs.Ytbfhilbagojdnaa
set_option linter.unusedVariables false
namespace Nm

theorem bit_at (X k e : Nat) (he : e < 32) : X / 4294967296 ^ k % 4294967296 / 2 ^ e % 2 = X / 2 ^ (32 * k + e) % 2 := by
  rw [B_two, Nat.pow_add, ← Nat.div_div_eq_div_mul]
  generalize X / 2 ^ (32 * k) = q
  have h : 4294967296 = 2 ^ e * (2 * 2 ^ (31 - e)) := by
    rw [← Nat.pow_succ', ← Nat.pow_add, show e + (31 - e + 1) = 32 by omega]
  rw [h, Nat.mod_mul_right_div_self, Nat.mod_mul_right_mod]
theorem or_add' (a b k : Nat) (h : a < 2 ^ k) : b * 2 ^ k ||| a = b * 2 ^ k + a := by
  rw [Nat.mul_comm, ← Nat.two_pow_add_eq_or_of_lt h]
theorem quo_put (n k e s q0 Q : Nat) (hs : s = 32 * k + e) (he : e < 32) (hk : k < n) (hQ : Q = q0 * 2 ^ (s + 1)) :
    (Q / 4294967296 ^ k % 4294967296 ||| 2 ^ e) = Q / 4294967296 ^ k % 4294967296 + 2 ^ e ∧ Q / 4294967296 ^ k % 4294967296 + 2 ^ e < 4294967296 ∧ digs n (Q + 2 ^ s) = (digs n Q).set k (Q / 4294967296 ^ k % 4294967296 + 2 ^ e) := by
  have h1 : Q / 4294967296 ^ k = q0 * 2 ^ (e + 1) := by
    rw [hQ, hs, B_two, show 32 * k + e + 1 = 32 * k + (e + 1) by omega, Nat.pow_add, Nat.mul_left_comm, Nat.mul_div_cancel_left _ (Nat.two_pow_pos _)]
  have h2 : 4294967296 = 2 ^ (31 - e) * 2 ^ (e + 1) := by rw [← Nat.pow_add, show 31 - e + (e + 1) = 32 by omega]
  have h3 : Q / 4294967296 ^ k % 4294967296 = q0 % 2 ^ (31 - e) * 2 ^ (e + 1) := by rw [h1, h2, Nat.mul_mod_mul_right]
  have h4 : q0 % 2 ^ (31 - e) < 2 ^ (31 - e) := Nat.mod_lt _ (Nat.two_pow_pos _)
  have h5 : 2 ^ e < 2 ^ (e + 1) := Nat.pow_lt_pow_right (by omega) (by omega)
  have h6 : Q / 4294967296 ^ k % 4294967296 + 2 ^ e < 4294967296 := by
    rw [h3]
    have : (q0 % 2 ^ (31 - e) + 1) * 2 ^ (e + 1) ≤ 2 ^ (31 - e) * 2 ^ (e + 1) := Nat.mul_le_mul_right _ h4
    rw [Nat.add_mul, Nat.one_mul, ← h2] at this
    omega
  refine ⟨?_, h6, ?_⟩
  · rw [h3, or_add' _ _ _ h5]
  · have h7 := digs_set n k Q (2 ^ e) hk h6
    rw [← h7, hs, B_two, ← Nat.pow_add]
theorem quoS_step (X Y s : Nat) (hY : 0 < Y) :
    X / 2 ^ s / Y * 2 ^ s = X / 2 ^ (s + 1) / Y * 2 ^ (s + 1) + (if Y ≤ 2 * (X / 2 ^ (s + 1) % Y) + X / 2 ^ s % 2 then 2 ^ s else 0) ∧
    X / 2 ^ s % Y = 2 * (X / 2 ^ (s + 1) % Y) + X / 2 ^ s % 2 - (if Y ≤ 2 * (X / 2 ^ (s + 1) % Y) + X / 2 ^ s % 2 then Y else 0) := by
  have h := bit_step (X / 2 ^ (s + 1)) Y (X / 2 ^ s % 2) hY (Nat.mod_lt _ (by omega))
  have e : 2 * (X / 2 ^ (s + 1)) + X / 2 ^ s % 2 = X / 2 ^ s := by
    rw [Nat.pow_succ, ← Nat.div_div_eq_div_mul]; omega
  rw [e] at h
  refine ⟨?_, h.2⟩
  rw [h.1, Nat.add_mul]
  congr 1
  · rw [Nat.pow_succ]
    generalize X / (2 ^ s * 2) / Y = q
    rw [Nat.mul_comm 2 q, Nat.mul_assoc, Nat.mul_comm 2]
  · split <;> simp
end Nm
end Go.Proofs.Ytbfhilbagojdnaa
