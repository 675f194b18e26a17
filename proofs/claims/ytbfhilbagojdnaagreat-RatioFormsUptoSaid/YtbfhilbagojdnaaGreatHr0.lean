/-
  Texts of the proof, joined: Lim, Bit, Fm, Dc, Dv, Knu, Lw, Kn2.
  No condition: lemmas.
-/
namespace Go.Proofs.YtbfhilbagojdnaaGreat
set_option linter.unusedVariables false
namespace Nm

def num : List Nat → Nat
  | [] => 0
  | a :: l => a + 4294967296 * num l
def Ok (l : List Nat) : Prop := ∀ x ∈ l, x < 4294967296
/-- The k lowest limbs of n. -/
def digs : Nat → Nat → List Nat
  | 0, _ => []
  | k + 1, n => n % 4294967296 :: digs k (n / 4294967296)
/-- A list without the noughts at its end. -/
def dropz : List Nat → List Nat
  | [] => []
  | a :: l => if a = 0 ∧ dropz l = [] then [] else a :: dropz l
/-- The limbs of n, without noughts at the end. -/
def lim (n : Nat) : List Nat := if h : n = 0 then [] else n % 4294967296 :: lim (n / 4294967296)
termination_by n
decreasing_by exact Nat.div_lt_self (by omega) (by omega)

theorem num_cons (a : Nat) (l : List Nat) : num (a :: l) = a + 4294967296 * num l := rfl
theorem num_append : ∀ a b : List Nat, num (a ++ b) = num a + 4294967296 ^ a.length * num b
  | [], b => by simp [num]
  | x :: a, b => by
    rw [List.cons_append, num_cons, num_cons, num_append a b, List.length_cons, Nat.pow_succ, Nat.mul_add]
    rw [show 4294967296 ^ a.length * 4294967296 * num b = 4294967296 * (4294967296 ^ a.length * num b) by rw [Nat.mul_comm (4294967296 ^ a.length) 4294967296, Nat.mul_assoc]]
    omega
theorem Ok.tail {a : Nat} {l : List Nat} (h : Ok (a :: l)) : Ok l := fun x hx => h x (List.mem_cons_of_mem _ hx)
theorem Ok.head {a : Nat} {l : List Nat} (h : Ok (a :: l)) : a < 4294967296 := h a (List.mem_cons_self ..)
theorem Ok.nil : Ok [] := fun _ h => by cases h
theorem Ok.cons {a : Nat} {l : List Nat} (h : a < 4294967296) (hl : Ok l) : Ok (a :: l) := by
  intro x hx
  rcases List.mem_cons.1 hx with rfl | hx
  · exact h
  · exact hl x hx
theorem Ok.append {a b : List Nat} (ha : Ok a) (hb : Ok b) : Ok (a ++ b) := by
  intro x hx
  rcases List.mem_append.1 hx with h | h
  · exact ha x h
  · exact hb x h
theorem Ok.take {l : List Nat} (h : Ok l) (k : Nat) : Ok (l.take k) := fun x hx => h x (List.mem_of_mem_take hx)
theorem Ok.drop {l : List Nat} (h : Ok l) (k : Nat) : Ok (l.drop k) := fun x hx => h x (List.mem_of_mem_drop hx)
theorem Ok.get {l : List Nat} (h : Ok l) (k : Nat) (hk : k < l.length) : l[k] < 4294967296 := h _ (List.getElem_mem hk)
theorem num_lt : ∀ (l : List Nat), Ok l → num l < 4294967296 ^ l.length
  | [], _ => by simp [num]
  | a :: l, h => by
    have h1 := num_lt l h.tail
    have h2 := h.head
    rw [num_cons, List.length_cons, Nat.pow_succ]
    omega
theorem digs_len : ∀ k n : Nat, (digs k n).length = k
  | 0, _ => rfl
  | k + 1, n => by rw [digs, List.length_cons, digs_len]
theorem digs_ok : ∀ k n : Nat, Ok (digs k n)
  | 0, _ => Ok.nil
  | k + 1, n => by rw [digs]; exact Ok.cons (Nat.mod_lt _ (by omega)) (digs_ok k _)
theorem num_digs : ∀ k n : Nat, num (digs k n) = n % 4294967296 ^ k
  | 0, n => by simp [digs, num, Nat.mod_one]
  | k + 1, n => by rw [digs, num_cons, num_digs k, Nat.pow_succ', Nat.mod_mul]
theorem digs_num : ∀ l : List Nat, Ok l → digs l.length (num l) = l
  | [], _ => rfl
  | a :: l, h => by
    have h2 := h.head
    rw [List.length_cons, digs, num_cons, show (a + 4294967296 * num l) % 4294967296 = a by omega, show (a + 4294967296 * num l) / 4294967296 = num l by omega, digs_num l h.tail]
theorem digs_append : ∀ i j n : Nat, digs (i + j) n = digs i n ++ digs j (n / 4294967296 ^ i)
  | 0, j, n => by simp [digs]
  | i + 1, j, n => by
    rw [show i + 1 + j = (i + j) + 1 by omega, digs, digs, digs_append i j, List.cons_append, Nat.pow_succ', Nat.div_div_eq_div_mul]
theorem digs_snoc (k n : Nat) : digs (k + 1) n = digs k n ++ [n / 4294967296 ^ k % 4294967296] := by rw [digs_append k 1]; rfl
theorem digs_add : ∀ k n m : Nat, digs k (n + 4294967296 ^ k * m) = digs k n
  | 0, _, _ => rfl
  | k + 1, n, m => by
    have e : n + 4294967296 ^ (k + 1) * m = n + 4294967296 * (4294967296 ^ k * m) := by rw [Nat.pow_succ', Nat.mul_assoc]
    rw [digs, digs, e]
    have h1 : (n + 4294967296 * (4294967296 ^ k * m)) % 4294967296 = n % 4294967296 := by omega
    have h2 : (n + 4294967296 * (4294967296 ^ k * m)) / 4294967296 = n / 4294967296 + 4294967296 ^ k * m := by omega
    rw [h1, h2, digs_add k]
theorem digs_mod (k n : Nat) : digs k (n % 4294967296 ^ k) = digs k n := by
  have h := digs_add k (n % 4294967296 ^ k) (n / 4294967296 ^ k)
  rw [Nat.mod_add_div] at h
  exact h.symm
theorem digs_zero : ∀ k : Nat, digs k 0 = List.replicate k 0
  | 0 => rfl
  | k + 1 => by rw [digs]; simp only [Nat.zero_mod, Nat.zero_div, digs_zero k, List.replicate_succ]
theorem pow_pos (k : Nat) : 0 < 4294967296 ^ k := Nat.pow_pos (by omega)

theorem dropz_num : ∀ l : List Nat, num (dropz l) = num l
  | [] => rfl
  | a :: l => by
    have ih := dropz_num l
    rw [dropz, num_cons]
    by_cases h : a = 0 ∧ dropz l = []
    · rw [if_pos h]
      rw [h.2] at ih
      rw [h.1, ← ih]; simp [num]
    · rw [if_neg h, num_cons, ih]
theorem lim_zero : lim 0 = [] := by rw [lim]; simp
theorem lim_pos (n : Nat) (h : n ≠ 0) : lim n = n % 4294967296 :: lim (n / 4294967296) := by rw [lim]; simp [h]
theorem lim_num : ∀ l : List Nat, Ok l → lim (num l) = dropz l
  | [], _ => lim_zero
  | a :: l, h => by
    have ih := lim_num l h.tail
    have h2 := h.head
    rw [num_cons, dropz]
    by_cases hz : a = 0 ∧ dropz l = []
    · rw [if_pos hz]
      have := dropz_num l
      rw [hz.2] at this
      rw [hz.1, ← this]; simp [num, lim_zero]
    · rw [if_neg hz]
      have hn : a + 4294967296 * num l ≠ 0 := by
        intro he
        have h0 : num l = 0 := by omega
        rw [h0, lim_zero] at ih
        exact hz ⟨by omega, ih.symm⟩
      rw [lim_pos _ hn, show (a + 4294967296 * num l) % 4294967296 = a by omega, show (a + 4294967296 * num l) / 4294967296 = num l by omega, ih]
theorem num_lim (n : Nat) : num (lim n) = n := by
  induction n using Nat.strongRecOn with
  | ind n ih =>
    by_cases h : n = 0
    · rw [h, lim_zero]; rfl
    · rw [lim_pos n h, num_cons, ih _ (Nat.div_lt_self (by omega) (by omega))]; omega
theorem lim_ok (n : Nat) : Ok (lim n) := by
  induction n using Nat.strongRecOn with
  | ind n ih =>
    by_cases h : n = 0
    · rw [h, lim_zero]; exact Ok.nil
    · rw [lim_pos n h]; exact Ok.cons (Nat.mod_lt _ (by omega)) (ih _ (Nat.div_lt_self (by omega) (by omega)))
theorem lim_inj {n m : Nat} (h : lim n = lim m) : n = m := by rw [← num_lim n, h, num_lim]
theorem lim_nil {n : Nat} : lim n = [] ↔ n = 0 := ⟨fun h => lim_inj (h.trans lim_zero.symm), fun h => by rw [h, lim_zero]⟩
theorem lim_len0 {n : Nat} : (lim n).length = 0 ↔ n = 0 := by rw [List.length_eq_zero_iff, lim_nil]
theorem dropz_lim (n : Nat) : dropz (lim n) = lim n := by rw [← lim_num _ (lim_ok n), num_lim]
theorem dropz_len_le : ∀ l : List Nat, (dropz l).length ≤ l.length
  | [] => Nat.le_refl _
  | a :: l => by
    have := dropz_len_le l
    rw [dropz]
    by_cases h : a = 0 ∧ dropz l = []
    · rw [if_pos h]; simp
    · rw [if_neg h, List.length_cons, List.length_cons]; omega
theorem dropz_digs (k n : Nat) (h : n < 4294967296 ^ k) : dropz (digs k n) = lim n := by
  rw [← lim_num _ (digs_ok k n), num_digs, Nat.mod_eq_of_lt h]
theorem lim_len {n k : Nat} : (lim n).length ≤ k ↔ n < 4294967296 ^ k := by
  constructor
  · intro h
    have h1 := num_lt _ (lim_ok n)
    rw [num_lim] at h1
    exact Nat.lt_of_lt_of_le h1 (Nat.pow_le_pow_right (by omega) h)
  · intro h
    rw [← dropz_digs k n h]
    have := dropz_len_le (digs k n)
    rw [digs_len] at this; exact this
theorem lim_mono {n m : Nat} (h : n ≤ m) : (lim n).length ≤ (lim m).length := lim_len.2 (Nat.lt_of_le_of_lt h (lim_len.1 (Nat.le_refl _)))
theorem dropz_snoc0 : ∀ l : List Nat, dropz (l ++ [0]) = dropz l
  | [] => by simp [dropz]
  | a :: l => by rw [List.cons_append, dropz, dropz, dropz_snoc0 l]
theorem dropz_snoc {a : Nat} (h : a ≠ 0) : ∀ l : List Nat, dropz (l ++ [a]) = l ++ [a]
  | [] => by simp [dropz, h]
  | b :: l => by rw [List.cons_append, dropz, dropz_snoc h l, if_neg (by simp)]
theorem take_snoc {α} (l : List α) (k : Nat) (h : k < l.length) : l.take (k + 1) = l.take k ++ [l[k]] := by
  rw [List.take_succ_eq_append_getElem h]
theorem dropz_step (l : List Nat) (k : Nat) (h : k < l.length) (h0 : l[k] = 0) : dropz (l.take (k + 1)) = dropz (l.take k) := by
  rw [take_snoc l k h, h0, dropz_snoc0]
theorem dropz_stop (l : List Nat) (k : Nat) (h : k < l.length) (h0 : l[k] ≠ 0) : dropz (l.take (k + 1)) = l.take (k + 1) := by
  rw [take_snoc l k h, dropz_snoc h0]
/-- A proper list: no nought at its end. -/
def Prp (l : List Nat) : Prop := dropz l = l
theorem Prp.eq {l : List Nat} (h : Prp l) (ho : Ok l) : l = lim (num l) := by rw [lim_num l ho]; exact h.symm
theorem prp_last (l : List Nat) (k : Nat) (h : l.length = k + 1) : Prp l ↔ l[k]'(by omega) ≠ 0 := by
  have ht : l.take (k + 1) = l := List.take_of_length_le (by omega)
  constructor
  · intro hp h0
    have := dropz_step l k (by omega) h0
    rw [ht] at this
    have h2 := dropz_len_le (l.take k)
    rw [← this, hp, List.length_take] at h2
    omega
  · intro h0
    have := dropz_stop l k (by omega) h0
    rw [ht] at this; exact this
theorem lim_one : lim 1 = [1] := by rw [lim_pos 1 (by omega)]; simp [lim_zero]
theorem lim_small (n : Nat) (h : n ≠ 0) (h2 : n < 4294967296) : lim n = [n] := by
  rw [lim_pos n h, Nat.mod_eq_of_lt h2, Nat.div_eq_of_lt h2, lim_zero]
theorem lim_eq_one {n : Nat} : lim n = [1] ↔ n = 1 := ⟨fun h => lim_inj (h.trans lim_one.symm), fun h => by rw [h, lim_one]⟩
theorem num_split (l : List Nat) (k : Nat) (h : k < l.length) : num l = num (l.take k) + 4294967296 ^ k * (l[k] + 4294967296 * num (l.drop (k + 1))) := by
  have e : l = l.take k ++ (l[k] :: l.drop (k + 1)) := by rw [List.getElem_cons_drop, List.take_append_drop]
  have h2 := num_append (l.take k) (l[k] :: l.drop (k + 1))
  rw [← e, List.length_take, Nat.min_eq_left (by omega), num_cons] at h2
  exact h2
theorem num_take_succ (l : List Nat) (k : Nat) (h : k < l.length) : num (l.take (k + 1)) = num (l.take k) + 4294967296 ^ k * l[k] := by
  rw [take_snoc l k h, num_append, List.length_take, Nat.min_eq_left (by omega)]
  simp [num]
theorem num_drop (l : List Nat) (h : Ok l) (k : Nat) : num (l.drop k) = num l / 4294967296 ^ k := by
  rcases Nat.lt_or_ge k l.length with hk | hk
  · have h1 := num_append (l.take k) (l.drop k)
    rw [List.take_append_drop, List.length_take, Nat.min_eq_left (by omega)] at h1
    have h2 := num_lt _ (h.take k)
    rw [List.length_take, Nat.min_eq_left (by omega)] at h2
    rw [h1, Nat.add_mul_div_left _ _ (pow_pos k), Nat.div_eq_of_lt h2, Nat.zero_add]
  · rw [List.drop_of_length_le hk]
    have h2 := num_lt l h
    rw [Nat.div_eq_of_lt (Nat.lt_of_lt_of_le h2 (Nat.pow_le_pow_right (by omega) hk))]; rfl
/-- The limb at an index, which may lie behind the end. -/
def at0 (l : List Nat) (i : Nat) : Nat := l.getD i 0
theorem at0_in (l : List Nat) (i : Nat) (h : i < l.length) : at0 l i = l[i] := by unfold at0; simp [List.getD, h]
theorem at0_out (l : List Nat) (i : Nat) (h : l.length ≤ i) : at0 l i = 0 := by unfold at0; simp [List.getD, h]
theorem at0_lt (l : List Nat) (h : Ok l) (i : Nat) : at0 l i < 4294967296 := by
  rcases Nat.lt_or_ge i l.length with hi | hi
  · rw [at0_in l i hi]; exact h.get i hi
  · rw [at0_out l i hi]; omega
theorem at0_num (l : List Nat) (h : Ok l) (i : Nat) : at0 l i = num l / 4294967296 ^ i % 4294967296 := by
  rcases Nat.lt_or_ge i l.length with hi | hi
  · rw [at0_in l i hi, ← num_drop l h i]
    have e : l.drop i = l[i] :: l.drop (i + 1) := (List.getElem_cons_drop ..).symm
    have := h.get i hi
    rw [e, num_cons]; omega
  · have h2 := num_lt l h
    rw [at0_out l i hi, Nat.div_eq_of_lt (Nat.lt_of_lt_of_le h2 (Nat.pow_le_pow_right (by omega) hi))]
/-- The order of two numbers. -/
def ord (a b : Nat) : Int := if a < b then -1 else if a = b then 0 else 1
theorem ord_at (l m : List Nat) (hl : Ok l) (hm : Ok m) (hlen : l.length = m.length) (i : Nat) (hi : i < l.length) (ht : l.drop (i + 1) = m.drop (i + 1)) (hlt : l[i] < m[i]'(by omega)) : num l < num m := by
  rw [num_split l i hi, num_split m i (by omega), ht]
  have h1 := num_lt _ (hl.take i)
  rw [List.length_take, Nat.min_eq_left (by omega)] at h1
  have h2 : 4294967296 ^ i * (l[i] + 4294967296 * num (m.drop (i + 1))) + 4294967296 ^ i ≤ 4294967296 ^ i * (m[i]'(by omega) + 4294967296 * num (m.drop (i + 1))) := by
    rw [← Nat.mul_succ]; exact Nat.mul_le_mul_left _ (by omega)
  omega
theorem ord_len (x y : Nat) (h : (lim x).length < (lim y).length) : x < y := by
  rcases Nat.lt_or_ge x y with h1 | h1
  · exact h1
  · have := lim_mono h1; omega
end Nm
end Go.Proofs.YtbfhilbagojdnaaGreat
namespace Go.Proofs.YtbfhilbagojdnaaGreat
set_option linter.unusedVariables false
namespace Nm

theorem digs_set : ∀ (n k Q c : Nat), k < n → Q / 4294967296 ^ k % 4294967296 + c < 4294967296 → digs n (Q + 4294967296 ^ k * c) = (digs n Q).set k (Q / 4294967296 ^ k % 4294967296 + c)
  | 0, k, _, _, h, _ => by omega
  | n + 1, 0, Q, c, _, hc => by
    simp only [Nat.pow_zero, Nat.div_one, Nat.one_mul] at hc ⊢
    rw [digs, digs, List.set_cons_zero, show (Q + c) % 4294967296 = Q % 4294967296 + c by omega, show (Q + c) / 4294967296 = Q / 4294967296 by omega]
  | n + 1, k + 1, Q, c, h, hc => by
    have e : Q / 4294967296 ^ (k + 1) = Q / 4294967296 / 4294967296 ^ k := by rw [Nat.pow_succ', Nat.div_div_eq_div_mul]
    rw [e] at hc ⊢
    have e2 : Q + 4294967296 ^ (k + 1) * c = Q + 4294967296 * (4294967296 ^ k * c) := by rw [Nat.pow_succ', Nat.mul_assoc]
    rw [e2, digs, digs, List.set_cons_succ, show (Q + 4294967296 * (4294967296 ^ k * c)) % 4294967296 = Q % 4294967296 by omega, show (Q + 4294967296 * (4294967296 ^ k * c)) / 4294967296 = Q / 4294967296 + 4294967296 ^ k * c by omega]
    rw [digs_set n k _ c (by omega) hc]
theorem digs_get (n Q k : Nat) (h : k < n) : (digs n Q)[k]'(by rw [digs_len]; exact h) = Q / 4294967296 ^ k % 4294967296 := by
  have h1 := at0_in (digs n Q) k (by rw [digs_len]; exact h)
  rw [← h1, at0_num _ (digs_ok n Q), num_digs]
  have e : n = k + (n - k - 1) + 1 := by omega
  have e2 : 4294967296 ^ n = 4294967296 ^ k * (4294967296 * 4294967296 ^ (n - k - 1)) := by
    rw [← Nat.pow_succ', ← Nat.pow_add]; congr 1
  rw [e2, Nat.mod_mul_right_div_self, Nat.mod_mul_right_mod]
theorem gcd_half_left (a b : Nat) (h : b % 2 = 1) : Nat.gcd (2 * a) b = Nat.gcd a b := by
  have hc : Nat.Coprime 2 b := by
    rw [Nat.coprime_iff_gcd_eq_one, Nat.gcd_rec, h]; rfl
  exact Nat.Coprime.gcd_mul_left_cancel a hc
theorem gcd_half_right (a b : Nat) (h : a % 2 = 1) : Nat.gcd a (2 * b) = Nat.gcd a b := by
  rw [Nat.gcd_comm, gcd_half_left b a h, Nat.gcd_comm]
theorem gcd_take (a b : Nat) (h : a ≤ b) : Nat.gcd a (b - a) = Nat.gcd a b := by
  rw [Nat.gcd_sub_self_right h]
/-- One bit of a quotient. -/
theorem bit_step (M y b : Nat) (hy : 0 < y) (hb : b < 2) :
    (2 * M + b) / y = 2 * (M / y) + (if y ≤ 2 * (M % y) + b then 1 else 0) ∧ (2 * M + b) % y = 2 * (M % y) + b - (if y ≤ 2 * (M % y) + b then y else 0) := by
  have h := Nat.div_add_mod M y
  have hm := Nat.mod_lt M hy
  obtain ⟨q, hq⟩ : ∃ q, q = M / y := ⟨_, rfl⟩
  obtain ⟨r, hr⟩ : ∃ r, r = M % y := ⟨_, rfl⟩
  rw [← hq, ← hr] at h
  rw [← hr] at hm
  rw [← hq, ← hr]
  have e : 2 * M + b = (2 * r + b) + y * (2 * q) := by rw [← h, Nat.mul_add, Nat.mul_left_comm]; omega
  rw [e, Nat.add_mul_div_left _ _ hy, Nat.add_mul_mod_self_left]
  by_cases hc : y ≤ 2 * r + b
  · rw [if_pos hc, if_pos hc]
    have e2 : 2 * r + b = (2 * r + b - y) + y := by omega
    have hlt : 2 * r + b - y < y := by omega
    constructor
    · rw [e2, Nat.add_div_right _ hy, Nat.div_eq_of_lt hlt]; omega
    · rw [e2, Nat.add_mod_right, Nat.mod_eq_of_lt hlt]; omega
  · rw [if_neg hc, if_neg hc, Nat.div_eq_of_lt (by omega), Nat.mod_eq_of_lt (by omega)]
    omega
end Nm
end Go.Proofs.YtbfhilbagojdnaaGreat
namespace Go.Proofs.YtbfhilbagojdnaaGreat
set_option linter.unusedVariables false
namespace Nm

def decC (v c i : Nat) : Nat := (c + 10 * (v % 4294967296 ^ i)) / 4294967296 ^ i
theorem decC_zero (v c : Nat) : decC v c 0 = c := by unfold decC; simp [Nat.mod_one]
theorem decC_lt (v c i : Nat) (h : c < 10) : decC v c i < 10 := by
  unfold decC
  have := Nat.mod_lt v (pow_pos i)
  rw [Nat.div_lt_iff_lt_mul (pow_pos i)]
  omega
theorem decC_step (v c i : Nat) : decC v c (i + 1) = (decC v c i + v / 4294967296 ^ i % 4294967296 * 10) / 4294967296 ∧ (decC v c i + v / 4294967296 ^ i % 4294967296 * 10) % 4294967296 = (c + 10 * v) / 4294967296 ^ i % 4294967296 := by
  have p := pow_pos i
  have hmod : v % 4294967296 ^ (i + 1) = v % 4294967296 ^ i + 4294967296 ^ i * (v / 4294967296 ^ i % 4294967296) := by rw [Nat.pow_succ, Nat.mod_mul]
  have hs : (c + 10 * (v % 4294967296 ^ (i + 1))) / 4294967296 ^ i = decC v c i + v / 4294967296 ^ i % 4294967296 * 10 := by
    unfold decC
    rw [hmod, Nat.mul_add, ← Nat.add_assoc, Nat.mul_left_comm, Nat.add_mul_div_left _ _ p, Nat.mul_comm 10 (v / 4294967296 ^ i % 4294967296)]
  constructor
  · rw [← hs, Nat.div_div_eq_div_mul, ← Nat.pow_succ]; rfl
  · rw [← hs]
    have hd := Nat.mod_add_div v (4294967296 ^ (i + 1))
    have e : c + 10 * v = (c + 10 * (v % 4294967296 ^ (i + 1))) + 4294967296 ^ i * (4294967296 * (10 * (v / 4294967296 ^ (i + 1)))) := by
      have h2 : 4294967296 ^ i * (4294967296 * (10 * (v / 4294967296 ^ (i + 1)))) = 10 * (4294967296 ^ (i + 1) * (v / 4294967296 ^ (i + 1))) := by
        rw [Nat.pow_succ, ← Nat.mul_assoc, Nat.mul_left_comm]
      rw [h2]; omega
    rw [e, Nat.add_mul_div_left _ _ p]
    omega
/-- What the digits' limbs become when one more digit is read. -/
theorem dec_end (v c n : Nat) (hn : n = (lim v).length) (hc : c < 10) :
    (decC v c n = 0 → lim (c + 10 * v) = digs n (c + 10 * v)) ∧ (decC v c n ≠ 0 → lim (c + 10 * v) = digs n (c + 10 * v) ++ [decC v c n]) := by
  have hv : v < 4294967296 ^ n := lim_len.1 (by omega)
  have hd : decC v c n = (c + 10 * v) / 4294967296 ^ n := by unfold decC; rw [Nat.mod_eq_of_lt hv]
  have hlt := decC_lt v c n hc
  have hge : n ≤ (lim (c + 10 * v)).length := by rw [hn]; exact lim_mono (by omega)
  constructor
  · intro h0
    rw [hd] at h0
    have h1 : c + 10 * v < 4294967296 ^ n := by
      rcases Nat.lt_or_ge (c + 10 * v) (4294967296 ^ n) with h | h
      · exact h
      · have := Nat.div_pos h (pow_pos n); omega
    have h2 := lim_len.2 h1
    have h3 := digs_num (lim (c + 10 * v)) (lim_ok _)
    rw [num_lim, show (lim (c + 10 * v)).length = n by omega] at h3
    exact h3.symm
  · intro h0
    have h1 : c + 10 * v < 4294967296 ^ (n + 1) := by
      rw [Nat.pow_succ]; omega
    have h2 := lim_len.2 h1
    have h4 : ¬ (lim (c + 10 * v)).length ≤ n := by
      intro h
      have := lim_len.1 h
      rw [hd, Nat.div_eq_of_lt this] at h0
      exact h0 rfl
    have h3 := digs_num (lim (c + 10 * v)) (lim_ok _)
    rw [num_lim, show (lim (c + 10 * v)).length = n + 1 by omega, digs_snoc, ← hd, Nat.mod_eq_of_lt (by omega)] at h3
    exact h3.symm
end Nm
end Go.Proofs.YtbfhilbagojdnaaGreat
namespace Go.Proofs.YtbfhilbagojdnaaGreat
set_option linter.unusedVariables false
namespace Nm
/-- The digits of a number, none for 0. -/
def decX (n : Nat) : List UInt8 := if n = 0 then [] else decX (n / 10) ++ [UInt8.ofNat (48 + n % 10)]
/-- The decimal form. -/
def decS (n : Nat) : List UInt8 := if n = 0 then [48] else decX n
theorem decX_zero : decX 0 = [] := by rw [decX, if_pos rfl]
theorem decX_pos {n : Nat} (h : n ≠ 0) : decX n = decX (n / 10) ++ [UInt8.ofNat (48 + n % 10)] := by rw [decX, if_neg h]
theorem decX_len : ∀ (k n : Nat), n < 10 ^ k → (decX n).length ≤ k
  | 0, n, h => by
    have : n = 0 := by simp at h; exact h
    rw [this, decX_zero]; simp
  | k + 1, n, h => by
    by_cases h0 : n = 0
    · rw [h0, decX_zero]; simp
    · rw [decX_pos h0, List.length_append]
      have := decX_len k (n / 10) (by rw [Nat.pow_succ] at h; omega)
      simp; exact this
/-- A digit is written: the number y * 10 ^ (k + 1) + p loses its last digit. -/
theorem dec_step (y k p : Nat) (tail : List UInt8) (h : y * 10 ^ (k + 1) + p ≠ 0) : decX (y * 10 ^ k + p / 10) ++ UInt8.ofNat (48 + p % 10) :: tail = decX (y * 10 ^ (k + 1) + p) ++ tail := by
  have e : y * 10 ^ (k + 1) = 10 * (y * 10 ^ k) := by rw [Nat.pow_succ]; ac_rfl
  rw [e] at h ⊢
  generalize y * 10 ^ k = t at h ⊢
  rw [decX_pos h, show (10 * t + p) / 10 = t + p / 10 by omega, show (10 * t + p) % 10 = p % 10 by omega, List.append_assoc]
  rfl
theorem dec_big : (2 : Nat) ^ 2048 < 10 ^ 617 := by decide +kernel
theorem dec_sixhundred {n : Nat} (h : n < 4294967296 ^ 64) : (decX n).length ≤ 617 := by
  refine decX_len 617 n (Nat.lt_trans h ?_)
  have e : (4294967296 : Nat) ^ 64 = 2 ^ 2048 := by decide +kernel
  rw [e]; exact dec_big
theorem decX_ne {n : Nat} (h : n ≠ 0) : decX n ≠ [] := by rw [decX_pos h]; simp
end Nm
end Go.Proofs.YtbfhilbagojdnaaGreat
namespace Go.Proofs.YtbfhilbagojdnaaGreat
set_option linter.unusedVariables false
namespace Nm

/-- The state of a guess q for T / y, T = U * 2^32 + d, with what is left of the high part. -/
structure Gs (U d y q r : Nat) : Prop where
  lo : (U * 4294967296 + d) / y ≤ q
  rh : r + q * (y / 4294967296) = U
  hi : q ≤ 4294967297
theorem guess_lo' (U d y : Nat) (hd : d < 4294967296) (h0 : 0 < y / 4294967296) : (U * 4294967296 + d) / y ≤ U / (y / 4294967296) := by
  rw [Nat.le_div_iff_mul_le h0]
  have hy : 0 < y := by omega
  have h1 := Nat.div_mul_le_self (U * 4294967296 + d) y
  have h2 : (U * 4294967296 + d) / y * (y / 4294967296 * 4294967296) ≤ (U * 4294967296 + d) / y * y := Nat.mul_le_mul_left _ (Nat.div_mul_le_self y 4294967296)
  rw [← Nat.mul_assoc] at h2
  omega
theorem Gs.start (U d y : Nat) (hy : 9223372036854775808 ≤ y) (hy2 : y < 18446744073709551616) (hU : U < y) (hd : d < 4294967296) :
    Gs U d y (U / (y / 4294967296)) (U - U / (y / 4294967296) * (y / 4294967296)) := by
  have h0 : 0 < y / 4294967296 := by omega
  have hle := Nat.div_mul_le_self U (y / 4294967296)
  refine ⟨guess_lo' U d y hd h0, by omega, ?_⟩
  have : U / (y / 4294967296) < 4294967298 := by
    rw [Nat.div_lt_iff_lt_mul h0]
    omega
  omega
theorem prod_split (q y : Nat) : q * y = q * (y / 4294967296) * 4294967296 + q * (y % 4294967296) := by
  rw [Nat.mul_assoc, ← Nat.mul_add, Nat.mul_comm (y / 4294967296), Nat.div_add_mod]
/-- A guess that is too great is taken down. -/
theorem Gs.down {U d y q r : Nat} (h : Gs U d y q r) (hU : U < y) (hy : 9223372036854775808 ≤ y) (hd : d < 4294967296) (hbad : 4294967296 ≤ q ∨ 4294967296 * r + d < q * (y % 4294967296)) :
    1 ≤ q ∧ Gs U d y (q - 1) (r + y / 4294967296) := by
  have hy0 : 0 < y := by omega
  have hlt : (U * 4294967296 + d) / y < q := by
    rw [Nat.div_lt_iff_lt_mul hy0]
    rcases hbad with hb | hb
    · have : 4294967296 * y ≤ q * y := Nat.mul_le_mul_right _ hb
      omega
    · rw [prod_split q y]
      have := h.rh
      obtain ⟨A, hA⟩ : ∃ A, A = q * (y / 4294967296) := ⟨_, rfl⟩
      obtain ⟨C, hC⟩ : ∃ C, C = q * (y % 4294967296) := ⟨_, rfl⟩
      rw [← hA] at this
      rw [← hC] at hb
      rw [← hA, ← hC]
      omega
  have hq : 1 ≤ q := Nat.lt_of_le_of_lt (Nat.zero_le _) hlt
  refine ⟨hq, Nat.le_sub_one_of_lt hlt, ?_, by have := h.hi; omega⟩
  have := h.rh
  obtain ⟨k, rfl⟩ : ∃ k, q = k + 1 := ⟨q - 1, by omega⟩
  rw [Nat.add_mul] at this
  rw [Nat.add_sub_cancel]
  omega
/-- A guess that passes the test is right. -/
theorem Gs.fits {U d y q r : Nat} (h : Gs U d y q r) (hy : 0 < y) (hok : q * (y % 4294967296) ≤ 4294967296 * r + d) : q = (U * 4294967296 + d) / y := by
  have h1 := h.lo
  have h2 : q ≤ (U * 4294967296 + d) / y := by
    rw [Nat.le_div_iff_mul_le hy, prod_split q y]
    have := h.rh
    obtain ⟨A, hA⟩ : ∃ A, A = q * (y / 4294967296) := ⟨_, rfl⟩
    obtain ⟨C, hC⟩ : ∃ C, C = q * (y % 4294967296) := ⟨_, rfl⟩
    rw [← hA] at this
    rw [← hC] at hok
    rw [← hA, ← hC]
    omega
  omega
theorem Gs.over {U d y q r : Nat} (h : Gs U d y q r) (hy : 0 < y) (hq : q ≤ 4294967296) (hr : 4294967296 ≤ r) : q = (U * 4294967296 + d) / y := by
  apply h.fits hy
  have h1 : q * (y % 4294967296) ≤ 4294967296 * 4294967296 := Nat.mul_le_mul hq (Nat.le_of_lt (Nat.mod_lt _ (by omega)))
  omega
/-- The two halves of the quotient. -/
theorem halves (T d0 y : Nat) (hy : 0 < y) : T / y * 4294967296 + (T % y * 4294967296 + d0) / y = (T * 4294967296 + d0) / y := by
  have h := Nat.div_add_mod T y
  have e : T * 4294967296 + d0 = (T % y * 4294967296 + d0) + y * (T / y * 4294967296) := by
    rw [← Nat.mul_assoc]
    obtain ⟨A, hA⟩ : ∃ A, A = y * (T / y) := ⟨_, rfl⟩
    rw [← hA] at h ⊢
    omega
  rw [e, Nat.add_mul_div_left _ _ hy, Nat.add_comm]
end Nm
end Go.Proofs.YtbfhilbagojdnaaGreat
namespace Go.Proofs.YtbfhilbagojdnaaGreat
set_option linter.unusedVariables false
namespace Nm

/-- The guess out of the first limbs: never too small. -/
theorem guess_lo (U D P uh dh : Nat) (hP : 0 < P) (huh : uh = U / P) (hdh : dh = D / P) (hd0 : 0 < dh) : U / D ≤ uh / dh := by
  have hD : 0 < D := by
    rcases Nat.eq_zero_or_pos D with h | h
    · rw [h, Nat.zero_div] at hdh; omega
    · exact h
  have h1 : U / D * D ≤ U := Nat.div_mul_le_self U D
  have h2 : dh * P ≤ D := by rw [hdh]; exact Nat.div_mul_le_self D P
  rw [Nat.le_div_iff_mul_le hd0, huh, Nat.le_div_iff_mul_le hP, Nat.mul_assoc]
  exact Nat.le_trans (Nat.mul_le_mul_left _ h2) h1
/-- The guess out of the first limbs: too great by one at most. -/
theorem guess_hi (U D P uh dh c : Nat) (hP : 0 < P) (huh : uh = U / P) (hdh : dh = D / P) (hbig : 4294967296 ≤ dh) (hc : c ≤ uh / dh) (hcB : c ≤ 4294967295) : c ≤ U / D + 1 := by
  have hd0 : 0 < dh := by omega
  have hD : 0 < D := by
    rcases Nat.eq_zero_or_pos D with h | h
    · rw [h, Nat.zero_div] at hdh; omega
    · exact h
  rcases Nat.lt_or_ge (U / D + 1) c with h | h
  · exfalso
    have hc1 : 1 ≤ c := Nat.lt_of_le_of_lt (Nat.zero_le _) h
    have h1 : c * dh ≤ uh := (Nat.le_div_iff_mul_le hd0).1 hc
    have h2 : c * dh * P ≤ U := by
      have : uh * P ≤ U := by rw [huh]; exact Nat.div_mul_le_self U P
      exact Nat.le_trans (Nat.mul_le_mul_right _ h1) this
    have h3 : D < (dh + 1) * P := by
      have := Nat.lt_mul_div_succ D hP
      rw [← hdh] at this; rw [Nat.mul_comm]; exact this
    have h4 : U < (U / D + 1) * D := by rw [Nat.mul_comm]; exact Nat.lt_mul_div_succ U hD
    have h5 : (U / D + 1) * D ≤ (c - 1) * D := Nat.mul_le_mul_right _ (Nat.le_sub_one_of_lt h)
    have h6 : (c - 1) * D ≤ (c - 1) * ((dh + 1) * P) := Nat.mul_le_mul_left _ (Nat.le_of_lt h3)
    have h7 : c * dh * P < (c - 1) * ((dh + 1) * P) := Nat.lt_of_le_of_lt h2 (Nat.lt_of_lt_of_le h4 (Nat.le_trans h5 h6))
    rw [← Nat.mul_assoc] at h7
    have h8 : c * dh < (c - 1) * (dh + 1) := Nat.lt_of_mul_lt_mul_right h7
    obtain ⟨k, rfl⟩ : ∃ k, c = k + 1 := ⟨c - 1, by omega⟩
    rw [Nat.add_sub_cancel, Nat.mul_add, Nat.add_mul] at h8
    omega
  · exact h
/-- One step of the division: what is left of N before (i + 1) and after (i). -/
theorem left_step (N D i : Nat) : N % (D * 4294967296 ^ (i + 1)) % (D * 4294967296 ^ i) = N % (D * 4294967296 ^ i) :=
  Nat.mod_mod_of_dvd N ⟨4294967296, by rw [Nat.pow_succ, ← Nat.mul_assoc]⟩
theorem left_window' (V D i : Nat) : V % (D * 4294967296 ^ i) = V % 4294967296 ^ i + 4294967296 ^ i * (V / 4294967296 ^ i % D) := by
  rw [Nat.mul_comm D, Nat.mod_mul]
theorem quo_digit (N D i : Nat) (hD : 0 < D) : N % (D * 4294967296 ^ (i + 1)) / 4294967296 ^ i / D = N / D / 4294967296 ^ i % 4294967296 := by
  rw [Nat.div_div_eq_div_mul, Nat.mul_comm (4294967296 ^ i) D, Nat.div_div_eq_div_mul]
  have hp := pow_pos i
  have hQ : 0 < D * 4294967296 ^ i := Nat.mul_pos hD hp
  obtain ⟨Q, hQe⟩ : ∃ Q, Q = D * 4294967296 ^ i := ⟨_, rfl⟩
  have e : D * 4294967296 ^ (i + 1) = Q * 4294967296 := by rw [hQe, Nat.pow_succ, Nat.mul_assoc]
  rw [e, ← hQe]
  rw [Nat.mod_mul, Nat.add_mul_div_left _ _ (by rw [hQe]; exact hQ), Nat.div_eq_of_lt (Nat.mod_lt _ (by rw [hQe]; exact hQ)), Nat.zero_add]
theorem left_lt (N D i : Nat) (hD : 0 < D) : N % (D * 4294967296 ^ (i + 1)) / 4294967296 ^ i < D * 4294967296 := by
  rw [Nat.div_lt_iff_lt_mul (pow_pos i), Nat.mul_assoc, ← Nat.pow_succ']
  exact Nat.mod_lt _ (Nat.mul_pos hD (pow_pos _))
theorem scaled_div (a b s : Nat) (hs : 0 < s) : a * s / (b * s) = a / b := Nat.mul_div_mul_right _ _ hs
theorem scaled_mod (a b s : Nat) (hs : 0 < s) : a * s % (b * s) / s = a % b := by rw [Nat.mul_mod_mul_right]; exact Nat.mul_div_cancel _ hs
/-- What is taken from a row, with what is borrowed behind it. -/
def bor (R X P : Nat) : Nat := (X + (P - 1) - R) / P
end Nm
end Go.Proofs.YtbfhilbagojdnaaGreat
namespace Go.Proofs.YtbfhilbagojdnaaGreat
set_option linter.unusedVariables false
namespace Nm

/-- What is reached behind i limbs: the number of R, and m times that of l. -/
def sumT (R l : List Nat) (m i : Nat) : Nat := num (R.take i) + m * num (l.take i)
theorem sumT_zero (R l : List Nat) (m : Nat) : sumT R l m 0 = 0 := by simp [sumT, num]
theorem sumT_succ (R l : List Nat) (m i : Nat) (hR : i < R.length) (hl : i < l.length) : sumT R l m (i + 1) = sumT R l m i + 4294967296 ^ i * (R[i] + m * l[i]) := by
  unfold sumT
  rw [num_take_succ R i hR, num_take_succ l i hl, Nat.mul_add, Nat.mul_add, Nat.mul_left_comm m]
  omega
theorem sumT_div (R l : List Nat) (m i : Nat) (hR : i < R.length) (hl : i < l.length) : sumT R l m (i + 1) / 4294967296 ^ i = sumT R l m i / 4294967296 ^ i + (R[i] + m * l[i]) := by
  rw [sumT_succ R l m i hR hl, Nat.add_mul_div_left _ _ (pow_pos i)]
theorem sumT_next (R l : List Nat) (m i : Nat) (hR : i < R.length) (hl : i < l.length) : sumT R l m (i + 1) / 4294967296 ^ (i + 1) = (sumT R l m i / 4294967296 ^ i + (R[i] + m * l[i])) / 4294967296 := by
  rw [Nat.pow_succ, ← Nat.div_div_eq_div_mul, sumT_div R l m i hR hl]
theorem sumT_digs (R l : List Nat) (m i : Nat) (hR : i < R.length) (hl : i < l.length) : digs (i + 1) (sumT R l m (i + 1)) = digs i (sumT R l m i) ++ [(sumT R l m i / 4294967296 ^ i + (R[i] + m * l[i])) % 4294967296] := by
  rw [digs_snoc, sumT_div R l m i hR hl, sumT_succ R l m i hR hl, digs_add]
theorem sumT_lt (R l : List Nat) (m i : Nat) (hR : Ok R) (hl : Ok l) (hm : m < 4294967296) (h1 : i ≤ R.length) (h2 : i ≤ l.length) : sumT R l m i / 4294967296 ^ i < 4294967296 := by
  rw [Nat.div_lt_iff_lt_mul (pow_pos i)]
  unfold sumT
  have a := num_lt _ (hR.take i)
  have b := num_lt _ (hl.take i)
  rw [List.length_take, Nat.min_eq_left h1] at a
  rw [List.length_take, Nat.min_eq_left h2] at b
  have c : m * num (l.take i) ≤ 4294967295 * num (l.take i) := Nat.mul_le_mul_right _ (by omega)
  omega
theorem sumT_all (R l : List Nat) (m : Nat) (h : l.length = R.length) : sumT R l m R.length = num R + m * num l := by
  unfold sumT; rw [List.take_length, ← h, List.take_length]

/-- What is left behind i limbs, if b is borrowed. -/
structure Tk (R l : List Nat) (m i b d : Nat) : Prop where
  e : num (R.take i) + 4294967296 ^ i * b = m * num (l.take i) + d
  lt : d < 4294967296 ^ i
theorem Tk.zero (R l : List Nat) (m : Nat) : Tk R l m 0 0 0 := ⟨by simp [num], by simp⟩
theorem Tk.le {R l : List Nat} {m i b d : Nat} (h : Tk R l m i b d) (hl : Ok l) (h2 : i ≤ l.length) : b ≤ m := by
  have b1 := num_lt _ (hl.take i)
  rw [List.length_take, Nat.min_eq_left h2] at b1
  rcases Nat.lt_or_ge m b with h1 | h1
  · exfalso
    have c1 : 4294967296 ^ i * (m + 1) ≤ 4294967296 ^ i * b := Nat.mul_le_mul_left _ h1
    have c2 : m * num (l.take i) ≤ m * 4294967296 ^ i := Nat.mul_le_mul_left _ (Nat.le_of_lt b1)
    rw [Nat.mul_add, Nat.mul_one, Nat.mul_comm _ m] at c1
    have := h.e; have := h.lt
    omega
  · exact h1
theorem Tk.step {R l : List Nat} {m i b d b' v : Nat} (h : Tk R l m i b d) (hR : i < R.length) (hl : i < l.length) (hv : v < 4294967296) (he : R[i] + 4294967296 * b' = b + l[i] * m + v) :
    Tk R l m (i + 1) b' (d + 4294967296 ^ i * v) := by
  have e := h.e
  have lt := h.lt
  refine ⟨?_, ?_⟩
  · rw [num_take_succ R i hR, num_take_succ l i hl, Nat.pow_succ]
    have q : 4294967296 ^ i * (R[i] + 4294967296 * b') = 4294967296 ^ i * (b + l[i] * m + v) := by rw [he]
    generalize 4294967296 ^ i = p at *
    generalize R[i] = r at *
    generalize l[i] = x at *
    have q1 : p * (r + 4294967296 * b') = p * r + p * 4294967296 * b' := by rw [Nat.mul_add, Nat.mul_assoc]
    have q2 : p * (b + x * m + v) = p * b + m * (p * x) + p * v := by
      rw [Nat.mul_add, Nat.mul_add]
      have : p * (x * m) = m * (p * x) := by rw [← Nat.mul_assoc, Nat.mul_comm]
      rw [this]
    have q3 : m * (num (l.take i) + p * x) = m * num (l.take i) + m * (p * x) := Nat.mul_add _ _ _
    omega
  · rw [Nat.pow_succ]
    have : 4294967296 ^ i * v ≤ 4294967296 ^ i * 4294967295 := Nat.mul_le_mul_left _ (by omega)
    omega
/-- The limb that is stored, and what is borrowed then. -/
theorem take_limb (r t : Nat) (hr : r < 4294967296) (hlt : r < t % 4294967296) : r + 4294967296 * (t / 4294967296 + 1) = t + (r + 4294967296 - t % 4294967296) ∧ r + 4294967296 - t % 4294967296 < 4294967296 := by omega
theorem take_limb' (r t : Nat) (hr : r < 4294967296) (hge : t % 4294967296 ≤ r) : r + 4294967296 * (t / 4294967296) = t + (r - t % 4294967296) ∧ r - t % 4294967296 < 4294967296 := by omega
theorem digs_more (i d v : Nat) (hd : d < 4294967296 ^ i) (hv : v < 4294967296) : digs (i + 1) (d + 4294967296 ^ i * v) = digs i d ++ [v] := by
  rw [digs_snoc, digs_add, Nat.add_mul_div_left _ _ (pow_pos i), Nat.div_eq_of_lt hd, Nat.zero_add, Nat.mod_eq_of_lt hv]
theorem Tk.all {R l : List Nat} {m b d : Nat} (h : Tk R l m R.length b d) (hl : l.length = R.length) : num R + 4294967296 ^ R.length * b = m * num l + d ∧ d < 4294967296 ^ R.length := by
  have e := h.e
  rw [List.take_length, ← hl, List.take_length, hl] at e
  exact ⟨e, h.lt⟩

/-- One limb of u times a number. -/
theorem mod_next (x i : Nat) : x % 4294967296 ^ (i + 1) = x % 4294967296 ^ i + 4294967296 ^ i * (x / 4294967296 ^ i % 4294967296) := by rw [Nat.pow_succ, Nat.mod_mul]
def partN (u x i : Nat) : Nat := u * (x % 4294967296 ^ i)
theorem part_zero (u x : Nat) : partN u x 0 = 0 := by simp [partN, Nat.mod_one]
theorem part_div (u x i : Nat) : partN u x (i + 1) / 4294967296 ^ i = partN u x i / 4294967296 ^ i + u * (x / 4294967296 ^ i % 4294967296) := by
  unfold partN
  rw [mod_next, Nat.mul_add, show u * (4294967296 ^ i * (x / 4294967296 ^ i % 4294967296)) = 4294967296 ^ i * (u * (x / 4294967296 ^ i % 4294967296)) by rw [← Nat.mul_assoc, Nat.mul_comm u, Nat.mul_assoc], Nat.add_mul_div_left _ _ (pow_pos i)]
theorem part_next (u x i : Nat) : partN u x (i + 1) / 4294967296 ^ (i + 1) = (partN u x i / 4294967296 ^ i + u * (x / 4294967296 ^ i % 4294967296)) / 4294967296 := by
  rw [Nat.pow_succ, ← Nat.div_div_eq_div_mul, part_div]
theorem part_mod (u x i : Nat) : partN u x (i + 1) % 4294967296 ^ i = partN u x i % 4294967296 ^ i := by
  unfold partN
  rw [mod_next, Nat.mul_add, show u * (4294967296 ^ i * (x / 4294967296 ^ i % 4294967296)) = 4294967296 ^ i * (u * (x / 4294967296 ^ i % 4294967296)) by rw [← Nat.mul_assoc, Nat.mul_comm u, Nat.mul_assoc], Nat.add_mul_mod_self_left]
theorem part_more (u x i : Nat) : partN u x (i + 1) % 4294967296 ^ (i + 1) = partN u x i % 4294967296 ^ i + 4294967296 ^ i * ((partN u x i / 4294967296 ^ i + u * (x / 4294967296 ^ i % 4294967296)) % 4294967296) := by
  rw [mod_next, part_mod, part_div]
theorem part_lt (u x i : Nat) (hu : u < 4294967296) : partN u x i / 4294967296 ^ i ≤ 4294967295 := by
  have : partN u x i / 4294967296 ^ i < 4294967296 := by
    rw [Nat.div_lt_iff_lt_mul (pow_pos i)]
    unfold partN
    have h1 : x % 4294967296 ^ i < 4294967296 ^ i := Nat.mod_lt _ (pow_pos i)
    have h2 : u * (x % 4294967296 ^ i) ≤ 4294967295 * (x % 4294967296 ^ i) := Nat.mul_le_mul_right _ (by omega)
    omega
  omega
/-- What is left of u times x without v times y behind i limbs, and whether something is borrowed. -/
structure Ls (u x v y i b d : Nat) : Prop where
  e : partN u x i % 4294967296 ^ i + 4294967296 ^ i * b = partN v y i % 4294967296 ^ i + d
  lt : d < 4294967296 ^ i
  b : b ≤ 1
theorem Ls.zero (u x v y : Nat) : Ls u x v y 0 0 0 := ⟨by simp [Nat.mod_one], by simp, by omega⟩
theorem Ls.step {u x v y i b d e f b' g : Nat} (h : Ls u x v y i b d) (he : e = (partN u x i / 4294967296 ^ i + u * (x / 4294967296 ^ i % 4294967296)) % 4294967296)
    (hf : f = (partN v y i / 4294967296 ^ i + v * (y / 4294967296 ^ i % 4294967296)) % 4294967296) (hg : g < 4294967296) (hb : b' ≤ 1) (heq : e + 4294967296 * b' = f + b + g) :
    Ls u x v y (i + 1) b' (d + 4294967296 ^ i * g) := by
  have e0 := h.e
  have lt := h.lt
  refine ⟨?_, ?_, hb⟩
  · rw [part_more, part_more, ← he, ← hf, Nat.pow_succ]
    have q : 4294967296 ^ i * (e + 4294967296 * b') = 4294967296 ^ i * (f + b + g) := by rw [heq]
    generalize 4294967296 ^ i = p at *
    have q1 : p * (e + 4294967296 * b') = p * e + p * 4294967296 * b' := by rw [Nat.mul_add, Nat.mul_assoc]
    have q2 : p * (f + b + g) = p * f + p * b + p * g := by rw [Nat.mul_add, Nat.mul_add]
    omega
  · rw [Nat.pow_succ]
    have : 4294967296 ^ i * g ≤ 4294967296 ^ i * 4294967295 := Nat.mul_le_mul_left _ (by omega)
    omega
theorem Ls.all {u x v y n b d : Nat} (h : Ls u x v y n b d) (hx : x < 4294967296 ^ n) (hy : y < 4294967296 ^ n) (hle : v * y ≤ u * x) (hlt : u * x - v * y < 4294967296 ^ n) : d = u * x - v * y := by
  have e := h.e
  have lt := h.lt
  have hb := h.b
  unfold partN at e
  rw [Nat.mod_eq_of_lt hx, Nat.mod_eq_of_lt hy] at e
  obtain ⟨w, hw⟩ : ∃ w, w = u * x - v * y := ⟨_, rfl⟩
  have e2 : u * x = v * y + w := by omega
  rw [e2] at e
  rw [← hw] at hlt ⊢
  have m1 := Nat.mod_add_div (v * y) (4294967296 ^ n)
  have m2 := Nat.mod_lt (v * y) (pow_pos n)
  have m3 : (v * y + w) % 4294967296 ^ n = (v * y % 4294967296 ^ n + w) % 4294967296 ^ n := by rw [Nat.mod_add_mod]
  rw [m3] at e
  generalize v * y % 4294967296 ^ n = f at *
  generalize 4294967296 ^ n = p at *
  rcases Nat.lt_or_ge (f + w) p with h1 | h1
  · rw [Nat.mod_eq_of_lt h1] at e
    rcases (show b = 0 ∨ b = 1 by omega) with rfl | rfl <;> omega
  · have : (f + w) % p = f + w - p := by rw [Nat.mod_eq_sub_mod h1, Nat.mod_eq_of_lt (by omega)]
    rw [this] at e
    rcases (show b = 0 ∨ b = 1 by omega) with rfl | rfl <;> omega

/-- The division by one limb, from the highest limb down. -/
theorem quo_step (N a d : Nat) (hd : 0 < d) (ha : a < 4294967296) : (a + 4294967296 * N) / d = (N % d * 4294967296 + a) / d + 4294967296 * (N / d) ∧ (a + 4294967296 * N) % d = (N % d * 4294967296 + a) % d ∧ (d < 4294967297 → (N % d * 4294967296 + a) / d < 4294967296) := by
  have e : a + 4294967296 * N = (N % d * 4294967296 + a) + d * (4294967296 * (N / d)) := by
    have := Nat.mod_add_div N d
    have h2 : d * (4294967296 * (N / d)) = 4294967296 * (d * (N / d)) := by rw [← Nat.mul_assoc, Nat.mul_comm d, Nat.mul_assoc]
    rw [h2]; omega
  refine ⟨?_, ?_, ?_⟩
  · rw [e, Nat.add_mul_div_left _ _ hd]
  · rw [e, Nat.add_mul_mod_self_left]
  · intro h
    rw [Nat.div_lt_iff_lt_mul hd]
    have := Nat.mod_lt N hd
    have : (N % d + 1) * 4294967296 ≤ d * 4294967296 := Nat.mul_le_mul_right _ this
    rw [Nat.mul_comm 4294967296]; omega
theorem digs_cons (k q Q : Nat) (hq : q < 4294967296) : digs (k + 1) (q + 4294967296 * Q) = q :: digs k Q := by
  rw [digs, show (q + 4294967296 * Q) % 4294967296 = q by omega, show (q + 4294967296 * Q) / 4294967296 = Q by omega]
theorem num_drop_succ (l : List Nat) (i : Nat) (h : i < l.length) : num (l.drop i) = l[i] + 4294967296 * num (l.drop (i + 1)) := by rw [← List.getElem_cons_drop h, num_cons]
end Nm
end Go.Proofs.YtbfhilbagojdnaaGreat
namespace Go.Proofs.YtbfhilbagojdnaaGreat
set_option linter.unusedVariables false
namespace Nm

theorem take_right (lo hi D Bn c b d W : Nat) (hW : W = lo + Bn * hi) (hD : D < Bn) (hc : c = W / D) (hT : lo + Bn * b = c * D + d) (hd : d < Bn) (hD0 : 0 < D) : b = hi ∧ d = W % D := by
  have e := Nat.mod_add_div W D
  have r := Nat.mod_lt W hD0
  rw [← hc] at e
  rw [Nat.mul_comm c D] at hT
  generalize D * c = q at *
  rcases Nat.lt_trichotomy b hi with h | h | h
  · have : Bn * (b + 1) ≤ Bn * hi := Nat.mul_le_mul_left _ h
    rw [Nat.mul_add] at this; omega
  · subst h; exact ⟨rfl, by omega⟩
  · have : Bn * (hi + 1) ≤ Bn * b := Nat.mul_le_mul_left _ h
    rw [Nat.mul_add] at this; omega
theorem take_over (lo hi D Bn c b d W : Nat) (hW : W = lo + Bn * hi) (hD : D < Bn) (hc : c = W / D + 1) (hT : lo + Bn * b = c * D + d) (hd : d < Bn) (hD0 : 0 < D) : b = hi + 1 ∧ d + D = W % D + Bn := by
  have e := Nat.mod_add_div W D
  have r := Nat.mod_lt W hD0
  rw [hc, Nat.add_mul, Nat.one_mul, Nat.mul_comm (W / D) D] at hT
  generalize D * (W / D) = q at *
  rcases Nat.lt_trichotomy b (hi + 1) with h | h | h
  · have : Bn * b ≤ Bn * hi := Nat.mul_le_mul_left _ (by omega)
    omega
  · subst h; rw [Nat.mul_add] at hT; exact ⟨rfl, by omega⟩
  · have : Bn * (hi + 1 + 1) ≤ Bn * b := Nat.mul_le_mul_left _ h
    rw [Nat.mul_add, Nat.mul_add] at this; omega

/-- The number of bits. -/
def blen (n : Nat) : Nat := if n = 0 then 0 else Nat.log2 n + 1
theorem blen_zero : blen 0 = 0 := rfl
theorem blen_lt (n : Nat) : n < 2 ^ blen n := by
  unfold blen
  by_cases h : n = 0
  · rw [if_pos h, h]; decide
  · rw [if_neg h]; exact Nat.lt_log2_self
theorem blen_ge (n : Nat) (h : n ≠ 0) : 2 ^ (blen n - 1) ≤ n := by
  unfold blen
  rw [if_neg h, Nat.add_sub_cancel]; exact Nat.log2_self_le h
theorem blen_pos {n : Nat} (h : n ≠ 0) : 0 < blen n := by unfold blen; rw [if_neg h]; omega
theorem blen_eq {n k : Nat} (h1 : 2 ^ k ≤ n) (h2 : n < 2 ^ (k + 1)) : blen n = k + 1 := by
  have h0 : n ≠ 0 := by have := Nat.two_pow_pos k; omega
  have a := blen_lt n
  have b := blen_ge n h0
  have p := blen_pos h0
  rcases Nat.lt_trichotomy (blen n) (k + 1) with h | h | h
  · have : (2 : Nat) ^ blen n ≤ 2 ^ k := Nat.pow_le_pow_right (by omega) (by omega)
    omega
  · exact h
  · have : (2 : Nat) ^ (k + 1) ≤ 2 ^ (blen n - 1) := Nat.pow_le_pow_right (by omega) (by omega)
    omega
theorem blen_le {n k : Nat} : blen n ≤ k ↔ n < 2 ^ k := by
  constructor
  · intro h; exact Nat.lt_of_lt_of_le (blen_lt n) (Nat.pow_le_pow_right (by omega) h)
  · intro h
    by_cases h0 : n = 0
    · subst h0; rw [blen_zero]; omega
    · rcases Nat.lt_or_ge k (blen n) with h1 | h1
      · have := blen_ge n h0
        have : (2 : Nat) ^ k ≤ 2 ^ (blen n - 1) := Nat.pow_le_pow_right (by omega) (by omega)
        omega
      · exact h1
theorem B_two (k : Nat) : 4294967296 ^ k = 2 ^ (32 * k) := by rw [Nat.pow_mul]
/-- The bits of a number by its limbs. -/
theorem blen_limbs (l : List Nat) (t k x : Nat) (h : num l = t + 4294967296 ^ k * x) (ht : t < 4294967296 ^ k) (hx : x ≠ 0) : blen (num l) = 32 * k + blen x := by
  have p := blen_pos hx
  have a := blen_lt x
  have b := blen_ge x hx
  have e : blen (num l) = (32 * k + (blen x - 1)) + 1 := by
    refine blen_eq ?_ ?_
    · rw [h, Nat.pow_add, ← B_two]
      have : 4294967296 ^ k * 2 ^ (blen x - 1) ≤ 4294967296 ^ k * x := Nat.mul_le_mul_left _ b
      omega
    · rw [h, show 32 * k + (blen x - 1) + 1 = 32 * k + blen x by omega, Nat.pow_add, ← B_two]
      have : 4294967296 ^ k * (x + 1) ≤ 4294967296 ^ k * 2 ^ blen x := Nat.mul_le_mul_left _ a
      rw [Nat.mul_add] at this; omega
  omega
/-- The scale that gives the highest limb its highest bit. -/
theorem scale_top (x : Nat) (h : x ≠ 0) (hx : x < 4294967296) : 2147483648 ≤ x * 2 ^ (32 - blen x) ∧ x * 2 ^ (32 - blen x) < 4294967296 ∧ blen x ≤ 32 := by
  have p := blen_pos h
  have a := blen_lt x
  have b := blen_ge x h
  have c : blen x ≤ 32 := blen_le.2 hx
  refine ⟨?_, ?_, c⟩
  · have : 2 ^ (blen x - 1) * 2 ^ (32 - blen x) ≤ x * 2 ^ (32 - blen x) := Nat.mul_le_mul_right _ b
    rw [← Nat.pow_add, show blen x - 1 + (32 - blen x) = 31 by omega] at this
    exact this
  · have : (x + 1) * 2 ^ (32 - blen x) ≤ 2 ^ blen x * 2 ^ (32 - blen x) := Nat.mul_le_mul_right _ a
    rw [← Nat.pow_add, show blen x + (32 - blen x) = 32 by omega, Nat.add_mul] at this
    have := Nat.two_pow_pos (32 - blen x)
    have e : (2 : Nat) ^ 32 = 4294967296 := by decide
    omega
theorem or_add (a b k : Nat) (h : a < 2 ^ k) : a ||| (b * 2 ^ k) = a + b * 2 ^ k := by
  rw [Nat.mul_comm b, Nat.or_comm, ← Nat.two_pow_add_eq_or_of_lt h b, Nat.add_comm]
/-- The 64 bits from a bit on, out of three limbs. -/
theorem word_of (a b c r s : Nat) (ha : a < 4294967296) (hb : b < 4294967296) (hs : s < 32) : (a + b * 4294967296) / 2 ^ s + c % 2 ^ s * 2 ^ (64 - s) = (a + 4294967296 * (b + 4294967296 * (c + 4294967296 * r))) / 2 ^ s % 2 ^ 64 := by
  have e : a + 4294967296 * (b + 4294967296 * (c + 4294967296 * r)) = (a + b * 4294967296) + 2 ^ s * (2 ^ (64 - s) * (c + 4294967296 * r)) := by
    rw [← Nat.mul_assoc, ← Nat.pow_add, show s + (64 - s) = 64 by omega]
    have : (2 : Nat) ^ 64 = 18446744073709551616 := by decide
    rw [this]; omega
  rw [e, Nat.add_mul_div_left _ _ (Nat.two_pow_pos s)]
  have h1 : (a + b * 4294967296) / 2 ^ s < 2 ^ (64 - s) := by
    rw [Nat.div_lt_iff_lt_mul (Nat.two_pow_pos s), ← Nat.pow_add, show 64 - s + s = 64 by omega]
    have : (2 : Nat) ^ 64 = 18446744073709551616 := by decide
    omega
  have h2 : (2 : Nat) ^ 64 = 2 ^ (64 - s) * 2 ^ s := by rw [← Nat.pow_add, show 64 - s + s = 64 by omega]
  rw [h2, Nat.mod_mul, Nat.add_mul_mod_self_left, Nat.add_mul_div_left _ _ (Nat.two_pow_pos _), Nat.div_eq_of_lt h1, Nat.zero_add, Nat.mod_eq_of_lt h1]
  have h3 : (c + 4294967296 * r) % 2 ^ s = c % 2 ^ s := by
    have : (4294967296 : Nat) = 2 ^ s * 2 ^ (32 - s) := by rw [← Nat.pow_add, show s + (32 - s) = 32 by omega]
    rw [this, Nat.mul_assoc, Nat.add_mul_mod_self_left]
  rw [h3, Nat.mul_comm (c % 2 ^ s)]
theorem at0_three (l : List Nat) (ho : Ok l) (i : Nat) : num l / 4294967296 ^ i = at0 l i + 4294967296 * (at0 l (i + 1) + 4294967296 * (at0 l (i + 2) + 4294967296 * (num l / 4294967296 ^ (i + 3)))) := by
  have e (j : Nat) : num l / 4294967296 ^ j = at0 l j + 4294967296 * (num l / 4294967296 ^ (j + 1)) := by
    rw [at0_num l ho j, Nat.pow_succ, ← Nat.div_div_eq_div_mul]
    exact (Nat.mod_add_div _ _).symm
  rw [e i, e (i + 1), e (i + 2)]
end Nm
end Go.Proofs.YtbfhilbagojdnaaGreat
