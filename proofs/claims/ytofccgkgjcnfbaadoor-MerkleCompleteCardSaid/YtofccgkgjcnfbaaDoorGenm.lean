/-
  The leaves of the laws, as mathematics; what Has and Inside find in leaves in order.
  No condition.
-/
import Derived.Test.YtofccgkgjcnfbaaDoorGenl
import Derived.Test.YtofccgkgjcnfbaaDoorHas
namespace Go.Proofs.YtofccgkgjcnfbaaDoor
open Go.RowKit Wr Sh
set_option linter.unusedVariables false
set_option maxRecDepth 100000

theorem key_lt (m n : Nat) (h : m < n) (hn : n < 60) : sl (bs (KB m)) (bs (KB n)) = true := by
  have : ∀ n : Fin 60, ∀ m : Fin 60, m.val < n.val → sl (bs (KB m.val)) (bs (KB n.val)) = true := by decide +kernel
  exact this ⟨n, hn⟩ ⟨m, by omega⟩ h
theorem key_size (n : Nat) : (bs (KB n)).size ≤ 2 := by
  rw [bs_size]; unfold KB; split <;> simp
theorem gls_keys (l : List Int) (n : Nat) : ∀ x ∈ gls l n, ∃ i, i < gk l n ∧ x.1 = bs (KB i) := by
  induction n with
  | zero => intro x hx; simp [gls] at hx
  | succ n ih =>
    intro x hx
    rw [gls_succ, List.mem_append] at hx
    rcases hx with h | h
    · obtain ⟨i, h1, h2⟩ := ih x h
      exact ⟨i, by rw [gk]; omega, h2⟩
    · rw [List.mem_singleton] at h; subst h
      exact ⟨gk l n + (atI l (2 * n) 3).toNat, by rw [gk]; omega, rfl⟩
theorem gls_ord (l : List Int) (n : Nat) (hn : n ≤ 11) : ord (gls l n) := by
  induction n with
  | zero => exact List.Pairwise.nil
  | succ n ih =>
    rw [gls_succ]
    refine List.pairwise_append.2 ⟨ih (by omega), List.pairwise_singleton _ _, fun x hx y hy => ?_⟩
    rw [List.mem_singleton] at hy; subst hy
    obtain ⟨i, h1, h2⟩ := gls_keys l n x hx
    have := atI_bounds l (2 * n) 3 (by decide)
    have := gk_le l n
    show sl x.1 (bs (KB (gk l n + (atI l (2 * n) 3).toNat))) = true
    rw [h2]
    exact key_lt _ _ (by omega) (by omega)
theorem vals_size (q : Nat) : (vals.getD q ByteArray.empty).size ≤ 3 := by
  match q with
  | 0 => decide
  | 1 => decide
  | 2 => decide
  | 3 => decide
  | 4 => decide
  | q + 5 => simp [vals]
theorem gls_sizes (l : List Int) (n : Nat) : ∀ x ∈ gls l n, x.1.size ≤ 2 ∧ x.2.size ≤ 3 := by
  intro x hx
  unfold gls at hx
  rw [List.mem_map] at hx
  obtain ⟨i, _, rfl⟩ := hx
  exact ⟨key_size _, vals_size _⟩
theorem gcnt_le (l : List Int) : gcnt l ≤ 11 := by unfold gcnt; omega
theorem genL_len (l : List Int) : (genL l).length ≤ 11 := by unfold genL; rw [gls_len]; exact gcnt_le l
theorem genL_ord (l : List Int) : ord (genL l) := gls_ord l _ (gcnt_le l)
theorem genL_valid (l : List Int) : validE (genL l) = 0 := by
  refine valid_of (by have := genL_len l; omega) ?_ (genL_ord l)
  rw [List.any_eq_false]
  intro x hx
  have := gls_sizes l _ x hx
  unfold longB
  simp; omega
theorem genL_ok (l : List Int) : okL (genL l) := by
  refine ⟨by have := genL_len l; omega, fun x hx => ?_⟩
  have := gls_sizes l _ x hx
  exact ⟨by omega, by omega⟩
theorem cb_zero {x : Lf} {r : List Lf} {k : ByteArray} (ho : ord (x :: r)) (h : sl x.1 k = false) : ∀ y ∈ x :: r, sl y.1 k = false := by
  intro y hy
  rcases List.mem_cons.1 hy with rfl | hy
  · exact h
  · have h1 : sl x.1 y.1 = true := (List.pairwise_cons.1 ho).1 y hy
    cases h2 : sl y.1 k with
    | false => rfl
    | true => rw [sl_trans h1 h2] at h; cases h
theorem cb_none {L : List Lf} {k : ByteArray} (h : ∀ y ∈ L, sl y.1 k = false) : cb L k = 0 := by
  unfold cb; rw [List.countP_eq_zero]; intro y hy; rw [h y hy]; simp
theorem cb_cons (x : Lf) (r : List Lf) (k : ByteArray) : cb (x :: r) k = cb r k + (if sl x.1 k = true then 1 else 0) := by
  unfold cb; rw [List.countP_cons]
/-- In leaves in order, those inside a range are a part. -/
theorem inside_cut : ∀ (L : List Lf) (a b : ByteArray), ord L → sl b a = false → insideR L a b = cut L (cb L a) (cb L b)
  | [], a, b, _, _ => by simp [insideR, cut]
  | x :: r, a, b, ho, hab => by
    have ih := inside_cut r a b (List.pairwise_cons.1 ho).2 hab
    cases h1 : sl x.1 a with
    | true =>
      have h2 : sl x.1 b = true := by
        cases h2 : sl x.1 b with
        | true => rfl
        | false => rw [sl_le_trans h2 h1] at hab; cases hab
      rw [cb_cons, cb_cons, if_pos h1, if_pos h2]
      have e : insideR (x :: r) a b = insideR r a b := by unfold insideR; rw [List.filter_cons, if_neg (by unfold inB; rw [h1]; simp)]
      rw [e, ih]; unfold cut; rw [List.take_succ_cons, List.drop_succ_cons]
    | false =>
      have hz := cb_zero ho h1
      have e0 : cb (x :: r) a = 0 := cb_none hz
      have e1 : cb r a = 0 := cb_none (fun y hy => hz y (List.mem_cons_of_mem _ hy))
      cases h2 : sl x.1 b with
      | true =>
        rw [e0, cb_cons, if_pos h2]
        have e : insideR (x :: r) a b = x :: insideR r a b := by unfold insideR; rw [List.filter_cons, if_pos (by unfold inB; rw [h1, h2]; rfl)]
        rw [e, ih, e1]; unfold cut; rw [List.take_succ_cons, List.drop_zero, List.drop_zero]
      | false =>
        have hw := cb_zero ho h2
        rw [e0, cb_none hw]
        have e : insideR (x :: r) a b = [] := by
          unfold insideR; rw [List.filter_eq_nil_iff]; intro y hy; unfold inB; rw [hw y hy]; simp
        rw [e]; simp [cut]
/-- In leaves in order, Has finds what the tree finds. -/
theorem has_hit (L : List Lf) (k : ByteArray) (ho : ord L) (h : hitB L k = true) : hasI L k = (cb L k : Nat) := by
  unfold hitB at h
  rw [Bool.and_eq_true, decide_eq_true_eq, decide_eq_true_eq] at h
  obtain ⟨h1, h2⟩ := h
  rw [List.getD_eq_getElem?_getD, List.getElem?_eq_getElem h1] at h2
  unfold hasI
  rw [findIdx_take (cb L k) h1 (fun x hx => ?_) (decide_eq_true h2)]
  rw [List.mem_iff_getElem] at hx
  obtain ⟨i, hi, rfl⟩ := hx
  rw [List.length_take] at hi
  rw [List.getElem_take]
  have := (cb_iff L k ho i (by omega)).2 (by omega)
  refine decide_eq_false (fun e => ?_)
  rw [e, sl_irrefl] at this; cases this
theorem has_miss (L : List Lf) (k : ByteArray) (ho : ord L) (h : hitB L k = false) : hasI L k = -1 := by
  unfold hasI
  rw [findIdx_all (fun x hx => ?_)]
  refine decide_eq_false (fun e => ?_)
  rw [List.mem_iff_getElem] at hx
  obtain ⟨i, hi, rfl⟩ := hx
  have n1 : ¬ i < cb L k := fun hlt => by
    have := (cb_iff L k ho i hi).2 hlt
    rw [e, sl_irrefl] at this; cases this
  have n2 : ¬ cb L k < i := fun hlt => by
    have h3 : sl (L[cb L k]'(by omega)).1 L[i].1 = true := List.pairwise_iff_getElem.1 ho _ _ (by omega) hi hlt
    rw [e] at h3
    have := (cb_iff L k ho (cb L k) (by omega)).1 h3
    omega
  have e2 : i = cb L k := by omega
  subst e2
  rw [← Bool.not_eq_true] at h
  refine h ?_
  unfold hitB
  rw [Bool.and_eq_true, decide_eq_true_eq, decide_eq_true_eq, List.getD_eq_getElem?_getD, List.getElem?_eq_getElem hi]
  exact ⟨hi, e⟩
end Go.Proofs.YtofccgkgjcnfbaaDoor
