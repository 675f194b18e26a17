/-
  The contracts of the laws' key.
  Conditions: few leaves.
-/
import Derived.Test.YtofccgkgjcnfbaaDoorGenl
namespace Go.Proofs.YtofccgkgjcnfbaaDoor
open Go.RowKit Wr Sh
set_option linter.unusedVariables false
set_option maxRecDepth 100000

set_option maxHeartbeats 1000000 in
theorem lawKey_any (A : Option Addr) (L : List Lf) (c : Nat) (n : Int) (w : World) (hl : L.length ≤ 11) (hr : Rd w w.heap.size A (LC L)) (hn : okInt n) (hk : ∀ x ∈ L, x.1.size ≤ 1073741824) :
    Calls Tryd.prog 20 #[.slice A L.length c, .int .i64 n] w fun e w' => ∃ K, e = .returned (.string K) ∧ Below w.heap.size w w' := by
  obtain ⟨N, hN⟩ : ∃ N, N = L.length := ⟨_, rfl⟩
  have hb := ar_bounds n (3 * (N : Int) + 5) (by omega)
  obtain ⟨p, hp⟩ : ∃ p : Nat, p = (ar n (3 * (N : Int) + 5)).toNat := ⟨_, rfl⟩
  have ha := around_any n (3 * (N : Int) + 5) hn.1 (by have := hn.2; omega) (by omega) (by omega) w
  have e1 : ar n (3 * (N : Int) + 5) = (p : Int) := by omega
  have hp2 : p < 3 * N + 5 := by omega
  rw [e1] at ha
  have HA := Lib.hid ha
  have hn1 := hn.1
  have hn2 := hn.2
  rw [← hN] at hl ⊢
  clear ha e1 hp hb hn
  have hcell : ∀ i, i < N → ∃ g o k, A = some ⟨g, o, none⟩ ∧ w.cell? ⟨g, o + i * 2, none⟩ = some (.string k) ∧ k.size ≤ 1073741824 := fun i hi => by
    obtain ⟨g, o, e, hg, hc⟩ := hr (by intro e; have := congrArg List.length e; rw [LC_len] at this; simp only [List.length_nil] at this; omega)
    exact ⟨g, o, _, e, hc _ _ (LC_at L i (by omega)).1, hk _ (List.getElem_mem _)⟩
  clear hr hN hk
  by_cases h1 : p < N
  · obtain ⟨g, o, k, rfl, hc, hks⟩ := hcell p h1
    have i1 : (p : Int) < (N : Int) := by omega
    clear hcell
    go_enter Tryd.func20, Tryd.ntmps20
    go_wp2_with (go_at_call 17; refine HA.out.mono ?_; rintro e w1 ⟨rfl, rfl⟩)
    go_ret
    exact ⟨_, rfl, Below.refl _ _⟩
  · have i1 : (N : Int) ≤ (p : Int) := by omega
    by_cases h2 : p < 2 * N
    · obtain ⟨q, hq⟩ : ∃ q, q = p - N := ⟨_, rfl⟩
      obtain ⟨g, o, k, rfl, hc, hks⟩ := hcell q (by omega)
      have i2 : (p : Int) < 2 * (N : Int) := by omega
      have i3 : (p : Int) - (N : Int) = (q : Int) := by omega
      have i4 : (q : Int) < (N : Int) := by omega
      clear hcell hq
      have hks2 : (k.size : Int) + 1 ≤ 9223372036854775807 := by omega
      have hks3 : k.size + 1 ≤ 9223372036854775807 := by omega
      go_enter Tryd.func20, Tryd.ntmps20
      go_wp2_with (go_at_call 17; refine HA.out.mono ?_; rintro e w1 ⟨rfl, rfl⟩)
      go_ret
      exact ⟨_, rfl, Below.refl _ _⟩
    · clear hcell
      have i2 : 2 * (N : Int) ≤ (p : Int) := by omega
      by_cases h3 : p = 2 * N
      · subst h3
        have i5 : ((2 * N : Nat) : Int) = 2 * (N : Int) := by omega
        rw [i5] at *
        go_enter Tryd.func20, Tryd.ntmps20
        go_wp2_with (go_at_call 17; refine HA.out.mono ?_; rintro e w1 ⟨rfl, rfl⟩)
        go_ret
        exact ⟨_, rfl, Below.refl _ _⟩
      · have i6 : ((p : Int) == 2 * (N : Int)) = false := by rw [beq_eq_false_iff_ne]; omega
        have i7 : (p : Int) ≠ 2 * (N : Int) := by omega
        have HK := Lib.hid (key_any p (by omega) w)
        go_enter Tryd.func20, Tryd.ntmps20
        go_wp2_with (first
          | (go_at_call 17; refine HA.out.mono ?_; rintro e w1 ⟨rfl, rfl⟩)
          | (go_at_call 49; refine HK.out.mono ?_; rintro e w2 ⟨rfl, hb2⟩))
        go_ret
        exact ⟨_, rfl, hb2⟩
end Go.Proofs.YtofccgkgjcnfbaaDoor
