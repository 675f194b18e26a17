/-
  The contracts of the laws' helpers: Around, At, Key.
  Conditions: the integers are of 64 bits; a small modulus.
-/
import Derived.Test.YtofccgkgjcnfbaaDoorLives
namespace Go.Proofs.YtofccgkgjcnfbaaDoor
open Go.RowKit Wr Sh
set_option linter.unusedVariables false
set_option maxRecDepth 100000

def ar (v m : Int) : Int := (if v < 0 then -(v + 1) else v).tmod m
theorem ar_bounds (v m : Int) (hm : 0 < m) : 0 ≤ ar v m ∧ ar v m < m := by
  unfold ar
  split
  · exact ⟨Int.tmod_nonneg _ (by omega), Int.tmod_lt_of_pos _ hm⟩
  · exact ⟨Int.tmod_nonneg _ (by omega), Int.tmod_lt_of_pos _ hm⟩
set_option maxHeartbeats 2000000 in
theorem around_any (v m : Int) (h1 : -9223372036854775808 ≤ v) (h2 : v < 9223372036854775808) (hm : 0 < m) (hm2 : m < 9223372036854775808) (w : World) :
    Calls Tryd.prog 17 #[.int .i64 v, .int .i64 m] w fun e w' => e = .returned (.int .i64 (ar v m)) ∧ w' = w := by
  have hb := ar_bounds v m hm
  unfold ar at hb ⊢
  by_cases hv : v < 0
  · rw [if_pos hv] at hb ⊢
    have hm0 : m ≠ 0 := by omega
    go_enter Tryd.func17, Tryd.ntmps17
    go_wp2
    go_ret
    exact ⟨by show Ending.returned (.int .i64 (-(v + 1).tmod m)) = _; rw [Int.neg_tmod], rfl⟩
  · rw [if_neg hv] at hb ⊢
    have hm0 : m ≠ 0 := by omega
    go_enter Tryd.func17, Tryd.ntmps17
    go_wp2
    go_ret
    exact ⟨by show Ending.returned (.int .i64 (v % m)) = _; rw [Int.tmod_eq_emod_of_nonneg (by omega)], rfl⟩
def KB (n : Nat) : List UInt8 := if n % 3 = 0 then [UInt8.ofNat (97 + n / 3)] else [UInt8.ofNat (97 + n / 3), UInt8.ofNat (97 + n % 3)]
theorem u8_lit (n : Nat) (h : n < 256) : ((UInt8.ofNat n).toNat : Int) = (n : Int) := by
  rw [UInt8.toNat_ofNat']; omega
theorem conv_new (T : List UInt8) (N : Nat) (hN : N = T.length) (w : World) (a : Array Value) (ha : a = (B8 T).toArray) :
    (convert 39 9 (.slice (some ⟨w.heap.size, 0, none⟩) N N)).run Tryd.prog (w.alloc (.cells a 5)) = .ok (.string (bs T)) (w.alloc (.cells a 5)) := by
  subst ha hN
  exact conv_at w.heap.size 0 T.length T _ (fun j u hu => by rw [Nat.zero_add, (Blk.new w 5 (B8 T)).cell]; exact hu)
set_option maxHeartbeats 2000000 in
theorem key_any (n : Nat) (hn : n < 400) (w : World) :
    Calls Tryd.prog 49 #[.int .i64 (n : Int)] w fun e w' => e = .returned (.string (bs (KB n))) ∧ Below w.heap.size w w' := by
  unfold KB
  have e1 := u8_lit (97 + n / 3) (by omega)
  have e2 := u8_lit (97 + n % 3) (by omega)
  by_cases hv : n % 3 = 0
  · rw [if_pos hv]
    have hc := conv_new [UInt8.ofNat (97 + n / 3)] 1 rfl w #[.int .u8 (97 + (n : Int) / 3)] (by
      show #[Value.int .u8 (97 + (n : Int) / 3)] = #[.int .u8 ((UInt8.ofNat (97 + n / 3)).toNat : Int)]
      rw [e1]; simp)
    obtain ⟨K, hK⟩ : ∃ K, K = bs [UInt8.ofNat (97 + n / 3)] := ⟨_, rfl⟩
    rw [← hK] at hc ⊢
    clear hK
    go_enter Tryd.func49, Tryd.ntmps49
    go_wp2
    go_ret
    exact ⟨rfl, (Below.refl _ _).alloc (Nat.le_refl _) _⟩
  · rw [if_neg hv]
    have hc := conv_new [UInt8.ofNat (97 + n / 3), UInt8.ofNat (97 + n % 3)] 2 rfl w #[.int .u8 (97 + (n : Int) / 3), .int .u8 (97 + (n : Int) % 3)] (by
      show #[Value.int .u8 (97 + (n : Int) / 3), .int .u8 (97 + (n : Int) % 3)] = #[.int .u8 ((UInt8.ofNat (97 + n / 3)).toNat : Int), .int .u8 ((UInt8.ofNat (97 + n % 3)).toNat : Int)]
      rw [e1, e2]; simp)
    obtain ⟨K, hK⟩ : ∃ K, K = bs [UInt8.ofNat (97 + n / 3), UInt8.ofNat (97 + n % 3)] := ⟨_, rfl⟩
    rw [← hK] at hc ⊢
    clear hK
    go_enter Tryd.func49, Tryd.ntmps49
    go_wp2
    go_ret
    exact ⟨rfl, (Below.refl _ _).alloc (Nat.le_refl _) _⟩
end Go.Proofs.YtofccgkgjcnfbaaDoor
