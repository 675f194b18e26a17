/-
  The contracts of the reference's count and GetBytes.
  Condition: at most 2^20 bytes.
-/
import Derived.Test.YtbfhilbagojdnaaGreatWRGet
import Derived.Test.YtbfhilbagojdnaaGreatWLen
namespace Go.Proofs.YtbfhilbagojdnaaGreat.W1
open Go.RowKit Go.Proofs.YtbfhilbagojdnaaGreat.Wr Go.Proofs.YtbfhilbagojdnaaGreat.W1.Wr
set_option linter.unusedVariables false
set_option maxRecDepth 100000

set_option maxRecDepth 100000 in
set_option maxHeartbeats 4000000 in
theorem rcount_any (A : Option Addr) (b : List UInt8) (c least : Nat) (w : World) (hr : Rd w w.heap.size A (B8 b)) (hc : b.length ≤ c) (hl : b.length ≤ 1048576) (h1 : 1 ≤ least) (h2 : least ≤ 16) :
    Calls Tryz.prog 121 #[.slice A b.length c, .int .i64 least] w fun e w' => e = .returned (.tuple #[.int .i64 ((decLen least b).1 : Nat), .int .i64 ((decLen least b).2.1 : Nat), .int .i64 ((decLen least b).2.2 : Nat)]) ∧ Below w.heap.size w w' := by
  have hcall := rgetInt_any A b c w hr hc (by omega)
  rcases hd : decInt b with ⟨n, u, er⟩
  rw [hd] at hcall
  simp only at hcall
  have HC := Lib.hid hcall
  clear hcall
  by_cases he : er = 0
  · subst he
    obtain ⟨b1, b2, b3, b4, b5⟩ := decInt_back b n u hd
    have hu := enc_le n
    rw [← b3] at hu
    have Hd := Lib.hid hd
    clear hd b2 b3
    obtain ⟨L, hL⟩ : ∃ L, L = b.length := ⟨_, rfl⟩
    rw [← hL] at HC hc hl b1 ⊢
    have HL := Lib.hid hL
    clear hL
    by_cases hn : n < 0
    · have hlen : decLen least b = (0, 0, 2) := by
        unfold decLen
        rw [Hd.out, if_neg (by simp), if_pos hn]
      rw [hlen]
      clear hlen
      go_enter Tryz.func121, Tryz.ntmps121
      go_wp2_with (go_at_call 122; refine HC.out.mono ?_; rintro e w' ⟨rfl, hb⟩)
      go_ret3
      exact ⟨rfl, hb⟩
    · obtain ⟨m, rfl⟩ : ∃ m : Nat, n = (m : Int) := ⟨n.toNat, by omega⟩
      have hn' : ¬ (m : Int) < 0 := by omega
      by_cases hm : (L - u) / least < m
      · have hlen : decLen least b = (0, 0, 3) := by
          unfold decLen
          rw [Hd.out, if_neg (by simp), if_neg (by simp), if_pos (by rw [← HL.out]; exact hm)]
        rw [hlen]
        clear hlen
        by_cases hml : L < m
        · have g1 : (L : Int) < (m : Int) := by omega
          clear hm hml
          go_enter Tryz.func121, Tryz.ntmps121
          go_wp2_with (go_at_call 122; refine HC.out.mono ?_; rintro e w' ⟨rfl, hb⟩)
          go_ret3
          exact ⟨rfl, hb⟩
        · have g1 : ¬ (L : Int) < (m : Int) := by omega
          obtain ⟨P, hP⟩ : ∃ P, P = m * least := ⟨_, rfl⟩
          have hPle : P ≤ 1048576 * 16 := by rw [hP]; exact Nat.mul_le_mul (by omega) h2
          have hPl : L - u < P := by rw [hP]; exact (Nat.div_lt_iff_lt_mul (by omega)).1 hm
          have g2 : IntKind.i64.wrap ((m : Int) * (least : Int)) = (P : Int) := by rw [← Int.natCast_mul, ← hP]; exact IntWalk.i64_in _ (by omega)
          have g3 : IntKind.i64.wrap ((L : Int) - (u : Int)) = (L : Int) - (u : Int) := IntWalk.i64_in _ (by omega)
          have g4 : (L : Int) - (u : Int) < (P : Int) := by omega
          clear hm hml hP
          go_enter Tryz.func121, Tryz.ntmps121
          go_wp2_with (go_at_call 122; refine HC.out.mono ?_; rintro e w' ⟨rfl, hb⟩)
          go_ret3
          exact ⟨rfl, hb⟩
      · have hlen : decLen least b = (m, u, 0) := by
          unfold decLen
          rw [Hd.out, if_neg (by simp), if_neg (by simp), if_neg (by rw [← HL.out]; exact hm)]
          rfl
        rw [hlen]
        clear hlen
        have hq2 : (L - u) / least ≤ L := Nat.le_trans (Nat.div_le_self _ _) (Nat.sub_le _ _)
        have g1 : ¬ (L : Int) < (m : Int) := by omega
        obtain ⟨P, hP⟩ : ∃ P, P = m * least := ⟨_, rfl⟩
        have hPl : P ≤ L - u := by rw [hP]; exact (Nat.le_div_iff_mul_le (by omega)).1 (by omega)
        have g2 : IntKind.i64.wrap ((m : Int) * (least : Int)) = (P : Int) := by rw [← Int.natCast_mul, ← hP]; exact IntWalk.i64_in _ (by omega)
        have g3 : IntKind.i64.wrap ((L : Int) - (u : Int)) = (L : Int) - (u : Int) := IntWalk.i64_in _ (by omega)
        have g4 : ¬ (L : Int) - (u : Int) < (P : Int) := by omega
        clear hm hP
        go_enter Tryz.func121, Tryz.ntmps121
        go_wp2_with (go_at_call 122; refine HC.out.mono ?_; rintro e w' ⟨rfl, hb⟩)
        go_ret3
        exact ⟨rfl, hb⟩
  · have hb := errB er he
    have hlen : decLen least b = (0, 0, er) := by
      unfold decLen
      rw [hd, if_pos he]
    rw [hlen]
    clear hlen hd
    go_enter Tryz.func121, Tryz.ntmps121
    go_wp2_with (go_at_call 122; refine HC.out.mono ?_; rintro e w' ⟨rfl, hb⟩)
    go_ret3
    exact ⟨rfl, hb⟩

end Go.Proofs.YtbfhilbagojdnaaGreat.W1
