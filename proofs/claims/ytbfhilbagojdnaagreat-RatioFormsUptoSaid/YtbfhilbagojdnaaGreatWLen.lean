/-
  The contracts of wire.getLength and wire.GetBytes: they return the decoding of the length, and of the byte string, at the beginning of the bytes, and change nothing.
  No condition but that the bytes can be read.
-/
import Derived.Test.YtbfhilbagojdnaaGreatWGet
import Derived.Test.YtbfhilbagojdnaaGreatWPure3
import Derived.Laws.IdiomStrings
namespace Go.Proofs.YtbfhilbagojdnaaGreat.W1
open Go.RowKit Go.Proofs.YtbfhilbagojdnaaGreat.Wr Go.Proofs.YtbfhilbagojdnaaGreat.W1.Wr
set_option linter.unusedVariables false
set_option maxRecDepth 100000

theorem errB (x : Nat) (h : x ≠ 0) : ((x : Int) != 0) = true := by rw [bne_iff_ne]; omega

set_option maxRecDepth 100000 in
set_option maxHeartbeats 400000 in
theorem getLength_any (A : Option Addr) (b : List UInt8) (c least : Nat) (w : World) (B : Nat) (hr : Rd w B A (B8 b)) (hc : b.length ≤ c) (hl : b.length ≤ 1099511627776) (h1 : 1 ≤ least) (h2 : least ≤ 65536) :
    Calls Tryz.prog 133 #[.slice A b.length c, .int .i64 least] w fun e w' => e = .returned (.tuple #[.int .i64 ((decLen least b).1 : Nat), .int .i64 ((decLen least b).2.1 : Nat), .int .i64 ((decLen least b).2.2 : Nat)]) ∧ w = w' := by
  have hcall := getInt_any A b c w B hr hc hl
  rcases hd : decInt b with ⟨n, u, er⟩
  rw [hd] at hcall
  simp only at hcall
  have HC := Lib.hid hcall
  clear hcall
  by_cases he : er = 0
  · subst he
    obtain ⟨b1, b2, b3, b4, b5⟩ := decInt_back b n u hd
    have hu := enc_le n
    rw [← b3] at hu
    have Hd := Lib.hid hd
    clear hd b2 b3
    obtain ⟨L, hL⟩ : ∃ L, L = b.length := ⟨_, rfl⟩
    rw [← hL] at HC hc hl b1 ⊢
    have HL := Lib.hid hL
    clear hL
    by_cases hn : n < 0
    · go_enter Tryz.func133, Tryz.ntmps133
      go_wp2_with (go_at_call 120; refine HC.out.mono ?_; rintro e w' ⟨rfl, rfl⟩)
      go_ret3
      refine ⟨?_, rfl⟩
      have hlen : decLen least b = (0, 0, 2) := by
        unfold decLen
        rw [Hd.out, if_neg (by simp), if_pos hn]
      rw [hlen]; rfl
    · obtain ⟨m, rfl⟩ : ∃ m : Nat, n = (m : Int) := ⟨n.toNat, by omega⟩
      have hq : (((L : Int) - u) / (least : Int)) = (((L - u) / least : Nat) : Int) := by
        rw [← Int.ofNat_sub b1]; exact (Int.natCast_ediv _ _).symm
      have hq2 : (L - u) / least ≤ L := Nat.le_trans (Nat.div_le_self _ _) (Nat.sub_le _ _)
      by_cases hm : (L - u) / least < m
      · go_enter Tryz.func133, Tryz.ntmps133
        go_wp2_with (go_at_call 120; refine HC.out.mono ?_; rintro e w' ⟨rfl, rfl⟩)
        go_ret3
        refine ⟨?_, rfl⟩
        have hlen : decLen least b = (0, 0, 3) := by
          unfold decLen
          rw [Hd.out, if_neg (by simp), if_neg (by simp), if_pos (by rw [← HL.out]; exact hm)]
        rw [hlen]; rfl
      · go_enter Tryz.func133, Tryz.ntmps133
        go_wp2_with (go_at_call 120; refine HC.out.mono ?_; rintro e w' ⟨rfl, rfl⟩)
        go_ret3
        refine ⟨?_, rfl⟩
        have hlen : decLen least b = (m, u, 0) := by
          unfold decLen
          rw [Hd.out, if_neg (by simp), if_neg (by simp), if_neg (by rw [← HL.out]; exact hm)]
          rfl
        rw [hlen]; rfl
  · have hb := errB er he
    have hlen : decLen least b = (0, 0, er) := by
      unfold decLen
      rw [hd, if_pos he]
    rw [hlen]
    clear hlen hd
    go_enter Tryz.func133, Tryz.ntmps133
    go_wp2_with (go_at_call 120; refine HC.out.mono ?_; rintro e w' ⟨rfl, rfl⟩)
    go_ret3
    exact ⟨rfl, rfl⟩

end Go.Proofs.YtbfhilbagojdnaaGreat.W1
