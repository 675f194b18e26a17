/-
  The contracts of wire.getLength and wire.GetBytes: they return the decoding of the length, and of the byte string, at the beginning of the bytes, and change nothing.
  No condition but that the bytes can be read.
-/
import Derived.Test.YtooanlmmplbnoaaGet
import Derived.Test.YtooanlmmplbnoaaPure3
import Derived.Laws.IdiomStrings
namespace Go.Proofs.Ytooanlmmplbnoaa
open Go.RowKit Wr
set_option linter.unusedVariables false

theorem errB (x : Nat) (h : x ≠ 0) : ((x : Int) != 0) = true := by rw [bne_iff_ne]; omega

set_option maxRecDepth 100000 in
set_option maxHeartbeats 400000 in
theorem getLength_any (A : Option Addr) (b : List UInt8) (c least : Nat) (w : World) (B : Nat) (hr : Rd w B A (B8 b)) (hc : b.length ≤ c) (hl : b.length ≤ 1099511627776) (h1 : 1 ≤ least) (h2 : least ≤ 65536) :
    Calls Try.prog 40 #[.slice A b.length c, .int .i64 least] w fun e w' => e = .returned (.tuple #[.int .i64 ((decLen least b).1 : Nat), .int .i64 ((decLen least b).2.1 : Nat), .int .i64 ((decLen least b).2.2 : Nat)]) ∧ w = w' := by
  have hcall := getInt_any A b c w B hr hc hl
  rcases hd : decInt b with ⟨n, u, er⟩
  rw [hd] at hcall
  simp only at hcall
  have HC := Lib.hid hcall
  clear hcall
  by_cases he : er = 0
  · subst he
    obtain ⟨b1, b2, b3, b4, b5⟩ := decInt_back b n u hd
    have hu := enc_le n
    rw [← b3] at hu
    have Hd := Lib.hid hd
    clear hd b2 b3
    obtain ⟨L, hL⟩ : ∃ L, L = b.length := ⟨_, rfl⟩
    rw [← hL] at HC hc hl b1 ⊢
    have HL := Lib.hid hL
    clear hL
    by_cases hn : n < 0
    · go_enter Try.func40, Try.ntmps40
      go_wp2_with (go_at_call 24; refine HC.out.mono ?_; rintro e w' ⟨rfl, rfl⟩)
      go_ret3
      refine ⟨?_, rfl⟩
      have hlen : decLen least b = (0, 0, 2) := by
        unfold decLen
        rw [Hd.out, if_neg (by simp), if_pos hn]
      rw [hlen]; rfl
    · obtain ⟨m, rfl⟩ : ∃ m : Nat, n = (m : Int) := ⟨n.toNat, by omega⟩
      have hq : (((L : Int) - u) / (least : Int)) = (((L - u) / least : Nat) : Int) := by
        rw [← Int.ofNat_sub b1]; exact (Int.natCast_ediv _ _).symm
      have hq2 : (L - u) / least ≤ L := Nat.le_trans (Nat.div_le_self _ _) (Nat.sub_le _ _)
      by_cases hm : (L - u) / least < m
      · go_enter Try.func40, Try.ntmps40
        go_wp2_with (go_at_call 24; refine HC.out.mono ?_; rintro e w' ⟨rfl, rfl⟩)
        go_ret3
        refine ⟨?_, rfl⟩
        have hlen : decLen least b = (0, 0, 3) := by
          unfold decLen
          rw [Hd.out, if_neg (by simp), if_neg (by simp), if_pos (by rw [← HL.out]; exact hm)]
        rw [hlen]; rfl
      · go_enter Try.func40, Try.ntmps40
        go_wp2_with (go_at_call 24; refine HC.out.mono ?_; rintro e w' ⟨rfl, rfl⟩)
        go_ret3
        refine ⟨?_, rfl⟩
        have hlen : decLen least b = (m, u, 0) := by
          unfold decLen
          rw [Hd.out, if_neg (by simp), if_neg (by simp), if_neg (by rw [← HL.out]; exact hm)]
          rfl
        rw [hlen]; rfl
  · have hb := errB er he
    have hlen : decLen least b = (0, 0, er) := by
      unfold decLen
      rw [hd, if_pos he]
    rw [hlen]
    clear hlen hd
    go_enter Try.func40, Try.ntmps40
    go_wp2_with (go_at_call 24; refine HC.out.mono ?_; rintro e w' ⟨rfl, rfl⟩)
    go_ret3
    exact ⟨rfl, rfl⟩

/-- A cut of a slice of bytes: its value, and its cells. -/
theorem cut_bytes (A : Option Addr) (b : List UInt8) (c l h : Nat) (w : World) (B : Nat) (hr : Rd w B A (B8 b)) (hb : 0 < b.length) (hlh : l ≤ h) (hh : h ≤ b.length) (hc : b.length ≤ c) :
    ∃ a : Addr, (∀ W : World, (Instr.sliceAt 28 (.slice A b.length c) (some (.int .i64 (l : Int))) (some (.int .i64 (h : Int))) none).run Try.prog W = .ok (.slice (some a) (h - l) (c - l)) W) ∧
      a.block < B ∧ ∀ j (hj : j < ((b.drop l).take (h - l)).length), w.cell? (a.add j) = some (.int .u8 (((b.drop l).take (h - l))[j].toNat : Int)) := by
  obtain ⟨g, o, rfl, hg, hcell⟩ := hr (by intro e; have := congrArg List.length e; simp [B8] at this; subst this; simp at hb)
  refine ⟨if c = l then ⟨g, o, none⟩ else ⟨g, o + l, none⟩, fun W => ?_, by split <;> exact hg, fun j hj => ?_⟩
  · have hu : Try.prog.underlying 28 = some (.slice (Try.prog.elem 28)) := by kernel_rfl
    have he : Try.prog.elem 28 = 5 := by kernel_rfl
    have h5 : (sizeOf 5).run Try.prog W = .ok 1 W := by kernel_rfl
    rw [run_sliceAt_slice W 28 _ _ _ _ hu, run_slice_lh W 28 (some ⟨g, o, none⟩) b.length c hu .i64 .i64 l h (by omega) (by omega) (by omega), he, h5]
    simp only [Result.andThen, sliced, Int.toNat_natCast]
    by_cases hcl : c = l
    · simp [hcl]
    · simp [hcl, Addr.add_lit]
  · have hj2 : j < h - l := by simp at hj; omega
    rw [if_neg (by simp at hj; omega), Addr.add_lit, Nat.add_assoc]
    refine hcell (l + j) _ ?_
    rw [B8_get _ _ (by omega)]
    simp

set_option maxRecDepth 100000 in
set_option maxHeartbeats 400000 in
theorem getBytes_any (A : Option Addr) (b : List UInt8) (c : Nat) (w : World) (B : Nat) (hr : Rd w B A (B8 b)) (hc : b.length ≤ c) (hl : b.length ≤ 1099511627776) :
    Calls Try.prog 26 #[.slice A b.length c] w fun e w' => e = .returned (.tuple #[.string ⟨(decStr b).1.toArray⟩, .int .i64 ((decStr b).2.1 : Nat), .int .i64 ((decStr b).2.2 : Nat)]) ∧ w = w' := by
  have hcall := getLength_any A b c 1 w B hr hc hl (by omega) (by omega)
  rcases hd : decLen 1 b with ⟨n, u, er⟩
  rw [hd] at hcall
  simp only at hcall
  have HC := Lib.hid hcall
  clear hcall
  by_cases he : er = 0
  · subst he
    obtain ⟨b1, b2, b3, b4, b5⟩ := decLen_ok hd
    have hu := enc_le (n : Int)
    rw [← b3] at hu
    simp only [Nat.div_one] at b4
    obtain ⟨a, hsl, _, hcl⟩ := cut_bytes A b c u (u + n) w B hr (by omega) (by omega) (by omega) hc
    have hcv := run_convert_bytes_back w 28 9 5 a (c - u) ((b.drop u).take (u + n - u)) Try.underlying28 Try.underlying5 Try.underlying9 hcl
    have hlen : ((b.drop u).take (u + n - u)).length = u + n - u := by simp; omega
    rw [hlen] at hcv
    rw [Nat.add_sub_cancel_left] at hcv hsl
    have hdec : decStr b = ((b.drop u).take n, u + n, 0) := by
      unfold decStr
      rw [hd, if_neg (by simp)]
    rw [hdec]
    obtain ⟨S, hS⟩ : ∃ S, S = (b.drop u).take n := ⟨_, rfl⟩
    rw [← hS] at hcv ⊢
    rw [show ((u + n : Nat) : Int) = (u : Int) + (n : Int) from by omega] at hsl
    clear hd b2 b3 hdec hcl hlen hS hr
    obtain ⟨L, hL⟩ : ∃ L, L = b.length := ⟨_, rfl⟩
    rw [← hL] at HC hc hl b1 b4 hsl ⊢
    clear hL
    go_enter Try.func26, Try.ntmps26
    go_wp2_with (go_at_call 40; refine HC.out.mono ?_; rintro e w' ⟨rfl, rfl⟩)
    go_ret3
    exact ⟨rfl, rfl⟩
  · have hb := errB er he
    have hlen : decStr b = ([], 0, er) := by
      unfold decStr
      rw [hd, if_pos he]
    rw [hlen]
    clear hlen hd
    go_enter Try.func26, Try.ntmps26
    go_wp2_with (go_at_call 40; refine HC.out.mono ?_; rintro e w' ⟨rfl, rfl⟩)
    go_ret3
    exact ⟨rfl, rfl⟩
end Go.Proofs.Ytooanlmmplbnoaa
