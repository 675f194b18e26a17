/-
  The law WireListRoundTrip returns true, whatever the arguments.
  Condition: the number of the strings and their lengths together fit an int.
-/
import Derived.Test.YtooanlmmplbnoaaLawF
import Derived.Test.YtooanlmmplbnoaaLawA
import Derived.Test.YtooanlmmplbnoaaLawB
namespace Go.Proofs.Ytooanlmmplbnoaa
open Go.RowKit Wr
set_option linter.unusedVariables false

theorem below_drews {B : Nat} {a w : World} (h : Below B a w) (n : Nat) : Below B a (w.drewN n) := ⟨h.os, h.tape, h.output, h.size, h.block⟩
theorem rd_str (x : List ByteArray) (w : World) (B : Nat) (A : Option Addr) (h : Rd w B A (St x)) : Rd w B A (Sb (bs x)) := by rw [← St_bs]; exact h

set_option maxRecDepth 100000 in
set_option maxHeartbeats 4000000 in
theorem listRound_walk (s : ByteArray) (A1 A2 A3 A4 : Option Addr) (l : List Int) (x : List ByteArray) (d : List (List UInt8)) (b : List UInt8) (c1 c2 c3 c4 : Nat) (w : World)
    (hs : s.size ≤ 281474976710656) (hl : l.length ≤ 281474976710656) (hd : d.length ≤ 281474976710656) (hb : b.length ≤ 281474976710656) (hx : sumTo x x.length ≤ 4611686018427387904)
    (rl : Rd w w.heap.size A1 (I64 l)) (rx : Rd w w.heap.size A2 (St x)) (rd : Rd w w.heap.size A3 (Dg d)) (rb : Rd w w.heap.size A4 (B8 b)) (hc1 : l.length ≤ c1) (hc2 : x.length ≤ c2) (hc3 : d.length ≤ c3) (hc4 : b.length ≤ c4) (ol : ∀ y ∈ l, okInt y) (od : ∀ y ∈ d, okDig y) :
    Calls Try.prog 8 #[.string s, .slice A1 l.length c1, .slice A2 x.length c2, .slice A3 d.length c3, .slice A4 b.length c4] w fun e w' => e = .returned (.bool true) ∧ Below w.heap.size w w' := by
  obtain ⟨i0, hi0, hz0, hz1, hz2⟩ := info_parts Try.info5
  obtain ⟨F, hF⟩ : ∃ F, F = decide (sumTo x x.length ≤ 2000) := ⟨_, rfl⟩
  obtain ⟨N1, hN1⟩ : ∃ n, n = l.length := ⟨_, rfl⟩
  obtain ⟨N2, hN2⟩ : ∃ n, n = x.length := ⟨_, rfl⟩
  obtain ⟨N3, hN3⟩ : ∃ n, n = d.length := ⟨_, rfl⟩
  obtain ⟨N4, hN4⟩ : ∃ n, n = b.length := ⟨_, rfl⟩
  have HFEW := Lib.hid (show Calls Try.prog 11 #[.slice A2 N2 c2] w fun e w' => e = .returned (.bool F) ∧ w = w' by
    rw [hN2, hF]; exact few_any A2 x c2 w _ rx hx)
  have w1 : IntKind.i64.wrap ((s.size : Int) + (N1 : Int)) = (s.size : Int) + (N1 : Int) := IntWalk.i64_in _ (by omega)
  have w2 : IntKind.i64.wrap ((s.size : Int) + (N1 : Int) + (N3 : Int)) = (s.size : Int) + (N1 : Int) + (N3 : Int) := IntWalk.i64_in _ (by omega)
  have w3 : IntKind.i64.wrap ((s.size : Int) + (N1 : Int) + (N3 : Int) + (N4 : Int)) = (s.size : Int) + (N1 : Int) + (N3 : Int) + (N4 : Int) := IntWalk.i64_in _ (by omega)
  by_cases hbig : 2000 < s.size + N1 + N3 + N4
  · have hb' : (2000 : Int) < (s.size : Int) + (N1 : Int) + (N3 : Int) + (N4 : Int) := by omega
    rw [← hN1, ← hN2, ← hN3, ← hN4]
    clear hF hN1 hN2 hN3 hN4 rl rx rd rb ol od hbig
    go_enter Try.func8, Try.ntmps8
    go_wp2_with fail
    refine (sanity_any _).mono ?_; rintro e w' ⟨rfl, hbs⟩
    go_wp2_with fail
    go_ret
    exact ⟨rfl, hbs⟩
  have hb' : ¬ (2000 : Int) < (s.size : Int) + (N1 : Int) + (N3 : Int) + (N4 : Int) := by omega
  cases F with
  | false =>
    rw [← hN1, ← hN2, ← hN3, ← hN4]
    clear hF hN1 hN2 hN3 hN4 rl rx rd rb ol od hbig
    go_enter Try.func8, Try.ntmps8
    go_wp2_with fail
    refine HFEW.out.mono ?_; rintro e w' ⟨rfl, rfl⟩
    go_wp2_with fail
    refine (sanity_any _).mono ?_; rintro e w' ⟨rfl, hbs⟩
    go_wp2_with fail
    go_ret
    exact ⟨rfl, hbs⟩
  | true =>
    have hf : sumTo x x.length ≤ 2000 := by
      have := hF.symm; rw [decide_eq_true_iff] at this; exact this
    have hxl : x.length ≤ 2000 := by unfold sumTo at hf; omega
    obtain ⟨E1, hE1⟩ : ∃ E, E = encStr s.data.toList := ⟨_, rfl⟩
    obtain ⟨E2, hE2⟩ : ∃ E, E = encInts l := ⟨_, rfl⟩
    obtain ⟨E3, hE3⟩ : ∃ E, E = encDigs d := ⟨_, rfl⟩
    obtain ⟨E4, hE4⟩ : ∃ E, E = encStrs (bs x) := ⟨_, rfl⟩
    obtain ⟨M1, hM1⟩ : ∃ n, n = E1.length := ⟨_, rfl⟩
    obtain ⟨M2, hM2⟩ : ∃ n, n = E2.length := ⟨_, rfl⟩
    obtain ⟨M3, hM3⟩ : ∃ n, n = E3.length := ⟨_, rfl⟩
    obtain ⟨M4, hM4⟩ : ∃ n, n = E4.length := ⟨_, rfl⟩
    have b1 : M1 ≤ 9 + s.size ∧ 1 ≤ M1 := by
      have h1 := encStr_le s.data.toList
      have h2 := encStr_len s.data.toList
      rw [size_list] at h1
      rw [hM1, hE1]; exact ⟨h1, h2⟩
    have b2 : M2 ≤ 9 + 9 * N1 ∧ 1 ≤ M2 := by
      have := encInts_le l
      rw [hM2, hE2, hN1]; exact this
    have b3 : M3 ≤ 9 + 16 * N3 ∧ 1 ≤ M3 := by
      have h1 := encDigs_long d od
      have h2 := (enc_le (d.length : Int)).1
      rw [hM3, hE3, hN3]
      refine ⟨h1, ?_⟩
      unfold encDigs encList; rw [List.length_append]; omega
    have b4 : M4 ≤ 18009 ∧ 1 ≤ M4 := by
      have h1 := encStrs_long x
      have h2 := (enc_le ((bs x).length : Int)).1
      rw [hM4, hE4]
      refine ⟨by omega, ?_⟩
      unfold encStrs encList; rw [List.length_append]; omega
    have d1 : decStr (E1 ++ b) = (s.data.toList, M1, 0) := by rw [hM1, hE1]; exact decStr_enc _ _ (by rw [size_list]; omega)
    have d2 : decInts (E2 ++ b) = (l, M2, 0) := by rw [hM2, hE2]; exact list_there codecInt l b (by omega) ol
    have d3 : decDigs (E3 ++ b) = (d, M3, 0) := by rw [hM3, hE3]; exact list_there codecDig d b (by omega) od
    have d4 : decStrs (E4 ++ b) = (bs x, M4, 0) := by
      rw [hM4, hE4]
      refine list_there codecStr (bs x) b (by rw [bs_len]; omega) ?_
      intro y hy
      obtain ⟨z, hz, rfl⟩ := List.mem_map.1 hy
      have := sumTo_elem x z hz
      unfold okStr; rw [size_list]; omega
    have l1 : (E1 ++ b).length = M1 + N4 := by rw [List.length_append, ← hM1, ← hN4]
    have l2 : (E2 ++ b).length = M2 + N4 := by rw [List.length_append, ← hM2, ← hN4]
    have l3 : (E3 ++ b).length = M3 + N4 := by rw [List.length_append, ← hM3, ← hN4]
    have l4 : (E4 ++ b).length = M4 + N4 := by rw [List.length_append, ← hM4, ← hN4]
    have HP1 := Lib.hid (show ∀ W, Calls Try.prog 16 #[.string s] W fun e w' => ∃ (A' : Option Addr) (c' : Nat), e = .returned (.slice A' M1 c') ∧ M1 ≤ c' ∧ (A' = none → c' = 0) ∧ Rd w' w'.heap.size A' (B8 E1) ∧ Below W.heap.size W w' from fun W => by
      rw [hM1, hE1]; exact bytes_s s W (by omega))
    have HP2 := Lib.hid (show ∀ W, Below w.heap.size w W → Calls Try.prog 18 #[.slice A1 N1 c1] W fun e w' => ∃ (A' : Option Addr) (c' : Nat), e = .returned (.slice A' M2 c') ∧ M2 ≤ c' ∧ (A' = none → c' = 0) ∧ Rd w' w'.heap.size A' (B8 E2) ∧ Below W.heap.size W w' from fun W hW => by
      rw [hM2, hE2, hN1]; exact ints_s A1 l c1 W ((rl.below hW).more hW.size) hc1 (by omega) ol)
    have HP3 := Lib.hid (show ∀ W, Below w.heap.size w W → Calls Try.prog 22 #[.slice A3 N3 c3] W fun e w' => ∃ (A' : Option Addr) (c' : Nat), e = .returned (.slice A' M3 c') ∧ M3 ≤ c' ∧ (A' = none → c' = 0) ∧ Rd w' w'.heap.size A' (B8 E3) ∧ Below W.heap.size W w' from fun W hW => by
      rw [hM3, hE3, hN3]; exact digests_s A3 d c3 W ((rd.below hW).more hW.size) hc3 (by omega) od)
    have HP4 := Lib.hid (show ∀ W, Below w.heap.size w W → Calls Try.prog 20 #[.slice A2 N2 c2] W fun e w' => ∃ (A' : Option Addr) (c' : Nat), e = .returned (.slice A' M4 c') ∧ M4 ≤ c' ∧ (A' = none → c' = 0) ∧ Rd w' w'.heap.size A' (B8 E4) ∧ Below W.heap.size W w' from fun W hW => by
      rw [hM4, hE4, hN2]; exact strings_s A2 x c2 W ((rx.below hW).more hW.size) hc2 (by omega) (by rw [← hE4, ← hM4]; omega) (fun y hy => by have := sumTo_elem x y hy; omega))
    have HG1 := Lib.hid (show ∀ W A c, Rd W W.heap.size A (B8 E1 ++ B8 b) → M1 + N4 ≤ c → Calls Try.prog 26 #[.slice A (M1 + N4) c] W fun e w' => e = .returned (.tuple #[.string s, .int .i64 (M1 : Int), .int .i64 0]) ∧ w' = W from fun W A c h1 h2 => by
      rw [← B8_append] at h1
      have := getBytes_any A (E1 ++ b) c W W.heap.size h1 (by rw [l1]; exact h2) (by rw [l1]; omega)
      rw [d1, l1] at this
      simp only [string_eta] at this
      refine this.mono ?_
      rintro e w' ⟨rfl, rfl⟩
      exact ⟨rfl, rfl⟩)
    have HG2 := Lib.hid (show ∀ W A c, Rd W W.heap.size A (B8 E2 ++ B8 b) → M2 + N4 ≤ c → Calls Try.prog 28 #[.slice A (M2 + N4) c] W fun e w' => ∃ (A' : Option Addr) (c' : Nat), e = .returned (.tuple #[.slice A' N1 c', .int .i64 (M2 : Int), .int .i64 0]) ∧ Rd w' w'.heap.size A' (I64 l) ∧ Below W.heap.size W w' from fun W A c h1 h2 => by
      rw [← B8_append] at h1
      have := getInts_s A (E2 ++ b) c W h1 (by rw [l2]; exact h2) (by rw [l2]; omega)
      rw [d2, l2] at this
      rw [hN1]; exact this)
    have HG3 := Lib.hid (show ∀ W A c, Rd W W.heap.size A (B8 E3 ++ B8 b) → M3 + N4 ≤ c → Calls Try.prog 34 #[.slice A (M3 + N4) c] W fun e w' => ∃ (A' : Option Addr) (c' : Nat), e = .returned (.tuple #[.slice A' N3 c', .int .i64 (M3 : Int), .int .i64 0]) ∧ Rd w' w'.heap.size A' (Dg d) ∧ Below W.heap.size W w' from fun W A c h1 h2 => by
      rw [← B8_append] at h1
      have := getDigests_s A (E3 ++ b) c W h1 (by rw [l3]; exact h2) (by rw [l3]; omega)
      rw [d3, l3] at this
      rw [hN3]; exact this)
    have HG4 := Lib.hid (show ∀ W A c, Rd W W.heap.size A (B8 E4 ++ B8 b) → M4 + N4 ≤ c → Calls Try.prog 31 #[.slice A (M4 + N4) c] W fun e w' => ∃ (A' : Option Addr) (c' : Nat), e = .returned (.tuple #[.slice A' N2 c', .int .i64 (M4 : Int), .int .i64 0]) ∧ Rd w' w'.heap.size A' (Sb (bs x)) ∧ Below W.heap.size W w' from fun W A c h1 h2 => by
      rw [← B8_append] at h1
      have := getStrings_s A (E4 ++ b) c W h1 (by rw [l4]; exact h2) (by rw [l4]; omega)
      rw [d4, l4] at this
      simp only [bs_len] at this
      rw [hN2]; exact this)
    have HS2 := Lib.hid (show ∀ W A c, Rd W W.heap.size A (I64 l) → Below w.heap.size w W → Calls Try.prog 30 #[.slice A N1 c, .slice A1 N1 c1] W fun e w' => e = .returned (.bool true) ∧ ∃ q, w' = W.drewN q from fun W A c h1 h2 => by
      have := sameInts_any A A1 l c c1 W W.heap.size h1 ((rl.below h2).more h2.size) (by omega)
      rw [hN1]; exact this)
    have HS3 := Lib.hid (show ∀ W A c, Rd W W.heap.size A (Dg d) → Below w.heap.size w W → Calls Try.prog 36 #[.slice A N3 c, .slice A3 N3 c3] W fun e w' => e = .returned (.bool true) ∧ ∃ q, w' = W.drewN q from fun W A c h1 h2 => by
      have := sameDigests_any A A3 d c c3 W W.heap.size h1 ((rd.below h2).more h2.size) (by omega) od
      rw [hN3]; exact this)
    have HS4 := Lib.hid (show ∀ W A c, Rd W W.heap.size A (Sb (bs x)) → Below w.heap.size w W → Calls Try.prog 33 #[.slice A N2 c, .slice A2 N2 c2] W fun e w' => e = .returned (.bool true) ∧ ∃ q, w' = W.drewN q from fun W A c h1 h2 => by
      have := sameTexts_any A A2 (bs x) c c2 W W.heap.size h1 (rd_str x _ _ _ ((rx.below h2).more h2.size)) (by rw [bs_len]; omega)
      rw [bs_len] at this
      rw [hN2]; exact this)
    have HL1 := Lib.hid (show (B8 E1).length = M1 by rw [B8_len, hM1])
    have HL2 := Lib.hid (show (B8 E2).length = M2 by rw [B8_len, hM2])
    have HL3 := Lib.hid (show (B8 E3).length = M3 by rw [B8_len, hM3])
    have HL4 := Lib.hid (show (B8 E4).length = M4 by rw [B8_len, hM4])
    have HLb := Lib.hid (show (B8 b).length = N4 by rw [B8_len, hN4])
    have HRB := Lib.hid (show ∀ W, Below w.heap.size w W → Rd W W.heap.size A4 (B8 b) from fun W hW => (rb.below hW).more hW.size)
    rw [← hN1, ← hN2, ← hN3, ← hN4]
    clear hF hN1 hN2 hN3 hN4 hE1 hE2 hE3 hE4 hM1 hM2 hM3 hM4 rl rx rd rb ol od hbig d1 d2 d3 d4 l1 l2 l3 l4 hx
    go_enter Try.func8, Try.ntmps8
    go_wp2_with fail
    refine HFEW.out.mono ?_; rintro e w' ⟨rfl, rfl⟩
    go_wp2_with fail
    have HBe0 := Lib.hid (Below.refl w.heap.size w)
    refine (HP1.out _).mono ?_; rintro e v1 ⟨B1, k1, rfl, hk1, hn1, r1, hb1⟩
    have HBe1 := Lib.hid (HBe0.out.trans (hb1.mono HBe0.out.size))
    have R1 := Lib.hid r1
    clear r1 hb1
    go_wp2_with fail
    refine (HP2.out _ HBe1.out).mono ?_; rintro e v2 ⟨B2, k2, rfl, hk2, hn2, r2, hb2⟩
    have HBe2 := Lib.hid (HBe1.out.trans (hb2.mono HBe1.out.size))
    have R2 := Lib.hid r2
    replace R1 := Lib.hid ((R1.out.below hb2).more hb2.size)
    clear r2 hb2
    go_wp2_with fail
    refine (HP3.out _ HBe2.out).mono ?_; rintro e v3 ⟨B3, k3, rfl, hk3, hn3, r3, hb3⟩
    have HBe3 := Lib.hid (HBe2.out.trans (hb3.mono HBe2.out.size))
    have R3 := Lib.hid r3
    replace R1 := Lib.hid ((R1.out.below hb3).more hb3.size)
    replace R2 := Lib.hid ((R2.out.below hb3).more hb3.size)
    clear r3 hb3
    go_wp2_with fail
    refine (HP4.out _ HBe3.out).mono ?_; rintro e v4 ⟨B4, k4, rfl, hk4, hn4, r4, hb4⟩
    have HBe4 := Lib.hid (HBe3.out.trans (hb4.mono HBe3.out.size))
    have R4 := Lib.hid r4
    replace R1 := Lib.hid ((R1.out.below hb4).more hb4.size)
    replace R2 := Lib.hid ((R2.out.below hb4).more hb4.size)
    replace R3 := Lib.hid ((R3.out.below hb4).more hb4.size)
    clear r4 hb4
    obtain ⟨W0, hW0⟩ : ∃ W, W = v4 := ⟨_, rfl⟩
    clear hW0 W0
    obtain ⟨g1, o1, hA1, _, _⟩ := R1.out (by intro e; have := HL1.out; rw [e] at this; simp at this; omega)
    have hsl1 := slice_full B1 g1 o1 M1 k1 hA1 hk1
    have HN1 := Lib.hid (show B1 = none → M1 = 0 from fun e => by rw [hA1] at e; cases e)
    clear hA1 hn1
    obtain ⟨g2, o2, hA2, _, _⟩ := R2.out (by intro e; have := HL2.out; rw [e] at this; simp at this; omega)
    have hsl2 := slice_full B2 g2 o2 M2 k2 hA2 hk2
    have HN2 := Lib.hid (show B2 = none → M2 = 0 from fun e => by rw [hA2] at e; cases e)
    clear hA2 hn2
    obtain ⟨g3, o3, hA3, _, _⟩ := R3.out (by intro e; have := HL3.out; rw [e] at this; simp at this; omega)
    have hsl3 := slice_full B3 g3 o3 M3 k3 hA3 hk3
    have HN3 := Lib.hid (show B3 = none → M3 = 0 from fun e => by rw [hA3] at e; cases e)
    clear hA3 hn3
    obtain ⟨g4, o4, hA4, _, _⟩ := R4.out (by intro e; have := HL4.out; rw [e] at this; simp at this; omega)
    have hsl4 := slice_full B4 g4 o4 M4 k4 hA4 hk4
    have HN4 := Lib.hid (show B4 = none → M4 = 0 from fun e => by rw [hA4] at e; cases e)
    clear hA4 hn4
    go_wp2_with (at_builtin; refine wpList_append_full _ rfl (.tmp 59) (.tmp 60) 28 rfl 5 i0 (.int .u8 0) 1 Try.underlying28 hi0 hz0 hz1 hz2 rfl B1 A4 M1 N4 c4 (B8 E1) (B8 b) rfl rfl HN1.out HL1.out HLb.out R1.out (HRB.out _ HBe4.out) (B8_one _) ?c0 ?c1 ?_)
    case c0 => unfold maxLen; omega
    case c1 => omega
    intro C1 q1 v5 hq1 _ x1 hb5
    have HBe5 := Lib.hid (HBe4.out.trans (hb5.mono HBe4.out.size))
    replace R2 := Lib.hid ((R2.out.below hb5).more hb5.size)
    replace R3 := Lib.hid ((R3.out.below hb5).more hb5.size)
    replace R4 := Lib.hid ((R4.out.below hb5).more hb5.size)
    have X1 := Lib.hid x1
    clear x1 hb5
    go_wp2_with fail
    refine (HG1.out _ C1 q1 X1.out hq1).mono ?_; rintro e v5' ⟨rfl, rfl⟩
    go_wp2_with (at_builtin; refine wpList_append_full _ rfl (.tmp 72) (.tmp 73) 28 rfl 5 i0 (.int .u8 0) 1 Try.underlying28 hi0 hz0 hz1 hz2 rfl B2 A4 M2 N4 c4 (B8 E2) (B8 b) rfl rfl HN2.out HL2.out HLb.out R2.out (HRB.out _ HBe5.out) (B8_one _) ?c0 ?c1 ?_)
    case c0 => unfold maxLen; omega
    case c1 => omega
    intro C2 q2 v6 hq2 _ x2 hb6
    have HBe6 := Lib.hid (HBe5.out.trans (hb6.mono HBe5.out.size))
    replace R3 := Lib.hid ((R3.out.below hb6).more hb6.size)
    replace R4 := Lib.hid ((R4.out.below hb6).more hb6.size)
    have X2 := Lib.hid x2
    clear x2 hb6
    go_wp2_with fail
    refine (HG2.out _ C2 q2 X2.out hq2).mono ?_; rintro e v7 ⟨D2, p2, rfl, z2, hb7⟩
    have HBe7 := Lib.hid (HBe6.out.trans (hb7.mono HBe6.out.size))
    replace R3 := Lib.hid ((R3.out.below hb7).more hb7.size)
    replace R4 := Lib.hid ((R4.out.below hb7).more hb7.size)
    have Z2 := Lib.hid z2
    clear z2 hb7
    go_wp2_with (at_builtin; refine wpList_append_full _ rfl (.tmp 85) (.tmp 86) 28 rfl 5 i0 (.int .u8 0) 1 Try.underlying28 hi0 hz0 hz1 hz2 rfl B3 A4 M3 N4 c4 (B8 E3) (B8 b) rfl rfl HN3.out HL3.out HLb.out R3.out (HRB.out _ HBe7.out) (B8_one _) ?c0 ?c1 ?_)
    case c0 => unfold maxLen; omega
    case c1 => omega
    intro C3 q3 v8 hq3 _ x3 hb8
    have HBe8 := Lib.hid (HBe7.out.trans (hb8.mono HBe7.out.size))
    replace R4 := Lib.hid ((R4.out.below hb8).more hb8.size)
    replace Z2 := Lib.hid ((Z2.out.below hb8).more hb8.size)
    have X3 := Lib.hid x3
    clear x3 hb8
    go_wp2_with fail
    refine (HG3.out _ C3 q3 X3.out hq3).mono ?_; rintro e v9 ⟨D3, p3, rfl, z3, hb9⟩
    have HBe9 := Lib.hid (HBe8.out.trans (hb9.mono HBe8.out.size))
    replace R4 := Lib.hid ((R4.out.below hb9).more hb9.size)
    replace Z2 := Lib.hid ((Z2.out.below hb9).more hb9.size)
    have Z3 := Lib.hid z3
    clear z3 hb9
    go_wp2_with (at_builtin; refine wpList_append_full _ rfl (.tmp 98) (.tmp 99) 28 rfl 5 i0 (.int .u8 0) 1 Try.underlying28 hi0 hz0 hz1 hz2 rfl B4 A4 M4 N4 c4 (B8 E4) (B8 b) rfl rfl HN4.out HL4.out HLb.out R4.out (HRB.out _ HBe9.out) (B8_one _) ?c0 ?c1 ?_)
    case c0 => unfold maxLen; omega
    case c1 => omega
    intro C4 q4 v10 hq4 _ x4 hb10
    have HBe10 := Lib.hid (HBe9.out.trans (hb10.mono HBe9.out.size))
    replace Z2 := Lib.hid ((Z2.out.below hb10).more hb10.size)
    replace Z3 := Lib.hid ((Z3.out.below hb10).more hb10.size)
    have X4 := Lib.hid x4
    clear x4 hb10
    go_wp2_with fail
    refine (HG4.out _ C4 q4 X4.out hq4).mono ?_; rintro e v11 ⟨D4, p4, rfl, z4, hb11⟩
    have HBe11 := Lib.hid (HBe10.out.trans (hb11.mono HBe10.out.size))
    replace Z2 := Lib.hid ((Z2.out.below hb11).more hb11.size)
    replace Z3 := Lib.hid ((Z3.out.below hb11).more hb11.size)
    have Z4 := Lib.hid z4
    clear z4 hb11
    clear hsl1 hsl2 hsl3 hsl4
    go_wp2_with fail
    refine (sanity_any _).mono ?_; rintro e v12 ⟨rfl, hb12⟩
    have HBe12 := Lib.hid (HBe11.out.trans (hb12.mono HBe11.out.size))
    replace Z2 := Lib.hid ((Z2.out.below hb12).more hb12.size)
    replace Z3 := Lib.hid ((Z3.out.below hb12).more hb12.size)
    replace Z4 := Lib.hid ((Z4.out.below hb12).more hb12.size)
    clear hb12
    go_wp2_with fail
    refine (HS4.out _ D4 p4 Z4.out HBe12.out).mono ?_; rintro e va ⟨rfl, qa, rfl⟩
    go_wp2_with fail
    refine (HS2.out _ D2 p2 (show Rd (World.drewN _ qa) _ D2 (I64 l) from Z2.out) (below_drews HBe12.out _)).mono ?_; rintro e vb ⟨rfl, qb, rfl⟩
    go_wp2_with fail
    refine (HS3.out _ D3 p3 (show Rd (World.drewN _ (qa + qb)) _ D3 (Dg d) from Z3.out) (below_drews HBe12.out _)).mono ?_; rintro e vc ⟨rfl, qc, rfl⟩
    go_wp2_with fail
    go_ret
    exact ⟨rfl, below_drews HBe12.out _⟩
end Go.Proofs.Ytooanlmmplbnoaa
