/-
  The law WireEncodeMatchesSpec returns true, whatever the arguments.
  Condition: the number of the strings and their lengths together fit an int.
-/
import Derived.Test.YtooanlmmplbnoaaRLists
import Derived.Test.YtooanlmmplbnoaaLawF
import Derived.Test.YtooanlmmplbnoaaLawB
namespace Go.Proofs.Ytooanlmmplbnoaa
open Go.RowKit Wr
set_option linter.unusedVariables false

theorem below_drewn {B : Nat} {a w : World} (h : Below B a w) (n : Nat) : Below B a (w.drewN n) := ⟨h.os, h.tape, h.output, h.size, h.block⟩
/-- Two slices of the same bytes are the same. -/
theorem same_true (A A2 : Option Addr) (a : List UInt8) (n c c2 : Nat) (w : World) (hn : n = a.length) (hr : Rd w w.heap.size A (B8 a)) (hr2 : Rd w w.heap.size A2 (B8 a)) (hl : n ≤ 1099511627776) :
    Calls Try.prog 13 #[.slice A n c, .slice A2 n c2] w fun e w' => e = .returned (.bool true) ∧ ∃ q, w' = w.drewN q := by
  subst hn
  refine (same_any A A2 a a c c2 w w.heap.size hr hr2 hl hl).mono ?_
  rintro e w' h
  simpa using h
/-- What both encodings come to: a slice of the bytes E. -/
def EncOf (f : FuncId) (args : Array Value) (E : List UInt8) (n : Nat) (W : World) : Prop :=
  Calls Try.prog f args W fun e w' => ∃ (A' : Option Addr) (c' : Nat), e = .returned (.slice A' n c') ∧ Rd w' w'.heap.size A' (B8 E) ∧ Below W.heap.size W w'
theorem enc_of_own {f : FuncId} {args : Array Value} {E : List UInt8} {n : Nat} {W : World} (hn : n = E.length)
    (h : Calls Try.prog f args W fun e w' => ∃ v', e = .returned v' ∧ w'.ownsRow W.heap.size 5 1 v' E.length (B8 E) ∧ Below W.heap.size W w') : EncOf f args E n W := by
  subst hn
  refine h.mono ?_
  rintro e w' ⟨v, rfl, ho, hb⟩
  obtain ⟨A', c', rfl, _, _, h3⟩ := own_form ho
  exact ⟨A', c', rfl, h3, hb⟩

set_option maxRecDepth 100000 in
set_option maxHeartbeats 4000000 in
theorem encode_walk (n : Int) (s : ByteArray) (A1 A2 A3 : Option Addr) (l : List Int) (x : List ByteArray) (d : List (List UInt8)) (c1 c2 c3 : Nat) (w : World)
    (n0 : -9223372036854775808 ≤ n) (n1 : n ≤ 9223372036854775807) (hs : s.size ≤ 281474976710656) (hl : l.length ≤ 281474976710656) (hd : d.length ≤ 281474976710656) (hx : sumTo x x.length ≤ 4611686018427387904)
    (rl : Rd w w.heap.size A1 (I64 l)) (rx : Rd w w.heap.size A2 (St x)) (rd : Rd w w.heap.size A3 (Dg d)) (hc1 : l.length ≤ c1) (hc2 : x.length ≤ c2) (hc3 : d.length ≤ c3) (ol : ∀ y ∈ l, okInt y) (od : ∀ y ∈ d, okDig y) :
    Calls Try.prog 3 #[.int .i64 n, .string s, .slice A1 l.length c1, .slice A2 x.length c2, .slice A3 d.length c3] w fun e w' => e = .returned (.bool true) ∧ Below w.heap.size w w' := by
  obtain ⟨F, hF⟩ : ∃ F, F = decide (sumTo x x.length ≤ 2000) := ⟨_, rfl⟩
  obtain ⟨N1, hN1⟩ : ∃ n, n = l.length := ⟨_, rfl⟩
  obtain ⟨N2, hN2⟩ : ∃ n, n = x.length := ⟨_, rfl⟩
  obtain ⟨N3, hN3⟩ : ∃ n, n = d.length := ⟨_, rfl⟩
  have HFEW := Lib.hid (show Calls Try.prog 11 #[.slice A2 N2 c2] w fun e w' => e = .returned (.bool F) ∧ w = w' by
    rw [hN2, hF]; exact few_any A2 x c2 w _ rx hx)
  have w1 : IntKind.i64.wrap ((s.size : Int) + (N1 : Int)) = (s.size : Int) + (N1 : Int) := IntWalk.i64_in _ (by omega)
  have w2 : IntKind.i64.wrap ((s.size : Int) + (N1 : Int) + (N3 : Int)) = (s.size : Int) + (N1 : Int) + (N3 : Int) := IntWalk.i64_in _ (by omega)
  by_cases hbig : 2000 < s.size + N1 + N3
  · have hb' : (2000 : Int) < (s.size : Int) + (N1 : Int) + (N3 : Int) := by omega
    rw [← hN1, ← hN2, ← hN3]
    clear hF hN1 hN2 hN3 rl rx rd ol od hbig
    go_enter Try.func3, Try.ntmps3
    go_wp2_with fail
    refine (sanity_any _).mono ?_; rintro e w' ⟨rfl, hbs⟩
    go_wp2_with fail
    go_ret
    exact ⟨rfl, hbs⟩
  have hb' : ¬ (2000 : Int) < (s.size : Int) + (N1 : Int) + (N3 : Int) := by omega
  cases F with
  | false =>
    rw [← hN1, ← hN2, ← hN3]
    clear hF hN1 hN2 hN3 rl rx rd ol od hbig
    go_enter Try.func3, Try.ntmps3
    go_wp2_with fail
    refine HFEW.out.mono ?_; rintro e w' ⟨rfl, rfl⟩
    go_wp2_with fail
    refine (sanity_any _).mono ?_; rintro e w' ⟨rfl, hbs⟩
    go_wp2_with fail
    go_ret
    exact ⟨rfl, hbs⟩
  | true =>
    have hf : sumTo x x.length ≤ 2000 := by
      have := hF.symm; rw [decide_eq_true_iff] at this; exact this
    have hxl : x.length ≤ 2000 := by unfold sumTo at hf; omega
    obtain ⟨E0, hE0⟩ : ∃ E, E = enc n := ⟨_, rfl⟩
    obtain ⟨E1, hE1⟩ : ∃ E, E = encStr s.data.toList := ⟨_, rfl⟩
    obtain ⟨E2, hE2⟩ : ∃ E, E = encInts l := ⟨_, rfl⟩
    obtain ⟨E3, hE3⟩ : ∃ E, E = encStrs (bs x) := ⟨_, rfl⟩
    obtain ⟨E4, hE4⟩ : ∃ E, E = encDigs d := ⟨_, rfl⟩
    obtain ⟨M0, hM0⟩ : ∃ n, n = E0.length := ⟨_, rfl⟩
    obtain ⟨M1, hM1⟩ : ∃ n, n = E1.length := ⟨_, rfl⟩
    obtain ⟨M2, hM2⟩ : ∃ n, n = E2.length := ⟨_, rfl⟩
    obtain ⟨M3, hM3⟩ : ∃ n, n = E3.length := ⟨_, rfl⟩
    obtain ⟨M4, hM4⟩ : ∃ n, n = E4.length := ⟨_, rfl⟩
    have b0 : M0 ≤ 9 := by rw [hM0, hE0]; exact (enc_le n).2
    have b1 : M1 ≤ 9 + s.size := by
      have h1 := encStr_le s.data.toList
      rw [size_list] at h1
      rw [hM1, hE1]; exact h1
    have b2 : M2 ≤ 9 + 9 * N1 := by rw [hM2, hE2, hN1]; exact encInts_long l
    have b3 : M3 ≤ 18009 := by have h1 := encStrs_long x; rw [hM3, hE3]; omega
    have b4 : M4 ≤ 9 + 16 * N3 := by rw [hM4, hE4, hN3]; exact encDigs_long d od
    have xs : ∀ y ∈ x, y.size ≤ 1073741824 := fun y hy => by have := sumTo_elem x y hy; omega
    have HA0 := Lib.hid (show ∀ W, EncOf 14 #[.int .i64 n] E0 M0 W from fun W => by rw [hE0] at hM0 ⊢; exact enc_of_own hM0 (int_any n W n0 n1))
    have HB0 := Lib.hid (show ∀ W, EncOf 15 #[.int .i64 n] E0 M0 W from fun W => by rw [hE0] at hM0 ⊢; exact enc_of_own hM0 (rint_any n W n0 n1))
    have HA1 := Lib.hid (show ∀ W, EncOf 16 #[.string s] E1 M1 W from fun W => by rw [hE1] at hM1 ⊢; exact enc_of_own hM1 (bytes_any s W (by omega)))
    have HB1 := Lib.hid (show ∀ W, EncOf 17 #[.string s] E1 M1 W from fun W => by rw [hE1] at hM1 ⊢; exact enc_of_own hM1 (rbytes_any s W (by omega)))
    have HA2 := Lib.hid (show ∀ W, Below w.heap.size w W → EncOf 18 #[.slice A1 N1 c1] E2 M2 W from fun W hW => by rw [hE2] at hM2 ⊢; rw [hN1]; exact enc_of_own hM2 (ints_any A1 l c1 W ((rl.below hW).more hW.size) hc1 (by omega) ol))
    have HB2 := Lib.hid (show ∀ W, Below w.heap.size w W → EncOf 19 #[.slice A1 N1 c1] E2 M2 W from fun W hW => by rw [hE2] at hM2 ⊢; rw [hN1]; exact enc_of_own hM2 (rints_any A1 l c1 W ((rl.below hW).more hW.size) (by omega) ol))
    have HA3 := Lib.hid (show ∀ W, Below w.heap.size w W → EncOf 20 #[.slice A2 N2 c2] E3 M3 W from fun W hW => by rw [hE3] at hM3 ⊢; rw [hN2]; exact enc_of_own hM3 (strings_any A2 x c2 W ((rx.below hW).more hW.size) hc2 (by omega) (by omega) xs))
    have HB3 := Lib.hid (show ∀ W, Below w.heap.size w W → EncOf 21 #[.slice A2 N2 c2] E3 M3 W from fun W hW => by rw [hE3] at hM3 ⊢; rw [hN2]; exact enc_of_own hM3 (rstrings_any A2 x c2 W ((rx.below hW).more hW.size) (by omega) (by omega) xs))
    have HA4 := Lib.hid (show ∀ W, Below w.heap.size w W → EncOf 22 #[.slice A3 N3 c3] E4 M4 W from fun W hW => by rw [hE4] at hM4 ⊢; rw [hN3]; exact enc_of_own hM4 (digests_any A3 d c3 W ((rd.below hW).more hW.size) hc3 (by omega) od))
    have HB4 := Lib.hid (show ∀ W, Below w.heap.size w W → EncOf 23 #[.slice A3 N3 c3] E4 M4 W from fun W hW => by rw [hE4] at hM4 ⊢; rw [hN3]; exact enc_of_own hM4 (rdigests_any A3 d c3 W ((rd.below hW).more hW.size) (by omega) od))
    have HM0 := Lib.hid hM0
    have HM1 := Lib.hid hM1
    have HM2 := Lib.hid hM2
    have HM3 := Lib.hid hM3
    have HM4 := Lib.hid hM4
    rw [← hN1, ← hN2, ← hN3]
    clear hF hN1 hN2 hN3 hE0 hE1 hE2 hE3 hE4 hM0 hM1 hM2 hM3 hM4 rl rx rd ol od hbig hx xs
    go_enter Try.func3, Try.ntmps3
    go_wp2_with fail
    refine HFEW.out.mono ?_; rintro e w' ⟨rfl, rfl⟩
    go_wp2_with fail
    refine (sanity_any _).mono ?_; rintro e v0 ⟨rfl, hb0⟩
    have B0 := Lib.hid hb0
    clear hb0
    go_wp2_with fail
    refine (HA0.out _).mono ?_; rintro e p0 ⟨C0, k0, rfl, r0, hp0⟩
    have P0 := Lib.hid (B0.out.trans (hp0.mono B0.out.size))
    have R0 := Lib.hid r0
    clear r0 hp0
    go_wp2_with fail
    refine (HB0.out _).mono ?_; rintro e q0 ⟨D0, m0, rfl, z0, hq0⟩
    have Q0 := Lib.hid (P0.out.trans (hq0.mono P0.out.size))
    replace R0 := Lib.hid ((R0.out.below hq0).more hq0.size)
    have Z0 := Lib.hid z0
    clear z0 hq0
    go_wp2_with fail
    refine (same_true C0 D0 E0 M0 k0 m0 _ HM0.out R0.out Z0.out (by omega)).mono ?_; rintro e s0 ⟨rfl, y0, rfl⟩
    have S0 := Lib.hid (below_drewn Q0.out y0)
    go_wp2_with fail
    refine (HA1.out _).mono ?_; rintro e p1 ⟨C1, k1, rfl, r1, hp1⟩
    have P1 := Lib.hid (S0.out.trans (hp1.mono S0.out.size))
    have R1 := Lib.hid r1
    clear r1 hp1
    go_wp2_with fail
    refine (HB1.out _).mono ?_; rintro e q1 ⟨D1, m1, rfl, z1, hq1⟩
    have Q1 := Lib.hid (P1.out.trans (hq1.mono P1.out.size))
    replace R1 := Lib.hid ((R1.out.below hq1).more hq1.size)
    have Z1 := Lib.hid z1
    clear z1 hq1
    go_wp2_with fail
    refine (same_true C1 D1 E1 M1 k1 m1 _ HM1.out R1.out Z1.out (by omega)).mono ?_; rintro e s1 ⟨rfl, y1, rfl⟩
    have S1 := Lib.hid (below_drewn Q1.out y1)
    go_wp2_with fail
    refine (HA2.out _ S1.out).mono ?_; rintro e p2 ⟨C2, k2, rfl, r2, hp2⟩
    have P2 := Lib.hid (S1.out.trans (hp2.mono S1.out.size))
    have R2 := Lib.hid r2
    clear r2 hp2
    go_wp2_with fail
    refine (HB2.out _ P2.out).mono ?_; rintro e q2 ⟨D2, m2, rfl, z2, hq2⟩
    have Q2 := Lib.hid (P2.out.trans (hq2.mono P2.out.size))
    replace R2 := Lib.hid ((R2.out.below hq2).more hq2.size)
    have Z2 := Lib.hid z2
    clear z2 hq2
    go_wp2_with fail
    refine (same_true C2 D2 E2 M2 k2 m2 _ HM2.out R2.out Z2.out (by omega)).mono ?_; rintro e s2 ⟨rfl, y2, rfl⟩
    have S2 := Lib.hid (below_drewn Q2.out y2)
    go_wp2_with fail
    refine (HA3.out _ S2.out).mono ?_; rintro e p3 ⟨C3, k3, rfl, r3, hp3⟩
    have P3 := Lib.hid (S2.out.trans (hp3.mono S2.out.size))
    have R3 := Lib.hid r3
    clear r3 hp3
    go_wp2_with fail
    refine (HB3.out _ P3.out).mono ?_; rintro e q3 ⟨D3, m3, rfl, z3, hq3⟩
    have Q3 := Lib.hid (P3.out.trans (hq3.mono P3.out.size))
    replace R3 := Lib.hid ((R3.out.below hq3).more hq3.size)
    have Z3 := Lib.hid z3
    clear z3 hq3
    go_wp2_with fail
    refine (same_true C3 D3 E3 M3 k3 m3 _ HM3.out R3.out Z3.out (by omega)).mono ?_; rintro e s3 ⟨rfl, y3, rfl⟩
    have S3 := Lib.hid (below_drewn Q3.out y3)
    go_wp2_with fail
    refine (HA4.out _ S3.out).mono ?_; rintro e p4 ⟨C4, k4, rfl, r4, hp4⟩
    have P4 := Lib.hid (S3.out.trans (hp4.mono S3.out.size))
    have R4 := Lib.hid r4
    clear r4 hp4
    go_wp2_with fail
    refine (HB4.out _ P4.out).mono ?_; rintro e q4 ⟨D4, m4, rfl, z4, hq4⟩
    have Q4 := Lib.hid (P4.out.trans (hq4.mono P4.out.size))
    replace R4 := Lib.hid ((R4.out.below hq4).more hq4.size)
    have Z4 := Lib.hid z4
    clear z4 hq4
    go_wp2_with fail
    refine (same_true C4 D4 E4 M4 k4 m4 _ HM4.out R4.out Z4.out (by omega)).mono ?_; rintro e s4 ⟨rfl, y4, rfl⟩
    have S4 := Lib.hid (below_drewn Q4.out y4)
    go_wp2_with fail
    go_ret
    exact ⟨rfl, S4.out⟩
end Go.Proofs.Ytooanlmmplbnoaa
