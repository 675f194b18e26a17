/-
  The law WireDecodeMatchesSpec returns true, whatever the bytes.
  No condition.
-/
import Derived.Test.YtooanlmmplbnoaaRGetD
import Derived.Test.YtooanlmmplbnoaaLawC
import Derived.Test.YtooanlmmplbnoaaForm
namespace Go.Proofs.Ytooanlmmplbnoaa
open Go.RowKit Wr
set_option linter.unusedVariables false

theorem below_drewn' {B : Nat} {a w : World} (h : Below B a w) (n : Nat) : Below B a (w.drewN n) := ⟨h.os, h.tape, h.output, h.size, h.block⟩
/-- A list decoded: a slice of N values xs, two numbers, a newer world. -/
def LstOf (f : FuncId) (args : Array Value) (N u er : Nat) (xs : List Value) (W : World) : Prop :=
  Calls Try.prog f args W fun e w' => ∃ (A' : Option Addr) (c' : Nat), e = .returned (.tuple #[.slice A' N c', .int .i64 (u : Nat), .int .i64 (er : Nat)]) ∧ Rd w' w'.heap.size A' xs ∧ Below W.heap.size W w'
theorem lst_of_own {f : FuncId} {args : Array Value} {N u er t sz : Nat} {xs : List Value} {W : World}
    (h : Calls Try.prog f args W fun e w' => ∃ v', e = .returned (.tuple #[v', .int .i64 (u : Nat), .int .i64 (er : Nat)]) ∧ w'.ownsRow W.heap.size t sz v' N xs ∧ Below W.heap.size W w') : LstOf f args N u er xs W := by
  refine h.mono ?_
  rintro e w' ⟨v, rfl, ho, hb⟩
  obtain ⟨A', c', rfl, _, _, h3⟩ := own_form ho
  exact ⟨A', c', rfl, h3, hb⟩

set_option maxRecDepth 100000 in
set_option maxHeartbeats 4000000 in
theorem decode_walk (a1 : Option Addr) (len1 cap1 : Nat) (z1 : List Int) (w : World) (w1 : InRow .u8 w a1 len1 cap1 z1) :
    Calls Try.prog 4 #[.slice a1 len1 cap1] w fun e w' => e = .returned (.bool true) ∧ Below w.heap.size w w' := by
  obtain ⟨b, hb, hlc, hno, hr⟩ := in_bytes w1
  clear w1
  by_cases hm : 2000 < len1
  · go_enter Try.func4, Try.ntmps4
    go_wp2_with fail
    refine (sanity_any _).mono ?_; rintro e w' ⟨rfl, hbs⟩
    go_wp2_with fail
    go_ret
    exact ⟨rfl, hbs⟩
  · subst hb
    have f3 := ints_facts b
    have f4 := strs_facts b
    have f5 := digs_facts b
    have G1 := Lib.hid (show ∀ W, Below w.heap.size w W → Calls Try.prog 24 #[.slice a1 b.length cap1] W _ from fun W hW => getInt_any a1 b cap1 W _ ((hr.below hW).more hW.size) hlc (by omega))
    have H1 := Lib.hid (show ∀ W, Below w.heap.size w W → Calls Try.prog 25 #[.slice a1 b.length cap1] W _ from fun W hW => rgetInt_any a1 b cap1 W ((hr.below hW).more hW.size) hlc (by omega))
    have G2 := Lib.hid (show ∀ W, Below w.heap.size w W → Calls Try.prog 26 #[.slice a1 b.length cap1] W _ from fun W hW => getBytes_any a1 b cap1 W _ ((hr.below hW).more hW.size) hlc (by omega))
    have H2 := Lib.hid (show ∀ W, Below w.heap.size w W → Calls Try.prog 27 #[.slice a1 b.length cap1] W _ from fun W hW => rgetBytes_any a1 b cap1 W ((hr.below hW).more hW.size) hlc (by omega))
    have G3 := Lib.hid (show ∀ W, Below w.heap.size w W → LstOf 28 #[.slice a1 b.length cap1] _ _ _ _ W from fun W hW => getInts_s a1 b cap1 W ((hr.below hW).more hW.size) hlc (by omega))
    have H3 := Lib.hid (show ∀ W, Below w.heap.size w W → LstOf 29 #[.slice a1 b.length cap1] _ _ _ _ W from fun W hW => lst_of_own (rgetInts_any a1 b cap1 W ((hr.below hW).more hW.size) hlc (by omega)))
    have G4 := Lib.hid (show ∀ W, Below w.heap.size w W → LstOf 31 #[.slice a1 b.length cap1] _ _ _ _ W from fun W hW => getStrings_s a1 b cap1 W ((hr.below hW).more hW.size) hlc (by omega))
    have H4 := Lib.hid (show ∀ W, Below w.heap.size w W → LstOf 32 #[.slice a1 b.length cap1] _ _ _ _ W from fun W hW => lst_of_own (rgetStrings_any a1 b cap1 W ((hr.below hW).more hW.size) hlc (by omega)))
    have G5 := Lib.hid (show ∀ W, Below w.heap.size w W → LstOf 34 #[.slice a1 b.length cap1] _ _ _ _ W from fun W hW => getDigests_s a1 b cap1 W ((hr.below hW).more hW.size) hlc (by omega))
    have H5 := Lib.hid (show ∀ W, Below w.heap.size w W → LstOf 35 #[.slice a1 b.length cap1] _ _ _ _ W from fun W hW => lst_of_own (rgetDigests_any a1 b cap1 W ((hr.below hW).more hW.size) hlc (by omega)))
    have S3 := Lib.hid (show ∀ (W : World) (A A2 : Option Addr) (c c2 : Nat), Rd W W.heap.size A _ → Rd W W.heap.size A2 _ → _ from fun W A A2 c c2 h1 h2 => sameInts_any A A2 (decInts b).1 c c2 W W.heap.size h1 h2 (by omega))
    have S4 := Lib.hid (show ∀ (W : World) (A A2 : Option Addr) (c c2 : Nat), Rd W W.heap.size A _ → Rd W W.heap.size A2 _ → _ from fun W A A2 c c2 h1 h2 => sameTexts_any A A2 (decStrs b).1 c c2 W W.heap.size h1 h2 (by omega))
    have S5 := Lib.hid (show ∀ (W : World) (A A2 : Option Addr) (c c2 : Nat), Rd W W.heap.size A _ → Rd W W.heap.size A2 _ → _ from fun W A A2 c c2 h1 h2 => sameDigests_any A A2 (decDigs b).1 c c2 W W.heap.size h1 h2 (by omega) f5.2)
    obtain ⟨n, hn⟩ : ∃ n, n = (decInt b).1 := ⟨_, rfl⟩
    obtain ⟨u1, hu1⟩ : ∃ n, n = (decInt b).2.1 := ⟨_, rfl⟩
    obtain ⟨e1, he1⟩ : ∃ n, n = (decInt b).2.2 := ⟨_, rfl⟩
    obtain ⟨s, hs⟩ : ∃ s, s = (⟨(decStr b).1.toArray⟩ : ByteArray) := ⟨_, rfl⟩
    obtain ⟨u2, hu2⟩ : ∃ n, n = (decStr b).2.1 := ⟨_, rfl⟩
    obtain ⟨e2, he2⟩ : ∃ n, n = (decStr b).2.2 := ⟨_, rfl⟩
    obtain ⟨x3, hx3⟩ : ∃ x, x = I64 (decInts b).1 := ⟨_, rfl⟩
    obtain ⟨n3, hn3⟩ : ∃ n, n = (decInts b).1.length := ⟨_, rfl⟩
    obtain ⟨u3, hu3⟩ : ∃ n, n = (decInts b).2.1 := ⟨_, rfl⟩
    obtain ⟨e3, he3⟩ : ∃ n, n = (decInts b).2.2 := ⟨_, rfl⟩
    obtain ⟨x4, hx4⟩ : ∃ x, x = Sb (decStrs b).1 := ⟨_, rfl⟩
    obtain ⟨n4, hn4⟩ : ∃ n, n = (decStrs b).1.length := ⟨_, rfl⟩
    obtain ⟨u4, hu4⟩ : ∃ n, n = (decStrs b).2.1 := ⟨_, rfl⟩
    obtain ⟨e4, he4⟩ : ∃ n, n = (decStrs b).2.2 := ⟨_, rfl⟩
    obtain ⟨x5, hx5⟩ : ∃ x, x = Dg (decDigs b).1 := ⟨_, rfl⟩
    obtain ⟨n5, hn5⟩ : ∃ n, n = (decDigs b).1.length := ⟨_, rfl⟩
    obtain ⟨u5, hu5⟩ : ∃ n, n = (decDigs b).2.1 := ⟨_, rfl⟩
    obtain ⟨e5, he5⟩ : ∃ n, n = (decDigs b).2.2 := ⟨_, rfl⟩
    rw [← hn, ← hu1, ← he1] at G1 H1
    rw [← hs, ← hu2, ← he2] at G2 H2
    rw [← hx3, ← hn3, ← hu3, ← he3] at G3 H3
    rw [← hx3, ← hn3] at S3
    rw [← hx4, ← hn4, ← hu4, ← he4] at G4 H4
    rw [← hx4, ← hn4] at S4
    rw [← hx5, ← hn5, ← hu5, ← he5] at G5 H5
    rw [← hx5, ← hn5] at S5
    clear hn hu1 he1 hs hu2 he2 hx3 hn3 hu3 he3 hx4 hn4 hu4 he4 hx5 hn5 hu5 he5 f3 f4 f5
    obtain ⟨L, hL⟩ : ∃ L, L = b.length := ⟨_, rfl⟩
    rw [← hL] at G1 H1 G2 H2 G3 H3 G4 H4 G5 H5 hm ⊢
    clear hL hr hlc hno
    have d0 : (n != n) = false := by simp
    have d1 : ((u1 : Int) != (u1 : Int)) = false := by simp
    have d2 : ((e1 : Int) != (e1 : Int)) = false := by simp
    have t1 : ((u2 : Int) != (u2 : Int)) = false := by simp
    have t2 : ((e2 : Int) != (e2 : Int)) = false := by simp
    have i1 : ((u3 : Int) != (u3 : Int)) = false := by simp
    have i2 : ((e3 : Int) != (e3 : Int)) = false := by simp
    have k1 : ((u4 : Int) != (u4 : Int)) = false := by simp
    have k2 : ((e4 : Int) != (e4 : Int)) = false := by simp
    have v1 : ((u5 : Int) == (u5 : Int)) = true := by simp
    have v2 : ((e5 : Int) == (e5 : Int)) = true := by simp
    have P0 := Lib.hid (Below.refl w.heap.size w)
    go_enter Try.func4, Try.ntmps4
    go_wp2_with fail
    refine (G1.out _ P0.out).mono ?_; rintro e p1 ⟨rfl, rfl⟩
    go_wp2_with fail
    refine (H1.out _ P0.out).mono ?_; rintro e p1 ⟨rfl, hp1⟩
    have P1 := Lib.hid hp1
    clear hp1
    go_wp2_with fail
    refine (G2.out _ P1.out).mono ?_; rintro e p2 ⟨rfl, rfl⟩
    go_wp2_with fail
    refine (H2.out _ P1.out).mono ?_; rintro e p2 ⟨rfl, hp2⟩
    have P2 := Lib.hid (P1.out.trans (hp2.mono P1.out.size))
    clear hp2
    go_wp2_with fail
    refine (G3.out _ P2.out).mono ?_; rintro e p3 ⟨C3, k3, rfl, r3, hp3⟩
    have P3 := Lib.hid (P2.out.trans (hp3.mono P2.out.size))
    have R3 := Lib.hid r3
    clear hp3 r3
    go_wp2_with fail
    refine (H3.out _ P3.out).mono ?_; rintro e q3 ⟨D3, m3, rfl, z3, hq3⟩
    have Q3 := Lib.hid (P3.out.trans (hq3.mono P3.out.size))
    replace R3 := Lib.hid ((R3.out.below hq3).more hq3.size)
    have Z3 := Lib.hid z3
    clear z3 hq3
    go_wp2_with fail
    refine (S3.out _ C3 D3 k3 m3 R3.out Z3.out).mono ?_; rintro e y3 ⟨rfl, j3, rfl⟩
    have Y3 := Lib.hid (below_drewn' Q3.out j3)
    go_wp2_with fail
    refine (G4.out _ Y3.out).mono ?_; rintro e p4 ⟨C4, k4, rfl, r4, hp4⟩
    have P4 := Lib.hid (Y3.out.trans (hp4.mono Y3.out.size))
    have R4 := Lib.hid r4
    clear hp4 r4
    go_wp2_with fail
    refine (H4.out _ P4.out).mono ?_; rintro e q4 ⟨D4, m4, rfl, z4, hq4⟩
    have Q4 := Lib.hid (P4.out.trans (hq4.mono P4.out.size))
    replace R4 := Lib.hid ((R4.out.below hq4).more hq4.size)
    have Z4 := Lib.hid z4
    clear z4 hq4
    go_wp2_with fail
    refine (S4.out _ C4 D4 k4 m4 R4.out Z4.out).mono ?_; rintro e y4 ⟨rfl, j4, rfl⟩
    have Y4 := Lib.hid (below_drewn' Q4.out j4)
    go_wp2_with fail
    refine (G5.out _ Y4.out).mono ?_; rintro e p5 ⟨C5, k5, rfl, r5, hp5⟩
    have P5 := Lib.hid (Y4.out.trans (hp5.mono Y4.out.size))
    have R5 := Lib.hid r5
    clear hp5 r5
    go_wp2_with fail
    refine (H5.out _ P5.out).mono ?_; rintro e q5 ⟨D5, m5, rfl, z5, hq5⟩
    have Q5 := Lib.hid (P5.out.trans (hq5.mono P5.out.size))
    replace R5 := Lib.hid ((R5.out.below hq5).more hq5.size)
    have Z5 := Lib.hid z5
    clear z5 hq5
    go_wp2_with fail
    refine (sanity_any _).mono ?_; rintro e y0 ⟨rfl, hb0⟩
    have X := Lib.hid (Q5.out.trans (hb0.mono Q5.out.size))
    replace R5 := Lib.hid ((R5.out.below hb0).more hb0.size)
    replace Z5 := Lib.hid ((Z5.out.below hb0).more hb0.size)
    clear hb0
    go_wp2_with fail
    refine (S5.out _ C5 D5 k5 m5 R5.out Z5.out).mono ?_; rintro e y5 ⟨rfl, j5, rfl⟩
    have Y5 := Lib.hid (below_drewn' X.out j5)
    go_wp2_with fail
    go_ret
    exact ⟨rfl, Y5.out⟩
end Go.Proofs.Ytooanlmmplbnoaa
