/-
  The contracts of wire.getList at digests: they return the decoding of the list at the beginning of the bytes.
  No condition but that the bytes can be read; at most 2^30 of them.
-/
import Derived.Test.YtooanlmmplbnoaaNextD
import Derived.Test.YtooanlmmplbnoaaList
import Derived.BigQuiet
namespace Go.Proofs.Ytooanlmmplbnoaa
open Go.RowKit Wr
set_option linter.unusedVariables false

theorem decDig_le (b : List UInt8) (h : 16 ≤ b.length) : (decDig b).2.1 ≤ b.length := by
  unfold decDig; rw [if_neg (by omega)]; exact h
theorem decDig_16 (b x : List UInt8) (m er : Nat) (h : 16 ≤ b.length) (hd : decDig b = (x, m, er)) : m = 16 ∧ er = 0 := by
  unfold decDig at hd; rw [if_neg (by omega)] at hd
  simp only [Prod.mk.injEq] at hd
  exact ⟨hd.2.1.symm, hd.2.2.symm⟩
theorem next_digw (g0 g1 g2 g3 base B0 : Nat) (A : Option Addr) (b : List UInt8) (c used k : Nat) (v : Value) (xs : List (List UInt8)) (w : World)
    (h0 : Blk w g0 66 [.func (.func 45) #[] #[]]) (h1 : Blk w g1 28 [.slice A b.length c]) (h2 : Blk w g2 3 [.int .i64 used]) (h3 : Blk w g3 24 [v])
    (hr : Rd w B0 A (B8 b)) (hc : b.length ≤ c) (hl : b.length ≤ 1099511627776) (hu : used + 16 ≤ b.length)
    (hown : w.ownsRow base 57 16 v k (Dg xs)) (hk : k ≤ 68719476736) (hbase : base ≤ w.heap.size) (hg0 : g0 < base) (hg1 : g1 < base) (hg2 : g2 < base) (hg3 : g3 < base) (h23 : g2 ≠ g3) (h02 : g0 ≠ g2) (h03 : g0 ≠ g3) (h12 : g1 ≠ g2) (h13 : g1 ≠ g3)
    (hB0 : B0 ≤ g0) (hB1 : B0 ≤ g1) (hB2 : B0 ≤ g2) (hB3 : B0 ≤ g3) :
    Calls Try.prog 48 #[.pointer (some ⟨g0, 0, none⟩), .pointer (some ⟨g1, 0, none⟩), .pointer (some ⟨g2, 0, none⟩), .pointer (some ⟨g3, 0, none⟩)] w fun e w' =>
      ∃ v', e = .returned (.int .i64 ((decDig (b.drop used)).2.2 : Nat)) ∧ Blk w' g0 66 [.func (.func 45) #[] #[]] ∧ Blk w' g1 28 [.slice A b.length c] ∧ Blk w' g2 3 [.int .i64 ((used + (decDig (b.drop used)).2.1 : Nat) : Int)] ∧ Blk w' g3 24 [v'] ∧
        w'.ownsRow base 57 16 v' (k + 1) (Dg (xs ++ [(decDig (b.drop used)).1])) ∧ Below B0 w w' := by
  have hd : decDig (b.drop used) = ((b.drop used).take 16, 16, 0) := by
    unfold decDig; rw [if_neg (by rw [List.length_drop]; omega)]
  rw [hd]
  exact next_dig g0 g1 g2 g3 base B0 A b c used k v xs w h0 h1 h2 h3 hr hc hl hu hown hk hbase hg0 hg1 hg2 hg3 h23 h02 h03 h12 h13 hB0 hB1 hB2 hB3

set_option maxRecDepth 100000 in
set_option maxHeartbeats 1000000 in
theorem getList_dig (A : Option Addr) (b : List UInt8) (c : Nat) (w : World) (hr : Rd w w.heap.size A (B8 b)) (hc : b.length ≤ c) (hl : b.length ≤ 1073741824) :
    Calls Try.prog 44 #[.slice A b.length c, .int .i64 16, .func (.func 45) #[] #[]] w fun e w' => ∃ v', e = .returned (.tuple #[v', .int .i64 ((decDigs b).2.1 : Nat), .int .i64 ((decDigs b).2.2 : Nat)]) ∧
      w'.ownsRow w.heap.size 57 16 v' (decDigs b).1.length (Dg (decDigs b).1) ∧ Below w.heap.size w w' := by
  have hcall : ∀ W : World, Below w.heap.size w W → Calls Try.prog 40 #[.slice A b.length c, .int .i64 16] W fun e w' => e = .returned (.tuple #[.int .i64 ((decLen 16 b).1 : Nat), .int .i64 ((decLen 16 b).2.1 : Nat), .int .i64 ((decLen 16 b).2.2 : Nat)]) ∧ W = w' :=
    fun W hW => getLength_any A b c 16 W w.heap.size (hr.below hW) hc (by omega) (by omega) (by omega)
  have hdef : decDigs b = if (decLen 16 b).2.2 ≠ 0 then ([], 0, (decLen 16 b).2.2) else decGo decDig b (decLen 16 b).1 (decLen 16 b).2.1 [] := rfl
  rcases hd : decLen 16 b with ⟨n, u, er⟩
  rw [hd] at hdef
  simp only [hd] at hcall
  have HC := Lib.hid hcall
  clear hcall
  by_cases he : er = 0
  · subst he
    obtain ⟨b1, b2, b3, b4, b5⟩ := decLen_ok hd
    have hu := enc_le (n : Int)
    rw [← b3] at hu
    simp only [ne_eq, not_true_eq_false, if_false] at hdef
    rw [hdef]
    have hn : n ≤ b.length := Nat.le_trans b4 (Nat.le_trans (Nat.div_le_self _ _) (Nat.sub_le _ _))
    have hbd : u + 16 * n ≤ b.length := by have := (Nat.le_div_iff_mul_le (by omega)).1 b4; omega
    clear hd b2 b3 hdef b4
    obtain ⟨H, hH⟩ : ∃ H, H = w.heap.size := ⟨_, rfl⟩
    have HH := Lib.hid hH
    clear hH
    obtain ⟨L, hL⟩ : ∃ L, L = b.length := ⟨_, rfl⟩
    have HL := Lib.hid hL
    clear hL
    go_enter Try.func44, Try.ntmps44
    go_wp2_with (go_at_call 40; refine (HC.out _ (((Below.refl _ _).alloc (Nat.le_refl _) _).alloc (by simp) _)).mono ?_; rintro e w' ⟨rfl, rfl⟩)
    go_loopw [27] (fun s27 wr => ∃ (k at_ : Nat) (acc : List (List UInt8)) (v : Value), k ≤ n ∧ s27 = .int .i64 k ∧ acc.length = k ∧ at_ ≤ b.length ∧ at_ + 16 * (n - k) ≤ b.length ∧ decGo decDig b (n - k) at_ acc = decGo decDig b n u [] ∧
        Blk wr (w.heap.size + 1) 66 [.func (.func 45) #[] #[]] ∧ Blk wr w.heap.size 28 [.slice A b.length c] ∧ Blk wr (w.heap.size + 2) 3 [.int .i64 at_] ∧ Blk wr (w.heap.size + 3) 24 [v] ∧
        wr.ownsRow (w.heap.size + 4) 57 16 v k (Dg acc) ∧ Below w.heap.size w wr ∧ w.heap.size + 4 ≤ wr.heap.size)
      (fun s27 _ => n - (intOf s27).toNat)
    case atStart =>
      exact ⟨0, u, [], .slice none 0 0, Nat.zero_le _, rfl, rfl, b1, (by omega), rfl, ((Blk.at_ (by simp)).alloc _).alloc _, (((Blk.at_ rfl).alloc _).alloc _).alloc _, (Blk.at_ (by simp)).alloc _, Blk.at_ (by simp),
        World.ownsRow_nil _ _ _ _, (((((Below.refl _ _).alloc (Nat.le_refl _) _).alloc (by simp) _).alloc (by simp; omega) _).alloc (by simp; omega) _), by simp⟩
    case round =>
      obtain ⟨k, at_, acc, v, hk, rfl, hacc, hat, hinv, hgo, k0, k1, k2, k3, hown, hbel, hsz⟩ := hrel
      have Hgo := Lib.hid hgo
      have Hacc := Lib.hid hacc
      clear hgo hacc
      by_cases hlt : k < n
      · have hn1 := next_digw (w.heap.size + 1) w.heap.size (w.heap.size + 2) (w.heap.size + 3) (w.heap.size + 4) w.heap.size A b c at_ k v acc wr k0 k1 k2 k3 (hr.below hbel) hc (by omega) (by omega) hown (by omega) hsz (by omega) (by omega) (by omega) (by omega) (by omega) (by omega) (by omega) (by omega) (by omega) (by omega) (by omega) (by omega) (by omega)
        have hs : decGo decDig b (n - k) at_ acc = if (decDig (b.drop at_)).2.2 ≠ 0 then ([], 0, (decDig (b.drop at_)).2.2) else decGo decDig b (n - (k + 1)) (at_ + (decDig (b.drop at_)).2.1) (acc ++ [(decDig (b.drop at_)).1]) := by
          rw [show n - k = (n - (k + 1)) + 1 by omega]; rfl
        rw [Hgo.out] at hs
        have hle := decDig_le (b.drop at_) (by rw [List.length_drop]; omega)
        rcases hd2 : decDig (b.drop at_) with ⟨x, m, er⟩
        rw [hd2] at hs hle
        rw [hd2] at hn1
        have h16 := decDig_16 (b.drop at_) x m er (by rw [List.length_drop]; omega) hd2
        simp only [List.length_drop] at hn1 hs hle
        have HN := Lib.hid hn1
        clear hn1 hd2 k0 k1 k2 k3
        by_cases he : er = 0
        · subst he
          simp only [ne_eq, not_true_eq_false, if_false] at hs
          have HS := Lib.hid hs
          clear hs
          go_wp2_with (go_at_call 48; refine HN.out.mono ?_; rintro e w2 ⟨v2, rfl, j0, j1, j2, j3, ho2, hb2⟩)
          go_roundw
          case rel => exact ⟨k + 1, at_ + m, acc ++ [x], v2, hlt, by go_num, by rw [List.length_append, Hacc.out]; rfl, by omega, (by omega), HS.out.symm, j0, j1, j2, j3, ho2, hbel.trans hb2, Nat.le_trans hsz hb2.size⟩
          case measure => simp only [intOf]; omega
        · exact absurd h16.2 he
      · obtain rfl : k = n := by omega
        have c2 : wr.cell? ⟨w.heap.size + 2, 0, none⟩ = some (.int .i64 at_) := k2.cell 0
        have c3 : wr.cell? ⟨w.heap.size + 3, 0, none⟩ = some v := k3.cell 0
        have hs : decGo decDig b k u [] = (acc, at_, 0) := by rw [← Hgo.out, Nat.sub_self]; rfl
        have HS := Lib.hid hs
        clear hs
        go_wp2_with fail
        go_quiet (fail)
        go_wp2_with fail
        go_ret3
        rw [HS.out]
        exact ⟨v, rfl, by rw [Hacc.out]; exact own_mono hown (by omega), ⟨hbel.os, hbel.tape, hbel.output, hbel.size, hbel.block⟩⟩
  · have hb := errB er he
    rw [if_pos he] at hdef
    rw [hdef]
    clear hdef hd
    go_enter Try.func44, Try.ntmps44
    go_wp2_with (go_at_call 40; refine (HC.out _ (((Below.refl _ _).alloc (Nat.le_refl _) _).alloc (by simp) _)).mono ?_; rintro e w' ⟨rfl, rfl⟩)
    go_ret3
    exact ⟨_, rfl, World.ownsRow_nil _ _ _ _, ((((Below.refl _ _).alloc (Nat.le_refl _) _).alloc (by simp) _).alloc (by simp; omega) _)⟩
end Go.Proofs.Ytooanlmmplbnoaa
