/-
  Contracts and words of several parts of the program (W1ListD, W1Gets, W1Aux, W1Same), one after the other.
  Conditions: those that each says.
-/
import Derived.Test.YtofccgkgjcnfbaaDoorW1NextD
import Derived.Test.YtofccgkgjcnfbaaDoorGW1NextW1ListW1Dig
import Derived.BigQuiet
import Derived.Test.YtofccgkgjcnfbaaDoorRHash
set_option linter.unusedSimpArgs false
namespace Go.Proofs.YtofccgkgjcnfbaaDoor.W1
open Go.RowKit Wr Sh
set_option maxRecDepth 100000
set_option linter.unusedVariables false
theorem decDig_le (b : List UInt8) (h : 16 ≤ b.length) : (decDig b).2.1 ≤ b.length := by
 unfold decDig; rw [if_neg (by omega)]; exact h
theorem decDig_16 (b x : List UInt8) (m er : Nat) (h : 16 ≤ b.length) (hd : decDig b = (x, m, er)) : m = 16 ∧ er = 0 := by
 unfold decDig at hd; rw [if_neg (by omega)] at hd
 simp only [Prod.mk.injEq] at hd
 exact ⟨hd.2.1.symm, hd.2.2.symm⟩
theorem next_digw (g0 g1 g2 g3 base B0 : Nat) (A : Option Addr) (b : List UInt8) (c used k : Nat) (v : Value) (xs : List (List UInt8)) (w : World)
  (h0 : Blk w g0 138 [.func (.func 94) #[] #[]]) (h1 : Blk w g1 39 [.slice A b.length c]) (h2 : Blk w g2 3 [.int .i64 used]) (h3 : Blk w g3 48 [v])
  (hr : Rd w B0 A (B8 b)) (hc : b.length ≤ c) (hl : b.length ≤ 1099511627776) (hu : used + 16 ≤ b.length)
  (hown : w.ownsRow base 29 16 v k (Dg xs)) (hk : k ≤ 68719476736) (hbase : base ≤ w.heap.size) (hg0 : g0 < base) (hg1 : g1 < base) (hg2 : g2 < base) (hg3 : g3 < base) (h23 : g2 ≠ g3) (h02 : g0 ≠ g2) (h03 : g0 ≠ g3) (h12 : g1 ≠ g2) (h13 : g1 ≠ g3)
  (hB0 : B0 ≤ g0) (hB1 : B0 ≤ g1) (hB2 : B0 ≤ g2) (hB3 : B0 ≤ g3) :
  Calls Tryd.prog 109 #[.pointer (some ⟨g0, 0, none⟩), .pointer (some ⟨g1, 0, none⟩), .pointer (some ⟨g2, 0, none⟩), .pointer (some ⟨g3, 0, none⟩)] w fun e w' =>
   ∃ v', e = .returned (.int .i64 ((decDig (b.drop used)).2.2 : Nat)) ∧ Blk w' g0 138 [.func (.func 94) #[] #[]] ∧ Blk w' g1 39 [.slice A b.length c] ∧ Blk w' g2 3 [.int .i64 ((used + (decDig (b.drop used)).2.1 : Nat) : Int)] ∧ Blk w' g3 48 [v'] ∧
    w'.ownsRow base 29 16 v' (k + 1) (Dg (xs ++ [(decDig (b.drop used)).1])) ∧ Below B0 w w' := by
 have hd : decDig (b.drop used) = ((b.drop used).take 16, 16, 0) := by
  unfold decDig; rw [if_neg (by rw [List.length_drop]; omega)]
 rw [hd]
 exact next_dig g0 g1 g2 g3 base B0 A b c used k v xs w h0 h1 h2 h3 hr hc hl hu hown hk hbase hg0 hg1 hg2 hg3 h23 h02 h03 h12 h13 hB0 hB1 hB2 hB3
set_option maxRecDepth 100000 in
set_option maxHeartbeats 1000000 in
theorem getList_dig (A : Option Addr) (b : List UInt8) (c : Nat) (w : World) (hr : Rd w w.heap.size A (B8 b)) (hc : b.length ≤ c) (hl : b.length ≤ 1073741824) :
  Calls Tryd.prog 93 #[.slice A b.length c, .int .i64 16, .func (.func 94) #[] #[]] w fun e w' => ∃ v', e = .returned (.tuple #[v', .int .i64 ((decDigs b).2.1 : Nat), .int .i64 ((decDigs b).2.2 : Nat)]) ∧
   w'.ownsRow w.heap.size 29 16 v' (decDigs b).1.length (Dg (decDigs b).1) ∧ Below w.heap.size w w' := by
 have hcall : ∀ W : World, Below w.heap.size w W → Calls Tryd.prog 106 #[.slice A b.length c, .int .i64 16] W fun e w' => e = .returned (.tuple #[.int .i64 ((decLen 16 b).1 : Nat), .int .i64 ((decLen 16 b).2.1 : Nat), .int .i64 ((decLen 16 b).2.2 : Nat)]) ∧ W = w' :=
  fun W hW => getLength_any A b c 16 W w.heap.size (hr.below hW) hc (by omega) (by omega) (by omega)
 have hdef : decDigs b = if (decLen 16 b).2.2 ≠ 0 then ([], 0, (decLen 16 b).2.2) else decGo decDig b (decLen 16 b).1 (decLen 16 b).2.1 [] := rfl
 rcases hd : decLen 16 b with ⟨n, u, er⟩
 rw [hd] at hdef
 simp only [hd] at hcall
 have HC := Lib.hid hcall
 clear hcall
 by_cases he : er = 0
 ·
  subst he
  obtain ⟨b1, b2, b3, b4, b5⟩ := decLen_ok hd
  have hu := enc_le (n : Int)
  rw [← b3] at hu
  simp only [ne_eq, not_true_eq_false, if_false] at hdef
  rw [hdef]
  have hn : n ≤ b.length := Nat.le_trans b4 (Nat.le_trans (Nat.div_le_self _ _) (Nat.sub_le _ _))
  have hbd : u + 16 * n ≤ b.length := by have := (Nat.le_div_iff_mul_le (by omega)).1 b4; omega
  clear hd b2 b3 hdef b4
  obtain ⟨H, hH⟩ : ∃ H, H = w.heap.size := ⟨_, rfl⟩
  have HH := Lib.hid hH
  clear hH
  obtain ⟨L, hL⟩ : ∃ L, L = b.length := ⟨_, rfl⟩
  have HL := Lib.hid hL
  clear hL
  go_enter Tryd.func93, Tryd.ntmps93
  go_wp2_with (go_at_call 106; refine (HC.out _ (((Below.refl _ _).alloc (Nat.le_refl _) _).alloc (by simp) _)).mono ?_; rintro e w' ⟨rfl, rfl⟩)
  go_loopw [27] (fun s27 wr => ∃ (k at_ : Nat) (acc : List (List UInt8)) (v : Value), k ≤ n ∧ s27 = .int .i64 k ∧ acc.length = k ∧ at_ ≤ b.length ∧ at_ + 16 * (n - k) ≤ b.length ∧ decGo decDig b (n - k) at_ acc = decGo decDig b n u [] ∧
    Blk wr (w.heap.size + 1) 138 [.func (.func 94) #[] #[]] ∧ Blk wr w.heap.size 39 [.slice A b.length c] ∧ Blk wr (w.heap.size + 2) 3 [.int .i64 at_] ∧ Blk wr (w.heap.size + 3) 48 [v] ∧
    wr.ownsRow (w.heap.size + 4) 29 16 v k (Dg acc) ∧ Below w.heap.size w wr ∧ w.heap.size + 4 ≤ wr.heap.size)
   (fun s27 _ => n - (intOf s27).toNat)
  case atStart =>
   exact ⟨0, u, [], .slice none 0 0, Nat.zero_le _, rfl, rfl, b1, (by omega), rfl, ((Blk.at_ (by simp)).alloc _).alloc _, (((Blk.at_ rfl).alloc _).alloc _).alloc _, (Blk.at_ (by simp)).alloc _, Blk.at_ (by simp),
    World.ownsRow_nil _ _ _ _, (((((Below.refl _ _).alloc (Nat.le_refl _) _).alloc (by simp) _).alloc (by simp; omega) _).alloc (by simp; omega) _), by simp⟩
  case round =>
   obtain ⟨k, at_, acc, v, hk, rfl, hacc, hat, hinv, hgo, k0, k1, k2, k3, hown, hbel, hsz⟩ := hrel
   have Hgo := Lib.hid hgo
   have Hacc := Lib.hid hacc
   clear hgo hacc
   by_cases hlt : k < n
   ·
    have hn1 := next_digw (w.heap.size + 1) w.heap.size (w.heap.size + 2) (w.heap.size + 3) (w.heap.size + 4) w.heap.size A b c at_ k v acc wr k0 k1 k2 k3 (hr.below hbel) hc (by omega) (by omega) hown (by omega) hsz (by omega) (by omega) (by omega) (by omega) (by omega) (by omega) (by omega) (by omega) (by omega) (by omega) (by omega) (by omega) (by omega)
    have hs : decGo decDig b (n - k) at_ acc = if (decDig (b.drop at_)).2.2 ≠ 0 then ([], 0, (decDig (b.drop at_)).2.2) else decGo decDig b (n - (k + 1)) (at_ + (decDig (b.drop at_)).2.1) (acc ++ [(decDig (b.drop at_)).1]) := by
     rw [show n - k = (n - (k + 1)) + 1 by omega]; rfl
    rw [Hgo.out] at hs
    have hle := decDig_le (b.drop at_) (by rw [List.length_drop]; omega)
    rcases hd2 : decDig (b.drop at_) with ⟨x, m, er⟩
    rw [hd2] at hs hle
    rw [hd2] at hn1
    have h16 := decDig_16 (b.drop at_) x m er (by rw [List.length_drop]; omega) hd2
    simp only [List.length_drop] at hn1 hs hle
    have HN := Lib.hid hn1
    clear hn1 hd2 k0 k1 k2 k3
    by_cases he : er = 0
    ·
     subst he
     simp only [ne_eq, not_true_eq_false, if_false] at hs
     have HS := Lib.hid hs
     clear hs
     go_wp2_with (go_at_call 109; refine HN.out.mono ?_; rintro e w2 ⟨v2, rfl, j0, j1, j2, j3, ho2, hb2⟩)
     go_roundw
     case rel => exact ⟨k + 1, at_ + m, acc ++ [x], v2, hlt, by go_num, by rw [List.length_append, Hacc.out]; rfl, by omega, (by omega), HS.out.symm, j0, j1, j2, j3, ho2, hbel.trans hb2, Nat.le_trans hsz hb2.size⟩
     case measure => simp only [intOf]; omega
    ·
     exact absurd h16.2 he
   ·
    obtain rfl : k = n := by omega
    have c2 : wr.cell? ⟨w.heap.size + 2, 0, none⟩ = some (.int .i64 at_) := k2.cell 0
    have c3 : wr.cell? ⟨w.heap.size + 3, 0, none⟩ = some v := k3.cell 0
    have hs : decGo decDig b k u [] = (acc, at_, 0) := by rw [← Hgo.out, Nat.sub_self]; rfl
    have HS := Lib.hid hs
    clear hs
    go_wp2_with fail
    go_quiet (fail)
    go_wp2_with fail
    go_ret3
    rw [HS.out]
    exact ⟨v, rfl, by rw [Hacc.out]; exact own_mono hown (by omega), ⟨hbel.os, hbel.tape, hbel.output, hbel.size, hbel.block⟩⟩
 ·
  have hb := errB er he
  rw [if_pos he] at hdef
  rw [hdef]
  clear hdef hd
  go_enter Tryd.func93, Tryd.ntmps93
  go_wp2_with (go_at_call 106; refine (HC.out _ (((Below.refl _ _).alloc (Nat.le_refl _) _).alloc (by simp) _)).mono ?_; rintro e w' ⟨rfl, rfl⟩)
  go_ret3
  exact ⟨_, rfl, World.ownsRow_nil _ _ _ _, ((((Below.refl _ _).alloc (Nat.le_refl _) _).alloc (by simp) _).alloc (by simp; omega) _)⟩
end Go.Proofs.YtofccgkgjcnfbaaDoor.W1
namespace Go.Proofs.YtofccgkgjcnfbaaDoor.W1
open Go.RowKit Wr Sh
set_option maxRecDepth 100000
set_option linter.unusedVariables false
set_option maxRecDepth 100000 in
set_option maxHeartbeats 400000 in
theorem getInts_any (A : Option Addr) (b : List UInt8) (c : Nat) (w : World) (hr : Rd w w.heap.size A (B8 b)) (hc : b.length ≤ c) (hl : b.length ≤ 1073741824) :
  Calls Tryd.prog 66 #[.slice A b.length c] w fun e w' => ∃ v', e = .returned (.tuple #[v', .int .i64 ((decInts b).2.1 : Nat), .int .i64 ((decInts b).2.2 : Nat)]) ∧
   w'.ownsRow w.heap.size 3 1 v' (decInts b).1.length (I64 (decInts b).1) ∧ Below w.heap.size w w' := by
 go_enter Tryd.func66, Tryd.ntmps66
 go_wp2_with (go_at_call 89; refine (getList_int A b c _ hr hc hl).mono ?_; rintro e w' ⟨v', rfl, ho, hb⟩)
 go_ret3
 exact ⟨v', rfl, ho, hb⟩
set_option maxRecDepth 100000 in
set_option maxHeartbeats 400000 in
theorem getStrings_any (A : Option Addr) (b : List UInt8) (c : Nat) (w : World) (hr : Rd w w.heap.size A (B8 b)) (hc : b.length ≤ c) (hl : b.length ≤ 1073741824) :
  Calls Tryd.prog 67 #[.slice A b.length c] w fun e w' => ∃ v', e = .returned (.tuple #[v', .int .i64 ((decStrs b).2.1 : Nat), .int .i64 ((decStrs b).2.2 : Nat)]) ∧
   w'.ownsRow w.heap.size 9 1 v' (decStrs b).1.length (Sb (decStrs b).1) ∧ Below w.heap.size w w' := by
 go_enter Tryd.func67, Tryd.ntmps67
 go_wp2_with (go_at_call 91; refine (getList_str A b c _ hr hc hl).mono ?_; rintro e w' ⟨v', rfl, ho, hb⟩)
 go_ret3
 exact ⟨v', rfl, ho, hb⟩
set_option maxRecDepth 100000 in
set_option maxHeartbeats 400000 in
theorem getDigests_any (A : Option Addr) (b : List UInt8) (c : Nat) (w : World) (hr : Rd w w.heap.size A (B8 b)) (hc : b.length ≤ c) (hl : b.length ≤ 1073741824) :
  Calls Tryd.prog 68 #[.slice A b.length c] w fun e w' => ∃ v', e = .returned (.tuple #[v', .int .i64 ((decDigs b).2.1 : Nat), .int .i64 ((decDigs b).2.2 : Nat)]) ∧
   w'.ownsRow w.heap.size 29 16 v' (decDigs b).1.length (Dg (decDigs b).1) ∧ Below w.heap.size w w' := by
 go_enter Tryd.func68, Tryd.ntmps68
 go_wp2_with (go_at_call 93; refine (getList_dig A b c _ hr hc hl).mono ?_; rintro e w' ⟨v', rfl, ho, hb⟩)
 go_ret3
 exact ⟨v', rfl, ho, hb⟩
end Go.Proofs.YtofccgkgjcnfbaaDoor.W1
namespace Go.Proofs.YtofccgkgjcnfbaaDoor.W1
open Go.RowKit Wr Sh
set_option maxRecDepth 100000
set_option linter.unusedVariables false
theorem encStr_le (s : List UInt8) : (encStr s).length ≤ 9 + s.length := by
 unfold encStr; have := enc_le (s.length : Int); rw [List.length_append]; omega
theorem slice_from (A : Option Addr) (L c k : Nat) (hk : k ≤ L) (W : World) : (Instr.sliceAt 39 (.slice A L c) (some (.int .i64 (k : Int))) none none).run Tryd.prog W = .ok (.slice (if c = k then A else A.map (·.add k)) (L - k) (c - k)) W := by
 have hu : Tryd.prog.underlying 39 = some (.slice (Tryd.prog.elem 39)) := by kernel_rfl
 have he : Tryd.prog.elem 39 = 5 := by kernel_rfl
 have h5 : (sizeOf 5).run Tryd.prog W = .ok 1 W := by kernel_rfl
 rw [run_sliceAt_slice W 39 _ _ _ _ hu, run_slice_l W 39 A L c hu .i64 k (by omega) (by omega), he, h5]
 simp [Result.andThen, sliced]
end Go.Proofs.YtofccgkgjcnfbaaDoor.W1
namespace Go.Proofs.YtofccgkgjcnfbaaDoor.W1
open Go.RowKit Wr Sh
set_option maxRecDepth 100000
set_option linter.unusedVariables false
theorem toNat_ne {a b : UInt8} (h : a ≠ b) : ((a.toNat : Int) != (b.toNat : Int)) = true := by
 rw [bne_iff_ne]; intro e; exact h (UInt8.toNat.inj (by omega))
theorem Rd.drewN {w : World} {B : Nat} {A : Option Addr} {xs : List Value} (h : Rd w B A xs) (q : Nat) : Rd (w.drewN q) B A xs := h
set_option maxRecDepth 100000 in
set_option maxHeartbeats 1000000 in
theorem same_any (A A2 : Option Addr) (a b : List UInt8) (c c2 : Nat) (w : World) (B : Nat) (hr : Rd w B A (B8 a)) (hr2 : Rd w B A2 (B8 b)) (hl : a.length ≤ 1099511627776) (hl2 : b.length ≤ 1099511627776) :
  Calls Tryd.prog 36 #[.slice A a.length c, .slice A2 b.length c2] w fun e w' => e = .returned (.bool (decide (a = b))) ∧ ∃ q, w' = w.drewN q := by
 by_cases hab : a.length = b.length
 ·
  obtain ⟨N, hN⟩ : ∃ N, N = b.length := ⟨_, rfl⟩
  rw [← hN] at hab ⊢
  rw [hab] at hl ⊢
  have HN := Lib.hid hN
  have HA := Lib.hid hab
  have hb0 : ((N : Int) != (N : Int)) = false := by simp
  clear hN hab hl2
  go_enter Tryd.func36, Tryd.ntmps36
  go_wp2_with fail
  go_loopw [5] (fun s5 wr => ∃ k q : Nat, k ≤ N ∧ s5 = .int .i64 k ∧ a.take k = b.take k ∧ w.drewN q = wr) (fun s5 _ => N - (intOf s5).toNat)
  case atStart => exact ⟨0, 0, Nat.zero_le _, rfl, by simp, rfl⟩
  case round =>
   obtain ⟨k, q, hk, rfl, ht, rfl⟩ := hrel
   have HT := Lib.hid ht
   clear ht
   by_cases hlt : k < N
   ·
    have hka : k < a.length := by have := HA.out; omega
    have hkb : k < b.length := by have := HN.out; omega
    obtain ⟨g, o, rfl, hg, hcell⟩ := hr (by intro e; have := congrArg List.length e; simp only [B8, List.length_map, List.length_nil] at this; omega)
    obtain ⟨g2, o2, rfl, hg2, hcell2⟩ := hr2 (by intro e; have := congrArg List.length e; simp only [B8, List.length_map, List.length_nil] at this; omega)
    have hc1 : w.cell? ⟨g, o + k, none⟩ = some (.int .u8 (a[k].toNat : Int)) := hcell k _ (B8_get a k hka)
    have hc2 : w.cell? ⟨g2, o2 + k, none⟩ = some (.int .u8 (b[k].toNat : Int)) := hcell2 k _ (B8_get b k hkb)
    have i0 : (0 : Int) ≤ (k : Int) := Int.natCast_nonneg _
    have i1 : (k : Int) < (N : Int) := by omega
    clear hcell hcell2 hr hr2
    by_cases he : a[k] = b[k]
    ·
     have hne : ((a[k].toNat : Int) != (b[k].toNat : Int)) = false := by rw [he]; simp
     have HE := Lib.hid he
     clear he
     go_wp2_with fail
     go_quiet (fail)
     go_wp2_with fail
     go_roundw
     case rel => exact ⟨k + 1, _, hlt, by go_num, by rw [List.take_succ_eq_append_getElem hka, List.take_succ_eq_append_getElem hkb, HT.out, HE.out], rfl⟩
     case measure => simp only [intOf]; omega
    ·
     have hne := toNat_ne he
     have hd : decide (a = b) = false := by
      apply decide_eq_false
      intro e
      apply he
      subst e; rfl
     have HD := Lib.hid hd
     clear hd he
     go_wp2_with fail
     go_quiet (fail)
     go_wp2_with fail
     go_ret
     exact ⟨by rw [HD.out]; rfl, q + nq, World.drewN_drewN _ _ _⟩
   ·
    obtain rfl : k = N := by omega
    have hd : decide (a = b) = true := by
     apply decide_eq_true
     have := HT.out
     rwa [List.take_of_length_le (by rw [HA.out]; omega), List.take_of_length_le (by rw [← HN.out]; omega)] at this
    have HD := Lib.hid hd
    clear hd
    go_wp2_with fail
    go_ret
    exact ⟨by rw [HD.out]; rfl, q, rfl⟩
 ·
  have hb0 : ((a.length : Int) != (b.length : Int)) = true := by rw [bne_iff_ne]; omega
  have hd : decide (a = b) = false := by
   apply decide_eq_false
   intro e
   apply hab
   rw [e]
  rw [hd]
  clear hd hab
  go_enter Tryd.func36, Tryd.ntmps36
  go_wp2_with fail
  go_ret
  exact ⟨rfl, 0, rfl⟩
end Go.Proofs.YtofccgkgjcnfbaaDoor.W1
