/-
  The contracts of the reference's Same and GetInt (layer 1), and of its Verify.
  Conditions: lengths of slices and strings; the reference's table of the round constants is as the text lays it.
-/
import Derived.Test.YtgonidjajmjniaaDoorRefX
import Derived.Deep.DeepCutAuto
import Derived.BigQuiet
import Derived.Test.YtgonidjajmjniaaDoorRDigs
namespace Go.Proofs.YtgonidjajmjniaaDoor
open Go.RowKit Wr
set_option linter.unusedVariables false
set_option maxRecDepth 100000

theorem flip_toNat (c : UInt8) : (c ^^^ 255).toNat = 255 - c.toNat := byte_all (fun c => (c ^^^ 255).toNat = 255 - c.toNat) (by decide +kernel) c

theorem toNat_ne {a b : UInt8} (h : a ≠ b) : ((a.toNat : Int) != (b.toNat : Int)) = true := by
  rw [bne_iff_ne]; intro e; exact h (UInt8.toNat.inj (by omega))
theorem Rd.drewN {w : World} {B : Nat} {A : Option Addr} {xs : List Value} (h : Rd w B A xs) (q : Nat) : Rd (w.drewN q) B A xs := h

set_option maxRecDepth 100000 in
set_option maxHeartbeats 1000000 in
theorem same_any (A A2 : Option Addr) (a b : List UInt8) (c c2 : Nat) (w : World) (B : Nat) (hr : Rd w B A (B8 a)) (hr2 : Rd w B A2 (B8 b)) (hl : a.length ≤ 1099511627776) (hl2 : b.length ≤ 1099511627776) :
    Calls Tryd.prog 59 #[.slice A a.length c, .slice A2 b.length c2] w fun e w' => e = .returned (.bool (decide (a = b))) ∧ ∃ q, w' = w.drewN q := by
  by_cases hab : a.length = b.length
  · obtain ⟨N, hN⟩ : ∃ N, N = b.length := ⟨_, rfl⟩
    rw [← hN] at hab ⊢
    rw [hab] at hl ⊢
    have HN := Lib.hid hN
    have HA := Lib.hid hab
    have hb0 : ((N : Int) != (N : Int)) = false := by simp
    clear hN hab hl2
    go_enter Tryd.func59, Tryd.ntmps59
    go_wp2_with fail
    go_loopw [5] (fun s5 wr => ∃ k q : Nat, k ≤ N ∧ s5 = .int .i64 k ∧ a.take k = b.take k ∧ w.drewN q = wr) (fun s5 _ => N - (intOf s5).toNat)
    case atStart => exact ⟨0, 0, Nat.zero_le _, rfl, by simp, rfl⟩
    case round =>
      obtain ⟨k, q, hk, rfl, ht, rfl⟩ := hrel
      have HT := Lib.hid ht
      clear ht
      by_cases hlt : k < N
      · have hka : k < a.length := by have := HA.out; omega
        have hkb : k < b.length := by have := HN.out; omega
        obtain ⟨g, o, rfl, hg, hcell⟩ := hr (by intro e; have := congrArg List.length e; simp only [B8, List.length_map, List.length_nil] at this; omega)
        obtain ⟨g2, o2, rfl, hg2, hcell2⟩ := hr2 (by intro e; have := congrArg List.length e; simp only [B8, List.length_map, List.length_nil] at this; omega)
        have hc1 : w.cell? ⟨g, o + k, none⟩ = some (.int .u8 (a[k].toNat : Int)) := hcell k _ (B8_get a k hka)
        have hc2 : w.cell? ⟨g2, o2 + k, none⟩ = some (.int .u8 (b[k].toNat : Int)) := hcell2 k _ (B8_get b k hkb)
        have i0 : (0 : Int) ≤ (k : Int) := Int.natCast_nonneg _
        have i1 : (k : Int) < (N : Int) := by omega
        clear hcell hcell2 hr hr2
        by_cases he : a[k] = b[k]
        · have hne : ((a[k].toNat : Int) != (b[k].toNat : Int)) = false := by rw [he]; simp
          have HE := Lib.hid he
          clear he
          go_wp2_with fail
          go_quiet (fail)
          go_wp2_with fail
          go_roundw
          case rel => exact ⟨k + 1, _, hlt, by go_num, by rw [List.take_succ_eq_append_getElem hka, List.take_succ_eq_append_getElem hkb, HT.out, HE.out], rfl⟩
          case measure => simp only [intOf]; omega
        · have hne := toNat_ne he
          have hd : decide (a = b) = false := by
            apply decide_eq_false
            intro e
            apply he
            subst e; rfl
          have HD := Lib.hid hd
          clear hd he
          go_wp2_with fail
          go_quiet (fail)
          go_wp2_with fail
          go_ret
          exact ⟨by rw [HD.out]; rfl, q + nq, World.drewN_drewN _ _ _⟩
      · obtain rfl : k = N := by omega
        have hd : decide (a = b) = true := by
          apply decide_eq_true
          have := HT.out
          rwa [List.take_of_length_le (by rw [HA.out]; omega), List.take_of_length_le (by rw [← HN.out]; omega)] at this
        have HD := Lib.hid hd
        clear hd
        go_wp2_with fail
        go_ret
        exact ⟨by rw [HD.out]; rfl, q, rfl⟩
  · have hb0 : ((a.length : Int) != (b.length : Int)) = true := by rw [bne_iff_ne]; omega
    have hd : decide (a = b) = false := by
      apply decide_eq_false
      intro e
      apply hab
      rw [e]
    rw [hd]
    clear hd hab
    go_enter Tryd.func59, Tryd.ntmps59
    go_wp2_with fail
    go_ret
    exact ⟨rfl, 0, rfl⟩
theorem cnt_pos (h : UInt8) (hh : 128 ≤ h.toNat) : cnt h = h.toNat - 128 ∧ flag h = 0 := by
  rcases flag_cases h with ⟨h1, h2⟩ | ⟨h1, h2⟩
  · refine ⟨?_, h1⟩
    unfold cnt; rw [h1]; simp
  · omega
theorem cnt_neg (h : UInt8) (hh : h.toNat < 128) : cnt h = 127 - h.toNat ∧ flag h = 255 := by
  rcases flag_cases h with ⟨h1, h2⟩ | ⟨h1, h2⟩
  · omega
  · refine ⟨?_, h1⟩
    unfold cnt; rw [h1]
    have := flip_toNat h
    omega
theorem val_tk (l : List UInt8) (j : Nat) (h : j < l.length) : val (l.take (j + 1)) = val (l.take j) * 256 + l[j].toNat := by
  rw [List.take_succ_eq_append_getElem h, val_snoc]
theorem val_mono (l : List UInt8) : ∀ (e j : Nat), j + e ≤ l.length → val (l.take j) * 256 ^ e ≤ val (l.take (j + e)) := by
  intro e
  induction e with
  | zero => intro j _; simp
  | succ e ih =>
    intro j h
    have h1 := ih j (by omega)
    rw [← Nat.add_assoc, val_tk l (j + e) (by omega), Nat.pow_succ, ← Nat.mul_assoc]
    exact Nat.le_trans (Nat.mul_le_mul_right 256 h1) (Nat.le_add_right _ _)
/-- The digits, and whether they come to an integer. -/
theorem ref_ok (h : UInt8) (t : List UInt8) (n : Int) (h8 : cnt h ≤ 8) (hs : cnt h ≤ t.length) (hm : val ((t.take (cnt h)).map (· ^^^ flag h)) ≤ 9223372036854775807)
    (hn : n = if flag h = 0 then (val ((t.take (cnt h)).map (· ^^^ flag h)) : Int) else -1 - (val ((t.take (cnt h)).map (· ^^^ flag h)) : Int)) :
    decInt (h :: t) = if enc n = (h :: t).take (cnt h + 1) then (n, cnt h + 1, 0) else (0, 0, 2) := by
  have hb : -9223372036854775808 ≤ n ∧ n ≤ 9223372036854775807 := by rw [hn]; split <;> omega
  have hd := decInt_cons h t
  rw [if_neg (by omega), if_neg (by omega)] at hd
  by_cases hz : 0 < cnt h ∧ t.head? = some (flag h)
  · rw [if_pos (.inl hz)] at hd
    rw [if_neg]
    · exact hd
    · intro he
      have h1 := decInt_enc n ((h :: t).drop (cnt h + 1)) hb.1 hb.2
      rw [he, List.take_append_drop, hd] at h1
      simp at h1
  · rw [if_neg (by
      rintro (h1 | h1)
      · exact hz h1
      · rw [maxI_lt] at h1; omega), ← hn] at hd
    have hk := decInt_back (h :: t) n (1 + cnt h) hd
    rw [if_pos (by rw [Nat.add_comm (cnt h) 1]; exact hk.2.1.symm), hd, Nat.add_comm]
theorem ref_big (h : UInt8) (t : List UInt8) (j : Nat) (h8 : cnt h ≤ 8) (hs : cnt h ≤ t.length) (hj : j < cnt h) (hb : 36028797018963967 < val ((t.map (· ^^^ flag h)).take j)) :
    decInt (h :: t) = (0, 0, 2) := by
  rw [decInt_cons, if_neg (by omega), if_neg (by omega), if_pos]
  right
  rw [maxI_lt, List.map_take]
  have h1 := val_mono (t.map (· ^^^ flag h)) (cnt h - j) j (by rw [List.length_map]; omega)
  rw [show j + (cnt h - j) = cnt h by omega] at h1
  have h2 : 256 ^ 1 ≤ 256 ^ (cnt h - j) := Nat.pow_le_pow_right (by decide) (by omega)
  have h3 := Nat.mul_le_mul_left (val ((t.map (· ^^^ flag h)).take j)) h2
  rw [Nat.pow_one] at h3
  have h4 := Nat.le_trans h3 h1
  generalize val ((t.map (· ^^^ flag h)).take (cnt h)) = X at h4 ⊢
  generalize val ((t.map (· ^^^ flag h)).take j) = Y at h4 hb
  omega
/-- A cut of a slice of bytes from its beginning. -/
theorem slice_to (A : Option Addr) (g o n c k : Nat) (hA : A = some ⟨g, o, none⟩) (hk : k ≤ c) (W : World) : (Instr.sliceAt 54 (.slice A n c) none (some (.int .i64 (k : Int))) none).run Tryd.prog W = .ok (.slice A k c) W := by
  subst hA
  have hu : Tryd.prog.underlying 54 = some (.slice (Tryd.prog.elem 54)) := by kernel_rfl
  have he : Tryd.prog.elem 54 = 5 := by kernel_rfl
  have h5 : (sizeOf 5).run Tryd.prog W = .ok 1 W := by kernel_rfl
  rw [run_sliceAt_slice W 54 _ _ _ _ hu, run_slice_h W 54 (some ⟨g, o, none⟩) n c hu .i64 k (by omega) (by omega), he, h5]
  simp only [Result.andThen, sliced, Int.toNat_natCast, Nat.sub_zero]
  by_cases h0 : c = 0
  · simp [h0]
  · simp [h0, Addr.add_lit]

set_option maxRecDepth 100000 in
set_option maxHeartbeats 4000000 in
theorem rgetInt_any (A : Option Addr) (b : List UInt8) (c : Nat) (w : World) (hr : Rd w w.heap.size A (B8 b)) (hc : b.length ≤ c) (hl : b.length ≤ 1099511627776) :
    Calls Tryd.prog 41 #[.slice A b.length c] w fun e w' => e = .returned (.tuple #[.int .i64 (decInt b).1, .int .i64 ((decInt b).2.1 : Nat), .int .i64 ((decInt b).2.2 : Nat)]) ∧ Below w.heap.size w w' := by
  cases b with
  | nil =>
    go_enter Tryd.func41, Tryd.ntmps41
    go_wp2
    go_ret3
    exact ⟨rfl, Below.refl _ _⟩
  | cons h t =>
    obtain ⟨g, o, rfl, hg, hcell⟩ := hr (by simp [B8])
    have hc0 : w.cell? ⟨g, o, none⟩ = some (.int .u8 (h.toNat : Int)) := hcell 0 _ (by simp [B8])
    have HR := Lib.hid hr
    have HC := Lib.hid hcell
    obtain ⟨D, hD⟩ : ∃ D, D = decInt (h :: t) := ⟨_, rfl⟩
    rw [← hD]
    obtain ⟨N, hN⟩ : ∃ N, N = t.length := ⟨_, rfl⟩
    have HLEN := Lib.hid (show (h :: t).length = N + 1 by rw [List.length_cons, hN])
    rw [List.length_cons, ← hN] at hc hl ⊢
    have HN := Lib.hid hN
    obtain ⟨K, hK⟩ : ∃ K, K = cnt h := ⟨_, rfl⟩
    have hh := h.toNat_lt
    have hsg : (128 ≤ h.toNat ∧ K = h.toNat - 128) ∨ (h.toNat < 128 ∧ K = 127 - h.toNat) := by
      rcases Nat.lt_or_ge h.toNat 128 with h1 | h1
      · exact .inr ⟨h1, by rw [hK]; exact (cnt_neg h h1).1⟩
      · exact .inl ⟨h1, by rw [hK]; exact (cnt_pos h h1).1⟩
    have hw : IntKind.i64.wrap (h.toNat : Int) = (h.toNat : Int) := IntWalk.i64_in _ (by omega)
    by_cases h8 : 8 < K
    · have e : D = (0, 0, 2) := by rw [hD, decInt_cons, if_pos (by rw [← hK]; exact h8)]
      subst e
      have hq : ((h.toNat : Int) < 119) ∨ (¬ (h.toNat : Int) < 119 ∧ (136 : Int) < (h.toNat : Int)) := by omega
      clear hsg hD hN hK h8 hcell hr
      rcases hq with hq | ⟨hq, hq2⟩
      · go_enter Tryd.func41, Tryd.ntmps41
        go_wp2
        go_ret3
        exact ⟨rfl, Below.refl _ _⟩
      · go_enter Tryd.func41, Tryd.ntmps41
        go_wp2
        go_ret3
        exact ⟨rfl, Below.refl _ _⟩
    have q1 : ¬ (h.toNat : Int) < 119 := by omega
    have q2 : ¬ (136 : Int) < (h.toNat : Int) := by omega
    have hw1 : IntKind.i64.wrap ((h.toNat : Int) - 128) = (h.toNat : Int) - 128 := IntWalk.i64_in _ (by omega)
    have hw2 : IntKind.i64.wrap (127 - (h.toNat : Int)) = 127 - (h.toNat : Int) := IntWalk.i64_in _ (by omega)
    have HK := Lib.hid hK
    have HD := Lib.hid hD
    have HSG := Lib.hid hsg
    have H8 := Lib.hid h8
    clear hsg hD hN hK h8 hcell hr
    go_enter Tryd.func41, Tryd.ntmps41
    go_upto_if 27 with (fail)
    go_cut [6] (fun s6 wx => s6 = .int .i64 (K : Int) ∧ w = wx)
    case first =>
      rcases HSG.out with ⟨g1, g2⟩ | ⟨g1, g2⟩
      · have g3 : ¬ (h.toNat : Int) < 128 := by omega
        have G2 := Lib.hid g2
        clear g2
        go_wp2
        go_meet
        exact ⟨by have := G2.out; congr 1; omega, rfl⟩
      · have g3 : (h.toNat : Int) < 128 := by omega
        have G2 := Lib.hid g2
        clear g2
        go_wp2
        go_meet
        exact ⟨by have := G2.out; congr 1; omega, rfl⟩
    case rest =>
      obtain ⟨rfl, rfl⟩ := hcut
      have hw3 : IntKind.i64.wrap ((K : Int) + 1) = (K : Int) + 1 := IntWalk.i64_in _ (by have := H8.out; omega)
      by_cases hshort : N < K
      · have e : D = (0, 0, 3) := by
          have := HK.out; have := H8.out; have := HN.out
          rw [HD.out, decInt_cons, if_neg (by omega), if_pos (by omega)]
        subst e
        have g3 : (N : Int) + 1 < (K : Int) + 1 := by omega
        clear hshort
        go_wp2
        go_ret3
        exact ⟨rfl, Below.refl _ _⟩
      · have g3 : ¬ (N : Int) + 1 < (K : Int) + 1 := by omega
        go_wp2_with fail
        go_loopw [7, 8] (fun s7 s8 wr => ∃ (i m : Nat), 1 ≤ i ∧ i ≤ K + 1 ∧ s7 = .int .i64 (m : Int) ∧ s8 = .int .i64 (i : Int) ∧ Hid (m ≤ 9223372036854775807) ∧ Hid (m = val ((t.map (· ^^^ flag h)).take (i - 1))) ∧ w = wr) (fun _ s8 _ => K + 1 - (intOf s8).toNat)
        case atStart => exact ⟨1, 0, Nat.le_refl _, by omega, rfl, rfl, Lib.hid (by decide), Lib.hid rfl, rfl⟩
        case round =>
          obtain ⟨i, m, hi1, hi2, rfl, rfl, HB, HM, rfl⟩ := hrel
          by_cases hlt : i ≤ K
          · have hlt' : (i : Int) ≤ (K : Int) := by omega
            have hiN : (i : Int) < (N : Int) + 1 := by omega
            have hit : i - 1 < t.length := by have := HN.out; omega
            obtain ⟨x, hx⟩ : ∃ x, x = t[i - 1] := ⟨_, rfl⟩
            have hci : w.cell? ⟨g, o + i, none⟩ = some (.int .u8 (x.toNat : Int)) := by
              refine HC.out i _ ?_
              have hi0 : i = (i - 1) + 1 := by omega
              rw [hi0]
              simp only [B8, List.map_cons, List.getElem?_cons_succ, List.getElem?_map, List.getElem?_eq_getElem hit, Option.map_some, hx]
            have hwx : IntKind.i64.wrap (x.toNat : Int) = (x.toNat : Int) := IntWalk.i64_in _ (by have := x.toNat_lt; omega)
            obtain ⟨y, hy⟩ : ∃ y, y = x ^^^ flag h := ⟨_, rfl⟩
            have HM2 := Lib.hid (show 256 * m + y.toNat = val ((t.map (· ^^^ flag h)).take (i + 1 - 1)) by
              rw [show i + 1 - 1 = (i - 1) + 1 by omega, val_tk _ (i - 1) (by rw [List.length_map]; exact hit), ← HM.out, List.getElem_map, ← hx, ← hy]; omega)
            have HY := Lib.hid hy
            have hyl := y.toNat_lt
            have hxl := x.toNat_lt
            clear hx hy
            rcases HSG.out with ⟨g1, g2⟩ | ⟨g1, g2⟩
            · have g5 : ¬ (h.toNat : Int) < 128 := by omega
              have G2 := Lib.hid g2
              clear g2
              by_cases hbig : 36028797018963967 < m
              · have hbig' : (36028797018963967 : Int) < (m : Int) := by omega
                have e : D = (0, 0, 2) := by
                  rw [HD.out]
                  have hk := HK.out
                  have h88 := H8.out
                  have hn := HN.out
                  exact ref_big h t (i - 1) (by omega) (by omega) (by omega) (by rw [← HM.out]; exact hbig)
                subst e
                clear hbig
                go_wp2
                go_ret3
                exact ⟨rfl, Below.refl _ _⟩
              · have hbig' : ¬ (36028797018963967 : Int) < (m : Int) := by omega
                have hw5 : IntKind.i64.wrap (256 * (m : Int)) = 256 * (m : Int) := IntWalk.i64_in _ (by omega)
                have hw6 : IntKind.i64.wrap (256 * (m : Int) + (y.toNat : Int)) = 256 * (m : Int) + (y.toNat : Int) := IntWalk.i64_in _ (by omega)
                have HBG := Lib.hid (show 256 * m + y.toNat ≤ 9223372036854775807 by omega)
                have hxy : (x.toNat : Int) = (y.toNat : Int) := by rw [HY.out, (cnt_pos h g1).2]; simp
                clear hbig
                go_wp2_with fail
                go_roundw
                case rel =>
                  refine ⟨i + 1, 256 * m + y.toNat, by omega, by omega, ?_, by go_num, HBG, HM2, trivial⟩
                  rw [show ((256 * m + y.toNat : Nat) : Int) = 256 * (m : Int) + (y.toNat : Int) by omega]
                case measure => simp only [intOf]; omega
            · have g5 : (h.toNat : Int) < 128 := by omega
              have G2 := Lib.hid g2
              clear g2
              by_cases hbig : 36028797018963967 < m
              · have hbig' : (36028797018963967 : Int) < (m : Int) := by omega
                have e : D = (0, 0, 2) := by
                  rw [HD.out]
                  have hk := HK.out
                  have h88 := H8.out
                  have hn := HN.out
                  exact ref_big h t (i - 1) (by omega) (by omega) (by omega) (by rw [← HM.out]; exact hbig)
                subst e
                clear hbig
                go_wp2
                go_ret3
                exact ⟨rfl, Below.refl _ _⟩
              · have hbig' : ¬ (36028797018963967 : Int) < (m : Int) := by omega
                have hw5 : IntKind.i64.wrap (256 * (m : Int)) = 256 * (m : Int) := IntWalk.i64_in _ (by omega)
                have hw6 : IntKind.i64.wrap (256 * (m : Int) + (y.toNat : Int)) = 256 * (m : Int) + (y.toNat : Int) := IntWalk.i64_in _ (by omega)
                have HBG := Lib.hid (show 256 * m + y.toNat ≤ 9223372036854775807 by omega)
                have hxy : 255 - (x.toNat : Int) = (y.toNat : Int) := by rw [HY.out, (cnt_neg h g1).2, flip_toNat]; omega
                have hw7 : IntKind.i64.wrap (y.toNat : Int) = (y.toNat : Int) := IntWalk.i64_in _ (by omega)
                clear hbig
                go_wp2_with fail
                go_roundw
                case rel =>
                  refine ⟨i + 1, 256 * m + y.toNat, by omega, by omega, ?_, by go_num, HBG, HM2, trivial⟩
                  rw [show ((256 * m + y.toNat : Nat) : Int) = 256 * (m : Int) + (y.toNat : Int) by omega]
                case measure => simp only [intOf]; omega
          · obtain rfl : i = K + 1 := by omega
            have hgt : ¬ ((K + 1 : Nat) : Int) ≤ (K : Int) := by omega
            obtain ⟨n, hn⟩ : ∃ n : Int, n = if flag h = 0 then (m : Int) else -1 - (m : Int) := ⟨_, rfl⟩
            have HNN := Lib.hid hn
            clear hn
            go_upto_if 57 with (fail)
            go_cut [10] (fun s10 wx => s10 = .int .i64 n ∧ w = wx)
            case first =>
              have hb := HB.out
              rcases HSG.out with ⟨g1, g2⟩ | ⟨g1, g2⟩
              · have g5 : ¬ (h.toNat : Int) < 128 := by omega
                have HE := Lib.hid (show n = (m : Int) by rw [HNN.out, if_pos (cnt_pos h g1).2])
                clear g2 hb
                go_wp2
                go_meet
                exact ⟨by rw [HE.out], rfl⟩
              · have g5 : (h.toNat : Int) < 128 := by omega
                have HE := Lib.hid (show n = -1 - (m : Int) by rw [HNN.out, if_neg (by rw [(cnt_neg h g1).2]; decide)])
                have hw9 : IntKind.i64.wrap (-1 - (m : Int)) = -1 - (m : Int) := IntWalk.i64_in _ (by omega)
                clear g2 hb
                go_wp2
                go_meet
                exact ⟨by rw [HE.out], rfl⟩
            case rest =>
              obtain ⟨rfl, rfl⟩ := hcut
              have hKt : K ≤ t.length := by have := HN.out; omega
              have hmv : m = val ((t.take (cnt h)).map (· ^^^ flag h)) := by rw [HM.out, List.map_take, Nat.add_sub_cancel, HK.out]
              have hD2 := ref_ok h t n (by rw [← HK.out]; exact Nat.le_of_not_lt H8.out) (by rw [← HK.out]; exact hKt) (by rw [← hmv]; exact HB.out) (by rw [← hmv]; exact HNN.out)
              rw [← HD.out, ← HK.out] at hD2
              obtain ⟨P, hP⟩ : ∃ P, P = (h :: t).take (K + 1) := ⟨_, rfl⟩
              rw [← hP] at hD2
              have hPl : P.length = K + 1 := by rw [hP, List.length_take, HLEN.out]; omega
              have hPr : Rd w w.heap.size (some ⟨g, o, none⟩) (B8 P) := by
                have := HR.out.take (K + 1)
                rw [hP]
                rwa [show (B8 (h :: t)).take (K + 1) = B8 ((h :: t).take (K + 1)) by simp [B8]] at this
              have hnb : -9223372036854775808 ≤ n ∧ n ≤ 9223372036854775807 := by
                have := HB.out
                rw [HNN.out]; split <;> omega
              have HINT := Lib.hid (show ∀ W, Calls Tryd.prog 31 #[.int .i64 n] W fun e w' => ∃ (A' : Option Addr) (c' : Nat), e = .returned (.slice A' (enc n).length c') ∧ Rd w' w'.heap.size A' (B8 (enc n)) ∧ Below W.heap.size W w' from fun W => by
                refine (rint_any n W hnb.1 hnb.2).mono ?_
                rintro e w' ⟨v, rfl, ho, hb⟩
                obtain ⟨A', c', rfl, _, _, h3⟩ := own_form ho
                exact ⟨A', c', rfl, h3, hb⟩)
              have HSAME := Lib.hid (show ∀ W A' c', Rd W W.heap.size A' (B8 (enc n)) → Rd W W.heap.size (some ⟨g, o, none⟩) (B8 P) → Calls Tryd.prog 59 #[.slice A' (enc n).length c', .slice (some ⟨g, o, none⟩) (K + 1) c] W fun e w' => e = .returned (.bool (decide (enc n = P))) ∧ ∃ q, w' = W.drewN q from fun W A' c' h1 h2 => by
                have := same_any A' (some ⟨g, o, none⟩) (enc n) P c' c W W.heap.size h1 h2 (by have := (enc_le n).2; omega) (by rw [hPl]; have := H8.out; omega)
                rw [hPl] at this
                exact this)
              have HPR := Lib.hid hPr
              obtain ⟨E, hE⟩ : ∃ E, E = decide (enc n = P) := ⟨_, rfl⟩
              rw [← hE] at HSAME
              have hK1 : ((K : Int) + 1) ≤ (c : Int) := by omega
              have hK1' : K + 1 ≤ c := by omega
              have hKt1 : ((K : Int) + 1).toNat = K + 1 := by omega
              obtain ⟨L0, hL0⟩ : ∃ L, L = (enc n).length := ⟨_, rfl⟩
              rw [← hL0] at HINT HSAME
              have hDE : D = if E = true then (n, K + 1, 0) else (0, 0, 2) := by
                rw [hD2, hE]; simp only [decide_eq_true_eq]
              have HDE := Lib.hid hDE
              have hS0 : Below w.heap.size w w.drew := (Below.refl _ _).drew
              clear hD2 hP hPl hPr hE hL0 hDE hmv hnb hKt hgt
              have hsl : ∀ W, (Instr.sliceAt 54 (.slice (some ⟨g, o, none⟩) (N + 1) c) none (some (.int .i64 ((K : Int) + 1))) none).run Tryd.prog W = .ok (.slice (some ⟨g, o, none⟩) (K + 1) c) W := slice_to (some ⟨g, o, none⟩) g o (N + 1) c (K + 1) rfl (by omega)
              go_upto_region 24 with (fail)
              refine wp_region_held (S := fun W => Below w.heap.size w W) (by kernel_rfl) ?_
              change wpAnyH _ _ _ _ _ _ _ _ (World.drew w)
              refine wpAnyH_take (i := 0) (oi := { dst := some 60, op := Op.move (Operand.tmp 10), type := 3, pos := "ref.go:80", after := #[], guard := none }) (v := .int .i64 n) rfl (by kernel_rfl) (by kernel_rfl) (by kernel_rfl) (fun _ _ _ h => h) (Or.inl ⟨by rfl, fun W hW => ?y1⟩) hS0 ?_
              case y1 => go_simp
              try dsimp only [Act.put]
              try simp only [List.setIfInBounds_toArray, List.set_cons_zero, List.set_cons_succ]
              refine wpAnyH_take (i := 2) (oi := { dst := some 62, op := Op.move (Operand.tmp 0), type := 54, pos := "ref.go:80", after := #[], guard := none }) (v := .slice (some ⟨g, o, none⟩) (N + 1) c) rfl (by kernel_rfl) (by kernel_rfl) (by kernel_rfl) (fun _ _ _ h => h) (Or.inl ⟨by rfl, fun W hW => ?y2⟩) hS0 ?_
              case y2 => go_simp
              try dsimp only [Act.put]
              try simp only [List.setIfInBounds_toArray, List.set_cons_zero, List.set_cons_succ]
              refine wpAnyH_take (i := 3) (oi := { dst := some 63, op := Op.move (Operand.tmp 6), type := 3, pos := "ref.go:80", after := #[], guard := none }) (v := .int .i64 (K : Int)) rfl (by kernel_rfl) (by kernel_rfl) (by kernel_rfl) (fun _ _ _ h => h) (Or.inl ⟨by rfl, fun W hW => ?y3⟩) hS0 ?_
              case y3 => go_simp
              try dsimp only [Act.put]
              try simp only [List.setIfInBounds_toArray, List.set_cons_zero, List.set_cons_succ]
              refine wpAnyH_take (i := 4) (oi := { dst := some 64, op := Op.binOp BinOp.add 3 (Operand.tmp 63) (Operand.const (Value.int IntKind.i64 1)) 3, type := 3, pos := "ref.go:80", after := #[{ on := 3, ground := Ground.data }], guard := none }) (v := .int .i64 ((K : Int) + 1)) rfl (by kernel_rfl) (by kernel_rfl) (by kernel_rfl) (fun _ _ _ h => h) (Or.inl ⟨by rfl, fun W hW => ?y4⟩) hS0 ?_
              case y4 => go_simp
              try dsimp only [Act.put]
              try simp only [List.setIfInBounds_toArray, List.set_cons_zero, List.set_cons_succ]
              refine wpAnyH_take (i := 5) (oi := { dst := some 65, op := Op.slice 54 (Operand.tmp 62) none (some (Operand.tmp 64)) none, type := 54, pos := "ref.go:80", after := #[{ on := 2, ground := Ground.data }, { on := 4, ground := Ground.data }], guard := none }) (v := .slice (some ⟨g, o, none⟩) (K + 1) c) rfl (by kernel_rfl) (by kernel_rfl) (by kernel_rfl) (fun _ _ _ h => h) (Or.inl ⟨by rfl, fun W hW => ?y5⟩) hS0 ?_
              case y5 => go_simp
              try dsimp only [Act.put]
              try simp only [List.setIfInBounds_toArray, List.set_cons_zero, List.set_cons_succ]
              refine wpAnyH_ready (rs := [1]) (by kernel_rfl) (by simp) ?_
              refine AllReadyH.cons (o := { dst := some 61, op := Op.call { callee := Callee.value (Operand.func 31), args := #[Operand.tmp 60], argTypes := #[3] }, type := 54, pos := "ref.go:80", after := #[{ on := 0, ground := Ground.data }], guard := none }) rfl (fun K hK => ?_) AllReadyH.nil
              rw [if_pos (by rfl)]
              go_simp
              refine (HINT.out _).mono ?_
              rintro e w3 ⟨A3, c3, rfl, r3, hb3⟩
              have hS1 : Below w.heap.size w w3 := hS0.trans (hb3.mono hS0.size)
              have R3 := Lib.hid r3
              clear r3
              go_wp2_with fail
              refine hK.out _ _ hS1 (fun _ => ?_)
              clear hK K
              try dsimp only [Act.put]
              try simp only [List.setIfInBounds_toArray, List.set_cons_zero, List.set_cons_succ]
              refine wpAnyH_ready (rs := [6]) (by kernel_rfl) (by simp) ?_
              refine AllReadyH.cons (o := { dst := some 66, op := Op.call { callee := Callee.value (Operand.func 59), args := #[Operand.tmp 61, Operand.tmp 65], argTypes := #[54, 54] }, type := 4, pos := "ref.go:80", after := #[{ on := 1, ground := Ground.data }, { on := 5, ground := Ground.data }, { on := 1, ground := Ground.chain }], guard := none }) rfl (fun K hK => ?_) AllReadyH.nil
              rw [if_pos (by rfl)]
              go_simp
              refine (HSAME.out _ A3 c3 R3.out ((HPR.out.below hS1).more hS1.size)).mono ?_
              rintro e w4 ⟨rfl, q, rfl⟩
              have hS2 : Below w.heap.size w (w3.drewN q) := ⟨hS1.os, hS1.tape, hS1.output, hS1.size, hS1.block⟩
              go_wp2_with fail
              refine hK.out _ _ hS2 (fun _ => ?_)
              clear hK K
              try dsimp only [Act.put]
              try simp only [List.setIfInBounds_toArray, List.set_cons_zero, List.set_cons_succ]
              refine wpAnyH_take (i := 7) (oi := { dst := some 67, op := Op.unOp UnOp.not 4 (Operand.tmp 66), type := 4, pos := "ref.go:80", after := #[{ on := 6, ground := Ground.data }], guard := none }) (v := .bool (!E)) rfl (by kernel_rfl) (by kernel_rfl) (by kernel_rfl) (fun _ _ _ h => h) (Or.inl ⟨by rfl, fun W hW => ?y6⟩) hS2 ?_
              case y6 => go_simp
              try dsimp only [Act.put]
              try simp only [List.setIfInBounds_toArray, List.set_cons_zero, List.set_cons_succ]
              refine wpAnyH_done (by kernel_rfl) ?_ _
              try dsimp only [Act.put]
              try simp only [List.setIfInBounds_toArray, List.set_cons_zero, List.set_cons_succ]
              cases E with
              | true =>
                have e := HDE.out
                rw [if_pos rfl] at e
                subst e
                go_wp2
                go_ret3
                refine ⟨?_, hS2⟩
                rfl
              | false =>
                have e := HDE.out
                rw [if_neg (by decide)] at e
                subst e
                go_wp2
                go_ret3
                exact ⟨rfl, hS2⟩
end Go.Proofs.YtgonidjajmjniaaDoor

namespace Go.Proofs.YtgonidjajmjniaaDoor
open Go.RowKit Wr Sh
set_option linter.unusedVariables false
set_option maxRecDepth 100000

theorem rgetInt_sz (s : ByteArray) (b : List UInt8) (hb : s.data.toList = b) (A : Option Addr) (c : Nat) (w : World) (hr : Rd w w.heap.size A (B8 b)) (hc : s.size ≤ c) (hl : s.size ≤ 1073741824) (I : Int) (U E : Nat) (hd : Hid (decInt b = (I, U, E))) :
    Calls Tryd.prog 41 #[.slice A s.size c] w fun e w' => e = .returned (.tuple #[.int .i64 I, .int .i64 (U : Int), .int .i64 (E : Int)]) ∧ Below w.heap.size w w' := by
  have h := rgetInt_any A b c w hr (by rw [← hb, size_l]; exact hc) (by rw [← hb, size_l]; omega)
  rw [hd.out, ← hb, size_l] at h
  exact h
theorem rgetInt_ok (s : ByteArray) (b : List UInt8) (hb : s.data.toList = b) (A : Option Addr) (c : Nat) (w : World) (hr : Rd w w.heap.size A (B8 b)) (hc : s.size ≤ c) (hl : s.size ≤ 1073741824) (I : Int) (U : Nat) (hd : Hid (decInt b = (I, U, 0))) :
    Calls Tryd.prog 41 #[.slice A s.size c] w fun e w' => e = .returned (.tuple #[.int .i64 I, .int .i64 (U : Int), .int .i64 0]) ∧ Below w.heap.size w w' := rgetInt_sz s b hb A c w hr hc hl I U 0 hd

set_option maxHeartbeats 2000000 in
theorem rverify_arg (p : List UInt8) (n : Int) (m sg : ByteArray) (w : World) (h : n < 0 ∨ ¬ n < 0 ∧ 6 < n) :
    Calls Tryd.prog 19 #[.agg (B8 p).toArray, .int .i64 n, .string m, .string sg] w fun e w' => e = .returned (.tuple #[.int .i64 0, .int .i64 1]) ∧ Below w.heap.size w w' := by
  have B1 := Lib.hid ((Below.refl w.heap.size w).alloc (Nat.le_refl _) (.cells (B8 p).toArray 23))
  rcases h with h | ⟨h, h6⟩
  · go_enter Tryd.func19, Tryd.ntmps19
    go_wp2_with fail
    go_ret2
    exact ⟨rfl, B1.out⟩
  · go_enter Tryd.func19, Tryd.ntmps19
    go_wp2_with fail
    go_ret2
    exact ⟨rfl, B1.out⟩
set_option maxHeartbeats 2000000 in
theorem rverify_limit (p : List UInt8) (h : Nat) (m sg : ByteArray) (w : World) (hh : h ≤ 6) (hm : 1048576 < m.size) :
    Calls Tryd.prog 19 #[.agg (B8 p).toArray, .int .i64 (h : Int), .string m, .string sg] w fun e w' => e = .returned (.tuple #[.int .i64 0, .int .i64 4]) ∧ Below w.heap.size w w' := by
  have hht1 : ¬ (h : Int) < 0 := by omega
  have hht2 : ¬ (6 : Int) < (h : Int) := by omega
  have hm' : (1048576 : Int) < (m.size : Int) := by omega
  have B1 := Lib.hid ((Below.refl w.heap.size w).alloc (Nat.le_refl _) (.cells (B8 p).toArray 23))
  go_enter Tryd.func19, Tryd.ntmps19
  go_wp2_with fail
  go_ret2
  exact ⟨rfl, B1.out⟩
set_option maxHeartbeats 2000000 in
theorem rverify_err (p : List UInt8) (h : Nat) (m sg : ByteArray) (w : World) (hh : h ≤ 6) (hm : m.size ≤ 1048576) (hsg : sg.size ≤ 1073741824) (I : Int) (U E : Nat) (hd : Hid (decInt sg.data.toList = (I, U, E))) (hE : E ≠ 0) :
    Calls Tryd.prog 19 #[.agg (B8 p).toArray, .int .i64 (h : Int), .string m, .string sg] w fun e w' => e = .returned (.tuple #[.int .i64 0, .int .i64 (E : Int)]) ∧ Below w.heap.size w w' := by
  obtain ⟨b, hb⟩ : ∃ b, b = sg.data.toList := ⟨_, rfl⟩
  have HG0 := Lib.hid hb
  rw [← hb] at hd
  have hht1 : ¬ (h : Int) < 0 := by omega
  have hht2 : ¬ (6 : Int) < (h : Int) := by omega
  have hmI : ¬ (1048576 : Int) < (m.size : Int) := by omega
  have B1 := Lib.hid ((Below.refl w.heap.size w).alloc (Nat.le_refl _) (.cells (B8 p).toArray 23))
  have KP := Lib.hid (Blk.new w 23 (B8 p))
  have HSZ := Lib.hid (show (w.alloc (.cells (B8 p).toArray 23)).heap.size = w.heap.size + 1 by simp)
  have hEb : ((E : Int) != 0) = true := by rw [bne_iff_ne]; omega
  clear hb hE
  go_enter Tryd.func19, Tryd.ntmps19
  go_wp2_with (with_reducible refine wpList_bytes_of rfl 9 54 5 (.tmp 32) rfl sg rfl Tryd.underlying9 Tryd.underlying54 Tryd.underlying5 ?_; intro c1 w1 hc1 hr1 hb1)
  rw [← HG0.out, HSZ.out] at hr1
  have B2 := Lib.hid (B1.out.trans (hb1.mono B1.out.size))
  have KP2 := Lib.hid (KP.out.below hb1 KP.out.lt)
  clear hb1
  refine (rgetInt_sz sg b HG0.out.symm _ c1 w1 hr1 hc1 hsg I U E hd).mono ?_; rintro e w2 ⟨rfl, hb2⟩
  have B3 := Lib.hid (B2.out.trans (hb2.mono B2.out.size))
  clear hb2
  go_wp2_with fail
  go_ret2
  exact ⟨rfl, B3.out⟩
set_option maxHeartbeats 2000000 in
theorem rverify_form (p : List UInt8) (h : Nat) (m sg : ByteArray) (w : World) (hh : h ≤ 6) (hm : m.size ≤ 1048576) (hsg : sg.size ≤ 1073741824) (I : Int) (U : Nat) (hd : Hid (decInt sg.data.toList = (I, U, 0))) (hU : U ≤ sg.size) (hI : okInt I)
    (hbad : I < 0 ∨ ¬ I < 0 ∧ ((2 ^ h : Nat) : Int) ≤ I ∨ ¬ I < 0 ∧ I < ((2 ^ h : Nat) : Int) ∧ sg.size - U ≠ (68 + h) * 16) :
    Calls Tryd.prog 19 #[.agg (B8 p).toArray, .int .i64 (h : Int), .string m, .string sg] w fun e w' => e = .returned (.tuple #[.int .i64 0, .int .i64 2]) ∧ Below w.heap.size w w' := by
  obtain ⟨b, hb⟩ : ∃ b, b = sg.data.toList := ⟨_, rfl⟩
  have HG0 := Lib.hid hb
  rw [← hb] at hd
  have hht1 : ¬ (h : Int) < 0 := by omega
  have hht2 : ¬ (6 : Int) < (h : Int) := by omega
  have hmI : ¬ (1048576 : Int) < (m.size : Int) := by omega
  have B1 := Lib.hid ((Below.refl w.heap.size w).alloc (Nat.le_refl _) (.cells (B8 p).toArray 23))
  have KP := Lib.hid (Blk.new w 23 (B8 p))
  have HSZ := Lib.hid (show (w.alloc (.cells (B8 p).toArray 23)).heap.size = w.heap.size + 1 by simp)
  obtain ⟨PW, hPW⟩ : ∃ PW : Nat, PW = 2 ^ h := ⟨_, rfl⟩
  have hsh0 : ((2 : Int) ^ h) = (PW : Int) := by rw [hPW]; simp
  have hpw64 : PW ≤ 64 := by rw [hPW]; exact Nat.le_trans (Nat.pow_le_pow_right (by decide) hh) (by decide)
  have hsh : IntKind.i64.wrap ((2 : Int) ^ h) = (PW : Int) := by rw [hsh0]; exact IntWalk.i64_in _ (by omega)
  have hsh2 : IntKind.i64.wrap (1 * (2 : Int) ^ h) = (PW : Int) := by rw [Int.one_mul]; exact hsh
  rw [← hPW] at hbad
  obtain ⟨s2, hs2⟩ : ∃ s2, s2 = sg.extract U sg.size := ⟨_, rfl⟩
  have hz2 : s2.size = sg.size - U := by rw [hs2, ByteArray.size_extract]; omega
  have HS2 := Lib.hid hs2
  clear hb hs2 hsh0 hPW
  rcases hbad with hx1 | ⟨hx1, hx2⟩ | ⟨hx1, hx2, hx3⟩
  · clear hz2
    go_enter Tryd.func19, Tryd.ntmps19
    go_wp2_with (with_reducible refine wpList_bytes_of rfl 9 54 5 (.tmp 32) rfl sg rfl Tryd.underlying9 Tryd.underlying54 Tryd.underlying5 ?_; intro c1 w1 hc1 hr1 hb1)
    rw [← HG0.out, HSZ.out] at hr1
    have B2 := Lib.hid (B1.out.trans (hb1.mono B1.out.size))
    have KP2 := Lib.hid (KP.out.below hb1 KP.out.lt)
    clear hb1
    refine (rgetInt_ok sg b HG0.out.symm _ c1 w1 hr1 hc1 hsg I U hd).mono ?_; rintro e w2 ⟨rfl, hb2⟩
    have B3 := Lib.hid (B2.out.trans (hb2.mono B2.out.size))
    clear hb2
    go_wp2_with fail
    go_ret2
    exact ⟨rfl, B3.out⟩
  · clear hz2
    have hx2' : ¬ I < (PW : Int) := by omega
    go_enter Tryd.func19, Tryd.ntmps19
    go_wp2_with (with_reducible refine wpList_bytes_of rfl 9 54 5 (.tmp 32) rfl sg rfl Tryd.underlying9 Tryd.underlying54 Tryd.underlying5 ?_; intro c1 w1 hc1 hr1 hb1)
    rw [← HG0.out, HSZ.out] at hr1
    have B2 := Lib.hid (B1.out.trans (hb1.mono B1.out.size))
    have KP2 := Lib.hid (KP.out.below hb1 KP.out.lt)
    clear hb1
    refine (rgetInt_ok sg b HG0.out.symm _ c1 w1 hr1 hc1 hsg I U hd).mono ?_; rintro e w2 ⟨rfl, hb2⟩
    have B3 := Lib.hid (B2.out.trans (hb2.mono B2.out.size))
    clear hb2
    go_wp2_with fail
    go_ret2
    exact ⟨rfl, B3.out⟩
  · have hne : ((s2.size : Int) != (68 + (h : Int)) * 16) = true := by rw [bne_iff_ne]; omega
    have hx2' : ¬ (PW : Int) ≤ I := by omega
    clear hz2 hx3
    go_enter Tryd.func19, Tryd.ntmps19
    go_wp2_with (with_reducible refine wpList_bytes_of rfl 9 54 5 (.tmp 32) rfl sg rfl Tryd.underlying9 Tryd.underlying54 Tryd.underlying5 ?_; intro c1 w1 hc1 hr1 hb1)
    rw [← HG0.out, HSZ.out] at hr1
    have B2 := Lib.hid (B1.out.trans (hb1.mono B1.out.size))
    have KP2 := Lib.hid (KP.out.below hb1 KP.out.lt)
    clear hb1
    refine (rgetInt_ok sg b HG0.out.symm _ c1 w1 hr1 hc1 hsg I U hd).mono ?_; rintro e w2 ⟨rfl, hb2⟩
    have B3 := Lib.hid (B2.out.trans (hb2.mono B2.out.size))
    clear hb2
    go_upto_region 9 with (fail)
    rw [← HS2.out]
    go_wp2_with fail
    go_ret2
    exact ⟨rfl, B3.out⟩
end Go.Proofs.YtgonidjajmjniaaDoor

namespace Go.Proofs.YtgonidjajmjniaaDoor
open Go.RowKit Wr Sh
set_option linter.unusedVariables false
set_option maxRecDepth 100000

/-- What the string's part reads as. -/
theorem part_str (s : ByteArray) (k : Nat) (hk : k ≤ s.size) (W : World) : (Instr.sliceAt 9 (.string s) (some (.int .i64 (k : Int))) none none).run Tryd.prog W = .ok (.string (s.extract k s.size)) W := by
  have h1 := run_slice_string_l (P := Tryd.prog) W 9 s Tryd.underlying9 .i64 (k : Int) (by omega) (by omega)
  rw [Int.toNat_natCast] at h1
  rw [run_sliceAt_string (P := Tryd.prog) (w := W) 9 _ _ _ _ Tryd.underlying9]
  exact h1

set_option maxHeartbeats 4000000 in
theorem rverify_root (p : List UInt8) (h ix : Nat) (m sg : ByteArray) (w : World) (hp : p.length = 16) (hh : h ≤ 6) (hix : ix < 2 ^ h) (hm : m.size ≤ 1048576) (hsg : sg.size ≤ 1073741824) (U : Nat) (hd : Hid (decInt sg.data.toList = ((ix : Int), U, 0))) (hU : U ≤ sg.size)
    (hlen : sg.size - U = (68 + h) * 16) (ht : Tab 0 w) (Rt : List UInt8) (hRt : Hid (Rt = rootV p h m ix (sg.data.toList.drop U))) :
    Calls Tryd.prog 19 #[.agg (B8 p).toArray, .int .i64 (h : Int), .string m, .string sg] w fun e w' => e = .returned (verRes (Rt == p) ix) ∧ Below w.heap.size w w' := by
  obtain ⟨b, hb⟩ : ∃ b, b = sg.data.toList := ⟨_, rfl⟩
  have HG0 := Lib.hid hb
  rw [← hb] at hd hRt
  have hht1 : ¬ (h : Int) < 0 := by omega
  have hht2 : ¬ (6 : Int) < (h : Int) := by omega
  have hmI : ¬ (1048576 : Int) < (m.size : Int) := by omega
  have B1 := Lib.hid ((Below.refl w.heap.size w).alloc (Nat.le_refl _) (.cells (B8 p).toArray 23))
  have KP := Lib.hid (Blk.new w 23 (B8 p))
  have HSZ := Lib.hid (show (w.alloc (.cells (B8 p).toArray 23)).heap.size = w.heap.size + 1 by simp)
  obtain ⟨PW, hPW⟩ : ∃ PW : Nat, PW = 2 ^ h := ⟨_, rfl⟩
  have hsh0 : ((2 : Int) ^ h) = (PW : Int) := by rw [hPW]; simp
  have hpw64 : PW ≤ 64 := by rw [hPW]; exact Nat.le_trans (Nat.pow_le_pow_right (by decide) hh) (by decide)
  have hsh : IntKind.i64.wrap ((2 : Int) ^ h) = (PW : Int) := by rw [hsh0]; exact IntWalk.i64_in _ (by omega)
  have hsh2 : IntKind.i64.wrap (1 * (2 : Int) ^ h) = (PW : Int) := by rw [Int.one_mul]; exact hsh
  rw [← hPW] at hix
  have hix6 : ix < 64 := by omega
  obtain ⟨s2, hs2⟩ : ∃ s2, s2 = sg.extract U sg.size := ⟨_, rfl⟩
  have hz2 : s2.size = sg.size - U := by rw [hs2, ByteArray.size_extract]; omega
  have hza : s2.size ≤ (68 + h) * 16 := by omega
  have hzb : (68 + h) * 16 ≤ s2.size := by omega
  obtain ⟨X, hX⟩ : ∃ X, X = s2.data.toList := ⟨_, rfl⟩
  have HXb := Lib.hid (show X = b.drop U by rw [hX, hs2, hb]; exact Lib.extract_to_end sg U)
  have HXl := Lib.hid (show s2.size = X.length by rw [hX, size_l])
  have HX := Lib.hid hX
  have HS2 := Lib.hid hs2
  have hneL : ((s2.size : Int) != (68 + (h : Int)) * 16) = false := by rw [bne_eq_false_iff_eq]; omega
  have hg1 : ¬ (ix : Int) < 0 := by omega
  have hg2 : ¬ (PW : Int) ≤ (ix : Int) := by omega
  have HOI := Lib.hid (show okInt (ix : Int) from ⟨by omega, by omega⟩)
  have HPl := Lib.hid hp
  have HT := Lib.hid ht
  obtain ⟨Dg, hDg⟩ : ∃ Dg, Dg = digOf p (ix : Int) m := ⟨_, rfl⟩
  have HDg := Lib.hid hDg
  have HDgl := Lib.hid (show Dg.length = 16 by rw [hDg]; exact dof_len _ _)
  clear hb hs2 hX hlen hp ht hix hz2 hDg hsh0 hPW
  go_enter Tryd.func19, Tryd.ntmps19
  go_wp2_with (with_reducible refine wpList_bytes_of rfl 9 54 5 (.tmp 32) rfl sg rfl Tryd.underlying9 Tryd.underlying54 Tryd.underlying5 ?_; intro c1 w1 hc1 hr1 hb1)
  rw [← HG0.out, HSZ.out] at hr1
  have B2 := Lib.hid (B1.out.trans (hb1.mono B1.out.size))
  have KP2 := Lib.hid (KP.out.below hb1 KP.out.lt)
  clear hb1
  refine (rgetInt_ok sg b HG0.out.symm _ c1 w1 hr1 hc1 hsg (ix : Int) U hd).mono ?_; rintro e w2 ⟨rfl, hb2⟩
  have B3 := Lib.hid (B2.out.trans (hb2.mono B2.out.size))
  have KP3 := Lib.hid (KP2.out.below hb2 KP2.out.lt)
  have HLP := Lib.hid KP3.out.at
  clear hr1 hb2
  go_upto_region 9 with (fail)
  rw [← HS2.out]
  go_wp2_with (with_reducible refine wpList_load_at rfl 23 (.tmp 4) rfl ⟨w.heap.size, 0, none⟩ rfl (B8 p) (.array 16 5) HLP.out Tryd.underlying23 rfl (size23 _ HPl.out) ?_)
  refine (rdigest3_any p (ix : Int) m _ HPl.out HOI.out (by omega) (HT.out.below B3.out HT.out.1) Dg HDg).mono ?_; rintro e w4 ⟨rfl, hb4⟩
  have B4 := Lib.hid (B3.out.trans (hb4.mono B3.out.size))
  have KP4 := Lib.hid (KP3.out.below hb4 KP3.out.lt)
  clear hb4
  go_wp2_with fail
  refine (rdigits_any Dg w4 HDgl.out).mono ?_; rintro e wL ⟨vD, rfl, hoD, hb5⟩
  have BL := Lib.hid (B4.out.trans (hb5.mono B4.out.size))
  have KPL := Lib.hid (KP4.out.below hb5 KP4.out.lt)
  obtain ⟨AD, cD, rfl, hcD, _, hrD⟩ := own_form hoD
  obtain ⟨gD, oD, hAD, hgD, hcellD⟩ := hrD (by intro e; have := congrArg List.length e; simp [NI, digs] at this)
  have HAD := Lib.hid hAD
  have HDL := Lib.hid hrD
  clear hoD hb5 hrD hAD hcellD hgD B4 KP4 KP3 B3 HLP KP2 B2 KP B1
  go_wp2_with fail
  go_loopw [15, 16] (fun s15 s16 wr => ∃ (c : Nat) (sv : ByteArray), c ≤ 68 ∧ s16 = .int .i64 (c : Int) ∧ s15 = .string sv ∧ Hid (sv = bs (topsV (ix : Int) Dg X c)) ∧ Hid (Below wL.heap.size wL wr))
    (fun _ s16 _ => 68 - (intOf s16).toNat)
  case atStart => exact ⟨0, ⟨#[]⟩, by omega, rfl, rfl, Lib.hid rfl, Lib.hid (Below.refl _ _)⟩
  case round =>
  obtain ⟨c, sv, hc, rfl, rfl, hsv, hb⟩ := hrel
  by_cases hlt : c < 68
  · obtain ⟨t, ht⟩ : ∃ t, t = sdig Dg c := ⟨_, rfl⟩
    have ht3 : t ≤ 3 := by rw [ht]; exact sdig_le _ _
    obtain ⟨D0, hD0⟩ : ∃ D, D = dig16 X c := ⟨_, rfl⟩
    obtain ⟨D, hD⟩ : ∃ D, D = adv (ix : Int) (c : Int) (t : Int) D0 (3 - t) := ⟨_, rfl⟩
    have hl0 : D0.length = 16 := by rw [hD0]; unfold dig16; have := HXl.out; simp; omega
    have hl3 : D.length = 16 := by rw [hD]; exact adv_len _ _ _ _ hl0 _
    have hTl : ∀ n, (topsV (ix : Int) Dg X n).length ≤ 16 * n := by
      intro n
      induction n with
      | zero => simp [topsV]
      | succ n ih =>
        rw [topsV_succ, List.length_append]
        have : (adv (ix : Int) (n : Int) ((sdig Dg n : Nat) : Int) (dig16 X n) (3 - sdig Dg n)).length ≤ 16 := by
          cases hq : 3 - sdig Dg n with
          | zero => show (dig16 X n).length ≤ 16; unfold dig16; rw [List.length_take]; omega
          | succ k => exact Nat.le_of_eq (dof_len _ _)
        omega
    have hz1 : sv.size ≤ 1088 := by rw [hsv.out, bs_size]; have := hTl c; omega
    have hzD : (bs D).size ≤ 16 := by rw [bs_size, hl3]; omega
    have HTT := Lib.hid (show sv ++ bs D = bs (topsV (ix : Int) Dg X (c + 1)) by rw [topsV_succ, ← bs_app, hsv.out, hD, hD0, ht])
    obtain ⟨sx, hsx⟩ : ∃ sx, sx = s2.extract (16 * c) s2.size := ⟨_, rfl⟩
    have hsxl : sx.data.toList = X.drop (16 * c) := by rw [hsx, Lib.extract_to_end, HX.out]
    have hzx : 16 ≤ sx.size ∧ sx.size ≤ 9223372036854775807 := by
      rw [← size_l, hsxl, List.length_drop, ← HXl.out]; omega
    have H0 := Lib.hid (show D0 = sx.data.toList.take 16 by rw [hD0, hsxl]; rfl)
    have HSX := Lib.hid (fun W => show (Instr.sliceAt 9 (.string s2) (some (.int .i64 (16 * (c : Int)))) none none).run Tryd.prog W = .ok (.string sx) W by
      have := part_str s2 (16 * c) (by omega) W
      rw [← hsx, show ((16 * c : Nat) : Int) = 16 * (c : Int) by omega] at this
      exact this)
    have HCD := Lib.hid (fun W (h : Rd W wL.heap.size AD (NI (digs Dg))) => show W.cell? ⟨gD, oD + c, none⟩ = some (.int .i64 (t : Int)) by
      obtain ⟨g', o', e1, _, h3⟩ := h (by intro e; have := congrArg List.length e; simp [NI, digs] at this)
      rw [HAD.out] at e1
      injection e1 with e1
      injection e1 with e1 e2
      subst e1 e2
      rw [ht]
      exact h3 c _ (NI_get Dg c hlt))
    have H3 := Lib.hid hD
    have L0 := Lib.hid hl0
    have L3 := Lib.hid hl3
    have HOC := Lib.hid (show okInt (c : Int) from ⟨by omega, by omega⟩)
    have hcD' : 68 ≤ cD := hcD
    have q16 : IntKind.i64.wrap (16 * (c : Int)) = 16 * (c : Int) := IntWalk.i64_in _ (by omega)
    clear hD0 hD hl0 hl3 ht hsx hsxl hTl
    go_wp2_with fail
    refine wp_region_held (S := fun W => Rd W wL.heap.size AD (NI (digs Dg))) (by kernel_rfl) ?_
    change wpAnyH _ _ _ _ _ _ _ _ (World.drew wr)
    have hS0 : Rd (World.drew wr) wL.heap.size AD (NI (digs Dg)) := HDL.out.below hb.out.drew
    have BD := Lib.hid hb.out.drew
    generalize World.drew wr = Wd at hS0 BD ⊢
    refine wpAnyH_take (i := 0) (oi := { dst := some 69, op := Op.move (Operand.tmp 15), type := 9, pos := "ref.go:148", after := #[], guard := none }) (v := .string sv) rfl (by kernel_rfl) (by kernel_rfl) (by kernel_rfl) (fun _ _ _ h => h) (Or.inl ⟨by rfl, fun W hW => ?y1⟩) hS0 ?_
    case y1 => go_simp
    try dsimp only [Act.put]
    try simp only [List.setIfInBounds_toArray, List.set_cons_zero, List.set_cons_succ]
    refine wpAnyH_take (i := 1) (oi := { dst := some 70, op := Op.move (Operand.tmp 10), type := 3, pos := "ref.go:148", after := #[], guard := none }) (v := .int .i64 (ix : Int)) rfl (by kernel_rfl) (by kernel_rfl) (by kernel_rfl) (fun _ _ _ h => h) (Or.inl ⟨by rfl, fun W hW => ?y2⟩) hS0 ?_
    case y2 => go_simp
    try dsimp only [Act.put]
    try simp only [List.setIfInBounds_toArray, List.set_cons_zero, List.set_cons_succ]
    refine wpAnyH_take (i := 2) (oi := { dst := some 71, op := Op.move (Operand.tmp 16), type := 3, pos := "ref.go:148", after := #[], guard := none }) (v := .int .i64 (c : Int)) rfl (by kernel_rfl) (by kernel_rfl) (by kernel_rfl) (fun _ _ _ h => h) (Or.inl ⟨by rfl, fun W hW => ?y3⟩) hS0 ?_
    case y3 => go_simp
    try dsimp only [Act.put]
    try simp only [List.setIfInBounds_toArray, List.set_cons_zero, List.set_cons_succ]
    refine wpAnyH_take (i := 3) (oi := { dst := some 72, op := Op.move (Operand.tmp 14), type := 25, pos := "ref.go:148", after := #[], guard := none }) (v := .slice AD 68 cD) rfl (by kernel_rfl) (by kernel_rfl) (by kernel_rfl) (fun _ _ _ h => h) (Or.inl ⟨by rfl, fun W hW => ?y4⟩) hS0 ?_
    case y4 => go_simp
    try dsimp only [Act.put]
    try simp only [List.setIfInBounds_toArray, List.set_cons_zero, List.set_cons_succ]
    refine wpAnyH_take (i := 4) (oi := { dst := some 73, op := Op.move (Operand.tmp 16), type := 3, pos := "ref.go:148", after := #[], guard := none }) (v := .int .i64 (c : Int)) rfl (by kernel_rfl) (by kernel_rfl) (by kernel_rfl) (fun _ _ _ h => h) (Or.inl ⟨by rfl, fun W hW => ?y5⟩) hS0 ?_
    case y5 => go_simp
    try dsimp only [Act.put]
    try simp only [List.setIfInBounds_toArray, List.set_cons_zero, List.set_cons_succ]
    refine wpAnyH_take (i := 5) (oi := { dst := some 74, op := Op.indexAddr 25 (Operand.tmp 72) (Operand.tmp 73), type := 0, pos := "ref.go:148", after := #[{ on := 3, ground := Ground.data }, { on := 4, ground := Ground.data }], guard := none }) (v := .pointer (some ⟨gD, oD + c, none⟩)) rfl (by kernel_rfl) (by kernel_rfl) (by kernel_rfl) (fun _ _ _ h => h) (Or.inl ⟨by rfl, fun W hW => by have e := HAD.out; subst e; go_simp⟩) hS0 ?_
    try dsimp only [Act.put]
    try simp only [List.setIfInBounds_toArray, List.set_cons_zero, List.set_cons_succ]
    refine wpAnyH_take (i := 6) (oi := { dst := some 75, op := Op.load 3 (Operand.tmp 74), type := 3, pos := "ref.go:148", after := #[{ on := 5, ground := Ground.data }], guard := none }) (v := .int .i64 (t : Int)) rfl (by kernel_rfl) (by kernel_rfl) (by kernel_rfl) (fun _ _ _ h => h) (Or.inl ⟨by rfl, fun W hW => by have hcl := HCD.out W hW; go_simp⟩) hS0 ?_
    try dsimp only [Act.put]
    try simp only [List.setIfInBounds_toArray, List.set_cons_zero, List.set_cons_succ]
    refine wpAnyH_take (i := 7) (oi := { dst := some 76, op := Op.move (Operand.tmp 13), type := 9, pos := "ref.go:148", after := #[], guard := none }) (v := .string s2) rfl (by kernel_rfl) (by kernel_rfl) (by kernel_rfl) (fun _ _ _ h => h) (Or.inl ⟨by rfl, fun W hW => ?y8⟩) hS0 ?_
    case y8 => go_simp
    try dsimp only [Act.put]
    try simp only [List.setIfInBounds_toArray, List.set_cons_zero, List.set_cons_succ]
    refine wpAnyH_take (i := 8) (oi := { dst := some 77, op := Op.move (Operand.tmp 16), type := 3, pos := "ref.go:148", after := #[], guard := none }) (v := .int .i64 (c : Int)) rfl (by kernel_rfl) (by kernel_rfl) (by kernel_rfl) (fun _ _ _ h => h) (Or.inl ⟨by rfl, fun W hW => ?y9⟩) hS0 ?_
    case y9 => go_simp
    try dsimp only [Act.put]
    try simp only [List.setIfInBounds_toArray, List.set_cons_zero, List.set_cons_succ]
    refine wpAnyH_take (i := 9) (oi := { dst := some 78, op := Op.binOp BinOp.mul 3 (Operand.const (Value.int IntKind.i64 16)) (Operand.tmp 77) 3, type := 3, pos := "ref.go:148", after := #[{ on := 8, ground := Ground.data }], guard := none }) (v := .int .i64 (16 * (c : Int))) rfl (by kernel_rfl) (by kernel_rfl) (by kernel_rfl) (fun _ _ _ h => h) (Or.inl ⟨by rfl, fun W hW => ?y10⟩) hS0 ?_
    case y10 => go_simp
    try dsimp only [Act.put]
    try simp only [List.setIfInBounds_toArray, List.set_cons_zero, List.set_cons_succ]
    refine wpAnyH_take (i := 10) (oi := { dst := some 79, op := Op.slice 9 (Operand.tmp 76) (some (Operand.tmp 78)) none none, type := 9, pos := "ref.go:148", after := #[{ on := 7, ground := Ground.data }, { on := 9, ground := Ground.data }], guard := none }) (v := .string sx) rfl (by kernel_rfl) (by kernel_rfl) (by kernel_rfl) (fun _ _ _ h => h) (Or.inl ⟨by rfl, fun W hW => by have hcl := HSX.out W; go_simp⟩) hS0 ?_
    try dsimp only [Act.put]
    try simp only [List.setIfInBounds_toArray, List.set_cons_zero, List.set_cons_succ]
    refine wpAnyH_ready (rs := [11]) (by kernel_rfl) (by simp) ?_
    refine AllReadyH.cons (o := { dst := some 80, op := Op.call { callee := Callee.value (Operand.func 42), args := #[Operand.tmp 79], argTypes := #[9] }, type := 23, pos := "ref.go:148", after := #[{ on := 10, ground := Ground.data }], guard := none }) rfl (fun K hK => ?_) AllReadyH.nil
    rw [if_pos (by rfl)]
    go_simp
    refine (rdigest_any sx Wd hzx.1 hzx.2 D0 H0).mono ?_; rintro e w6 ⟨rfl, hb6⟩
    have B6 := Lib.hid (BD.out.trans (hb6.mono BD.out.size))
    have hS6 := HDL.out.below B6.out
    clear hb6
    go_wp2_with fail
    refine hK.out _ _ hS6 (fun _ => ?_)
    clear hK K
    try dsimp only [Act.put]
    try simp only [List.setIfInBounds_toArray, List.set_cons_zero, List.set_cons_succ]
    refine wpAnyH_ready (rs := [12]) (by kernel_rfl) (by simp) ?_
    refine AllReadyH.cons (o := { dst := some 81, op := Op.call { callee := Callee.value (Operand.func 33), args := #[Operand.tmp 70, Operand.tmp 71, Operand.tmp 75, Operand.const (Value.int IntKind.i64 3), Operand.tmp 80], argTypes := #[3, 3, 3, 3, 23] }, type := 23, pos := "ref.go:148", after := #[{ on := 1, ground := Ground.data }, { on := 2, ground := Ground.data }, { on := 6, ground := Ground.data }, { on := 11, ground := Ground.data }, { on := 11, ground := Ground.chain }], guard := none }) rfl (fun K hK => ?_) AllReadyH.nil
    rw [if_pos (by rfl)]
    go_simp
    refine (radvance_any D0 (ix : Int) (c : Int) (t : Int) 3 (3 - t) _ L0.out HOI.out HOC.out (by omega) (Lib.hid (by omega)) (by omega) (HT.out.below (BL.out.trans (B6.out.mono BL.out.size)) HT.out.1) D H3).mono ?_; rintro e w7 ⟨rfl, hb7⟩
    have B7 := Lib.hid (B6.out.trans (hb7.mono B6.out.size))
    have hS7 := HDL.out.below B7.out
    clear hb7
    go_wp2_with fail
    refine hK.out _ _ hS7 (fun _ => ?_)
    clear hK K
    try dsimp only [Act.put]
    try simp only [List.setIfInBounds_toArray, List.set_cons_zero, List.set_cons_succ]
    refine wpAnyH_ready (rs := [13]) (by kernel_rfl) (by simp) ?_
    refine AllReadyH.cons (o := { dst := some 82, op := Op.call { callee := Callee.value (Operand.func 32), args := #[Operand.tmp 81], argTypes := #[23] }, type := 9, pos := "ref.go:148", after := #[{ on := 12, ground := Ground.data }, { on := 12, ground := Ground.chain }], guard := none }) rfl (fun K hK => ?_) AllReadyH.nil
    rw [if_pos (by rfl)]
    go_simp
    refine (text_any D w7 L3.out).mono ?_; rintro e w8 ⟨rfl, hb8⟩
    rw [show (⟨D.toArray⟩ : ByteArray) = bs D from rfl]
    have B8' := Lib.hid (B7.out.trans (hb8.mono B7.out.size))
    have hS8 := HDL.out.below B8'.out
    clear hb8
    go_wp2_with fail
    refine hK.out _ _ hS8 (fun _ => ?_)
    clear hK K
    try dsimp only [Act.put]
    try simp only [List.setIfInBounds_toArray, List.set_cons_zero, List.set_cons_succ]
    refine wpAnyH_ready (rs := [14]) (by kernel_rfl) (by simp) ?_
    refine AllReadyH.cons (o := { dst := some 83, op := Op.binOp BinOp.add 9 (Operand.tmp 69) (Operand.tmp 82) 9, type := 9, pos := "ref.go:148", after := #[{ on := 0, ground := Ground.data }, { on := 13, ground := Ground.data }], guard := none }) rfl (fun K hK => ?_) AllReadyH.nil
    rw [if_pos (by rfl)]
    have hct : ¬ (9223372036854775807 < sv.size + (bs D).size) := by omega
    go_simp
    try (rw [if_neg hct])
    refine hK.out _ _ hS8 (fun _ => ?_)
    clear hK K
    try dsimp only [Act.put]
    try simp only [List.setIfInBounds_toArray, List.set_cons_zero, List.set_cons_succ]
    refine wpAnyH_ready (rs := [15]) (by kernel_rfl) (by simp) ?_
    refine AllReadyH.cons (o := { dst := some 15, op := Op.assign (Operand.tmp 83), type := 9, pos := "ref.go:148", after := #[{ on := 14, ground := Ground.data }, { on := 13, ground := Ground.chain }, { on := 0, ground := Ground.phase }, { on := 1, ground := Ground.phase }, { on := 2, ground := Ground.phase }, { on := 3, ground := Ground.phase }, { on := 4, ground := Ground.phase }, { on := 5, ground := Ground.phase }, { on := 6, ground := Ground.phase }, { on := 7, ground := Ground.phase }, { on := 8, ground := Ground.phase }, { on := 9, ground := Ground.phase }, { on := 10, ground := Ground.phase }, { on := 11, ground := Ground.phase }, { on := 12, ground := Ground.phase }, { on := 13, ground := Ground.phase }, { on := 14, ground := Ground.phase }], guard := none }) rfl (fun K hK => ?_) AllReadyH.nil
    rw [if_pos (by rfl)]
    go_simp
    refine hK.out _ _ hS8 (fun _ => ?_)
    clear hK K
    try dsimp only [Act.put]
    try simp only [List.setIfInBounds_toArray, List.set_cons_zero, List.set_cons_succ]
    refine wpAnyH_done (by kernel_rfl) ?_ _
    try dsimp only [Act.put]
    try simp only [List.setIfInBounds_toArray, List.set_cons_zero, List.set_cons_succ]
    go_wp2_with fail
    go_roundw
    case rel => exact ⟨c + 1, _, by omega, by go_num, rfl, HTT, B8'⟩
    case measure => simp only [intOf]; omega
  · obtain rfl : c = 68 := by omega
    obtain ⟨T, hT⟩ : ∃ T, T = topsV (ix : Int) Dg X 68 := ⟨_, rfl⟩
    have hsb : sv = bs T := by rw [hsv.out, hT]
    subst hsb
    have hTl : T.length ≤ 1088 := by
      have hq : ∀ n, (topsV (ix : Int) Dg X n).length ≤ 16 * n := by
        intro n
        induction n with
        | zero => simp [topsV]
        | succ n ih =>
          rw [topsV_succ, List.length_append]
          have : (adv (ix : Int) (n : Int) ((sdig Dg n : Nat) : Int) (dig16 X n) (3 - sdig Dg n)).length ≤ 16 := by
            cases hq : 3 - sdig Dg n with
            | zero => show (dig16 X n).length ≤ 16; unfold dig16; rw [List.length_take]; omega
            | succ k => exact Nat.le_of_eq (dof_len _ _)
          omega
      rw [hT]; have := hq 68; omega
    obtain ⟨Q, hQ⟩ : ∃ Q, Q = dof 2 [bs T] := ⟨_, rfl⟩
    have HI1 := Lib.hid (inp_T 2 T (by omega))
    have hQl : Q.length = 16 := by rw [hQ]; exact dof_len _ _
    have HI2 := Lib.hid (inp_T 3 Q (by omega))
    obtain ⟨Lf, hLf⟩ : ∃ Lf, Lf = leafOf T := ⟨_, rfl⟩
    obtain ⟨X2, hX2⟩ : ∃ X2, X2 = X.drop 1088 := ⟨_, rfl⟩
    have HQ := Lib.hid hQ
    have HQl := Lib.hid hQl
    have HLQ := Lib.hid (show Lf = dof 3 [bs Q] by rw [hLf, hQ]; rfl)
    have HLfl := Lib.hid (show Lf.length = 16 by rw [hLf]; exact dof_len _ _)
    have HX2 := Lib.hid hX2
    have HRoot := Lib.hid (show Rt = climbOf ix Lf X2 h by rw [hRt.out, ← HXb.out, hLf, hX2, hT, HDg.out]; rfl)
    have HRtl := Lib.hid (show Rt.length = 16 by rw [HRoot.out]; exact climb_len _ _ _ HLfl.out _)
    have hZ := hZ16
    clear hT hTl hQ hQl hLf hX2 hsv
    have b1 := Lib.hid (hb.out.alloc hb.out.size (.cells #[.string (bs T)] 9))
    go_wp2_with fail
    refine (rof_new 2 2 (by rfl) [bs T] 1 rfl HI1.out _ _ rfl _ rfl (HT.out.below (BL.out.trans (b1.out.mono BL.out.size)) HT.out.1) Q HQ).mono ?_; rintro e w1' ⟨rfl, hb1⟩
    have k1 := Lib.hid (b1.out.trans (hb1.mono b1.out.size))
    clear hb1
    obtain ⟨w2, hw2⟩ : ∃ W, W = (w1'.alloc (.cells Z16.toArray 23)).setRow w1'.heap.size (B8 Q).toArray := ⟨_, rfl⟩
    have k2 := Lib.hid (show Below wL.heap.size wL w2 by rw [hw2]; exact belowRow (k1.out.alloc k1.out.size _) k1.out.size _)
    have A2 := Lib.hid (show Blk w2 w1'.heap.size 23 (B8 Q) by rw [hw2]; exact (Blk.new w1' 23 Z16).row _).at
    have HW2 := Lib.hid hw2
    clear hw2
    go_wp2_with (first
      | (with_reducible refine wpList_store_row rfl 23 (.tmp 17) (.tmp 86) rfl w1'.heap.size (B8 Q).toArray rfl rfl 23 _ (heap_alloc_new w1' _) (size23' _ HQl.out) (Z16_size _ HQl.out) (one8 _) ?_; rw [← HW2.out])
      | (with_reducible refine wpList_load_at rfl 23 (.tmp 17) rfl ⟨w1'.heap.size, 0, none⟩ rfl (B8 Q) (.array 16 5) A2.out Tryd.underlying23 rfl (size23 _ HQl.out) ?_))
    refine (text_any Q w2 HQl.out).mono ?_; rintro e w3a ⟨rfl, hb3⟩
    have k3 := Lib.hid (k2.out.trans (hb3.mono k2.out.size))
    rw [show (⟨Q.toArray⟩ : ByteArray) = bs Q from rfl]
    clear hb3
    have b3 := Lib.hid (k3.out.alloc k3.out.size (.cells #[.string (bs Q)] 9))
    go_wp2_with fail
    refine (rof_new 3 3 (by rfl) [bs Q] 1 rfl HI2.out w3a _ rfl _ rfl (HT.out.below (BL.out.trans (b3.out.mono BL.out.size)) HT.out.1) Lf HLQ).mono ?_; rintro e w3 ⟨rfl, hb5⟩
    have k5 := Lib.hid (b3.out.trans (hb5.mono b3.out.size))
    clear hb5
    obtain ⟨wV, hwV⟩ : ∃ W, W = (w3.alloc (.cells Z16.toArray 23)).setRow w3.heap.size (B8 Lf).toArray := ⟨_, rfl⟩
    have kV := Lib.hid (show Below wL.heap.size wL wV by rw [hwV]; exact belowRow (k5.out.alloc k5.out.size _) k5.out.size _)
    have AV := Lib.hid (show Blk wV w3.heap.size 23 (B8 (climbOf ix Lf X2 0)) by rw [hwV]; exact (Blk.new w3 23 Z16).row (B8 Lf))
    have HWV := Lib.hid hwV
    have BW3 := Lib.hid k5.out.size
    clear hwV
    go_wp2_with (with_reducible refine wpList_store_row rfl 23 (.tmp 18) (.tmp 90) rfl w3.heap.size (B8 Lf).toArray rfl rfl 23 _ (heap_alloc_new w3 _) (size23' _ HLfl.out) (Z16_size _ HLfl.out) (one8 _) ?_; rw [← HWV.out])
    go_loopw [19, 20] (fun s19 s20 wq => ∃ (j nj : Nat), j ≤ h ∧ s19 = .int .i64 (nj : Int) ∧ s20 = .int .i64 (j : Int) ∧ Hid (nj = ix / 2 ^ j) ∧ Hid (Blk wq w3.heap.size 23 (B8 (climbOf ix Lf X2 j))) ∧ Hid (Below wL.heap.size wL wq))
      (fun _ s20 _ => h - (intOf s20).toNat)
    case atStart => exact ⟨0, ix, by omega, rfl, rfl, Lib.hid (by simp), AV, kV⟩
    case round =>
    clear AV kV hb
    obtain ⟨j, nj, hj, rfl, rfl, Hnj, KV, hb⟩ := hrel
    obtain ⟨V, hV⟩ : ∃ V, V = climbOf ix Lf X2 j := ⟨_, rfl⟩
    rw [← hV] at KV
    have HVl := Lib.hid (show V.length = 16 by rw [hV]; exact climb_len _ _ _ HLfl.out _)
    by_cases hlt : j < h
    · obtain ⟨D0, hD0⟩ : ∃ D, D = (X.drop (16 * (68 + j))).take 16 := ⟨_, rfl⟩
      have hD0e : D0 = dig16 X2 j := by
        rw [hD0, HX2.out]; unfold dig16; rw [List.drop_drop, show 1088 + 16 * j = 16 * (68 + j) by omega]
      have hl0 : D0.length = 16 := by rw [hD0]; have := HXl.out; simp; omega
      obtain ⟨sx, hsx⟩ : ∃ sx, sx = s2.extract (16 * (68 + j)) s2.size := ⟨_, rfl⟩
      have hsxl : sx.data.toList = X.drop (16 * (68 + j)) := by rw [hsx, Lib.extract_to_end, HX.out]
      have hzx : 16 ≤ sx.size ∧ sx.size ≤ 9223372036854775807 := by
        rw [← size_l, hsxl, List.length_drop, ← HXl.out]; omega
      have H0 := Lib.hid (show D0 = sx.data.toList.take 16 by rw [hD0, hsxl])
      have hSX : ∀ W, (Instr.sliceAt 9 (.string s2) (some (.int .i64 (16 * (68 + (j : Int))))) none none).run Tryd.prog W = .ok (.string sx) W := fun W => by
        have := part_str s2 (16 * (68 + j)) (by omega) W
        rw [← hsx, show ((16 * (68 + j) : Nat) : Int) = 16 * (68 + (j : Int)) by omega] at this
        exact this
      have L0 := Lib.hid hl0
      obtain ⟨D', hD'⟩ : ∃ D', D' = climbOf ix Lf X2 (j + 1) := ⟨_, rfl⟩
      have HD' := Lib.hid hD'
      have HDl' := Lib.hid (show D'.length = 16 by rw [hD']; exact climb_len _ _ _ HLfl.out _)
      have hnj64 : nj < 64 := by rw [Hnj.out]; exact Nat.lt_of_le_of_lt (Nat.div_le_self _ _) (by omega)
      clear hD0 hl0 hsx hsxl
      go_wp2_with fail
      refine (rdigest_any sx _ hzx.1 hzx.2 D0 H0).mono ?_; rintro e w6 ⟨rfl, hb6⟩
      have B6 := Lib.hid (hb.out.trans (hb6.mono hb.out.size))
      have KV6 := Lib.hid (KV.out.below hb6 KV.out.lt)
      clear hb6
      obtain ⟨w7, hw7⟩ : ∃ W, W = (w6.alloc (.cells Z16.toArray 23)).setRow w6.heap.size (B8 D0).toArray := ⟨_, rfl⟩
      have B7 := Lib.hid (show Below wL.heap.size wL w7 by rw [hw7]; exact belowRow (B6.out.alloc B6.out.size _) B6.out.size _)
      have KV7 := Lib.hid (show Blk w7 w3.heap.size 23 (B8 V) by rw [hw7]; exact (KV6.out.alloc _).setRow (by have := KV6.out.lt; omega) _)
      have AV7 := Lib.hid KV7.out.at
      have AD7 := Lib.hid (show Blk w7 w6.heap.size 23 (B8 D0) by rw [hw7]; exact (Blk.new w6 23 Z16).row _).at
      have HW7 := Lib.hid hw7
      clear hw7
      by_cases hpar : nj % 2 = 0
      · have hpb : ((nj : Int) % 2 == 1) = false := by rw [beq_eq_false_iff_ne]; omega
        have HP := Lib.hid hpar
        clear hpar
        have HN := Lib.hid (show D' = nodeOf V D0 by rw [hD', climbOf, ← Hnj.out, if_pos HP.out, ← hV, ← hD0e])
        clear hD' hV hD0e
        go_wp2_with (first
          | (with_reducible refine wpList_store_row rfl 23 (.tmp 21) (.tmp 102) rfl w6.heap.size (B8 D0).toArray rfl rfl 23 _ (heap_alloc_new w6 _) (size23' _ L0.out) (Z16_size _ L0.out) (one8 _) ?_; rw [← HW7.out])
          | (with_reducible refine wpList_load_at rfl 23 (.tmp 18) rfl ⟨w3.heap.size, 0, none⟩ rfl (B8 V) (.array 16 5) AV7.out Tryd.underlying23 rfl (size23 _ HVl.out) ?_)
          | (with_reducible refine wpList_load_at rfl 23 (.tmp 21) rfl ⟨w6.heap.size, 0, none⟩ rfl (B8 D0) (.array 16 5) AD7.out Tryd.underlying23 rfl (size23 _ L0.out) ?_))
        refine (rnode_any V D0 w7 HVl.out L0.out (HT.out.below (BL.out.trans (B7.out.mono BL.out.size)) HT.out.1) D' HN).mono ?_; rintro e w8 ⟨rfl, hb8⟩
        have B8' := Lib.hid (B7.out.trans (hb8.mono B7.out.size))
        have K8 := Lib.hid (show w8.heap[w3.heap.size]? = some (.cells (B8 V).toArray 23 (0, 0)) from KV7.out.below hb8 KV7.out.lt)
        have K8' := Lib.hid (Blk.row (show Blk w8 w3.heap.size 23 (B8 V) from K8.out) (B8 D'))
        have B9 := Lib.hid (belowRow B8'.out BW3.out (B8 D').toArray)
        clear hb8
        go_wp2_with (with_reducible refine wpList_store_row rfl 23 (.tmp 18) (.tmp 111) rfl w3.heap.size (B8 D').toArray rfl rfl 23 _ K8.out (size23' _ HDl'.out) (by rw [List.size_toArray, List.size_toArray, B8_len, B8_len, HDl'.out, HVl.out]) (one8 _) ?_)
        go_roundw
        case rel =>
          have hr1 : ∃ (jj nn : Nat), jj ≤ h ∧ Value.int .i64 ((nj : Int) / 2) = .int .i64 (nn : Int) ∧ Value.int .i64 ((j : Int) + 1) = .int .i64 (jj : Int) ∧ Hid (nn = ix / 2 ^ jj) ∧ Hid (Blk (w8.setRow w3.heap.size (B8 D').toArray) w3.heap.size 23 (B8 (climbOf ix Lf X2 jj))) ∧ Hid (Below wL.heap.size wL (w8.setRow w3.heap.size (B8 D').toArray)) :=
            ⟨j + 1, nj / 2, by omega, by rw [Int.natCast_ediv]; rfl, by go_num, Lib.hid (by rw [Hnj.out, Nat.div_div_eq_div_mul, Nat.pow_succ]), Lib.hid (by rw [← HD'.out]; exact K8'.out), B9⟩
          first
            | exact hr1
            | ((repeat apply Exists.intro); exact ⟨hr1, rfl⟩)
        case measure => simp [intOf]; omega
      · have hpb : ((nj : Int) % 2 == 1) = true := by rw [beq_iff_eq]; omega
        have HP := Lib.hid hpar
        clear hpar
        have HN := Lib.hid (show D' = nodeOf D0 V by rw [hD', climbOf, ← Hnj.out, if_neg HP.out, ← hV, ← hD0e])
        clear hD' hV hD0e
        go_wp2_with (first
          | (with_reducible refine wpList_store_row rfl 23 (.tmp 21) (.tmp 102) rfl w6.heap.size (B8 D0).toArray rfl rfl 23 _ (heap_alloc_new w6 _) (size23' _ L0.out) (Z16_size _ L0.out) (one8 _) ?_; rw [← HW7.out])
          | (with_reducible refine wpList_load_at rfl 23 (.tmp 18) rfl ⟨w3.heap.size, 0, none⟩ rfl (B8 V) (.array 16 5) AV7.out Tryd.underlying23 rfl (size23 _ HVl.out) ?_)
          | (with_reducible refine wpList_load_at rfl 23 (.tmp 21) rfl ⟨w6.heap.size, 0, none⟩ rfl (B8 D0) (.array 16 5) AD7.out Tryd.underlying23 rfl (size23 _ L0.out) ?_))
        refine (rnode_any D0 V w7 L0.out HVl.out (HT.out.below (BL.out.trans (B7.out.mono BL.out.size)) HT.out.1) D' HN).mono ?_; rintro e w8 ⟨rfl, hb8⟩
        have B8' := Lib.hid (B7.out.trans (hb8.mono B7.out.size))
        have K8 := Lib.hid (show w8.heap[w3.heap.size]? = some (.cells (B8 V).toArray 23 (0, 0)) from KV7.out.below hb8 KV7.out.lt)
        have K8' := Lib.hid (Blk.row (show Blk w8 w3.heap.size 23 (B8 V) from K8.out) (B8 D'))
        have B9 := Lib.hid (belowRow B8'.out BW3.out (B8 D').toArray)
        clear hb8
        go_wp2_with (with_reducible refine wpList_store_row rfl 23 (.tmp 18) (.tmp 108) rfl w3.heap.size (B8 D').toArray rfl rfl 23 _ K8.out (size23' _ HDl'.out) (by rw [List.size_toArray, List.size_toArray, B8_len, B8_len, HDl'.out, HVl.out]) (one8 _) ?_)
        go_roundw
        case rel =>
          have hr1 : ∃ (jj nn : Nat), jj ≤ h ∧ Value.int .i64 ((nj : Int) / 2) = .int .i64 (nn : Int) ∧ Value.int .i64 ((j : Int) + 1) = .int .i64 (jj : Int) ∧ Hid (nn = ix / 2 ^ jj) ∧ Hid (Blk (w8.setRow w3.heap.size (B8 D').toArray) w3.heap.size 23 (B8 (climbOf ix Lf X2 jj))) ∧ Hid (Below wL.heap.size wL (w8.setRow w3.heap.size (B8 D').toArray)) :=
            ⟨j + 1, nj / 2, by omega, by rw [Int.natCast_ediv]; rfl, by go_num, Lib.hid (by rw [Hnj.out, Nat.div_div_eq_div_mul, Nat.pow_succ]), Lib.hid (by rw [← HD'.out]; exact K8'.out), B9⟩
          first
            | exact hr1
            | ((repeat apply Exists.intro); exact ⟨hr1, rfl⟩)
        case measure => simp [intOf]; omega
    · obtain rfl : j = h := by omega
      have HVR := Lib.hid (show V = Rt by rw [hV, HRoot.out])
      have KR := Lib.hid (show Blk wr w3.heap.size 23 (B8 Rt) by rw [← HVR.out]; exact KV.out).at
      have KPr := Lib.hid (KPL.out.below hb.out KPL.out.lt).at
      have heq := fun W => eqi23 Rt p HRtl.out HPl.out W
      obtain ⟨q, hq⟩ : ∃ q, q = (Rt == p) := ⟨_, rfl⟩
      rw [← hq] at heq
      have HQq := Lib.hid hq
      have HEQ := Lib.hid heq
      clear hq hV heq
      cases q with
      | true =>
        have heq := HEQ.out
        go_wp2_with (first
          | (with_reducible refine wpList_load_at rfl 23 (.tmp 18) rfl ⟨w3.heap.size, 0, none⟩ rfl (B8 Rt) (.array 16 5) KR.out Tryd.underlying23 rfl (size23 _ HRtl.out) ?_)
          | (with_reducible refine wpList_load_at rfl 23 (.tmp 4) rfl ⟨w.heap.size, 0, none⟩ rfl (B8 p) (.array 16 5) KPr.out Tryd.underlying23 rfl (size23 _ HPl.out) ?_))
        go_ret2
        exact ⟨by rw [← HQq.out]; rfl, BL.out.trans (hb.out.mono BL.out.size)⟩
      | false =>
        have heq := HEQ.out
        go_wp2_with (first
          | (with_reducible refine wpList_load_at rfl 23 (.tmp 18) rfl ⟨w3.heap.size, 0, none⟩ rfl (B8 Rt) (.array 16 5) KR.out Tryd.underlying23 rfl (size23 _ HRtl.out) ?_)
          | (with_reducible refine wpList_load_at rfl 23 (.tmp 4) rfl ⟨w.heap.size, 0, none⟩ rfl (B8 p) (.array 16 5) KPr.out Tryd.underlying23 rfl (size23 _ HPl.out) ?_))
        go_ret2
        exact ⟨by rw [← HQq.out]; rfl, BL.out.trans (hb.out.mono BL.out.size)⟩
end Go.Proofs.YtgonidjajmjniaaDoor

