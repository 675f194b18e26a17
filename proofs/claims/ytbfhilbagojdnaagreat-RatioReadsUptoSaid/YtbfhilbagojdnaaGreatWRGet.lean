/-
  The contract of the reference's GetInt: it returns the decoding of the integer at the beginning of the bytes.
  Condition: at most 2^40 bytes.
-/
import Derived.Test.YtbfhilbagojdnaaGreatWRLists
import Derived.Test.YtbfhilbagojdnaaGreatWGet
import Derived.Test.YtbfhilbagojdnaaGreatWAux
import Derived.Test.YtbfhilbagojdnaaGreatWPure4
namespace Go.Proofs.YtbfhilbagojdnaaGreat.W1
open Go.RowKit Go.Proofs.YtbfhilbagojdnaaGreat.Wr Go.Proofs.YtbfhilbagojdnaaGreat.W1.Wr
set_option linter.unusedVariables false
set_option maxRecDepth 100000

theorem cnt_pos (h : UInt8) (hh : 128 ≤ h.toNat) : cnt h = h.toNat - 128 ∧ flag h = 0 := by
  rcases flag_cases h with ⟨h1, h2⟩ | ⟨h1, h2⟩
  · refine ⟨?_, h1⟩
    unfold cnt; rw [h1]; simp
  · omega
theorem cnt_neg (h : UInt8) (hh : h.toNat < 128) : cnt h = 127 - h.toNat ∧ flag h = 255 := by
  rcases flag_cases h with ⟨h1, h2⟩ | ⟨h1, h2⟩
  · omega
  · refine ⟨?_, h1⟩
    unfold cnt; rw [h1]
    have := flip_toNat h
    omega
theorem val_tk (l : List UInt8) (j : Nat) (h : j < l.length) : val (l.take (j + 1)) = val (l.take j) * 256 + l[j].toNat := by
  rw [List.take_succ_eq_append_getElem h, val_snoc]
theorem val_mono (l : List UInt8) : ∀ (e j : Nat), j + e ≤ l.length → val (l.take j) * 256 ^ e ≤ val (l.take (j + e)) := by
  intro e
  induction e with
  | zero => intro j _; simp
  | succ e ih =>
    intro j h
    have h1 := ih j (by omega)
    rw [← Nat.add_assoc, val_tk l (j + e) (by omega), Nat.pow_succ, ← Nat.mul_assoc]
    exact Nat.le_trans (Nat.mul_le_mul_right 256 h1) (Nat.le_add_right _ _)
/-- The digits, and whether they come to an integer. -/
theorem ref_ok (h : UInt8) (t : List UInt8) (n : Int) (h8 : cnt h ≤ 8) (hs : cnt h ≤ t.length) (hm : val ((t.take (cnt h)).map (· ^^^ flag h)) ≤ 9223372036854775807)
    (hn : n = if flag h = 0 then (val ((t.take (cnt h)).map (· ^^^ flag h)) : Int) else -1 - (val ((t.take (cnt h)).map (· ^^^ flag h)) : Int)) :
    decInt (h :: t) = if enc n = (h :: t).take (cnt h + 1) then (n, cnt h + 1, 0) else (0, 0, 2) := by
  have hb : -9223372036854775808 ≤ n ∧ n ≤ 9223372036854775807 := by rw [hn]; split <;> omega
  have hd := decInt_cons h t
  rw [if_neg (by omega), if_neg (by omega)] at hd
  by_cases hz : 0 < cnt h ∧ t.head? = some (flag h)
  · rw [if_pos (.inl hz)] at hd
    rw [if_neg]
    · exact hd
    · intro he
      have h1 := decInt_enc n ((h :: t).drop (cnt h + 1)) hb.1 hb.2
      rw [he, List.take_append_drop, hd] at h1
      simp at h1
  · rw [if_neg (by
      rintro (h1 | h1)
      · exact hz h1
      · rw [maxI_lt] at h1; omega), ← hn] at hd
    have hk := decInt_back (h :: t) n (1 + cnt h) hd
    rw [if_pos (by rw [Nat.add_comm (cnt h) 1]; exact hk.2.1.symm), hd, Nat.add_comm]
theorem ref_big (h : UInt8) (t : List UInt8) (j : Nat) (h8 : cnt h ≤ 8) (hs : cnt h ≤ t.length) (hj : j < cnt h) (hb : 36028797018963967 < val ((t.map (· ^^^ flag h)).take j)) :
    decInt (h :: t) = (0, 0, 2) := by
  rw [decInt_cons, if_neg (by omega), if_neg (by omega), if_pos]
  right
  rw [maxI_lt, List.map_take]
  have h1 := val_mono (t.map (· ^^^ flag h)) (cnt h - j) j (by rw [List.length_map]; omega)
  rw [show j + (cnt h - j) = cnt h by omega] at h1
  have h2 : 256 ^ 1 ≤ 256 ^ (cnt h - j) := Nat.pow_le_pow_right (by decide) (by omega)
  have h3 := Nat.mul_le_mul_left (val ((t.map (· ^^^ flag h)).take j)) h2
  rw [Nat.pow_one] at h3
  have h4 := Nat.le_trans h3 h1
  generalize val ((t.map (· ^^^ flag h)).take (cnt h)) = X at h4 ⊢
  generalize val ((t.map (· ^^^ flag h)).take j) = Y at h4 hb
  omega
/-- A cut of a slice of bytes from its beginning. -/
theorem slice_to (A : Option Addr) (g o n c k : Nat) (hA : A = some ⟨g, o, none⟩) (hk : k ≤ c) (W : World) : (Instr.sliceAt 38 (.slice A n c) none (some (.int .i64 (k : Int))) none).run Tryz.prog W = .ok (.slice A k c) W := by
  subst hA
  have hu : Tryz.prog.underlying 38 = some (.slice (Tryz.prog.elem 38)) := by kernel_rfl
  have he : Tryz.prog.elem 38 = 5 := by kernel_rfl
  have h5 : (sizeOf 5).run Tryz.prog W = .ok 1 W := by kernel_rfl
  rw [run_sliceAt_slice W 38 _ _ _ _ hu, run_slice_h W 38 (some ⟨g, o, none⟩) n c hu .i64 k (by omega) (by omega), he, h5]
  simp only [Result.andThen, sliced, Int.toNat_natCast, Nat.sub_zero]
  by_cases h0 : c = 0
  · simp [h0]
  · simp [h0, Addr.add_lit]

set_option maxRecDepth 100000 in
set_option maxHeartbeats 4000000 in
theorem rgetInt_any (A : Option Addr) (b : List UInt8) (c : Nat) (w : World) (hr : Rd w w.heap.size A (B8 b)) (hc : b.length ≤ c) (hl : b.length ≤ 1099511627776) :
    Calls Tryz.prog 122 #[.slice A b.length c] w fun e w' => e = .returned (.tuple #[.int .i64 (decInt b).1, .int .i64 ((decInt b).2.1 : Nat), .int .i64 ((decInt b).2.2 : Nat)]) ∧ Below w.heap.size w w' := by
  cases b with
  | nil =>
    go_enter Tryz.func122, Tryz.ntmps122
    go_wp2
    go_ret3
    exact ⟨rfl, Below.refl _ _⟩
  | cons h t =>
    obtain ⟨g, o, rfl, hg, hcell⟩ := hr (by simp [B8])
    have hc0 : w.cell? ⟨g, o, none⟩ = some (.int .u8 (h.toNat : Int)) := hcell 0 _ (by simp [B8])
    have HR := Lib.hid hr
    have HC := Lib.hid hcell
    obtain ⟨D, hD⟩ : ∃ D, D = decInt (h :: t) := ⟨_, rfl⟩
    rw [← hD]
    obtain ⟨N, hN⟩ : ∃ N, N = t.length := ⟨_, rfl⟩
    have HLEN := Lib.hid (show (h :: t).length = N + 1 by rw [List.length_cons, hN])
    rw [List.length_cons, ← hN] at hc hl ⊢
    have HN := Lib.hid hN
    obtain ⟨K, hK⟩ : ∃ K, K = cnt h := ⟨_, rfl⟩
    have hh := h.toNat_lt
    have hsg : (128 ≤ h.toNat ∧ K = h.toNat - 128) ∨ (h.toNat < 128 ∧ K = 127 - h.toNat) := by
      rcases Nat.lt_or_ge h.toNat 128 with h1 | h1
      · exact .inr ⟨h1, by rw [hK]; exact (cnt_neg h h1).1⟩
      · exact .inl ⟨h1, by rw [hK]; exact (cnt_pos h h1).1⟩
    have hw : IntKind.i64.wrap (h.toNat : Int) = (h.toNat : Int) := IntWalk.i64_in _ (by omega)
    by_cases h8 : 8 < K
    · have e : D = (0, 0, 2) := by rw [hD, decInt_cons, if_pos (by rw [← hK]; exact h8)]
      subst e
      have hq : ((h.toNat : Int) < 119) ∨ (¬ (h.toNat : Int) < 119 ∧ (136 : Int) < (h.toNat : Int)) := by omega
      clear hsg hD hN hK h8 hcell hr
      rcases hq with hq | ⟨hq, hq2⟩
      · go_enter Tryz.func122, Tryz.ntmps122
        go_wp2
        go_ret3
        exact ⟨rfl, Below.refl _ _⟩
      · go_enter Tryz.func122, Tryz.ntmps122
        go_wp2
        go_ret3
        exact ⟨rfl, Below.refl _ _⟩
    have q1 : ¬ (h.toNat : Int) < 119 := by omega
    have q2 : ¬ (136 : Int) < (h.toNat : Int) := by omega
    have hw1 : IntKind.i64.wrap ((h.toNat : Int) - 128) = (h.toNat : Int) - 128 := IntWalk.i64_in _ (by omega)
    have hw2 : IntKind.i64.wrap (127 - (h.toNat : Int)) = 127 - (h.toNat : Int) := IntWalk.i64_in _ (by omega)
    have HK := Lib.hid hK
    have HD := Lib.hid hD
    have HSG := Lib.hid hsg
    have H8 := Lib.hid h8
    clear hsg hD hN hK h8 hcell hr
    go_enter Tryz.func122, Tryz.ntmps122
    go_upto_if 27 with (fail)
    go_cut [6] (fun s6 wx => s6 = .int .i64 (K : Int) ∧ w = wx)
    case first =>
      rcases HSG.out with ⟨g1, g2⟩ | ⟨g1, g2⟩
      · have g3 : ¬ (h.toNat : Int) < 128 := by omega
        have G2 := Lib.hid g2
        clear g2
        go_wp2
        go_meet
        exact ⟨by have := G2.out; congr 1; omega, rfl⟩
      · have g3 : (h.toNat : Int) < 128 := by omega
        have G2 := Lib.hid g2
        clear g2
        go_wp2
        go_meet
        exact ⟨by have := G2.out; congr 1; omega, rfl⟩
    case rest =>
      obtain ⟨rfl, rfl⟩ := hcut
      have hw3 : IntKind.i64.wrap ((K : Int) + 1) = (K : Int) + 1 := IntWalk.i64_in _ (by have := H8.out; omega)
      by_cases hshort : N < K
      · have e : D = (0, 0, 3) := by
          have := HK.out; have := H8.out; have := HN.out
          rw [HD.out, decInt_cons, if_neg (by omega), if_pos (by omega)]
        subst e
        have g3 : (N : Int) + 1 < (K : Int) + 1 := by omega
        clear hshort
        go_wp2
        go_ret3
        exact ⟨rfl, Below.refl _ _⟩
      · have g3 : ¬ (N : Int) + 1 < (K : Int) + 1 := by omega
        go_wp2_with fail
        go_loopw [7, 8] (fun s7 s8 wr => ∃ (i m : Nat), 1 ≤ i ∧ i ≤ K + 1 ∧ s7 = .int .i64 (m : Int) ∧ s8 = .int .i64 (i : Int) ∧ Hid (m ≤ 9223372036854775807) ∧ Hid (m = val ((t.map (· ^^^ flag h)).take (i - 1))) ∧ w = wr) (fun _ s8 _ => K + 1 - (intOf s8).toNat)
        case atStart => exact ⟨1, 0, Nat.le_refl _, by omega, rfl, rfl, Lib.hid (by decide), Lib.hid rfl, rfl⟩
        case round =>
          obtain ⟨i, m, hi1, hi2, rfl, rfl, HB, HM, rfl⟩ := hrel
          by_cases hlt : i ≤ K
          · have hlt' : (i : Int) ≤ (K : Int) := by omega
            have hiN : (i : Int) < (N : Int) + 1 := by omega
            have hit : i - 1 < t.length := by have := HN.out; omega
            obtain ⟨x, hx⟩ : ∃ x, x = t[i - 1] := ⟨_, rfl⟩
            have hci : w.cell? ⟨g, o + i, none⟩ = some (.int .u8 (x.toNat : Int)) := by
              refine HC.out i _ ?_
              have hi0 : i = (i - 1) + 1 := by omega
              rw [hi0]
              simp only [B8, List.map_cons, List.getElem?_cons_succ, List.getElem?_map, List.getElem?_eq_getElem hit, Option.map_some, hx]
            have hwx : IntKind.i64.wrap (x.toNat : Int) = (x.toNat : Int) := IntWalk.i64_in _ (by have := x.toNat_lt; omega)
            obtain ⟨y, hy⟩ : ∃ y, y = x ^^^ flag h := ⟨_, rfl⟩
            have HM2 := Lib.hid (show 256 * m + y.toNat = val ((t.map (· ^^^ flag h)).take (i + 1 - 1)) by
              rw [show i + 1 - 1 = (i - 1) + 1 by omega, val_tk _ (i - 1) (by rw [List.length_map]; exact hit), ← HM.out, List.getElem_map, ← hx, ← hy]; omega)
            have HY := Lib.hid hy
            have hyl := y.toNat_lt
            have hxl := x.toNat_lt
            clear hx hy
            rcases HSG.out with ⟨g1, g2⟩ | ⟨g1, g2⟩
            · have g5 : ¬ (h.toNat : Int) < 128 := by omega
              have G2 := Lib.hid g2
              clear g2
              by_cases hbig : 36028797018963967 < m
              · have hbig' : (36028797018963967 : Int) < (m : Int) := by omega
                have e : D = (0, 0, 2) := by
                  rw [HD.out]
                  have hk := HK.out
                  have h88 := H8.out
                  have hn := HN.out
                  exact ref_big h t (i - 1) (by omega) (by omega) (by omega) (by rw [← HM.out]; exact hbig)
                subst e
                clear hbig
                go_wp2
                go_ret3
                exact ⟨rfl, Below.refl _ _⟩
              · have hbig' : ¬ (36028797018963967 : Int) < (m : Int) := by omega
                have hw5 : IntKind.i64.wrap (256 * (m : Int)) = 256 * (m : Int) := IntWalk.i64_in _ (by omega)
                have hw6 : IntKind.i64.wrap (256 * (m : Int) + (y.toNat : Int)) = 256 * (m : Int) + (y.toNat : Int) := IntWalk.i64_in _ (by omega)
                have HBG := Lib.hid (show 256 * m + y.toNat ≤ 9223372036854775807 by omega)
                have hxy : (x.toNat : Int) = (y.toNat : Int) := by rw [HY.out, (cnt_pos h g1).2]; simp
                clear hbig
                go_wp2_with fail
                go_roundw
                case rel =>
                  refine ⟨i + 1, 256 * m + y.toNat, by omega, by omega, ?_, by go_num, HBG, HM2, trivial⟩
                  rw [show ((256 * m + y.toNat : Nat) : Int) = 256 * (m : Int) + (y.toNat : Int) by omega]
                case measure => simp only [intOf]; omega
            · have g5 : (h.toNat : Int) < 128 := by omega
              have G2 := Lib.hid g2
              clear g2
              by_cases hbig : 36028797018963967 < m
              · have hbig' : (36028797018963967 : Int) < (m : Int) := by omega
                have e : D = (0, 0, 2) := by
                  rw [HD.out]
                  have hk := HK.out
                  have h88 := H8.out
                  have hn := HN.out
                  exact ref_big h t (i - 1) (by omega) (by omega) (by omega) (by rw [← HM.out]; exact hbig)
                subst e
                clear hbig
                go_wp2
                go_ret3
                exact ⟨rfl, Below.refl _ _⟩
              · have hbig' : ¬ (36028797018963967 : Int) < (m : Int) := by omega
                have hw5 : IntKind.i64.wrap (256 * (m : Int)) = 256 * (m : Int) := IntWalk.i64_in _ (by omega)
                have hw6 : IntKind.i64.wrap (256 * (m : Int) + (y.toNat : Int)) = 256 * (m : Int) + (y.toNat : Int) := IntWalk.i64_in _ (by omega)
                have HBG := Lib.hid (show 256 * m + y.toNat ≤ 9223372036854775807 by omega)
                have hxy : 255 - (x.toNat : Int) = (y.toNat : Int) := by rw [HY.out, (cnt_neg h g1).2, flip_toNat]; omega
                have hw7 : IntKind.i64.wrap (y.toNat : Int) = (y.toNat : Int) := IntWalk.i64_in _ (by omega)
                clear hbig
                go_wp2_with fail
                go_roundw
                case rel =>
                  refine ⟨i + 1, 256 * m + y.toNat, by omega, by omega, ?_, by go_num, HBG, HM2, trivial⟩
                  rw [show ((256 * m + y.toNat : Nat) : Int) = 256 * (m : Int) + (y.toNat : Int) by omega]
                case measure => simp only [intOf]; omega
          · obtain rfl : i = K + 1 := by omega
            have hgt : ¬ ((K + 1 : Nat) : Int) ≤ (K : Int) := by omega
            obtain ⟨n, hn⟩ : ∃ n : Int, n = if flag h = 0 then (m : Int) else -1 - (m : Int) := ⟨_, rfl⟩
            have HNN := Lib.hid hn
            clear hn
            go_upto_if 57 with (fail)
            go_cut [10] (fun s10 wx => s10 = .int .i64 n ∧ w = wx)
            case first =>
              have hb := HB.out
              rcases HSG.out with ⟨g1, g2⟩ | ⟨g1, g2⟩
              · have g5 : ¬ (h.toNat : Int) < 128 := by omega
                have HE := Lib.hid (show n = (m : Int) by rw [HNN.out, if_pos (cnt_pos h g1).2])
                clear g2 hb
                go_wp2
                go_meet
                exact ⟨by rw [HE.out], rfl⟩
              · have g5 : (h.toNat : Int) < 128 := by omega
                have HE := Lib.hid (show n = -1 - (m : Int) by rw [HNN.out, if_neg (by rw [(cnt_neg h g1).2]; decide)])
                have hw9 : IntKind.i64.wrap (-1 - (m : Int)) = -1 - (m : Int) := IntWalk.i64_in _ (by omega)
                clear g2 hb
                go_wp2
                go_meet
                exact ⟨by rw [HE.out], rfl⟩
            case rest =>
              obtain ⟨rfl, rfl⟩ := hcut
              have hKt : K ≤ t.length := by have := HN.out; omega
              have hmv : m = val ((t.take (cnt h)).map (· ^^^ flag h)) := by rw [HM.out, List.map_take, Nat.add_sub_cancel, HK.out]
              have hD2 := ref_ok h t n (by rw [← HK.out]; exact Nat.le_of_not_lt H8.out) (by rw [← HK.out]; exact hKt) (by rw [← hmv]; exact HB.out) (by rw [← hmv]; exact HNN.out)
              rw [← HD.out, ← HK.out] at hD2
              obtain ⟨P, hP⟩ : ∃ P, P = (h :: t).take (K + 1) := ⟨_, rfl⟩
              rw [← hP] at hD2
              have hPl : P.length = K + 1 := by rw [hP, List.length_take, HLEN.out]; omega
              have hPr : Rd w w.heap.size (some ⟨g, o, none⟩) (B8 P) := by
                have := HR.out.take (K + 1)
                rw [hP]
                rwa [show (B8 (h :: t)).take (K + 1) = B8 ((h :: t).take (K + 1)) by simp [B8]] at this
              have hnb : -9223372036854775808 ≤ n ∧ n ≤ 9223372036854775807 := by
                have := HB.out
                rw [HNN.out]; split <;> omega
              have HINT := Lib.hid (show ∀ W, Calls Tryz.prog 90 #[.int .i64 n] W fun e w' => ∃ (A' : Option Addr) (c' : Nat), e = .returned (.slice A' (enc n).length c') ∧ Rd w' w'.heap.size A' (B8 (enc n)) ∧ Below W.heap.size W w' from fun W => by
                refine (rint_any n W hnb.1 hnb.2).mono ?_
                rintro e w' ⟨v, rfl, ho, hb⟩
                obtain ⟨A', c', rfl, _, _, h3⟩ := own_form ho
                exact ⟨A', c', rfl, h3, hb⟩)
              have HSAME := Lib.hid (show ∀ W A' c', Rd W W.heap.size A' (B8 (enc n)) → Rd W W.heap.size (some ⟨g, o, none⟩) (B8 P) → Calls Tryz.prog 28 #[.slice A' (enc n).length c', .slice (some ⟨g, o, none⟩) (K + 1) c] W fun e w' => e = .returned (.bool (decide (enc n = P))) ∧ ∃ q, w' = W.drewN q from fun W A' c' h1 h2 => by
                have := same_any A' (some ⟨g, o, none⟩) (enc n) P c' c W W.heap.size h1 h2 (by have := (enc_le n).2; omega) (by rw [hPl]; have := H8.out; omega)
                rw [hPl] at this
                exact this)
              have HPR := Lib.hid hPr
              obtain ⟨E, hE⟩ : ∃ E, E = decide (enc n = P) := ⟨_, rfl⟩
              rw [← hE] at HSAME
              have hK1 : ((K : Int) + 1) ≤ (c : Int) := by omega
              have hK1' : K + 1 ≤ c := by omega
              have hKt1 : ((K : Int) + 1).toNat = K + 1 := by omega
              obtain ⟨L0, hL0⟩ : ∃ L, L = (enc n).length := ⟨_, rfl⟩
              rw [← hL0] at HINT HSAME
              have hDE : D = if E = true then (n, K + 1, 0) else (0, 0, 2) := by
                rw [hD2, hE]; simp only [decide_eq_true_eq]
              have HDE := Lib.hid hDE
              have hS0 : Below w.heap.size w w.drew := (Below.refl _ _).drew
              clear hD2 hP hPl hPr hE hL0 hDE hmv hnb hKt hgt
              have hsl : ∀ W, (Instr.sliceAt 38 (.slice (some ⟨g, o, none⟩) (N + 1) c) none (some (.int .i64 ((K : Int) + 1))) none).run Tryz.prog W = .ok (.slice (some ⟨g, o, none⟩) (K + 1) c) W := slice_to (some ⟨g, o, none⟩) g o (N + 1) c (K + 1) rfl (by omega)
              go_upto_region 24 with (fail)
              refine wp_region_held (S := fun W => Below w.heap.size w W) (by kernel_rfl) ?_
              change wpAnyH _ _ _ _ _ _ _ _ (World.drew w)
              refine wpAnyH_take (i := 0) (oi := { dst := some 60, op := Op.move (Operand.tmp 10), type := 3, pos := "ref.go:80", after := #[], guard := none }) (v := .int .i64 n) rfl (by kernel_rfl) (by kernel_rfl) (by kernel_rfl) (fun _ _ _ h => h) (Or.inl ⟨by rfl, fun W hW => ?y1⟩) hS0 ?_
              case y1 => go_simp
              try dsimp only [Act.put]
              try simp only [List.setIfInBounds_toArray, List.set_cons_zero, List.set_cons_succ]
              refine wpAnyH_take (i := 2) (oi := { dst := some 62, op := Op.move (Operand.tmp 0), type := 38, pos := "ref.go:80", after := #[], guard := none }) (v := .slice (some ⟨g, o, none⟩) (N + 1) c) rfl (by kernel_rfl) (by kernel_rfl) (by kernel_rfl) (fun _ _ _ h => h) (Or.inl ⟨by rfl, fun W hW => ?y2⟩) hS0 ?_
              case y2 => go_simp
              try dsimp only [Act.put]
              try simp only [List.setIfInBounds_toArray, List.set_cons_zero, List.set_cons_succ]
              refine wpAnyH_take (i := 3) (oi := { dst := some 63, op := Op.move (Operand.tmp 6), type := 3, pos := "ref.go:80", after := #[], guard := none }) (v := .int .i64 (K : Int)) rfl (by kernel_rfl) (by kernel_rfl) (by kernel_rfl) (fun _ _ _ h => h) (Or.inl ⟨by rfl, fun W hW => ?y3⟩) hS0 ?_
              case y3 => go_simp
              try dsimp only [Act.put]
              try simp only [List.setIfInBounds_toArray, List.set_cons_zero, List.set_cons_succ]
              refine wpAnyH_take (i := 4) (oi := { dst := some 64, op := Op.binOp BinOp.add 3 (Operand.tmp 63) (Operand.const (Value.int IntKind.i64 1)) 3, type := 3, pos := "ref.go:80", after := #[{ on := 3, ground := Ground.data }], guard := none }) (v := .int .i64 ((K : Int) + 1)) rfl (by kernel_rfl) (by kernel_rfl) (by kernel_rfl) (fun _ _ _ h => h) (Or.inl ⟨by rfl, fun W hW => ?y4⟩) hS0 ?_
              case y4 => go_simp
              try dsimp only [Act.put]
              try simp only [List.setIfInBounds_toArray, List.set_cons_zero, List.set_cons_succ]
              refine wpAnyH_take (i := 5) (oi := { dst := some 65, op := Op.slice 38 (Operand.tmp 62) none (some (Operand.tmp 64)) none, type := 38, pos := "ref.go:80", after := #[{ on := 2, ground := Ground.data }, { on := 4, ground := Ground.data }], guard := none }) (v := .slice (some ⟨g, o, none⟩) (K + 1) c) rfl (by kernel_rfl) (by kernel_rfl) (by kernel_rfl) (fun _ _ _ h => h) (Or.inl ⟨by rfl, fun W hW => ?y5⟩) hS0 ?_
              case y5 => go_simp
              try dsimp only [Act.put]
              try simp only [List.setIfInBounds_toArray, List.set_cons_zero, List.set_cons_succ]
              refine wpAnyH_ready (rs := [1]) (by kernel_rfl) (by simp) ?_
              refine AllReadyH.cons (o := { dst := some 61, op := Op.call { callee := Callee.value (Operand.func 90), args := #[Operand.tmp 60], argTypes := #[3] }, type := 38, pos := "ref.go:80", after := #[{ on := 0, ground := Ground.data }], guard := none }) rfl (fun K hK => ?_) AllReadyH.nil
              rw [if_pos (by rfl)]
              go_simp
              refine (HINT.out _).mono ?_
              rintro e w3 ⟨A3, c3, rfl, r3, hb3⟩
              have hS1 : Below w.heap.size w w3 := hS0.trans (hb3.mono hS0.size)
              have R3 := Lib.hid r3
              clear r3
              go_wp2_with fail
              refine hK.out _ _ hS1 (fun _ => ?_)
              clear hK K
              try dsimp only [Act.put]
              try simp only [List.setIfInBounds_toArray, List.set_cons_zero, List.set_cons_succ]
              refine wpAnyH_ready (rs := [6]) (by kernel_rfl) (by simp) ?_
              refine AllReadyH.cons (o := { dst := some 66, op := Op.call { callee := Callee.value (Operand.func 28), args := #[Operand.tmp 61, Operand.tmp 65], argTypes := #[38, 38] }, type := 4, pos := "ref.go:80", after := #[{ on := 1, ground := Ground.data }, { on := 5, ground := Ground.data }, { on := 1, ground := Ground.chain }], guard := none }) rfl (fun K hK => ?_) AllReadyH.nil
              rw [if_pos (by rfl)]
              go_simp
              refine (HSAME.out _ A3 c3 R3.out ((HPR.out.below hS1).more hS1.size)).mono ?_
              rintro e w4 ⟨rfl, q, rfl⟩
              have hS2 : Below w.heap.size w (w3.drewN q) := ⟨hS1.os, hS1.tape, hS1.output, hS1.size, hS1.block⟩
              go_wp2_with fail
              refine hK.out _ _ hS2 (fun _ => ?_)
              clear hK K
              try dsimp only [Act.put]
              try simp only [List.setIfInBounds_toArray, List.set_cons_zero, List.set_cons_succ]
              refine wpAnyH_take (i := 7) (oi := { dst := some 67, op := Op.unOp UnOp.not 4 (Operand.tmp 66), type := 4, pos := "ref.go:80", after := #[{ on := 6, ground := Ground.data }], guard := none }) (v := .bool (!E)) rfl (by kernel_rfl) (by kernel_rfl) (by kernel_rfl) (fun _ _ _ h => h) (Or.inl ⟨by rfl, fun W hW => ?y6⟩) hS2 ?_
              case y6 => go_simp
              try dsimp only [Act.put]
              try simp only [List.setIfInBounds_toArray, List.set_cons_zero, List.set_cons_succ]
              refine wpAnyH_done (by kernel_rfl) ?_ _
              try dsimp only [Act.put]
              try simp only [List.setIfInBounds_toArray, List.set_cons_zero, List.set_cons_succ]
              cases E with
              | true =>
                have e := HDE.out
                rw [if_pos rfl] at e
                subst e
                go_wp2
                go_ret3
                refine ⟨?_, hS2⟩
                rfl
              | false =>
                have e := HDE.out
                rw [if_neg (by decide)] at e
                subst e
                go_wp2
                go_ret3
                exact ⟨rfl, hS2⟩
end Go.Proofs.YtbfhilbagojdnaaGreat.W1
