/-
  The law RatioField returns true for all numbers.
  No condition but that the library's variable MaxLen is there.
-/
import Derived.Test.YtbfhilbagojdnaaGr12
namespace Go.Proofs.Ytbfhilbagojdnaa
open Go.RowKit Wr Go.Proofs.Ytbfhilbagojdnaa.Nm
set_option linter.unusedVariables false
set_option maxRecDepth 100000

theorem bs3 (A1 : Option Addr) (n1 k1 : Nat) (A2 : Option Addr) (n2 k2 : Nat) (A3 : Option Addr) (n3 k3 : Nat) (A4 : Option Addr) (n4 k4 : Nat) (A5 : Option Addr) (n5 k5 : Nat) (A6 : Option Addr) (n6 k6 : Nat) (W : World) :
    (Instr.buildSlice 23 3 #[(0, .agg #[.slice A1 n1 k1, .slice A2 n2 k2]), (1, .agg #[.slice A3 n3 k3, .slice A4 n4 k4]), (2, .agg #[.slice A5 n5 k5, .slice A6 n6 k6])]).run Try.prog W = .ok (.slice (some ⟨W.heap.size, 0, none⟩) 3 3) (W.alloc (.cells #[.slice A1 n1 k1, .slice A2 n2 k2, .slice A3 n3 k3, .slice A4 n4 k4, .slice A5 n5 k5, .slice A6 n6 k6] 28)) := by kernel_rfl
theorem rls3 {W : World} {v1 v2 v3 v4 v5 v6 : Value} {r s t : Rt} (h1 : Rk W v1 v2 r) (h2 : Rk W v3 v4 s) (h3 : Rk W v5 v6 t) : Rls (W.alloc (.cells #[v1, v2, v3, v4, v5, v6] 28)) (.slice (some ⟨W.heap.size, 0, none⟩) 3 3) [r, s, t] := by
  refine ⟨_, 3, [(v1, v2), (v3, v4), (v5, v6)], rfl, Nat.le_refl _, (fun e => by cases e), (Rd.of_blk0 (Blk.new W 28 [v1, v2, v3, v4, v5, v6])).more (Blk.new W 28 [v1, v2, v3, v4, v5, v6]).lt, rfl, ?_⟩
  intro i r' hi
  match i, hi with
  | 0, hi => simp at hi; subst hi; exact ⟨_, rfl, h1.below (below_al _ _)⟩
  | 1, hi => simp at hi; subst hi; exact ⟨_, rfl, h2.below (below_al _ _)⟩
  | 2, hi => simp at hi; subst hi; exact ⟨_, rfl, h3.below (below_al _ _)⟩
  | i + 3, hi => simp at hi
set_option maxHeartbeats 8000000 in
theorem field_walk (n m k big : Int) (w : World) (hM : MaxL w) (h2 : 2 < w.heap.size) (hn : -9223372036854775808 ≤ n ∧ n ≤ 9223372036854775807) (hm : -9223372036854775808 ≤ m ∧ m ≤ 9223372036854775807) (hk : -9223372036854775808 ≤ k ∧ k ≤ 9223372036854775807) (hb : -9223372036854775808 ≤ big ∧ big ≤ 9223372036854775807) :
    Calls Try.prog 5 #[.int .i64 n, .int .i64 m, .int .i64 k, .int .i64 big] w (SmP w true) := by
  have HMa := Lib.hid (fun W => made_ref n m W hn hm); have HMb := Lib.hid (fun W => made_ref k n W hk hn); have HPc := Lib.hid (fun W => part_ref m k W hm hk); have HLg := Lib.hid (fun W => large_ref n big W hn hb)
  have HM := Lib.hid hM; have H2 := Lib.hid h2
  have B0 := Lib.hid (Below.refl w.heap.size w)
  clear hM h2 hn hm hk hb
  go_enter Try.func5, Try.ntmps5
  go_wp2_with fail
  refine (HMa.out _).mono ?_
  rintro e w1 ⟨x1, y1, u1, u2, rfl, hk, hva, _, hb⟩
  have HV_a := Lib.hid hva; have KN := Lib.hid hk
  clear hva
  obtain ⟨C2, m3, j4, e1⟩ := sl_form hk.s1
  obtain ⟨D5, p6, q7, e2⟩ := sl_form hk.s2
  subst e1 e2
  have B8 := Lib.hid (below_step B0.out hb)
  clear B0
  clear hk hb
  have BS0 := B8
  go_upto_region 2 with fail
  have B9 := Lib.hid (below_step B8.out (boxb w1 (.slice C2 m3 j4) (.slice D5 p6 q7)))
  clear B8
  have V_a := Lib.hid (Bx.new KN.out)
  have G_a := Lib.hid (show w.heap.size ≤ w1.heap.size from BS0.out.size)
  clear KN
  clear BS0
  obtain ⟨g10, hgn⟩ : ∃ g, w1.heap.size = g := ⟨_, rfl⟩
  obtain ⟨w11, hww⟩ : ∃ W, w1.alloc (.cells #[.slice C2 m3 j4, .slice D5 p6 q7] 28) = W := ⟨_, rfl⟩
  rw [hww] at B9 V_a ⊢
  rw [hgn] at V_a G_a  ⊢
  clear hww hgn
  go_wp2_with fail
  refine (HMb.out _).mono ?_
  rintro e w12 ⟨x2, y2, u1, u2, rfl, hk, hvb, ⟨hb1, hb2⟩, hb⟩
  have HV_b := Lib.hid hvb; have KN := Lib.hid hk
  clear hvb
  obtain ⟨C13, m14, j15, e1⟩ := sl_form hk.s1
  obtain ⟨D16, p17, q18, e2⟩ := sl_form hk.s2
  subst e1 e2
  have V_a := Lib.hid (V_a.out.below hb)
  have B19 := Lib.hid (below_step B9.out hb)
  clear B9
  clear hk hb
  have BS0 := B19
  go_upto_region 3 with fail
  have L_a_b := Lib.hid (V_a.out.b.lt)
  have V_a := Lib.hid (V_a.out.below (boxb w12 (.slice C13 m14 j15) (.slice D16 p17 q18)))
  have B20 := Lib.hid (below_step B19.out (boxb w12 (.slice C13 m14 j15) (.slice D16 p17 q18)))
  clear B19
  have V_b := Lib.hid (Bx.new KN.out)
  have G_b := Lib.hid (show w.heap.size ≤ w12.heap.size from BS0.out.size)
  clear KN
  clear BS0
  obtain ⟨g21, hgn⟩ : ∃ g, w12.heap.size = g := ⟨_, rfl⟩
  obtain ⟨w22, hww⟩ : ∃ W, w12.alloc (.cells #[.slice C13 m14 j15, .slice D16 p17 q18] 28) = W := ⟨_, rfl⟩
  rw [hww] at B20 V_a V_b ⊢
  rw [hgn] at V_b G_b L_a_b ⊢
  clear hww hgn
  have HBb := Lib.hid (And.intro hb1 hb2)
  clear hb1 hb2
  go_wp2_with fail
  refine (HPc.out _).mono ?_
  rintro e w23 ⟨x3, y3, u1, u2, rfl, hk, hvc, ⟨hb1, hb2⟩, hb⟩
  have HV_c := Lib.hid hvc; have KN := Lib.hid hk
  clear hvc
  obtain ⟨C24, m25, j26, e1⟩ := sl_form hk.s1
  obtain ⟨D27, p28, q29, e2⟩ := sl_form hk.s2
  subst e1 e2
  have V_a := Lib.hid (V_a.out.below hb)
  have V_b := Lib.hid (V_b.out.below hb)
  have B30 := Lib.hid (below_step B20.out hb)
  clear B20
  clear hk hb
  have BS0 := B30
  go_upto_region 4 with fail
  have L_a_c := Lib.hid (V_a.out.b.lt)
  have V_a := Lib.hid (V_a.out.below (boxb w23 (.slice C24 m25 j26) (.slice D27 p28 q29)))
  have V_b := Lib.hid (V_b.out.below (boxb w23 (.slice C24 m25 j26) (.slice D27 p28 q29)))
  have B31 := Lib.hid (below_step B30.out (boxb w23 (.slice C24 m25 j26) (.slice D27 p28 q29)))
  clear B30
  have V_c := Lib.hid (Bx.new KN.out)
  have G_c := Lib.hid (show w.heap.size ≤ w23.heap.size from BS0.out.size)
  clear KN
  clear BS0
  obtain ⟨g32, hgn⟩ : ∃ g, w23.heap.size = g := ⟨_, rfl⟩
  obtain ⟨w33, hww⟩ : ∃ W, w23.alloc (.cells #[.slice C24 m25 j26, .slice D27 p28 q29] 28) = W := ⟨_, rfl⟩
  rw [hww] at B31 V_a V_b V_c ⊢
  rw [hgn] at V_c G_c L_a_c ⊢
  clear hww hgn
  have HBc := Lib.hid (show x3 ≤ 24 ∧ y3 ≤ 24 by omega)
  clear hb1 hb2
  go_upto_if 47 with fail
  go_cut [] from 36 (fun wx => ∃ xa ya A1 n1 k1 A2 n2 k2, Hid (Vr xa ya ∧ Bx wx g10 A1 n1 k1 A2 n2 k2 (lim xa, dl ya) ∧ Bx wx g21 C13 m14 j15 D16 p17 q18 (lim x2, dl y2) ∧ Bx wx g32 C24 m25 j26 D27 p28 q29 (lim x3, dl y3) ∧ Below w.heap.size w wx))
  case first =>
    by_cases h4 : (big.tmod 4 == 0) = true
    · have hcf := And.intro h4 h4
      clear hcf
      go_wp2_with fail
      refine (HLg.out _).mono ?_
      rintro e wl ⟨xl, yl, u1, u2, rfl, hk, hv, _, hb⟩
      obtain ⟨C1, m1, j1, e1⟩ := sl_form hk.s1
      obtain ⟨C2, m2, j2, e2⟩ := sl_form hk.s2
      subst e1 e2
      have V_a := Lib.hid (V_a.out.below hb)
      have V_b := Lib.hid (V_b.out.below hb)
      have V_c := Lib.hid (V_c.out.below hb)
      have B34 := Lib.hid (below_step B31.out hb)
      clear B31
      have KN := Lib.hid hk; have HVl := Lib.hid hv
      clear hk hv hb
      obtain ⟨hc35, hc36, hf37, hf38⟩ := blk_cells2 V_a.out.b
      go_wp2_with fail
      go_meet
      exact ⟨xl, yl, C1, m1, j1, C2, m2, j2, Lib.hid ⟨HVl.out, V_a.out.put KN.out, V_b.out.far V_a.out (by have := L_a_b.out; omega) _ _ _ _ _ _, V_c.out.far V_a.out (by have := L_a_c.out; omega) _ _ _ _ _ _, below_put B34.out G_a.out _ _⟩⟩
    · have h4f : (big.tmod 4 == 0) = false := by simpa using h4
      clear h4
      go_wp2_with fail
      go_meet
      exact ⟨x1, y1, C2, m3, j4, D5, p6, q7, Lib.hid ⟨HV_a.out, V_a.out, V_b.out, V_c.out, B31.out⟩⟩
  case rest =>
    obtain ⟨xa, ya, A1, n1, k1, A2, n2, k2, hall⟩ := hcut
    have HV_a := Lib.hid hall.out.1; have V_a := Lib.hid hall.out.2.1; have V_b := Lib.hid hall.out.2.2.1; have V_c := Lib.hid hall.out.2.2.2.1; have B00 := Lib.hid hall.out.2.2.2.2
    clear hall HMa HMb HPc HLg B31
    obtain ⟨rab, eab, hab⟩ : ∃ r e, addR (lim xa, dl ya) (lim x2, dl y2) = (r, e) := ⟨_, _, rfl⟩
    have hba : addR (lim x2, dl y2) (lim xa, dl ya) = (rab, eab) := by rw [add_cm HV_a.out HV_b.out, hab]
    obtain ⟨p, q, hvp, hbc, hbce⟩ := add_small HV_b.out HV_c.out HBb.out.1 HBb.out.2 HBc.out.1 HBc.out.2
    obtain ⟨rx, ex, hx⟩ : ∃ r e, mulR (lim xa, dl ya) (lim x2, dl y2) = (r, e) := ⟨_, _, rfl⟩
    have hy : mulR (lim x2, dl y2) (lim xa, dl ya) = (rx, ex) := by rw [mul_cm HV_a.out HV_b.out, hx]
    have e04 : eab = 0 ∨ eab = 4 := by have h := low04 (xa * y2 + x2 * ya) (ya * y2) (Nat.mul_pos HV_a.out.pos HV_b.out.pos); rw [← add_eq HV_a.out HV_b.out, hab] at h; exact h
    have h04 : ex = 0 ∨ ex = 4 := by have h := low04 (xa * x2) (ya * y2) (Nat.mul_pos HV_a.out.pos HV_b.out.pos); rw [← mul_eq HV_a.out HV_b.out, hx] at h; exact h
    have hga : Gd5 (rab, eab) := by rw [← hab]; exact gd_add V_a.out.k.ok V_b.out.k.ok
    have hgx : Gd5 (rx, ex) := by rw [← hx]; exact gd_mul V_a.out.k.ok V_b.out.k.ok
    have HAB := Lib.hid hab
    have HBA := Lib.hid hba
    have HVP := Lib.hid hvp
    have HBC := Lib.hid hbc
    have HBCE := Lib.hid hbce
    have HX := Lib.hid hx
    have HY := Lib.hid hy
    have E04 := Lib.hid e04
    have H04 := Lib.hid h04
    have HGA := Lib.hid hga
    have HGX := Lib.hid hgx
    clear hab hba hvp hbc hbce hx hy e04 h04 hga hgx
    obtain ⟨hc39, hc40, hf41, hf42⟩ := blk_cells2 V_a.out.b
    obtain ⟨hc43, hc44, hf45, hf46⟩ := blk_cells2 V_b.out.b
    go_wp2_with fail
    refine (show Calls Try.prog 22 #[.agg #[.slice A1 n1 k1, .slice A2 n2 k2], .agg #[.slice C13 m14 j15, .slice D16 p17 q18]] wc (RtP wc (rab, eab)) by have h := add_any V_a.out.k V_b.out.k; rw [HAB.out] at h; exact h).mono ?_
    rintro e w47 ⟨v, rfl, hrv, hb⟩
    obtain ⟨u1, u2, rfl, hk⟩ := gd_rk hrv HGA.out
    obtain ⟨C48, m49, j50, e1⟩ := sl_form hk.s1
    obtain ⟨D51, p52, q53, e2⟩ := sl_form hk.s2
    subst e1 e2
    have KN := Lib.hid hk
    have V_a := Lib.hid (V_a.out.below hb)
    have V_b := Lib.hid (V_b.out.below hb)
    have V_c := Lib.hid (V_c.out.below hb)
    have B54 := Lib.hid (below_step B00.out hb)
    clear B00
    clear hk hb hrv
    clear hc39 hc40 hf41 hf42 hc43 hc44 hf45 hf46
    have BS0 := B54
    go_upto_region 7 with fail
    have V_a := Lib.hid (V_a.out.below (boxb w47 (.slice C48 m49 j50) (.slice D51 p52 q53)))
    have V_b := Lib.hid (V_b.out.below (boxb w47 (.slice C48 m49 j50) (.slice D51 p52 q53)))
    have V_c := Lib.hid (V_c.out.below (boxb w47 (.slice C48 m49 j50) (.slice D51 p52 q53)))
    have B55 := Lib.hid (below_step B54.out (boxb w47 (.slice C48 m49 j50) (.slice D51 p52 q53)))
    clear B54
    have V_ab := Lib.hid (Bx.new KN.out)
    have G_ab := Lib.hid (show w.heap.size ≤ w47.heap.size from BS0.out.size)
    clear KN
    clear BS0
    obtain ⟨g56, hgn⟩ : ∃ g, w47.heap.size = g := ⟨_, rfl⟩
    obtain ⟨w57, hww⟩ : ∃ W, w47.alloc (.cells #[.slice C48 m49 j50, .slice D51 p52 q53] 28) = W := ⟨_, rfl⟩
    rw [hww] at B55 V_a V_b V_c V_ab ⊢
    rw [hgn] at V_ab G_ab  ⊢
    clear hww hgn
    obtain ⟨hc58, hc59, hf60, hf61⟩ := blk_cells2 V_a.out.b
    obtain ⟨hc62, hc63, hf64, hf65⟩ := blk_cells2 V_b.out.b
    go_wp2_with fail
    refine (show Calls Try.prog 22 #[.agg #[.slice C13 m14 j15, .slice D16 p17 q18], .agg #[.slice A1 n1 k1, .slice A2 n2 k2]] w57 (RtP w57 (rab, eab)) by have h := add_any V_b.out.k V_a.out.k; rw [HBA.out] at h; exact h).mono ?_
    rintro e w66 ⟨v, rfl, hrv, hb⟩
    obtain ⟨u1, u2, rfl, hk⟩ := gd_rk hrv HGA.out
    obtain ⟨C67, m68, j69, e1⟩ := sl_form hk.s1
    obtain ⟨D70, p71, q72, e2⟩ := sl_form hk.s2
    subst e1 e2
    have KN := Lib.hid hk
    have V_a := Lib.hid (V_a.out.below hb)
    have V_b := Lib.hid (V_b.out.below hb)
    have V_c := Lib.hid (V_c.out.below hb)
    have V_ab := Lib.hid (V_ab.out.below hb)
    have B73 := Lib.hid (below_step B55.out hb)
    clear B55
    clear hk hb hrv
    clear hc58 hc59 hf60 hf61 hc62 hc63 hf64 hf65
    have BS0 := B73
    go_upto_region 8 with fail
    have V_a := Lib.hid (V_a.out.below (boxb w66 (.slice C67 m68 j69) (.slice D70 p71 q72)))
    have V_b := Lib.hid (V_b.out.below (boxb w66 (.slice C67 m68 j69) (.slice D70 p71 q72)))
    have V_c := Lib.hid (V_c.out.below (boxb w66 (.slice C67 m68 j69) (.slice D70 p71 q72)))
    have V_ab := Lib.hid (V_ab.out.below (boxb w66 (.slice C67 m68 j69) (.slice D70 p71 q72)))
    have B74 := Lib.hid (below_step B73.out (boxb w66 (.slice C67 m68 j69) (.slice D70 p71 q72)))
    clear B73
    have V_ba := Lib.hid (Bx.new KN.out)
    have G_ba := Lib.hid (show w.heap.size ≤ w66.heap.size from BS0.out.size)
    clear KN
    clear BS0
    obtain ⟨g75, hgn⟩ : ∃ g, w66.heap.size = g := ⟨_, rfl⟩
    obtain ⟨w76, hww⟩ : ∃ W, w66.alloc (.cells #[.slice C67 m68 j69, .slice D70 p71 q72] 28) = W := ⟨_, rfl⟩
    rw [hww] at B74 V_a V_b V_c V_ab V_ba ⊢
    rw [hgn] at V_ba G_ba  ⊢
    clear hww hgn
    obtain ⟨hc77, hc78, hf79, hf80⟩ := blk_cells2 V_b.out.b
    obtain ⟨hc81, hc82, hf83, hf84⟩ := blk_cells2 V_c.out.b
    go_wp2_with fail
    refine (show Calls Try.prog 22 #[.agg #[.slice C13 m14 j15, .slice D16 p17 q18], .agg #[.slice C24 m25 j26, .slice D27 p28 q29]] w76 (RtP w76 ((lim p, dl q), 0)) by have h := add_any V_b.out.k V_c.out.k; rw [HBC.out] at h; exact h).mono ?_
    rintro e w85 ⟨v, rfl, hrv, hb⟩
    obtain ⟨u1, u2, rfl, hk⟩ := gd_rk hrv (gd_vr HVP.out)
    obtain ⟨C86, m87, j88, e1⟩ := sl_form hk.s1
    obtain ⟨D89, p90, q91, e2⟩ := sl_form hk.s2
    subst e1 e2
    have KN := Lib.hid hk
    have V_a := Lib.hid (V_a.out.below hb)
    have V_b := Lib.hid (V_b.out.below hb)
    have V_c := Lib.hid (V_c.out.below hb)
    have V_ab := Lib.hid (V_ab.out.below hb)
    have V_ba := Lib.hid (V_ba.out.below hb)
    have B92 := Lib.hid (below_step B74.out hb)
    clear B74
    clear hk hb hrv
    clear hc77 hc78 hf79 hf80 hc81 hc82 hf83 hf84
    have BS0 := B92
    go_upto_region 9 with fail
    have V_a := Lib.hid (V_a.out.below (boxb w85 (.slice C86 m87 j88) (.slice D89 p90 q91)))
    have V_b := Lib.hid (V_b.out.below (boxb w85 (.slice C86 m87 j88) (.slice D89 p90 q91)))
    have V_c := Lib.hid (V_c.out.below (boxb w85 (.slice C86 m87 j88) (.slice D89 p90 q91)))
    have V_ab := Lib.hid (V_ab.out.below (boxb w85 (.slice C86 m87 j88) (.slice D89 p90 q91)))
    have V_ba := Lib.hid (V_ba.out.below (boxb w85 (.slice C86 m87 j88) (.slice D89 p90 q91)))
    have B93 := Lib.hid (below_step B92.out (boxb w85 (.slice C86 m87 j88) (.slice D89 p90 q91)))
    clear B92
    have V_bc := Lib.hid (Bx.new KN.out)
    have G_bc := Lib.hid (show w.heap.size ≤ w85.heap.size from BS0.out.size)
    clear KN
    clear BS0
    obtain ⟨g94, hgn⟩ : ∃ g, w85.heap.size = g := ⟨_, rfl⟩
    obtain ⟨w95, hww⟩ : ∃ W, w85.alloc (.cells #[.slice C86 m87 j88, .slice D89 p90 q91] 28) = W := ⟨_, rfl⟩
    rw [hww] at B93 V_a V_b V_c V_ab V_ba V_bc ⊢
    rw [hgn] at V_bc G_bc  ⊢
    clear hww hgn
    obtain ⟨hc96, hc97, hf98, hf99⟩ := blk_cells2 V_a.out.b
    obtain ⟨hc100, hc101, hf102, hf103⟩ := blk_cells2 V_b.out.b
    go_wp2_with fail
    refine (show Calls Try.prog 23 #[.agg #[.slice A1 n1 k1, .slice A2 n2 k2], .agg #[.slice C13 m14 j15, .slice D16 p17 q18]] w95 (RtP w95 (rx, ex)) by have h := mul_any V_a.out.k V_b.out.k; rw [HX.out] at h; exact h).mono ?_
    rintro e w104 ⟨v, rfl, hrv, hb⟩
    obtain ⟨u1, u2, rfl, hk⟩ := gd_rk hrv HGX.out
    obtain ⟨C105, m106, j107, e1⟩ := sl_form hk.s1
    obtain ⟨D108, p109, q110, e2⟩ := sl_form hk.s2
    subst e1 e2
    have KN := Lib.hid hk
    have V_a := Lib.hid (V_a.out.below hb)
    have V_b := Lib.hid (V_b.out.below hb)
    have V_c := Lib.hid (V_c.out.below hb)
    have V_ab := Lib.hid (V_ab.out.below hb)
    have V_ba := Lib.hid (V_ba.out.below hb)
    have V_bc := Lib.hid (V_bc.out.below hb)
    have B111 := Lib.hid (below_step B93.out hb)
    clear B93
    clear hk hb hrv
    clear hc96 hc97 hf98 hf99 hc100 hc101 hf102 hf103
    have BS0 := B111
    go_upto_region 10 with fail
    have V_a := Lib.hid (V_a.out.below (boxb w104 (.slice C105 m106 j107) (.slice D108 p109 q110)))
    have V_b := Lib.hid (V_b.out.below (boxb w104 (.slice C105 m106 j107) (.slice D108 p109 q110)))
    have V_c := Lib.hid (V_c.out.below (boxb w104 (.slice C105 m106 j107) (.slice D108 p109 q110)))
    have V_ab := Lib.hid (V_ab.out.below (boxb w104 (.slice C105 m106 j107) (.slice D108 p109 q110)))
    have V_ba := Lib.hid (V_ba.out.below (boxb w104 (.slice C105 m106 j107) (.slice D108 p109 q110)))
    have V_bc := Lib.hid (V_bc.out.below (boxb w104 (.slice C105 m106 j107) (.slice D108 p109 q110)))
    have B112 := Lib.hid (below_step B111.out (boxb w104 (.slice C105 m106 j107) (.slice D108 p109 q110)))
    clear B111
    have V_x := Lib.hid (Bx.new KN.out)
    have G_x := Lib.hid (show w.heap.size ≤ w104.heap.size from BS0.out.size)
    clear KN
    clear BS0
    obtain ⟨g113, hgn⟩ : ∃ g, w104.heap.size = g := ⟨_, rfl⟩
    obtain ⟨w114, hww⟩ : ∃ W, w104.alloc (.cells #[.slice C105 m106 j107, .slice D108 p109 q110] 28) = W := ⟨_, rfl⟩
    rw [hww] at B112 V_a V_b V_c V_ab V_ba V_bc V_x ⊢
    rw [hgn] at V_x G_x  ⊢
    clear hww hgn
    obtain ⟨hc115, hc116, hf117, hf118⟩ := blk_cells2 V_a.out.b
    obtain ⟨hc119, hc120, hf121, hf122⟩ := blk_cells2 V_b.out.b
    go_wp2_with fail
    refine (show Calls Try.prog 23 #[.agg #[.slice C13 m14 j15, .slice D16 p17 q18], .agg #[.slice A1 n1 k1, .slice A2 n2 k2]] w114 (RtP w114 (rx, ex)) by have h := mul_any V_b.out.k V_a.out.k; rw [HY.out] at h; exact h).mono ?_
    rintro e w123 ⟨v, rfl, hrv, hb⟩
    obtain ⟨u1, u2, rfl, hk⟩ := gd_rk hrv HGX.out
    obtain ⟨C124, m125, j126, e1⟩ := sl_form hk.s1
    obtain ⟨D127, p128, q129, e2⟩ := sl_form hk.s2
    subst e1 e2
    have KN := Lib.hid hk
    have V_a := Lib.hid (V_a.out.below hb)
    have V_b := Lib.hid (V_b.out.below hb)
    have V_c := Lib.hid (V_c.out.below hb)
    have V_ab := Lib.hid (V_ab.out.below hb)
    have V_ba := Lib.hid (V_ba.out.below hb)
    have V_bc := Lib.hid (V_bc.out.below hb)
    have V_x := Lib.hid (V_x.out.below hb)
    have B130 := Lib.hid (below_step B112.out hb)
    clear B112
    clear hk hb hrv
    clear hc115 hc116 hf117 hf118 hc119 hc120 hf121 hf122
    have BS0 := B130
    go_upto_region 11 with fail
    have V_a := Lib.hid (V_a.out.below (boxb w123 (.slice C124 m125 j126) (.slice D127 p128 q129)))
    have V_b := Lib.hid (V_b.out.below (boxb w123 (.slice C124 m125 j126) (.slice D127 p128 q129)))
    have V_c := Lib.hid (V_c.out.below (boxb w123 (.slice C124 m125 j126) (.slice D127 p128 q129)))
    have V_ab := Lib.hid (V_ab.out.below (boxb w123 (.slice C124 m125 j126) (.slice D127 p128 q129)))
    have V_ba := Lib.hid (V_ba.out.below (boxb w123 (.slice C124 m125 j126) (.slice D127 p128 q129)))
    have V_bc := Lib.hid (V_bc.out.below (boxb w123 (.slice C124 m125 j126) (.slice D127 p128 q129)))
    have V_x := Lib.hid (V_x.out.below (boxb w123 (.slice C124 m125 j126) (.slice D127 p128 q129)))
    have B131 := Lib.hid (below_step B130.out (boxb w123 (.slice C124 m125 j126) (.slice D127 p128 q129)))
    clear B130
    have V_y := Lib.hid (Bx.new KN.out)
    have G_y := Lib.hid (show w.heap.size ≤ w123.heap.size from BS0.out.size)
    clear KN
    clear BS0
    obtain ⟨g132, hgn⟩ : ∃ g, w123.heap.size = g := ⟨_, rfl⟩
    obtain ⟨w133, hww⟩ : ∃ W, w123.alloc (.cells #[.slice C124 m125 j126, .slice D127 p128 q129] 28) = W := ⟨_, rfl⟩
    rw [hww] at B131 V_a V_b V_c V_ab V_ba V_bc V_x V_y ⊢
    rw [hgn] at V_y G_y  ⊢
    clear hww hgn
    obtain ⟨hc134, hc135, hf136, hf137⟩ := blk_cells2 V_ab.out.b
    obtain ⟨hc138, hc139, hf140, hf141⟩ := blk_cells2 V_ba.out.b
    go_wp2_with fail
    have hsm := same_any V_ab.out.k V_ba.out.k
    rw [decide_eq_true rfl] at hsm
    refine hsm.mono ?_
    clear hsm
    rintro e w142 ⟨rfl, hb⟩
    have V_a := Lib.hid (V_a.out.below hb)
    have V_b := Lib.hid (V_b.out.below hb)
    have V_c := Lib.hid (V_c.out.below hb)
    have V_ab := Lib.hid (V_ab.out.below hb)
    have V_ba := Lib.hid (V_ba.out.below hb)
    have V_bc := Lib.hid (V_bc.out.below hb)
    have V_x := Lib.hid (V_x.out.below hb)
    have V_y := Lib.hid (V_y.out.below hb)
    have B143 := Lib.hid (below_step B131.out hb)
    clear B131
    clear hb
    clear hc134 hc135 hf136 hf137 hc138 hc139 hf140 hf141
    obtain ⟨hc144, hc145, hf146, hf147⟩ := blk_cells2 V_x.out.b
    obtain ⟨hc148, hc149, hf150, hf151⟩ := blk_cells2 V_y.out.b
    go_wp2_with fail
    have hsm := same_any V_x.out.k V_y.out.k
    rw [decide_eq_true rfl] at hsm
    refine hsm.mono ?_
    clear hsm
    rintro e w152 ⟨rfl, hb⟩
    have V_a := Lib.hid (V_a.out.below hb)
    have V_b := Lib.hid (V_b.out.below hb)
    have V_c := Lib.hid (V_c.out.below hb)
    have V_ab := Lib.hid (V_ab.out.below hb)
    have V_ba := Lib.hid (V_ba.out.below hb)
    have V_bc := Lib.hid (V_bc.out.below hb)
    have V_x := Lib.hid (V_x.out.below hb)
    have V_y := Lib.hid (V_y.out.below hb)
    have B153 := Lib.hid (below_step B143.out hb)
    clear B143
    clear hb
    clear hc144 hc145 hf146 hf147 hc148 hc149 hf150 hf151
    clear V_ba
    clear V_y
    go_upto_region 13 with fail
    by_cases hz : eab = 0 ∧ ex = 0
    · skip
      obtain ⟨rfl, rfl⟩ := hz
      clear E04 H04
      obtain ⟨p1, q1, vp1, ep1, hm1⟩ := low_out2 (Nat.mul_pos HV_a.out.pos HV_b.out.pos) (show lowR (xa * y2 + x2 * ya) (ya * y2) = (rab, 0) by rw [← add_eq HV_a.out HV_b.out]; exact HAB.out)
      obtain ⟨p2, q2, vp2, ep2, hm2⟩ := low_out2 (Nat.mul_pos HV_a.out.pos HV_b.out.pos) (show lowR (xa * x2) (ya * y2) = (rx, 0) by rw [← mul_eq HV_a.out HV_b.out]; exact HX.out)
      subst ep1 ep2
      have HS1 := Lib.hid (sub_bk HV_a.out HV_b.out vp1 hm1); have HD1 := Lib.hid (fun h => div_bk HV_a.out HV_b.out vp2 h hm2)
      have HLR := Lib.hid (add_as HV_a.out HV_b.out HV_c.out vp1 HVP.out hm1 HBCE.out); have HSU := Lib.hid (sum_as HV_a.out HV_b.out HV_c.out vp1 HAB.out)
      have HDI := Lib.hid (fun rw' rac rp hw ha hp => dist (rw' := rw') (rac := rac) (rp := rp) HV_a.out HV_b.out HV_c.out HVP.out vp2 HBCE.out hm2 hw ha hp)
      clear vp1 vp2 hm1 hm2 HGA HGX HAB HBA HX HY HBC HBCE
      obtain ⟨hc154, hc155, hf156, hf157⟩ := blk_cells2 V_ab.out.b
      obtain ⟨hc158, hc159, hf160, hf161⟩ := blk_cells2 V_b.out.b
      go_wp2_with fail
      refine (show Calls Try.prog 25 #[.agg #[.slice C48 m49 j50, .slice D51 p52 q53], .agg #[.slice C13 m14 j15, .slice D16 p17 q18]] w152 (RtP w152 ((lim xa, dl ya), 0)) by have h := sub_any V_ab.out.k V_b.out.k; rw [HS1.out] at h; exact h).mono ?_
      rintro e w162 ⟨v, rfl, hrv, hb⟩
      obtain ⟨u1, u2, rfl, hk⟩ := gd_rk hrv (gd_vr HV_a.out)
      obtain ⟨C163, m164, j165, e1⟩ := sl_form hk.s1
      obtain ⟨D166, p167, q168, e2⟩ := sl_form hk.s2
      subst e1 e2
      have KN := Lib.hid hk
      have V_a := Lib.hid (V_a.out.below hb)
      have V_b := Lib.hid (V_b.out.below hb)
      have V_c := Lib.hid (V_c.out.below hb)
      have V_ab := Lib.hid (V_ab.out.below hb)
      have V_bc := Lib.hid (V_bc.out.below hb)
      have V_x := Lib.hid (V_x.out.below hb)
      have B169 := Lib.hid (below_step B153.out hb)
      clear B153
      clear hk hb hrv
      clear hc154 hc155 hf156 hf157 hc158 hc159 hf160 hf161
      have BS0 := B169
      go_upto_region 16 with fail
      have L_a_back := Lib.hid (V_a.out.b.lt)
      have L_b_back := Lib.hid (V_b.out.b.lt)
      have L_c_back := Lib.hid (V_c.out.b.lt)
      have L_ab_back := Lib.hid (V_ab.out.b.lt)
      have L_bc_back := Lib.hid (V_bc.out.b.lt)
      have L_x_back := Lib.hid (V_x.out.b.lt)
      have V_a := Lib.hid (V_a.out.below (boxb w162 (.slice C163 m164 j165) (.slice D166 p167 q168)))
      have V_b := Lib.hid (V_b.out.below (boxb w162 (.slice C163 m164 j165) (.slice D166 p167 q168)))
      have V_c := Lib.hid (V_c.out.below (boxb w162 (.slice C163 m164 j165) (.slice D166 p167 q168)))
      have V_ab := Lib.hid (V_ab.out.below (boxb w162 (.slice C163 m164 j165) (.slice D166 p167 q168)))
      have V_bc := Lib.hid (V_bc.out.below (boxb w162 (.slice C163 m164 j165) (.slice D166 p167 q168)))
      have V_x := Lib.hid (V_x.out.below (boxb w162 (.slice C163 m164 j165) (.slice D166 p167 q168)))
      have B170 := Lib.hid (below_step B169.out (boxb w162 (.slice C163 m164 j165) (.slice D166 p167 q168)))
      clear B169
      have V_back := Lib.hid (Bx.new KN.out)
      have G_back := Lib.hid (show w.heap.size ≤ w162.heap.size from BS0.out.size)
      clear KN
      clear BS0
      obtain ⟨g171, hgn⟩ : ∃ g, w162.heap.size = g := ⟨_, rfl⟩
      obtain ⟨w172, hww⟩ : ∃ W, w162.alloc (.cells #[.slice C163 m164 j165, .slice D166 p167 q168] 28) = W := ⟨_, rfl⟩
      rw [hww] at B170 V_a V_b V_c V_ab V_bc V_x V_back ⊢
      rw [hgn] at V_back G_back L_a_back L_b_back L_c_back L_ab_back L_bc_back L_x_back ⊢
      clear hww hgn
      obtain ⟨hc173, hc174, hf175, hf176⟩ := blk_cells2 V_back.out.b
      obtain ⟨hc177, hc178, hf179, hf180⟩ := blk_cells2 V_a.out.b
      go_wp2_with fail
      have hsm := same_any V_back.out.k V_a.out.k
      rw [decide_eq_true rfl] at hsm
      refine hsm.mono ?_
      clear hsm
      rintro e w181 ⟨rfl, hb⟩
      have V_a := Lib.hid (V_a.out.below hb)
      have V_b := Lib.hid (V_b.out.below hb)
      have V_c := Lib.hid (V_c.out.below hb)
      have V_ab := Lib.hid (V_ab.out.below hb)
      have V_bc := Lib.hid (V_bc.out.below hb)
      have V_x := Lib.hid (V_x.out.below hb)
      have V_back := Lib.hid (V_back.out.below hb)
      have B182 := Lib.hid (below_step B170.out hb)
      clear B170
      clear hb
      clear hc173 hc174 hf175 hf176 hc177 hc178 hf179 hf180
      go_upto_region 18 with fail
      have hnb := sl_len V_b.out.k.s1
      have HNB := Lib.hid (show m14 = 0 ↔ x2 = 0 by rw [hnb]; exact lim_len0)
      clear hnb
      obtain ⟨hc183, hc184, hf185, hf186⟩ := blk_cells2 V_b.out.b
      go_upto_if 137 with fail
      go_cut [23] from 36 (fun s23 wx => Hid (Bx wx g10 A1 n1 k1 A2 n2 k2 (lim xa, dl ya) ∧ Bx wx g21 C13 m14 j15 D16 p17 q18 (lim x2, dl y2) ∧ Bx wx g32 C24 m25 j26 D27 p28 q29 (lim x3, dl y3) ∧ Bx wx g56 C48 m49 j50 D51 p52 q53 (lim p1, dl q1) ∧ Bx wx g94 C86 m87 j88 D89 p90 q91 (lim p, dl q) ∧ Bx wx g113 C105 m106 j107 D108 p109 q110 (lim p2, dl q2) ∧ Below w.heap.size w wx))
      case first =>
        by_cases hx0 : x2 = 0
        · have hb0 : ¬ (0 < (m14 : Int)) := by have := HNB.out.2 hx0; omega
          have hb00 := HNB.out.2 hx0
          clear hx0 hb00
          go_wp2_with fail
          go_meet
          exact Lib.hid ⟨V_a.out, V_b.out, V_c.out, V_ab.out, V_bc.out, V_x.out, B182.out⟩
        · have hb0 : 0 < (m14 : Int) := by have : ¬ m14 = 0 := fun h => hx0 (HNB.out.1 h); omega
          have HD2 := Lib.hid (HD1.out (by omega))
          clear hx0
          clear hc183 hc184 hf185 hf186
          obtain ⟨hc187, hc188, hf189, hf190⟩ := blk_cells2 V_b.out.b
          obtain ⟨hc191, hc192, hf193, hf194⟩ := blk_cells2 V_x.out.b
          go_wp2_with fail
          refine (show Calls Try.prog 26 #[.agg #[.slice C105 m106 j107, .slice D108 p109 q110], .agg #[.slice C13 m14 j15, .slice D16 p17 q18]] w181 (RtP w181 ((lim xa, dl ya), 0)) by have h := div_any V_x.out.k V_b.out.k; rw [HD2.out] at h; exact h).mono ?_
          rintro e wd ⟨v, rfl, hrv, hb⟩
          obtain ⟨u1, u2, rfl, hk⟩ := gd_rk hrv (gd_vr HV_a.out)
          obtain ⟨C1, m1, j1, e1⟩ := sl_form hk.s1
          obtain ⟨C2, m2, j2, e2⟩ := sl_form hk.s2
          subst e1 e2
          have KN := Lib.hid hk
          have V_a := Lib.hid (V_a.out.below hb)
          have V_b := Lib.hid (V_b.out.below hb)
          have V_c := Lib.hid (V_c.out.below hb)
          have V_ab := Lib.hid (V_ab.out.below hb)
          have V_bc := Lib.hid (V_bc.out.below hb)
          have V_x := Lib.hid (V_x.out.below hb)
          have V_back := Lib.hid (V_back.out.below hb)
          have B195 := Lib.hid (below_step B182.out hb)
          clear B182
          clear hk hb hrv
          clear hc187 hc188 hf189 hf190 hc191 hc192 hf193 hf194
          obtain ⟨hc196, hc197, hf198, hf199⟩ := blk_cells2 V_back.out.b
          go_upto_region 20 with fail
          have V_a := Lib.hid (V_a.out.far V_back.out (by have := L_a_back.out; omega) C1 m1 j1 C2 m2 j2)
          have V_b := Lib.hid (V_b.out.far V_back.out (by have := L_b_back.out; omega) C1 m1 j1 C2 m2 j2)
          have V_c := Lib.hid (V_c.out.far V_back.out (by have := L_c_back.out; omega) C1 m1 j1 C2 m2 j2)
          have V_ab := Lib.hid (V_ab.out.far V_back.out (by have := L_ab_back.out; omega) C1 m1 j1 C2 m2 j2)
          have V_bc := Lib.hid (V_bc.out.far V_back.out (by have := L_bc_back.out; omega) C1 m1 j1 C2 m2 j2)
          have V_x := Lib.hid (V_x.out.far V_back.out (by have := L_x_back.out; omega) C1 m1 j1 C2 m2 j2)
          have BD := Lib.hid (below_put B195.out G_back.out (.slice C1 m1 j1) (.slice C2 m2 j2))
          have V_back := Lib.hid (V_back.out.put KN.out)
          clear B195 KN
          clear hc196 hc197 hf198 hf199
          obtain ⟨we, hww⟩ : ∃ W, ((wd.setCell ⟨g171, 0, none⟩ (.slice C1 m1 j1)).setCell ⟨g171, 1, none⟩ (.slice C2 m2 j2)) = W := ⟨_, rfl⟩
          rw [hww] at BD V_back V_a V_b V_c V_ab V_bc V_x ⊢
          clear hww
          obtain ⟨hc200, hc201, hf202, hf203⟩ := blk_cells2 V_back.out.b
          obtain ⟨hc204, hc205, hf206, hf207⟩ := blk_cells2 V_a.out.b
          go_wp2_with fail
          have hsm := same_any V_back.out.k V_a.out.k
          rw [decide_eq_true rfl] at hsm
          refine hsm.mono ?_
          clear hsm
          rintro e w208 ⟨rfl, hb⟩
          have V_a := Lib.hid (V_a.out.below hb)
          have V_b := Lib.hid (V_b.out.below hb)
          have V_c := Lib.hid (V_c.out.below hb)
          have V_ab := Lib.hid (V_ab.out.below hb)
          have V_bc := Lib.hid (V_bc.out.below hb)
          have V_x := Lib.hid (V_x.out.below hb)
          have V_back := Lib.hid (V_back.out.below hb)
          have B209 := Lib.hid (below_step BD.out hb)
          clear BD
          clear hb
          clear hc200 hc201 hf202 hf203 hc204 hc205 hf206 hf207
          go_wp2_with fail
          go_meet
          exact Lib.hid ⟨V_a.out, V_b.out, V_c.out, V_ab.out, V_bc.out, V_x.out, B209.out⟩
      case rest =>
        have hall := hcut
        have V_a := Lib.hid hall.out.1
        have V_b := Lib.hid hall.out.2.1
        have V_c := Lib.hid hall.out.2.2.1
        have V_ab := Lib.hid hall.out.2.2.2.1
        have V_bc := Lib.hid hall.out.2.2.2.2.1
        have V_x := Lib.hid hall.out.2.2.2.2.2.1
        have BC0 := Lib.hid hall.out.2.2.2.2.2.2
        clear hall hcut HS1 HD1 HNB V_back B182
        clear hc183 hc184 hf185 hf186
        obtain ⟨rl, el, hl⟩ : ∃ r e, addR (lim p1, dl q1) (lim x3, dl y3) = (r, e) := ⟨_, _, rfl⟩
        have hgl : Gd5 (rl, el) := by rw [← hl]; exact gd_add V_ab.out.k.ok V_c.out.k.ok
        have HGL := Lib.hid hgl; have HL := Lib.hid hl; have HRT := Lib.hid (HLR.out.trans hl); have HSM := Lib.hid (HSU.out.trans hl)
        clear hgl hl HLR HSU
        obtain ⟨hc210, hc211, hf212, hf213⟩ := blk_cells2 V_ab.out.b
        obtain ⟨hc214, hc215, hf216, hf217⟩ := blk_cells2 V_c.out.b
        go_wp2_with fail
        refine (show Calls Try.prog 22 #[.agg #[.slice C48 m49 j50, .slice D51 p52 q53], .agg #[.slice C24 m25 j26, .slice D27 p28 q29]] wc (RtP wc (rl, el)) by have h := add_any V_ab.out.k V_c.out.k; rw [HL.out] at h; exact h).mono ?_
        rintro e w218 ⟨v, rfl, hrv, hb⟩
        obtain ⟨u1, u2, rfl, hk⟩ := gd_rk hrv HGL.out
        obtain ⟨C219, m220, j221, e1⟩ := sl_form hk.s1
        obtain ⟨D222, p223, q224, e2⟩ := sl_form hk.s2
        subst e1 e2
        have KN := Lib.hid hk
        have V_a := Lib.hid (V_a.out.below hb)
        have V_b := Lib.hid (V_b.out.below hb)
        have V_c := Lib.hid (V_c.out.below hb)
        have V_ab := Lib.hid (V_ab.out.below hb)
        have V_bc := Lib.hid (V_bc.out.below hb)
        have V_x := Lib.hid (V_x.out.below hb)
        have B225 := Lib.hid (below_step BC0.out hb)
        clear BC0
        clear hk hb hrv
        clear hc210 hc211 hf212 hf213 hc214 hc215 hf216 hf217
        have BS0 := B225
        go_upto_region 23 with fail
        have V_a := Lib.hid (V_a.out.below (boxb w218 (.slice C219 m220 j221) (.slice D222 p223 q224)))
        have V_b := Lib.hid (V_b.out.below (boxb w218 (.slice C219 m220 j221) (.slice D222 p223 q224)))
        have V_c := Lib.hid (V_c.out.below (boxb w218 (.slice C219 m220 j221) (.slice D222 p223 q224)))
        have V_ab := Lib.hid (V_ab.out.below (boxb w218 (.slice C219 m220 j221) (.slice D222 p223 q224)))
        have V_bc := Lib.hid (V_bc.out.below (boxb w218 (.slice C219 m220 j221) (.slice D222 p223 q224)))
        have V_x := Lib.hid (V_x.out.below (boxb w218 (.slice C219 m220 j221) (.slice D222 p223 q224)))
        have B226 := Lib.hid (below_step B225.out (boxb w218 (.slice C219 m220 j221) (.slice D222 p223 q224)))
        clear B225
        have V_left := Lib.hid (Bx.new KN.out)
        have G_left := Lib.hid (show w.heap.size ≤ w218.heap.size from BS0.out.size)
        clear KN
        clear BS0
        obtain ⟨g227, hgn⟩ : ∃ g, w218.heap.size = g := ⟨_, rfl⟩
        obtain ⟨w228, hww⟩ : ∃ W, w218.alloc (.cells #[.slice C219 m220 j221, .slice D222 p223 q224] 28) = W := ⟨_, rfl⟩
        rw [hww] at B226 V_a V_b V_c V_ab V_bc V_x V_left ⊢
        rw [hgn] at V_left G_left  ⊢
        clear hww hgn
        obtain ⟨hc229, hc230, hf231, hf232⟩ := blk_cells2 V_a.out.b
        obtain ⟨hc233, hc234, hf235, hf236⟩ := blk_cells2 V_bc.out.b
        go_wp2_with fail
        refine (show Calls Try.prog 22 #[.agg #[.slice A1 n1 k1, .slice A2 n2 k2], .agg #[.slice C86 m87 j88, .slice D89 p90 q91]] w228 (RtP w228 (rl, el)) by have h := add_any V_a.out.k V_bc.out.k; rw [HRT.out] at h; exact h).mono ?_
        rintro e w237 ⟨v, rfl, hrv, hb⟩
        obtain ⟨u1, u2, rfl, hk⟩ := gd_rk hrv HGL.out
        obtain ⟨C238, m239, j240, e1⟩ := sl_form hk.s1
        obtain ⟨D241, p242, q243, e2⟩ := sl_form hk.s2
        subst e1 e2
        have KN := Lib.hid hk
        have V_a := Lib.hid (V_a.out.below hb)
        have V_b := Lib.hid (V_b.out.below hb)
        have V_c := Lib.hid (V_c.out.below hb)
        have V_ab := Lib.hid (V_ab.out.below hb)
        have V_bc := Lib.hid (V_bc.out.below hb)
        have V_x := Lib.hid (V_x.out.below hb)
        have V_left := Lib.hid (V_left.out.below hb)
        have B244 := Lib.hid (below_step B226.out hb)
        clear B226
        clear hk hb hrv
        clear hc229 hc230 hf231 hf232 hc233 hc234 hf235 hf236
        have BS0 := B244
        go_upto_region 24 with fail
        have V_a := Lib.hid (V_a.out.below (boxb w237 (.slice C238 m239 j240) (.slice D241 p242 q243)))
        have V_b := Lib.hid (V_b.out.below (boxb w237 (.slice C238 m239 j240) (.slice D241 p242 q243)))
        have V_c := Lib.hid (V_c.out.below (boxb w237 (.slice C238 m239 j240) (.slice D241 p242 q243)))
        have V_ab := Lib.hid (V_ab.out.below (boxb w237 (.slice C238 m239 j240) (.slice D241 p242 q243)))
        have V_bc := Lib.hid (V_bc.out.below (boxb w237 (.slice C238 m239 j240) (.slice D241 p242 q243)))
        have V_x := Lib.hid (V_x.out.below (boxb w237 (.slice C238 m239 j240) (.slice D241 p242 q243)))
        have V_left := Lib.hid (V_left.out.below (boxb w237 (.slice C238 m239 j240) (.slice D241 p242 q243)))
        have B245 := Lib.hid (below_step B244.out (boxb w237 (.slice C238 m239 j240) (.slice D241 p242 q243)))
        clear B244
        have V_right := Lib.hid (Bx.new KN.out)
        have G_right := Lib.hid (show w.heap.size ≤ w237.heap.size from BS0.out.size)
        clear KN
        clear BS0
        obtain ⟨g246, hgn⟩ : ∃ g, w237.heap.size = g := ⟨_, rfl⟩
        obtain ⟨w247, hww⟩ : ∃ W, w237.alloc (.cells #[.slice C238 m239 j240, .slice D241 p242 q243] 28) = W := ⟨_, rfl⟩
        rw [hww] at B245 V_a V_b V_c V_ab V_bc V_x V_left V_right ⊢
        rw [hgn] at V_right G_right  ⊢
        clear hww hgn
        obtain ⟨hc248, hc249, hf250, hf251⟩ := blk_cells2 V_a.out.b
        obtain ⟨hc252, hc253, hf254, hf255⟩ := blk_cells2 V_b.out.b
        obtain ⟨hc256, hc257, hf258, hf259⟩ := blk_cells2 V_c.out.b
        have hbs := bs3 A1 n1 k1 A2 n2 k2 C13 m14 j15 D16 p17 q18 C24 m25 j26 D27 p28 q29 w247
        go_wp2_with fail
        have hr3 := rls3 V_a.out.k V_b.out.k V_c.out.k
        have hsu := sum_any hr3 (by simp)
        rw [HSM.out] at hsu
        have V_a := Lib.hid (V_a.out.below (below_al w247 (.cells #[.slice A1 n1 k1, .slice A2 n2 k2, .slice C13 m14 j15, .slice D16 p17 q18, .slice C24 m25 j26, .slice D27 p28 q29] 28)))
        have V_b := Lib.hid (V_b.out.below (below_al w247 (.cells #[.slice A1 n1 k1, .slice A2 n2 k2, .slice C13 m14 j15, .slice D16 p17 q18, .slice C24 m25 j26, .slice D27 p28 q29] 28)))
        have V_c := Lib.hid (V_c.out.below (below_al w247 (.cells #[.slice A1 n1 k1, .slice A2 n2 k2, .slice C13 m14 j15, .slice D16 p17 q18, .slice C24 m25 j26, .slice D27 p28 q29] 28)))
        have V_ab := Lib.hid (V_ab.out.below (below_al w247 (.cells #[.slice A1 n1 k1, .slice A2 n2 k2, .slice C13 m14 j15, .slice D16 p17 q18, .slice C24 m25 j26, .slice D27 p28 q29] 28)))
        have V_bc := Lib.hid (V_bc.out.below (below_al w247 (.cells #[.slice A1 n1 k1, .slice A2 n2 k2, .slice C13 m14 j15, .slice D16 p17 q18, .slice C24 m25 j26, .slice D27 p28 q29] 28)))
        have V_x := Lib.hid (V_x.out.below (below_al w247 (.cells #[.slice A1 n1 k1, .slice A2 n2 k2, .slice C13 m14 j15, .slice D16 p17 q18, .slice C24 m25 j26, .slice D27 p28 q29] 28)))
        have V_left := Lib.hid (V_left.out.below (below_al w247 (.cells #[.slice A1 n1 k1, .slice A2 n2 k2, .slice C13 m14 j15, .slice D16 p17 q18, .slice C24 m25 j26, .slice D27 p28 q29] 28)))
        have V_right := Lib.hid (V_right.out.below (below_al w247 (.cells #[.slice A1 n1 k1, .slice A2 n2 k2, .slice C13 m14 j15, .slice D16 p17 q18, .slice C24 m25 j26, .slice D27 p28 q29] 28)))
        have B260 := Lib.hid (below_step B245.out (below_al w247 (.cells #[.slice A1 n1 k1, .slice A2 n2 k2, .slice C13 m14 j15, .slice D16 p17 q18, .slice C24 m25 j26, .slice D27 p28 q29] 28)))
        clear B245
        refine hsu.mono ?_
        clear hsu hr3 hbs
        clear hc248 hc249 hf250 hf251 hc252 hc253 hf254 hf255 hc256 hc257 hf258 hf259
        rintro e w261 ⟨v, rfl, hrv, hb⟩
        obtain ⟨u1, u2, rfl, hk⟩ := gd_rk hrv HGL.out
        obtain ⟨C262, m263, j264, e1⟩ := sl_form hk.s1
        obtain ⟨D265, p266, q267, e2⟩ := sl_form hk.s2
        subst e1 e2
        have KN := Lib.hid hk
        have V_a := Lib.hid (V_a.out.below hb)
        have V_b := Lib.hid (V_b.out.below hb)
        have V_c := Lib.hid (V_c.out.below hb)
        have V_ab := Lib.hid (V_ab.out.below hb)
        have V_bc := Lib.hid (V_bc.out.below hb)
        have V_x := Lib.hid (V_x.out.below hb)
        have V_left := Lib.hid (V_left.out.below hb)
        have V_right := Lib.hid (V_right.out.below hb)
        have B268 := Lib.hid (below_step B260.out hb)
        clear B260
        clear hk hb hrv
        have BS0 := B268
        go_upto_region 25 with fail
        have V_a := Lib.hid (V_a.out.below (boxb w261 (.slice C262 m263 j264) (.slice D265 p266 q267)))
        have V_b := Lib.hid (V_b.out.below (boxb w261 (.slice C262 m263 j264) (.slice D265 p266 q267)))
        have V_c := Lib.hid (V_c.out.below (boxb w261 (.slice C262 m263 j264) (.slice D265 p266 q267)))
        have V_ab := Lib.hid (V_ab.out.below (boxb w261 (.slice C262 m263 j264) (.slice D265 p266 q267)))
        have V_bc := Lib.hid (V_bc.out.below (boxb w261 (.slice C262 m263 j264) (.slice D265 p266 q267)))
        have V_x := Lib.hid (V_x.out.below (boxb w261 (.slice C262 m263 j264) (.slice D265 p266 q267)))
        have V_left := Lib.hid (V_left.out.below (boxb w261 (.slice C262 m263 j264) (.slice D265 p266 q267)))
        have V_right := Lib.hid (V_right.out.below (boxb w261 (.slice C262 m263 j264) (.slice D265 p266 q267)))
        have B269 := Lib.hid (below_step B268.out (boxb w261 (.slice C262 m263 j264) (.slice D265 p266 q267)))
        clear B268
        have V_all := Lib.hid (Bx.new KN.out)
        have G_all := Lib.hid (show w.heap.size ≤ w261.heap.size from BS0.out.size)
        clear KN
        clear BS0
        obtain ⟨g270, hgn⟩ : ∃ g, w261.heap.size = g := ⟨_, rfl⟩
        obtain ⟨w271, hww⟩ : ∃ W, w261.alloc (.cells #[.slice C262 m263 j264, .slice D265 p266 q267] 28) = W := ⟨_, rfl⟩
        rw [hww] at B269 V_a V_b V_c V_ab V_bc V_x V_left V_right V_all ⊢
        rw [hgn] at V_all G_all  ⊢
        clear hww hgn
        as_aux_lemma =>
        obtain ⟨hc272, hc273, hf274, hf275⟩ := blk_cells2 V_left.out.b
        obtain ⟨hc276, hc277, hf278, hf279⟩ := blk_cells2 V_right.out.b
        go_wp2_with fail
        have hsm := same_any V_left.out.k V_right.out.k
        rw [decide_eq_true rfl] at hsm
        refine hsm.mono ?_
        clear hsm
        rintro e w280 ⟨rfl, hb⟩
        have V_a := Lib.hid (V_a.out.below hb)
        have V_b := Lib.hid (V_b.out.below hb)
        have V_c := Lib.hid (V_c.out.below hb)
        have V_ab := Lib.hid (V_ab.out.below hb)
        have V_bc := Lib.hid (V_bc.out.below hb)
        have V_x := Lib.hid (V_x.out.below hb)
        have V_left := Lib.hid (V_left.out.below hb)
        have V_right := Lib.hid (V_right.out.below hb)
        have V_all := Lib.hid (V_all.out.below hb)
        have B281 := Lib.hid (below_step B269.out hb)
        clear B269
        clear hb
        clear hc272 hc273 hf274 hf275 hc276 hc277 hf278 hf279
        as_aux_lemma =>
        obtain ⟨hc282, hc283, hf284, hf285⟩ := blk_cells2 V_left.out.b
        obtain ⟨hc286, hc287, hf288, hf289⟩ := blk_cells2 V_all.out.b
        go_wp2_with fail
        have hsm := same_any V_left.out.k V_all.out.k
        rw [decide_eq_true rfl] at hsm
        refine hsm.mono ?_
        clear hsm
        rintro e w290 ⟨rfl, hb⟩
        have V_a := Lib.hid (V_a.out.below hb)
        have V_b := Lib.hid (V_b.out.below hb)
        have V_c := Lib.hid (V_c.out.below hb)
        have V_ab := Lib.hid (V_ab.out.below hb)
        have V_bc := Lib.hid (V_bc.out.below hb)
        have V_x := Lib.hid (V_x.out.below hb)
        have V_left := Lib.hid (V_left.out.below hb)
        have V_right := Lib.hid (V_right.out.below hb)
        have V_all := Lib.hid (V_all.out.below hb)
        have B291 := Lib.hid (below_step B281.out hb)
        clear B281
        clear hb
        clear hc282 hc283 hf284 hf285 hc286 hc287 hf288 hf289
        as_aux_lemma =>
        clear V_left
        clear V_right
        clear V_all
        go_upto_region 27 with fail
        obtain ⟨rw, ew, hw⟩ : ∃ r e, mulR (lim xa, dl ya) (lim p, dl q) = (r, e) := ⟨_, _, rfl⟩
        obtain ⟨rac, eac, hac⟩ : ∃ r e, mulR (lim xa, dl ya) (lim x3, dl y3) = (r, e) := ⟨_, _, rfl⟩
        obtain ⟨rp, ep, hp⟩ : ∃ r e, addR (lim p2, dl q2) rac = (r, e) := ⟨_, _, rfl⟩
        have hgw : Gd5 (rw, ew) := by rw [← hw]; exact gd_mul V_a.out.k.ok V_bc.out.k.ok
        have hgac : Gd5 (rac, eac) := by rw [← hac]; exact gd_mul V_a.out.k.ok V_c.out.k.ok
        have hgp : Gd5 (rp, ep) := by rw [← hp]; exact gd_add V_x.out.k.ok hgac.1
        have HW := Lib.hid hw
        have HAC := Lib.hid hac
        have HP := Lib.hid hp
        have HGW := Lib.hid hgw
        have HGAC := Lib.hid hgac
        have HGP := Lib.hid hgp
        have HDD := Lib.hid (show ew = 0 → eac = 0 → ep = 0 → rw = rp from fun h1 h2 h3 => HDI.out rw rac rp (by rw [hw, h1]) (by rw [hac, h2]) (by rw [hp, h3]))
        clear hw hac hp hgw hgac hgp HDI
        obtain ⟨hc292, hc293, hf294, hf295⟩ := blk_cells2 V_a.out.b
        obtain ⟨hc296, hc297, hf298, hf299⟩ := blk_cells2 V_bc.out.b
        go_wp2_with fail
        refine (show Calls Try.prog 23 #[.agg #[.slice A1 n1 k1, .slice A2 n2 k2], .agg #[.slice C86 m87 j88, .slice D89 p90 q91]] w290 (RtP w290 (rw, ew)) by have h := mul_any V_a.out.k V_bc.out.k; rw [HW.out] at h; exact h).mono ?_
        rintro e w300 ⟨v, rfl, hrv, hb⟩
        obtain ⟨u1, u2, rfl, hk⟩ := gd_rk hrv HGW.out
        obtain ⟨C301, m302, j303, e1⟩ := sl_form hk.s1
        obtain ⟨D304, p305, q306, e2⟩ := sl_form hk.s2
        subst e1 e2
        have KN := Lib.hid hk
        have V_a := Lib.hid (V_a.out.below hb)
        have V_b := Lib.hid (V_b.out.below hb)
        have V_c := Lib.hid (V_c.out.below hb)
        have V_ab := Lib.hid (V_ab.out.below hb)
        have V_bc := Lib.hid (V_bc.out.below hb)
        have V_x := Lib.hid (V_x.out.below hb)
        have B307 := Lib.hid (below_step B291.out hb)
        clear B291
        clear hk hb hrv
        clear hc292 hc293 hf294 hf295 hc296 hc297 hf298 hf299
        have BS0 := B307
        go_upto_region 28 with fail
        have V_a := Lib.hid (V_a.out.below (boxb w300 (.slice C301 m302 j303) (.slice D304 p305 q306)))
        have V_b := Lib.hid (V_b.out.below (boxb w300 (.slice C301 m302 j303) (.slice D304 p305 q306)))
        have V_c := Lib.hid (V_c.out.below (boxb w300 (.slice C301 m302 j303) (.slice D304 p305 q306)))
        have V_ab := Lib.hid (V_ab.out.below (boxb w300 (.slice C301 m302 j303) (.slice D304 p305 q306)))
        have V_bc := Lib.hid (V_bc.out.below (boxb w300 (.slice C301 m302 j303) (.slice D304 p305 q306)))
        have V_x := Lib.hid (V_x.out.below (boxb w300 (.slice C301 m302 j303) (.slice D304 p305 q306)))
        have B308 := Lib.hid (below_step B307.out (boxb w300 (.slice C301 m302 j303) (.slice D304 p305 q306)))
        clear B307
        have V_whole := Lib.hid (Bx.new KN.out)
        have G_whole := Lib.hid (show w.heap.size ≤ w300.heap.size from BS0.out.size)
        clear KN
        clear BS0
        obtain ⟨g309, hgn⟩ : ∃ g, w300.heap.size = g := ⟨_, rfl⟩
        obtain ⟨w310, hww⟩ : ∃ W, w300.alloc (.cells #[.slice C301 m302 j303, .slice D304 p305 q306] 28) = W := ⟨_, rfl⟩
        rw [hww] at B308 V_a V_b V_c V_ab V_bc V_x V_whole ⊢
        rw [hgn] at V_whole G_whole  ⊢
        clear hww hgn
        as_aux_lemma =>
        obtain ⟨hc311, hc312, hf313, hf314⟩ := blk_cells2 V_a.out.b
        obtain ⟨hc315, hc316, hf317, hf318⟩ := blk_cells2 V_c.out.b
        go_wp2_with fail
        refine (show Calls Try.prog 23 #[.agg #[.slice A1 n1 k1, .slice A2 n2 k2], .agg #[.slice C24 m25 j26, .slice D27 p28 q29]] w310 (RtP w310 (rac, eac)) by have h := mul_any V_a.out.k V_c.out.k; rw [HAC.out] at h; exact h).mono ?_
        rintro e w319 ⟨v, rfl, hrv, hb⟩
        obtain ⟨u1, u2, rfl, hk⟩ := gd_rk hrv HGAC.out
        obtain ⟨C320, m321, j322, e1⟩ := sl_form hk.s1
        obtain ⟨D323, p324, q325, e2⟩ := sl_form hk.s2
        subst e1 e2
        have KN := Lib.hid hk
        have V_a := Lib.hid (V_a.out.below hb)
        have V_b := Lib.hid (V_b.out.below hb)
        have V_c := Lib.hid (V_c.out.below hb)
        have V_ab := Lib.hid (V_ab.out.below hb)
        have V_bc := Lib.hid (V_bc.out.below hb)
        have V_x := Lib.hid (V_x.out.below hb)
        have V_whole := Lib.hid (V_whole.out.below hb)
        have B326 := Lib.hid (below_step B308.out hb)
        clear B308
        clear hk hb hrv
        clear hc311 hc312 hf313 hf314 hc315 hc316 hf317 hf318
        have BS0 := B326
        go_upto_region 29 with fail
        have V_a := Lib.hid (V_a.out.below (boxb w319 (.slice C320 m321 j322) (.slice D323 p324 q325)))
        have V_b := Lib.hid (V_b.out.below (boxb w319 (.slice C320 m321 j322) (.slice D323 p324 q325)))
        have V_c := Lib.hid (V_c.out.below (boxb w319 (.slice C320 m321 j322) (.slice D323 p324 q325)))
        have V_ab := Lib.hid (V_ab.out.below (boxb w319 (.slice C320 m321 j322) (.slice D323 p324 q325)))
        have V_bc := Lib.hid (V_bc.out.below (boxb w319 (.slice C320 m321 j322) (.slice D323 p324 q325)))
        have V_x := Lib.hid (V_x.out.below (boxb w319 (.slice C320 m321 j322) (.slice D323 p324 q325)))
        have V_whole := Lib.hid (V_whole.out.below (boxb w319 (.slice C320 m321 j322) (.slice D323 p324 q325)))
        have B327 := Lib.hid (below_step B326.out (boxb w319 (.slice C320 m321 j322) (.slice D323 p324 q325)))
        clear B326
        have V_ac := Lib.hid (Bx.new KN.out)
        have G_ac := Lib.hid (show w.heap.size ≤ w319.heap.size from BS0.out.size)
        clear KN
        clear BS0
        obtain ⟨g328, hgn⟩ : ∃ g, w319.heap.size = g := ⟨_, rfl⟩
        obtain ⟨w329, hww⟩ : ∃ W, w319.alloc (.cells #[.slice C320 m321 j322, .slice D323 p324 q325] 28) = W := ⟨_, rfl⟩
        rw [hww] at B327 V_a V_b V_c V_ab V_bc V_x V_whole V_ac ⊢
        rw [hgn] at V_ac G_ac  ⊢
        clear hww hgn
        as_aux_lemma =>
        obtain ⟨hc330, hc331, hf332, hf333⟩ := blk_cells2 V_x.out.b
        obtain ⟨hc334, hc335, hf336, hf337⟩ := blk_cells2 V_ac.out.b
        go_wp2_with fail
        refine (show Calls Try.prog 22 #[.agg #[.slice C105 m106 j107, .slice D108 p109 q110], .agg #[.slice C320 m321 j322, .slice D323 p324 q325]] w329 (RtP w329 (rp, ep)) by have h := add_any V_x.out.k V_ac.out.k; rw [HP.out] at h; exact h).mono ?_
        rintro e w338 ⟨v, rfl, hrv, hb⟩
        obtain ⟨u1, u2, rfl, hk⟩ := gd_rk hrv HGP.out
        obtain ⟨C339, m340, j341, e1⟩ := sl_form hk.s1
        obtain ⟨D342, p343, q344, e2⟩ := sl_form hk.s2
        subst e1 e2
        have KN := Lib.hid hk
        have V_a := Lib.hid (V_a.out.below hb)
        have V_b := Lib.hid (V_b.out.below hb)
        have V_c := Lib.hid (V_c.out.below hb)
        have V_ab := Lib.hid (V_ab.out.below hb)
        have V_bc := Lib.hid (V_bc.out.below hb)
        have V_x := Lib.hid (V_x.out.below hb)
        have V_whole := Lib.hid (V_whole.out.below hb)
        have V_ac := Lib.hid (V_ac.out.below hb)
        have B345 := Lib.hid (below_step B327.out hb)
        clear B327
        clear hk hb hrv
        clear hc330 hc331 hf332 hf333 hc334 hc335 hf336 hf337
        have BS0 := B345
        go_upto_region 30 with fail
        have V_a := Lib.hid (V_a.out.below (boxb w338 (.slice C339 m340 j341) (.slice D342 p343 q344)))
        have V_b := Lib.hid (V_b.out.below (boxb w338 (.slice C339 m340 j341) (.slice D342 p343 q344)))
        have V_c := Lib.hid (V_c.out.below (boxb w338 (.slice C339 m340 j341) (.slice D342 p343 q344)))
        have V_ab := Lib.hid (V_ab.out.below (boxb w338 (.slice C339 m340 j341) (.slice D342 p343 q344)))
        have V_bc := Lib.hid (V_bc.out.below (boxb w338 (.slice C339 m340 j341) (.slice D342 p343 q344)))
        have V_x := Lib.hid (V_x.out.below (boxb w338 (.slice C339 m340 j341) (.slice D342 p343 q344)))
        have V_whole := Lib.hid (V_whole.out.below (boxb w338 (.slice C339 m340 j341) (.slice D342 p343 q344)))
        have V_ac := Lib.hid (V_ac.out.below (boxb w338 (.slice C339 m340 j341) (.slice D342 p343 q344)))
        have B346 := Lib.hid (below_step B345.out (boxb w338 (.slice C339 m340 j341) (.slice D342 p343 q344)))
        clear B345
        have V_parts := Lib.hid (Bx.new KN.out)
        have G_parts := Lib.hid (show w.heap.size ≤ w338.heap.size from BS0.out.size)
        clear KN
        clear BS0
        obtain ⟨g347, hgn⟩ : ∃ g, w338.heap.size = g := ⟨_, rfl⟩
        obtain ⟨w348, hww⟩ : ∃ W, w338.alloc (.cells #[.slice C339 m340 j341, .slice D342 p343 q344] 28) = W := ⟨_, rfl⟩
        rw [hww] at B346 V_a V_b V_c V_ab V_bc V_x V_whole V_ac V_parts ⊢
        rw [hgn] at V_parts G_parts  ⊢
        clear hww hgn
        as_aux_lemma =>
        clear V_a
        clear V_b
        clear V_c
        clear V_ab
        clear V_bc
        clear V_x
        clear V_ac
        clear HW HAC HP HGW HGAC HGP HV_a HV_b HV_c HVP HBb HBc HSM HRT HL HGL
        go_upto_region 30 with fail
        go_cut [225] from 36 (fun s225 wx => s225 = .bool false ∧ Below w.heap.size w wx)
        case first =>
          by_cases h1 : ew = 0
          · by_cases h2 : eac = 0
            · by_cases h3 : ep = 0
              · have hrr := HDD.out h1 h2 h3
                subst h1 h2 h3 hrr
                clear HDD
                obtain ⟨hc349, hc350, hf351, hf352⟩ := blk_cells2 V_whole.out.b
                obtain ⟨hc353, hc354, hf355, hf356⟩ := blk_cells2 V_parts.out.b
                go_wp2_with fail
                have hsm := same_any V_whole.out.k V_parts.out.k
                rw [decide_eq_true rfl] at hsm
                refine hsm.mono ?_
                clear hsm
                rintro e w357 ⟨rfl, hb⟩
                have V_whole := Lib.hid (V_whole.out.below hb)
                have V_parts := Lib.hid (V_parts.out.below hb)
                have B358 := Lib.hid (below_step B346.out hb)
                clear B346
                clear hb
                clear hc349 hc350 hf351 hf352 hc353 hc354 hf355 hf356
                as_aux_lemma =>
                go_wp2_with fail
                go_meet
                exact ⟨rfl, B358.out⟩
              · have hne : (((ep : Nat) : Int) == 0) = false := by rw [beq_eq_false_iff_ne]; omega
                subst h1 h2
                clear h3 HDD
                go_wp2_with fail
                go_meet
                exact ⟨rfl, B346.out⟩
            · have hne : (((eac : Nat) : Int) == 0) = false := by rw [beq_eq_false_iff_ne]; omega
              subst h1
              clear h2 HDD
              go_wp2_with fail
              go_meet
              exact ⟨rfl, B346.out⟩
          · have hne : (((ew : Nat) : Int) == 0) = false := by rw [beq_eq_false_iff_ne]; omega
            clear h1 HDD
            go_wp2_with fail
            go_meet
            exact ⟨rfl, B346.out⟩
        case rest =>
          obtain ⟨rfl, hbe⟩ := hcut
          have BE := Lib.hid hbe
          clear hbe HDD B346
          go_wp2_with fail
          refine (lives_any wc (HM.out.below H2.out BE.out) (by have := H2.out; have := BE.out.size; omega)).mono ?_
          rintro e w359 ⟨rfl, hb⟩
          have BL := Lib.hid (below_step BE.out hb)
          clear hb
          go_wp2_with fail
          go_ret
          exact ⟨rfl, BL.out⟩
    · have hz2 : (eab = 0 ∧ ex = 4) ∨ (eab = 4 ∧ ex = 0) ∨ (eab = 4 ∧ ex = 4) := by have h1 := E04.out; have h2 := H04.out; omega
      clear hz E04 H04 V_a V_b V_c V_ab V_bc V_x HGA HGX HAB HBA HX HY HBC HBCE
      rcases hz2 with ⟨rfl, rfl⟩ | ⟨rfl, rfl⟩ | ⟨rfl, rfl⟩
      · go_wp2_with fail
        refine (lives_any w152 (HM.out.below H2.out B153.out) (by have := H2.out; have := B153.out.size; omega)).mono ?_
        rintro e w360 ⟨rfl, hb⟩
        have BL := Lib.hid (below_step B153.out hb)
        clear hb
        go_wp2_with fail
        go_ret
        exact ⟨rfl, BL.out⟩
      · go_wp2_with fail
        refine (lives_any w152 (HM.out.below H2.out B153.out) (by have := H2.out; have := B153.out.size; omega)).mono ?_
        rintro e w361 ⟨rfl, hb⟩
        have BL := Lib.hid (below_step B153.out hb)
        clear hb
        go_wp2_with fail
        go_ret
        exact ⟨rfl, BL.out⟩
      · go_wp2_with fail
        refine (lives_any w152 (HM.out.below H2.out B153.out) (by have := H2.out; have := B153.out.size; omega)).mono ?_
        rintro e w362 ⟨rfl, hb⟩
        have BL := Lib.hid (below_step B153.out hb)
        clear hb
        go_wp2_with fail
        go_ret
        exact ⟨rfl, BL.out⟩
end Go.Proofs.Ytbfhilbagojdnaa
