/-
  Texts of the proof, joined: Or.
  No condition: lemmas.
-/
import Derived.Test.YtbfhilbagojdnaaGr12
namespace Go.Proofs.Ytbfhilbagojdnaa
open Go.RowKit Wr Go.Proofs.Ytbfhilbagojdnaa.Nm
set_option linter.unusedVariables false
set_option maxRecDepth 100000

theorem ord_bd (a b : Nat) : -1 ≤ ord a b ∧ ord a b ≤ 1 := by unfold ord; split <;> (try split) <;> omega
set_option maxHeartbeats 8000000 in
theorem order_walk (n m k d : Int) (w : World) (hM : MaxL w) (h2 : 2 < w.heap.size) (hn : -9223372036854775808 ≤ n ∧ n ≤ 9223372036854775807) (hm : -9223372036854775808 ≤ m ∧ m ≤ 9223372036854775807) (hk : -9223372036854775808 ≤ k ∧ k ≤ 9223372036854775807) (hd : -9223372036854775808 ≤ d ∧ d ≤ 9223372036854775807) :
    Calls Try.prog 6 #[.int .i64 n, .int .i64 m, .int .i64 k, .int .i64 d] w (SmP w true) := by
  have HMa := Lib.hid (fun W => made_ref n m W hn hm); have HMb := Lib.hid (fun W => made_ref k d W hk hd); have HPc := Lib.hid (fun W => part_ref m k W hm hk)
  have HM := Lib.hid hM; have H2 := Lib.hid h2
  have B0 := Lib.hid (Below.refl w.heap.size w)
  clear hM h2 hn hm hk hd
  go_enter Try.func6, Try.ntmps6
  go_wp2_with fail
  refine (HMa.out _).mono ?_
  rintro e w1 ⟨x1, y1, u1, u2, rfl, hk, hva, ⟨ha1, ha2⟩, hb⟩
  have HV_a := Lib.hid hva; have KN := Lib.hid hk
  clear hva
  obtain ⟨C2, m3, j4, e1⟩ := sl_form hk.s1
  obtain ⟨D5, p6, q7, e2⟩ := sl_form hk.s2
  subst e1 e2
  have B8 := Lib.hid (below_step B0.out hb)
  clear B0
  clear hk hb
  have BS0 := B8
  go_upto_region 2 with fail
  have B9 := Lib.hid (below_step B8.out (boxb w1 (.slice C2 m3 j4) (.slice D5 p6 q7)))
  clear B8
  have V_a := Lib.hid (Bx.new KN.out)
  have G_a := Lib.hid (show w.heap.size ≤ w1.heap.size from BS0.out.size)
  clear KN
  clear BS0
  obtain ⟨g10, hgn⟩ : ∃ g, w1.heap.size = g := ⟨_, rfl⟩
  obtain ⟨w11, hww⟩ : ∃ W, w1.alloc (.cells #[.slice C2 m3 j4, .slice D5 p6 q7] 28) = W := ⟨_, rfl⟩
  rw [hww] at B9 V_a ⊢
  rw [hgn] at V_a G_a  ⊢
  clear hww hgn
  as_aux_lemma =>
  go_wp2_with fail
  refine (HMb.out _).mono ?_
  rintro e w12 ⟨x2, y2, u1, u2, rfl, hk, hvb, ⟨hb1, hb2⟩, hb⟩
  have HV_b := Lib.hid hvb; have KN := Lib.hid hk
  clear hvb
  obtain ⟨C13, m14, j15, e1⟩ := sl_form hk.s1
  obtain ⟨D16, p17, q18, e2⟩ := sl_form hk.s2
  subst e1 e2
  have V_a := Lib.hid (V_a.out.below hb)
  have B19 := Lib.hid (below_step B9.out hb)
  clear B9
  clear hk hb
  have BS0 := B19
  go_upto_region 3 with fail
  have L_a_b := Lib.hid (V_a.out.b.lt)
  have V_a := Lib.hid (V_a.out.below (boxb w12 (.slice C13 m14 j15) (.slice D16 p17 q18)))
  have B20 := Lib.hid (below_step B19.out (boxb w12 (.slice C13 m14 j15) (.slice D16 p17 q18)))
  clear B19
  have V_b := Lib.hid (Bx.new KN.out)
  have G_b := Lib.hid (show w.heap.size ≤ w12.heap.size from BS0.out.size)
  clear KN
  clear BS0
  obtain ⟨g21, hgn⟩ : ∃ g, w12.heap.size = g := ⟨_, rfl⟩
  obtain ⟨w22, hww⟩ : ∃ W, w12.alloc (.cells #[.slice C13 m14 j15, .slice D16 p17 q18] 28) = W := ⟨_, rfl⟩
  rw [hww] at B20 V_a V_b ⊢
  rw [hgn] at V_b G_b L_a_b ⊢
  clear hww hgn
  as_aux_lemma =>
  go_wp2_with fail
  refine (HPc.out _).mono ?_
  rintro e w23 ⟨x3, y3, u1, u2, rfl, hk, hvc, ⟨hc1, hc2⟩, hb⟩
  have HV_c := Lib.hid hvc; have KN := Lib.hid hk
  clear hvc
  obtain ⟨C24, m25, j26, e1⟩ := sl_form hk.s1
  obtain ⟨D27, p28, q29, e2⟩ := sl_form hk.s2
  subst e1 e2
  have V_a := Lib.hid (V_a.out.below hb)
  have V_b := Lib.hid (V_b.out.below hb)
  have B30 := Lib.hid (below_step B20.out hb)
  clear B20
  clear hk hb
  have BS0 := B30
  go_upto_region 4 with fail
  have L_a_c := Lib.hid (V_a.out.b.lt)
  have L_b_c := Lib.hid (V_b.out.b.lt)
  have V_a := Lib.hid (V_a.out.below (boxb w23 (.slice C24 m25 j26) (.slice D27 p28 q29)))
  have V_b := Lib.hid (V_b.out.below (boxb w23 (.slice C24 m25 j26) (.slice D27 p28 q29)))
  have B31 := Lib.hid (below_step B30.out (boxb w23 (.slice C24 m25 j26) (.slice D27 p28 q29)))
  clear B30
  have V_c := Lib.hid (Bx.new KN.out)
  have G_c := Lib.hid (show w.heap.size ≤ w23.heap.size from BS0.out.size)
  clear KN
  clear BS0
  obtain ⟨g32, hgn⟩ : ∃ g, w23.heap.size = g := ⟨_, rfl⟩
  obtain ⟨w33, hww⟩ : ∃ W, w23.alloc (.cells #[.slice C24 m25 j26, .slice D27 p28 q29] 28) = W := ⟨_, rfl⟩
  rw [hww] at B31 V_a V_b V_c ⊢
  rw [hgn] at V_c G_c L_a_c L_b_c ⊢
  clear hww hgn
  as_aux_lemma =>
  have hx3 : x3 ≤ 24 := by omega
  obtain ⟨p1, q1, v1, e1, m1⟩ := add_small HV_a.out HV_c.out ha1 ha2 hx3 hc2
  obtain ⟨p2, q2, v2, e2, m2⟩ := add_small HV_b.out HV_c.out hb1 hb2 hx3 hc2
  obtain ⟨r1, s1, v3, e3, m3⟩ := mul_small HV_a.out HV_c.out ha1 ha2 hx3 hc2
  obtain ⟨r2, s2, v4, e4, m4⟩ := mul_small HV_b.out HV_c.out hb1 hb2 hx3 hc2
  obtain ⟨O3, hO3, hO30, hO31⟩ := cmp_muls HV_a.out HV_b.out HV_c.out v3 v4 m3 m4
  obtain ⟨N, hN, hfl, O4, hO4, hO4n, hO5⟩ := floor_math HV_a.out ha1
  obtain ⟨rs, es, hsu, hgs, hway⟩ := sub_sign HV_a.out HV_b.out ha1 ha2 hb1 hb2
  have hS := cmp_sums HV_a.out HV_b.out HV_c.out v1 v2 m1 m2
  have hC := cmp_eq HV_a.out HV_b.out
  have hF := cmp_flip HV_a.out HV_b.out
  obtain ⟨O, hO⟩ : ∃ O, O = ord (x1 * y2) (x2 * y1) := ⟨_, rfl⟩
  rw [← hO] at hway hS hC hF hO31
  have hwO : IntKind.i64.wrap (-O) = -O := IntWalk.i64_in _ (by have := ord_bd (x1 * y2) (x2 * y1); rw [← hO] at this; omega)
  have HE1 := Lib.hid (e1)
  have HE2 := Lib.hid (e2)
  have HE3 := Lib.hid (e3)
  have HE4 := Lib.hid (e4)
  have HV1 := Lib.hid (v1)
  have HV2 := Lib.hid (v2)
  have HV3 := Lib.hid (v3)
  have HV4 := Lib.hid (v4)
  have HC3 := Lib.hid (hO3)
  have HO30 := Lib.hid (hO30)
  have HO31 := Lib.hid (hO31)
  have HNB := Lib.hid (hN)
  have HFL := Lib.hid (hfl)
  have HC4 := Lib.hid (hO4)
  have HO4 := Lib.hid (hO4n)
  have HC5 := Lib.hid (hO5)
  have HSU := Lib.hid (hsu)
  have HGS := Lib.hid (hgs)
  have HWAY := Lib.hid (hway)
  have HCS := Lib.hid (hS)
  have HCC := Lib.hid (hC)
  have HCF := Lib.hid (hF)
  have HOO := Lib.hid (hO)
  have HBA := Lib.hid (And.intro ha1 ha2)
  have HBB := Lib.hid (And.intro hb1 hb2)
  have HWO := Lib.hid (hwO)
  clear e1 e2 e3 e4 m1 m2 m3 m4 v1 v2 v3 v4 hO3 hO30 hO31 hN hfl hO4 hO4n hO5 hsu hgs hway hS hC hF hO ha1 ha2 hb1 hb2 hc1 hc2 hx3 hwO HMa HMb HPc
  obtain ⟨hc34, hc35, hf36, hf37⟩ := blk_cells2 V_a.out.b
  obtain ⟨hc38, hc39, hf40, hf41⟩ := blk_cells2 V_b.out.b
  go_wp2_with fail
  refine (show Calls Try.prog 27 #[.agg #[.slice C2 m3 j4, .slice D5 p6 q7], .agg #[.slice C13 m14 j15, .slice D16 p17 q18]] w33 (fun e w' => e = .returned (.tuple #[.int .i64 O, .int .i64 0]) ∧ Below w33.heap.size w33 w') by have h := cmp_any V_a.out.k V_b.out.k; rw [HCC.out] at h; exact h).mono ?_
  rintro e w42 ⟨rfl, hb⟩
  have V_a := Lib.hid (V_a.out.below hb)
  have V_b := Lib.hid (V_b.out.below hb)
  have V_c := Lib.hid (V_c.out.below hb)
  have B43 := Lib.hid (below_step B31.out hb)
  clear B31
  clear hb
  clear hc34 hc35 hf36 hf37 hc38 hc39 hf40 hf41
  as_aux_lemma =>
  obtain ⟨hc44, hc45, hf46, hf47⟩ := blk_cells2 V_b.out.b
  obtain ⟨hc48, hc49, hf50, hf51⟩ := blk_cells2 V_a.out.b
  go_wp2_with fail
  refine (show Calls Try.prog 27 #[.agg #[.slice C13 m14 j15, .slice D16 p17 q18], .agg #[.slice C2 m3 j4, .slice D5 p6 q7]] w42 (fun e w' => e = .returned (.tuple #[.int .i64 (-O), .int .i64 0]) ∧ Below w42.heap.size w42 w') by have h := cmp_any V_b.out.k V_a.out.k; rw [HCF.out] at h; exact h).mono ?_
  rintro e w52 ⟨rfl, hb⟩
  have V_a := Lib.hid (V_a.out.below hb)
  have V_b := Lib.hid (V_b.out.below hb)
  have V_c := Lib.hid (V_c.out.below hb)
  have B53 := Lib.hid (below_step B43.out hb)
  clear B43
  clear hb
  clear hc44 hc45 hf46 hf47 hc48 hc49 hf50 hf51
  as_aux_lemma =>
  obtain ⟨hc54, hc55, hf56, hf57⟩ := blk_cells2 V_a.out.b
  obtain ⟨hc58, hc59, hf60, hf61⟩ := blk_cells2 V_b.out.b
  go_wp2_with fail
  refine (show Calls Try.prog 25 #[.agg #[.slice C2 m3 j4, .slice D5 p6 q7], .agg #[.slice C13 m14 j15, .slice D16 p17 q18]] w52 (RtP w52 (rs, es)) by have h := sub_any V_a.out.k V_b.out.k; rw [HSU.out] at h; exact h).mono ?_
  rintro e w62 ⟨v, rfl, hrv, hb⟩
  obtain ⟨u1, u2, rfl, hk⟩ := gd_rk hrv HGS.out
  obtain ⟨C63, m64, j65, e1⟩ := sl_form hk.s1
  obtain ⟨D66, p67, q68, e2⟩ := sl_form hk.s2
  subst e1 e2
  have V_a := Lib.hid (V_a.out.below hb)
  have V_b := Lib.hid (V_b.out.below hb)
  have V_c := Lib.hid (V_c.out.below hb)
  have B69 := Lib.hid (below_step B53.out hb)
  clear B53
  clear hk hb hrv
  clear hc54 hc55 hf56 hf57 hc58 hc59 hf60 hf61
  have BS0 := B69
  go_upto_region 7 with fail
  have V_a := Lib.hid (V_a.out.below (boxb w62 (.slice C63 m64 j65) (.slice D66 p67 q68)))
  have V_b := Lib.hid (V_b.out.below (boxb w62 (.slice C63 m64 j65) (.slice D66 p67 q68)))
  have V_c := Lib.hid (V_c.out.below (boxb w62 (.slice C63 m64 j65) (.slice D66 p67 q68)))
  have B70 := Lib.hid (below_step B69.out (boxb w62 (.slice C63 m64 j65) (.slice D66 p67 q68)))
  clear B69
  clear BS0
  obtain ⟨g71, hgn⟩ : ∃ g, w62.heap.size = g := ⟨_, rfl⟩
  obtain ⟨w72, hww⟩ : ∃ W, w62.alloc (.cells #[.slice C63 m64 j65, .slice D66 p67 q68] 28) = W := ⟨_, rfl⟩
  rw [hww] at B70 V_a V_b V_c ⊢
  rw [hgn]
  clear hww hgn
  as_aux_lemma =>
  obtain ⟨hc73, hc74, hf75, hf76⟩ := blk_cells2 V_a.out.b
  obtain ⟨hc77, hc78, hf79, hf80⟩ := blk_cells2 V_c.out.b
  go_wp2_with fail
  refine (show Calls Try.prog 22 #[.agg #[.slice C2 m3 j4, .slice D5 p6 q7], .agg #[.slice C24 m25 j26, .slice D27 p28 q29]] w72 (RtP w72 ((lim p1, dl q1), 0)) by have h := add_any V_a.out.k V_c.out.k; rw [HE1.out] at h; exact h).mono ?_
  rintro e w81 ⟨v, rfl, hrv, hb⟩
  obtain ⟨u1, u2, rfl, hk⟩ := gd_rk hrv (gd_vr HV1.out)
  obtain ⟨C82, m83, j84, e1⟩ := sl_form hk.s1
  obtain ⟨D85, p86, q87, e2⟩ := sl_form hk.s2
  subst e1 e2
  have KN := Lib.hid hk
  have V_a := Lib.hid (V_a.out.below hb)
  have V_b := Lib.hid (V_b.out.below hb)
  have V_c := Lib.hid (V_c.out.below hb)
  have B88 := Lib.hid (below_step B70.out hb)
  clear B70
  clear hk hb hrv
  clear hc73 hc74 hf75 hf76 hc77 hc78 hf79 hf80
  have BS0 := B88
  go_upto_region 8 with fail
  have L_a_ac := Lib.hid (V_a.out.b.lt)
  have L_b_ac := Lib.hid (V_b.out.b.lt)
  have L_c_ac := Lib.hid (V_c.out.b.lt)
  have V_a := Lib.hid (V_a.out.below (boxb w81 (.slice C82 m83 j84) (.slice D85 p86 q87)))
  have V_b := Lib.hid (V_b.out.below (boxb w81 (.slice C82 m83 j84) (.slice D85 p86 q87)))
  have V_c := Lib.hid (V_c.out.below (boxb w81 (.slice C82 m83 j84) (.slice D85 p86 q87)))
  have B89 := Lib.hid (below_step B88.out (boxb w81 (.slice C82 m83 j84) (.slice D85 p86 q87)))
  clear B88
  have V_ac := Lib.hid (Bx.new KN.out)
  have G_ac := Lib.hid (show w.heap.size ≤ w81.heap.size from BS0.out.size)
  clear KN
  clear BS0
  obtain ⟨g90, hgn⟩ : ∃ g, w81.heap.size = g := ⟨_, rfl⟩
  obtain ⟨w91, hww⟩ : ∃ W, w81.alloc (.cells #[.slice C82 m83 j84, .slice D85 p86 q87] 28) = W := ⟨_, rfl⟩
  rw [hww] at B89 V_a V_b V_c V_ac ⊢
  rw [hgn] at V_ac G_ac L_a_ac L_b_ac L_c_ac ⊢
  clear hww hgn
  as_aux_lemma =>
  obtain ⟨hc92, hc93, hf94, hf95⟩ := blk_cells2 V_b.out.b
  obtain ⟨hc96, hc97, hf98, hf99⟩ := blk_cells2 V_c.out.b
  go_wp2_with fail
  refine (show Calls Try.prog 22 #[.agg #[.slice C13 m14 j15, .slice D16 p17 q18], .agg #[.slice C24 m25 j26, .slice D27 p28 q29]] w91 (RtP w91 ((lim p2, dl q2), 0)) by have h := add_any V_b.out.k V_c.out.k; rw [HE2.out] at h; exact h).mono ?_
  rintro e w100 ⟨v, rfl, hrv, hb⟩
  obtain ⟨u1, u2, rfl, hk⟩ := gd_rk hrv (gd_vr HV2.out)
  obtain ⟨C101, m102, j103, e1⟩ := sl_form hk.s1
  obtain ⟨D104, p105, q106, e2⟩ := sl_form hk.s2
  subst e1 e2
  have KN := Lib.hid hk
  have V_a := Lib.hid (V_a.out.below hb)
  have V_b := Lib.hid (V_b.out.below hb)
  have V_c := Lib.hid (V_c.out.below hb)
  have V_ac := Lib.hid (V_ac.out.below hb)
  have B107 := Lib.hid (below_step B89.out hb)
  clear B89
  clear hk hb hrv
  clear hc92 hc93 hf94 hf95 hc96 hc97 hf98 hf99
  have BS0 := B107
  go_upto_region 9 with fail
  have L_a_bc := Lib.hid (V_a.out.b.lt)
  have L_b_bc := Lib.hid (V_b.out.b.lt)
  have L_c_bc := Lib.hid (V_c.out.b.lt)
  have L_ac_bc := Lib.hid (V_ac.out.b.lt)
  have V_a := Lib.hid (V_a.out.below (boxb w100 (.slice C101 m102 j103) (.slice D104 p105 q106)))
  have V_b := Lib.hid (V_b.out.below (boxb w100 (.slice C101 m102 j103) (.slice D104 p105 q106)))
  have V_c := Lib.hid (V_c.out.below (boxb w100 (.slice C101 m102 j103) (.slice D104 p105 q106)))
  have V_ac := Lib.hid (V_ac.out.below (boxb w100 (.slice C101 m102 j103) (.slice D104 p105 q106)))
  have B108 := Lib.hid (below_step B107.out (boxb w100 (.slice C101 m102 j103) (.slice D104 p105 q106)))
  clear B107
  have V_bc := Lib.hid (Bx.new KN.out)
  have G_bc := Lib.hid (show w.heap.size ≤ w100.heap.size from BS0.out.size)
  clear KN
  clear BS0
  obtain ⟨g109, hgn⟩ : ∃ g, w100.heap.size = g := ⟨_, rfl⟩
  obtain ⟨w110, hww⟩ : ∃ W, w100.alloc (.cells #[.slice C101 m102 j103, .slice D104 p105 q106] 28) = W := ⟨_, rfl⟩
  rw [hww] at B108 V_a V_b V_c V_ac V_bc ⊢
  rw [hgn] at V_bc G_bc L_a_bc L_b_bc L_c_bc L_ac_bc ⊢
  clear hww hgn
  as_aux_lemma =>
  obtain ⟨hc111, hc112, hf113, hf114⟩ := blk_cells2 V_ac.out.b
  obtain ⟨hc115, hc116, hf117, hf118⟩ := blk_cells2 V_bc.out.b
  go_wp2_with fail
  refine (show Calls Try.prog 27 #[.agg #[.slice C82 m83 j84, .slice D85 p86 q87], .agg #[.slice C101 m102 j103, .slice D104 p105 q106]] w110 (fun e w' => e = .returned (.tuple #[.int .i64 O, .int .i64 0]) ∧ Below w110.heap.size w110 w') by have h := cmp_any V_ac.out.k V_bc.out.k; rw [HCS.out] at h; exact h).mono ?_
  rintro e w119 ⟨rfl, hb⟩
  have V_a := Lib.hid (V_a.out.below hb)
  have V_b := Lib.hid (V_b.out.below hb)
  have V_c := Lib.hid (V_c.out.below hb)
  have V_ac := Lib.hid (V_ac.out.below hb)
  have V_bc := Lib.hid (V_bc.out.below hb)
  have B120 := Lib.hid (below_step B108.out hb)
  clear B108
  clear hb
  clear hc111 hc112 hf113 hf114 hc115 hc116 hf117 hf118
  as_aux_lemma =>
  go_upto_region 10 with fail
  go_cut [130] from 42 (fun s130 wx => s130 = .bool false ∧ Hid (Bx wx g10 C2 m3 j4 D5 p6 q7 (lim x1, dl y1) ∧ Bx wx g21 C13 m14 j15 D16 p17 q18 (lim x2, dl y2) ∧ Bx wx g32 C24 m25 j26 D27 p28 q29 (lim x3, dl y3) ∧ Bx wx g90 C82 m83 j84 D85 p86 q87 (lim p1, dl q1) ∧ Bx wx g109 C101 m102 j103 D104 p105 q106 (lim p2, dl q2) ∧ Below w.heap.size w wx))
  case first =>
    have hwO := HWO.out
    rcases HWAY.out with ⟨hs1, hs2, rfl, hs3⟩ | ⟨hs1, hs2, rfl, hs3⟩ | ⟨hs1, hs2, rfl, hs3⟩
    · clear HWAY HGS HSU HO31 HOO
      obtain ⟨hc121, hc122, hf123, hf124⟩ := blk_cells2 V_a.out.b
      obtain ⟨hc125, hc126, hf127, hf128⟩ := blk_cells2 V_b.out.b
      have hsm := same_any V_a.out.k V_b.out.k
      rw [hs3] at hsm
      have HSM := Lib.hid hsm
      clear hsm hs3
      go_wp2_with fail
      refine HSM.out.mono ?_
      clear HSM
      rintro e w129 ⟨rfl, hb⟩
      have V_a := Lib.hid (V_a.out.below hb)
      have V_b := Lib.hid (V_b.out.below hb)
      have V_c := Lib.hid (V_c.out.below hb)
      have V_ac := Lib.hid (V_ac.out.below hb)
      have V_bc := Lib.hid (V_bc.out.below hb)
      have B130 := Lib.hid (below_step B120.out hb)
      clear B120
      clear hb
      clear hc121 hc122 hf123 hf124 hc125 hc126 hf127 hf128
      go_wp2_with fail
      go_meet
      exact ⟨congrArg Value.bool (decide_eq_false (by omega)), Lib.hid ⟨V_a.out, V_b.out, V_c.out, V_ac.out, V_bc.out, B130.out⟩⟩
    · clear HWAY HGS HSU HO31 HOO
      obtain ⟨hc131, hc132, hf133, hf134⟩ := blk_cells2 V_a.out.b
      obtain ⟨hc135, hc136, hf137, hf138⟩ := blk_cells2 V_b.out.b
      have hsm := same_any V_a.out.k V_b.out.k
      rw [hs3] at hsm
      have HSM := Lib.hid hsm
      clear hsm hs3
      go_wp2_with fail
      refine HSM.out.mono ?_
      clear HSM
      rintro e w139 ⟨rfl, hb⟩
      have V_a := Lib.hid (V_a.out.below hb)
      have V_b := Lib.hid (V_b.out.below hb)
      have V_c := Lib.hid (V_c.out.below hb)
      have V_ac := Lib.hid (V_ac.out.below hb)
      have V_bc := Lib.hid (V_bc.out.below hb)
      have B140 := Lib.hid (below_step B120.out hb)
      clear B120
      clear hb
      clear hc131 hc132 hf133 hf134 hc135 hc136 hf137 hf138
      go_wp2_with fail
      go_meet
      exact ⟨rfl, Lib.hid ⟨V_a.out, V_b.out, V_c.out, V_ac.out, V_bc.out, B140.out⟩⟩
    · clear HWAY HGS HSU HO31 HOO
      obtain ⟨hc141, hc142, hf143, hf144⟩ := blk_cells2 V_a.out.b
      obtain ⟨hc145, hc146, hf147, hf148⟩ := blk_cells2 V_b.out.b
      have hsm := same_any V_a.out.k V_b.out.k
      rw [hs3] at hsm
      have HSM := Lib.hid hsm
      clear hsm hs3
      go_wp2_with fail
      refine HSM.out.mono ?_
      clear HSM
      rintro e w149 ⟨rfl, hb⟩
      have V_a := Lib.hid (V_a.out.below hb)
      have V_b := Lib.hid (V_b.out.below hb)
      have V_c := Lib.hid (V_c.out.below hb)
      have V_ac := Lib.hid (V_ac.out.below hb)
      have V_bc := Lib.hid (V_bc.out.below hb)
      have B150 := Lib.hid (below_step B120.out hb)
      clear B120
      clear hb
      clear hc141 hc142 hf143 hf144 hc145 hc146 hf147 hf148
      go_wp2_with fail
      go_meet
      exact ⟨rfl, Lib.hid ⟨V_a.out, V_b.out, V_c.out, V_ac.out, V_bc.out, B150.out⟩⟩
  case rest =>
    obtain ⟨rfl, hcut⟩ := hcut
    have hall := hcut
    have V_a := Lib.hid hall.out.1
    have V_b := Lib.hid hall.out.2.1
    have V_c := Lib.hid hall.out.2.2.1
    have V_ac := Lib.hid hall.out.2.2.2.1
    have V_bc := Lib.hid hall.out.2.2.2.2.1
    have B151 := Lib.hid hall.out.2.2.2.2.2
    clear hall hcut B120
    clear HWAY HGS HSU HCC HCF HCS HE1 HE2 HWO
    obtain ⟨hc152, hc153, hf154, hf155⟩ := blk_cells2 V_a.out.b
    obtain ⟨hc156, hc157, hf158, hf159⟩ := blk_cells2 V_c.out.b
    go_wp2_with fail
    refine (show Calls Try.prog 23 #[.agg #[.slice C2 m3 j4, .slice D5 p6 q7], .agg #[.slice C24 m25 j26, .slice D27 p28 q29]] wc (RtP wc ((lim r1, dl s1), 0)) by have h := mul_any V_a.out.k V_c.out.k; rw [HE3.out] at h; exact h).mono ?_
    rintro e w160 ⟨v, rfl, hrv, hb⟩
    obtain ⟨u1, u2, rfl, hk⟩ := gd_rk hrv (gd_vr HV3.out)
    obtain ⟨C161, m162, j163, e1⟩ := sl_form hk.s1
    obtain ⟨D164, p165, q166, e2⟩ := sl_form hk.s2
    subst e1 e2
    have KN := Lib.hid hk
    have V_a := Lib.hid (V_a.out.below hb)
    have V_b := Lib.hid (V_b.out.below hb)
    have V_c := Lib.hid (V_c.out.below hb)
    have V_ac := Lib.hid (V_ac.out.below hb)
    have V_bc := Lib.hid (V_bc.out.below hb)
    have B167 := Lib.hid (below_step B151.out hb)
    clear B151
    clear hk hb hrv
    clear hc152 hc153 hf154 hf155 hc156 hc157 hf158 hf159
    obtain ⟨hc168, hc169, hf170, hf171⟩ := blk_cells2 V_ac.out.b
    go_upto_region 13 with fail
    have V_a := Lib.hid (V_a.out.far V_ac.out (by have := L_a_ac.out; omega) C161 m162 j163 D164 p165 q166)
    have V_b := Lib.hid (V_b.out.far V_ac.out (by have := L_b_ac.out; omega) C161 m162 j163 D164 p165 q166)
    have V_c := Lib.hid (V_c.out.far V_ac.out (by have := L_c_ac.out; omega) C161 m162 j163 D164 p165 q166)
    have V_bc := Lib.hid (V_bc.out.far V_ac.out (by have := L_ac_bc.out; omega) C161 m162 j163 D164 p165 q166)
    have B172 := Lib.hid (below_put B167.out G_ac.out (.slice C161 m162 j163) (.slice D164 p165 q166))
    have V_ac := Lib.hid (V_ac.out.put KN.out)
    clear B167 KN
    clear hc168 hc169 hf170 hf171
    obtain ⟨w173, hww⟩ : ∃ W, ((w160.setCell ⟨g90, 0, none⟩ (.slice C161 m162 j163)).setCell ⟨g90, 1, none⟩ (.slice D164 p165 q166)) = W := ⟨_, rfl⟩
    rw [hww] at B172 V_a V_b V_c V_ac V_bc ⊢
    clear hww
    as_aux_lemma =>
    obtain ⟨hc174, hc175, hf176, hf177⟩ := blk_cells2 V_b.out.b
    obtain ⟨hc178, hc179, hf180, hf181⟩ := blk_cells2 V_c.out.b
    go_wp2_with fail
    refine (show Calls Try.prog 23 #[.agg #[.slice C13 m14 j15, .slice D16 p17 q18], .agg #[.slice C24 m25 j26, .slice D27 p28 q29]] w173 (RtP w173 ((lim r2, dl s2), 0)) by have h := mul_any V_b.out.k V_c.out.k; rw [HE4.out] at h; exact h).mono ?_
    rintro e w182 ⟨v, rfl, hrv, hb⟩
    obtain ⟨u1, u2, rfl, hk⟩ := gd_rk hrv (gd_vr HV4.out)
    obtain ⟨C183, m184, j185, e1⟩ := sl_form hk.s1
    obtain ⟨D186, p187, q188, e2⟩ := sl_form hk.s2
    subst e1 e2
    have KN := Lib.hid hk
    have V_a := Lib.hid (V_a.out.below hb)
    have V_b := Lib.hid (V_b.out.below hb)
    have V_c := Lib.hid (V_c.out.below hb)
    have V_ac := Lib.hid (V_ac.out.below hb)
    have V_bc := Lib.hid (V_bc.out.below hb)
    have B189 := Lib.hid (below_step B172.out hb)
    clear B172
    clear hk hb hrv
    clear hc174 hc175 hf176 hf177 hc178 hc179 hf180 hf181
    obtain ⟨hc190, hc191, hf192, hf193⟩ := blk_cells2 V_bc.out.b
    go_upto_region 14 with fail
    have V_a := Lib.hid (V_a.out.far V_bc.out (by have := L_a_bc.out; omega) C183 m184 j185 D186 p187 q188)
    have V_b := Lib.hid (V_b.out.far V_bc.out (by have := L_b_bc.out; omega) C183 m184 j185 D186 p187 q188)
    have V_c := Lib.hid (V_c.out.far V_bc.out (by have := L_c_bc.out; omega) C183 m184 j185 D186 p187 q188)
    have V_ac := Lib.hid (V_ac.out.far V_bc.out (by have := L_ac_bc.out; omega) C183 m184 j185 D186 p187 q188)
    have B194 := Lib.hid (below_put B189.out G_bc.out (.slice C183 m184 j185) (.slice D186 p187 q188))
    have V_bc := Lib.hid (V_bc.out.put KN.out)
    clear B189 KN
    clear hc190 hc191 hf192 hf193
    obtain ⟨w195, hww⟩ : ∃ W, ((w182.setCell ⟨g109, 0, none⟩ (.slice C183 m184 j185)).setCell ⟨g109, 1, none⟩ (.slice D186 p187 q188)) = W := ⟨_, rfl⟩
    rw [hww] at B194 V_a V_b V_c V_ac V_bc ⊢
    clear hww
    as_aux_lemma =>
    obtain ⟨hc196, hc197, hf198, hf199⟩ := blk_cells2 V_ac.out.b
    obtain ⟨hc200, hc201, hf202, hf203⟩ := blk_cells2 V_bc.out.b
    go_wp2_with fail
    refine (show Calls Try.prog 27 #[.agg #[.slice C161 m162 j163, .slice D164 p165 q166], .agg #[.slice C183 m184 j185, .slice D186 p187 q188]] w195 (fun e w' => e = .returned (.tuple #[.int .i64 O3, .int .i64 0]) ∧ Below w195.heap.size w195 w') by have h := cmp_any V_ac.out.k V_bc.out.k; rw [HC3.out] at h; exact h).mono ?_
    rintro e w204 ⟨rfl, hb⟩
    have V_a := Lib.hid (V_a.out.below hb)
    have V_b := Lib.hid (V_b.out.below hb)
    have V_c := Lib.hid (V_c.out.below hb)
    have V_ac := Lib.hid (V_ac.out.below hb)
    have V_bc := Lib.hid (V_bc.out.below hb)
    have B205 := Lib.hid (below_step B194.out hb)
    clear B194
    clear hb
    clear hc196 hc197 hf198 hf199 hc200 hc201 hf202 hf203
    as_aux_lemma =>
    clear V_ac
    clear V_bc
    have hlc := sl_len V_c.out.k.s1
    have HLC := Lib.hid (show m25 = 0 ↔ x3 = 0 by rw [hlc]; exact lim_len0)
    clear hlc
    obtain ⟨hc206, hc207, hf208, hf209⟩ := blk_cells2 V_c.out.b
    go_upto_region 15 with fail
    go_cut [179] from 42 (fun s179 wx => s179 = .bool false ∧ Hid (Bx wx g10 C2 m3 j4 D5 p6 q7 (lim x1, dl y1) ∧ Bx wx g21 C13 m14 j15 D16 p17 q18 (lim x2, dl y2) ∧ Below w.heap.size w wx))
    case first =>
      by_cases hx0 : x3 = 0
      · have hb0 : ¬ (0 < (m25 : Int)) := by have := HLC.out.2 hx0; omega
        have hb1 : ((m25 : Int) == 0) = true := by rw [beq_iff_eq]; have := HLC.out.2 hx0; omega
        have hb2 : (O3 != 0) = false := by rw [HO30.out hx0]; rfl
        clear hx0 HO30 HO31 HOO
        go_wp2_with fail
        go_meet
        exact ⟨rfl, Lib.hid ⟨V_a.out, V_b.out, B205.out⟩⟩
      · have hb0 : 0 < (m25 : Int) := by have : ¬ m25 = 0 := fun h => hx0 (HLC.out.1 h); omega
        have hb1 : ((m25 : Int) == 0) = false := by rw [beq_eq_false_iff_ne]; omega
        have hb2 : (O3 != O) = false := by rw [HO31.out (by omega)]; exact bne_self_eq_false _
        clear hx0 HO30 HO31 HOO
        go_wp2_with fail
        go_meet
        exact ⟨rfl, Lib.hid ⟨V_a.out, V_b.out, B205.out⟩⟩
    case rest =>
      clear hc206 hc207 hf208 hf209
      clear V_c HLC HO30 HO31 HC3 HE3 HE4
      obtain ⟨rfl, hcut⟩ := hcut
      have hall := hcut
      have V_a := Lib.hid hall.out.1
      have V_b := Lib.hid hall.out.2.1
      have B210 := Lib.hid hall.out.2.2
      clear hall hcut B205
      obtain ⟨hc211, hc212, hf213, hf214⟩ := blk_cells2 V_a.out.b
      go_wp2_with fail
      refine (show Calls Try.prog 28 #[.agg #[.slice C2 m3 j4, .slice D5 p6 q7]] wc (fun e w' => e = .returned (.tuple #[.int .i64 (N : Int), .int .i64 0]) ∧ Below wc.heap.size wc w') by have h := floor_any V_a.out.k; rw [HFL.out] at h; exact h).mono ?_
      rintro e w215 ⟨rfl, hb⟩
      have V_a := Lib.hid (V_a.out.below hb)
      have V_b := Lib.hid (V_b.out.below hb)
      have B216 := Lib.hid (below_step B210.out hb)
      clear B210
      clear hb
      clear hc211 hc212 hf213 hf214
      as_aux_lemma =>
      have HT1 := Lib.hid (show ∀ W, Calls Try.prog 11 #[.int .i64 (N : Int), .int .i64 1] W (RtP W ((lim N, dl 1), 0)) from fun W => by have hN := HNB.out; have h := of_any (N : Int) 1 W (by omega) (by omega); rw [of_whole N (by omega)] at h; exact h)
      have HT2 := Lib.hid (show ∀ W, Calls Try.prog 11 #[.int .i64 ((N : Int) + 1), .int .i64 1] W (RtP W ((lim (N + 1), dl 1), 0)) from fun W => by have hN := HNB.out; have h := of_any ((N : Int) + 1) 1 W (by omega) (by omega); rw [show ((N : Int) + 1) = ((N + 1 : Nat) : Int) by omega, of_whole (N + 1) (by omega)] at h; rw [show ((N : Int) + 1) = ((N + 1 : Nat) : Int) by omega]; exact h)
      have hw1 : IntKind.i64.wrap ((N : Int) + 1) = (N : Int) + 1 := IntWalk.i64_in _ (by have := HNB.out; omega)
      have HVN := Lib.hid (vr_whole N (by have := HNB.out; omega)); have HVN1 := Lib.hid (vr_whole (N + 1) (by have := HNB.out; omega))
      go_wp2_with fail
      refine (HT1.out _).mono ?_
      rintro e w217 ⟨v, rfl, hrv, hb⟩
      obtain ⟨u1, u2, rfl, hk⟩ := gd_rk hrv (gd_vr HVN.out)
      obtain ⟨C218, m219, j220, e1⟩ := sl_form hk.s1
      obtain ⟨D221, p222, q223, e2⟩ := sl_form hk.s2
      subst e1 e2
      have KN := Lib.hid hk
      have V_a := Lib.hid (V_a.out.below hb)
      have V_b := Lib.hid (V_b.out.below hb)
      have B224 := Lib.hid (below_step B216.out hb)
      clear B216
      clear hk hb hrv
      have BS0 := B224
      go_upto_region 19 with fail
      have V_a := Lib.hid (V_a.out.below (boxb w217 (.slice C218 m219 j220) (.slice D221 p222 q223)))
      have V_b := Lib.hid (V_b.out.below (boxb w217 (.slice C218 m219 j220) (.slice D221 p222 q223)))
      have B225 := Lib.hid (below_step B224.out (boxb w217 (.slice C218 m219 j220) (.slice D221 p222 q223)))
      clear B224
      have V_below := Lib.hid (Bx.new KN.out)
      have G_below := Lib.hid (show w.heap.size ≤ w217.heap.size from BS0.out.size)
      clear KN
      clear BS0
      obtain ⟨g226, hgn⟩ : ∃ g, w217.heap.size = g := ⟨_, rfl⟩
      obtain ⟨w227, hww⟩ : ∃ W, w217.alloc (.cells #[.slice C218 m219 j220, .slice D221 p222 q223] 28) = W := ⟨_, rfl⟩
      rw [hww] at B225 V_a V_b V_below ⊢
      rw [hgn] at V_below G_below  ⊢
      clear hww hgn
      as_aux_lemma =>
      go_wp2_with fail
      refine (HT2.out _).mono ?_
      rintro e w228 ⟨v, rfl, hrv, hb⟩
      obtain ⟨u1, u2, rfl, hk⟩ := gd_rk hrv (gd_vr HVN1.out)
      obtain ⟨C229, m230, j231, e1⟩ := sl_form hk.s1
      obtain ⟨D232, p233, q234, e2⟩ := sl_form hk.s2
      subst e1 e2
      have KN := Lib.hid hk
      have V_a := Lib.hid (V_a.out.below hb)
      have V_b := Lib.hid (V_b.out.below hb)
      have V_below := Lib.hid (V_below.out.below hb)
      have B235 := Lib.hid (below_step B225.out hb)
      clear B225
      clear hk hb hrv
      have BS0 := B235
      go_upto_region 20 with fail
      have V_a := Lib.hid (V_a.out.below (boxb w228 (.slice C229 m230 j231) (.slice D232 p233 q234)))
      have V_b := Lib.hid (V_b.out.below (boxb w228 (.slice C229 m230 j231) (.slice D232 p233 q234)))
      have V_below := Lib.hid (V_below.out.below (boxb w228 (.slice C229 m230 j231) (.slice D232 p233 q234)))
      have B236 := Lib.hid (below_step B235.out (boxb w228 (.slice C229 m230 j231) (.slice D232 p233 q234)))
      clear B235
      have V_above := Lib.hid (Bx.new KN.out)
      have G_above := Lib.hid (show w.heap.size ≤ w228.heap.size from BS0.out.size)
      clear KN
      clear BS0
      obtain ⟨g237, hgn⟩ : ∃ g, w228.heap.size = g := ⟨_, rfl⟩
      obtain ⟨w238, hww⟩ : ∃ W, w228.alloc (.cells #[.slice C229 m230 j231, .slice D232 p233 q234] 28) = W := ⟨_, rfl⟩
      rw [hww] at B236 V_a V_b V_below V_above ⊢
      rw [hgn] at V_above G_above  ⊢
      clear hww hgn
      as_aux_lemma =>
      obtain ⟨hc239, hc240, hf241, hf242⟩ := blk_cells2 V_below.out.b
      obtain ⟨hc243, hc244, hf245, hf246⟩ := blk_cells2 V_a.out.b
      go_wp2_with fail
      refine (show Calls Try.prog 27 #[.agg #[.slice C218 m219 j220, .slice D221 p222 q223], .agg #[.slice C2 m3 j4, .slice D5 p6 q7]] w238 (fun e w' => e = .returned (.tuple #[.int .i64 O4, .int .i64 0]) ∧ Below w238.heap.size w238 w') by have h := cmp_any V_below.out.k V_a.out.k; rw [HC4.out] at h; exact h).mono ?_
      rintro e w247 ⟨rfl, hb⟩
      have V_a := Lib.hid (V_a.out.below hb)
      have V_b := Lib.hid (V_b.out.below hb)
      have V_below := Lib.hid (V_below.out.below hb)
      have V_above := Lib.hid (V_above.out.below hb)
      have B248 := Lib.hid (below_step B236.out hb)
      clear B236
      clear hb
      clear hc239 hc240 hf241 hf242 hc243 hc244 hf245 hf246
      as_aux_lemma =>
      obtain ⟨hc249, hc250, hf251, hf252⟩ := blk_cells2 V_a.out.b
      obtain ⟨hc253, hc254, hf255, hf256⟩ := blk_cells2 V_above.out.b
      go_wp2_with fail
      refine (show Calls Try.prog 27 #[.agg #[.slice C2 m3 j4, .slice D5 p6 q7], .agg #[.slice C229 m230 j231, .slice D232 p233 q234]] w247 (fun e w' => e = .returned (.tuple #[.int .i64 (-1), .int .i64 0]) ∧ Below w247.heap.size w247 w') by have h := cmp_any V_a.out.k V_above.out.k; rw [HC5.out] at h; exact h).mono ?_
      rintro e w257 ⟨rfl, hb⟩
      have V_a := Lib.hid (V_a.out.below hb)
      have V_b := Lib.hid (V_b.out.below hb)
      have V_below := Lib.hid (V_below.out.below hb)
      have V_above := Lib.hid (V_above.out.below hb)
      have B258 := Lib.hid (below_step B248.out hb)
      clear B248
      clear hb
      clear hc249 hc250 hf251 hf252 hc253 hc254 hf255 hf256
      as_aux_lemma =>
      clear V_below
      clear V_above
      have hO4 := HO4.out
      clear HT1 HT2 HVN HVN1 HFL HC4 HC5 HO4 hw1
      go_upto_if 235 with fail
      clear hO4 HNB
      go_cut [] from 42 (fun wx => ∃ xl yl xh yh E1 i1 f1 E2 i2 f2 E3 i3 f3 E4 i4 f4, Hid (Vr xl yl ∧ Vr xh yh ∧ Itv xl yl xh yh ∧ (xl < 1048576 ∧ yl ≤ 1048576) ∧ Bx wx g10 E1 i1 f1 E2 i2 f2 (lim xl, dl yl) ∧ Bx wx g21 E3 i3 f3 E4 i4 f4 (lim xh, dl yh) ∧ Below w.heap.size w wx))
      case first =>
        by_cases hp : 0 < O
        · have HIT := Lib.hid (show Itv x2 y2 x1 y1 from ⟨HV_b.out.pos, HV_a.out.pos, by have h := hp; rw [HOO.out, ord_posi] at h; omega⟩)
          clear HOO
          obtain ⟨hc259, hc260, hf261, hf262⟩ := blk_cells2 V_a.out.b
          obtain ⟨hc263, hc264, hf265, hf266⟩ := blk_cells2 V_b.out.b
          have HVA1 := Lib.hid (V_a.out.put V_b.out.k); have HVB1 := Lib.hid (V_b.out.far V_a.out (by have := L_a_b.out; omega) C13 m14 j15 D16 p17 q18); have HKA := Lib.hid (rk_res V_a.out V_a.out.k C13 m14 j15 D16 p17 q18)
          have hne1 : ¬ (g10 = g21) := by have := L_a_b.out; omega
          have hne2 : ¬ (g21 = g10) := by have := L_a_b.out; omega
          go_wp2_with fail
          go_meet
          exact ⟨x2, y2, x1, y1, C13, m14, j15, D16, p17, q18, C2, m3, j4, D5, p6, q7, Lib.hid ⟨HV_b.out, HV_a.out, HIT.out, HBB.out, HVA1.out.far HVB1.out (by have := L_a_b.out; omega) C2 m3 j4 D5 p6 q7, HVB1.out.put HKA.out, below_put (below_put B258.out G_a.out _ _) G_b.out _ _⟩⟩
        · have HIT := Lib.hid (show Itv x1 y1 x2 y2 from ⟨HV_a.out.pos, HV_b.out.pos, by have h := hp; rw [HOO.out, ord_posi] at h; omega⟩)
          clear HOO
          go_wp2_with fail
          go_meet
          exact ⟨x1, y1, x2, y2, C2, m3, j4, D5, p6, q7, C13, m14, j15, D16, p17, q18, Lib.hid ⟨HV_a.out, HV_b.out, HIT.out, HBA.out, V_a.out, V_b.out, B258.out⟩⟩
      case rest =>
        obtain ⟨xl, yl, xh, yh, E1, i1, f1, E2, i2, f2, E3, i3, f3, E4, i4, f4, hcut⟩ := hcut
        have hall := hcut
        have HVL := Lib.hid hall.out.1
        have HVH := Lib.hid hall.out.2.1
        have HIT := Lib.hid hall.out.2.2.1
        have HBL := Lib.hid hall.out.2.2.2.1
        have V_a := Lib.hid hall.out.2.2.2.2.1; have V_b := Lib.hid hall.out.2.2.2.2.2.1; have BQ := Lib.hid hall.out.2.2.2.2.2.2
        clear hall hcut B258 HOO HBA HBB HV_a HV_b
        obtain ⟨vx, hsi, ho6, ho7, hof⟩ := simp_math HVL.out HVH.out HIT.out HBL.out.1 HBL.out.2
        have HSS := Lib.hid (simp_self HVL.out HBL.out.1 HBL.out.2)
        have HOF := Lib.hid hof; have HVX := Lib.hid vx; have HSI := Lib.hid hsi
        clear hof vx hsi
        obtain ⟨O6, hO6⟩ : ∃ O, O = ord (xl * (betw xl yl xh yh).2) ((betw xl yl xh yh).1 * yl) := ⟨_, rfl⟩
        obtain ⟨O7, hO7⟩ : ∃ O, O = ord ((betw xl yl xh yh).1 * yh) (xh * (betw xl yl xh yh).2) := ⟨_, rfl⟩
        rw [← hO6] at ho6; rw [← hO7] at ho7
        have HC6 := Lib.hid (show cmpR (lim xl, dl yl) (lim (betw xl yl xh yh).1, dl (betw xl yl xh yh).2) = (O6, 0) by rw [cmp_eq HVL.out HVX.out, hO6]); have HC7 := Lib.hid (show cmpR (lim (betw xl yl xh yh).1, dl (betw xl yl xh yh).2) (lim xh, dl yh) = (O7, 0) by rw [cmp_eq HVX.out HVH.out, hO7])
        clear hO6 hO7
        have H6 := Lib.hid ho6; have H7 := Lib.hid ho7
        clear ho6 ho7
        obtain ⟨hc267, hc268, hf269, hf270⟩ := blk_cells2 V_a.out.b
        obtain ⟨hc271, hc272, hf273, hf274⟩ := blk_cells2 V_b.out.b
        go_wp2_with fail
        refine (show Calls Try.prog 29 #[.agg #[.slice E1 i1 f1, .slice E2 i2 f2], .agg #[.slice E3 i3 f3, .slice E4 i4 f4]] wc (RtP wc ((lim (betw xl yl xh yh).1, dl (betw xl yl xh yh).2), 0)) by have h := simplest_any V_a.out.k V_b.out.k; rw [HSI.out] at h; exact h).mono ?_
        rintro e w275 ⟨v, rfl, hrv, hb⟩
        obtain ⟨u1, u2, rfl, hk⟩ := gd_rk hrv (gd_vr HVX.out)
        obtain ⟨C276, m277, j278, e1⟩ := sl_form hk.s1
        obtain ⟨D279, p280, q281, e2⟩ := sl_form hk.s2
        subst e1 e2
        have KN := Lib.hid hk
        have V_a := Lib.hid (V_a.out.below hb)
        have V_b := Lib.hid (V_b.out.below hb)
        have B282 := Lib.hid (below_step BQ.out hb)
        clear BQ
        clear hk hb hrv
        clear hc267 hc268 hf269 hf270 hc271 hc272 hf273 hf274
        have BS0 := B282
        go_upto_region 27 with fail
        have V_a := Lib.hid (V_a.out.below (boxb w275 (.slice C276 m277 j278) (.slice D279 p280 q281)))
        have V_b := Lib.hid (V_b.out.below (boxb w275 (.slice C276 m277 j278) (.slice D279 p280 q281)))
        have B283 := Lib.hid (below_step B282.out (boxb w275 (.slice C276 m277 j278) (.slice D279 p280 q281)))
        clear B282
        have V_x := Lib.hid (Bx.new KN.out)
        have G_x := Lib.hid (show w.heap.size ≤ w275.heap.size from BS0.out.size)
        clear KN
        clear BS0
        obtain ⟨g284, hgn⟩ : ∃ g, w275.heap.size = g := ⟨_, rfl⟩
        obtain ⟨w285, hww⟩ : ∃ W, w275.alloc (.cells #[.slice C276 m277 j278, .slice D279 p280 q281] 28) = W := ⟨_, rfl⟩
        rw [hww] at B283 V_a V_b V_x ⊢
        rw [hgn] at V_x G_x  ⊢
        clear hww hgn
        as_aux_lemma =>
        obtain ⟨hc286, hc287, hf288, hf289⟩ := blk_cells2 V_a.out.b
        obtain ⟨hc290, hc291, hf292, hf293⟩ := blk_cells2 V_x.out.b
        go_wp2_with fail
        refine (show Calls Try.prog 27 #[.agg #[.slice E1 i1 f1, .slice E2 i2 f2], .agg #[.slice C276 m277 j278, .slice D279 p280 q281]] w285 (fun e w' => e = .returned (.tuple #[.int .i64 O6, .int .i64 0]) ∧ Below w285.heap.size w285 w') by have h := cmp_any V_a.out.k V_x.out.k; rw [HC6.out] at h; exact h).mono ?_
        rintro e w294 ⟨rfl, hb⟩
        have V_a := Lib.hid (V_a.out.below hb)
        have V_b := Lib.hid (V_b.out.below hb)
        have V_x := Lib.hid (V_x.out.below hb)
        have B295 := Lib.hid (below_step B283.out hb)
        clear B283
        clear hb
        clear hc286 hc287 hf288 hf289 hc290 hc291 hf292 hf293
        as_aux_lemma =>
        obtain ⟨hc296, hc297, hf298, hf299⟩ := blk_cells2 V_x.out.b
        obtain ⟨hc300, hc301, hf302, hf303⟩ := blk_cells2 V_b.out.b
        go_wp2_with fail
        refine (show Calls Try.prog 27 #[.agg #[.slice C276 m277 j278, .slice D279 p280 q281], .agg #[.slice E3 i3 f3, .slice E4 i4 f4]] w294 (fun e w' => e = .returned (.tuple #[.int .i64 O7, .int .i64 0]) ∧ Below w294.heap.size w294 w') by have h := cmp_any V_x.out.k V_b.out.k; rw [HC7.out] at h; exact h).mono ?_
        rintro e w304 ⟨rfl, hb⟩
        have V_a := Lib.hid (V_a.out.below hb)
        have V_b := Lib.hid (V_b.out.below hb)
        have V_x := Lib.hid (V_x.out.below hb)
        have B305 := Lib.hid (below_step B295.out hb)
        clear B295
        clear hb
        clear hc296 hc297 hf298 hf299 hc300 hc301 hf302 hf303
        as_aux_lemma =>
        obtain ⟨hc306, hc307, hf308, hf309⟩ := blk_cells2 V_a.out.b
        go_wp2_with fail
        refine (show Calls Try.prog 29 #[.agg #[.slice E1 i1 f1, .slice E2 i2 f2], .agg #[.slice E1 i1 f1, .slice E2 i2 f2]] w304 (RtP w304 ((lim xl, dl yl), 0)) by have h := simplest_any V_a.out.k V_a.out.k; rw [HSS.out] at h; exact h).mono ?_
        rintro e w310 ⟨v, rfl, hrv, hb⟩
        obtain ⟨u1, u2, rfl, hk⟩ := gd_rk hrv (gd_vr HVL.out)
        obtain ⟨C311, m312, j313, e1⟩ := sl_form hk.s1
        obtain ⟨D314, p315, q316, e2⟩ := sl_form hk.s2
        subst e1 e2
        have KN := Lib.hid hk
        have V_a := Lib.hid (V_a.out.below hb)
        have V_b := Lib.hid (V_b.out.below hb)
        have V_x := Lib.hid (V_x.out.below hb)
        have B317 := Lib.hid (below_step B305.out hb)
        clear B305
        clear hk hb hrv
        clear hc306 hc307 hf308 hf309
        have BS0 := B317
        go_upto_region 30 with fail
        have V_a := Lib.hid (V_a.out.below (boxb w310 (.slice C311 m312 j313) (.slice D314 p315 q316)))
        have V_b := Lib.hid (V_b.out.below (boxb w310 (.slice C311 m312 j313) (.slice D314 p315 q316)))
        have V_x := Lib.hid (V_x.out.below (boxb w310 (.slice C311 m312 j313) (.slice D314 p315 q316)))
        have B318 := Lib.hid (below_step B317.out (boxb w310 (.slice C311 m312 j313) (.slice D314 p315 q316)))
        clear B317
        have V_same := Lib.hid (Bx.new KN.out)
        have G_same := Lib.hid (show w.heap.size ≤ w310.heap.size from BS0.out.size)
        clear KN
        clear BS0
        obtain ⟨g319, hgn⟩ : ∃ g, w310.heap.size = g := ⟨_, rfl⟩
        obtain ⟨w320, hww⟩ : ∃ W, w310.alloc (.cells #[.slice C311 m312 j313, .slice D314 p315 q316] 28) = W := ⟨_, rfl⟩
        rw [hww] at B318 V_a V_b V_x V_same ⊢
        rw [hgn] at V_same G_same  ⊢
        clear hww hgn
        as_aux_lemma =>
        have h6 := H6.out; have h7 := H7.out
        clear H6 H7 HC6 HC7 HSS HSI HVX
        obtain ⟨hc321, hc322, hf323, hf324⟩ := blk_cells2 V_same.out.b
        obtain ⟨hc325, hc326, hf327, hf328⟩ := blk_cells2 V_a.out.b
        go_wp2_with fail
        have hsm := same_any V_same.out.k V_a.out.k
        rw [decide_eq_true rfl] at hsm
        refine hsm.mono ?_
        clear hsm
        rintro e w329 ⟨rfl, hb⟩
        have V_a := Lib.hid (V_a.out.below hb)
        have V_b := Lib.hid (V_b.out.below hb)
        have V_x := Lib.hid (V_x.out.below hb)
        have V_same := Lib.hid (V_same.out.below hb)
        have B330 := Lib.hid (below_step B318.out hb)
        clear B318
        clear hb
        clear hc321 hc322 hf323 hf324 hc325 hc326 hf327 hf328
        as_aux_lemma =>
        clear V_same
        go_upto_region 32 with fail
        clear h6 h7
        obtain ⟨hc331, hc332, hf333, hf334⟩ := blk_cells2 V_a.out.b
        obtain ⟨hc335, hc336, hf337, hf338⟩ := blk_cells2 V_b.out.b
        obtain ⟨hc339, hc340, hf341, hf342⟩ := blk_cells2 V_x.out.b
        go_wp2_with fail
        refine (least_any V_a.out.k V_b.out.k V_x.out.k HVL.out HVH.out HIT.out HBL.out.1 HBL.out.2 HOF.out).mono ?_
        rintro e w343 ⟨rfl, hb⟩
        have B344 := Lib.hid (below_step B330.out hb)
        clear hb B330 V_a V_b V_x HVL HVH HIT HBL HOF
        clear hc331 hc332 hf333 hf334 hc335 hc336 hf337 hf338 hc339 hc340 hf341 hf342
        go_wp2_with fail
        refine (lives_any w343 (HM.out.below H2.out B344.out) (by have := H2.out; have := B344.out.size; omega)).mono ?_
        rintro e w345 ⟨rfl, hb⟩
        have BL := Lib.hid (below_step B344.out hb)
        clear hb
        go_wp2_with fail
        go_ret
        exact ⟨rfl, BL.out⟩
end Go.Proofs.Ytbfhilbagojdnaa
