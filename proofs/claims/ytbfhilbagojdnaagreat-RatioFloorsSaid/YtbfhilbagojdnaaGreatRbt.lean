/-
  The reference: between, Simplest.
  No condition but the lengths.
-/
import Derived.Test.YtbfhilbagojdnaaGreatHr13
namespace Go.Proofs.YtbfhilbagojdnaaGreat
open Go.RowKit Wr Go.Proofs.YtbfhilbagojdnaaGreat.Nm
set_option linter.unusedVariables false
set_option maxRecDepth 100000

theorem low_made {x y : Nat} (h : Nat.gcd x y = 1) (hy : 0 < y) : lowR x y = madeR x y := by
  unfold lowR; rw [h, Nat.div_one, Nat.div_one]
set_option maxHeartbeats 8000000 in
theorem rbetw_any (M : Nat) (hM : M ≤ 1000) : ∀ (k : Nat) (an ad bn bd : Nat) (v1 v2 v3 v4 : Value) (w : World), ad + bd ≤ k → Itv an ad bn bd → Sl w v1 (lim an) → Sl w v2 (lim ad) → Sl w v3 (lim bn) → Sl w v4 (lim bd) →
    (lim an).length ≤ M → (lim ad).length ≤ M → (lim bn).length ≤ M → (lim bd).length ≤ M → Calls Tryz.prog 74 #[v1, v2, v3, v4] w (BtP w (betw an ad bn bd)) := by
  intro k
  induction k with
  | zero => intro an ad bn bd v1 v2 v3 v4 w hk hi; have := hi.ha; omega
  | succ k ih =>
    intro an ad bn bd v1 v2 v3 v4 w hk hi s1 s2 s3 s4 l1 l2 l3 l4
    suffices hgen : ∀ Res, Hid (betw an ad bn bd = Res) → Calls Tryz.prog 74 #[v1, v2, v3, v4] w (BtP w Res) from hgen _ (Lib.hid rfl)
    intro Res HRR
    have IH := Lib.hid ih
    have HI := Lib.hid hi
    obtain ⟨A1, n1, k1, e1⟩ := sl_form s1
    obtain ⟨A2, n2, k2, e2⟩ := sl_form s2
    obtain ⟨A3, n3, k3, e3⟩ := sl_form s3
    obtain ⟨A4, n4, k4, e4⟩ := sl_form s4
    subst e1 e2 e3 e4
    have had := hi.ha
    have HDV := Lib.hid (quo_any s1 s2 had (by omega) (by omega))
    have S2 := Lib.hid s2; have S3 := Lib.hid s3; have S4 := Lib.hid s4
    have HL := Lib.hid (And.intro l1 (And.intro l2 (And.intro l3 l4)))
    have HK := Lib.hid hk
    have lq : (lim (an / ad)).length ≤ M := Nat.le_trans (lim_mono (Nat.div_le_self _ _)) l1
    have lr : (lim (an % ad)).length ≤ M := Nat.le_trans (lim_mono (Nat.le_of_lt (Nat.mod_lt an had))) l2
    have hrlt := Nat.mod_lt an had
    clear ih s1 s2 s3 s4 hk hi had
    go_enter Tryz.func74, Tryz.ntmps74
    go_wp2_with fail
    refine HDV.out.mono ?_
    rintro e w1 ⟨vq, vr, rfl, sq, sr, hb⟩
    have Q1 := Lib.hid sq; have R1 := Lib.hid sr; have B1 := Lib.hid hb
    have S21 := Lib.hid (S2.out.below hb); have S31 := Lib.hid (S3.out.below hb); have S41 := Lib.hid (S4.out.below hb)
    obtain ⟨Ar, nr, kr, er⟩ := sl_form sr
    obtain ⟨Aq, nq, kq, eq⟩ := sl_form sq
    subst er eq
    have hnr := sl_len sr
    clear sq sr hb S2 S3 S4 HDV
    by_cases h1 : an % ad = 0
    · have hre := HRR.out
      rw [betw_int h1] at hre
      subst hre
      have hn0 : nr = 0 := by rw [hnr, h1, lim_zero]; rfl
      subst hn0
      have O2 := Lib.hid (show Sl (w1.alloc (.cells #[.int .u32 1] 66)) (.slice (some ⟨w1.heap.size, 0, none⟩) 1 1) (lim 1) by rw [lim_one]; exact sl_one w1)
      have Q2 := Lib.hid (Q1.out.below (below_al w1 (.cells #[.int .u32 1] 66))); have B2 := Lib.hid (below_step B1.out (below_al w1 (.cells #[.int .u32 1] 66)))
      clear hnr h1 lr hrlt
      go_wp2_with fail
      go_ret2
      exact ⟨_, _, rfl, Q2.out, O2.out, B2.out⟩
    · have hne : ((nr : Int) == 0) = false := by
        rw [beq_eq_false_iff_ne, hnr]
        intro e
        have e0 : (lim (an % ad)).length = 0 := by omega
        exact h1 (lim_nil.1 (List.length_eq_zero_iff.1 e0))
      clear hnr
      have O2 := Lib.hid (show Sl (w1.alloc (.cells #[.int .u32 1] 66)) (.slice (some ⟨w1.heap.size, 0, none⟩) 1 1) (lim 1) by rw [lim_one]; exact sl_one w1)
      have hb := below_al w1 (.cells #[.int .u32 1] 66)
      have Q2 := Lib.hid (Q1.out.below hb); have R2 := Lib.hid (R1.out.below hb); have B2 := Lib.hid (below_step B1.out hb)
      have S22 := Lib.hid (S21.out.below hb); have S32 := Lib.hid (S31.out.below hb); have S42 := Lib.hid (S41.out.below hb)
      clear hb
      have HP := Lib.hid (rplus_lim Q2.out O2.out (by omega) (by rw [lim_one]; simp))
      clear Q1 R1 B1 S21 S31 S41 O2
      go_wp2_with fail
      refine HP.out.mono ?_
      rintro e w3 ⟨vn, rfl, s2, hb⟩
      have Q3 := Lib.hid (Q2.out.below hb); have R3 := Lib.hid (R2.out.below hb); have T3 := Lib.hid s2; have B3 := Lib.hid (below_step B2.out hb)
      have S23 := Lib.hid (S22.out.below hb); have S33 := Lib.hid (S32.out.below hb); have S43 := Lib.hid (S42.out.below hb)
      obtain ⟨An, nn, kn, en⟩ := sl_form s2
      subst en
      clear s2 hb Q2 R2 B2 S22 S32 S42 HP
      have ln : (lim (an / ad + 1)).length ≤ M + 1 := lim_add (a := M) lq (Nat.le_trans (lim_mono (show 1 ≤ ad by omega)) l2)
      have HT := Lib.hid (rtimes_lim T3.out S43.out (by omega) (by omega))
      go_wp2_with fail
      refine HT.out.mono ?_
      rintro e w4 ⟨vt, rfl, s2, hb⟩
      have Q4 := Lib.hid (Q3.out.below hb); have R4 := Lib.hid (R3.out.below hb); have T4 := Lib.hid (T3.out.below hb); have B4 := Lib.hid (below_step B3.out hb)
      have S24 := Lib.hid (S23.out.below hb); have S34 := Lib.hid (S33.out.below hb); have S44 := Lib.hid (S43.out.below hb)
      have lt : (lim ((an / ad + 1) * bd)).length ≤ M + 1 + M := lim_mul ln l4
      obtain ⟨At, nt, kt, et⟩ := sl_form s2
      subst et
      have HC := Lib.hid (rcompare_lim s2 S34.out (by omega) (by omega))
      clear s2 hb Q3 R3 T3 B3 S23 S33 S43 HT
      go_wp2_with fail
      refine HC.out.mono ?_
      rintro e w5 ⟨rfl, rfl⟩
      clear HC ln lt
      by_cases h2 : (an / ad + 1) * bd ≤ bn
      · have hre := HRR.out
        rw [betw_next h1 h2] at hre
        subst hre
        have ho : decide (ord ((an / ad + 1) * bd) bn ≤ 0) = true := by
          unfold ord
          by_cases hq : (an / ad + 1) * bd < bn
          · simp [hq]
          · rw [if_neg hq, if_pos (by omega)]; rfl
        have O6 := Lib.hid (show Sl (w4.alloc (.cells #[.int .u32 1] 66)) (.slice (some ⟨w4.heap.size, 0, none⟩) 1 1) (lim 1) by rw [lim_one]; exact sl_one w4)
        have T6 := Lib.hid (T4.out.below (below_al w4 (.cells #[.int .u32 1] 66))); have B6 := Lib.hid (below_step B4.out (below_al w4 (.cells #[.int .u32 1] 66)))
        clear h2 h1 hne
        go_wp2_with fail
        go_ret2
        exact ⟨_, _, rfl, T6.out, O6.out, B6.out⟩
      · have h2' : bn < (an / ad + 1) * bd := by omega
        obtain ⟨hlt, hin⟩ := HI.out.inner h1 h2'
        have hre := HRR.out
        rw [betw_rec HI.out h1 h2'] at hre
        subst hre
        have ho : decide (ord ((an / ad + 1) * bd) bn ≤ 0) = false := by
          unfold ord
          rw [if_neg (by omega), if_neg (by omega)]; rfl
        have hsm : (bn - an / ad * bd) + an % ad ≤ k := by
          have h9 := h2'
          have h10 := HK.out
          rw [Nat.add_mul] at h9
          omega
        have lm : (lim (bn - an / ad * bd)).length ≤ M := Nat.le_trans (lim_mono (Nat.sub_le _ _)) l3
        have HRC := Lib.hid (fun W (a1 a2 a3 a4 : Value) (h1 : Sl W a1 (lim bd)) (h2 : Sl W a2 (lim (bn - an / ad * bd))) (h3 : Sl W a3 (lim ad)) (h4 : Sl W a4 (lim (an % ad))) => IH.out bd (bn - an / ad * bd) ad (an % ad) a1 a2 a3 a4 W hsm hin h1 h2 h3 h4 l4 lm l2 lr)
        have lw : (lim (an / ad * bd)).length ≤ M + M := lim_mul lq l4
        have HTW := Lib.hid (rtimes_lim Q4.out S44.out (by omega) (by omega))
        have HMI := Lib.hid (fun W (v1 : Value) (h1 : Sl W v1 (lim bn)) (v2 : Value) (h2 : Sl W v2 (lim (an / ad * bd))) => rminus_lim h1 h2 (Nat.le_of_lt hlt) (by omega) (by omega))
        obtain ⟨b1, b2⟩ := betw_le hin
        have lu := Nat.le_trans (lim_mono b1) l4
        have lv := Nat.le_trans (lim_mono b2) lm
        have lqu := lim_mul lq lu
        have HB4 := Lib.hid (And.intro hM (And.intro lq (And.intro lu (And.intro lv lqu))))
        clear b1 b2 lu lv lqu lw lm hsm hlt hin h2 h2' h1 IH HI HRR HK HL lq lr l1 l2 l3 l4 hrlt T4
        go_wp2_with fail
        refine HTW.out.mono ?_
        rintro e w6 ⟨v6, rfl, s6, hb⟩
        have Q6 := Lib.hid (Q4.out.below hb); have R6 := Lib.hid (R4.out.below hb); have B6 := Lib.hid (below_step B4.out hb); have S26 := Lib.hid (S24.out.below hb); have S36 := Lib.hid (S34.out.below hb); have S46 := Lib.hid (S44.out.below hb); have U6 := Lib.hid s6
        clear s6 hb Q4 R4 B4 S24 S34 S44 HTW
        go_wp2_with fail
        refine (HMI.out _ _ S36.out _ U6.out).mono ?_
        rintro e w7 ⟨v7, rfl, s7, hb⟩
        have Q7 := Lib.hid (Q6.out.below hb); have R7 := Lib.hid (R6.out.below hb); have B7 := Lib.hid (below_step B6.out hb); have S27 := Lib.hid (S26.out.below hb); have S47 := Lib.hid (S46.out.below hb); have U7 := Lib.hid s7
        clear s7 hb Q6 R6 B6 S26 S36 S46 U6 HMI
        go_wp2_with fail
        refine (HRC.out _ _ _ _ _ S47.out U7.out S27.out R7.out).mono ?_
        rintro e w8 ⟨u1, u2, rfl, t1, t2, hb⟩
        have Q8 := Lib.hid (Q7.out.below hb); have B8 := Lib.hid (below_step B7.out hb); have X8 := Lib.hid t1; have Y8 := Lib.hid t2
        clear t1 t2 hb Q7 R7 B7 S27 S47 U7 HRC
        generalize betw bd (bn - an / ad * bd) ad (an % ad) = P at *
        have HT9 := Lib.hid (rtimes_lim Q8.out X8.out (by have := HB4.out.2.1; have := HB4.out.1; omega) (by have := HB4.out.2.2.1; have := HB4.out.1; omega))
        go_wp2_with fail
        refine HT9.out.mono ?_
        rintro e w9 ⟨v9, rfl, s9, hb⟩
        have X9 := Lib.hid (X8.out.below hb); have Y9 := Lib.hid (Y8.out.below hb); have B9 := Lib.hid (below_step B8.out hb)
        have HP9 := Lib.hid (rplus_lim s9 Y9.out (by have := HB4.out.2.2.2.2; have := HB4.out.1; omega) (by have := HB4.out.2.2.2.1; have := HB4.out.1; omega))
        clear s9 hb Q8 X8 Y8 B8 HT9
        go_wp2_with fail
        refine HP9.out.mono ?_
        rintro e w10 ⟨v10, rfl, s10, hb⟩
        have X10 := Lib.hid (X9.out.below hb); have B10 := Lib.hid (below_step B9.out hb); have Z10 := Lib.hid s10
        clear s10 hb X9 Y9 B9 HP9
        go_wp2_with fail
        go_ret2
        exact ⟨_, _, rfl, Z10.out, X10.out, B10.out⟩
set_option maxHeartbeats 4000000 in
theorem rsimplest_any {v1 v2 u1 u2 : Value} {r s : Rt} {w : World} (hr : Rk w v1 v2 r) (hs : Rk w u1 u2 s) : Calls Tryz.prog 24 #[.agg #[v1, v2], .agg #[u1, u2]] w (RtP w (simR r s)) := by
  suffices hgen : ∀ Res, Hid (simR r s = Res) → Calls Tryz.prog 24 #[.agg #[v1, v2], .agg #[u1, u2]] w (RtP w Res) from hgen _ (Lib.hid rfl)
  intro Res HRR
  obtain ⟨A1, n1, k1, e1⟩ := sl_form hr.s1
  obtain ⟨A2, n2, k2, e2⟩ := sl_form hr.s2
  obtain ⟨A3, n3, k3, e3⟩ := sl_form hs.s1
  obtain ⟨A4, n4, k4, e4⟩ := sl_form hs.s2
  subst e1 e2 e3 e4
  have HV := Lib.hid (rfront3 hr hs)
  have HR := Lib.hid hr; have HS := Lib.hid hs
  clear hr hs
  go_enter Tryz.func24, Tryz.ntmps24
  go_wp2_with fail
  refine HV.out.mono ?_
  rintro e w1 ⟨rfl, hx, hR, hB⟩
  clear HV
  have HX := Lib.hid hx; have HB := Lib.hid hB; have HRB := Lib.hid hR
  clear hx hB hR
  by_cases hz : bothE r s = 0
  · obtain ⟨x, y, va, e1⟩ := vld_to HR.out.ok (both0 hz).1
    obtain ⟨x2, y2, vb, e2⟩ := vld_to HS.out.ok (both0 hz).2
    subst e1 e2
    rw [hz]
    have hre := HRR.out
    rw [sim_eq va vb] at hre
    clear hz HRR
    have HRE := Lib.hid hre
    clear hre
    have HO := Lib.hid (rorder_any (HR.out.below HB.out) (HS.out.below HB.out) va vb)
    obtain ⟨hc1, hc2, hf1, hf2⟩ := blk_cells2 HX.out.1
    obtain ⟨hc3, hc4, hf3, hf4⟩ := blk_cells2 HX.out.2
    have HVV := Lib.hid (And.intro va vb)
    clear va vb
    go_wp2_with fail
    refine HO.out.mono ?_
    rintro e w3 ⟨rfl, hb⟩
    have HB3 := Lib.hid (below_step HB.out hb); have HX3 := Lib.hid (And.intro (HX.out.1.below hb HX.out.1.lt) (HX.out.2.below hb HX.out.2.lt)); have HR3 := Lib.hid (HRB.out.below hb HRB.out.lt)
    clear hb HB HX HRB HO hc1 hc2 hf1 hf2 hc3 hc4 hf3 hf4
    have hre := HRE.out
    clear HRE
    by_cases hlt : x2 * y < x * y2
    · rw [if_pos hlt] at hre
      subst hre
      have ho : decide (0 < ord (x * y2) (x2 * y)) = true := by unfold ord; rw [if_neg (by omega), if_neg (by omega)]; decide
      clear hlt
      obtain ⟨hc1, hc2, hf1, hf2⟩ := blk_cells2 HR3.out
      go_wp2_with fail
      have hbk := (((HR3.out).put 0 (.slice none 0 0)).put 1 (.slice none 0 0))
      have hbl := (((HB3.out).setCell (p := ⟨w.heap.size + 2, 0, none⟩) (by simp) (.slice none 0 0)).setCell (p := ⟨w.heap.size + 2, 1, none⟩) (by simp) (.slice none 0 0))
      refine bodyPost_ret (v := .tuple #[.agg #[(.slice none 0 0), (.slice none 0 0)], .int .i64 5]) ?_ rfl ⟨.agg #[(.slice none 0 0), (.slice none 0 0)], rfl, ⟨_, _, rfl, sl_res (Sl.nil _) HR3.out _ _ _ _ _ _, sl_res (Sl.nil _) HR3.out _ _ _ _ _ _⟩, hbl⟩
      have hr := run_loadVar_at (P := Tryz.prog) _ ⟨w.heap.size + 2, 0, none⟩ 27 [(.slice none 0 0), (.slice none 0 0)] _ hbk.at Tryz.underlying27 rfl size28
      simp [results, Tryz.results24, asAddr, hr]
    · rw [if_neg hlt] at hre
      subst hre
      have ho : decide (0 < ord (x * y2) (x2 * y)) = false := by unfold ord; by_cases h5 : x * y2 < x2 * y <;> simp [h5]; omega
      have va := HVV.out.1; have vb := HVV.out.2
      have ha1 : Sl w (.slice A1 n1 k1) (lim x) := HR.out.s1
      have ha2 : Sl w (.slice A2 n2 k2) (dl y) := HR.out.s2
      have hb1 : Sl w (.slice A3 n3 k3) (lim x2) := HS.out.s1
      have hb2 : Sl w (.slice A4 n4 k4) (dl y2) := HS.out.s2
      obtain ⟨la1, la2, la3⟩ := Vr.len va
      obtain ⟨lb1, lb2, lb3⟩ := Vr.len vb
      have hi : Itv x y x2 y2 := ⟨va.pos, vb.pos, Nat.le_of_not_lt hlt⟩
      have HDA := Lib.hid (fun W (h : Below w.heap.size w W) => rden_sl (ha1.below h) (ha2.below h) va.pos (by omega))
      have HDB := Lib.hid (fun W (h : Below w.heap.size w W) => rden_sl (hb1.below h) (hb2.below h) vb.pos (by omega))
      obtain ⟨hle1, hle2⟩ := betw_le hi
      have hgd := betw_good _ x y x2 y2 (Nat.le_refl _) hi
      have hpos := hgd.1.1
      have lu := Nat.le_trans (lim_mono hle1) la1
      have lv := Nat.le_trans (lim_mono hle2) la2
      have hco := low_made hgd.2.1 hpos
      have HMD := Lib.hid (fun W (h : Below w.heap.size w W) (v1 : Value) (hv1 : Sl W v1 (lim (betw x y x2 y2).1)) (v2 : Value) (hv2 : Sl W v2 (lim (betw x y x2 y2).2)) => show Calls Tryz.prog 51 #[v1, v2] W (RtP W (madeR (betw x y x2 y2).1 (betw x y x2 y2).2)) by rw [← hco]; exact rreduced_any hv1 hv2 hpos (by omega) (by omega))
      have HRC := Lib.hid (fun W (h : Below w.heap.size w W) (v2 : Value) (hv2 : Sl W v2 (lim y)) (v4 : Value) (hv4 : Sl W v4 (lim y2)) => rbetw_any 64 (by omega) _ x y x2 y2 _ v2 _ v4 W (Nat.le_refl _) hi (ha1.below h) hv2 (hb1.below h) hv4 la1 la2 lb1 lb2)
      clear ha1 ha2 hb1 hb2 la1 la2 la3 lb1 lb2 lb3 hi hle1 hle2 hpos lu lv va vb hlt HR HS HVV hgd hco
      go_upto_region 6 with (fail)
      refine wp_region_held (S := fun W => Blk W w.heap.size 27 [(.slice A1 n1 k1), (.slice A2 n2 k2)] ∧ Blk W (w.heap.size + 1) 27 [(.slice A3 n3 k3), (.slice A4 n4 k4)]) (by kernel_rfl) ?_
      change wpAnyH _ _ _ _ _ _ _ _ (World.drew w3)
      have hs0 : Blk (World.drew w3) w.heap.size 27 [(.slice A1 n1 k1), (.slice A2 n2 k2)] ∧ Blk (World.drew w3) (w.heap.size + 1) 27 [(.slice A3 n3 k3), (.slice A4 n4 k4)] := HX3.out
      have BD : Hid (Below w.heap.size w (World.drew w3)) := Lib.hid (below_drewN HB3.out 1)
      have RD : Hid (Blk (World.drew w3) (w.heap.size + 2) 27 [.slice none 0 0, .slice none 0 0]) := HR3
      generalize World.drew w3 = Wd at hs0 BD RD ⊢
      refine wpAnyH_take (i := 0) (oi := { dst := some 22, op := Op.fieldAddr 27 (Operand.tmp 2) 0, type := 0, pos := "ref.go:349", after := #[], guard := none }) (v := .pointer (some ⟨w.heap.size, 0, none⟩)) rfl (by kernel_rfl) (by kernel_rfl) (by kernel_rfl) (fun _ _ _ h => h) (Or.inl ⟨by rfl, fun W hW => ?y1⟩) hs0 ?_
      case y1 => go_simp
      try dsimp only [Act.put]
      try simp only [List.setIfInBounds_toArray, List.set_cons_zero, List.set_cons_succ]
      refine wpAnyH_take (i := 1) (oi := { dst := some 23, op := Op.load 22 (Operand.tmp 22), type := 22, pos := "ref.go:349", after := #[{ on := 0, ground := Ground.data }], guard := none }) (v := (.slice A1 n1 k1)) rfl (by kernel_rfl) (by kernel_rfl) (by kernel_rfl) (fun _ _ _ h => h) (Or.inl ⟨by rfl, fun W hW => by have hcl : W.cell? ⟨w.heap.size, 0, none⟩ = some (.slice A1 n1 k1) := (Blk.cell hW.1 0).trans rfl; go_simp⟩) hs0 ?_
      try dsimp only [Act.put]
      try simp only [List.setIfInBounds_toArray, List.set_cons_zero, List.set_cons_succ]
      refine wpAnyH_take (i := 2) (oi := { dst := some 24, op := Op.load 27 (Operand.tmp 2), type := 27, pos := "ref.go:349", after := #[], guard := none }) (v := .agg #[(.slice A1 n1 k1), (.slice A2 n2 k2)]) rfl (by kernel_rfl) (by kernel_rfl) (by kernel_rfl) (fun _ _ _ h => h) (Or.inl ⟨by rfl, fun W hW => by obtain ⟨hc1, hc2, _, _⟩ := blk_cells2 hW.1; go_simp⟩) hs0 ?_
      try dsimp only [Act.put]
      try simp only [List.setIfInBounds_toArray, List.set_cons_zero, List.set_cons_succ]
      refine wpAnyH_take (i := 4) (oi := { dst := some 26, op := Op.fieldAddr 27 (Operand.tmp 3) 0, type := 0, pos := "ref.go:349", after := #[], guard := none }) (v := .pointer (some ⟨(w.heap.size + 1), 0, none⟩)) rfl (by kernel_rfl) (by kernel_rfl) (by kernel_rfl) (fun _ _ _ h => h) (Or.inl ⟨by rfl, fun W hW => ?y4⟩) hs0 ?_
      case y4 => go_simp
      try dsimp only [Act.put]
      try simp only [List.setIfInBounds_toArray, List.set_cons_zero, List.set_cons_succ]
      refine wpAnyH_take (i := 5) (oi := { dst := some 27, op := Op.load 22 (Operand.tmp 26), type := 22, pos := "ref.go:349", after := #[{ on := 4, ground := Ground.data }], guard := none }) (v := (.slice A3 n3 k3)) rfl (by kernel_rfl) (by kernel_rfl) (by kernel_rfl) (fun _ _ _ h => h) (Or.inl ⟨by rfl, fun W hW => by have hcl : W.cell? ⟨(w.heap.size + 1), 0, none⟩ = some (.slice A3 n3 k3) := (Blk.cell hW.2 0).trans rfl; go_simp⟩) hs0 ?_
      try dsimp only [Act.put]
      try simp only [List.setIfInBounds_toArray, List.set_cons_zero, List.set_cons_succ]
      refine wpAnyH_take (i := 6) (oi := { dst := some 28, op := Op.load 27 (Operand.tmp 3), type := 27, pos := "ref.go:349", after := #[], guard := none }) (v := .agg #[(.slice A3 n3 k3), (.slice A4 n4 k4)]) rfl (by kernel_rfl) (by kernel_rfl) (by kernel_rfl) (fun _ _ _ h => h) (Or.inl ⟨by rfl, fun W hW => by obtain ⟨hc1, hc2, _, _⟩ := blk_cells2 hW.2; go_simp⟩) hs0 ?_
      try dsimp only [Act.put]
      try simp only [List.setIfInBounds_toArray, List.set_cons_zero, List.set_cons_succ]
      refine wpAnyH_ready (rs := [3]) (by kernel_rfl) (by simp) ?_
      refine AllReadyH.cons (o := { dst := some 25, op := Op.call { callee := Callee.value (Operand.func 54), args := #[Operand.tmp 24], argTypes := #[27] }, type := 22, pos := "ref.go:349", after := #[{ on := 2, ground := Ground.data }], guard := none }) rfl (fun K hK => ?_) AllReadyH.nil
      rw [if_pos (by rfl)]
      go_simp
      refine (HDA.out _ BD.out ).mono ?_; rintro e w7 ⟨v8, rfl, hs, hb⟩
      have B10 := Lib.hid (below_step BD.out hb)
      have hs11 := And.intro (hs0.1.below hb hs0.1.lt) (hs0.2.below hb hs0.2.lt)
      have R12 := Lib.hid (RD.out.below hb RD.out.lt)
      have S9 := Lib.hid hs
      clear hs hb
      go_wp2_with fail
      refine hK.out _ _ hs11 (fun _ => ?_)
      clear hK K
      try dsimp only [Act.put]
      try simp only [List.setIfInBounds_toArray, List.set_cons_zero, List.set_cons_succ]
      refine wpAnyH_ready (rs := [7]) (by kernel_rfl) (by simp) ?_
      refine AllReadyH.cons (o := { dst := some 29, op := Op.call { callee := Callee.value (Operand.func 54), args := #[Operand.tmp 28], argTypes := #[27] }, type := 22, pos := "ref.go:349", after := #[{ on := 6, ground := Ground.data }, { on := 3, ground := Ground.chain }], guard := none }) rfl (fun K hK => ?_) AllReadyH.nil
      rw [if_pos (by rfl)]
      go_simp
      refine (HDB.out _ B10.out ).mono ?_; rintro e w13 ⟨v14, rfl, hs, hb⟩
      have B16 := Lib.hid (below_step B10.out hb)
      have hs17 := And.intro (hs11.1.below hb hs11.1.lt) (hs11.2.below hb hs11.2.lt)
      have R18 := Lib.hid (R12.out.below hb R12.out.lt)
      have S19 := Lib.hid (S9.out.below hb)
      have S15 := Lib.hid hs
      clear hs hb
      go_wp2_with fail
      refine hK.out _ _ hs17 (fun _ => ?_)
      clear hK K
      try dsimp only [Act.put]
      try simp only [List.setIfInBounds_toArray, List.set_cons_zero, List.set_cons_succ]
      refine wpAnyH_ready (rs := [8]) (by kernel_rfl) (by simp) ?_
      refine AllReadyH.cons (o := { dst := some 30, op := Op.call { callee := Callee.value (Operand.func 74), args := #[Operand.tmp 23, Operand.tmp 25, Operand.tmp 27, Operand.tmp 29], argTypes := #[22, 22, 22, 22] }, type := 69, pos := "ref.go:349", after := #[{ on := 1, ground := Ground.data }, { on := 3, ground := Ground.data }, { on := 5, ground := Ground.data }, { on := 7, ground := Ground.data }, { on := 7, ground := Ground.chain }], guard := none }) rfl (fun K hK => ?_) AllReadyH.nil
      rw [if_pos (by rfl)]
      go_simp
      refine (HRC.out _ B16.out _ S19.out _ S15.out).mono ?_; rintro e w20 ⟨v21, v22, rfl, hs, hs2, hb⟩
      have B25 := Lib.hid (below_step B16.out hb)
      have hs26 := And.intro (hs17.1.below hb hs17.1.lt) (hs17.2.below hb hs17.2.lt)
      have R27 := Lib.hid (R18.out.below hb R18.out.lt)
      have S28 := Lib.hid (S19.out.below hb)
      have S29 := Lib.hid (S15.out.below hb)
      have S23 := Lib.hid hs
      have S24 := Lib.hid hs2
      clear hs hs2 hb
      go_wp2_with fail
      refine hK.out _ _ hs26 (fun _ => ?_)
      clear hK K
      try dsimp only [Act.put]
      try simp only [List.setIfInBounds_toArray, List.set_cons_zero, List.set_cons_succ]
      refine wpAnyH_take (i := 9) (oi := { dst := some 21, op := Op.move (Operand.tmp 30), type := 69, pos := "ref.go:349", after := #[{ on := 8, ground := Ground.data }], guard := none }) (v := .tuple #[v21, v22]) rfl (by kernel_rfl) (by kernel_rfl) (by kernel_rfl) (fun _ _ _ h => h) (Or.inl ⟨by rfl, fun W hW => ?y30⟩) hs26 ?_
      case y30 => go_simp
      try dsimp only [Act.put]
      try simp only [List.setIfInBounds_toArray, List.set_cons_zero, List.set_cons_succ]
      refine wpAnyH_take (i := 10) (oi := { dst := some 31, op := Op.extract (Operand.tmp 21) 0, type := 22, pos := "ref.go:349", after := #[{ on := 9, ground := Ground.data }], guard := none }) (v := v21) rfl (by kernel_rfl) (by kernel_rfl) (by kernel_rfl) (fun _ _ _ h => h) (Or.inl ⟨by rfl, fun W hW => ?y31⟩) hs26 ?_
      case y31 => go_simp
      try dsimp only [Act.put]
      try simp only [List.setIfInBounds_toArray, List.set_cons_zero, List.set_cons_succ]
      refine wpAnyH_take (i := 11) (oi := { dst := some 32, op := Op.extract (Operand.tmp 21) 1, type := 22, pos := "ref.go:349", after := #[{ on := 9, ground := Ground.data }, { on := 12, ground := Ground.gcOnly Departure.lateStores }], guard := none }) (v := v22) rfl (by kernel_rfl) (by kernel_rfl) (by kernel_rfl) (fun _ _ _ h => h) (Or.inl ⟨by rfl, fun W hW => ?y32⟩) hs26 ?_
      case y32 => go_simp
      try dsimp only [Act.put]
      try simp only [List.setIfInBounds_toArray, List.set_cons_zero, List.set_cons_succ]
      refine wpAnyH_take (i := 12) (oi := { dst := some 7, op := Op.assign (Operand.tmp 31), type := 22, pos := "ref.go:349", after := #[{ on := 10, ground := Ground.data }, { on := 8, ground := Ground.chain }, { on := 0, ground := Ground.phase }, { on := 1, ground := Ground.phase }, { on := 2, ground := Ground.phase }, { on := 3, ground := Ground.phase }, { on := 4, ground := Ground.phase }, { on := 5, ground := Ground.phase }, { on := 6, ground := Ground.phase }, { on := 7, ground := Ground.phase }, { on := 8, ground := Ground.phase }, { on := 9, ground := Ground.phase }, { on := 10, ground := Ground.phase }, { on := 11, ground := Ground.textOnly Departure.lateStores }], guard := none }) (v := v21) rfl (by kernel_rfl) (by kernel_rfl) (by kernel_rfl) (fun _ _ _ h => h) (Or.inl ⟨by rfl, fun W hW => ?y33⟩) hs26 ?_
      case y33 => go_simp
      try dsimp only [Act.put]
      try simp only [List.setIfInBounds_toArray, List.set_cons_zero, List.set_cons_succ]
      refine wpAnyH_take (i := 13) (oi := { dst := some 8, op := Op.assign (Operand.tmp 32), type := 22, pos := "ref.go:349", after := #[{ on := 11, ground := Ground.data }, { on := 12, ground := Ground.chain }, { on := 0, ground := Ground.phase }, { on := 1, ground := Ground.phase }, { on := 2, ground := Ground.phase }, { on := 3, ground := Ground.phase }, { on := 4, ground := Ground.phase }, { on := 5, ground := Ground.phase }, { on := 6, ground := Ground.phase }, { on := 7, ground := Ground.phase }, { on := 8, ground := Ground.phase }, { on := 9, ground := Ground.phase }, { on := 10, ground := Ground.phase }, { on := 11, ground := Ground.phase }, { on := 12, ground := Ground.phase }], guard := none }) (v := v22) rfl (by kernel_rfl) (by kernel_rfl) (by kernel_rfl) (fun _ _ _ h => h) (Or.inl ⟨by rfl, fun W hW => ?y34⟩) hs26 ?_
      case y34 => go_simp
      try dsimp only [Act.put]
      try simp only [List.setIfInBounds_toArray, List.set_cons_zero, List.set_cons_succ]
      refine wpAnyH_done (by kernel_rfl) ?_ _
      try dsimp only [Act.put]
      try simp only [List.setIfInBounds_toArray, List.set_cons_zero, List.set_cons_succ]
      have HMDx := Lib.hid (HMD.out _ B25.out _ S23.out _ S24.out)
      have HXb := hs26; have HRb := R27; have HBb := B25
      clear HMD HRC HDA HDB
      go_wp2_with fail
      refine HMDx.out.mono ?_
      rintro e wz ⟨v, rfl, ⟨u1, u2, rfl, t1, t2⟩, hb⟩
      have T1 := Lib.hid t1; have T2 := Lib.hid t2; have HRK := Lib.hid (HRb.out.below hb HRb.out.lt); have HBK := Lib.hid (below_step HBb.out hb)
      obtain ⟨C1, m1, j1, e1⟩ := sl_form t1
      obtain ⟨C2, m2, j2, e2⟩ := sl_form t2
      subst e1 e2
      clear t1 t2 hb HRb HBb HXb HMDx
      obtain ⟨hc1, hc2, hf1, hf2⟩ := blk_cells2 HRK.out
      go_wp2_with fail
      have hbk := (((HRK.out).put 0 (.slice C1 m1 j1)).put 1 (.slice C2 m2 j2))
      have hbl := (((HBK.out).setCell (p := ⟨w.heap.size + 2, 0, none⟩) (by simp) (.slice C1 m1 j1)).setCell (p := ⟨w.heap.size + 2, 1, none⟩) (by simp) (.slice C2 m2 j2))
      refine bodyPost_ret (v := .tuple #[.agg #[(.slice C1 m1 j1), (.slice C2 m2 j2)], .int .i64 (((madeR (betw x y x2 y2).1 (betw x y x2 y2).2).2 : Nat) : Int)]) ?_ rfl ⟨.agg #[(.slice C1 m1 j1), (.slice C2 m2 j2)], rfl, ⟨_, _, rfl, sl_res T1.out HRK.out _ _ _ _ _ _, sl_res T2.out HRK.out _ _ _ _ _ _⟩, hbl⟩
      have hr := run_loadVar_at (P := Tryz.prog) _ ⟨w.heap.size + 2, 0, none⟩ 27 [(.slice C1 m1 j1), (.slice C2 m2 j2)] _ hbk.at Tryz.underlying27 rfl size28
      simp [results, Tryz.results24, asAddr, hr]
  · have hne : (((bothE r s : Nat) : Int) != 0) = true := by rw [bne_iff_ne]; omega
    have hre := HRR.out
    rw [sim_err hz] at hre
    subst hre
    generalize bothE r s = E at *
    clear hz HRR
    obtain ⟨hc1, hc2, hf1, hf2⟩ := blk_cells2 HRB.out
    go_wp2_with fail
    have hbk := (((HRB.out).put 0 (.slice none 0 0)).put 1 (.slice none 0 0))
    have hbl := (((HB.out).setCell (p := ⟨w.heap.size + 2, 0, none⟩) (by simp) (.slice none 0 0)).setCell (p := ⟨w.heap.size + 2, 1, none⟩) (by simp) (.slice none 0 0))
    refine bodyPost_ret (v := .tuple #[.agg #[(.slice none 0 0), (.slice none 0 0)], .int .i64 ((E : Nat) : Int)]) ?_ rfl ⟨.agg #[(.slice none 0 0), (.slice none 0 0)], rfl, ⟨_, _, rfl, sl_res (Sl.nil _) HRB.out _ _ _ _ _ _, sl_res (Sl.nil _) HRB.out _ _ _ _ _ _⟩, hbl⟩
    have hr := run_loadVar_at (P := Tryz.prog) _ ⟨w.heap.size + 2, 0, none⟩ 27 [(.slice none 0 0), (.slice none 0 0)] _ hbk.at Tryz.underlying27 rfl size28
    simp [results, Tryz.results24, asAddr, hr]
end Go.Proofs.YtbfhilbagojdnaaGreat
