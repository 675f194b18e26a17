/-
  Texts of the proof, joined: Fl, Sm, Si, Su, Sa, De, Pr.
  No condition: lemmas.
-/
import Derived.Test.YtbfhilbagojdnaaGreatHr7
namespace Go.Proofs.YtbfhilbagojdnaaGreat
open Go.RowKit Wr Go.Proofs.YtbfhilbagojdnaaGreat.Nm
set_option linter.unusedVariables false
set_option maxRecDepth 100000

def floorR (r : Rt) : Int × Nat := if vld r ≠ 0 then (0, vld r) else if num r.1 / denN r.2 < 9223372036854775808 then (((num r.1 / denN r.2 : Nat) : Int), 0) else (0, 4)
end Go.Proofs.YtbfhilbagojdnaaGreat
namespace Go.Proofs.YtbfhilbagojdnaaGreat
open Go.RowKit Wr Go.Proofs.YtbfhilbagojdnaaGreat.Nm
set_option linter.unusedVariables false
set_option maxRecDepth 100000

def BtP (w : World) (p : Nat × Nat) (e : Ending) (w' : World) : Prop := ∃ u1 u2, e = .returned (.tuple #[u1, u2]) ∧ Sl w' u1 (lim p.1) ∧ Sl w' u2 (lim p.2) ∧ Below w.heap.size w w'
theorem betw_le {an ad bn bd : Nat} (h : Itv an ad bn bd) : (betw an ad bn bd).1 ≤ an ∧ (betw an ad bn bd).2 ≤ ad := by
  have := (betw_good _ an ad bn bd (Nat.le_refl _) h).2.2 an ad ⟨h.ha, Nat.le_refl _, h.le⟩
  exact this
theorem one_sl (w : World) : Calls Tryz.prog 71 #[] w (SlP w 1) := by
  have := one_any w
  rw [← lim_one] at this
  exact this
set_option maxHeartbeats 4000000 in
theorem betw_any (g M : Nat) (hM : M ≤ 1000) : ∀ (k : Nat) (an ad bn bd : Nat) (v1 v2 v3 v4 : Value) (w : World), ad + bd ≤ k → Itv an ad bn bd → Blk w g 76 [.func (.func 70) #[] #[.pointer (some ⟨g, 0, none⟩)]] → Sl w v1 (lim an) → Sl w v2 (lim ad) → Sl w v3 (lim bn) → Sl w v4 (lim bd) →
    (lim an).length ≤ M → (lim ad).length ≤ M → (lim bn).length ≤ M → (lim bd).length ≤ M → Calls Tryz.prog 70 #[v1, v2, v3, v4, .pointer (some ⟨g, 0, none⟩)] w (BtP w (betw an ad bn bd)) := by
  intro k
  induction k with
  | zero => intro an ad bn bd v1 v2 v3 v4 w hk hi; have := hi.ha; omega
  | succ k ih =>
    intro an ad bn bd v1 v2 v3 v4 w hk hi hg s1 s2 s3 s4 l1 l2 l3 l4
    suffices hgen : ∀ Res, Hid (betw an ad bn bd = Res) → Calls Tryz.prog 70 #[v1, v2, v3, v4, .pointer (some ⟨g, 0, none⟩)] w (BtP w Res) from hgen _ (Lib.hid rfl)
    intro Res HRR
    have IH := Lib.hid ih
    have HI := Lib.hid hi
    obtain ⟨A1, n1, k1, e1⟩ := sl_form s1
    obtain ⟨A2, n2, k2, e2⟩ := sl_form s2
    obtain ⟨A3, n3, k3, e3⟩ := sl_form s3
    obtain ⟨A4, n4, k4, e4⟩ := sl_form s4
    subst e1 e2 e3 e4
    have had := hi.ha
    have HDV := Lib.hid (divided_sl s1 s2 had (by omega) (by omega))
    have S2 := Lib.hid s2; have S3 := Lib.hid s3; have S4 := Lib.hid s4; have HG := Lib.hid hg
    have HL := Lib.hid (And.intro l1 (And.intro l2 (And.intro l3 l4)))
    have HK := Lib.hid hk
    have lq : (lim (an / ad)).length ≤ M := Nat.le_trans (lim_mono (Nat.div_le_self _ _)) l1
    have lr : (lim (an % ad)).length ≤ M := Nat.le_trans (lim_mono (Nat.le_of_lt (Nat.mod_lt an had))) l2
    have hrlt := Nat.mod_lt an had
    clear ih s1 s2 s3 s4 hg hk hi had
    go_enter Tryz.func70, Tryz.ntmps70
    go_wp2_with fail
    refine HDV.out.mono ?_
    rintro e w1 ⟨vq, vr, rfl, sq, sr, hb⟩
    have Q1 := Lib.hid sq; have R1 := Lib.hid sr; have B1 := Lib.hid hb
    have S21 := Lib.hid (S2.out.below hb); have S31 := Lib.hid (S3.out.below hb); have S41 := Lib.hid (S4.out.below hb); have G1 := Lib.hid (HG.out.below hb HG.out.lt)
    obtain ⟨Ar, nr, kr, er⟩ := sl_form sr
    subst er
    have hnr := sl_len sr
    clear sq sr hb S2 S3 S4 HG HDV
    by_cases h1 : an % ad = 0
    · have hre := HRR.out
      rw [betw_int h1] at hre
      subst hre
      have hn0 : nr = 0 := by rw [hnr, h1, lim_zero]; rfl
      subst hn0
      clear hnr h1 lr hrlt
      go_wp2_with fail
      refine (one_sl _).mono ?_
      rintro e w2 ⟨v2, rfl, s2, hb⟩
      have Q2 := Lib.hid (Q1.out.below hb); have T2 := Lib.hid s2; have B2 := Lib.hid (below_step B1.out hb)
      clear s2 hb
      go_wp2_with fail
      go_ret2
      exact ⟨_, _, rfl, Q2.out, T2.out, B2.out⟩
    · have hne : ((nr : Int) == 0) = false := by
        rw [beq_eq_false_iff_ne, hnr]
        intro e
        have e0 : (lim (an % ad)).length = 0 := by omega
        exact h1 (lim_nil.1 (List.length_eq_zero_iff.1 e0))
      clear hnr
      go_wp2_with fail
      refine (one_sl _).mono ?_
      rintro e w2 ⟨vo, rfl, s2, hb⟩
      have Q2 := Lib.hid (Q1.out.below hb); have R2 := Lib.hid (R1.out.below hb); have T2 := Lib.hid s2; have B2 := Lib.hid (below_step B1.out hb)
      have S22 := Lib.hid (S21.out.below hb); have S32 := Lib.hid (S31.out.below hb); have S42 := Lib.hid (S41.out.below hb); have G2 := Lib.hid (G1.out.below hb G1.out.lt)
      clear s2 hb Q1 R1 B1 S21 S31 S41 G1
      have HP := Lib.hid (plus_sl Q2.out T2.out (by omega) (by rw [lim_one]; simp))
      go_wp2_with fail
      refine HP.out.mono ?_
      rintro e w3 ⟨vn, rfl, s2, hb⟩
      have Q3 := Lib.hid (Q2.out.below hb); have R3 := Lib.hid (R2.out.below hb); have T3 := Lib.hid s2; have B3 := Lib.hid (below_step B2.out hb)
      have S23 := Lib.hid (S22.out.below hb); have S33 := Lib.hid (S32.out.below hb); have S43 := Lib.hid (S42.out.below hb); have G3 := Lib.hid (G2.out.below hb G2.out.lt)
      clear s2 hb Q2 R2 T2 B2 S22 S32 S42 G2 HP
      have ln : (lim (an / ad + 1)).length ≤ M + 1 := lim_add (a := M) lq (Nat.le_trans (lim_mono (show 1 ≤ ad by omega)) l2)
      have HT := Lib.hid (times_sl T3.out S43.out (by omega) (by omega))
      go_wp2_with fail
      refine HT.out.mono ?_
      rintro e w4 ⟨vt, rfl, s2, hb⟩
      have Q4 := Lib.hid (Q3.out.below hb); have R4 := Lib.hid (R3.out.below hb); have T4 := Lib.hid (T3.out.below hb); have U4 := Lib.hid s2; have B4 := Lib.hid (below_step B3.out hb)
      have S24 := Lib.hid (S23.out.below hb); have S34 := Lib.hid (S33.out.below hb); have S44 := Lib.hid (S43.out.below hb); have G4 := Lib.hid (G3.out.below hb G3.out.lt)
      clear s2 hb Q3 R3 T3 B3 S23 S33 S43 G3 HT
      have lt : (lim ((an / ad + 1) * bd)).length ≤ M + 1 + M := lim_mul ln l4
      have HC := Lib.hid (compare_sl U4.out S34.out (by omega) (by omega))
      go_wp2_with fail
      refine HC.out.mono ?_
      rintro e w5 ⟨rfl, hb⟩
      have Q5 := Lib.hid (Q4.out.below hb); have R5 := Lib.hid (R4.out.below hb); have T5 := Lib.hid (T4.out.below hb); have B5 := Lib.hid (below_step B4.out hb)
      have S25 := Lib.hid (S24.out.below hb); have S35 := Lib.hid (S34.out.below hb); have S45 := Lib.hid (S44.out.below hb); have G5 := Lib.hid (G4.out.below hb G4.out.lt)
      clear hb Q4 R4 T4 U4 B4 S24 S34 S44 G4 HC ln lt
      by_cases h2 : (an / ad + 1) * bd ≤ bn
      · have hre := HRR.out
        rw [betw_next h1 h2] at hre
        subst hre
        have ho : decide (ord ((an / ad + 1) * bd) bn ≤ 0) = true := by
          unfold ord
          by_cases hq : (an / ad + 1) * bd < bn
          · simp [hq]
          · rw [if_neg hq, if_pos (by omega)]; rfl
        clear h2 h1 hne
        go_wp2_with fail
        refine (one_sl _).mono ?_
        rintro e w6 ⟨v6, rfl, s6, hb⟩
        have T6 := Lib.hid (T5.out.below hb); have O6 := Lib.hid s6; have B6 := Lib.hid (below_step B5.out hb)
        clear s6 hb
        go_wp2_with fail
        go_ret2
        exact ⟨_, _, rfl, T6.out, O6.out, B6.out⟩
      · have h2' : bn < (an / ad + 1) * bd := by omega
        obtain ⟨hlt, hin⟩ := HI.out.inner h1 h2'
        have hre := HRR.out
        rw [betw_rec HI.out h1 h2'] at hre
        subst hre
        have ho : decide (ord ((an / ad + 1) * bd) bn ≤ 0) = false := by
          unfold ord
          rw [if_neg (by omega), if_neg (by omega)]; rfl
        have hsm : (bn - an / ad * bd) + an % ad ≤ k := by
          have h9 := h2'
          have h10 := HK.out
          rw [Nat.add_mul] at h9
          omega
        have lm : (lim (bn - an / ad * bd)).length ≤ M := Nat.le_trans (lim_mono (Nat.sub_le _ _)) l3
        have HRC := Lib.hid (fun W (hG : Blk W g 76 [.func (.func 70) #[] #[.pointer (some ⟨g, 0, none⟩)]]) (a1 a2 a3 a4 : Value) (h1 : Sl W a1 (lim bd)) (h2 : Sl W a2 (lim (bn - an / ad * bd))) (h3 : Sl W a3 (lim ad)) (h4 : Sl W a4 (lim (an % ad))) => IH.out bd (bn - an / ad * bd) ad (an % ad) a1 a2 a3 a4 W hsm hin hG h1 h2 h3 h4 l4 lm l2 lr)
        have lw : (lim (an / ad * bd)).length ≤ M + M := lim_mul lq l4
        have HTW := Lib.hid (fun W (h : Below w.heap.size w W) (v1 : Value) (h1 : Sl W v1 (lim (an / ad))) (v2 : Value) (h2 : Sl W v2 (lim bd)) => times_sl h1 h2 (by omega) (by omega))
        have HMI := Lib.hid (fun W (h : Below w.heap.size w W) (v1 : Value) (h1 : Sl W v1 (lim bn)) (v2 : Value) (h2 : Sl W v2 (lim (an / ad * bd))) => minus_sl h1 h2 (Nat.le_of_lt hlt) (by omega) (by omega))
        obtain ⟨b1, b2⟩ := betw_le hin
        have lu := Nat.le_trans (lim_mono b1) l4
        have lv := Nat.le_trans (lim_mono b2) lm
        have lqu := lim_mul lq lu
        have HB4 := Lib.hid (And.intro hM (And.intro lq (And.intro lu (And.intro lv lqu))))
        have Q6 := Q5; have R6 := R5; have S26 := S25; have S36 := S35; have S46 := S45; have B6 := B5; have G6 := G5
        clear b1 b2 lu lv lqu lw lm hsm hlt hin h2 h2' h1 Q5 R5 S25 S35 S45 B5 G5 IH HI HRR HK HL lq lr l1 l2 l3 l4 hrlt
        go_upto_region 7 with (fail)
        have w6E : w5 = w5 := rfl
        clear w6E
        refine wp_region_held (S := fun W => Blk W g 76 [.func (.func 70) #[] #[.pointer (some ⟨g, 0, none⟩)]]) (by kernel_rfl) ?_
        change wpAnyH _ _ _ _ _ _ _ _ (World.drew w5)
        have hs0 : Blk (World.drew w5) g 76 [.func (.func 70) #[] #[.pointer (some ⟨g, 0, none⟩)]] := G6.out
        have BD : Hid (Below w.heap.size w (World.drew w5)) := Lib.hid (below_drewN B6.out 1)
        have S1 : Hid (Sl (World.drew w5) vq (lim (an / ad))) := Q6
        have S2 : Hid (Sl (World.drew w5) (.slice Ar nr kr) (lim (an % ad))) := R6
        have S3 : Hid (Sl (World.drew w5) (.slice A2 n2 k2) (lim (ad))) := S26
        have S4 : Hid (Sl (World.drew w5) (.slice A3 n3 k3) (lim (bn))) := S36
        have S5 : Hid (Sl (World.drew w5) (.slice A4 n4 k4) (lim (bd))) := S46
        generalize World.drew w5 = Wd at hs0 BD S1 S2 S3 S4 S5 ⊢
        refine wpAnyH_take (i := 0) (oi := { dst := some 37, op := Op.load 76 (Operand.tmp 4), type := 76, pos := "ratio.go:154", after := #[], guard := none }) (v := .func (.func 70) #[] #[.pointer (some ⟨g, 0, none⟩)]) rfl (by kernel_rfl) (by kernel_rfl) (by kernel_rfl) (fun _ _ _ h => h) (Or.inl ⟨by rfl, fun W hW => by have hcl : W.cell? ⟨g, 0, none⟩ = some (.func (.func 70) #[] #[.pointer (some ⟨g, 0, none⟩)]) := (Blk.cell hW 0).trans rfl; go_simp⟩) hs0 ?_
        try dsimp only [Act.put]
        try simp only [List.setIfInBounds_toArray, List.set_cons_zero, List.set_cons_succ]
        refine wpAnyH_take (i := 1) (oi := { dst := some 38, op := Op.move (Operand.tmp 3), type := 22, pos := "ratio.go:154", after := #[], guard := none }) (v := .slice A4 n4 k4) rfl (by kernel_rfl) (by kernel_rfl) (by kernel_rfl) (fun _ _ _ h => h) (Or.inl ⟨by rfl, fun W hW => ?y7⟩) hs0 ?_
        case y7 => go_simp
        try dsimp only [Act.put]
        try simp only [List.setIfInBounds_toArray, List.set_cons_zero, List.set_cons_succ]
        refine wpAnyH_take (i := 2) (oi := { dst := some 39, op := Op.move (Operand.tmp 2), type := 22, pos := "ratio.go:154", after := #[], guard := none }) (v := .slice A3 n3 k3) rfl (by kernel_rfl) (by kernel_rfl) (by kernel_rfl) (fun _ _ _ h => h) (Or.inl ⟨by rfl, fun W hW => ?y8⟩) hs0 ?_
        case y8 => go_simp
        try dsimp only [Act.put]
        try simp only [List.setIfInBounds_toArray, List.set_cons_zero, List.set_cons_succ]
        refine wpAnyH_take (i := 3) (oi := { dst := some 40, op := Op.move (Operand.tmp 11), type := 22, pos := "ratio.go:154", after := #[], guard := none }) (v := vq) rfl (by kernel_rfl) (by kernel_rfl) (by kernel_rfl) (fun _ _ _ h => h) (Or.inl ⟨by rfl, fun W hW => ?y9⟩) hs0 ?_
        case y9 => go_simp
        try dsimp only [Act.put]
        try simp only [List.setIfInBounds_toArray, List.set_cons_zero, List.set_cons_succ]
        refine wpAnyH_take (i := 4) (oi := { dst := some 41, op := Op.move (Operand.tmp 3), type := 22, pos := "ratio.go:154", after := #[], guard := none }) (v := .slice A4 n4 k4) rfl (by kernel_rfl) (by kernel_rfl) (by kernel_rfl) (fun _ _ _ h => h) (Or.inl ⟨by rfl, fun W hW => ?y10⟩) hs0 ?_
        case y10 => go_simp
        try dsimp only [Act.put]
        try simp only [List.setIfInBounds_toArray, List.set_cons_zero, List.set_cons_succ]
        refine wpAnyH_take (i := 7) (oi := { dst := some 44, op := Op.move (Operand.tmp 1), type := 22, pos := "ratio.go:154", after := #[], guard := none }) (v := .slice A2 n2 k2) rfl (by kernel_rfl) (by kernel_rfl) (by kernel_rfl) (fun _ _ _ h => h) (Or.inl ⟨by rfl, fun W hW => ?y11⟩) hs0 ?_
        case y11 => go_simp
        try dsimp only [Act.put]
        try simp only [List.setIfInBounds_toArray, List.set_cons_zero, List.set_cons_succ]
        refine wpAnyH_take (i := 8) (oi := { dst := some 45, op := Op.move (Operand.tmp 12), type := 22, pos := "ratio.go:154", after := #[], guard := none }) (v := (.slice Ar nr kr)) rfl (by kernel_rfl) (by kernel_rfl) (by kernel_rfl) (fun _ _ _ h => h) (Or.inl ⟨by rfl, fun W hW => ?y12⟩) hs0 ?_
        case y12 => go_simp
        try dsimp only [Act.put]
        try simp only [List.setIfInBounds_toArray, List.set_cons_zero, List.set_cons_succ]
        refine wpAnyH_ready (rs := [5]) (by kernel_rfl) (by simp) ?_
        refine AllReadyH.cons (o := { dst := some 42, op := Op.call { callee := Callee.value (Operand.func 46), args := #[Operand.tmp 40, Operand.tmp 41], argTypes := #[22, 22] }, type := 22, pos := "ratio.go:154", after := #[{ on := 3, ground := Ground.data }, { on := 4, ground := Ground.data }], guard := none }) rfl (fun K hK => ?_) AllReadyH.nil
        rw [if_pos (by rfl)]
        go_simp
        refine (HTW.out _ BD.out _ S1.out _ S5.out).mono ?_; rintro e w13 ⟨v14, rfl, hs, hb⟩
        have B16 := Lib.hid (below_step BD.out hb)
        have hs17 := hs0.below hb hs0.lt
        have S18 := Lib.hid (S1.out.below hb)
        have S19 := Lib.hid (S2.out.below hb)
        have S20 := Lib.hid (S3.out.below hb)
        have S21 := Lib.hid (S4.out.below hb)
        have S22 := Lib.hid (S5.out.below hb)
        have S15 := Lib.hid hs
        clear hs hb
        go_wp2_with fail
        refine hK.out _ _ hs17 (fun _ => ?_)
        clear hK K
        try dsimp only [Act.put]
        try simp only [List.setIfInBounds_toArray, List.set_cons_zero, List.set_cons_succ]
        refine wpAnyH_ready (rs := [6]) (by kernel_rfl) (by simp) ?_
        refine AllReadyH.cons (o := { dst := some 43, op := Op.call { callee := Callee.value (Operand.func 56), args := #[Operand.tmp 39, Operand.tmp 42], argTypes := #[22, 22] }, type := 22, pos := "ratio.go:154", after := #[{ on := 2, ground := Ground.data }, { on := 5, ground := Ground.data }, { on := 5, ground := Ground.chain }], guard := none }) rfl (fun K hK => ?_) AllReadyH.nil
        rw [if_pos (by rfl)]
        go_simp
        refine (HMI.out _ B16.out _ S21.out _ S15.out).mono ?_; rintro e w23 ⟨v24, rfl, hs, hb⟩
        have B26 := Lib.hid (below_step B16.out hb)
        have hs27 := hs17.below hb hs17.lt
        have S28 := Lib.hid (S18.out.below hb)
        have S29 := Lib.hid (S19.out.below hb)
        have S30 := Lib.hid (S20.out.below hb)
        have S31 := Lib.hid (S21.out.below hb)
        have S32 := Lib.hid (S22.out.below hb)
        have S33 := Lib.hid (S15.out.below hb)
        have S25 := Lib.hid hs
        clear hs hb
        go_wp2_with fail
        refine hK.out _ _ hs27 (fun _ => ?_)
        clear hK K
        try dsimp only [Act.put]
        try simp only [List.setIfInBounds_toArray, List.set_cons_zero, List.set_cons_succ]
        refine wpAnyH_ready (rs := [9]) (by kernel_rfl) (by simp) ?_
        refine AllReadyH.cons (o := { dst := some 46, op := Op.call { callee := Callee.value (Operand.tmp 37), args := #[Operand.tmp 38, Operand.tmp 43, Operand.tmp 44, Operand.tmp 45], argTypes := #[22, 22, 22, 22] }, type := 69, pos := "ratio.go:154", after := #[{ on := 0, ground := Ground.data }, { on := 1, ground := Ground.data }, { on := 6, ground := Ground.data }, { on := 7, ground := Ground.data }, { on := 8, ground := Ground.data }, { on := 6, ground := Ground.chain }], guard := none }) rfl (fun K hK => ?_) AllReadyH.nil
        rw [if_pos (by rfl)]
        go_simp
        refine (HRC.out _ hs27 _ _ _ _ S32.out S25.out S30.out S29.out).mono ?_; rintro e w34 ⟨v35, v36, rfl, hs, hs2, hb⟩
        have B39 := Lib.hid (below_step B26.out hb)
        have hs40 := hs27.below hb hs27.lt
        have S41 := Lib.hid (S28.out.below hb)
        have S42 := Lib.hid (S29.out.below hb)
        have S43 := Lib.hid (S30.out.below hb)
        have S44 := Lib.hid (S31.out.below hb)
        have S45 := Lib.hid (S32.out.below hb)
        have S46 := Lib.hid (S33.out.below hb)
        have S47 := Lib.hid (S25.out.below hb)
        have S37 := Lib.hid hs
        have S38 := Lib.hid hs2
        clear hs hs2 hb
        go_wp2_with fail
        refine hK.out _ _ hs40 (fun _ => ?_)
        clear hK K
        try dsimp only [Act.put]
        try simp only [List.setIfInBounds_toArray, List.set_cons_zero, List.set_cons_succ]
        refine wpAnyH_take (i := 10) (oi := { dst := some 36, op := Op.move (Operand.tmp 46), type := 69, pos := "ratio.go:154", after := #[{ on := 9, ground := Ground.data }], guard := none }) (v := .tuple #[v35, v36]) rfl (by kernel_rfl) (by kernel_rfl) (by kernel_rfl) (fun _ _ _ h => h) (Or.inl ⟨by rfl, fun W hW => ?y48⟩) hs40 ?_
        case y48 => go_simp
        try dsimp only [Act.put]
        try simp only [List.setIfInBounds_toArray, List.set_cons_zero, List.set_cons_succ]
        refine wpAnyH_take (i := 11) (oi := { dst := some 47, op := Op.extract (Operand.tmp 36) 0, type := 22, pos := "ratio.go:154", after := #[{ on := 10, ground := Ground.data }], guard := none }) (v := v35) rfl (by kernel_rfl) (by kernel_rfl) (by kernel_rfl) (fun _ _ _ h => h) (Or.inl ⟨by rfl, fun W hW => ?y49⟩) hs40 ?_
        case y49 => go_simp
        try dsimp only [Act.put]
        try simp only [List.setIfInBounds_toArray, List.set_cons_zero, List.set_cons_succ]
        refine wpAnyH_take (i := 12) (oi := { dst := some 48, op := Op.extract (Operand.tmp 36) 1, type := 22, pos := "ratio.go:154", after := #[{ on := 10, ground := Ground.data }, { on := 13, ground := Ground.gcOnly Departure.lateStores }], guard := none }) (v := v36) rfl (by kernel_rfl) (by kernel_rfl) (by kernel_rfl) (fun _ _ _ h => h) (Or.inl ⟨by rfl, fun W hW => ?y50⟩) hs40 ?_
        case y50 => go_simp
        try dsimp only [Act.put]
        try simp only [List.setIfInBounds_toArray, List.set_cons_zero, List.set_cons_succ]
        refine wpAnyH_take (i := 13) (oi := { dst := some 10, op := Op.assign (Operand.tmp 47), type := 22, pos := "ratio.go:154", after := #[{ on := 11, ground := Ground.data }, { on := 9, ground := Ground.chain }, { on := 0, ground := Ground.phase }, { on := 1, ground := Ground.phase }, { on := 2, ground := Ground.phase }, { on := 3, ground := Ground.phase }, { on := 4, ground := Ground.phase }, { on := 5, ground := Ground.phase }, { on := 6, ground := Ground.phase }, { on := 7, ground := Ground.phase }, { on := 8, ground := Ground.phase }, { on := 9, ground := Ground.phase }, { on := 10, ground := Ground.phase }, { on := 11, ground := Ground.phase }, { on := 12, ground := Ground.textOnly Departure.lateStores }], guard := none }) (v := v35) rfl (by kernel_rfl) (by kernel_rfl) (by kernel_rfl) (fun _ _ _ h => h) (Or.inl ⟨by rfl, fun W hW => ?y51⟩) hs40 ?_
        case y51 => go_simp
        try dsimp only [Act.put]
        try simp only [List.setIfInBounds_toArray, List.set_cons_zero, List.set_cons_succ]
        refine wpAnyH_take (i := 14) (oi := { dst := some 9, op := Op.assign (Operand.tmp 48), type := 22, pos := "ratio.go:154", after := #[{ on := 12, ground := Ground.data }, { on := 13, ground := Ground.chain }, { on := 0, ground := Ground.phase }, { on := 1, ground := Ground.phase }, { on := 2, ground := Ground.phase }, { on := 3, ground := Ground.phase }, { on := 4, ground := Ground.phase }, { on := 5, ground := Ground.phase }, { on := 6, ground := Ground.phase }, { on := 7, ground := Ground.phase }, { on := 8, ground := Ground.phase }, { on := 9, ground := Ground.phase }, { on := 10, ground := Ground.phase }, { on := 11, ground := Ground.phase }, { on := 12, ground := Ground.phase }, { on := 13, ground := Ground.phase }], guard := none }) (v := v36) rfl (by kernel_rfl) (by kernel_rfl) (by kernel_rfl) (fun _ _ _ h => h) (Or.inl ⟨by rfl, fun W hW => ?y52⟩) hs40 ?_
        case y52 => go_simp
        try dsimp only [Act.put]
        try simp only [List.setIfInBounds_toArray, List.set_cons_zero, List.set_cons_succ]
        refine wpAnyH_done (by kernel_rfl) ?_ _
        try dsimp only [Act.put]
        try simp only [List.setIfInBounds_toArray, List.set_cons_zero, List.set_cons_succ]
        have HW1 := Lib.hid (times_sl S41.out S37.out (by have := HB4.out; omega) (by have := HB4.out; omega))
        have HBF := B39; have SV := S38; have SU := S37
        go_wp2_with fail
        refine HW1.out.mono ?_
        rintro e w8 ⟨v8, rfl, s8, hb⟩
        have S8 := Lib.hid s8; have B8 := Lib.hid (below_step HBF.out hb); have SV8 := Lib.hid (SV.out.below hb); have SU8 := Lib.hid (SU.out.below hb)
        clear s8 hb
        have HW2 := Lib.hid (plus_sl S8.out SV8.out (by have := HB4.out; omega) (by have := HB4.out; omega))
        go_wp2_with fail
        refine HW2.out.mono ?_
        rintro e w9 ⟨v9, rfl, s9, hb⟩
        have S9 := Lib.hid s9; have B9 := Lib.hid (below_step B8.out hb); have SU9 := Lib.hid (SU8.out.below hb)
        clear s9 hb
        go_wp2_with fail
        go_ret2
        exact ⟨_, _, rfl, S9.out, SU9.out, B9.out⟩
end Go.Proofs.YtbfhilbagojdnaaGreat
namespace Go.Proofs.YtbfhilbagojdnaaGreat
open Go.RowKit Wr Go.Proofs.YtbfhilbagojdnaaGreat.Nm
set_option linter.unusedVariables false
set_option maxRecDepth 100000

def simR (a b : Rt) : Rt × Nat := if (cmpR a b).2 ≠ 0 then (noR, (cmpR a b).2) else if 0 < (cmpR a b).1 then (noR, 5) else
  madeR (betw (num a.1) (denN a.2) (num b.1) (denN b.2)).1 (betw (num a.1) (denN a.2) (num b.1) (denN b.2)).2
theorem sim_err {r s : Rt} (h : bothE r s ≠ 0) : simR r s = (noR, bothE r s) := by
  have e : cmpR r s = (0, bothE r s) := by unfold cmpR; rw [if_pos h]
  unfold simR; rw [e, if_pos h]
theorem sim_eq {x y x2 y2 : Nat} (va : Vr x y) (vb : Vr x2 y2) : simR (lim x, dl y) (lim x2, dl y2) = if x2 * y < x * y2 then (noR, 5) else madeR (betw x y x2 y2).1 (betw x y x2 y2).2 := by
  obtain ⟨h1, h2, h3, h4⟩ := op_eq va vb
  unfold simR; rw [cmp_eq va vb, if_neg (by simp)]
  simp only [h1, h2, h3, h4]
  by_cases h : x2 * y < x * y2
  · rw [if_pos h, if_pos (by unfold ord; rw [if_neg (by omega), if_neg (by omega)]; decide)]
  · rw [if_neg h, if_neg (by unfold ord; by_cases h5 : x * y2 < x2 * y <;> simp [h5]; omega)]
set_option maxHeartbeats 4000000 in
theorem simplest_any {v1 v2 u1 u2 : Value} {r s : Rt} {w : World} (hr : Rk w v1 v2 r) (hs : Rk w u1 u2 s) : Calls Tryz.prog 23 #[.agg #[v1, v2], .agg #[u1, u2]] w (RtP w (simR r s)) := by
  suffices hgen : ∀ Res, Hid (simR r s = Res) → Calls Tryz.prog 23 #[.agg #[v1, v2], .agg #[u1, u2]] w (RtP w Res) from hgen _ (Lib.hid rfl)
  intro Res HRR
  obtain ⟨A1, n1, k1, e1⟩ := sl_form hr.s1
  obtain ⟨A2, n2, k2, e2⟩ := sl_form hr.s2
  obtain ⟨A3, n3, k3, e3⟩ := sl_form hs.s1
  obtain ⟨A4, n4, k4, e4⟩ := sl_form hs.s2
  subst e1 e2 e3 e4
  have hb := boxes3 w (.slice A1 n1 k1) (.slice A2 n2 k2) (.slice A3 n3 k3) (.slice A4 n4 k4)
  have HC := Lib.hid (cmp_any (hr.below hb.2.2) (hs.below hb.2.2))
  have HB0 := Lib.hid hb.2.2; have HX0 := Lib.hid hb.1; have HR0 := Lib.hid hb.2.1
  have HR := Lib.hid hr; have HS := Lib.hid hs
  clear hr hs hb
  go_enter Tryz.func23, Tryz.ntmps23
  go_wp2_with fail
  refine HC.out.mono ?_
  rintro e w1 ⟨rfl, hb⟩
  have HX := Lib.hid (And.intro (HX0.out.1.below hb HX0.out.1.lt) (HX0.out.2.below hb HX0.out.2.lt)); have HB := Lib.hid (below_step HB0.out hb); have HRB := Lib.hid (HR0.out.below hb HR0.out.lt)
  clear hb HX0 HB0 HR0 HC
  by_cases hz : bothE r s = 0
  · obtain ⟨x, y, va, e1⟩ := vld_to HR.out.ok (both0 hz).1
    obtain ⟨x2, y2, vb, e2⟩ := vld_to HS.out.ok (both0 hz).2
    subst e1 e2
    rw [cmp_eq va vb]
    have hre := HRR.out
    rw [sim_eq va vb] at hre
    clear hz HRR
    by_cases hlt : x2 * y < x * y2
    · rw [if_pos hlt] at hre
      subst hre
      have ho : decide (0 < ord (x * y2) (x2 * y)) = true := by unfold ord; rw [if_neg (by omega), if_neg (by omega)]; decide
      clear hlt
      obtain ⟨hd1, hd2, hf3, hf4⟩ := blk_cells2 HRB.out
      go_wp2_with fail
      have hbk := (((HRB.out).put 0 (.slice none 0 0)).put 1 (.slice none 0 0))
      have hbl := (((HB.out).setCell (p := ⟨w.heap.size + 2, 0, none⟩) (by simp) (.slice none 0 0)).setCell (p := ⟨w.heap.size + 2, 1, none⟩) (by simp) (.slice none 0 0))
      refine bodyPost_ret (v := .tuple #[.agg #[(.slice none 0 0), (.slice none 0 0)], .int .i64 5]) ?_ rfl ⟨.agg #[(.slice none 0 0), (.slice none 0 0)], rfl, ⟨_, _, rfl, sl_res (Sl.nil _) HRB.out _ _ _ _ _ _, sl_res (Sl.nil _) HRB.out _ _ _ _ _ _⟩, hbl⟩
      have hr := run_loadVar_at (P := Tryz.prog) _ ⟨w.heap.size + 2, 0, none⟩ 27 [(.slice none 0 0), (.slice none 0 0)] _ hbk.at Tryz.underlying27 rfl size28
      simp [results, Tryz.results23, asAddr, hr]
    · rw [if_neg hlt] at hre
      subst hre
      have ho : decide (0 < ord (x * y2) (x2 * y)) = false := by unfold ord; by_cases h5 : x * y2 < x2 * y <;> simp [h5]; omega
      have ha1 : Sl w (.slice A1 n1 k1) (lim x) := HR.out.s1
      have ha2 : Sl w (.slice A2 n2 k2) (dl y) := HR.out.s2
      have hb1 : Sl w (.slice A3 n3 k3) (lim x2) := HS.out.s1
      have hb2 : Sl w (.slice A4 n4 k4) (dl y2) := HS.out.s2
      obtain ⟨la1, la2, la3⟩ := Vr.len va
      obtain ⟨lb1, lb2, lb3⟩ := Vr.len vb
      have hi : Itv x y x2 y2 := ⟨va.pos, vb.pos, Nat.le_of_not_lt hlt⟩
      have HDA := Lib.hid (fun W (h : Below w.heap.size w W) => denOf_sl (ha1.below h) (ha2.below h) va.pos (by omega))
      have HDB := Lib.hid (fun W (h : Below w.heap.size w W) => denOf_sl (hb1.below h) (hb2.below h) vb.pos (by omega))
      obtain ⟨hle1, hle2⟩ := betw_le hi
      have hpos := (betw_good _ x y x2 y2 (Nat.le_refl _) hi).1.1
      have lu := Nat.le_trans (lim_mono hle1) la1
      have lv := Nat.le_trans (lim_mono hle2) la2
      have HMD := Lib.hid (fun W (h : Below w.heap.size w W) (v1 : Value) (hv1 : Sl W v1 (lim (betw x y x2 y2).1)) (v2 : Value) (hv2 : Sl W v2 (lim (betw x y x2 y2).2)) => made_sl hv1 hv2 hpos (by omega) (by omega))
      have HRC := Lib.hid (fun W (h : Below w.heap.size w W) (hG : Blk W w1.heap.size 76 [.func (.func 70) #[] #[.pointer (some ⟨w1.heap.size, 0, none⟩)]]) (v2 : Value) (hv2 : Sl W v2 (lim y)) (v4 : Value) (hv4 : Sl W v4 (lim y2)) => betw_any w1.heap.size 64 (by omega) _ x y x2 y2 _ v2 _ v4 W (Nat.le_refl _) hi hG (ha1.below h) hv2 (hb1.below h) hv4 la1 la2 lb1 lb2)
      have hgne : Hid (w1.heap.size ≠ w.heap.size + 2) := Lib.hid (by have := HRB.out.lt; omega)
      clear ha1 ha2 hb1 hb2 la1 la2 la3 lb1 lb2 lb3 hi hle1 hle2 hpos lu lv va vb hlt HR HS
      have hW2 := Blk.new w1 76 [.func (.func 70) #[] #[.pointer (some ⟨w1.heap.size, 0, none⟩)]]
      have X2 := Lib.hid (And.intro (And.intro (HX.out.1.alloc (.cells #[.func (.func 70) #[] #[.pointer (some ⟨w1.heap.size, 0, none⟩)]] 76)) (HX.out.2.alloc (.cells #[.func (.func 70) #[] #[.pointer (some ⟨w1.heap.size, 0, none⟩)]] 76))) hW2)
      have B2 := Lib.hid (HB.out.alloc HB.out.size (.cells #[.func (.func 70) #[] #[.pointer (some ⟨w1.heap.size, 0, none⟩)]] 76))
      have R2 := Lib.hid (HRB.out.alloc (.cells #[.func (.func 70) #[] #[.pointer (some ⟨w1.heap.size, 0, none⟩)]] 76))
      clear hW2
      have hst := run_store Tryz.prog (w1.alloc (.cells #[.nilFunc] 76)) ⟨w1.heap.size, 0, none⟩ (.func (.func 70) #[] #[.pointer (some ⟨w1.heap.size, 0, none⟩)]) .plain rfl
      go_upto_region 8 with (fail)
      clear hst
      generalize w1.alloc (.cells #[.func (.func 70) #[] #[.pointer (some ⟨w1.heap.size, 0, none⟩)]] 76) = W2 at X2 B2 R2 ⊢
      generalize w1.heap.size = g at X2 HRC hgne ⊢
      refine wp_region_held (S := fun W => ((Blk W w.heap.size 27 [(.slice A1 n1 k1), (.slice A2 n2 k2)] ∧ Blk W (w.heap.size + 1) 27 [(.slice A3 n3 k3), (.slice A4 n4 k4)]) ∧ Blk W g 76 [.func (.func 70) #[] #[.pointer (some ⟨g, 0, none⟩)]])) (by kernel_rfl) ?_
      change wpAnyH _ _ _ _ _ _ _ _ (World.drew W2)
      have hs0 : ((Blk (World.drew W2) w.heap.size 27 [(.slice A1 n1 k1), (.slice A2 n2 k2)] ∧ Blk (World.drew W2) (w.heap.size + 1) 27 [(.slice A3 n3 k3), (.slice A4 n4 k4)]) ∧ Blk (World.drew W2) g 76 [.func (.func 70) #[] #[.pointer (some ⟨g, 0, none⟩)]]) := X2.out
      have BD : Hid (Below w.heap.size w (World.drew W2)) := Lib.hid (below_drewN B2.out 1)
      have RD : Hid (Blk (World.drew W2) (w.heap.size + 2) 27 [.slice none 0 0, .slice none 0 0]) := R2
      generalize World.drew W2 = Wd at hs0 BD RD ⊢
      refine wpAnyH_take (i := 0) (oi := { dst := some 23, op := Op.load 76 (Operand.tmp 8), type := 76, pos := "ratio.go:157", after := #[], guard := none }) (v := .func (.func 70) #[] #[.pointer (some ⟨g, 0, none⟩)]) rfl (by kernel_rfl) (by kernel_rfl) (by kernel_rfl) (fun _ _ _ h => h) (Or.inl ⟨by rfl, fun W hW => by have hcl : W.cell? ⟨g, 0, none⟩ = some (.func (.func 70) #[] #[.pointer (some ⟨g, 0, none⟩)]) := (Blk.cell hW.2 0).trans rfl; go_simp⟩) hs0 ?_
      try dsimp only [Act.put]
      try simp only [List.setIfInBounds_toArray, List.set_cons_zero, List.set_cons_succ]
      refine wpAnyH_take (i := 1) (oi := { dst := some 24, op := Op.fieldAddr 27 (Operand.tmp 2) 0, type := 0, pos := "ratio.go:157", after := #[], guard := none }) (v := .pointer (some ⟨w.heap.size, 0, none⟩)) rfl (by kernel_rfl) (by kernel_rfl) (by kernel_rfl) (fun _ _ _ h => h) (Or.inl ⟨by rfl, fun W hW => ?y2⟩) hs0 ?_
      case y2 => go_simp
      try dsimp only [Act.put]
      try simp only [List.setIfInBounds_toArray, List.set_cons_zero, List.set_cons_succ]
      refine wpAnyH_take (i := 2) (oi := { dst := some 25, op := Op.load 22 (Operand.tmp 24), type := 22, pos := "ratio.go:157", after := #[{ on := 1, ground := Ground.data }], guard := none }) (v := (.slice A1 n1 k1)) rfl (by kernel_rfl) (by kernel_rfl) (by kernel_rfl) (fun _ _ _ h => h) (Or.inl ⟨by rfl, fun W hW => by have hcl : W.cell? ⟨w.heap.size, 0, none⟩ = some (.slice A1 n1 k1) := (Blk.cell hW.1.1 0).trans rfl; go_simp⟩) hs0 ?_
      try dsimp only [Act.put]
      try simp only [List.setIfInBounds_toArray, List.set_cons_zero, List.set_cons_succ]
      refine wpAnyH_take (i := 3) (oi := { dst := some 26, op := Op.load 27 (Operand.tmp 2), type := 27, pos := "ratio.go:157", after := #[], guard := none }) (v := .agg #[(.slice A1 n1 k1), (.slice A2 n2 k2)]) rfl (by kernel_rfl) (by kernel_rfl) (by kernel_rfl) (fun _ _ _ h => h) (Or.inl ⟨by rfl, fun W hW => by obtain ⟨hc1, hc2, _, _⟩ := blk_cells2 hW.1.1; go_simp⟩) hs0 ?_
      try dsimp only [Act.put]
      try simp only [List.setIfInBounds_toArray, List.set_cons_zero, List.set_cons_succ]
      refine wpAnyH_take (i := 5) (oi := { dst := some 28, op := Op.fieldAddr 27 (Operand.tmp 3) 0, type := 0, pos := "ratio.go:157", after := #[], guard := none }) (v := .pointer (some ⟨(w.heap.size + 1), 0, none⟩)) rfl (by kernel_rfl) (by kernel_rfl) (by kernel_rfl) (fun _ _ _ h => h) (Or.inl ⟨by rfl, fun W hW => ?y5⟩) hs0 ?_
      case y5 => go_simp
      try dsimp only [Act.put]
      try simp only [List.setIfInBounds_toArray, List.set_cons_zero, List.set_cons_succ]
      refine wpAnyH_take (i := 6) (oi := { dst := some 29, op := Op.load 22 (Operand.tmp 28), type := 22, pos := "ratio.go:157", after := #[{ on := 5, ground := Ground.data }], guard := none }) (v := (.slice A3 n3 k3)) rfl (by kernel_rfl) (by kernel_rfl) (by kernel_rfl) (fun _ _ _ h => h) (Or.inl ⟨by rfl, fun W hW => by have hcl : W.cell? ⟨(w.heap.size + 1), 0, none⟩ = some (.slice A3 n3 k3) := (Blk.cell hW.1.2 0).trans rfl; go_simp⟩) hs0 ?_
      try dsimp only [Act.put]
      try simp only [List.setIfInBounds_toArray, List.set_cons_zero, List.set_cons_succ]
      refine wpAnyH_take (i := 7) (oi := { dst := some 30, op := Op.load 27 (Operand.tmp 3), type := 27, pos := "ratio.go:157", after := #[], guard := none }) (v := .agg #[(.slice A3 n3 k3), (.slice A4 n4 k4)]) rfl (by kernel_rfl) (by kernel_rfl) (by kernel_rfl) (fun _ _ _ h => h) (Or.inl ⟨by rfl, fun W hW => by obtain ⟨hc1, hc2, _, _⟩ := blk_cells2 hW.1.2; go_simp⟩) hs0 ?_
      try dsimp only [Act.put]
      try simp only [List.setIfInBounds_toArray, List.set_cons_zero, List.set_cons_succ]
      refine wpAnyH_ready (rs := [4]) (by kernel_rfl) (by simp) ?_
      refine AllReadyH.cons (o := { dst := some 27, op := Op.call { callee := Callee.value (Operand.func 47), args := #[Operand.tmp 26], argTypes := #[27] }, type := 22, pos := "ratio.go:157", after := #[{ on := 3, ground := Ground.data }], guard := none }) rfl (fun K hK => ?_) AllReadyH.nil
      rw [if_pos (by rfl)]
      go_simp
      refine (HDA.out _ BD.out ).mono ?_; rintro e w8 ⟨v9, rfl, hs, hb⟩
      have B11 := Lib.hid (below_step BD.out hb)
      have hs12 := And.intro (And.intro (hs0.1.1.below hb hs0.1.1.lt) (hs0.1.2.below hb hs0.1.2.lt)) (hs0.2.below hb hs0.2.lt)
      have R13 := Lib.hid (RD.out.below hb RD.out.lt)
      have S10 := Lib.hid hs
      clear hs hb
      go_wp2_with fail
      refine hK.out _ _ hs12 (fun _ => ?_)
      clear hK K
      try dsimp only [Act.put]
      try simp only [List.setIfInBounds_toArray, List.set_cons_zero, List.set_cons_succ]
      refine wpAnyH_ready (rs := [8]) (by kernel_rfl) (by simp) ?_
      refine AllReadyH.cons (o := { dst := some 31, op := Op.call { callee := Callee.value (Operand.func 47), args := #[Operand.tmp 30], argTypes := #[27] }, type := 22, pos := "ratio.go:157", after := #[{ on := 7, ground := Ground.data }, { on := 4, ground := Ground.chain }], guard := none }) rfl (fun K hK => ?_) AllReadyH.nil
      rw [if_pos (by rfl)]
      go_simp
      refine (HDB.out _ B11.out ).mono ?_; rintro e w14 ⟨v15, rfl, hs, hb⟩
      have B17 := Lib.hid (below_step B11.out hb)
      have hs18 := And.intro (And.intro (hs12.1.1.below hb hs12.1.1.lt) (hs12.1.2.below hb hs12.1.2.lt)) (hs12.2.below hb hs12.2.lt)
      have R19 := Lib.hid (R13.out.below hb R13.out.lt)
      have S20 := Lib.hid (S10.out.below hb)
      have S16 := Lib.hid hs
      clear hs hb
      go_wp2_with fail
      refine hK.out _ _ hs18 (fun _ => ?_)
      clear hK K
      try dsimp only [Act.put]
      try simp only [List.setIfInBounds_toArray, List.set_cons_zero, List.set_cons_succ]
      refine wpAnyH_ready (rs := [9]) (by kernel_rfl) (by simp) ?_
      refine AllReadyH.cons (o := { dst := some 32, op := Op.call { callee := Callee.value (Operand.tmp 23), args := #[Operand.tmp 25, Operand.tmp 27, Operand.tmp 29, Operand.tmp 31], argTypes := #[22, 22, 22, 22] }, type := 69, pos := "ratio.go:157", after := #[{ on := 0, ground := Ground.data }, { on := 2, ground := Ground.data }, { on := 4, ground := Ground.data }, { on := 6, ground := Ground.data }, { on := 8, ground := Ground.data }, { on := 8, ground := Ground.chain }], guard := none }) rfl (fun K hK => ?_) AllReadyH.nil
      rw [if_pos (by rfl)]
      go_simp
      refine (HRC.out _ B17.out hs18.2 _ S20.out _ S16.out).mono ?_; rintro e w21 ⟨v22, v23, rfl, hs, hs2, hb⟩
      have B26 := Lib.hid (below_step B17.out hb)
      have hs27 := And.intro (And.intro (hs18.1.1.below hb hs18.1.1.lt) (hs18.1.2.below hb hs18.1.2.lt)) (hs18.2.below hb hs18.2.lt)
      have R28 := Lib.hid (R19.out.below hb R19.out.lt)
      have S29 := Lib.hid (S20.out.below hb)
      have S30 := Lib.hid (S16.out.below hb)
      have S24 := Lib.hid hs
      have S25 := Lib.hid hs2
      clear hs hs2 hb
      go_wp2_with fail
      refine hK.out _ _ hs27 (fun _ => ?_)
      clear hK K
      try dsimp only [Act.put]
      try simp only [List.setIfInBounds_toArray, List.set_cons_zero, List.set_cons_succ]
      refine wpAnyH_take (i := 10) (oi := { dst := some 33, op := Op.extract (Operand.tmp 32) 0, type := 22, pos := "ratio.go:157", after := #[{ on := 9, ground := Ground.data }], guard := none }) (v := v22) rfl (by kernel_rfl) (by kernel_rfl) (by kernel_rfl) (fun _ _ _ h => h) (Or.inl ⟨by rfl, fun W hW => ?y31⟩) hs27 ?_
      case y31 => go_simp
      try dsimp only [Act.put]
      try simp only [List.setIfInBounds_toArray, List.set_cons_zero, List.set_cons_succ]
      refine wpAnyH_take (i := 11) (oi := { dst := some 34, op := Op.extract (Operand.tmp 32) 1, type := 22, pos := "ratio.go:157", after := #[{ on := 9, ground := Ground.data }], guard := none }) (v := v23) rfl (by kernel_rfl) (by kernel_rfl) (by kernel_rfl) (fun _ _ _ h => h) (Or.inl ⟨by rfl, fun W hW => ?y32⟩) hs27 ?_
      case y32 => go_simp
      try dsimp only [Act.put]
      try simp only [List.setIfInBounds_toArray, List.set_cons_zero, List.set_cons_succ]
      refine wpAnyH_ready (rs := [12]) (by kernel_rfl) (by simp) ?_
      refine AllReadyH.cons (o := { dst := some 35, op := Op.call { callee := Callee.value (Operand.func 73), args := #[Operand.tmp 33, Operand.tmp 34], argTypes := #[22, 22] }, type := 31, pos := "ratio.go:157", after := #[{ on := 10, ground := Ground.data }, { on := 11, ground := Ground.data }, { on := 9, ground := Ground.chain }], guard := none }) rfl (fun K hK => ?_) AllReadyH.nil
      rw [if_pos (by rfl)]
      go_simp
      refine (HMD.out _ B26.out _ S24.out _ S25.out).mono ?_; rintro e w33 ⟨q34, rfl, ⟨u1, u2, rfl, s1, s2⟩, hb⟩
      have B37 := Lib.hid (below_step B26.out hb)
      have hs38 := And.intro (And.intro (hs27.1.1.below hb hs27.1.1.lt) (hs27.1.2.below hb hs27.1.2.lt)) (hs27.2.below hb hs27.2.lt)
      have R39 := Lib.hid (R28.out.below hb R28.out.lt)
      have S40 := Lib.hid (S29.out.below hb)
      have S41 := Lib.hid (S30.out.below hb)
      have S42 := Lib.hid (S24.out.below hb)
      have S43 := Lib.hid (S25.out.below hb)
      have S35 := Lib.hid s1
      have S36 := Lib.hid s2
      obtain ⟨C1, m1, j1, e1⟩ := sl_form s1
      obtain ⟨C2, m2, j2, e2⟩ := sl_form s2
      clear s1 s2 hb
      subst e1 e2
      go_wp2_with fail
      refine hK.out _ _ hs38 (fun _ => ?_)
      clear hK K
      try dsimp only [Act.put]
      try simp only [List.setIfInBounds_toArray, List.set_cons_zero, List.set_cons_succ]
      refine wpAnyH_take (i := 13) (oi := { dst := some 36, op := Op.extract (Operand.tmp 35) 0, type := 27, pos := "ratio.go:157", after := #[{ on := 12, ground := Ground.data }], guard := none }) (v := .agg #[.slice C1 m1 j1, .slice C2 m2 j2]) rfl (by kernel_rfl) (by kernel_rfl) (by kernel_rfl) (fun _ _ _ h => h) (Or.inl ⟨by rfl, fun W hW => ?y44⟩) hs38 ?_
      case y44 => go_simp
      try dsimp only [Act.put]
      try simp only [List.setIfInBounds_toArray, List.set_cons_zero, List.set_cons_succ]
      refine wpAnyH_take (i := 14) (oi := { dst := some 37, op := Op.extract (Operand.tmp 35) 1, type := 28, pos := "ratio.go:157", after := #[{ on := 12, ground := Ground.data }], guard := none }) (v := .int .i64 (((madeR (betw x y x2 y2).1 (betw x y x2 y2).2).2 : Nat) : Int)) rfl (by kernel_rfl) (by kernel_rfl) (by kernel_rfl) (fun _ _ _ h => h) (Or.inl ⟨by rfl, fun W hW => ?y45⟩) hs38 ?_
      case y45 => go_simp
      try dsimp only [Act.put]
      try simp only [List.setIfInBounds_toArray, List.set_cons_zero, List.set_cons_succ]
      refine wpAnyH_ready (rs := [15]) (by kernel_rfl) (by simp) ?_
      refine AllReadyH.cons (o := { dst := none, op := Op.store 27 (Operand.tmp 4) (Operand.tmp 36), type := 0, pos := "ratio.go:157", after := #[{ on := 13, ground := Ground.data }, { on := 12, ground := Ground.chain }, { on := 0, ground := Ground.phase }, { on := 1, ground := Ground.phase }, { on := 2, ground := Ground.phase }, { on := 3, ground := Ground.phase }, { on := 4, ground := Ground.phase }, { on := 5, ground := Ground.phase }, { on := 6, ground := Ground.phase }, { on := 7, ground := Ground.phase }, { on := 8, ground := Ground.phase }, { on := 9, ground := Ground.phase }, { on := 10, ground := Ground.phase }, { on := 11, ground := Ground.phase }, { on := 12, ground := Ground.phase }, { on := 13, ground := Ground.phase }, { on := 14, ground := Ground.phase }], guard := none }) rfl (fun K hK => ?_) AllReadyH.nil
      rw [if_pos (by rfl)]
      obtain ⟨hc1, hc2, hf1, hf2⟩ := blk_cells2 R39.out
      go_simp
      refine hK.out _ _ (And.intro (And.intro ((hs38.1.1.far (p := ⟨w.heap.size + 2, 0, none⟩) (by simp) _).far (p := ⟨w.heap.size + 2, 1, none⟩) (by simp) _) ((hs38.1.2.far (p := ⟨w.heap.size + 2, 0, none⟩) (by simp) _).far (p := ⟨w.heap.size + 2, 1, none⟩) (by simp) _)) ((hs38.2.far (p := ⟨w.heap.size + 2, 0, none⟩) hgne.out _).far (p := ⟨w.heap.size + 2, 1, none⟩) hgne.out _)) (fun _ => ?_)
      clear hK K
      try dsimp only [Act.put]
      try simp only [List.setIfInBounds_toArray, List.set_cons_zero, List.set_cons_succ]
      refine wpAnyH_take (i := 16) (oi := { dst := some 5, op := Op.assign (Operand.tmp 37), type := 28, pos := "ratio.go:157", after := #[{ on := 14, ground := Ground.data }, { on := 15, ground := Ground.chain }, { on := 0, ground := Ground.phase }, { on := 1, ground := Ground.phase }, { on := 2, ground := Ground.phase }, { on := 3, ground := Ground.phase }, { on := 4, ground := Ground.phase }, { on := 5, ground := Ground.phase }, { on := 6, ground := Ground.phase }, { on := 7, ground := Ground.phase }, { on := 8, ground := Ground.phase }, { on := 9, ground := Ground.phase }, { on := 10, ground := Ground.phase }, { on := 11, ground := Ground.phase }, { on := 12, ground := Ground.phase }, { on := 13, ground := Ground.phase }, { on := 14, ground := Ground.phase }, { on := 15, ground := Ground.phase }], guard := none }) (v := .int .i64 (((madeR (betw x y x2 y2).1 (betw x y x2 y2).2).2 : Nat) : Int)) rfl (by kernel_rfl) (by kernel_rfl) (by kernel_rfl) (fun _ _ _ h => h) (Or.inl ⟨by rfl, fun W hW => ?y46⟩) (And.intro (And.intro ((hs38.1.1.far (p := ⟨w.heap.size + 2, 0, none⟩) (by simp) _).far (p := ⟨w.heap.size + 2, 1, none⟩) (by simp) _) ((hs38.1.2.far (p := ⟨w.heap.size + 2, 0, none⟩) (by simp) _).far (p := ⟨w.heap.size + 2, 1, none⟩) (by simp) _)) ((hs38.2.far (p := ⟨w.heap.size + 2, 0, none⟩) hgne.out _).far (p := ⟨w.heap.size + 2, 1, none⟩) hgne.out _)) ?_
      case y46 => go_simp
      try dsimp only [Act.put]
      try simp only [List.setIfInBounds_toArray, List.set_cons_zero, List.set_cons_succ]
      refine wpAnyH_done (by kernel_rfl) ?_ _
      try dsimp only [Act.put]
      try simp only [List.setIfInBounds_toArray, List.set_cons_zero, List.set_cons_succ]
      go_wp2_with fail
      have hbk := (((R39.out).put 0 (.slice C1 m1 j1)).put 1 (.slice C2 m2 j2))
      have hbl := (((B37.out).setCell (p := ⟨w.heap.size + 2, 0, none⟩) (by simp) (.slice C1 m1 j1)).setCell (p := ⟨w.heap.size + 2, 1, none⟩) (by simp) (.slice C2 m2 j2))
      refine bodyPost_ret (v := .tuple #[.agg #[(.slice C1 m1 j1), (.slice C2 m2 j2)], .int .i64 (((madeR (betw x y x2 y2).1 (betw x y x2 y2).2).2 : Nat) : Int)]) ?_ rfl ⟨.agg #[(.slice C1 m1 j1), (.slice C2 m2 j2)], rfl, ⟨_, _, rfl, sl_res S35.out R39.out _ _ _ _ _ _, sl_res S36.out R39.out _ _ _ _ _ _⟩, hbl⟩
      have hr := run_loadVar_at (P := Tryz.prog) _ ⟨w.heap.size + 2, 0, none⟩ 27 [(.slice C1 m1 j1), (.slice C2 m2 j2)] _ hbk.at Tryz.underlying27 rfl size28
      simp [results, Tryz.results23, asAddr, hr]
  · have hne : (((bothE r s : Nat) : Int) != 0) = true := by rw [bne_iff_ne]; omega
    have hre := HRR.out
    rw [sim_err hz] at hre
    subst hre
    rw [show cmpR r s = (0, bothE r s) by unfold cmpR; rw [if_pos hz]]
    generalize bothE r s = E at *
    clear hz HRR
    obtain ⟨hd1, hd2, hf3, hf4⟩ := blk_cells2 HRB.out
    go_wp2_with fail
    have hbk := (((HRB.out).put 0 (.slice none 0 0)).put 1 (.slice none 0 0))
    have hbl := (((HB.out).setCell (p := ⟨w.heap.size + 2, 0, none⟩) (by simp) (.slice none 0 0)).setCell (p := ⟨w.heap.size + 2, 1, none⟩) (by simp) (.slice none 0 0))
    refine bodyPost_ret (v := .tuple #[.agg #[(.slice none 0 0), (.slice none 0 0)], .int .i64 ((E : Nat) : Int)]) ?_ rfl ⟨.agg #[(.slice none 0 0), (.slice none 0 0)], rfl, ⟨_, _, rfl, sl_res (Sl.nil _) HRB.out _ _ _ _ _ _, sl_res (Sl.nil _) HRB.out _ _ _ _ _ _⟩, hbl⟩
    have hr := run_loadVar_at (P := Tryz.prog) _ ⟨w.heap.size + 2, 0, none⟩ 27 [(.slice none 0 0), (.slice none 0 0)] _ hbk.at Tryz.underlying27 rfl size28
    simp [results, Tryz.results23, asAddr, hr]
end Go.Proofs.YtbfhilbagojdnaaGreat
namespace Go.Proofs.YtbfhilbagojdnaaGreat
open Go.RowKit Wr Go.Proofs.YtbfhilbagojdnaaGreat.Nm
set_option linter.unusedVariables false
set_option maxRecDepth 100000

/-- The cells of a row of ratios. -/
def flat : List (Value × Value) → List Value
  | [] => []
  | p :: l => p.1 :: p.2 :: flat l
theorem flat_len : ∀ l : List (Value × Value), (flat l).length = 2 * l.length
  | [] => rfl
  | p :: l => by simp only [flat, List.length_cons, flat_len l]; omega
theorem flat_at : ∀ (l : List (Value × Value)) (i : Nat) (p : Value × Value), l[i]? = some p → (flat l)[i * 2]? = some p.1 ∧ (flat l)[i * 2 + 1]? = some p.2
  | [], i, p, h => by simp at h
  | q :: l, 0, p, h => by
    simp only [List.getElem?_cons_zero, Option.some.injEq] at h
    subst h; exact ⟨rfl, rfl⟩
  | q :: l, i + 1, p, h => by
    simp only [List.getElem?_cons_succ] at h
    have := flat_at l i p h
    simp only [flat, show (i + 1) * 2 = i * 2 + 1 + 1 by omega, List.getElem?_cons_succ]
    exact this
/-- A slice that reads as a list of ratios. -/
def Rls (w : World) (v : Value) (L : List Rt) : Prop := ∃ A c vs, v = .slice A L.length c ∧ L.length ≤ c ∧ (A = none → c = 0) ∧ Rd w w.heap.size A (flat vs) ∧ vs.length = L.length ∧ ∀ (i : Nat) r, L[i]? = some r → ∃ p, vs[i]? = some p ∧ Rk w p.1 p.2 r
theorem Rls.below {w w' : World} {v : Value} {L : List Rt} (h : Rls w v L) (hb : Below w.heap.size w w') : Rls w' v L := by
  obtain ⟨A, c, vs, e, hc, hn, hr, hl, hk⟩ := h
  exact ⟨A, c, vs, e, hc, hn, (hr.below hb).more hb.size, hl, fun i r hi => by
    obtain ⟨p, h1, h2⟩ := hk i r hi
    exact ⟨p, h1, h2.below hb⟩⟩
def sumG : Nat → Nat → List Rt → Rt × Nat
  | x, y, [] => ((lim x, dl y), 0)
  | x, y, r :: L => if vld r ≠ 0 then (noR, vld r) else
    if (lowR (x * denN r.2 + num r.1 * y) (y * denN r.2)).2 ≠ 0 then (noR, (lowR (x * denN r.2 + num r.1 * y) (y * denN r.2)).2)
    else sumG (num (lowR (x * denN r.2 + num r.1 * y) (y * denN r.2)).1.1) (denN (lowR (x * denN r.2 + num r.1 * y) (y * denN r.2)).1.2) L
def sumR (L : List Rt) : Rt × Nat := sumG 0 1 L
theorem vr_zero : Vr 0 1 := ⟨by omega, by simp, Nat.pow_pos (by omega), Nat.one_lt_pow (by omega) (by omega)⟩
theorem low_vr {x y : Nat} (hy : 0 < y) (h : (lowR x y).2 = 0) : ∃ a b, Vr a b ∧ (lowR x y).1 = (lim a, dl b) := by
  obtain ⟨h1, h2⟩ := low_co x y hy
  have hv := made_vr h1 h2 h
  refine ⟨_, _, hv, ?_⟩
  unfold lowR madeR
  rw [if_pos ⟨hv.hx, hv.hy⟩]
end Go.Proofs.YtbfhilbagojdnaaGreat
namespace Go.Proofs.YtbfhilbagojdnaaGreat
open Go.RowKit Wr Go.Proofs.YtbfhilbagojdnaaGreat.Nm
set_option linter.unusedVariables false
set_option maxRecDepth 100000

theorem take_eq_step {a b : List Nat} (j : Nat) (hja : j < a.length) (hjb : j < b.length) (h : a.take j = b.take j) (he : a[j] = b[j]) : a.take (j + 1) = b.take (j + 1) := by
  rw [List.take_succ_eq_append_getElem hja, List.take_succ_eq_append_getElem hjb, h, he]
theorem equal_false (A A2 : Option Addr) (n n2 c c2 : Nat) (w : World) (h : n ≠ n2) : Calls Tryz.prog 79 #[.slice A n c, .slice A2 n2 c2] w fun e w' => e = .returned (.bool false) ∧ ∃ q, w' = w.drewN q := by
  have hne : ((n : Int) != (n2 : Int)) = true := by rw [bne_iff_ne]; omega
  go_enter Tryz.func79, Tryz.ntmps79
  go_wp2
  go_ret
  exact ⟨rfl, 0, rfl⟩
set_option maxHeartbeats 2000000 in
theorem equal_any {v1 v2 : Value} {a b : List Nat} {w : World} (h1 : Sl w v1 a) (h2 : Sl w v2 b) (hl : a.length ≤ 1000000) : Calls Tryz.prog 79 #[v1, v2] w fun e w' => e = .returned (.bool (decide (a = b))) ∧ ∃ q, w' = w.drewN q := by
  obtain ⟨A, c, rfl, hc, hn, hr⟩ := h1
  obtain ⟨A2, c2, rfl, hc2, hn2, hr2⟩ := h2
  by_cases hab : a.length = b.length
  · obtain ⟨N, hN⟩ : ∃ n, n = b.length := ⟨_, rfl⟩
    obtain ⟨res, hres⟩ : ∃ r, r = decide (a = b) := ⟨_, rfl⟩
    rw [← hres]
    have HRE := Lib.hid hres
    have HA := Lib.hid (show a.length = N by omega)
    have HN := Lib.hid hN
    rw [HA.out, ← HN.out]
    have hNI : (N : Int) ≤ 1000000 := by omega
    clear hN hab hl hc hc2 hn hn2 hres
    go_enter Tryz.func79, Tryz.ntmps79
    go_wp2
    go_loopw [13] (fun s wr => ∃ k q : Nat, k ≤ N ∧ s = .int .i64 (k : Int) ∧ a.take k = b.take k ∧ w.drewN q = wr) (fun s _ => N - (intOf s).toNat)
    case atStart => exact ⟨0, 0, Nat.zero_le _, rfl, rfl, rfl⟩
    case round =>
      obtain ⟨j, q, hk, rfl, ht, rfl⟩ := hrel
      have HT := Lib.hid ht
      clear ht
      rcases Nat.lt_or_ge j N with hlt | hge
      · have hja : j < a.length := by have := HA.out; omega
        have hjb : j < b.length := by have := HN.out; omega
        obtain ⟨g, o, rfl, hg, hc1⟩ := limb_cell hr j hja
        obtain ⟨g2, o2, rfl, hg2, hc2⟩ := limb_cell hr2 j hjb
        have i1 : (j : Int) < (N : Int) := by omega
        by_cases he : a[j] = b[j]
        · have hne : (((a[j] : Nat) : Int) != ((b[j] : Nat) : Int)) = false := by rw [he]; simp
          have HE := Lib.hid (take_eq_step j hja hjb HT.out he)
          generalize a[j] = x at *
          generalize b[j] = y at *
          clear he hr hr2
          go_wp2
          go_quiet (fail)
          go_wp2
          go_roundw
          case rel => exact ⟨j + 1, _, by omega, by go_num, HE.out, rfl⟩
          case measure => simp only [intOf]; omega
        · have hne : (((a[j] : Nat) : Int) != ((b[j] : Nat) : Int)) = true := by rw [bne_iff_ne]; omega
          have HF := Lib.hid (show res = false by rw [HRE.out]; exact decide_eq_false (by rintro rfl; exact he rfl))
          generalize a[j] = x at *
          generalize b[j] = y at *
          clear he hr hr2
          go_wp2
          go_quiet (fail)
          go_wp2
          go_ret
          exact ⟨by rw [HF.out]; rfl, _, World.drewN_drewN _ _ _⟩
      · have hjN : j = N := by omega
        subst hjN
        have HF := Lib.hid (show res = true by
          rw [HRE.out]
          have h := HT.out
          rw [List.take_of_length_le (by rw [HA.out]; exact Nat.le_refl _), List.take_of_length_le (by rw [← HN.out]; exact Nat.le_refl _)] at h
          exact decide_eq_true h)
        clear hr hr2 hk hge
        go_wp2
        go_ret
        exact ⟨by rw [HF.out]; rfl, q, rfl⟩
  · rw [decide_eq_false (by intro e; exact hab (by rw [e]))]
    exact equal_false A A2 _ _ c c2 w hab
theorem boxesL (w : World) (a1 a2 b1 b2 : Value) : (Blk ((w.alloc (.cells #[a1, a2] 27)).alloc (.cells #[b1, b2] 27)) w.heap.size 27 [a1, a2] ∧ Blk ((w.alloc (.cells #[a1, a2] 27)).alloc (.cells #[b1, b2] 27)) (w.heap.size + 1) 27 [b1, b2]) ∧ Below w.heap.size w ((w.alloc (.cells #[a1, a2] 27)).alloc (.cells #[b1, b2] 27)) :=
  ⟨⟨(boxes2 w a1 a2 b1 b2).1, (boxes2 w a1 a2 b1 b2).2.1⟩, (boxes2 w a1 a2 b1 b2).2.2⟩
def SmP (w : World) (b : Bool) (e : Ending) (w' : World) : Prop := e = .returned (.bool b) ∧ Below w.heap.size w w'
set_option maxHeartbeats 2000000 in
theorem same_any {v1 v2 u1 u2 : Value} {r s : Rt} {w : World} (hr : Rk w v1 v2 r) (hs : Rk w u1 u2 s) : Calls Tryz.prog 31 #[.agg #[v1, v2], .agg #[u1, u2]] w (SmP w (decide (r = s))) := by
  obtain ⟨A1, n1, k1, e1⟩ := sl_form hr.s1
  obtain ⟨A2, n2, k2, e2⟩ := sl_form hr.s2
  obtain ⟨A3, n3, k3, e3⟩ := sl_form hs.s1
  obtain ⟨A4, n4, k4, e4⟩ := sl_form hs.s2
  subst e1 e2 e3 e4
  have hb := boxesL w (.slice A1 n1 k1) (.slice A2 n2 k2) (.slice A3 n3 k3) (.slice A4 n4 k4)
  obtain ⟨b1, hb1⟩ : ∃ b, b = decide (r.1 = s.1) := ⟨_, rfl⟩
  obtain ⟨b2, hb2⟩ : ∃ b, b = decide (r.2 = s.2) := ⟨_, rfl⟩
  have hl1 := hr.l1; have hl2 := hr.l2
  have HE1 := Lib.hid (fun W (h : Below w.heap.size w W) => equal_any (hr.s1.below h) (hs.s1.below h) (by omega))
  have HE2 := Lib.hid (fun W (h : Below w.heap.size w W) => equal_any (hr.s2.below h) (hs.s2.below h) (by omega))
  rw [← hb1] at HE1
  rw [← hb2] at HE2
  have HR := Lib.hid (show decide (r = s) = (b1 && b2) by
    rw [hb1, hb2, Bool.eq_iff_iff]
    simp only [decide_eq_true_eq, Bool.and_eq_true]
    exact ⟨fun e => by rw [e]; exact ⟨rfl, rfl⟩, fun e => Prod.ext e.1 e.2⟩)
  have HX := Lib.hid hb.1; have HB := Lib.hid hb.2
  obtain ⟨hc1, hc2, hf1, hf2⟩ := blk_cells2 hb.1.1
  obtain ⟨hc3, hc4, hf3, hf4⟩ := blk_cells2 hb.1.2
  clear hr hs hb hb1 hb2 hl1 hl2
  go_enter Tryz.func31, Tryz.ntmps31
  go_wp2_with fail
  refine (HE1.out _ HB.out).mono ?_
  rintro e w1 ⟨rfl, q, rfl⟩
  have HB1 := Lib.hid (below_drewN HB.out q)
  cases b1 with
  | false =>
    go_wp2_with fail
    go_ret
    exact ⟨by rw [HR.out]; rfl, HB1.out⟩
  | true =>
    go_wp2_with fail
    refine (HE2.out _ HB1.out).mono ?_
    rintro e w2 ⟨rfl, q2, rfl⟩
    have HB2 := Lib.hid (below_drewN HB1.out q2)
    go_wp2_with fail
    go_ret
    exact ⟨by rw [HR.out, Bool.true_and]; rfl, by have h := HB2.out; rwa [World.drewN_drewN] at h⟩
end Go.Proofs.YtbfhilbagojdnaaGreat
namespace Go.Proofs.YtbfhilbagojdnaaGreat
open Go.RowKit Wr Go.Proofs.YtbfhilbagojdnaaGreat.Nm
set_option linter.unusedVariables false
set_option maxRecDepth 100000
theorem byLimb_sl {v : Value} {x : Nat} {w : World} (h : Sl w v (lim x)) (hl : (lim x).length ≤ 1000) : Calls Tryz.prog 109 #[v, .int .u32 1000000000] w fun e w' => ∃ v, e = .returned (.tuple #[v, .int .u32 ((x % 1000000000 : Nat) : Int)]) ∧ Sl w' v (lim (x / 1000000000)) ∧ Below w.heap.size w w' := by
  obtain ⟨A, c, rfl, hc, hn, hr⟩ := h
  have h := byLimb_any A c (lim x) 1000000000 w (lim_ok x) (by omega) hr (by omega) (by omega)
  unfold ByP at h
  rw [num_lim] at h
  exact h
set_option maxHeartbeats 1000000 in
theorem dec_zero {v : Value} {w : World} (h : Sl w v (lim 0)) : Calls Tryz.prog 75 #[v] w fun e w' => e = .returned (.string ⟨#[48]⟩) ∧ w = w' := by
  obtain ⟨A, n, c, rfl⟩ := sl_form h
  have hn := sl_len h
  rw [lim_zero] at hn
  subst hn
  clear h
  go_enter Tryz.func75, Tryz.ntmps75
  go_wp2
  go_ret
  exact ⟨rfl, rfl⟩
/-- The cells of the digits that have been written. -/
def Bv (t : List UInt8) : List Value := t.map (fun b => .int .u8 (b.toNat : Int))
def Dgt (t : List UInt8) : List Value := List.replicate (617 - t.length) (.int .u8 0) ++ Bv t
theorem Bv_len (t : List UInt8) : (Bv t).length = t.length := by simp [Bv]
theorem Dgt_len (t : List UInt8) (h : t.length ≤ 617) : (Dgt t).length = 617 := by simp [Dgt, Bv_len]; omega
theorem rep_put (n : Nat) (v z : Value) (l : List Value) : (List.replicate (n + 1) z ++ l).set n v = List.replicate n z ++ v :: l := by
  rw [List.replicate_succ', List.append_assoc, List.set_append_right _ _ (by simp)]
  simp
theorem Dgt_put (t : List UInt8) (b : UInt8) (h : t.length < 617) : (Dgt t).set (616 - t.length) (.int .u8 (b.toNat : Int)) = Dgt (b :: t) := by
  unfold Dgt
  rw [show 617 - t.length = (616 - t.length) + 1 by omega, rep_put, show 617 - (b :: t).length = 616 - t.length by simp]
  rfl
theorem dgt_zero (w : World) : Blk (w.alloc (.cells Tryz.zeroCells108 108)) w.heap.size 108 (Dgt []) := by
  have h := Blk.new w 108 (Dgt [])
  have e : (Dgt []).toArray = Tryz.zeroCells108 := by kernel_rfl
  rwa [e] at h
theorem Dgt_u8 (t : List UInt8) (i : Nat) (u : Value) (h : (Dgt t)[i]? = some u) : ∃ z, u = .int .u8 z := by
  unfold Dgt at h
  rcases Nat.lt_or_ge i (617 - t.length) with h1 | h1
  · rw [List.getElem?_append_left (by simpa using h1), List.getElem?_replicate, if_pos h1] at h
    cases h; exact ⟨_, rfl⟩
  · rw [List.getElem?_append_right (by simpa using h1)] at h
    unfold Bv at h
    rw [List.getElem?_map] at h
    obtain ⟨b, _, e⟩ := Option.map_eq_some_iff.1 h
    exact ⟨_, e.symm⟩
/-- A store of a digit leaves each list of limbs as it is. -/
theorem sl_dgt {w : World} {g i : Nat} {v x : Value} {l : List Nat} {t : List UInt8} (h : Sl w v l) (hb : Blk w g 108 (Dgt t)) : Sl (w.setCell ⟨g, i, none⟩ x) v l := by
  obtain ⟨A, k, e, hc, hn, hr⟩ := h
  refine ⟨A, k, e, hc, hn, fun hne => ?_⟩
  obtain ⟨gg, o, e2, hlt, hcell⟩ := hr hne
  refine ⟨gg, o, e2, by simpa using hlt, fun j u hu => ?_⟩
  have hneq : gg ≠ g := by
    intro e3
    subst e3
    have h0 : 0 < l.length := by
      rcases Nat.eq_zero_or_pos l.length with h0 | h0
      · rw [List.length_eq_zero_iff.1 h0] at hne; exact absurd rfl hne
      · exact h0
    have h1 := hcell 0 _ (Lc_get l 0 h0)
    rw [hb.cell] at h1
    obtain ⟨z, hz⟩ := Dgt_u8 t _ _ h1
    cases hz
  have h4 := hcell j u hu
  have h5 : (w.setCell ⟨g, i, none⟩ x).cell? ⟨gg, o + j, none⟩ = w.cell? ⟨gg, o + j, none⟩ := by
    have hb2 : (w.setCell ⟨g, i, none⟩ x).heap[gg]? = w.heap[gg]? := Below.heap_setCell w ⟨g, i, none⟩ x gg hneq
    simp only [World.cell?, hb2]
  rw [h5]; exact h4
def DeR (w : World) (x k : Nat) (s0 s4 : Value) (wr : World) : Prop := ∃ (y : Nat) (t : List UInt8), y = k ∧ Sl wr s0 (lim y) ∧ s4 = .int .i64 ((617 - t.length : Nat) : Int) ∧ decX y ++ t = decX x ∧ y ≤ x ∧ Blk wr w.heap.size 108 (Dgt t) ∧ Below w.heap.size w wr
def DiR (w : World) (x y : Nat) (v0 : Value) (s4 s5 s6 : Value) (wr : World) : Prop := ∃ (i p : Nat) (t : List UInt8), i ≤ 9 ∧ s6 = .int .i64 ((i : Nat) : Int) ∧ s5 = .int .u32 ((p : Nat) : Int) ∧ s4 = .int .i64 ((617 - t.length : Nat) : Int) ∧ p < 10 ^ (9 - i) ∧ decX (y * 10 ^ (9 - i) + p) ++ t = decX x ∧ Sl wr v0 (lim y) ∧ Blk wr w.heap.size 108 (Dgt t) ∧ Below w.heap.size w wr
theorem tail_le {x n : Nat} {t : List UInt8} (hx : (decX x).length ≤ 617) (h : decX n ++ t = decX x) : t.length ≤ 617 ∧ (n ≠ 0 → t.length < 617) := by
  have hl := congrArg List.length h
  rw [List.length_append] at hl
  refine ⟨by omega, fun h0 => ?_⟩
  have h1 : (decX n).length ≠ 0 := fun e => decX_ne h0 (List.length_eq_zero_iff.1 e)
  omega
set_option maxHeartbeats 4000000 in
theorem dec_any {v : Value} {x : Nat} {w : World} (h : Sl w v (lim x)) (hx : 0 < x) (hl : x < 4294967296 ^ 64) : Calls Tryz.prog 75 #[v] w fun e w' => e = .returned (.string ⟨(decX x).toArray⟩) ∧ Below w.heap.size w w' := by
  have h64 := lim_len.2 hl
  obtain ⟨A, n, c, rfl⟩ := sl_form h
  have hn := sl_len h
  have hne : ((n : Int) == 0) = false := by
    rw [beq_eq_false_iff_ne]
    have := pos_lim hx
    omega
  have h617 := dec_sixhundred hl
  have HLP : Hid (0 < (decX x).length) := Lib.hid (List.length_pos_iff.2 (decX_ne (by omega)))
  have hB1 : Below w.heap.size w (w.alloc (.cells Tryz.zeroCells108 108)) := (Below.refl _ _).alloc (Nat.le_refl _) _
  have HST := Lib.hid (show DeR w x x (.slice A n c) (.int .i64 617) (w.alloc (.cells Tryz.zeroCells108 108)) from ⟨x, [], rfl, h.below hB1, rfl, List.append_nil _, Nat.le_refl _, dgt_zero w, hB1⟩)
  have HLX : Hid (∀ y, y ≤ x → (lim y).length ≤ 1000) := Lib.hid (fun y hy => Nat.le_trans (lim_mono hy) (by omega))
  clear h hx hl h64 hn hB1
  go_enter Tryz.func75, Tryz.ntmps75
  go_wp2
  go_loopg [0, 4] x (fun k s0 s4 wr => DeR w x k s0 s4 wr)
  case atStart => exact HST.out
  case round =>
    clear HST hne
    obtain ⟨y, t, hk, hs, rfl, hd, hyx, hblk, hbel⟩ := hrel
    obtain ⟨A, n, c, rfl⟩ := sl_form hs
    have hn := sl_len hs
    obtain ⟨ht1, ht2⟩ := tail_le h617 hd
    rcases Nat.eq_zero_or_pos y with h0 | h0
    · subst h0
      rw [lim_zero] at hn
      subst hn
      rw [decX_zero, List.nil_append] at hd
      subst hd
      obtain ⟨m, hm⟩ : ∃ m, m = 617 - (decX x).length := ⟨_, rfl⟩
      rw [← hm]
      have hcv : (convert 38 9 (.slice (some ⟨w.heap.size, m, none⟩) (617 - m) (617 - m))).run Tryz.prog wr = .ok (.string ⟨(decX x).toArray⟩) wr := by
        rw [show 617 - m = (decX x).length by omega]
        refine run_convert_bytes_back (P := Tryz.prog) wr 38 9 5 ⟨w.heap.size, m, none⟩ _ (decX x) Tryz.underlying38 Tryz.underlying5 Tryz.underlying9 (fun j hj => ?_)
        rw [Addr.add_lit, hblk.cell]
        unfold Dgt
        rw [List.getElem?_append_right (by simp; omega)]
        simp only [List.length_replicate]
        rw [show m + j - (617 - (decX x).length) = j by omega]
        unfold Bv
        rw [List.getElem?_map, List.getElem?_eq_getElem hj]
        rfl
      have HB := Lib.hid hbel
      have hmI : (m : Int) ≤ 617 := by omega
      have hmJ : ¬ (617 ≤ m) := by have := HLP.out; omega
      have hmN : m ≠ 617 := by have := HLP.out; omega
      have hmK : 617 ≠ m := by have := HLP.out; omega
      have hmL : 617 - m ≠ 0 := by have := HLP.out; omega
      have hmM : (m : Int) ≠ 617 := by have := HLP.out; omega
      clear hs hblk hbel hk hyx ht1 ht2 hm
      go_wp2_with fail
      go_ret
      exact ⟨rfl, HB.out⟩
    · have hnI : (0 : Int) < (n : Int) := by have := pos_lim h0; omega
      have HBY := Lib.hid (byLimb_sl hs (HLX.out y hyx))
      have HBE := Lib.hid hbel; have HBK := Lib.hid hblk; have HD := Lib.hid hd; have HK := Lib.hid hk; have HYX := Lib.hid hyx; have HT1 := Lib.hid ht1
      clear hs hn hblk hbel hd ht2 hk hyx ht1
      go_wp2_with fail
      refine HBY.out.mono ?_
      rintro e w1 ⟨vq, rfl, hsq, hb⟩
      obtain ⟨P, hP⟩ : ∃ p, p = y % 1000000000 := ⟨_, rfl⟩
      obtain ⟨Y, hY⟩ : ∃ p, p = y / 1000000000 := ⟨_, rfl⟩
      rw [← hP]
      rw [← hY] at hsq
      have HPY := Lib.hid (And.intro hP hY)
      clear hP hY
      obtain ⟨A', n', c', rfl⟩ := sl_form hsq
      have hn' := sl_len hsq
      have HB1 := Lib.hid (below_step HBE.out hb); have HK1 := Lib.hid (HBK.out.below hb HBK.out.lt); have SQ := Lib.hid hsq
      clear hsq hb HBK HBY
      have hz : ((n' : Int) > 0) ↔ Y ≠ 0 := by
        rw [hn']
        constructor
        · intro h1 h2; rw [h2, lim_zero] at h1; simp at h1
        · intro h1; have := pos_lim (y := Y) (by omega); omega
      have HZ := Lib.hid hz
      clear hn' hz
      go_wp2_with fail
      go_loopw [4, 5, 6] (fun s4 s5 s6 wr => DiR w x Y (.slice A' n' c') s4 s5 s6 wr) (fun _ _ s6 _ => 9 - (intOf s6).toNat)
      case atStart =>
        refine ⟨0, P, t, by omega, rfl, rfl, rfl, ?_, ?_, SQ.out, HK1.out, HB1.out⟩
        · rw [HPY.out.1]; exact Nat.mod_lt _ (by decide)
        · have e : Y * 10 ^ (9 - 0) + P = y := by
            rw [HPY.out.1, HPY.out.2]
            show y / 1000000000 * 1000000000 + y % 1000000000 = y
            omega
          rw [e]; exact HD.out
      case round =>
        clear HB1 HK1 SQ HBE HD HT1
        obtain ⟨i, p, t, hi, rfl, rfl, rfl, hp, hd, hs, hblk, hbel⟩ := hrel
        obtain ⟨ht1, ht2⟩ := tail_le h617 hd
        by_cases hgo : i < 9 ∧ (Y ≠ 0 ∨ p ≠ 0)
        · obtain ⟨hi9, hor⟩ := hgo
          obtain ⟨k, hk9⟩ : ∃ k, 9 - i = k + 1 := ⟨8 - i, by omega⟩
          rw [hk9] at hp hd ht2
          have hN : Y * 10 ^ (k + 1) + p ≠ 0 := by
            rcases hor with h | h
            · have : 0 < Y * 10 ^ (k + 1) := Nat.mul_pos (by omega) (Nat.pow_pos (by omega))
              omega
            · omega
          have ht := ht2 hN
          have hp32 : p < 1000000000 := by
            have : 10 ^ (k + 1) ≤ 10 ^ 9 := Nat.pow_le_pow_right (by omega) (by omega)
            have e9 : (10 : Nat) ^ 9 = 1000000000 := by decide
            omega
          have hst := dec_step Y k p t hN
          rw [hd] at hst
          have hpd : p / 10 < 10 ^ k := by rw [Nat.pow_succ] at hp; omega
          obtain ⟨d, hdd⟩ : ∃ d, d = UInt8.ofNat (48 + p % 10) := ⟨_, rfl⟩
          have hdn : d.toNat = 48 + p % 10 := by rw [hdd, UInt8.toNat_ofNat']; omega
          rw [← hdd] at hst
          have hput := Dgt_put t d ht
          rw [hdn] at hput
          have hlen := Dgt_len t ht1
          obtain ⟨old, hc1⟩ : ∃ old, wr.cell? ⟨w.heap.size, 616 - t.length, none⟩ = some old := ⟨(Dgt t)[616 - t.length]'(by omega), by rw [hblk.cell, List.getElem?_eq_getElem]⟩
          have hf1 : wr.frozen? ⟨w.heap.size, 616 - t.length, none⟩ = false := hblk.frozen _
          have HST := Lib.hid hst; have HPUT := Lib.hid hput; have HBLK := Lib.hid hblk; have HBEL := Lib.hid hbel; have HSL := Lib.hid hs; have HPD := Lib.hid hpd; have HDN := Lib.hid hdn; have HK9 := Lib.hid hk9
          have hi9I : (i : Int) < 9 := by omega
          obtain ⟨m, hm⟩ : ∃ m, m = 616 - t.length := ⟨_, rfl⟩
          have hm2 : 617 - t.length = m + 1 := by omega
          rw [hm2]
          have hmI : (m : Int) < 617 := by omega
          rw [← hm] at hc1 hf1 hput HPUT
          have HM := Lib.hid (And.intro hm ht)
          clear hst hput hblk hbel hs hpd hdn hdd hk9 hd hp ht1 ht2 ht hN hlen hm hm2 hp32 hi
          have hcond : (0 : Int) < (n' : Int) ∨ ((n' : Int) = 0 ∧ (0 : Int) < (p : Int)) := by
            rcases Nat.eq_zero_or_pos n' with h | h
            · right
              refine ⟨by omega, ?_⟩
              rcases hor with h2 | h2
              · have := HZ.out.2 h2; omega
              · omega
            · left; omega
          clear hor hi9
          rcases hcond with hco | ⟨hco, hco2⟩
          · go_wp2_with fail
            go_roundw
            case rel =>
              have e1 : ((48 + p % 10 : Nat) : Int) = 48 + (p : Int) % 10 := by omega
              have hb := HBLK.out.put m (.int .u8 (48 + (p : Int) % 10))
              rw [← e1, HPUT.out, e1] at hb
              have ek : 9 - (i + 1) = k := by have := HK9.out; omega
              refine ⟨i + 1, p / 10, d :: t, by omega, by simp, ?_, ?_, ?_, ?_, sl_dgt HSL.out HBLK.out, hb, HBEL.out.setCell (p := ⟨w.heap.size, m, none⟩) (Nat.le_refl _) _⟩
              · have h1 := HPD.out
                have h2 : 10 ^ k ≤ 10 ^ 8 := Nat.pow_le_pow_right (by omega) (by have := HK9.out; omega)
                have e8 : (10 : Nat) ^ 8 = 100000000 := by decide
                rw [e8] at h2
                have h3 : p / 10 < 100000000 := Nat.lt_of_lt_of_le h1 h2
                congr 1
                omega
              · have h1 := HM.out.1
                congr 1
                simp only [List.length_cons]
                omega
              · rw [ek]; exact HPD.out
              · rw [ek]; exact HST.out
            case measure => simp only [intOf]; omega
          · have hn0 : n' = 0 := by omega
            subst hn0
            clear hco
            go_wp2_with fail
            go_roundw
            case rel =>
              have e1 : ((48 + p % 10 : Nat) : Int) = 48 + (p : Int) % 10 := by omega
              have hb := HBLK.out.put m (.int .u8 (48 + (p : Int) % 10))
              rw [← e1, HPUT.out, e1] at hb
              have ek : 9 - (i + 1) = k := by have := HK9.out; omega
              refine ⟨i + 1, p / 10, d :: t, by omega, by simp, ?_, ?_, ?_, ?_, sl_dgt HSL.out HBLK.out, hb, HBEL.out.setCell (p := ⟨w.heap.size, m, none⟩) (Nat.le_refl _) _⟩
              · have h1 := HPD.out
                have h2 : 10 ^ k ≤ 10 ^ 8 := Nat.pow_le_pow_right (by omega) (by have := HK9.out; omega)
                have e8 : (10 : Nat) ^ 8 = 100000000 := by decide
                rw [e8] at h2
                have h3 : p / 10 < 100000000 := Nat.lt_of_lt_of_le h1 h2
                congr 1
                omega
              · have h1 := HM.out.1
                congr 1
                simp only [List.length_cons]
                omega
              · rw [ek]; exact HPD.out
              · rw [ek]; exact HST.out
            case measure => simp only [intOf]; omega
        · have hdone : decX Y ++ t = decX x := by
            rw [← hd]
            congr 1
            by_cases h9 : i = 9
            · subst h9
              have : p = 0 := by simpa using hp
              rw [this]; simp
            · have hY : Y = 0 := by
                apply Classical.byContradiction
                intro h; exact hgo ⟨by omega, Or.inl h⟩
              have hp0 : p = 0 := by
                apply Classical.byContradiction
                intro h; exact hgo ⟨by omega, Or.inr h⟩
              rw [hY, hp0]; simp
          have hYx : Y ≤ x := by rw [HPY.out.2]; exact Nat.le_trans (Nat.div_le_self _ _) HYX.out
          have hYy : Y < gk := by rw [← HK.out, HPY.out.2]; exact Nat.div_lt_self h0 (by decide)
          have HRL := Lib.hid (show DeR w x Y (.slice A' n' c') (.int .i64 ((617 - t.length : Nat) : Int)) wr from ⟨Y, t, rfl, hs, rfl, hdone, hYx, hblk, hbel⟩)
          have HYY := Lib.hid hYy
          have hcond : i = 9 ∨ (i < 9 ∧ n' = 0 ∧ p = 0) := by
            by_cases h9 : i = 9
            · exact Or.inl h9
            · have hY : ¬ (Y ≠ 0) := fun h => hgo ⟨by omega, Or.inl h⟩
              have hn0 : ¬ ((n' : Int) > 0) := fun h => hY (HZ.out.1 h)
              have hp0 : p = 0 := by
                apply Classical.byContradiction
                intro h; exact hgo ⟨by omega, Or.inr h⟩
              exact Or.inr ⟨by omega, by omega, hp0⟩
          clear hdone hYx hYy hgo hd hp ht1 ht2 hs hblk hbel
          generalize 617 - t.length = m at HRL ⊢
          rcases hcond with rfl | ⟨h9, rfl, rfl⟩
          · clear hi
            go_wp2_with fail
            go_roundg Y
            case measure => exact HYY.out
            case rel => exact HRL.out
          · have hi9I : (i : Int) < 9 := by omega
            clear hi h9
            go_wp2_with fail
            go_roundg Y
            case measure => exact HYY.out
            case rel => exact HRL.out
end Go.Proofs.YtbfhilbagojdnaaGreat
namespace Go.Proofs.YtbfhilbagojdnaaGreat
open Go.RowKit Wr Go.Proofs.YtbfhilbagojdnaaGreat.Nm
set_option linter.unusedVariables false
set_option maxRecDepth 100000

theorem dec_all {v : Value} {x : Nat} {w : World} (h : Sl w v (lim x)) (hl : x < 4294967296 ^ 64) : Calls Tryz.prog 75 #[v] w fun e w' => e = .returned (.string ⟨(decS x).toArray⟩) ∧ Below w.heap.size w w' := by
  rcases Nat.eq_zero_or_pos x with h0 | h0
  · subst h0
    refine (dec_zero h).mono ?_
    rintro e w' ⟨rfl, rfl⟩
    exact ⟨by unfold decS; rw [if_pos rfl], Below.refl _ _⟩
  · have := dec_any h h0 hl
    unfold decS; rw [if_neg (by omega)]
    exact this
theorem decS_len {x : Nat} (h : x < 4294967296 ^ 64) : (decS x).length ≤ 617 := by
  unfold decS; split
  · simp
  · exact dec_sixhundred h
def printR (r : Rt) : List UInt8 × Nat := if vld r ≠ 0 then ([], vld r) else if r.2 = [] then (decS (num r.1), 0) else (decS (num r.1) ++ 47 :: decS (num r.2), 0)
def PrP (w : World) (x : List UInt8 × Nat) (e : Ending) (w' : World) : Prop := e = .returned (.tuple #[.string ⟨x.1.toArray⟩, .int .i64 ((x.2 : Nat) : Int)]) ∧ Below w.heap.size w w'
theorem bytes_app (a b : List UInt8) : ((⟨a.toArray⟩ : ByteArray) ++ (⟨#[47]⟩ : ByteArray)) ++ (⟨b.toArray⟩ : ByteArray) = ⟨(a ++ 47 :: b).toArray⟩ := by
  apply ByteArray.ext
  simp
set_option maxHeartbeats 4000000 in
theorem print_any {v1 v2 : Value} {r : Rt} {w : World} (hr : Rk w v1 v2 r) : Calls Tryz.prog 26 #[.agg #[v1, v2]] w (PrP w (printR r)) := by
  suffices hgen : ∀ Res, Hid (printR r = Res) → Calls Tryz.prog 26 #[.agg #[v1, v2]] w (PrP w Res) from hgen _ (Lib.hid rfl)
  intro Res HRR
  obtain ⟨A1, n1, k1, e1⟩ := sl_form hr.s1
  obtain ⟨A2, n2, k2, e2⟩ := sl_form hr.s2
  subst e1 e2
  have hX0 := box0 w (.slice A1 n1 k1) (.slice A2 n2 k2)
  have hB0 := boxb w (.slice A1 n1 k1) (.slice A2 n2 k2)
  have HX0 := Lib.hid hX0; have HB0 := Lib.hid hB0
  have HV := Lib.hid (hr.below hB0).valid
  have HR := Lib.hid hr
  clear hr hX0 hB0
  go_enter Tryz.func26, Tryz.ntmps26
  go_wp2_with fail
  refine HV.out.mono ?_
  rintro e w1 ⟨rfl, hb⟩
  have HX := Lib.hid (HX0.out.below hb HX0.out.lt); have HB := Lib.hid (below_step HB0.out hb)
  clear hb HX0 HB0 HV
  by_cases hz : vld r = 0
  · obtain ⟨x, y, va, e1⟩ := vld_to HR.out.ok hz
    subst e1
    have hre := HRR.out
    unfold printR at hre
    rw [if_neg (by simp [hz])] at hre
    rw [hz]
    clear hz HRR
    have ha1 : Sl w (.slice A1 n1 k1) (lim x) := HR.out.s1
    have ha2 : Sl w (.slice A2 n2 k2) (dl y) := HR.out.s2
    have hn2 := sl_len ha2
    obtain ⟨hc1, hc2, hf1, hf2⟩ := blk_cells2 HX.out
    have HDN := Lib.hid (fun W (h : Below w.heap.size w W) => dec_all (ha1.below h) va.hx)
    by_cases h1 : y = 1
    · subst h1
      rw [dl_one] at hn2 hre
      rw [if_pos rfl] at hre
      rw [num_lim] at hre
      subst hre
      subst hn2
      have HD := Lib.hid (HDN.out _ HB.out)
      clear va ha1 ha2 HR HDN
      go_wp2_with fail
      refine HD.out.mono ?_
      rintro e w2 ⟨rfl, hb⟩
      have HB2 := Lib.hid (below_step HB.out hb)
      clear hb
      go_wp2_with fail
      go_ret2
      exact ⟨rfl, HB2.out⟩
    · have hdl : dl y = lim y := by unfold dl; rw [if_neg h1]
      rw [hdl] at ha2 hn2 hre
      have hl0 : (lim y).length ≠ 0 := fun e => by
        have := lim_nil.1 (List.length_eq_zero_iff.1 e)
        have := va.pos
        omega
      rw [if_neg (fun e => hl0 (by rw [show lim y = [] from e]; rfl)), num_lim, num_lim] at hre
      subst hre
      have hne : ((n2 : Int) == 0) = false := by rw [beq_eq_false_iff_ne]; omega
      have HDD := Lib.hid (fun W (h : Below w.heap.size w W) => dec_all (ha2.below h) va.hy)
      have hd1 := decS_len va.hx
      have hd2 := decS_len va.hy
      clear va ha1 ha2 HR hl0 hn2 hdl h1
      go_upto_region 6 with (fail)
      clear hc1 hc2 hf1 hf2 hne
      refine wp_region_held (S := fun W => Blk W w.heap.size 27 [(.slice A1 n1 k1), (.slice A2 n2 k2)]) (by kernel_rfl) ?_
      change wpAnyH _ _ _ _ _ _ _ _ (World.drew w1)
      have hs0 : Blk (World.drew w1) w.heap.size 27 [(.slice A1 n1 k1), (.slice A2 n2 k2)] := HX.out
      have BD : Hid (Below w.heap.size w (World.drew w1)) := Lib.hid (below_drewN HB.out 1)
      generalize World.drew w1 = Wd at hs0 BD ⊢
      refine wpAnyH_take (i := 0) (oi := { dst := some 17, op := Op.fieldAddr 27 (Operand.tmp 1) 0, type := 0, pos := "ratio.go:168", after := #[], guard := none }) (v := .pointer (some ⟨w.heap.size, 0, none⟩)) rfl (by kernel_rfl) (by kernel_rfl) (by kernel_rfl) (fun _ _ _ h => h) (Or.inl ⟨by rfl, fun W hW => ?y1⟩) hs0 ?_
      case y1 => go_simp
      try dsimp only [Act.put]
      try simp only [List.setIfInBounds_toArray, List.set_cons_zero, List.set_cons_succ]
      refine wpAnyH_take (i := 1) (oi := { dst := some 18, op := Op.load 22 (Operand.tmp 17), type := 22, pos := "ratio.go:168", after := #[{ on := 0, ground := Ground.data }], guard := none }) (v := (.slice A1 n1 k1)) rfl (by kernel_rfl) (by kernel_rfl) (by kernel_rfl) (fun _ _ _ h => h) (Or.inl ⟨by rfl, fun W hW => by have hcl : W.cell? ⟨w.heap.size, 0, none⟩ = some (.slice A1 n1 k1) := (Blk.cell hW 0).trans rfl; go_simp⟩) hs0 ?_
      try dsimp only [Act.put]
      try simp only [List.setIfInBounds_toArray, List.set_cons_zero, List.set_cons_succ]
      refine wpAnyH_take (i := 4) (oi := { dst := some 21, op := Op.fieldAddr 27 (Operand.tmp 1) 1, type := 0, pos := "ratio.go:168", after := #[], guard := none }) (v := .pointer (some ⟨w.heap.size, 1, none⟩)) rfl (by kernel_rfl) (by kernel_rfl) (by kernel_rfl) (fun _ _ _ h => h) (Or.inl ⟨by rfl, fun W hW => ?y3⟩) hs0 ?_
      case y3 => go_simp
      try dsimp only [Act.put]
      try simp only [List.setIfInBounds_toArray, List.set_cons_zero, List.set_cons_succ]
      refine wpAnyH_take (i := 5) (oi := { dst := some 22, op := Op.load 22 (Operand.tmp 21), type := 22, pos := "ratio.go:168", after := #[{ on := 4, ground := Ground.data }], guard := none }) (v := (.slice A2 n2 k2)) rfl (by kernel_rfl) (by kernel_rfl) (by kernel_rfl) (fun _ _ _ h => h) (Or.inl ⟨by rfl, fun W hW => by have hcl : W.cell? ⟨w.heap.size, 1, none⟩ = some (.slice A2 n2 k2) := (Blk.cell hW 1).trans rfl; go_simp⟩) hs0 ?_
      try dsimp only [Act.put]
      try simp only [List.setIfInBounds_toArray, List.set_cons_zero, List.set_cons_succ]
      refine wpAnyH_ready (rs := [2]) (by kernel_rfl) (by simp) ?_
      refine AllReadyH.cons (o := { dst := some 19, op := Op.call { callee := Callee.value (Operand.func 75), args := #[Operand.tmp 18], argTypes := #[22] }, type := 9, pos := "ratio.go:168", after := #[{ on := 1, ground := Ground.data }], guard := none }) rfl (fun K hK => ?_) AllReadyH.nil
      rw [if_pos (by rfl)]
      go_simp
      refine (HDN.out _ BD.out ).mono ?_; rintro e w5 ⟨rfl, hb⟩
      have B6 := Lib.hid (below_step BD.out hb)
      have hs7 := hs0.below hb hs0.lt
      clear hb
      go_wp2_with fail
      refine hK.out _ _ hs7 (fun _ => ?_)
      clear hK K
      try dsimp only [Act.put]
      try simp only [List.setIfInBounds_toArray, List.set_cons_zero, List.set_cons_succ]
      refine wpAnyH_take (i := 3) (oi := { dst := some 20, op := Op.binOp BinOp.add 9 (Operand.tmp 19) (Operand.const (Value.string { data := #[47] })) 9, type := 9, pos := "ratio.go:168", after := #[{ on := 2, ground := Ground.data }], guard := none }) (v := .string ((⟨(decS x).toArray⟩ : ByteArray) ++ (⟨#[47]⟩ : ByteArray))) rfl (by kernel_rfl) (by kernel_rfl) (by kernel_rfl) (fun _ _ _ h => h) (Or.inl ⟨by rfl, fun W hW => by go_simp; omega⟩) hs7 ?_
      try dsimp only [Act.put]
      try simp only [List.setIfInBounds_toArray, List.set_cons_zero, List.set_cons_succ]
      refine wpAnyH_ready (rs := [6]) (by kernel_rfl) (by simp) ?_
      refine AllReadyH.cons (o := { dst := some 23, op := Op.call { callee := Callee.value (Operand.func 75), args := #[Operand.tmp 22], argTypes := #[22] }, type := 9, pos := "ratio.go:168", after := #[{ on := 5, ground := Ground.data }, { on := 2, ground := Ground.chain }], guard := none }) rfl (fun K hK => ?_) AllReadyH.nil
      rw [if_pos (by rfl)]
      go_simp
      refine (HDD.out _ B6.out ).mono ?_; rintro e w9 ⟨rfl, hb⟩
      have B10 := Lib.hid (below_step B6.out hb)
      have hs11 := hs7.below hb hs7.lt
      clear hb
      go_wp2_with fail
      refine hK.out _ _ hs11 (fun _ => ?_)
      clear hK K
      try dsimp only [Act.put]
      try simp only [List.setIfInBounds_toArray, List.set_cons_zero, List.set_cons_succ]
      refine wpAnyH_take (i := 7) (oi := { dst := some 24, op := Op.binOp BinOp.add 9 (Operand.tmp 20) (Operand.tmp 23) 9, type := 9, pos := "ratio.go:168", after := #[{ on := 3, ground := Ground.data }, { on := 6, ground := Ground.data }], guard := none }) (v := .string (((⟨(decS x).toArray⟩ : ByteArray) ++ (⟨#[47]⟩ : ByteArray)) ++ (⟨(decS y).toArray⟩ : ByteArray))) rfl (by kernel_rfl) (by kernel_rfl) (by kernel_rfl) (fun _ _ _ h => h) (Or.inl ⟨by rfl, fun W hW => by go_simp; omega⟩) hs11 ?_
      try dsimp only [Act.put]
      try simp only [List.setIfInBounds_toArray, List.set_cons_zero, List.set_cons_succ]
      refine wpAnyH_take (i := 8) (oi := { dst := some 2, op := Op.assign (Operand.tmp 24), type := 9, pos := "ratio.go:168", after := #[{ on := 7, ground := Ground.data }, { on := 6, ground := Ground.chain }, { on := 0, ground := Ground.phase }, { on := 1, ground := Ground.phase }, { on := 2, ground := Ground.phase }, { on := 3, ground := Ground.phase }, { on := 4, ground := Ground.phase }, { on := 5, ground := Ground.phase }, { on := 6, ground := Ground.phase }, { on := 7, ground := Ground.phase }], guard := none }) (v := .string (((⟨(decS x).toArray⟩ : ByteArray) ++ (⟨#[47]⟩ : ByteArray)) ++ (⟨(decS y).toArray⟩ : ByteArray))) rfl (by kernel_rfl) (by kernel_rfl) (by kernel_rfl) (fun _ _ _ h => h) (Or.inl ⟨by rfl, fun W hW => ?y13⟩) hs11 ?_
      case y13 => go_simp
      try dsimp only [Act.put]
      try simp only [List.setIfInBounds_toArray, List.set_cons_zero, List.set_cons_succ]
      refine wpAnyH_take (i := 9) (oi := { dst := some 3, op := Op.assign (Operand.const (Value.int IntKind.i64 0)), type := 28, pos := "ratio.go:168", after := #[{ on := 8, ground := Ground.chain }, { on := 0, ground := Ground.phase }, { on := 1, ground := Ground.phase }, { on := 2, ground := Ground.phase }, { on := 3, ground := Ground.phase }, { on := 4, ground := Ground.phase }, { on := 5, ground := Ground.phase }, { on := 6, ground := Ground.phase }, { on := 7, ground := Ground.phase }, { on := 8, ground := Ground.phase }], guard := none }) (v := .int .i64 0) rfl (by kernel_rfl) (by kernel_rfl) (by kernel_rfl) (fun _ _ _ h => h) (Or.inl ⟨by rfl, fun W hW => ?y14⟩) hs11 ?_
      case y14 => go_simp
      try dsimp only [Act.put]
      try simp only [List.setIfInBounds_toArray, List.set_cons_zero, List.set_cons_succ]
      refine wpAnyH_done (by kernel_rfl) ?_ _
      try dsimp only [Act.put]
      try simp only [List.setIfInBounds_toArray, List.set_cons_zero, List.set_cons_succ]
      go_wp2_with fail
      rw [bytes_app]
      go_ret2
      exact ⟨rfl, B10.out⟩
  · have hne : (((vld r : Nat) : Int) != 0) = true := by rw [bne_iff_ne]; omega
    have hre := HRR.out
    rw [show printR r = ([], vld r) by unfold printR; rw [if_pos hz]] at hre
    subst hre
    generalize vld r = E at *
    clear hz HRR
    go_wp2_with fail
    go_ret2
    exact ⟨rfl, HB.out⟩
end Go.Proofs.YtbfhilbagojdnaaGreat
