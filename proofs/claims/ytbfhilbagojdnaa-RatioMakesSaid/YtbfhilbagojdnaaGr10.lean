/-
  Texts of the proof, joined: Rv, Ru, Rr.
  No condition: lemmas.
-/
import Derived.Test.YtbfhilbagojdnaaGr9
namespace Go.Proofs.Ytbfhilbagojdnaa
open Go.RowKit Wr Go.Proofs.Ytbfhilbagojdnaa.Nm
set_option linter.unusedVariables false
set_option maxRecDepth 100000

set_option maxHeartbeats 1000000 in
theorem rden_any {v1 v2 : Value} {n d : List Nat} {w : World} (h1 : Sl w v1 n) (h2 : Sl w v2 d) (hl : d.length ≤ 1048576) : Calls Try.prog 54 #[.agg #[v1, v2]] w (CpP w (denL d)) := by
  obtain ⟨A, c, rfl, _, _, _⟩ := h1
  have S2 := Lib.hid h2
  obtain ⟨A2, c2, rfl, hc, hn, hr⟩ := h2
  rcases Nat.eq_zero_or_pos d.length with h0 | h0
  · obtain rfl := List.length_eq_zero_iff.1 h0
    clear hr hn hc S2 h0
    have hbs := one_bs (w.alloc (.cells #[.slice A n.length c, .slice A2 0 c2] 28))
    show Calls Try.prog 54 #[.agg #[.slice A n.length c, .slice A2 0 c2]] w _
    generalize n.length = ln at *
    go_enter Try.func54, Try.ntmps54
    go_wp2
    go_ret
    exact ⟨_, rfl, by have h := sl_one (w.alloc (.cells #[.slice A ln c, .slice A2 0 c2] 28)); rw [show denL [] = [1] from rfl]; simpa using h, ((Below.refl w.heap.size w).alloc (Nat.le_refl _) _).alloc (by simp) _⟩
  · have hd : denL d = d := by unfold denL; rw [if_neg (by intro e; rw [e] at h0; simp at h0)]
    rw [hd]
    have hne : ((d.length : Int) == 0) = false := by rw [beq_eq_false_iff_ne]; omega
    generalize hld : d.length = ld at *
    generalize n.length = ln at *
    clear hr hn hc hd hld
    go_enter Try.func54, Try.ntmps54
    go_wp2
    go_ret
    exact ⟨.slice A2 ld c2, rfl, S2.out.below ((Below.refl w.heap.size w).alloc (Nat.le_refl _) _), (Below.refl w.heap.size w).alloc (Nat.le_refl _) _⟩
theorem rden_sl {v1 v2 : Value} {n : List Nat} {y : Nat} {w : World} (h1 : Sl w v1 n) (h2 : Sl w v2 (dl y)) (hy : 0 < y) (hl : (dl y).length ≤ 1048576) : Calls Try.prog 54 #[.agg #[v1, v2]] w (SlP w y) := by
  have h := rden_any h1 h2 hl
  have e : denL (dl y) = lim y := by
    unfold denL dl
    by_cases h1 : y = 1
    · rw [if_pos h1, if_pos rfl, h1, lim_one]
    · rw [if_neg h1, if_neg (by rw [lim_nil]; omega)]
  rw [e] at h; exact h
def RdA (w : World) (a b : Nat) (s0 s1 : Value) (wx : World) : Prop := Sl wx s0 (lim a) ∧ Sl wx s1 (lim b) ∧ Blk wx w.heap.size 28 [.slice none 0 0, .slice none 0 0] ∧ Below w.heap.size w wx
def RdB (w : World) (a b : Nat) (s0 s1 : Value) (wx : World) : Prop := Sl wx s0 (lim a) ∧ Sl wx s1 (dl b) ∧ Blk wx w.heap.size 28 [.slice none 0 0, .slice none 0 0] ∧ Below w.heap.size w wx
theorem dl_len2 {b n : Nat} (h : (lim b).length ≤ n) : (dl b).length ≤ n := by unfold dl; split; exact Nat.zero_le _; exact h
theorem made_if {a b : Nat} (h0 : 0 < b) : madeR a b = if 64 < (lim a).length ∨ 64 < (dl b).length then (noR, 4) else ((lim a, dl b), 0) := by
  unfold madeR
  have h1 := lim_len (n := a) (k := 64)
  have h2 := dl_len b h0
  by_cases hc : a < 4294967296 ^ 64 ∧ b < 4294967296 ^ 64
  · have a1 := h1.2 hc.1; have a2 := h2.2 hc.2
    rw [if_pos hc, if_neg (by omega)]
  · rw [if_neg hc]
    rw [if_pos]
    by_cases h3 : 64 < (lim a).length
    · exact Or.inl h3
    · right
      have a1 := h1.1 (by omega)
      by_cases h4 : 64 < (dl b).length
      · exact h4
      · exact absurd ⟨a1, h2.1 (by omega)⟩ hc
set_option maxHeartbeats 2000000 in
theorem rreduced_any {v1 v2 : Value} {x y : Nat} {w : World} (h1 : Sl w v1 (lim x)) (h2 : Sl w v2 (lim y)) (h0 : 0 < y) (hl : (lim x).length ≤ 40000) (hl2 : (lim y).length ≤ 40000) : Calls Try.prog 41 #[v1, v2] w (RtP w (lowR x y)) := by
  have HR0 := Lib.hid (res0 w); have HB0 := Lib.hid (bel0 w)
  rcases Nat.eq_zero_or_pos x with hx0 | hx0
  · subst hx0
    have hlow : lowR 0 y = (noR, 0) := by
      unfold lowR madeR
      rw [Nat.gcd_zero_left, Nat.div_self h0, Nat.zero_div, if_pos ⟨Nat.pow_pos (by omega), Nat.one_lt_pow (by omega) (by omega)⟩, lim_zero, dl_one]; rfl
    have HL := Lib.hid hlow
    obtain ⟨A, c, e1, _, _, _⟩ := h1
    obtain ⟨A2, c2, e2, _, _, _⟩ := h2
    rw [lim_zero, List.length_nil] at e1
    subst e1 e2
    generalize (lim y).length = ly at *
    rw [hlow]
    clear hlow hl hl2
    go_enter Try.func41, Try.ntmps41
    go_upto_region 1 with (fail)
    generalize w.alloc (.cells #[.slice none 0 0, .slice none 0 0] 28) = W0 at HR0 HB0 ⊢
    obtain ⟨hc1, hc2, hf1, hf2⟩ := blk_cells2 HR0.out
    go_wp2_with fail
    have hbk := (((HR0.out).put 0 (.slice none 0 0)).put 1 (.slice none 0 0))
    have hbl := (((HB0.out).setCell (p := ⟨w.heap.size, 0, none⟩) (Nat.le_refl _) (.slice none 0 0)).setCell (p := ⟨w.heap.size, 1, none⟩) (Nat.le_refl _) (.slice none 0 0))
    refine bodyPost_ret (v := .tuple #[.agg #[(.slice none 0 0), (.slice none 0 0)], .int .i64 0]) ?_ rfl ⟨.agg #[(.slice none 0 0), (.slice none 0 0)], rfl, ⟨_, _, rfl, sl_res (Sl.nil _) HR0.out _ _ _ _ _ _, sl_res (Sl.nil _) HR0.out _ _ _ _ _ _⟩, hbl⟩
    have hr := run_loadVar_at (P := Try.prog) _ ⟨w.heap.size, 0, none⟩ 28 [(.slice none 0 0), (.slice none 0 0)] _ hbk.at Try.underlying28 rfl size28
    simp [results, Try.results41, asAddr, hr]
  · have hgx : 0 < Nat.gcd x y := Nat.gcd_pos_of_pos_right x h0
    obtain ⟨G, hG⟩ : ∃ g, g = Nat.gcd x y := ⟨_, rfl⟩
    rw [← hG] at hgx
    have hGy : G ≤ y := by rw [hG]; exact Nat.le_of_dvd h0 (Nat.gcd_dvd_right x y)
    have hyG : 0 < y / G := Nat.div_pos hGy hgx
    have HC := Lib.hid (fun W (h : Below w.heap.size w W) => rcommon_any (h2.below h) (h1.below h) h0 hl2 hl)
    rw [Nat.gcd_comm, ← hG] at HC
    have hlow : lowR x y = madeR (x / G) (y / G) := by unfold lowR; rw [hG]
    rw [hlow]
    have S1 := Lib.hid h1; have S2 := Lib.hid h2
    obtain ⟨A, c, e1, _, _, _⟩ := h1
    have hx1 := pos_lim hx0
    have HLX := Lib.hid hl; have HLY := Lib.hid hl2
    have HG := Lib.hid (And.intro hgx hGy)
    have HGL := Lib.hid (Nat.le_trans (lim_mono hGy) hl2)
    have HXG := Lib.hid (Nat.le_trans (lim_mono (Nat.div_le_self x G)) hl); have HYG := Lib.hid (Nat.le_trans (lim_mono (Nat.div_le_self y G)) hl2)
    have HY0 := Lib.hid hyG
    obtain ⟨nx, hnx⟩ : ∃ n, n = (lim x).length := ⟨_, rfl⟩
    rw [← hnx] at e1 hx1
    subst e1
    have hne : ((nx : Int) == 0) = false := by rw [beq_eq_false_iff_ne]; omega
    clear h2 hG hgx hGy hyG hlow hl hl2 hnx
    go_enter Try.func41, Try.ntmps41
    go_upto_region 1 with (fail)
    generalize w.alloc (.cells #[.slice none 0 0, .slice none 0 0] 28) = W0 at HR0 HB0 ⊢
    go_upto_region 4 with (go_at_call 38; (refine (HC.out _ HB0.out).mono ?_); rintro e w1 ⟨vg, rfl, hsg, hb1⟩)
    have HB1 := Lib.hid (below_step HB0.out hb1); have HR1 := Lib.hid (HR0.out.below hb1 HR0.out.lt)
    have SG := Lib.hid hsg
    have hb1' := below_step HB0.out hb1
    have S1a := Lib.hid (S1.out.below hb1'); have S2a := Lib.hid (S2.out.below hb1')
    obtain ⟨bg, hbg⟩ : ∃ b, b = decide (G = 1) := ⟨_, rfl⟩
    have HO := Lib.hid (rone_lim SG.out (by have := HGL.out; omega) bg hbg)
    have HBG := Lib.hid hbg
    clear hsg hb1 hb1' HC HB0 HR0 S1 S2 hbg
    go_upto_if 16 with (go_at_call 37; (with_reducible refine HO.out.mono ?_); rintro e w' ⟨rfl, rfl⟩)
    go_cut [0, 1] from 7 (fun s0 s1 wx => RdA w (x / G) (y / G) s0 s1 wx)
    case first =>
      cases bg with
      | true =>
        have g1 : G = 1 := of_decide_eq_true HBG.out.symm
        subst g1
        have hF : RdA w (x / 1) (y / 1) (.slice A nx c) v2 w1 := ⟨by rw [Nat.div_one]; exact S1a.out, by rw [Nat.div_one]; exact S2a.out, HR1.out, HB1.out⟩
        have HF := Lib.hid hF
        clear hF
        go_wp2_with fail
        go_meet
        exact HF.out
      | false =>
        have HD1 := Lib.hid (quo_any S1a.out SG.out HG.out.1 HLX.out HGL.out)
        go_wp2_with fail
        refine HD1.out.mono ?_
        rintro e w2 ⟨d1, r1, rfl, sd1, sr1, hb2⟩
        have B2 := Lib.hid (below_step HB1.out hb2); have R2 := Lib.hid (HR1.out.below hb2 HR1.out.lt)
        have D1 := Lib.hid sd1
        have HD2 := Lib.hid (quo_any (S2a.out.below hb2) (SG.out.below hb2) HG.out.1 HLY.out HGL.out)
        clear sd1 sr1 hb2 HD1 HB1 HR1
        go_wp2_with fail
        refine HD2.out.mono ?_
        rintro e w3 ⟨d2, r2, rfl, sd2, sr2, hb3⟩
        have hF : RdA w (x / G) (y / G) d1 d2 w3 := ⟨D1.out.below hb3, sd2, R2.out.below hb3 R2.out.lt, below_step B2.out hb3⟩
        have HF := Lib.hid hF
        clear hF sd2 sr2 hb3 HD2
        go_wp2_with fail
        go_meet
        exact HF.out
    case rest =>
      obtain ⟨s1, s2, hr, hb⟩ := hcut
      clear S1a S2a HR1 HB1 SG HLX HLY HGL HG HO HBG
      obtain ⟨a, ea⟩ : ∃ a, a = x / G := ⟨_, rfl⟩
      obtain ⟨b, eb⟩ : ∃ a, a = y / G := ⟨_, rfl⟩
      rw [← ea] at HXG s1
      rw [← eb] at HYG HY0 s2
      have HM := Lib.hid (show madeR (x / G) (y / G) = if 64 < (lim a).length ∨ 64 < (dl b).length then (noR, 4) else ((lim a, dl b), 0) by rw [← ea, ← eb]; exact made_if HY0.out)
      clear ea eb
      obtain ⟨b1, hb1⟩ : ∃ q, q = decide (b = 1) := ⟨_, rfl⟩
      have HO := Lib.hid (rone_lim s2 (by have := HYG.out; omega) b1 hb1)
      have HB1 := Lib.hid hb1
      have S1 := Lib.hid s1; have S2 := Lib.hid s2; have HR := Lib.hid hr; have HB := Lib.hid hb
      obtain ⟨A1, c1, e1, _, _, _⟩ := s1
      obtain ⟨n1, hn1⟩ : ∃ n, n = (lim a).length := ⟨_, rfl⟩
      rw [← hn1] at e1 HM HXG
      subst e1
      clear s2 hr hb hb1 hn1
      go_upto_if 30 with (go_at_call 37; (with_reducible refine HO.out.mono ?_); rintro e w' ⟨rfl, rfl⟩)
      go_cut [1] from 7 (fun s1' wx => RdB w a b (.slice A1 n1 c1) s1' wx)
      case first =>
        cases b1 with
        | true =>
          have g1 : b = 1 := of_decide_eq_true HB1.out.symm
          subst g1
          have hF : RdB w a 1 (.slice A1 n1 c1) (.slice none 0 0) wc := ⟨S1.out, Sl.nil _, HR.out, HB.out⟩
          have HF := Lib.hid hF
          clear hF
          go_wp2_with fail
          go_meet
          exact HF.out
        | false =>
          have g1 : ¬ b = 1 := of_decide_eq_false HB1.out.symm
          have hF : RdB w a b (.slice A1 n1 c1) _ wc := ⟨S1.out, by unfold dl; rw [if_neg g1]; exact S2.out, HR.out, HB.out⟩
          have HF := Lib.hid hF
          clear hF g1
          go_wp2_with fail
          go_meet
          exact HF.out
      case rest =>
        obtain ⟨t1, t2, hr, hb⟩ := hcut
        have hl2 := dl_len2 HYG.out
        have T1 := Lib.hid t1; have T2 := Lib.hid t2; have HRK := Lib.hid hr; have HBK := Lib.hid hb
        obtain ⟨A2, c2, e2, _, _, _⟩ := t2
        obtain ⟨n2, hn2⟩ : ∃ n, n = (dl b).length := ⟨_, rfl⟩
        rw [← hn2] at e2 HM hl2
        subst e2
        obtain ⟨hc1, hc2, hf1, hf2⟩ := blk_cells2 hr
        clear t1 hr hb hn2 S1 S2 HR HB HO HB1
        by_cases g1 : 64 < n1
        · have hg : (64 : Int) < (n1 : Int) := by omega
          have HE := Lib.hid (show madeR (x / G) (y / G) = (noR, 4) by rw [HM.out, if_pos (Or.inl g1)])
          clear g1 HM
          go_wp2_with fail
          have hbk := (((HRK.out).put 0 (.slice none 0 0)).put 1 (.slice none 0 0))
          have hbl := (((HBK.out).setCell (p := ⟨w.heap.size, 0, none⟩) (Nat.le_refl _) (.slice none 0 0)).setCell (p := ⟨w.heap.size, 1, none⟩) (Nat.le_refl _) (.slice none 0 0))
          refine bodyPost_ret (v := .tuple #[.agg #[(.slice none 0 0), (.slice none 0 0)], .int .i64 4]) ?_ rfl ⟨.agg #[(.slice none 0 0), (.slice none 0 0)], by rw [HE.out]; rfl, by rw [HE.out]; exact ⟨_, _, rfl, sl_res (Sl.nil _) HRK.out _ _ _ _ _ _, sl_res (Sl.nil _) HRK.out _ _ _ _ _ _⟩, hbl⟩
          have hr := run_loadVar_at (P := Try.prog) _ ⟨w.heap.size, 0, none⟩ 28 [(.slice none 0 0), (.slice none 0 0)] _ hbk.at Try.underlying28 rfl size28
          simp [results, Try.results41, asAddr, hr]
        · by_cases g2 : 64 < n2
          · have hg : ¬ ((64 : Int) < (n1 : Int)) := by omega
            have hg2 : (64 : Int) < (n2 : Int) := by omega
            have HE := Lib.hid (show madeR (x / G) (y / G) = (noR, 4) by rw [HM.out, if_pos (Or.inr g2)])
            clear g1 g2 HM
            go_wp2_with fail
            have hbk := (((HRK.out).put 0 (.slice none 0 0)).put 1 (.slice none 0 0))
            have hbl := (((HBK.out).setCell (p := ⟨w.heap.size, 0, none⟩) (Nat.le_refl _) (.slice none 0 0)).setCell (p := ⟨w.heap.size, 1, none⟩) (Nat.le_refl _) (.slice none 0 0))
            refine bodyPost_ret (v := .tuple #[.agg #[(.slice none 0 0), (.slice none 0 0)], .int .i64 4]) ?_ rfl ⟨.agg #[(.slice none 0 0), (.slice none 0 0)], by rw [HE.out]; rfl, by rw [HE.out]; exact ⟨_, _, rfl, sl_res (Sl.nil _) HRK.out _ _ _ _ _ _, sl_res (Sl.nil _) HRK.out _ _ _ _ _ _⟩, hbl⟩
            have hr := run_loadVar_at (P := Try.prog) _ ⟨w.heap.size, 0, none⟩ 28 [(.slice none 0 0), (.slice none 0 0)] _ hbk.at Try.underlying28 rfl size28
            simp [results, Try.results41, asAddr, hr]
          · have hg : ¬ ((64 : Int) < (n1 : Int)) := by omega
            have hg2 : ¬ (64 : Int) < (n2 : Int) := by omega
            have HE := Lib.hid (show madeR (x / G) (y / G) = ((lim a, dl b), 0) by rw [HM.out, if_neg (by omega)])
            clear g1 g2 HM
            go_wp2_with fail
            have hbk := (((HRK.out).put 0 (.slice A1 n1 c1)).put 1 (.slice A2 n2 c2))
            have hbl := (((HBK.out).setCell (p := ⟨w.heap.size, 0, none⟩) (Nat.le_refl _) (.slice A1 n1 c1)).setCell (p := ⟨w.heap.size, 1, none⟩) (Nat.le_refl _) (.slice A2 n2 c2))
            refine bodyPost_ret (v := .tuple #[.agg #[(.slice A1 n1 c1), (.slice A2 n2 c2)], .int .i64 0]) ?_ rfl ⟨.agg #[(.slice A1 n1 c1), (.slice A2 n2 c2)], by rw [HE.out]; rfl, by rw [HE.out]; exact ⟨_, _, rfl, sl_res T1.out HRK.out _ _ _ _ _ _, sl_res T2.out HRK.out _ _ _ _ _ _⟩, hbl⟩
            have hr := run_loadVar_at (P := Try.prog) _ ⟨w.heap.size, 0, none⟩ 28 [(.slice A1 n1 c1), (.slice A2 n2 c2)] _ hbk.at Try.underlying28 rfl size28
            simp [results, Try.results41, asAddr, hr]
end Go.Proofs.Ytbfhilbagojdnaa
namespace Go.Proofs.Ytbfhilbagojdnaa
open Go.RowKit Wr Go.Proofs.Ytbfhilbagojdnaa.Nm
set_option linter.unusedVariables false
set_option maxRecDepth 100000

theorem dropz_len_eq (l : List Nat) : (dropz l).length = l.length ↔ dropz l = l := by
  constructor
  · intro h
    have := dropz_take l
    rw [h, List.take_length] at this; exact this
  · intro h; rw [h]
theorem beq_len (a b : Nat) (q : Bool) (h : q = decide (a = b)) : (((a : Nat) : Int) == ((b : Nat) : Int)) = q := by
  rw [h, Bool.eq_iff_iff]; simp only [beq_iff_eq, decide_eq_true_eq]; omega
set_option maxHeartbeats 4000000 in
theorem rvalid_sl {v1 v2 : Value} {n d : List Nat} {w : World} (h1 : Sl w v1 n) (h2 : Sl w v2 d) (hon : Ok n) (hod : Ok d) (hl : n.length ≤ 40000) (hl2 : d.length ≤ 40000) : Calls Try.prog 9 #[.agg #[v1, v2]] w (VlP w (n, d)) := by
  have S1 := Lib.hid h1; have S2 := Lib.hid h2
  have HT1 := Lib.hid (fun W (h : Below w.heap.size w W) => trim_any (h1.below h) (by omega))
  have HT2 := Lib.hid (fun W (h : Below w.heap.size w W) => trim_any (h2.below h) (by omega))
  obtain ⟨A, c, e1, hc, hn, hr⟩ := h1
  obtain ⟨A2, c2, e2, hc2, hn2, hr2⟩ := h2
  subst e1 e2
  have HLL := Lib.hid (And.intro hl hl2); have HON := Lib.hid (And.intro hon hod)
  obtain ⟨ln, hln⟩ : ∃ z, z = n.length := ⟨_, rfl⟩
  obtain ⟨ld, hld⟩ : ∃ z, z = d.length := ⟨_, rfl⟩
  obtain ⟨m1, hm1⟩ : ∃ z, z = (dropz n).length := ⟨_, rfl⟩
  obtain ⟨m2, hm2⟩ : ∃ z, z = (dropz d).length := ⟨_, rfl⟩
  have HLN := Lib.hid (And.intro hln hld); have HM1 := Lib.hid hm1; have HM2 := Lib.hid hm2
  have hp1 : m1 = ln ↔ dropz n = n := by rw [hm1, hln]; exact dropz_len_eq n
  have hp2 : m2 = ld ↔ dropz d = d := by rw [hm2, hld]; exact dropz_len_eq d
  rw [← hln] at S1 HT1 hl
  rw [← hld] at S2 HT2 hl2
  rw [← hln, ← hld]
  have HX0 := Lib.hid (box0 w (.slice A ln c) (.slice A2 ld c2)); have HB0 := Lib.hid (boxb w (.slice A ln c) (.slice A2 ld c2))
  have HP1 := Lib.hid hp1; have HP2 := Lib.hid hp2
  clear hc hn hr hc2 hn2 hr2 hln hld hm1 hm2 hon hod hp1 hp2
  by_cases hbig : 64 < ln ∨ 64 < ld
  · have HE := Lib.hid (show vld (n, d) = 4 by unfold vld; rw [if_pos (by show 64 < n.length ∨ 64 < d.length; rw [← HLN.out.1, ← HLN.out.2]; exact hbig)])
    by_cases g1 : 64 < ln
    · have hg : (64 : Int) < (ln : Int) := by omega
      clear hbig g1
      go_enter Try.func9, Try.ntmps9
      go_wp2_with fail
      go_ret
      exact ⟨by rw [HE.out]; rfl, HB0.out⟩
    · have hg : ¬ (64 : Int) < (ln : Int) := by omega
      have hg2 : (64 : Int) < (ld : Int) := by omega
      clear hbig g1
      go_enter Try.func9, Try.ntmps9
      go_wp2_with fail
      go_ret
      exact ⟨by rw [HE.out]; rfl, HB0.out⟩
  · have hg : ¬ (64 : Int) < (ln : Int) := by omega
    have hg2 : ¬ (64 : Int) < (ld : Int) := by omega
    have HNB := Lib.hid (show ¬ (64 < (n, d).1.length ∨ 64 < (n, d).2.length) by show ¬ (64 < n.length ∨ 64 < d.length); rw [← HLN.out.1, ← HLN.out.2]; exact hbig)
    obtain ⟨pr, hpr⟩ : ∃ b, b = decide (dropz n = n ∧ dropz d = d) := ⟨_, rfl⟩
    have HPB := Lib.hid hpr
    clear hbig hpr
    go_enter Try.func9, Try.ntmps9
    go_upto_region 3 with fail
    generalize w.alloc (.cells #[.slice A ln c, .slice A2 ld c2] 28) = W0 at HX0 HB0 ⊢
    have HX := HX0; have HB := HB0
    clear HX0 HB0
    go_cut [3] (fun s3 wx => s3 = .bool pr ∧ Blk wx w.heap.size 28 [.slice A ln c, .slice A2 ld c2] ∧ Below w.heap.size w wx)
    case first =>
      by_cases p1 : m1 = ln
      · have HB1 := Lib.hid (beq_len m1 ln true (by simp [p1]))
        by_cases p2 : m2 = ld
        · have HB2 := Lib.hid (beq_len m2 ld true (by simp [p2]))
          have HPR := Lib.hid (show pr = true by rw [HPB.out]; exact decide_eq_true ⟨HP1.out.1 p1, HP2.out.1 p2⟩)
          clear p1 p2
          refine wp_region_held (S := fun W => Blk W w.heap.size 28 [.slice A ln c, .slice A2 ld c2]) (by kernel_rfl) ?_
          change wpAnyH _ _ _ _ _ _ _ _ (World.drew W0)
          have hs0 : Blk (World.drew W0) w.heap.size 28 [.slice A ln c, .slice A2 ld c2] := HX.out
          have BD : Hid (Below w.heap.size w (World.drew W0)) := Lib.hid (below_drewN HB.out 1)
          generalize World.drew W0 = Wd at hs0 BD ⊢
          refine wpAnyH_take (i := 0) (oi := { dst := some 14, op := Op.fieldAddr 28 (Operand.tmp 1) 0, type := 0, pos := "ref.go:192", after := #[], guard := none }) (v := .pointer (some ⟨w.heap.size, 0, none⟩)) rfl (by kernel_rfl) (by kernel_rfl) (by kernel_rfl) (fun _ _ _ h => h) (Or.inl ⟨by rfl, fun W hW => ?y1⟩) hs0 ?_
          case y1 => go_simp
          try dsimp only [Act.put]
          try simp only [List.setIfInBounds_toArray, List.set_cons_zero, List.set_cons_succ]
          refine wpAnyH_take (i := 1) (oi := { dst := some 15, op := Op.load 22 (Operand.tmp 14), type := 22, pos := "ref.go:192", after := #[{ on := 0, ground := Ground.data }], guard := none }) (v := .slice A ln c) rfl (by kernel_rfl) (by kernel_rfl) (by kernel_rfl) (fun _ _ _ h => h) (Or.inl ⟨by rfl, fun W hW => by have hcl : W.cell? ⟨w.heap.size, 0, none⟩ = some (.slice A ln c) := (Blk.cell hW 0).trans rfl; go_simp⟩) hs0 ?_
          try dsimp only [Act.put]
          try simp only [List.setIfInBounds_toArray, List.set_cons_zero, List.set_cons_succ]
          refine wpAnyH_take (i := 4) (oi := { dst := some 18, op := Op.fieldAddr 28 (Operand.tmp 1) 0, type := 0, pos := "ref.go:192", after := #[], guard := none }) (v := .pointer (some ⟨w.heap.size, 0, none⟩)) rfl (by kernel_rfl) (by kernel_rfl) (by kernel_rfl) (fun _ _ _ h => h) (Or.inl ⟨by rfl, fun W hW => ?y3⟩) hs0 ?_
          case y3 => go_simp
          try dsimp only [Act.put]
          try simp only [List.setIfInBounds_toArray, List.set_cons_zero, List.set_cons_succ]
          refine wpAnyH_take (i := 5) (oi := { dst := some 19, op := Op.load 22 (Operand.tmp 18), type := 22, pos := "ref.go:192", after := #[{ on := 4, ground := Ground.data }], guard := none }) (v := .slice A ln c) rfl (by kernel_rfl) (by kernel_rfl) (by kernel_rfl) (fun _ _ _ h => h) (Or.inl ⟨by rfl, fun W hW => by have hcl : W.cell? ⟨w.heap.size, 0, none⟩ = some (.slice A ln c) := (Blk.cell hW 0).trans rfl; go_simp⟩) hs0 ?_
          try dsimp only [Act.put]
          try simp only [List.setIfInBounds_toArray, List.set_cons_zero, List.set_cons_succ]
          refine wpAnyH_take (i := 6) (oi := { dst := some 20, op := Op.call { callee := Callee.builtin Builtin.len, args := #[Operand.tmp 19], argTypes := #[22] }, type := 3, pos := "ref.go:192", after := #[{ on := 5, ground := Ground.data }], guard := none }) (v := .int .i64 ((ln : Nat) : Int)) rfl (by kernel_rfl) (by kernel_rfl) (by kernel_rfl) (fun _ _ _ h => h) (Or.inl ⟨by rfl, fun W hW => ?y5⟩) hs0 ?_
          case y5 => go_simp
          try dsimp only [Act.put]
          try simp only [List.setIfInBounds_toArray, List.set_cons_zero, List.set_cons_succ]
          refine wpAnyH_ready (rs := [2]) (by kernel_rfl) (by simp) ?_
          refine AllReadyH.cons (o := { dst := some 16, op := Op.call { callee := Callee.value (Operand.func 36), args := #[Operand.tmp 15], argTypes := #[22] }, type := 22, pos := "ref.go:192", after := #[{ on := 1, ground := Ground.data }], guard := none }) rfl (fun K hK => ?_) AllReadyH.nil
          rw [if_pos (by rfl)]
          go_simp
          refine (HT1.out _ BD.out).mono ?_; rintro e w6 ⟨v, rfl, ⟨A', c', e2, _, _, _⟩, hb⟩
          have B8 := Lib.hid (below_step BD.out hb)
          have hs7 := hs0.below hb hs0.lt
          rw [← HM1.out] at e2
          subst e2
          clear hb
          go_wp2_with fail
          refine hK.out _ _ hs7 (fun _ => ?_)
          clear hK K
          try dsimp only [Act.put]
          try simp only [List.setIfInBounds_toArray, List.set_cons_zero, List.set_cons_succ]
          refine wpAnyH_take (i := 3) (oi := { dst := some 17, op := Op.call { callee := Callee.builtin Builtin.len, args := #[Operand.tmp 16], argTypes := #[22] }, type := 3, pos := "ref.go:192", after := #[{ on := 2, ground := Ground.data }], guard := none }) (v := .int .i64 ((m1 : Nat) : Int)) rfl (by kernel_rfl) (by kernel_rfl) (by kernel_rfl) (fun _ _ _ h => h) (Or.inl ⟨by rfl, fun W hW => ?y9⟩) hs7 ?_
          case y9 => go_simp
          try dsimp only [Act.put]
          try simp only [List.setIfInBounds_toArray, List.set_cons_zero, List.set_cons_succ]
          refine wpAnyH_take (i := 7) (oi := { dst := some 21, op := Op.binOp BinOp.eql 3 (Operand.tmp 17) (Operand.tmp 20) 3, type := 4, pos := "ref.go:192", after := #[{ on := 3, ground := Ground.data }, { on := 6, ground := Ground.data }], guard := none }) (v := .bool true) rfl (by kernel_rfl) (by kernel_rfl) (by kernel_rfl) (fun _ _ _ h => h) (Or.inl ⟨by rfl, fun W hW => by have h := HB1.out; go_simp⟩) hs7 ?_
          try dsimp only [Act.put]
          try simp only [List.setIfInBounds_toArray, List.set_cons_zero, List.set_cons_succ]
          refine wpAnyH_take (i := 8) (oi := { dst := some 22, op := Op.move (Operand.tmp 21), type := 4, pos := "ref.go:192", after := #[{ on := 7, ground := Ground.data }, { on := 2, ground := Ground.chain }], guard := none }) (v := .bool true) rfl (by kernel_rfl) (by kernel_rfl) (by kernel_rfl) (fun _ _ _ h => h) (Or.inl ⟨by rfl, fun W hW => ?y11⟩) hs7 ?_
          case y11 => go_simp
          try dsimp only [Act.put]
          try simp only [List.setIfInBounds_toArray, List.set_cons_zero, List.set_cons_succ]
          refine wpAnyH_take (i := 9) (oi := { dst := some 23, op := Op.fieldAddr 28 (Operand.tmp 1) 1, type := 0, pos := "ref.go:192", after := #[{ on := 8, ground := Ground.guard }], guard := some (8, true) }) (v := .pointer (some ⟨w.heap.size, 1, none⟩)) rfl (by kernel_rfl) (by kernel_rfl) (by kernel_rfl) (fun _ _ _ h => h) (Or.inl ⟨by rfl, fun W hW => ?y12⟩) hs7 ?_
          case y12 => go_simp
          try dsimp only [Act.put]
          try simp only [List.setIfInBounds_toArray, List.set_cons_zero, List.set_cons_succ]
          refine wpAnyH_take (i := 10) (oi := { dst := some 24, op := Op.load 22 (Operand.tmp 23), type := 22, pos := "ref.go:192", after := #[{ on := 9, ground := Ground.data }, { on := 8, ground := Ground.guard }], guard := some (8, true) }) (v := .slice A2 ld c2) rfl (by kernel_rfl) (by kernel_rfl) (by kernel_rfl) (fun _ _ _ h => h) (Or.inl ⟨by rfl, fun W hW => by have hcl : W.cell? ⟨w.heap.size, 1, none⟩ = some (.slice A2 ld c2) := (Blk.cell hW 1).trans rfl; go_simp⟩) hs7 ?_
          try dsimp only [Act.put]
          try simp only [List.setIfInBounds_toArray, List.set_cons_zero, List.set_cons_succ]
          refine wpAnyH_take (i := 13) (oi := { dst := some 27, op := Op.fieldAddr 28 (Operand.tmp 1) 1, type := 0, pos := "ref.go:192", after := #[{ on := 8, ground := Ground.guard }], guard := some (8, true) }) (v := .pointer (some ⟨w.heap.size, 1, none⟩)) rfl (by kernel_rfl) (by kernel_rfl) (by kernel_rfl) (fun _ _ _ h => h) (Or.inl ⟨by rfl, fun W hW => ?y14⟩) hs7 ?_
          case y14 => go_simp
          try dsimp only [Act.put]
          try simp only [List.setIfInBounds_toArray, List.set_cons_zero, List.set_cons_succ]
          refine wpAnyH_take (i := 14) (oi := { dst := some 28, op := Op.load 22 (Operand.tmp 27), type := 22, pos := "ref.go:192", after := #[{ on := 13, ground := Ground.data }, { on := 8, ground := Ground.guard }], guard := some (8, true) }) (v := .slice A2 ld c2) rfl (by kernel_rfl) (by kernel_rfl) (by kernel_rfl) (fun _ _ _ h => h) (Or.inl ⟨by rfl, fun W hW => by have hcl : W.cell? ⟨w.heap.size, 1, none⟩ = some (.slice A2 ld c2) := (Blk.cell hW 1).trans rfl; go_simp⟩) hs7 ?_
          try dsimp only [Act.put]
          try simp only [List.setIfInBounds_toArray, List.set_cons_zero, List.set_cons_succ]
          refine wpAnyH_take (i := 15) (oi := { dst := some 29, op := Op.call { callee := Callee.builtin Builtin.len, args := #[Operand.tmp 28], argTypes := #[22] }, type := 3, pos := "ref.go:192", after := #[{ on := 14, ground := Ground.data }, { on := 8, ground := Ground.guard }], guard := some (8, true) }) (v := .int .i64 ((ld : Nat) : Int)) rfl (by kernel_rfl) (by kernel_rfl) (by kernel_rfl) (fun _ _ _ h => h) (Or.inl ⟨by rfl, fun W hW => ?y16⟩) hs7 ?_
          case y16 => go_simp
          try dsimp only [Act.put]
          try simp only [List.setIfInBounds_toArray, List.set_cons_zero, List.set_cons_succ]
          refine wpAnyH_ready (rs := [11]) (by kernel_rfl) (by simp) ?_
          refine AllReadyH.cons (o := { dst := some 25, op := Op.call { callee := Callee.value (Operand.func 36), args := #[Operand.tmp 24], argTypes := #[22] }, type := 22, pos := "ref.go:192", after := #[{ on := 10, ground := Ground.data }, { on := 8, ground := Ground.chain }, { on := 8, ground := Ground.guard }], guard := some (8, true) }) rfl (fun K hK => ?_) AllReadyH.nil
          rw [if_pos (by rfl)]
          go_simp
          refine (HT2.out _ B8.out).mono ?_; rintro e w17 ⟨v, rfl, ⟨A', c', e2, _, _, _⟩, hb⟩
          have B19 := Lib.hid (below_step B8.out hb)
          have hs18 := hs7.below hb hs7.lt
          rw [← HM2.out] at e2
          subst e2
          clear hb
          go_wp2_with fail
          refine hK.out _ _ hs18 (fun _ => ?_)
          clear hK K
          try dsimp only [Act.put]
          try simp only [List.setIfInBounds_toArray, List.set_cons_zero, List.set_cons_succ]
          refine wpAnyH_take (i := 12) (oi := { dst := some 26, op := Op.call { callee := Callee.builtin Builtin.len, args := #[Operand.tmp 25], argTypes := #[22] }, type := 3, pos := "ref.go:192", after := #[{ on := 11, ground := Ground.data }, { on := 8, ground := Ground.guard }], guard := some (8, true) }) (v := .int .i64 ((m2 : Nat) : Int)) rfl (by kernel_rfl) (by kernel_rfl) (by kernel_rfl) (fun _ _ _ h => h) (Or.inl ⟨by rfl, fun W hW => ?y20⟩) hs18 ?_
          case y20 => go_simp
          try dsimp only [Act.put]
          try simp only [List.setIfInBounds_toArray, List.set_cons_zero, List.set_cons_succ]
          refine wpAnyH_take (i := 16) (oi := { dst := some 30, op := Op.binOp BinOp.eql 3 (Operand.tmp 26) (Operand.tmp 29) 3, type := 4, pos := "ref.go:192", after := #[{ on := 12, ground := Ground.data }, { on := 15, ground := Ground.data }, { on := 8, ground := Ground.guard }], guard := some (8, true) }) (v := .bool true) rfl (by kernel_rfl) (by kernel_rfl) (by kernel_rfl) (fun _ _ _ h => h) (Or.inl ⟨by rfl, fun W hW => by have h := HB2.out; go_simp⟩) hs18 ?_
          try dsimp only [Act.put]
          try simp only [List.setIfInBounds_toArray, List.set_cons_zero, List.set_cons_succ]
          refine wpAnyH_take (i := 17) (oi := { dst := some 31, op := Op.pick (Operand.tmp 22) (Operand.tmp 30) (Operand.const (Value.bool false)), type := 4, pos := "ref.go:192", after := #[{ on := 8, ground := Ground.data }, { on := 16, ground := Ground.data }], guard := none }) (v := .bool true) rfl (by kernel_rfl) (by kernel_rfl) (by kernel_rfl) (fun _ _ _ h => h) (Or.inl ⟨by rfl, fun W hW => ?y22⟩) hs18 ?_
          case y22 => go_simp
          try dsimp only [Act.put]
          try simp only [List.setIfInBounds_toArray, List.set_cons_zero, List.set_cons_succ]
          refine wpAnyH_take (i := 18) (oi := { dst := some 3, op := Op.assign (Operand.tmp 31), type := 4, pos := "ref.go:192", after := #[{ on := 17, ground := Ground.data }, { on := 11, ground := Ground.chain }, { on := 0, ground := Ground.phase }, { on := 1, ground := Ground.phase }, { on := 2, ground := Ground.phase }, { on := 3, ground := Ground.phase }, { on := 4, ground := Ground.phase }, { on := 5, ground := Ground.phase }, { on := 6, ground := Ground.phase }, { on := 7, ground := Ground.phase }, { on := 8, ground := Ground.phase }, { on := 9, ground := Ground.phase }, { on := 10, ground := Ground.phase }, { on := 11, ground := Ground.phase }, { on := 12, ground := Ground.phase }, { on := 13, ground := Ground.phase }, { on := 14, ground := Ground.phase }, { on := 15, ground := Ground.phase }, { on := 16, ground := Ground.phase }, { on := 17, ground := Ground.phase }], guard := none }) (v := .bool true) rfl (by kernel_rfl) (by kernel_rfl) (by kernel_rfl) (fun _ _ _ h => h) (Or.inl ⟨by rfl, fun W hW => ?y23⟩) hs18 ?_
          case y23 => go_simp
          try dsimp only [Act.put]
          try simp only [List.setIfInBounds_toArray, List.set_cons_zero, List.set_cons_succ]
          refine wpAnyH_done (by kernel_rfl) ?_ _
          try dsimp only [Act.put]
          try simp only [List.setIfInBounds_toArray, List.set_cons_zero, List.set_cons_succ]
          go_wp2_with fail
          go_meet
          exact ⟨by rw [HPR.out], hs18, B19.out⟩
        · have HB2 := Lib.hid (beq_len m2 ld false (by simp [p2]))
          have HPR := Lib.hid (show pr = false by rw [HPB.out]; exact decide_eq_false (fun h => p2 (HP2.out.2 h.2)))
          clear p1 p2
          refine wp_region_held (S := fun W => Blk W w.heap.size 28 [.slice A ln c, .slice A2 ld c2]) (by kernel_rfl) ?_
          change wpAnyH _ _ _ _ _ _ _ _ (World.drew W0)
          have hs0 : Blk (World.drew W0) w.heap.size 28 [.slice A ln c, .slice A2 ld c2] := HX.out
          have BD : Hid (Below w.heap.size w (World.drew W0)) := Lib.hid (below_drewN HB.out 1)
          generalize World.drew W0 = Wd at hs0 BD ⊢
          refine wpAnyH_take (i := 0) (oi := { dst := some 14, op := Op.fieldAddr 28 (Operand.tmp 1) 0, type := 0, pos := "ref.go:192", after := #[], guard := none }) (v := .pointer (some ⟨w.heap.size, 0, none⟩)) rfl (by kernel_rfl) (by kernel_rfl) (by kernel_rfl) (fun _ _ _ h => h) (Or.inl ⟨by rfl, fun W hW => ?y1⟩) hs0 ?_
          case y1 => go_simp
          try dsimp only [Act.put]
          try simp only [List.setIfInBounds_toArray, List.set_cons_zero, List.set_cons_succ]
          refine wpAnyH_take (i := 1) (oi := { dst := some 15, op := Op.load 22 (Operand.tmp 14), type := 22, pos := "ref.go:192", after := #[{ on := 0, ground := Ground.data }], guard := none }) (v := .slice A ln c) rfl (by kernel_rfl) (by kernel_rfl) (by kernel_rfl) (fun _ _ _ h => h) (Or.inl ⟨by rfl, fun W hW => by have hcl : W.cell? ⟨w.heap.size, 0, none⟩ = some (.slice A ln c) := (Blk.cell hW 0).trans rfl; go_simp⟩) hs0 ?_
          try dsimp only [Act.put]
          try simp only [List.setIfInBounds_toArray, List.set_cons_zero, List.set_cons_succ]
          refine wpAnyH_take (i := 4) (oi := { dst := some 18, op := Op.fieldAddr 28 (Operand.tmp 1) 0, type := 0, pos := "ref.go:192", after := #[], guard := none }) (v := .pointer (some ⟨w.heap.size, 0, none⟩)) rfl (by kernel_rfl) (by kernel_rfl) (by kernel_rfl) (fun _ _ _ h => h) (Or.inl ⟨by rfl, fun W hW => ?y3⟩) hs0 ?_
          case y3 => go_simp
          try dsimp only [Act.put]
          try simp only [List.setIfInBounds_toArray, List.set_cons_zero, List.set_cons_succ]
          refine wpAnyH_take (i := 5) (oi := { dst := some 19, op := Op.load 22 (Operand.tmp 18), type := 22, pos := "ref.go:192", after := #[{ on := 4, ground := Ground.data }], guard := none }) (v := .slice A ln c) rfl (by kernel_rfl) (by kernel_rfl) (by kernel_rfl) (fun _ _ _ h => h) (Or.inl ⟨by rfl, fun W hW => by have hcl : W.cell? ⟨w.heap.size, 0, none⟩ = some (.slice A ln c) := (Blk.cell hW 0).trans rfl; go_simp⟩) hs0 ?_
          try dsimp only [Act.put]
          try simp only [List.setIfInBounds_toArray, List.set_cons_zero, List.set_cons_succ]
          refine wpAnyH_take (i := 6) (oi := { dst := some 20, op := Op.call { callee := Callee.builtin Builtin.len, args := #[Operand.tmp 19], argTypes := #[22] }, type := 3, pos := "ref.go:192", after := #[{ on := 5, ground := Ground.data }], guard := none }) (v := .int .i64 ((ln : Nat) : Int)) rfl (by kernel_rfl) (by kernel_rfl) (by kernel_rfl) (fun _ _ _ h => h) (Or.inl ⟨by rfl, fun W hW => ?y5⟩) hs0 ?_
          case y5 => go_simp
          try dsimp only [Act.put]
          try simp only [List.setIfInBounds_toArray, List.set_cons_zero, List.set_cons_succ]
          refine wpAnyH_ready (rs := [2]) (by kernel_rfl) (by simp) ?_
          refine AllReadyH.cons (o := { dst := some 16, op := Op.call { callee := Callee.value (Operand.func 36), args := #[Operand.tmp 15], argTypes := #[22] }, type := 22, pos := "ref.go:192", after := #[{ on := 1, ground := Ground.data }], guard := none }) rfl (fun K hK => ?_) AllReadyH.nil
          rw [if_pos (by rfl)]
          go_simp
          refine (HT1.out _ BD.out).mono ?_; rintro e w6 ⟨v, rfl, ⟨A', c', e2, _, _, _⟩, hb⟩
          have B8 := Lib.hid (below_step BD.out hb)
          have hs7 := hs0.below hb hs0.lt
          rw [← HM1.out] at e2
          subst e2
          clear hb
          go_wp2_with fail
          refine hK.out _ _ hs7 (fun _ => ?_)
          clear hK K
          try dsimp only [Act.put]
          try simp only [List.setIfInBounds_toArray, List.set_cons_zero, List.set_cons_succ]
          refine wpAnyH_take (i := 3) (oi := { dst := some 17, op := Op.call { callee := Callee.builtin Builtin.len, args := #[Operand.tmp 16], argTypes := #[22] }, type := 3, pos := "ref.go:192", after := #[{ on := 2, ground := Ground.data }], guard := none }) (v := .int .i64 ((m1 : Nat) : Int)) rfl (by kernel_rfl) (by kernel_rfl) (by kernel_rfl) (fun _ _ _ h => h) (Or.inl ⟨by rfl, fun W hW => ?y9⟩) hs7 ?_
          case y9 => go_simp
          try dsimp only [Act.put]
          try simp only [List.setIfInBounds_toArray, List.set_cons_zero, List.set_cons_succ]
          refine wpAnyH_take (i := 7) (oi := { dst := some 21, op := Op.binOp BinOp.eql 3 (Operand.tmp 17) (Operand.tmp 20) 3, type := 4, pos := "ref.go:192", after := #[{ on := 3, ground := Ground.data }, { on := 6, ground := Ground.data }], guard := none }) (v := .bool true) rfl (by kernel_rfl) (by kernel_rfl) (by kernel_rfl) (fun _ _ _ h => h) (Or.inl ⟨by rfl, fun W hW => by have h := HB1.out; go_simp⟩) hs7 ?_
          try dsimp only [Act.put]
          try simp only [List.setIfInBounds_toArray, List.set_cons_zero, List.set_cons_succ]
          refine wpAnyH_take (i := 8) (oi := { dst := some 22, op := Op.move (Operand.tmp 21), type := 4, pos := "ref.go:192", after := #[{ on := 7, ground := Ground.data }, { on := 2, ground := Ground.chain }], guard := none }) (v := .bool true) rfl (by kernel_rfl) (by kernel_rfl) (by kernel_rfl) (fun _ _ _ h => h) (Or.inl ⟨by rfl, fun W hW => ?y11⟩) hs7 ?_
          case y11 => go_simp
          try dsimp only [Act.put]
          try simp only [List.setIfInBounds_toArray, List.set_cons_zero, List.set_cons_succ]
          refine wpAnyH_take (i := 9) (oi := { dst := some 23, op := Op.fieldAddr 28 (Operand.tmp 1) 1, type := 0, pos := "ref.go:192", after := #[{ on := 8, ground := Ground.guard }], guard := some (8, true) }) (v := .pointer (some ⟨w.heap.size, 1, none⟩)) rfl (by kernel_rfl) (by kernel_rfl) (by kernel_rfl) (fun _ _ _ h => h) (Or.inl ⟨by rfl, fun W hW => ?y12⟩) hs7 ?_
          case y12 => go_simp
          try dsimp only [Act.put]
          try simp only [List.setIfInBounds_toArray, List.set_cons_zero, List.set_cons_succ]
          refine wpAnyH_take (i := 10) (oi := { dst := some 24, op := Op.load 22 (Operand.tmp 23), type := 22, pos := "ref.go:192", after := #[{ on := 9, ground := Ground.data }, { on := 8, ground := Ground.guard }], guard := some (8, true) }) (v := .slice A2 ld c2) rfl (by kernel_rfl) (by kernel_rfl) (by kernel_rfl) (fun _ _ _ h => h) (Or.inl ⟨by rfl, fun W hW => by have hcl : W.cell? ⟨w.heap.size, 1, none⟩ = some (.slice A2 ld c2) := (Blk.cell hW 1).trans rfl; go_simp⟩) hs7 ?_
          try dsimp only [Act.put]
          try simp only [List.setIfInBounds_toArray, List.set_cons_zero, List.set_cons_succ]
          refine wpAnyH_take (i := 13) (oi := { dst := some 27, op := Op.fieldAddr 28 (Operand.tmp 1) 1, type := 0, pos := "ref.go:192", after := #[{ on := 8, ground := Ground.guard }], guard := some (8, true) }) (v := .pointer (some ⟨w.heap.size, 1, none⟩)) rfl (by kernel_rfl) (by kernel_rfl) (by kernel_rfl) (fun _ _ _ h => h) (Or.inl ⟨by rfl, fun W hW => ?y14⟩) hs7 ?_
          case y14 => go_simp
          try dsimp only [Act.put]
          try simp only [List.setIfInBounds_toArray, List.set_cons_zero, List.set_cons_succ]
          refine wpAnyH_take (i := 14) (oi := { dst := some 28, op := Op.load 22 (Operand.tmp 27), type := 22, pos := "ref.go:192", after := #[{ on := 13, ground := Ground.data }, { on := 8, ground := Ground.guard }], guard := some (8, true) }) (v := .slice A2 ld c2) rfl (by kernel_rfl) (by kernel_rfl) (by kernel_rfl) (fun _ _ _ h => h) (Or.inl ⟨by rfl, fun W hW => by have hcl : W.cell? ⟨w.heap.size, 1, none⟩ = some (.slice A2 ld c2) := (Blk.cell hW 1).trans rfl; go_simp⟩) hs7 ?_
          try dsimp only [Act.put]
          try simp only [List.setIfInBounds_toArray, List.set_cons_zero, List.set_cons_succ]
          refine wpAnyH_take (i := 15) (oi := { dst := some 29, op := Op.call { callee := Callee.builtin Builtin.len, args := #[Operand.tmp 28], argTypes := #[22] }, type := 3, pos := "ref.go:192", after := #[{ on := 14, ground := Ground.data }, { on := 8, ground := Ground.guard }], guard := some (8, true) }) (v := .int .i64 ((ld : Nat) : Int)) rfl (by kernel_rfl) (by kernel_rfl) (by kernel_rfl) (fun _ _ _ h => h) (Or.inl ⟨by rfl, fun W hW => ?y16⟩) hs7 ?_
          case y16 => go_simp
          try dsimp only [Act.put]
          try simp only [List.setIfInBounds_toArray, List.set_cons_zero, List.set_cons_succ]
          refine wpAnyH_ready (rs := [11]) (by kernel_rfl) (by simp) ?_
          refine AllReadyH.cons (o := { dst := some 25, op := Op.call { callee := Callee.value (Operand.func 36), args := #[Operand.tmp 24], argTypes := #[22] }, type := 22, pos := "ref.go:192", after := #[{ on := 10, ground := Ground.data }, { on := 8, ground := Ground.chain }, { on := 8, ground := Ground.guard }], guard := some (8, true) }) rfl (fun K hK => ?_) AllReadyH.nil
          rw [if_pos (by rfl)]
          go_simp
          refine (HT2.out _ B8.out).mono ?_; rintro e w17 ⟨v, rfl, ⟨A', c', e2, _, _, _⟩, hb⟩
          have B19 := Lib.hid (below_step B8.out hb)
          have hs18 := hs7.below hb hs7.lt
          rw [← HM2.out] at e2
          subst e2
          clear hb
          go_wp2_with fail
          refine hK.out _ _ hs18 (fun _ => ?_)
          clear hK K
          try dsimp only [Act.put]
          try simp only [List.setIfInBounds_toArray, List.set_cons_zero, List.set_cons_succ]
          refine wpAnyH_take (i := 12) (oi := { dst := some 26, op := Op.call { callee := Callee.builtin Builtin.len, args := #[Operand.tmp 25], argTypes := #[22] }, type := 3, pos := "ref.go:192", after := #[{ on := 11, ground := Ground.data }, { on := 8, ground := Ground.guard }], guard := some (8, true) }) (v := .int .i64 ((m2 : Nat) : Int)) rfl (by kernel_rfl) (by kernel_rfl) (by kernel_rfl) (fun _ _ _ h => h) (Or.inl ⟨by rfl, fun W hW => ?y20⟩) hs18 ?_
          case y20 => go_simp
          try dsimp only [Act.put]
          try simp only [List.setIfInBounds_toArray, List.set_cons_zero, List.set_cons_succ]
          refine wpAnyH_take (i := 16) (oi := { dst := some 30, op := Op.binOp BinOp.eql 3 (Operand.tmp 26) (Operand.tmp 29) 3, type := 4, pos := "ref.go:192", after := #[{ on := 12, ground := Ground.data }, { on := 15, ground := Ground.data }, { on := 8, ground := Ground.guard }], guard := some (8, true) }) (v := .bool false) rfl (by kernel_rfl) (by kernel_rfl) (by kernel_rfl) (fun _ _ _ h => h) (Or.inl ⟨by rfl, fun W hW => by have h := HB2.out; go_simp⟩) hs18 ?_
          try dsimp only [Act.put]
          try simp only [List.setIfInBounds_toArray, List.set_cons_zero, List.set_cons_succ]
          refine wpAnyH_take (i := 17) (oi := { dst := some 31, op := Op.pick (Operand.tmp 22) (Operand.tmp 30) (Operand.const (Value.bool false)), type := 4, pos := "ref.go:192", after := #[{ on := 8, ground := Ground.data }, { on := 16, ground := Ground.data }], guard := none }) (v := .bool false) rfl (by kernel_rfl) (by kernel_rfl) (by kernel_rfl) (fun _ _ _ h => h) (Or.inl ⟨by rfl, fun W hW => ?y22⟩) hs18 ?_
          case y22 => go_simp
          try dsimp only [Act.put]
          try simp only [List.setIfInBounds_toArray, List.set_cons_zero, List.set_cons_succ]
          refine wpAnyH_take (i := 18) (oi := { dst := some 3, op := Op.assign (Operand.tmp 31), type := 4, pos := "ref.go:192", after := #[{ on := 17, ground := Ground.data }, { on := 11, ground := Ground.chain }, { on := 0, ground := Ground.phase }, { on := 1, ground := Ground.phase }, { on := 2, ground := Ground.phase }, { on := 3, ground := Ground.phase }, { on := 4, ground := Ground.phase }, { on := 5, ground := Ground.phase }, { on := 6, ground := Ground.phase }, { on := 7, ground := Ground.phase }, { on := 8, ground := Ground.phase }, { on := 9, ground := Ground.phase }, { on := 10, ground := Ground.phase }, { on := 11, ground := Ground.phase }, { on := 12, ground := Ground.phase }, { on := 13, ground := Ground.phase }, { on := 14, ground := Ground.phase }, { on := 15, ground := Ground.phase }, { on := 16, ground := Ground.phase }, { on := 17, ground := Ground.phase }], guard := none }) (v := .bool false) rfl (by kernel_rfl) (by kernel_rfl) (by kernel_rfl) (fun _ _ _ h => h) (Or.inl ⟨by rfl, fun W hW => ?y23⟩) hs18 ?_
          case y23 => go_simp
          try dsimp only [Act.put]
          try simp only [List.setIfInBounds_toArray, List.set_cons_zero, List.set_cons_succ]
          refine wpAnyH_done (by kernel_rfl) ?_ _
          try dsimp only [Act.put]
          try simp only [List.setIfInBounds_toArray, List.set_cons_zero, List.set_cons_succ]
          go_wp2_with fail
          go_meet
          exact ⟨by rw [HPR.out], hs18, B19.out⟩
      · have HB1 := Lib.hid (beq_len m1 ln false (by simp [p1]))
        have HPR := Lib.hid (show pr = false by rw [HPB.out]; exact decide_eq_false (fun h => p1 (HP1.out.2 h.1)))
        clear p1
        refine wp_region_held (S := fun W => Blk W w.heap.size 28 [.slice A ln c, .slice A2 ld c2]) (by kernel_rfl) ?_
        change wpAnyH _ _ _ _ _ _ _ _ (World.drew W0)
        have hs0 : Blk (World.drew W0) w.heap.size 28 [.slice A ln c, .slice A2 ld c2] := HX.out
        have BD : Hid (Below w.heap.size w (World.drew W0)) := Lib.hid (below_drewN HB.out 1)
        generalize World.drew W0 = Wd at hs0 BD ⊢
        refine wpAnyH_take (i := 0) (oi := { dst := some 14, op := Op.fieldAddr 28 (Operand.tmp 1) 0, type := 0, pos := "ref.go:192", after := #[], guard := none }) (v := .pointer (some ⟨w.heap.size, 0, none⟩)) rfl (by kernel_rfl) (by kernel_rfl) (by kernel_rfl) (fun _ _ _ h => h) (Or.inl ⟨by rfl, fun W hW => ?y1⟩) hs0 ?_
        case y1 => go_simp
        try dsimp only [Act.put]
        try simp only [List.setIfInBounds_toArray, List.set_cons_zero, List.set_cons_succ]
        refine wpAnyH_take (i := 1) (oi := { dst := some 15, op := Op.load 22 (Operand.tmp 14), type := 22, pos := "ref.go:192", after := #[{ on := 0, ground := Ground.data }], guard := none }) (v := .slice A ln c) rfl (by kernel_rfl) (by kernel_rfl) (by kernel_rfl) (fun _ _ _ h => h) (Or.inl ⟨by rfl, fun W hW => by have hcl : W.cell? ⟨w.heap.size, 0, none⟩ = some (.slice A ln c) := (Blk.cell hW 0).trans rfl; go_simp⟩) hs0 ?_
        try dsimp only [Act.put]
        try simp only [List.setIfInBounds_toArray, List.set_cons_zero, List.set_cons_succ]
        refine wpAnyH_take (i := 4) (oi := { dst := some 18, op := Op.fieldAddr 28 (Operand.tmp 1) 0, type := 0, pos := "ref.go:192", after := #[], guard := none }) (v := .pointer (some ⟨w.heap.size, 0, none⟩)) rfl (by kernel_rfl) (by kernel_rfl) (by kernel_rfl) (fun _ _ _ h => h) (Or.inl ⟨by rfl, fun W hW => ?y3⟩) hs0 ?_
        case y3 => go_simp
        try dsimp only [Act.put]
        try simp only [List.setIfInBounds_toArray, List.set_cons_zero, List.set_cons_succ]
        refine wpAnyH_take (i := 5) (oi := { dst := some 19, op := Op.load 22 (Operand.tmp 18), type := 22, pos := "ref.go:192", after := #[{ on := 4, ground := Ground.data }], guard := none }) (v := .slice A ln c) rfl (by kernel_rfl) (by kernel_rfl) (by kernel_rfl) (fun _ _ _ h => h) (Or.inl ⟨by rfl, fun W hW => by have hcl : W.cell? ⟨w.heap.size, 0, none⟩ = some (.slice A ln c) := (Blk.cell hW 0).trans rfl; go_simp⟩) hs0 ?_
        try dsimp only [Act.put]
        try simp only [List.setIfInBounds_toArray, List.set_cons_zero, List.set_cons_succ]
        refine wpAnyH_take (i := 6) (oi := { dst := some 20, op := Op.call { callee := Callee.builtin Builtin.len, args := #[Operand.tmp 19], argTypes := #[22] }, type := 3, pos := "ref.go:192", after := #[{ on := 5, ground := Ground.data }], guard := none }) (v := .int .i64 ((ln : Nat) : Int)) rfl (by kernel_rfl) (by kernel_rfl) (by kernel_rfl) (fun _ _ _ h => h) (Or.inl ⟨by rfl, fun W hW => ?y5⟩) hs0 ?_
        case y5 => go_simp
        try dsimp only [Act.put]
        try simp only [List.setIfInBounds_toArray, List.set_cons_zero, List.set_cons_succ]
        refine wpAnyH_ready (rs := [2]) (by kernel_rfl) (by simp) ?_
        refine AllReadyH.cons (o := { dst := some 16, op := Op.call { callee := Callee.value (Operand.func 36), args := #[Operand.tmp 15], argTypes := #[22] }, type := 22, pos := "ref.go:192", after := #[{ on := 1, ground := Ground.data }], guard := none }) rfl (fun K hK => ?_) AllReadyH.nil
        rw [if_pos (by rfl)]
        go_simp
        refine (HT1.out _ BD.out).mono ?_; rintro e w6 ⟨v, rfl, ⟨A', c', e2, _, _, _⟩, hb⟩
        have B8 := Lib.hid (below_step BD.out hb)
        have hs7 := hs0.below hb hs0.lt
        rw [← HM1.out] at e2
        subst e2
        clear hb
        go_wp2_with fail
        refine hK.out _ _ hs7 (fun _ => ?_)
        clear hK K
        try dsimp only [Act.put]
        try simp only [List.setIfInBounds_toArray, List.set_cons_zero, List.set_cons_succ]
        refine wpAnyH_take (i := 3) (oi := { dst := some 17, op := Op.call { callee := Callee.builtin Builtin.len, args := #[Operand.tmp 16], argTypes := #[22] }, type := 3, pos := "ref.go:192", after := #[{ on := 2, ground := Ground.data }], guard := none }) (v := .int .i64 ((m1 : Nat) : Int)) rfl (by kernel_rfl) (by kernel_rfl) (by kernel_rfl) (fun _ _ _ h => h) (Or.inl ⟨by rfl, fun W hW => ?y9⟩) hs7 ?_
        case y9 => go_simp
        try dsimp only [Act.put]
        try simp only [List.setIfInBounds_toArray, List.set_cons_zero, List.set_cons_succ]
        refine wpAnyH_take (i := 7) (oi := { dst := some 21, op := Op.binOp BinOp.eql 3 (Operand.tmp 17) (Operand.tmp 20) 3, type := 4, pos := "ref.go:192", after := #[{ on := 3, ground := Ground.data }, { on := 6, ground := Ground.data }], guard := none }) (v := .bool false) rfl (by kernel_rfl) (by kernel_rfl) (by kernel_rfl) (fun _ _ _ h => h) (Or.inl ⟨by rfl, fun W hW => by have h := HB1.out; go_simp⟩) hs7 ?_
        try dsimp only [Act.put]
        try simp only [List.setIfInBounds_toArray, List.set_cons_zero, List.set_cons_succ]
        refine wpAnyH_take (i := 8) (oi := { dst := some 22, op := Op.move (Operand.tmp 21), type := 4, pos := "ref.go:192", after := #[{ on := 7, ground := Ground.data }, { on := 2, ground := Ground.chain }], guard := none }) (v := .bool false) rfl (by kernel_rfl) (by kernel_rfl) (by kernel_rfl) (fun _ _ _ h => h) (Or.inl ⟨by rfl, fun W hW => ?y11⟩) hs7 ?_
        case y11 => go_simp
        try dsimp only [Act.put]
        try simp only [List.setIfInBounds_toArray, List.set_cons_zero, List.set_cons_succ]
        refine wpAnyH_take (i := 9) (oi := { dst := some 23, op := Op.fieldAddr 28 (Operand.tmp 1) 1, type := 0, pos := "ref.go:192", after := #[{ on := 8, ground := Ground.guard }], guard := some (8, true) }) (v := undef) rfl (by kernel_rfl) (by kernel_rfl) (by kernel_rfl) (fun _ _ _ h => h) (Or.inr ⟨by rfl, rfl⟩) hs7 ?_
        try dsimp only [Act.put]
        try simp only [List.setIfInBounds_toArray, List.set_cons_zero, List.set_cons_succ]
        refine wpAnyH_take (i := 10) (oi := { dst := some 24, op := Op.load 22 (Operand.tmp 23), type := 22, pos := "ref.go:192", after := #[{ on := 9, ground := Ground.data }, { on := 8, ground := Ground.guard }], guard := some (8, true) }) (v := undef) rfl (by kernel_rfl) (by kernel_rfl) (by kernel_rfl) (fun _ _ _ h => h) (Or.inr ⟨by rfl, rfl⟩) hs7 ?_
        try dsimp only [Act.put]
        try simp only [List.setIfInBounds_toArray, List.set_cons_zero, List.set_cons_succ]
        refine wpAnyH_take (i := 11) (oi := { dst := some 25, op := Op.call { callee := Callee.value (Operand.func 36), args := #[Operand.tmp 24], argTypes := #[22] }, type := 22, pos := "ref.go:192", after := #[{ on := 10, ground := Ground.data }, { on := 8, ground := Ground.chain }, { on := 8, ground := Ground.guard }], guard := some (8, true) }) (v := undef) rfl (by kernel_rfl) (by kernel_rfl) (by kernel_rfl) (fun _ _ _ h => h) (Or.inr ⟨by rfl, rfl⟩) hs7 ?_
        try dsimp only [Act.put]
        try simp only [List.setIfInBounds_toArray, List.set_cons_zero, List.set_cons_succ]
        refine wpAnyH_take (i := 12) (oi := { dst := some 26, op := Op.call { callee := Callee.builtin Builtin.len, args := #[Operand.tmp 25], argTypes := #[22] }, type := 3, pos := "ref.go:192", after := #[{ on := 11, ground := Ground.data }, { on := 8, ground := Ground.guard }], guard := some (8, true) }) (v := undef) rfl (by kernel_rfl) (by kernel_rfl) (by kernel_rfl) (fun _ _ _ h => h) (Or.inr ⟨by rfl, rfl⟩) hs7 ?_
        try dsimp only [Act.put]
        try simp only [List.setIfInBounds_toArray, List.set_cons_zero, List.set_cons_succ]
        refine wpAnyH_take (i := 13) (oi := { dst := some 27, op := Op.fieldAddr 28 (Operand.tmp 1) 1, type := 0, pos := "ref.go:192", after := #[{ on := 8, ground := Ground.guard }], guard := some (8, true) }) (v := undef) rfl (by kernel_rfl) (by kernel_rfl) (by kernel_rfl) (fun _ _ _ h => h) (Or.inr ⟨by rfl, rfl⟩) hs7 ?_
        try dsimp only [Act.put]
        try simp only [List.setIfInBounds_toArray, List.set_cons_zero, List.set_cons_succ]
        refine wpAnyH_take (i := 14) (oi := { dst := some 28, op := Op.load 22 (Operand.tmp 27), type := 22, pos := "ref.go:192", after := #[{ on := 13, ground := Ground.data }, { on := 8, ground := Ground.guard }], guard := some (8, true) }) (v := undef) rfl (by kernel_rfl) (by kernel_rfl) (by kernel_rfl) (fun _ _ _ h => h) (Or.inr ⟨by rfl, rfl⟩) hs7 ?_
        try dsimp only [Act.put]
        try simp only [List.setIfInBounds_toArray, List.set_cons_zero, List.set_cons_succ]
        refine wpAnyH_take (i := 15) (oi := { dst := some 29, op := Op.call { callee := Callee.builtin Builtin.len, args := #[Operand.tmp 28], argTypes := #[22] }, type := 3, pos := "ref.go:192", after := #[{ on := 14, ground := Ground.data }, { on := 8, ground := Ground.guard }], guard := some (8, true) }) (v := undef) rfl (by kernel_rfl) (by kernel_rfl) (by kernel_rfl) (fun _ _ _ h => h) (Or.inr ⟨by rfl, rfl⟩) hs7 ?_
        try dsimp only [Act.put]
        try simp only [List.setIfInBounds_toArray, List.set_cons_zero, List.set_cons_succ]
        refine wpAnyH_take (i := 16) (oi := { dst := some 30, op := Op.binOp BinOp.eql 3 (Operand.tmp 26) (Operand.tmp 29) 3, type := 4, pos := "ref.go:192", after := #[{ on := 12, ground := Ground.data }, { on := 15, ground := Ground.data }, { on := 8, ground := Ground.guard }], guard := some (8, true) }) (v := undef) rfl (by kernel_rfl) (by kernel_rfl) (by kernel_rfl) (fun _ _ _ h => h) (Or.inr ⟨by rfl, rfl⟩) hs7 ?_
        try dsimp only [Act.put]
        try simp only [List.setIfInBounds_toArray, List.set_cons_zero, List.set_cons_succ]
        refine wpAnyH_take (i := 17) (oi := { dst := some 31, op := Op.pick (Operand.tmp 22) (Operand.tmp 30) (Operand.const (Value.bool false)), type := 4, pos := "ref.go:192", after := #[{ on := 8, ground := Ground.data }, { on := 16, ground := Ground.data }], guard := none }) (v := .bool false) rfl (by kernel_rfl) (by kernel_rfl) (by kernel_rfl) (fun _ _ _ h => h) (Or.inl ⟨by rfl, fun W hW => ?y20⟩) hs7 ?_
        case y20 => go_simp
        try dsimp only [Act.put]
        try simp only [List.setIfInBounds_toArray, List.set_cons_zero, List.set_cons_succ]
        refine wpAnyH_take (i := 18) (oi := { dst := some 3, op := Op.assign (Operand.tmp 31), type := 4, pos := "ref.go:192", after := #[{ on := 17, ground := Ground.data }, { on := 11, ground := Ground.chain }, { on := 0, ground := Ground.phase }, { on := 1, ground := Ground.phase }, { on := 2, ground := Ground.phase }, { on := 3, ground := Ground.phase }, { on := 4, ground := Ground.phase }, { on := 5, ground := Ground.phase }, { on := 6, ground := Ground.phase }, { on := 7, ground := Ground.phase }, { on := 8, ground := Ground.phase }, { on := 9, ground := Ground.phase }, { on := 10, ground := Ground.phase }, { on := 11, ground := Ground.phase }, { on := 12, ground := Ground.phase }, { on := 13, ground := Ground.phase }, { on := 14, ground := Ground.phase }, { on := 15, ground := Ground.phase }, { on := 16, ground := Ground.phase }, { on := 17, ground := Ground.phase }], guard := none }) (v := .bool false) rfl (by kernel_rfl) (by kernel_rfl) (by kernel_rfl) (fun _ _ _ h => h) (Or.inl ⟨by rfl, fun W hW => ?y21⟩) hs7 ?_
        case y21 => go_simp
        try dsimp only [Act.put]
        try simp only [List.setIfInBounds_toArray, List.set_cons_zero, List.set_cons_succ]
        refine wpAnyH_done (by kernel_rfl) ?_ _
        try dsimp only [Act.put]
        try simp only [List.setIfInBounds_toArray, List.set_cons_zero, List.set_cons_succ]
        go_wp2_with fail
        go_meet
        exact ⟨by rw [HPR.out], hs7, B8.out⟩
    case rest =>
      obtain ⟨rfl, hx, hb⟩ := hcut
      have HX1 := Lib.hid hx; have HB1 := Lib.hid hb
      obtain ⟨hc1, hc2, hf1, hf2⟩ := blk_cells2 hx
      have T1 := Lib.hid (S1.out.below hb); have T2 := Lib.hid (S2.out.below hb)
      clear HX HB HT1 HT2 HM1 HM2 HP1 HP2 S1 S2 hx hb
      cases pr with
      | false =>
        have HE := Lib.hid (show vld (n, d) = 1 by
          have h := of_decide_eq_false HPB.out.symm
          unfold vld
          rw [if_neg HNB.out, if_pos]
          by_cases h1 : dropz n = n
          · exact Or.inr (fun h2 => h ⟨h1, h2⟩)
          · exact Or.inl h1)
        clear HPB
        go_wp2_with fail
        go_ret
        exact ⟨by rw [HE.out]; rfl, HB1.out⟩
      | true =>
        obtain ⟨q1, q2⟩ := of_decide_eq_true HPB.out.symm
        have hv2 : (if d ≠ [] ∧ (d = [1] ∨ n = [] ∨ Nat.gcd (num n) (num d) ≠ 1) then 1 else 0) = vld (n, d) := by
          unfold vld
          have h2 : ¬ (dropz (n, d).1 ≠ (n, d).1 ∨ dropz (n, d).2 ≠ (n, d).2) := by show ¬ (dropz n ≠ n ∨ dropz d ≠ d); simp [q1, q2]
          rw [if_neg HNB.out, if_neg h2]
        have HV2 := Lib.hid hv2
        clear hv2 HNB HPB
        by_cases hd0 : d = []
        · have HE := Lib.hid (show vld (n, d) = 0 by rw [← HV2.out, if_neg (by simp [hd0])])
          have HO := Lib.hid (rone_any T2.out (by rw [hd0]; simp))
          rw [show decide (d = [1]) = false by simp [hd0]] at HO
          have hld0 : ld = 0 := by rw [HLN.out.2, hd0]; rfl
          rw [show d.length = 0 by rw [hd0]; rfl] at *
          subst hld0
          clear HV2 q1 q2 hd0
          by_cases hn0 : ln = 0
          · subst hn0
            go_wp2_with (go_at_call 37; (with_reducible refine HO.out.mono ?_); rintro e w' ⟨rfl, rfl⟩)
            go_ret
            exact ⟨by rw [HE.out]; rfl, HB1.out⟩
          · have hlnp : ((ln : Int) == 0) = false := by rw [beq_eq_false_iff_ne]; omega
            clear hn0
            go_wp2_with (go_at_call 37; (with_reducible refine HO.out.mono ?_); rintro e w' ⟨rfl, rfl⟩)
            go_ret
            exact ⟨by rw [HE.out]; rfl, HB1.out⟩
        · have hldp : 0 < ld := by rw [HLN.out.2]; rcases Nat.eq_zero_or_pos d.length with h | h; exact absurd (List.length_eq_zero_iff.1 h) hd0; exact h
          have hldI2 : (0 : Int) < (ld : Int) := by omega
          by_cases hd1 : d = [1]
          · have HE := Lib.hid (show vld (n, d) = 1 by rw [← HV2.out, if_pos ⟨hd0, Or.inl hd1⟩])
            have HO := Lib.hid (rone_any T2.out (by have := HLL.out.2; omega))
            rw [show decide (d = [1]) = true by simp [hd1]] at HO
            clear HV2 q1 q2 hd0 hd1
            go_wp2_with (go_at_call 37; (with_reducible refine HO.out.mono ?_); rintro e w' ⟨rfl, rfl⟩)
            go_ret
            exact ⟨by rw [HE.out]; rfl, HB1.out⟩
          · have HO := Lib.hid (rone_any T2.out (by have := HLL.out.2; omega))
            rw [show decide (d = [1]) = false by simp [hd1]] at HO
            by_cases hn0 : n = []
            · have HE := Lib.hid (show vld (n, d) = 1 by rw [← HV2.out, if_pos ⟨hd0, Or.inr (Or.inl hn0)⟩])
              have hln0 : ln = 0 := by rw [HLN.out.1, hn0]; rfl
              subst hln0
              clear HV2 q1 q2 hd0 hd1 hn0
              go_wp2_with (go_at_call 37; (with_reducible refine HO.out.mono ?_); rintro e w' ⟨rfl, rfl⟩)
              go_ret
              exact ⟨by rw [HE.out]; rfl, HB1.out⟩
            · have hlnp : ((ln : Int) == 0) = false := by
                rw [beq_eq_false_iff_ne, HLN.out.1]
                intro h; exact hn0 (List.length_eq_zero_iff.1 (by omega))
              have en := Prp.eq q1 HON.out.1
              have ed := Prp.eq q2 HON.out.2
              have hdp : 0 < num d := by
                rcases Nat.eq_zero_or_pos (num d) with h | h
                · rw [h, lim_zero] at ed; exact absurd ed hd0
                · exact h
              have T1' : Sl wc (.slice A ln c) (lim (num n)) := by rw [← en]; exact T1.out
              have T2' : Sl wc (.slice A2 ld c2) (lim (num d)) := by rw [← ed]; exact T2.out
              have HC := Lib.hid (rcommon_any T2' T1' hdp (by rw [← ed]; exact HLL.out.2) (by rw [← en]; exact HLL.out.1))
              rw [Nat.gcd_comm] at HC
              have hGl : (lim (Nat.gcd (num n) (num d))).length ≤ 100000 := lim_short (Nat.le_of_dvd hdp (Nat.gcd_dvd_right _ _)) (by rw [← ed]; have := HLL.out.2; omega)
              obtain ⟨G, hG⟩ : ∃ g, g = Nat.gcd (num n) (num d) := ⟨_, rfl⟩
              have hv3 : (if G ≠ 1 then 1 else 0) = vld (n, d) := by
                rw [← HV2.out, hG]
                by_cases hg : Nat.gcd (num n) (num d) ≠ 1
                · rw [if_pos hg, if_pos ⟨hd0, Or.inr (Or.inr hg)⟩]
                · rw [if_neg hg, if_neg (by rintro ⟨_, h | h | h⟩; exact hd1 h; exact hn0 h; exact hg h)]
              rw [← hG] at HC hGl
              have HV3 := Lib.hid hv3
              clear HV2 q1 q2 hd0 hd1 hn0 en ed T1' T2' hG hv3 hdp
              go_wp2_with (go_at_call 37; (with_reducible refine HO.out.mono ?_); rintro e w' ⟨rfl, rfl⟩)
              refine (HC.out).mono ?_
              rintro e w2 ⟨vg, rfl, hsg, hb2⟩
              have HB2 := Lib.hid (below_step HB1.out hb2)
              obtain ⟨bg, hbg⟩ : ∃ b, b = decide (G = 1) := ⟨_, rfl⟩
              have HO2 := Lib.hid (rone_lim hsg (by omega) bg hbg)
              have HE := Lib.hid (show vld (n, d) = if bg then 0 else 1 by
                rw [← HV3.out, hbg]
                by_cases h : G = 1
                · simp [h]
                · simp [h])
              clear hsg hb2 HV3 hbg HO hGl
              cases bg with
              | true =>
                go_wp2_with (go_at_call 37; (with_reducible refine (HO2.out).mono ?_); rintro e w' ⟨rfl, rfl⟩)
                go_ret
                exact ⟨by rw [HE.out]; rfl, HB2.out⟩
              | false =>
                go_wp2_with (go_at_call 37; (with_reducible refine (HO2.out).mono ?_); rintro e w' ⟨rfl, rfl⟩)
                go_ret
                exact ⟨by rw [HE.out]; rfl, HB2.out⟩
end Go.Proofs.Ytbfhilbagojdnaa
namespace Go.Proofs.Ytbfhilbagojdnaa
open Go.RowKit Wr Go.Proofs.Ytbfhilbagojdnaa.Nm
set_option linter.unusedVariables false
set_option maxRecDepth 100000

theorem Rk.rvalid {w : World} {v1 v2 : Value} {r : Rt} (h : Rk w v1 v2 r) : Calls Try.prog 9 #[.agg #[v1, v2]] w (VlP w r) := by
  have h1 := h.l1; have h2 := h.l2
  exact rvalid_sl h.s1 h.s2 h.ok.1 h.ok.2 (by omega) (by omega)
theorem rcompare_b {v1 v2 : Value} {x y : Nat} {w : World} (h1 : Sl w v1 (lim x)) (h2 : Sl w v2 (lim y)) (hl : (lim x).length ≤ 1000000) (hl2 : (lim y).length ≤ 1000000) : Calls Try.prog 76 #[v1, v2] w fun e w' => e = .returned (.int .i64 (ord x y)) ∧ Below w.heap.size w w' :=
  (rcompare_lim h1 h2 hl hl2).mono fun _ _ ⟨e, h⟩ => ⟨e, by subst h; exact Below.refl _ _⟩
set_option maxHeartbeats 1000000 in
theorem rboth_any {v1 v2 u1 u2 : Value} {r s : Rt} {w : World} (hr : Rk w v1 v2 r) (hs : Rk w u1 u2 s) : Calls Try.prog 85 #[.agg #[v1, v2], .agg #[u1, u2]] w (AvP w r s) := by
  obtain ⟨A1, n1, k1, e1⟩ := sl_form hr.s1
  obtain ⟨A2, n2, k2, e2⟩ := sl_form hr.s2
  obtain ⟨A3, n3, k3, e3⟩ := sl_form hs.s1
  obtain ⟨A4, n4, k4, e4⟩ := sl_form hs.s2
  subst e1 e2 e3 e4
  have hb := boxes2 w (.slice A1 n1 k1) (.slice A2 n2 k2) (.slice A3 n3 k3) (.slice A4 n4 k4)
  have HV := Lib.hid (hr.below hb.2.2).rvalid
  have HS := Lib.hid hs
  have X2 := Lib.hid hb.2.1; have B0 := Lib.hid hb.2.2
  clear hr hs hb
  go_enter Try.func85, Try.ntmps85
  go_wp2_with fail
  refine HV.out.mono ?_
  rintro e w1 ⟨rfl, hb⟩
  have B1 := Lib.hid (below_step B0.out hb)
  have hx2 := X2.out.below hb X2.out.lt
  obtain ⟨hc1, hc2, hf1, hf2⟩ := blk_cells2 hx2
  clear hb hx2 HV
  by_cases hz : vld r = 0
  · rw [hz]
    have HZ := Lib.hid hz
    have HV2 := Lib.hid (HS.out.below B1.out).rvalid
    clear hz
    go_wp2_with fail
    refine HV2.out.mono ?_
    rintro e w2 ⟨rfl, hb⟩
    have B2 := Lib.hid (below_step B1.out hb)
    clear hb
    go_wp2_with fail
    go_ret
    exact ⟨by unfold bothE; rw [if_neg (by simp [HZ.out])]; rfl, B2.out⟩
  · have hne : (((vld r : Nat) : Int) != 0) = true := by rw [bne_iff_ne]; omega
    have HE := Lib.hid (show bothE r s = vld r by unfold bothE; rw [if_pos hz])
    clear hz
    go_wp2_with fail
    go_ret
    exact ⟨by rw [HE.out]; rfl, B1.out⟩
theorem rfront3 {A1 A2 A3 A4 : Option Addr} {n1 n2 n3 n4 k1 k2 k3 k4 : Nat} {r s : Rt} {w : World} (hr : Rk w (.slice A1 n1 k1) (.slice A2 n2 k2) r) (hs : Rk w (.slice A3 n3 k3) (.slice A4 n4 k4) s) :
    Calls Try.prog 85 #[.agg #[.slice A1 n1 k1, .slice A2 n2 k2], .agg #[.slice A3 n3 k3, .slice A4 n4 k4]] ((((w.alloc (.cells #[.slice A1 n1 k1, .slice A2 n2 k2] 28)).alloc (.cells #[.slice A3 n3 k3, .slice A4 n4 k4] 28)).alloc (.cells #[.slice none 0 0, .slice none 0 0] 28))) (fun e w1 => e = .returned (.int .i64 ((bothE r s : Nat) : Int)) ∧ (Blk w1 w.heap.size 28 [.slice A1 n1 k1, .slice A2 n2 k2] ∧ Blk w1 (w.heap.size + 1) 28 [.slice A3 n3 k3, .slice A4 n4 k4]) ∧ Blk w1 (w.heap.size + 2) 28 [.slice none 0 0, .slice none 0 0] ∧ Below w.heap.size w w1) := by
  have hb := boxes3 w (.slice A1 n1 k1) (.slice A2 n2 k2) (.slice A3 n3 k3) (.slice A4 n4 k4)
  refine (rboth_any (hr.below hb.2.2) (hs.below hb.2.2)).mono ?_
  rintro e w1 ⟨rfl, h⟩
  exact ⟨rfl, ⟨hb.1.1.below h hb.1.1.lt, hb.1.2.below h hb.1.2.lt⟩, hb.2.1.below h hb.2.1.lt, below_step hb.2.2 h⟩
theorem rfront2 {A1 A2 A3 A4 : Option Addr} {n1 n2 n3 n4 k1 k2 k3 k4 : Nat} {r s : Rt} {w : World} (hr : Rk w (.slice A1 n1 k1) (.slice A2 n2 k2) r) (hs : Rk w (.slice A3 n3 k3) (.slice A4 n4 k4) s) :
    Calls Try.prog 85 #[.agg #[.slice A1 n1 k1, .slice A2 n2 k2], .agg #[.slice A3 n3 k3, .slice A4 n4 k4]] (((w.alloc (.cells #[.slice A1 n1 k1, .slice A2 n2 k2] 28)).alloc (.cells #[.slice A3 n3 k3, .slice A4 n4 k4] 28))) (fun e w1 => e = .returned (.int .i64 ((bothE r s : Nat) : Int)) ∧ (Blk w1 w.heap.size 28 [.slice A1 n1 k1, .slice A2 n2 k2] ∧ Blk w1 (w.heap.size + 1) 28 [.slice A3 n3 k3, .slice A4 n4 k4]) ∧ Below w.heap.size w w1) := by
  have hb := boxes2 w (.slice A1 n1 k1) (.slice A2 n2 k2) (.slice A3 n3 k3) (.slice A4 n4 k4)
  refine (rboth_any (hr.below hb.2.2) (hs.below hb.2.2)).mono ?_
  rintro e w1 ⟨rfl, h⟩
  exact ⟨rfl, ⟨hb.1.below h hb.1.lt, hb.2.1.below h hb.2.1.lt⟩, below_step hb.2.2 h⟩
set_option maxHeartbeats 2000000 in
theorem rof_any (n d : Int) (w : World) (hn : -9223372036854775808 ≤ n ∧ n ≤ 9223372036854775807) (hd : -9223372036854775808 ≤ d ∧ d ≤ 9223372036854775807) : Calls Try.prog 12 #[.int .i64 n, .int .i64 d] w (RtP w (ofR n d)) := by
  suffices hgen : ∀ Res, Hid (ofR n d = Res) → Calls Try.prog 12 #[.int .i64 n, .int .i64 d] w (RtP w Res) from hgen _ (Lib.hid rfl)
  intro Res HRR
  have hre := HRR.out
  unfold ofR at hre
  have HR0 := Lib.hid (res0 w); have HB0 := Lib.hid (bel0 w)
  by_cases hc : n < 0 ∨ d ≤ 0
  · rw [if_pos hc] at hre
    subst hre
    clear HRR
    by_cases h1 : n < 0
    · clear hc
      go_enter Try.func12, Try.ntmps12
      go_upto_region 1 with (fail)
      generalize w.alloc (.cells #[.slice none 0 0, .slice none 0 0] 28) = W0 at HR0 HB0 ⊢
      obtain ⟨hc1, hc2, hf1, hf2⟩ := blk_cells2 HR0.out
      go_wp2_with fail
      have hbk := (((HR0.out).put 0 (.slice none 0 0)).put 1 (.slice none 0 0))
      have hbl := (((HB0.out).setCell (p := ⟨w.heap.size, 0, none⟩) (Nat.le_refl _) (.slice none 0 0)).setCell (p := ⟨w.heap.size, 1, none⟩) (Nat.le_refl _) (.slice none 0 0))
      refine bodyPost_ret (v := .tuple #[.agg #[(.slice none 0 0), (.slice none 0 0)], .int .i64 5]) ?_ rfl ⟨.agg #[(.slice none 0 0), (.slice none 0 0)], rfl, ⟨_, _, rfl, sl_res (Sl.nil _) HR0.out _ _ _ _ _ _, sl_res (Sl.nil _) HR0.out _ _ _ _ _ _⟩, hbl⟩
      have hr := run_loadVar_at (P := Try.prog) _ ⟨w.heap.size, 0, none⟩ 28 [(.slice none 0 0), (.slice none 0 0)] _ hbk.at Try.underlying28 rfl size28
      simp [results, Try.results12, asAddr, hr]
    · have h2 : d ≤ 0 := by omega
      clear hc
      go_enter Try.func12, Try.ntmps12
      go_upto_region 1 with (fail)
      generalize w.alloc (.cells #[.slice none 0 0, .slice none 0 0] 28) = W0 at HR0 HB0 ⊢
      obtain ⟨hc1, hc2, hf1, hf2⟩ := blk_cells2 HR0.out
      go_wp2_with fail
      have hbk := (((HR0.out).put 0 (.slice none 0 0)).put 1 (.slice none 0 0))
      have hbl := (((HB0.out).setCell (p := ⟨w.heap.size, 0, none⟩) (Nat.le_refl _) (.slice none 0 0)).setCell (p := ⟨w.heap.size, 1, none⟩) (Nat.le_refl _) (.slice none 0 0))
      refine bodyPost_ret (v := .tuple #[.agg #[(.slice none 0 0), (.slice none 0 0)], .int .i64 5]) ?_ rfl ⟨.agg #[(.slice none 0 0), (.slice none 0 0)], rfl, ⟨_, _, rfl, sl_res (Sl.nil _) HR0.out _ _ _ _ _ _, sl_res (Sl.nil _) HR0.out _ _ _ _ _ _⟩, hbl⟩
      have hr := run_loadVar_at (P := Try.prog) _ ⟨w.heap.size, 0, none⟩ 28 [(.slice none 0 0), (.slice none 0 0)] _ hbk.at Try.underlying28 rfl size28
      simp [results, Try.results12, asAddr, hr]
  · rw [if_neg hc] at hre
    subst hre
    clear HRR
    obtain ⟨x, rfl⟩ := Int.eq_ofNat_of_zero_le (show 0 ≤ n by omega)
    obtain ⟨y, rfl⟩ := Int.eq_ofNat_of_zero_le (show 0 ≤ d by omega)
    have h1 : ¬ ((x : Int) < 0) := by omega
    have h2 : ¬ ((y : Int) ≤ 0) := by omega
    have h0 : 0 < y := by omega
    rw [Int.toNat_natCast, Int.toNat_natCast]
    have hx : x < 9223372036854775808 := by omega
    have hy : y < 9223372036854775808 := by omega
    have HL1 := Lib.hid (fun W => whole_any x W hx)
    have HL2 := Lib.hid (fun W => whole_any y W hy)
    have hlx := lim_two (show x < 18446744073709551616 by omega)
    have hly := lim_two (show y < 18446744073709551616 by omega)
    have HLO := Lib.hid (fun W (v1 : Value) (hv1 : Sl W v1 (lim x)) (v2 : Value) (hv2 : Sl W v2 (lim y)) => rreduced_any hv1 hv2 h0 (by omega) (by omega))
    clear hc hlx hly h0
    go_enter Try.func12, Try.ntmps12
    go_wp2_with fail
    refine (HL1.out _).mono ?_
    rintro e w1 ⟨v1, rfl, s1, hb1⟩
    have S1 := Lib.hid s1; have HB1 := Lib.hid (below_step HB0.out hb1); have HR1 := Lib.hid (HR0.out.below hb1 HR0.out.lt)
    clear s1 hb1 HB0 HR0
    go_wp2_with fail
    refine (HL2.out _).mono ?_
    rintro e w2 ⟨v2, rfl, s2, hb2⟩
    have S2 := Lib.hid s2; have S1b := Lib.hid (S1.out.below hb2); have HB2 := Lib.hid (below_step HB1.out hb2); have HR2 := Lib.hid (HR1.out.below hb2 HR1.out.lt)
    clear s2 hb2 HB1 HR1
    go_wp2_with fail
    refine (HLO.out _ _ S1b.out _ S2.out).mono ?_
    rintro e w3 ⟨v, rfl, ⟨u1, u2, rfl, s1, s2⟩, hb2⟩
    have HRk := HR2.out.below hb2 HR2.out.lt
    obtain ⟨hc1, hc2, hf1, hf2⟩ := blk_cells2 HRk
    have T1 := Lib.hid s1; have T2 := Lib.hid s2; have HRK := Lib.hid HRk; have HBK := Lib.hid (below_step HB2.out hb2)
    obtain ⟨C1, m1, j1, e1⟩ := sl_form s1
    obtain ⟨C2, m2, j2, e2⟩ := sl_form s2
    clear hb2 s1 s2 HRk
    subst e1 e2
    go_wp2_with fail
    have hbk := (((HRK.out).put 0 (.slice C1 m1 j1)).put 1 (.slice C2 m2 j2))
    have hbl := (((HBK.out).setCell (p := ⟨w.heap.size, 0, none⟩) (Nat.le_refl _) (.slice C1 m1 j1)).setCell (p := ⟨w.heap.size, 1, none⟩) (Nat.le_refl _) (.slice C2 m2 j2))
    refine bodyPost_ret (v := .tuple #[.agg #[(.slice C1 m1 j1), (.slice C2 m2 j2)], .int .i64 (((lowR x y).2 : Nat) : Int)]) ?_ rfl ⟨.agg #[(.slice C1 m1 j1), (.slice C2 m2 j2)], rfl, ⟨_, _, rfl, sl_res T1.out HRK.out _ _ _ _ _ _, sl_res T2.out HRK.out _ _ _ _ _ _⟩, hbl⟩
    have hr := run_loadVar_at (P := Try.prog) _ ⟨w.heap.size, 0, none⟩ 28 [(.slice C1 m1 j1), (.slice C2 m2 j2)] _ hbk.at Try.underlying28 rfl size28
    simp [results, Try.results12, asAddr, hr]
set_option maxHeartbeats 4000000 in
theorem rorder_any {v1 v2 u1 u2 : Value} {x y x2 y2 : Nat} {w : World} (hr : Rk w v1 v2 (lim x, dl y)) (hs : Rk w u1 u2 (lim x2, dl y2)) (va : Vr x y) (vb : Vr x2 y2) : Calls Try.prog 70 #[.agg #[v1, v2], .agg #[u1, u2]] w fun e w' => e = .returned (.int .i64 (ord (x * y2) (x2 * y))) ∧ Below w.heap.size w w' := by
  obtain ⟨A1, n1, k1, e1⟩ := sl_form hr.s1
  obtain ⟨A2, n2, k2, e2⟩ := sl_form hr.s2
  obtain ⟨A3, n3, k3, e3⟩ := sl_form hs.s1
  obtain ⟨A4, n4, k4, e4⟩ := sl_form hs.s2
  subst e1 e2 e3 e4
  have hbx := boxesL w (.slice A1 n1 k1) (.slice A2 n2 k2) (.slice A3 n3 k3) (.slice A4 n4 k4)
  have HX := Lib.hid hbx.1; have HB := Lib.hid hbx.2
  have HR := Lib.hid hr; have HS := Lib.hid hs
  clear hr hs hbx
  have ha1 : Sl w (.slice A1 n1 k1) (lim x) := HR.out.s1
  have ha2 : Sl w (.slice A2 n2 k2) (dl y) := HR.out.s2
  have hb1 : Sl w (.slice A3 n3 k3) (lim x2) := HS.out.s1
  have hb2 : Sl w (.slice A4 n4 k4) (dl y2) := HS.out.s2
  obtain ⟨la1, la2, la3⟩ := Vr.len va
  obtain ⟨lb1, lb2, lb3⟩ := Vr.len vb
  have hp : 0 < y * y2 := Nat.mul_pos va.pos vb.pos
  have HDA := Lib.hid (fun W (h : Below w.heap.size w W) => rden_sl (ha1.below h) (ha2.below h) va.pos (by omega))
  have HDB := Lib.hid (fun W (h : Below w.heap.size w W) => rden_sl (hb1.below h) (hb2.below h) vb.pos (by omega))
  have HTA := Lib.hid (fun W (h : Below w.heap.size w W) (v : Value) (hv : Sl W v (lim y2)) => rtimes_lim (ha1.below h) hv (by omega) (by omega))
  have mA : (lim (x * y2)).length ≤ 128 := lim_mul la1 lb2
  have HTB := Lib.hid (fun W (h : Below w.heap.size w W) (v : Value) (hv : Sl W v (lim y)) => rtimes_lim (hb1.below h) hv (by omega) (by omega))
  have mB : (lim (x2 * y)).length ≤ 128 := lim_mul lb1 la2
  have HCO := Lib.hid (fun W (h : Below w.heap.size w W) (v1 : Value) (hv1 : Sl W v1 (lim (x * y2))) (v2 : Value) (hv2 : Sl W v2 (lim (x2 * y))) => rcompare_b hv1 hv2 (by omega) (by omega))
  clear ha1 ha2 hb1 hb2 va vb la1 la2 la3 lb1 lb2 lb3 hp mA mB HR HS
  go_enter Try.func70, Try.ntmps70
  go_upto_region 1 with (fail)
  generalize ((w.alloc (.cells #[.slice A1 n1 k1, .slice A2 n2 k2] 28)).alloc (.cells #[.slice A3 n3 k3, .slice A4 n4 k4] 28)) = W0 at HX HB ⊢
  refine wp_region_held (S := fun W => Blk W w.heap.size 28 [(.slice A1 n1 k1), (.slice A2 n2 k2)] ∧ Blk W (w.heap.size + 1) 28 [(.slice A3 n3 k3), (.slice A4 n4 k4)]) (by kernel_rfl) ?_
  change wpAnyH _ _ _ _ _ _ _ _ (World.drew W0)
  have hs0 : Blk (World.drew W0) w.heap.size 28 [(.slice A1 n1 k1), (.slice A2 n2 k2)] ∧ Blk (World.drew W0) (w.heap.size + 1) 28 [(.slice A3 n3 k3), (.slice A4 n4 k4)] := HX.out
  have BD : Hid (Below w.heap.size w (World.drew W0)) := Lib.hid (below_drewN HB.out 1)
  generalize World.drew W0 = Wd at hs0 BD ⊢
  refine wpAnyH_take (i := 0) (oi := { dst := some 5, op := Op.fieldAddr 28 (Operand.tmp 2) 0, type := 0, pos := "ref.go:221", after := #[], guard := none }) (v := .pointer (some ⟨w.heap.size, 0, none⟩)) rfl (by kernel_rfl) (by kernel_rfl) (by kernel_rfl) (fun _ _ _ h => h) (Or.inl ⟨by rfl, fun W hW => ?y1⟩) hs0 ?_
  case y1 => go_simp
  try dsimp only [Act.put]
  try simp only [List.setIfInBounds_toArray, List.set_cons_zero, List.set_cons_succ]
  refine wpAnyH_take (i := 1) (oi := { dst := some 6, op := Op.load 22 (Operand.tmp 5), type := 22, pos := "ref.go:221", after := #[{ on := 0, ground := Ground.data }], guard := none }) (v := (.slice A1 n1 k1)) rfl (by kernel_rfl) (by kernel_rfl) (by kernel_rfl) (fun _ _ _ h => h) (Or.inl ⟨by rfl, fun W hW => by have hcl : W.cell? ⟨w.heap.size, 0, none⟩ = some (.slice A1 n1 k1) := (Blk.cell hW.1 0).trans rfl; go_simp⟩) hs0 ?_
  try dsimp only [Act.put]
  try simp only [List.setIfInBounds_toArray, List.set_cons_zero, List.set_cons_succ]
  refine wpAnyH_take (i := 2) (oi := { dst := some 7, op := Op.load 28 (Operand.tmp 3), type := 28, pos := "ref.go:221", after := #[], guard := none }) (v := .agg #[(.slice A3 n3 k3), (.slice A4 n4 k4)]) rfl (by kernel_rfl) (by kernel_rfl) (by kernel_rfl) (fun _ _ _ h => h) (Or.inl ⟨by rfl, fun W hW => by obtain ⟨hc1, hc2, _, _⟩ := blk_cells2 hW.2; go_simp⟩) hs0 ?_
  try dsimp only [Act.put]
  try simp only [List.setIfInBounds_toArray, List.set_cons_zero, List.set_cons_succ]
  refine wpAnyH_take (i := 5) (oi := { dst := some 10, op := Op.fieldAddr 28 (Operand.tmp 3) 0, type := 0, pos := "ref.go:221", after := #[], guard := none }) (v := .pointer (some ⟨(w.heap.size + 1), 0, none⟩)) rfl (by kernel_rfl) (by kernel_rfl) (by kernel_rfl) (fun _ _ _ h => h) (Or.inl ⟨by rfl, fun W hW => ?y4⟩) hs0 ?_
  case y4 => go_simp
  try dsimp only [Act.put]
  try simp only [List.setIfInBounds_toArray, List.set_cons_zero, List.set_cons_succ]
  refine wpAnyH_take (i := 6) (oi := { dst := some 11, op := Op.load 22 (Operand.tmp 10), type := 22, pos := "ref.go:221", after := #[{ on := 5, ground := Ground.data }], guard := none }) (v := (.slice A3 n3 k3)) rfl (by kernel_rfl) (by kernel_rfl) (by kernel_rfl) (fun _ _ _ h => h) (Or.inl ⟨by rfl, fun W hW => by have hcl : W.cell? ⟨(w.heap.size + 1), 0, none⟩ = some (.slice A3 n3 k3) := (Blk.cell hW.2 0).trans rfl; go_simp⟩) hs0 ?_
  try dsimp only [Act.put]
  try simp only [List.setIfInBounds_toArray, List.set_cons_zero, List.set_cons_succ]
  refine wpAnyH_take (i := 7) (oi := { dst := some 12, op := Op.load 28 (Operand.tmp 2), type := 28, pos := "ref.go:221", after := #[], guard := none }) (v := .agg #[(.slice A1 n1 k1), (.slice A2 n2 k2)]) rfl (by kernel_rfl) (by kernel_rfl) (by kernel_rfl) (fun _ _ _ h => h) (Or.inl ⟨by rfl, fun W hW => by obtain ⟨hc1, hc2, _, _⟩ := blk_cells2 hW.1; go_simp⟩) hs0 ?_
  try dsimp only [Act.put]
  try simp only [List.setIfInBounds_toArray, List.set_cons_zero, List.set_cons_succ]
  refine wpAnyH_ready (rs := [3]) (by kernel_rfl) (by simp) ?_
  refine AllReadyH.cons (o := { dst := some 8, op := Op.call { callee := Callee.value (Operand.func 54), args := #[Operand.tmp 7], argTypes := #[28] }, type := 22, pos := "ref.go:221", after := #[{ on := 2, ground := Ground.data }], guard := none }) rfl (fun K hK => ?_) AllReadyH.nil
  rw [if_pos (by rfl)]
  go_simp
  refine (HDB.out _ BD.out ).mono ?_; rintro e w7 ⟨v8, rfl, hs, hb⟩
  have B10 := Lib.hid (below_step BD.out hb)
  have hs11 := And.intro (hs0.1.below hb hs0.1.lt) (hs0.2.below hb hs0.2.lt)
  have S9 := Lib.hid hs
  clear hs hb
  go_wp2_with fail
  refine hK.out _ _ hs11 (fun _ => ?_)
  clear hK K
  try dsimp only [Act.put]
  try simp only [List.setIfInBounds_toArray, List.set_cons_zero, List.set_cons_succ]
  refine wpAnyH_ready (rs := [4]) (by kernel_rfl) (by simp) ?_
  refine AllReadyH.cons (o := { dst := some 9, op := Op.call { callee := Callee.value (Operand.func 53), args := #[Operand.tmp 6, Operand.tmp 8], argTypes := #[22, 22] }, type := 22, pos := "ref.go:221", after := #[{ on := 1, ground := Ground.data }, { on := 3, ground := Ground.data }, { on := 3, ground := Ground.chain }], guard := none }) rfl (fun K hK => ?_) AllReadyH.nil
  rw [if_pos (by rfl)]
  go_simp
  refine (HTA.out _ B10.out _ S9.out).mono ?_; rintro e w12 ⟨v13, rfl, hs, hb⟩
  have B15 := Lib.hid (below_step B10.out hb)
  have hs16 := And.intro (hs11.1.below hb hs11.1.lt) (hs11.2.below hb hs11.2.lt)
  have S17 := Lib.hid (S9.out.below hb)
  have S14 := Lib.hid hs
  clear hs hb
  go_wp2_with fail
  refine hK.out _ _ hs16 (fun _ => ?_)
  clear hK K
  try dsimp only [Act.put]
  try simp only [List.setIfInBounds_toArray, List.set_cons_zero, List.set_cons_succ]
  refine wpAnyH_ready (rs := [8]) (by kernel_rfl) (by simp) ?_
  refine AllReadyH.cons (o := { dst := some 13, op := Op.call { callee := Callee.value (Operand.func 54), args := #[Operand.tmp 12], argTypes := #[28] }, type := 22, pos := "ref.go:221", after := #[{ on := 7, ground := Ground.data }, { on := 4, ground := Ground.chain }], guard := none }) rfl (fun K hK => ?_) AllReadyH.nil
  rw [if_pos (by rfl)]
  go_simp
  refine (HDA.out _ B15.out ).mono ?_; rintro e w18 ⟨v19, rfl, hs, hb⟩
  have B21 := Lib.hid (below_step B15.out hb)
  have hs22 := And.intro (hs16.1.below hb hs16.1.lt) (hs16.2.below hb hs16.2.lt)
  have S23 := Lib.hid (S17.out.below hb)
  have S24 := Lib.hid (S14.out.below hb)
  have S20 := Lib.hid hs
  clear hs hb
  go_wp2_with fail
  refine hK.out _ _ hs22 (fun _ => ?_)
  clear hK K
  try dsimp only [Act.put]
  try simp only [List.setIfInBounds_toArray, List.set_cons_zero, List.set_cons_succ]
  refine wpAnyH_ready (rs := [9]) (by kernel_rfl) (by simp) ?_
  refine AllReadyH.cons (o := { dst := some 14, op := Op.call { callee := Callee.value (Operand.func 53), args := #[Operand.tmp 11, Operand.tmp 13], argTypes := #[22, 22] }, type := 22, pos := "ref.go:221", after := #[{ on := 6, ground := Ground.data }, { on := 8, ground := Ground.data }, { on := 8, ground := Ground.chain }], guard := none }) rfl (fun K hK => ?_) AllReadyH.nil
  rw [if_pos (by rfl)]
  go_simp
  refine (HTB.out _ B21.out _ S20.out).mono ?_; rintro e w25 ⟨v26, rfl, hs, hb⟩
  have B28 := Lib.hid (below_step B21.out hb)
  have hs29 := And.intro (hs22.1.below hb hs22.1.lt) (hs22.2.below hb hs22.2.lt)
  have S30 := Lib.hid (S23.out.below hb)
  have S31 := Lib.hid (S24.out.below hb)
  have S32 := Lib.hid (S20.out.below hb)
  have S27 := Lib.hid hs
  clear hs hb
  go_wp2_with fail
  refine hK.out _ _ hs29 (fun _ => ?_)
  clear hK K
  try dsimp only [Act.put]
  try simp only [List.setIfInBounds_toArray, List.set_cons_zero, List.set_cons_succ]
  refine wpAnyH_ready (rs := [10]) (by kernel_rfl) (by simp) ?_
  refine AllReadyH.cons (o := { dst := some 15, op := Op.call { callee := Callee.value (Operand.func 76), args := #[Operand.tmp 9, Operand.tmp 14], argTypes := #[22, 22] }, type := 3, pos := "ref.go:221", after := #[{ on := 4, ground := Ground.data }, { on := 9, ground := Ground.data }, { on := 9, ground := Ground.chain }], guard := none }) rfl (fun K hK => ?_) AllReadyH.nil
  rw [if_pos (by rfl)]
  go_simp
  refine (HCO.out _ B28.out _ S31.out _ S27.out).mono ?_; rintro e w33 ⟨rfl, hb⟩
  have B34 := Lib.hid (below_step B28.out hb)
  have hs35 := And.intro (hs29.1.below hb hs29.1.lt) (hs29.2.below hb hs29.2.lt)
  have S36 := Lib.hid (S30.out.below hb)
  have S37 := Lib.hid (S31.out.below hb)
  have S38 := Lib.hid (S32.out.below hb)
  have S39 := Lib.hid (S27.out.below hb)
  clear hb
  go_wp2_with fail
  refine hK.out _ _ hs35 (fun _ => ?_)
  clear hK K
  try dsimp only [Act.put]
  try simp only [List.setIfInBounds_toArray, List.set_cons_zero, List.set_cons_succ]
  refine wpAnyH_take (i := 11) (oi := { dst := some 4, op := Op.assign (Operand.tmp 15), type := 3, pos := "ref.go:221", after := #[{ on := 10, ground := Ground.data }, { on := 10, ground := Ground.chain }, { on := 0, ground := Ground.phase }, { on := 1, ground := Ground.phase }, { on := 2, ground := Ground.phase }, { on := 3, ground := Ground.phase }, { on := 4, ground := Ground.phase }, { on := 5, ground := Ground.phase }, { on := 6, ground := Ground.phase }, { on := 7, ground := Ground.phase }, { on := 8, ground := Ground.phase }, { on := 9, ground := Ground.phase }, { on := 10, ground := Ground.phase }], guard := none }) (v := .int .i64 (ord (x * y2) (x2 * y))) rfl (by kernel_rfl) (by kernel_rfl) (by kernel_rfl) (fun _ _ _ h => h) (Or.inl ⟨by rfl, fun W hW => ?y40⟩) hs35 ?_
  case y40 => go_simp
  try dsimp only [Act.put]
  try simp only [List.setIfInBounds_toArray, List.set_cons_zero, List.set_cons_succ]
  refine wpAnyH_done (by kernel_rfl) ?_ _
  try dsimp only [Act.put]
  try simp only [List.setIfInBounds_toArray, List.set_cons_zero, List.set_cons_succ]
  go_wp2_with fail
  go_ret
  exact ⟨rfl, B34.out⟩
set_option maxHeartbeats 4000000 in
theorem radd_any {v1 v2 u1 u2 : Value} {r s : Rt} {w : World} (hr : Rk w v1 v2 r) (hs : Rk w u1 u2 s) : Calls Try.prog 48 #[.agg #[v1, v2], .agg #[u1, u2]] w (RtP w (addR r s)) := by
  suffices hgen : ∀ Res, Hid (addR r s = Res) → Calls Try.prog 48 #[.agg #[v1, v2], .agg #[u1, u2]] w (RtP w Res) from hgen _ (Lib.hid rfl)
  intro Res HRR
  obtain ⟨A1, n1, k1, e1⟩ := sl_form hr.s1
  obtain ⟨A2, n2, k2, e2⟩ := sl_form hr.s2
  obtain ⟨A3, n3, k3, e3⟩ := sl_form hs.s1
  obtain ⟨A4, n4, k4, e4⟩ := sl_form hs.s2
  subst e1 e2 e3 e4
  have HV := Lib.hid (rfront3 hr hs)
  have HR := Lib.hid hr; have HS := Lib.hid hs
  clear hr hs
  go_enter Try.func48, Try.ntmps48
  go_wp2_with fail
  refine HV.out.mono ?_
  rintro e w1 ⟨rfl, hx, hR, hB⟩
  clear HV
  have HX := Lib.hid hx; have HB := Lib.hid hB
  clear hx hB
  have HRB := Lib.hid hR
  clear hR
  by_cases hz : bothE r s = 0
  · obtain ⟨x, y, va, e1⟩ := vld_to HR.out.ok (both0 hz).1
    obtain ⟨x2, y2, vb, e2⟩ := vld_to HS.out.ok (both0 hz).2
    subst e1 e2
    rw [hz]
    have hre := HRR.out
    rw [add_eq va vb] at hre
    clear hz HRR
    subst hre
    have ha1 : Sl w (.slice A1 n1 k1) (lim x) := HR.out.s1
    have ha2 : Sl w (.slice A2 n2 k2) (dl y) := HR.out.s2
    have hb1 : Sl w (.slice A3 n3 k3) (lim x2) := HS.out.s1
    have hb2 : Sl w (.slice A4 n4 k4) (dl y2) := HS.out.s2
    obtain ⟨la1, la2, la3⟩ := Vr.len va
    obtain ⟨lb1, lb2, lb3⟩ := Vr.len vb
    have hp : 0 < y * y2 := Nat.mul_pos va.pos vb.pos
    have HDA := Lib.hid (fun W (h : Below w.heap.size w W) => rden_sl (ha1.below h) (ha2.below h) va.pos (by omega))
    have HDB := Lib.hid (fun W (h : Below w.heap.size w W) => rden_sl (hb1.below h) (hb2.below h) vb.pos (by omega))
    have HTA := Lib.hid (fun W (h : Below w.heap.size w W) (v : Value) (hv : Sl W v (lim y2)) => rtimes_lim (ha1.below h) hv (by omega) (by omega))
    have mA : (lim (x * y2)).length ≤ 128 := lim_mul la1 lb2
    have HTB := Lib.hid (fun W (h : Below w.heap.size w W) (v : Value) (hv : Sl W v (lim y)) => rtimes_lim (hb1.below h) hv (by omega) (by omega))
    have mB : (lim (x2 * y)).length ≤ 128 := lim_mul lb1 la2
    have HTD := Lib.hid (fun W (h : Below w.heap.size w W) (v1 : Value) (hv1 : Sl W v1 (lim y)) (v2 : Value) (hv2 : Sl W v2 (lim y2)) => rtimes_lim hv1 hv2 (by omega) (by omega))
    have mD : (lim (y * y2)).length ≤ 128 := lim_mul la2 lb2
    have HPL := Lib.hid (fun W (h : Below w.heap.size w W) (v1 : Value) (hv1 : Sl W v1 (lim (x * y2))) (v2 : Value) (hv2 : Sl W v2 (lim (x2 * y))) => rplus_lim hv1 hv2 (by omega) (by omega))
    have mP : (lim (x * y2 + x2 * y)).length ≤ 129 := lim_add mA mB
    have HLO := Lib.hid (fun W (h : Below w.heap.size w W) (v1 : Value) (hv1 : Sl W v1 (lim (x * y2 + x2 * y))) (v2 : Value) (hv2 : Sl W v2 (lim (y * y2))) => rreduced_any hv1 hv2 hp (by omega) (by omega))
    clear ha1 ha2 hb1 hb2 va vb la1 la2 la3 lb1 lb2 lb3 hp mA mB mD mP HR HS
    go_upto_region 4 with (fail)
    refine wp_region_held (S := fun W => Blk W w.heap.size 28 [(.slice A1 n1 k1), (.slice A2 n2 k2)] ∧ Blk W (w.heap.size + 1) 28 [(.slice A3 n3 k3), (.slice A4 n4 k4)]) (by kernel_rfl) ?_
    change wpAnyH _ _ _ _ _ _ _ _ (World.drew w1)
    have hs0 : Blk (World.drew w1) w.heap.size 28 [(.slice A1 n1 k1), (.slice A2 n2 k2)] ∧ Blk (World.drew w1) (w.heap.size + 1) 28 [(.slice A3 n3 k3), (.slice A4 n4 k4)] := HX.out
    have BD : Hid (Below w.heap.size w (World.drew w1)) := Lib.hid (below_drewN HB.out 1)
    have RD : Hid (Blk (World.drew w1) (w.heap.size + 2) 28 [.slice none 0 0, .slice none 0 0]) := HRB
    generalize World.drew w1 = Wd at hs0 BD RD ⊢
    refine wpAnyH_take (i := 0) (oi := { dst := some 14, op := Op.fieldAddr 28 (Operand.tmp 2) 0, type := 0, pos := "ref.go:239", after := #[], guard := none }) (v := .pointer (some ⟨w.heap.size, 0, none⟩)) rfl (by kernel_rfl) (by kernel_rfl) (by kernel_rfl) (fun _ _ _ h => h) (Or.inl ⟨by rfl, fun W hW => ?y1⟩) hs0 ?_
    case y1 => go_simp
    try dsimp only [Act.put]
    try simp only [List.setIfInBounds_toArray, List.set_cons_zero, List.set_cons_succ]
    refine wpAnyH_take (i := 1) (oi := { dst := some 15, op := Op.load 22 (Operand.tmp 14), type := 22, pos := "ref.go:239", after := #[{ on := 0, ground := Ground.data }], guard := none }) (v := (.slice A1 n1 k1)) rfl (by kernel_rfl) (by kernel_rfl) (by kernel_rfl) (fun _ _ _ h => h) (Or.inl ⟨by rfl, fun W hW => by have hcl : W.cell? ⟨w.heap.size, 0, none⟩ = some (.slice A1 n1 k1) := (Blk.cell hW.1 0).trans rfl; go_simp⟩) hs0 ?_
    try dsimp only [Act.put]
    try simp only [List.setIfInBounds_toArray, List.set_cons_zero, List.set_cons_succ]
    refine wpAnyH_take (i := 2) (oi := { dst := some 16, op := Op.load 28 (Operand.tmp 3), type := 28, pos := "ref.go:239", after := #[], guard := none }) (v := .agg #[(.slice A3 n3 k3), (.slice A4 n4 k4)]) rfl (by kernel_rfl) (by kernel_rfl) (by kernel_rfl) (fun _ _ _ h => h) (Or.inl ⟨by rfl, fun W hW => by obtain ⟨hc1, hc2, _, _⟩ := blk_cells2 hW.2; go_simp⟩) hs0 ?_
    try dsimp only [Act.put]
    try simp only [List.setIfInBounds_toArray, List.set_cons_zero, List.set_cons_succ]
    refine wpAnyH_take (i := 5) (oi := { dst := some 19, op := Op.fieldAddr 28 (Operand.tmp 3) 0, type := 0, pos := "ref.go:239", after := #[], guard := none }) (v := .pointer (some ⟨(w.heap.size + 1), 0, none⟩)) rfl (by kernel_rfl) (by kernel_rfl) (by kernel_rfl) (fun _ _ _ h => h) (Or.inl ⟨by rfl, fun W hW => ?y4⟩) hs0 ?_
    case y4 => go_simp
    try dsimp only [Act.put]
    try simp only [List.setIfInBounds_toArray, List.set_cons_zero, List.set_cons_succ]
    refine wpAnyH_take (i := 6) (oi := { dst := some 20, op := Op.load 22 (Operand.tmp 19), type := 22, pos := "ref.go:239", after := #[{ on := 5, ground := Ground.data }], guard := none }) (v := (.slice A3 n3 k3)) rfl (by kernel_rfl) (by kernel_rfl) (by kernel_rfl) (fun _ _ _ h => h) (Or.inl ⟨by rfl, fun W hW => by have hcl : W.cell? ⟨(w.heap.size + 1), 0, none⟩ = some (.slice A3 n3 k3) := (Blk.cell hW.2 0).trans rfl; go_simp⟩) hs0 ?_
    try dsimp only [Act.put]
    try simp only [List.setIfInBounds_toArray, List.set_cons_zero, List.set_cons_succ]
    refine wpAnyH_take (i := 7) (oi := { dst := some 21, op := Op.load 28 (Operand.tmp 2), type := 28, pos := "ref.go:239", after := #[], guard := none }) (v := .agg #[(.slice A1 n1 k1), (.slice A2 n2 k2)]) rfl (by kernel_rfl) (by kernel_rfl) (by kernel_rfl) (fun _ _ _ h => h) (Or.inl ⟨by rfl, fun W hW => by obtain ⟨hc1, hc2, _, _⟩ := blk_cells2 hW.1; go_simp⟩) hs0 ?_
    try dsimp only [Act.put]
    try simp only [List.setIfInBounds_toArray, List.set_cons_zero, List.set_cons_succ]
    refine wpAnyH_take (i := 11) (oi := { dst := some 25, op := Op.load 28 (Operand.tmp 2), type := 28, pos := "ref.go:239", after := #[], guard := none }) (v := .agg #[(.slice A1 n1 k1), (.slice A2 n2 k2)]) rfl (by kernel_rfl) (by kernel_rfl) (by kernel_rfl) (fun _ _ _ h => h) (Or.inl ⟨by rfl, fun W hW => by obtain ⟨hc1, hc2, _, _⟩ := blk_cells2 hW.1; go_simp⟩) hs0 ?_
    try dsimp only [Act.put]
    try simp only [List.setIfInBounds_toArray, List.set_cons_zero, List.set_cons_succ]
    refine wpAnyH_take (i := 13) (oi := { dst := some 27, op := Op.load 28 (Operand.tmp 3), type := 28, pos := "ref.go:239", after := #[], guard := none }) (v := .agg #[(.slice A3 n3 k3), (.slice A4 n4 k4)]) rfl (by kernel_rfl) (by kernel_rfl) (by kernel_rfl) (fun _ _ _ h => h) (Or.inl ⟨by rfl, fun W hW => by obtain ⟨hc1, hc2, _, _⟩ := blk_cells2 hW.2; go_simp⟩) hs0 ?_
    try dsimp only [Act.put]
    try simp only [List.setIfInBounds_toArray, List.set_cons_zero, List.set_cons_succ]
    refine wpAnyH_ready (rs := [3]) (by kernel_rfl) (by simp) ?_
    refine AllReadyH.cons (o := { dst := some 17, op := Op.call { callee := Callee.value (Operand.func 54), args := #[Operand.tmp 16], argTypes := #[28] }, type := 22, pos := "ref.go:239", after := #[{ on := 2, ground := Ground.data }], guard := none }) rfl (fun K hK => ?_) AllReadyH.nil
    rw [if_pos (by rfl)]
    go_simp
    refine (HDB.out _ BD.out ).mono ?_; rintro e w9 ⟨v10, rfl, hs, hb⟩
    have B12 := Lib.hid (below_step BD.out hb)
    have hs13 := And.intro (hs0.1.below hb hs0.1.lt) (hs0.2.below hb hs0.2.lt)
    have R14 := Lib.hid (RD.out.below hb RD.out.lt)
    have S11 := Lib.hid hs
    clear hs hb
    go_wp2_with fail
    refine hK.out _ _ hs13 (fun _ => ?_)
    clear hK K
    try dsimp only [Act.put]
    try simp only [List.setIfInBounds_toArray, List.set_cons_zero, List.set_cons_succ]
    refine wpAnyH_ready (rs := [4]) (by kernel_rfl) (by simp) ?_
    refine AllReadyH.cons (o := { dst := some 18, op := Op.call { callee := Callee.value (Operand.func 53), args := #[Operand.tmp 15, Operand.tmp 17], argTypes := #[22, 22] }, type := 22, pos := "ref.go:239", after := #[{ on := 1, ground := Ground.data }, { on := 3, ground := Ground.data }, { on := 3, ground := Ground.chain }], guard := none }) rfl (fun K hK => ?_) AllReadyH.nil
    rw [if_pos (by rfl)]
    go_simp
    refine (HTA.out _ B12.out _ S11.out).mono ?_; rintro e w15 ⟨v16, rfl, hs, hb⟩
    have B18 := Lib.hid (below_step B12.out hb)
    have hs19 := And.intro (hs13.1.below hb hs13.1.lt) (hs13.2.below hb hs13.2.lt)
    have R20 := Lib.hid (R14.out.below hb R14.out.lt)
    have S21 := Lib.hid (S11.out.below hb)
    have S17 := Lib.hid hs
    clear hs hb
    go_wp2_with fail
    refine hK.out _ _ hs19 (fun _ => ?_)
    clear hK K
    try dsimp only [Act.put]
    try simp only [List.setIfInBounds_toArray, List.set_cons_zero, List.set_cons_succ]
    refine wpAnyH_ready (rs := [8]) (by kernel_rfl) (by simp) ?_
    refine AllReadyH.cons (o := { dst := some 22, op := Op.call { callee := Callee.value (Operand.func 54), args := #[Operand.tmp 21], argTypes := #[28] }, type := 22, pos := "ref.go:239", after := #[{ on := 7, ground := Ground.data }, { on := 4, ground := Ground.chain }], guard := none }) rfl (fun K hK => ?_) AllReadyH.nil
    rw [if_pos (by rfl)]
    go_simp
    refine (HDA.out _ B18.out ).mono ?_; rintro e w22 ⟨v23, rfl, hs, hb⟩
    have B25 := Lib.hid (below_step B18.out hb)
    have hs26 := And.intro (hs19.1.below hb hs19.1.lt) (hs19.2.below hb hs19.2.lt)
    have R27 := Lib.hid (R20.out.below hb R20.out.lt)
    have S28 := Lib.hid (S21.out.below hb)
    have S29 := Lib.hid (S17.out.below hb)
    have S24 := Lib.hid hs
    clear hs hb
    go_wp2_with fail
    refine hK.out _ _ hs26 (fun _ => ?_)
    clear hK K
    try dsimp only [Act.put]
    try simp only [List.setIfInBounds_toArray, List.set_cons_zero, List.set_cons_succ]
    refine wpAnyH_ready (rs := [9]) (by kernel_rfl) (by simp) ?_
    refine AllReadyH.cons (o := { dst := some 23, op := Op.call { callee := Callee.value (Operand.func 53), args := #[Operand.tmp 20, Operand.tmp 22], argTypes := #[22, 22] }, type := 22, pos := "ref.go:239", after := #[{ on := 6, ground := Ground.data }, { on := 8, ground := Ground.data }, { on := 8, ground := Ground.chain }], guard := none }) rfl (fun K hK => ?_) AllReadyH.nil
    rw [if_pos (by rfl)]
    go_simp
    refine (HTB.out _ B25.out _ S24.out).mono ?_; rintro e w30 ⟨v31, rfl, hs, hb⟩
    have B33 := Lib.hid (below_step B25.out hb)
    have hs34 := And.intro (hs26.1.below hb hs26.1.lt) (hs26.2.below hb hs26.2.lt)
    have R35 := Lib.hid (R27.out.below hb R27.out.lt)
    have S36 := Lib.hid (S28.out.below hb)
    have S37 := Lib.hid (S29.out.below hb)
    have S38 := Lib.hid (S24.out.below hb)
    have S32 := Lib.hid hs
    clear hs hb
    go_wp2_with fail
    refine hK.out _ _ hs34 (fun _ => ?_)
    clear hK K
    try dsimp only [Act.put]
    try simp only [List.setIfInBounds_toArray, List.set_cons_zero, List.set_cons_succ]
    refine wpAnyH_ready (rs := [10]) (by kernel_rfl) (by simp) ?_
    refine AllReadyH.cons (o := { dst := some 24, op := Op.call { callee := Callee.value (Operand.func 78), args := #[Operand.tmp 18, Operand.tmp 23], argTypes := #[22, 22] }, type := 22, pos := "ref.go:239", after := #[{ on := 4, ground := Ground.data }, { on := 9, ground := Ground.data }, { on := 9, ground := Ground.chain }], guard := none }) rfl (fun K hK => ?_) AllReadyH.nil
    rw [if_pos (by rfl)]
    go_simp
    refine (HPL.out _ B33.out _ S37.out _ S32.out).mono ?_; rintro e w39 ⟨v40, rfl, hs, hb⟩
    have B42 := Lib.hid (below_step B33.out hb)
    have hs43 := And.intro (hs34.1.below hb hs34.1.lt) (hs34.2.below hb hs34.2.lt)
    have R44 := Lib.hid (R35.out.below hb R35.out.lt)
    have S45 := Lib.hid (S36.out.below hb)
    have S46 := Lib.hid (S37.out.below hb)
    have S47 := Lib.hid (S38.out.below hb)
    have S48 := Lib.hid (S32.out.below hb)
    have S41 := Lib.hid hs
    clear hs hb
    go_wp2_with fail
    refine hK.out _ _ hs43 (fun _ => ?_)
    clear hK K
    try dsimp only [Act.put]
    try simp only [List.setIfInBounds_toArray, List.set_cons_zero, List.set_cons_succ]
    refine wpAnyH_ready (rs := [12]) (by kernel_rfl) (by simp) ?_
    refine AllReadyH.cons (o := { dst := some 26, op := Op.call { callee := Callee.value (Operand.func 54), args := #[Operand.tmp 25], argTypes := #[28] }, type := 22, pos := "ref.go:239", after := #[{ on := 11, ground := Ground.data }, { on := 10, ground := Ground.chain }], guard := none }) rfl (fun K hK => ?_) AllReadyH.nil
    rw [if_pos (by rfl)]
    go_simp
    refine (HDA.out _ B42.out ).mono ?_; rintro e w49 ⟨v50, rfl, hs, hb⟩
    have B52 := Lib.hid (below_step B42.out hb)
    have hs53 := And.intro (hs43.1.below hb hs43.1.lt) (hs43.2.below hb hs43.2.lt)
    have R54 := Lib.hid (R44.out.below hb R44.out.lt)
    have S55 := Lib.hid (S45.out.below hb)
    have S56 := Lib.hid (S46.out.below hb)
    have S57 := Lib.hid (S47.out.below hb)
    have S58 := Lib.hid (S48.out.below hb)
    have S59 := Lib.hid (S41.out.below hb)
    have S51 := Lib.hid hs
    clear hs hb
    go_wp2_with fail
    refine hK.out _ _ hs53 (fun _ => ?_)
    clear hK K
    try dsimp only [Act.put]
    try simp only [List.setIfInBounds_toArray, List.set_cons_zero, List.set_cons_succ]
    refine wpAnyH_ready (rs := [14]) (by kernel_rfl) (by simp) ?_
    refine AllReadyH.cons (o := { dst := some 28, op := Op.call { callee := Callee.value (Operand.func 54), args := #[Operand.tmp 27], argTypes := #[28] }, type := 22, pos := "ref.go:239", after := #[{ on := 13, ground := Ground.data }, { on := 12, ground := Ground.chain }], guard := none }) rfl (fun K hK => ?_) AllReadyH.nil
    rw [if_pos (by rfl)]
    go_simp
    refine (HDB.out _ B52.out ).mono ?_; rintro e w60 ⟨v61, rfl, hs, hb⟩
    have B63 := Lib.hid (below_step B52.out hb)
    have hs64 := And.intro (hs53.1.below hb hs53.1.lt) (hs53.2.below hb hs53.2.lt)
    have R65 := Lib.hid (R54.out.below hb R54.out.lt)
    have S66 := Lib.hid (S55.out.below hb)
    have S67 := Lib.hid (S56.out.below hb)
    have S68 := Lib.hid (S57.out.below hb)
    have S69 := Lib.hid (S58.out.below hb)
    have S70 := Lib.hid (S59.out.below hb)
    have S71 := Lib.hid (S51.out.below hb)
    have S62 := Lib.hid hs
    clear hs hb
    go_wp2_with fail
    refine hK.out _ _ hs64 (fun _ => ?_)
    clear hK K
    try dsimp only [Act.put]
    try simp only [List.setIfInBounds_toArray, List.set_cons_zero, List.set_cons_succ]
    refine wpAnyH_ready (rs := [15]) (by kernel_rfl) (by simp) ?_
    refine AllReadyH.cons (o := { dst := some 29, op := Op.call { callee := Callee.value (Operand.func 53), args := #[Operand.tmp 26, Operand.tmp 28], argTypes := #[22, 22] }, type := 22, pos := "ref.go:239", after := #[{ on := 12, ground := Ground.data }, { on := 14, ground := Ground.data }, { on := 14, ground := Ground.chain }], guard := none }) rfl (fun K hK => ?_) AllReadyH.nil
    rw [if_pos (by rfl)]
    go_simp
    refine (HTD.out _ B63.out _ S71.out _ S62.out).mono ?_; rintro e w72 ⟨v73, rfl, hs, hb⟩
    have B75 := Lib.hid (below_step B63.out hb)
    have hs76 := And.intro (hs64.1.below hb hs64.1.lt) (hs64.2.below hb hs64.2.lt)
    have R77 := Lib.hid (R65.out.below hb R65.out.lt)
    have S78 := Lib.hid (S66.out.below hb)
    have S79 := Lib.hid (S67.out.below hb)
    have S80 := Lib.hid (S68.out.below hb)
    have S81 := Lib.hid (S69.out.below hb)
    have S82 := Lib.hid (S70.out.below hb)
    have S83 := Lib.hid (S71.out.below hb)
    have S84 := Lib.hid (S62.out.below hb)
    have S74 := Lib.hid hs
    clear hs hb
    go_wp2_with fail
    refine hK.out _ _ hs76 (fun _ => ?_)
    clear hK K
    try dsimp only [Act.put]
    try simp only [List.setIfInBounds_toArray, List.set_cons_zero, List.set_cons_succ]
    refine wpAnyH_ready (rs := [16]) (by kernel_rfl) (by simp) ?_
    refine AllReadyH.cons (o := { dst := some 30, op := Op.call { callee := Callee.value (Operand.func 41), args := #[Operand.tmp 24, Operand.tmp 29], argTypes := #[22, 22] }, type := 32, pos := "ref.go:239", after := #[{ on := 10, ground := Ground.data }, { on := 15, ground := Ground.data }, { on := 15, ground := Ground.chain }], guard := none }) rfl (fun K hK => ?_) AllReadyH.nil
    rw [if_pos (by rfl)]
    go_simp
    refine (HLO.out _ B75.out _ S82.out _ S74.out).mono ?_; rintro e w85 ⟨q86, rfl, ⟨u1, u2, rfl, s1, s2⟩, hb⟩
    have B89 := Lib.hid (below_step B75.out hb)
    have hs90 := And.intro (hs76.1.below hb hs76.1.lt) (hs76.2.below hb hs76.2.lt)
    have R91 := Lib.hid (R77.out.below hb R77.out.lt)
    have S92 := Lib.hid (S78.out.below hb)
    have S93 := Lib.hid (S79.out.below hb)
    have S94 := Lib.hid (S80.out.below hb)
    have S95 := Lib.hid (S81.out.below hb)
    have S96 := Lib.hid (S82.out.below hb)
    have S97 := Lib.hid (S83.out.below hb)
    have S98 := Lib.hid (S84.out.below hb)
    have S99 := Lib.hid (S74.out.below hb)
    have S87 := Lib.hid s1
    have S88 := Lib.hid s2
    obtain ⟨C1, m1, j1, e1⟩ := sl_form s1
    obtain ⟨C2, m2, j2, e2⟩ := sl_form s2
    clear s1 s2 hb
    subst e1 e2
    go_wp2_with fail
    refine hK.out _ _ hs90 (fun _ => ?_)
    clear hK K
    try dsimp only [Act.put]
    try simp only [List.setIfInBounds_toArray, List.set_cons_zero, List.set_cons_succ]
    refine wpAnyH_take (i := 17) (oi := { dst := some 31, op := Op.extract (Operand.tmp 30) 0, type := 28, pos := "ref.go:239", after := #[{ on := 16, ground := Ground.data }], guard := none }) (v := .agg #[.slice C1 m1 j1, .slice C2 m2 j2]) rfl (by kernel_rfl) (by kernel_rfl) (by kernel_rfl) (fun _ _ _ h => h) (Or.inl ⟨by rfl, fun W hW => ?y100⟩) hs90 ?_
    case y100 => go_simp
    try dsimp only [Act.put]
    try simp only [List.setIfInBounds_toArray, List.set_cons_zero, List.set_cons_succ]
    refine wpAnyH_take (i := 18) (oi := { dst := some 32, op := Op.extract (Operand.tmp 30) 1, type := 25, pos := "ref.go:239", after := #[{ on := 16, ground := Ground.data }], guard := none }) (v := .int .i64 (((lowR (x * y2 + x2 * y) (y * y2)).2 : Nat) : Int)) rfl (by kernel_rfl) (by kernel_rfl) (by kernel_rfl) (fun _ _ _ h => h) (Or.inl ⟨by rfl, fun W hW => ?y101⟩) hs90 ?_
    case y101 => go_simp
    try dsimp only [Act.put]
    try simp only [List.setIfInBounds_toArray, List.set_cons_zero, List.set_cons_succ]
    refine wpAnyH_ready (rs := [19]) (by kernel_rfl) (by simp) ?_
    refine AllReadyH.cons (o := { dst := none, op := Op.store 28 (Operand.tmp 4) (Operand.tmp 31), type := 0, pos := "ref.go:239", after := #[{ on := 17, ground := Ground.data }, { on := 16, ground := Ground.chain }, { on := 0, ground := Ground.phase }, { on := 1, ground := Ground.phase }, { on := 2, ground := Ground.phase }, { on := 3, ground := Ground.phase }, { on := 4, ground := Ground.phase }, { on := 5, ground := Ground.phase }, { on := 6, ground := Ground.phase }, { on := 7, ground := Ground.phase }, { on := 8, ground := Ground.phase }, { on := 9, ground := Ground.phase }, { on := 10, ground := Ground.phase }, { on := 11, ground := Ground.phase }, { on := 12, ground := Ground.phase }, { on := 13, ground := Ground.phase }, { on := 14, ground := Ground.phase }, { on := 15, ground := Ground.phase }, { on := 16, ground := Ground.phase }, { on := 17, ground := Ground.phase }, { on := 18, ground := Ground.phase }], guard := none }) rfl (fun K hK => ?_) AllReadyH.nil
    rw [if_pos (by rfl)]
    obtain ⟨hc1, hc2, hf1, hf2⟩ := blk_cells2 R91.out
    go_simp
    refine hK.out _ _ (And.intro ((hs90.1.far (p := ⟨w.heap.size + 2, 0, none⟩) (by simp) _).far (p := ⟨w.heap.size + 2, 1, none⟩) (by simp) _) ((hs90.2.far (p := ⟨w.heap.size + 2, 0, none⟩) (by simp) _).far (p := ⟨w.heap.size + 2, 1, none⟩) (by simp) _)) (fun _ => ?_)
    clear hK K
    try dsimp only [Act.put]
    try simp only [List.setIfInBounds_toArray, List.set_cons_zero, List.set_cons_succ]
    refine wpAnyH_take (i := 20) (oi := { dst := some 5, op := Op.assign (Operand.tmp 32), type := 25, pos := "ref.go:239", after := #[{ on := 18, ground := Ground.data }, { on := 19, ground := Ground.chain }, { on := 0, ground := Ground.phase }, { on := 1, ground := Ground.phase }, { on := 2, ground := Ground.phase }, { on := 3, ground := Ground.phase }, { on := 4, ground := Ground.phase }, { on := 5, ground := Ground.phase }, { on := 6, ground := Ground.phase }, { on := 7, ground := Ground.phase }, { on := 8, ground := Ground.phase }, { on := 9, ground := Ground.phase }, { on := 10, ground := Ground.phase }, { on := 11, ground := Ground.phase }, { on := 12, ground := Ground.phase }, { on := 13, ground := Ground.phase }, { on := 14, ground := Ground.phase }, { on := 15, ground := Ground.phase }, { on := 16, ground := Ground.phase }, { on := 17, ground := Ground.phase }, { on := 18, ground := Ground.phase }, { on := 19, ground := Ground.phase }], guard := none }) (v := .int .i64 (((lowR (x * y2 + x2 * y) (y * y2)).2 : Nat) : Int)) rfl (by kernel_rfl) (by kernel_rfl) (by kernel_rfl) (fun _ _ _ h => h) (Or.inl ⟨by rfl, fun W hW => ?y102⟩) (And.intro ((hs90.1.far (p := ⟨w.heap.size + 2, 0, none⟩) (by simp) _).far (p := ⟨w.heap.size + 2, 1, none⟩) (by simp) _) ((hs90.2.far (p := ⟨w.heap.size + 2, 0, none⟩) (by simp) _).far (p := ⟨w.heap.size + 2, 1, none⟩) (by simp) _)) ?_
    case y102 => go_simp
    try dsimp only [Act.put]
    try simp only [List.setIfInBounds_toArray, List.set_cons_zero, List.set_cons_succ]
    refine wpAnyH_done (by kernel_rfl) ?_ _
    try dsimp only [Act.put]
    try simp only [List.setIfInBounds_toArray, List.set_cons_zero, List.set_cons_succ]
    go_wp2_with fail
    have hbk := (((R91.out).put 0 (.slice C1 m1 j1)).put 1 (.slice C2 m2 j2))
    have hbl := (((B89.out).setCell (p := ⟨w.heap.size + 2, 0, none⟩) (by simp) (.slice C1 m1 j1)).setCell (p := ⟨w.heap.size + 2, 1, none⟩) (by simp) (.slice C2 m2 j2))
    refine bodyPost_ret (v := .tuple #[.agg #[(.slice C1 m1 j1), (.slice C2 m2 j2)], .int .i64 (((lowR (x * y2 + x2 * y) (y * y2)).2 : Nat) : Int)]) ?_ rfl ⟨.agg #[(.slice C1 m1 j1), (.slice C2 m2 j2)], rfl, ⟨_, _, rfl, sl_res S87.out R91.out _ _ _ _ _ _, sl_res S88.out R91.out _ _ _ _ _ _⟩, hbl⟩
    have hr := run_loadVar_at (P := Try.prog) _ ⟨w.heap.size + 2, 0, none⟩ 28 [(.slice C1 m1 j1), (.slice C2 m2 j2)] _ hbk.at Try.underlying28 rfl size28
    simp [results, Try.results48, asAddr, hr]
  · have hne : (((bothE r s : Nat) : Int) != 0) = true := by rw [bne_iff_ne]; omega
    have hre := HRR.out
    rw [show addR r s = (noR, bothE r s) by unfold addR; rw [if_pos hz]] at hre
    subst hre
    generalize bothE r s = E at *
    clear hz HRR
    obtain ⟨hc1, hc2, hf1, hf2⟩ := blk_cells2 HRB.out
    go_wp2_with fail
    have hbk := (((HRB.out).put 0 (.slice none 0 0)).put 1 (.slice none 0 0))
    have hbl := (((HB.out).setCell (p := ⟨w.heap.size + 2, 0, none⟩) (by simp) (.slice none 0 0)).setCell (p := ⟨w.heap.size + 2, 1, none⟩) (by simp) (.slice none 0 0))
    refine bodyPost_ret (v := .tuple #[.agg #[(.slice none 0 0), (.slice none 0 0)], .int .i64 ((E : Nat) : Int)]) ?_ rfl ⟨.agg #[(.slice none 0 0), (.slice none 0 0)], rfl, ⟨_, _, rfl, sl_res (Sl.nil _) HRB.out _ _ _ _ _ _, sl_res (Sl.nil _) HRB.out _ _ _ _ _ _⟩, hbl⟩
    have hr := run_loadVar_at (P := Try.prog) _ ⟨w.heap.size + 2, 0, none⟩ 28 [(.slice none 0 0), (.slice none 0 0)] _ hbk.at Try.underlying28 rfl size28
    simp [results, Try.results48, asAddr, hr]
set_option maxHeartbeats 4000000 in
theorem rmul_any {v1 v2 u1 u2 : Value} {r s : Rt} {w : World} (hr : Rk w v1 v2 r) (hs : Rk w u1 u2 s) : Calls Try.prog 68 #[.agg #[v1, v2], .agg #[u1, u2]] w (RtP w (mulR r s)) := by
  suffices hgen : ∀ Res, Hid (mulR r s = Res) → Calls Try.prog 68 #[.agg #[v1, v2], .agg #[u1, u2]] w (RtP w Res) from hgen _ (Lib.hid rfl)
  intro Res HRR
  obtain ⟨A1, n1, k1, e1⟩ := sl_form hr.s1
  obtain ⟨A2, n2, k2, e2⟩ := sl_form hr.s2
  obtain ⟨A3, n3, k3, e3⟩ := sl_form hs.s1
  obtain ⟨A4, n4, k4, e4⟩ := sl_form hs.s2
  subst e1 e2 e3 e4
  have HV := Lib.hid (rfront3 hr hs)
  have HR := Lib.hid hr; have HS := Lib.hid hs
  clear hr hs
  go_enter Try.func68, Try.ntmps68
  go_wp2_with fail
  refine HV.out.mono ?_
  rintro e w1 ⟨rfl, hx, hR, hB⟩
  clear HV
  have HX := Lib.hid hx; have HB := Lib.hid hB
  clear hx hB
  have HRB := Lib.hid hR
  clear hR
  by_cases hz : bothE r s = 0
  · obtain ⟨x, y, va, e1⟩ := vld_to HR.out.ok (both0 hz).1
    obtain ⟨x2, y2, vb, e2⟩ := vld_to HS.out.ok (both0 hz).2
    subst e1 e2
    rw [hz]
    have hre := HRR.out
    rw [mul_eq va vb] at hre
    clear hz HRR
    subst hre
    have ha1 : Sl w (.slice A1 n1 k1) (lim x) := HR.out.s1
    have ha2 : Sl w (.slice A2 n2 k2) (dl y) := HR.out.s2
    have hb1 : Sl w (.slice A3 n3 k3) (lim x2) := HS.out.s1
    have hb2 : Sl w (.slice A4 n4 k4) (dl y2) := HS.out.s2
    obtain ⟨la1, la2, la3⟩ := Vr.len va
    obtain ⟨lb1, lb2, lb3⟩ := Vr.len vb
    have hp : 0 < y * y2 := Nat.mul_pos va.pos vb.pos
    have HDA := Lib.hid (fun W (h : Below w.heap.size w W) => rden_sl (ha1.below h) (ha2.below h) va.pos (by omega))
    have HDB := Lib.hid (fun W (h : Below w.heap.size w W) => rden_sl (hb1.below h) (hb2.below h) vb.pos (by omega))
    have HNN := Lib.hid (fun W (h : Below w.heap.size w W) => rtimes_lim (ha1.below h) (hb1.below h) (by omega) (by omega))
    have mA : (lim (x * x2)).length ≤ 128 := lim_mul la1 lb1
    have HTD := Lib.hid (fun W (h : Below w.heap.size w W) (v1 : Value) (hv1 : Sl W v1 (lim y)) (v2 : Value) (hv2 : Sl W v2 (lim y2)) => rtimes_lim hv1 hv2 (by omega) (by omega))
    have mD : (lim (y * y2)).length ≤ 128 := lim_mul la2 lb2
    have HLO := Lib.hid (fun W (h : Below w.heap.size w W) (v1 : Value) (hv1 : Sl W v1 (lim (x * x2))) (v2 : Value) (hv2 : Sl W v2 (lim (y * y2))) => rreduced_any hv1 hv2 hp (by omega) (by omega))
    clear ha1 ha2 hb1 hb2 va vb la1 la2 la3 lb1 lb2 lb3 hp mA mD HR HS
    go_upto_region 4 with (fail)
    refine wp_region_held (S := fun W => Blk W w.heap.size 28 [(.slice A1 n1 k1), (.slice A2 n2 k2)] ∧ Blk W (w.heap.size + 1) 28 [(.slice A3 n3 k3), (.slice A4 n4 k4)]) (by kernel_rfl) ?_
    change wpAnyH _ _ _ _ _ _ _ _ (World.drew w1)
    have hs0 : Blk (World.drew w1) w.heap.size 28 [(.slice A1 n1 k1), (.slice A2 n2 k2)] ∧ Blk (World.drew w1) (w.heap.size + 1) 28 [(.slice A3 n3 k3), (.slice A4 n4 k4)] := HX.out
    have BD : Hid (Below w.heap.size w (World.drew w1)) := Lib.hid (below_drewN HB.out 1)
    have RD : Hid (Blk (World.drew w1) (w.heap.size + 2) 28 [.slice none 0 0, .slice none 0 0]) := HRB
    generalize World.drew w1 = Wd at hs0 BD RD ⊢
    refine wpAnyH_take (i := 0) (oi := { dst := some 14, op := Op.fieldAddr 28 (Operand.tmp 2) 0, type := 0, pos := "ref.go:260", after := #[], guard := none }) (v := .pointer (some ⟨w.heap.size, 0, none⟩)) rfl (by kernel_rfl) (by kernel_rfl) (by kernel_rfl) (fun _ _ _ h => h) (Or.inl ⟨by rfl, fun W hW => ?y1⟩) hs0 ?_
    case y1 => go_simp
    try dsimp only [Act.put]
    try simp only [List.setIfInBounds_toArray, List.set_cons_zero, List.set_cons_succ]
    refine wpAnyH_take (i := 1) (oi := { dst := some 15, op := Op.load 22 (Operand.tmp 14), type := 22, pos := "ref.go:260", after := #[{ on := 0, ground := Ground.data }], guard := none }) (v := (.slice A1 n1 k1)) rfl (by kernel_rfl) (by kernel_rfl) (by kernel_rfl) (fun _ _ _ h => h) (Or.inl ⟨by rfl, fun W hW => by have hcl : W.cell? ⟨w.heap.size, 0, none⟩ = some (.slice A1 n1 k1) := (Blk.cell hW.1 0).trans rfl; go_simp⟩) hs0 ?_
    try dsimp only [Act.put]
    try simp only [List.setIfInBounds_toArray, List.set_cons_zero, List.set_cons_succ]
    refine wpAnyH_take (i := 2) (oi := { dst := some 16, op := Op.fieldAddr 28 (Operand.tmp 3) 0, type := 0, pos := "ref.go:260", after := #[], guard := none }) (v := .pointer (some ⟨(w.heap.size + 1), 0, none⟩)) rfl (by kernel_rfl) (by kernel_rfl) (by kernel_rfl) (fun _ _ _ h => h) (Or.inl ⟨by rfl, fun W hW => ?y3⟩) hs0 ?_
    case y3 => go_simp
    try dsimp only [Act.put]
    try simp only [List.setIfInBounds_toArray, List.set_cons_zero, List.set_cons_succ]
    refine wpAnyH_take (i := 3) (oi := { dst := some 17, op := Op.load 22 (Operand.tmp 16), type := 22, pos := "ref.go:260", after := #[{ on := 2, ground := Ground.data }], guard := none }) (v := (.slice A3 n3 k3)) rfl (by kernel_rfl) (by kernel_rfl) (by kernel_rfl) (fun _ _ _ h => h) (Or.inl ⟨by rfl, fun W hW => by have hcl : W.cell? ⟨(w.heap.size + 1), 0, none⟩ = some (.slice A3 n3 k3) := (Blk.cell hW.2 0).trans rfl; go_simp⟩) hs0 ?_
    try dsimp only [Act.put]
    try simp only [List.setIfInBounds_toArray, List.set_cons_zero, List.set_cons_succ]
    refine wpAnyH_take (i := 5) (oi := { dst := some 19, op := Op.load 28 (Operand.tmp 2), type := 28, pos := "ref.go:260", after := #[], guard := none }) (v := .agg #[(.slice A1 n1 k1), (.slice A2 n2 k2)]) rfl (by kernel_rfl) (by kernel_rfl) (by kernel_rfl) (fun _ _ _ h => h) (Or.inl ⟨by rfl, fun W hW => by obtain ⟨hc1, hc2, _, _⟩ := blk_cells2 hW.1; go_simp⟩) hs0 ?_
    try dsimp only [Act.put]
    try simp only [List.setIfInBounds_toArray, List.set_cons_zero, List.set_cons_succ]
    refine wpAnyH_take (i := 7) (oi := { dst := some 21, op := Op.load 28 (Operand.tmp 3), type := 28, pos := "ref.go:260", after := #[], guard := none }) (v := .agg #[(.slice A3 n3 k3), (.slice A4 n4 k4)]) rfl (by kernel_rfl) (by kernel_rfl) (by kernel_rfl) (fun _ _ _ h => h) (Or.inl ⟨by rfl, fun W hW => by obtain ⟨hc1, hc2, _, _⟩ := blk_cells2 hW.2; go_simp⟩) hs0 ?_
    try dsimp only [Act.put]
    try simp only [List.setIfInBounds_toArray, List.set_cons_zero, List.set_cons_succ]
    refine wpAnyH_ready (rs := [4]) (by kernel_rfl) (by simp) ?_
    refine AllReadyH.cons (o := { dst := some 18, op := Op.call { callee := Callee.value (Operand.func 53), args := #[Operand.tmp 15, Operand.tmp 17], argTypes := #[22, 22] }, type := 22, pos := "ref.go:260", after := #[{ on := 1, ground := Ground.data }, { on := 3, ground := Ground.data }], guard := none }) rfl (fun K hK => ?_) AllReadyH.nil
    rw [if_pos (by rfl)]
    go_simp
    refine (HNN.out _ BD.out ).mono ?_; rintro e w7 ⟨v8, rfl, hs, hb⟩
    have B10 := Lib.hid (below_step BD.out hb)
    have hs11 := And.intro (hs0.1.below hb hs0.1.lt) (hs0.2.below hb hs0.2.lt)
    have R12 := Lib.hid (RD.out.below hb RD.out.lt)
    have S9 := Lib.hid hs
    clear hs hb
    go_wp2_with fail
    refine hK.out _ _ hs11 (fun _ => ?_)
    clear hK K
    try dsimp only [Act.put]
    try simp only [List.setIfInBounds_toArray, List.set_cons_zero, List.set_cons_succ]
    refine wpAnyH_ready (rs := [6]) (by kernel_rfl) (by simp) ?_
    refine AllReadyH.cons (o := { dst := some 20, op := Op.call { callee := Callee.value (Operand.func 54), args := #[Operand.tmp 19], argTypes := #[28] }, type := 22, pos := "ref.go:260", after := #[{ on := 5, ground := Ground.data }, { on := 4, ground := Ground.chain }], guard := none }) rfl (fun K hK => ?_) AllReadyH.nil
    rw [if_pos (by rfl)]
    go_simp
    refine (HDA.out _ B10.out ).mono ?_; rintro e w13 ⟨v14, rfl, hs, hb⟩
    have B16 := Lib.hid (below_step B10.out hb)
    have hs17 := And.intro (hs11.1.below hb hs11.1.lt) (hs11.2.below hb hs11.2.lt)
    have R18 := Lib.hid (R12.out.below hb R12.out.lt)
    have S19 := Lib.hid (S9.out.below hb)
    have S15 := Lib.hid hs
    clear hs hb
    go_wp2_with fail
    refine hK.out _ _ hs17 (fun _ => ?_)
    clear hK K
    try dsimp only [Act.put]
    try simp only [List.setIfInBounds_toArray, List.set_cons_zero, List.set_cons_succ]
    refine wpAnyH_ready (rs := [8]) (by kernel_rfl) (by simp) ?_
    refine AllReadyH.cons (o := { dst := some 22, op := Op.call { callee := Callee.value (Operand.func 54), args := #[Operand.tmp 21], argTypes := #[28] }, type := 22, pos := "ref.go:260", after := #[{ on := 7, ground := Ground.data }, { on := 6, ground := Ground.chain }], guard := none }) rfl (fun K hK => ?_) AllReadyH.nil
    rw [if_pos (by rfl)]
    go_simp
    refine (HDB.out _ B16.out ).mono ?_; rintro e w20 ⟨v21, rfl, hs, hb⟩
    have B23 := Lib.hid (below_step B16.out hb)
    have hs24 := And.intro (hs17.1.below hb hs17.1.lt) (hs17.2.below hb hs17.2.lt)
    have R25 := Lib.hid (R18.out.below hb R18.out.lt)
    have S26 := Lib.hid (S19.out.below hb)
    have S27 := Lib.hid (S15.out.below hb)
    have S22 := Lib.hid hs
    clear hs hb
    go_wp2_with fail
    refine hK.out _ _ hs24 (fun _ => ?_)
    clear hK K
    try dsimp only [Act.put]
    try simp only [List.setIfInBounds_toArray, List.set_cons_zero, List.set_cons_succ]
    refine wpAnyH_ready (rs := [9]) (by kernel_rfl) (by simp) ?_
    refine AllReadyH.cons (o := { dst := some 23, op := Op.call { callee := Callee.value (Operand.func 53), args := #[Operand.tmp 20, Operand.tmp 22], argTypes := #[22, 22] }, type := 22, pos := "ref.go:260", after := #[{ on := 6, ground := Ground.data }, { on := 8, ground := Ground.data }, { on := 8, ground := Ground.chain }], guard := none }) rfl (fun K hK => ?_) AllReadyH.nil
    rw [if_pos (by rfl)]
    go_simp
    refine (HTD.out _ B23.out _ S27.out _ S22.out).mono ?_; rintro e w28 ⟨v29, rfl, hs, hb⟩
    have B31 := Lib.hid (below_step B23.out hb)
    have hs32 := And.intro (hs24.1.below hb hs24.1.lt) (hs24.2.below hb hs24.2.lt)
    have R33 := Lib.hid (R25.out.below hb R25.out.lt)
    have S34 := Lib.hid (S26.out.below hb)
    have S35 := Lib.hid (S27.out.below hb)
    have S36 := Lib.hid (S22.out.below hb)
    have S30 := Lib.hid hs
    clear hs hb
    go_wp2_with fail
    refine hK.out _ _ hs32 (fun _ => ?_)
    clear hK K
    try dsimp only [Act.put]
    try simp only [List.setIfInBounds_toArray, List.set_cons_zero, List.set_cons_succ]
    refine wpAnyH_ready (rs := [10]) (by kernel_rfl) (by simp) ?_
    refine AllReadyH.cons (o := { dst := some 24, op := Op.call { callee := Callee.value (Operand.func 41), args := #[Operand.tmp 18, Operand.tmp 23], argTypes := #[22, 22] }, type := 32, pos := "ref.go:260", after := #[{ on := 4, ground := Ground.data }, { on := 9, ground := Ground.data }, { on := 9, ground := Ground.chain }], guard := none }) rfl (fun K hK => ?_) AllReadyH.nil
    rw [if_pos (by rfl)]
    go_simp
    refine (HLO.out _ B31.out _ S34.out _ S30.out).mono ?_; rintro e w37 ⟨q38, rfl, ⟨u1, u2, rfl, s1, s2⟩, hb⟩
    have B41 := Lib.hid (below_step B31.out hb)
    have hs42 := And.intro (hs32.1.below hb hs32.1.lt) (hs32.2.below hb hs32.2.lt)
    have R43 := Lib.hid (R33.out.below hb R33.out.lt)
    have S44 := Lib.hid (S34.out.below hb)
    have S45 := Lib.hid (S35.out.below hb)
    have S46 := Lib.hid (S36.out.below hb)
    have S47 := Lib.hid (S30.out.below hb)
    have S39 := Lib.hid s1
    have S40 := Lib.hid s2
    obtain ⟨C1, m1, j1, e1⟩ := sl_form s1
    obtain ⟨C2, m2, j2, e2⟩ := sl_form s2
    clear s1 s2 hb
    subst e1 e2
    go_wp2_with fail
    refine hK.out _ _ hs42 (fun _ => ?_)
    clear hK K
    try dsimp only [Act.put]
    try simp only [List.setIfInBounds_toArray, List.set_cons_zero, List.set_cons_succ]
    refine wpAnyH_take (i := 11) (oi := { dst := some 25, op := Op.extract (Operand.tmp 24) 0, type := 28, pos := "ref.go:260", after := #[{ on := 10, ground := Ground.data }], guard := none }) (v := .agg #[.slice C1 m1 j1, .slice C2 m2 j2]) rfl (by kernel_rfl) (by kernel_rfl) (by kernel_rfl) (fun _ _ _ h => h) (Or.inl ⟨by rfl, fun W hW => ?y48⟩) hs42 ?_
    case y48 => go_simp
    try dsimp only [Act.put]
    try simp only [List.setIfInBounds_toArray, List.set_cons_zero, List.set_cons_succ]
    refine wpAnyH_take (i := 12) (oi := { dst := some 26, op := Op.extract (Operand.tmp 24) 1, type := 25, pos := "ref.go:260", after := #[{ on := 10, ground := Ground.data }], guard := none }) (v := .int .i64 (((lowR (x * x2) (y * y2)).2 : Nat) : Int)) rfl (by kernel_rfl) (by kernel_rfl) (by kernel_rfl) (fun _ _ _ h => h) (Or.inl ⟨by rfl, fun W hW => ?y49⟩) hs42 ?_
    case y49 => go_simp
    try dsimp only [Act.put]
    try simp only [List.setIfInBounds_toArray, List.set_cons_zero, List.set_cons_succ]
    refine wpAnyH_ready (rs := [13]) (by kernel_rfl) (by simp) ?_
    refine AllReadyH.cons (o := { dst := none, op := Op.store 28 (Operand.tmp 4) (Operand.tmp 25), type := 0, pos := "ref.go:260", after := #[{ on := 11, ground := Ground.data }, { on := 10, ground := Ground.chain }, { on := 0, ground := Ground.phase }, { on := 1, ground := Ground.phase }, { on := 2, ground := Ground.phase }, { on := 3, ground := Ground.phase }, { on := 4, ground := Ground.phase }, { on := 5, ground := Ground.phase }, { on := 6, ground := Ground.phase }, { on := 7, ground := Ground.phase }, { on := 8, ground := Ground.phase }, { on := 9, ground := Ground.phase }, { on := 10, ground := Ground.phase }, { on := 11, ground := Ground.phase }, { on := 12, ground := Ground.phase }], guard := none }) rfl (fun K hK => ?_) AllReadyH.nil
    rw [if_pos (by rfl)]
    obtain ⟨hc1, hc2, hf1, hf2⟩ := blk_cells2 R43.out
    go_simp
    refine hK.out _ _ (And.intro ((hs42.1.far (p := ⟨w.heap.size + 2, 0, none⟩) (by simp) _).far (p := ⟨w.heap.size + 2, 1, none⟩) (by simp) _) ((hs42.2.far (p := ⟨w.heap.size + 2, 0, none⟩) (by simp) _).far (p := ⟨w.heap.size + 2, 1, none⟩) (by simp) _)) (fun _ => ?_)
    clear hK K
    try dsimp only [Act.put]
    try simp only [List.setIfInBounds_toArray, List.set_cons_zero, List.set_cons_succ]
    refine wpAnyH_take (i := 14) (oi := { dst := some 5, op := Op.assign (Operand.tmp 26), type := 25, pos := "ref.go:260", after := #[{ on := 12, ground := Ground.data }, { on := 13, ground := Ground.chain }, { on := 0, ground := Ground.phase }, { on := 1, ground := Ground.phase }, { on := 2, ground := Ground.phase }, { on := 3, ground := Ground.phase }, { on := 4, ground := Ground.phase }, { on := 5, ground := Ground.phase }, { on := 6, ground := Ground.phase }, { on := 7, ground := Ground.phase }, { on := 8, ground := Ground.phase }, { on := 9, ground := Ground.phase }, { on := 10, ground := Ground.phase }, { on := 11, ground := Ground.phase }, { on := 12, ground := Ground.phase }, { on := 13, ground := Ground.phase }], guard := none }) (v := .int .i64 (((lowR (x * x2) (y * y2)).2 : Nat) : Int)) rfl (by kernel_rfl) (by kernel_rfl) (by kernel_rfl) (fun _ _ _ h => h) (Or.inl ⟨by rfl, fun W hW => ?y50⟩) (And.intro ((hs42.1.far (p := ⟨w.heap.size + 2, 0, none⟩) (by simp) _).far (p := ⟨w.heap.size + 2, 1, none⟩) (by simp) _) ((hs42.2.far (p := ⟨w.heap.size + 2, 0, none⟩) (by simp) _).far (p := ⟨w.heap.size + 2, 1, none⟩) (by simp) _)) ?_
    case y50 => go_simp
    try dsimp only [Act.put]
    try simp only [List.setIfInBounds_toArray, List.set_cons_zero, List.set_cons_succ]
    refine wpAnyH_done (by kernel_rfl) ?_ _
    try dsimp only [Act.put]
    try simp only [List.setIfInBounds_toArray, List.set_cons_zero, List.set_cons_succ]
    go_wp2_with fail
    have hbk := (((R43.out).put 0 (.slice C1 m1 j1)).put 1 (.slice C2 m2 j2))
    have hbl := (((B41.out).setCell (p := ⟨w.heap.size + 2, 0, none⟩) (by simp) (.slice C1 m1 j1)).setCell (p := ⟨w.heap.size + 2, 1, none⟩) (by simp) (.slice C2 m2 j2))
    refine bodyPost_ret (v := .tuple #[.agg #[(.slice C1 m1 j1), (.slice C2 m2 j2)], .int .i64 (((lowR (x * x2) (y * y2)).2 : Nat) : Int)]) ?_ rfl ⟨.agg #[(.slice C1 m1 j1), (.slice C2 m2 j2)], rfl, ⟨_, _, rfl, sl_res S39.out R43.out _ _ _ _ _ _, sl_res S40.out R43.out _ _ _ _ _ _⟩, hbl⟩
    have hr := run_loadVar_at (P := Try.prog) _ ⟨w.heap.size + 2, 0, none⟩ 28 [(.slice C1 m1 j1), (.slice C2 m2 j2)] _ hbk.at Try.underlying28 rfl size28
    simp [results, Try.results68, asAddr, hr]
  · have hne : (((bothE r s : Nat) : Int) != 0) = true := by rw [bne_iff_ne]; omega
    have hre := HRR.out
    rw [show mulR r s = (noR, bothE r s) by unfold mulR; rw [if_pos hz]] at hre
    subst hre
    generalize bothE r s = E at *
    clear hz HRR
    obtain ⟨hc1, hc2, hf1, hf2⟩ := blk_cells2 HRB.out
    go_wp2_with fail
    have hbk := (((HRB.out).put 0 (.slice none 0 0)).put 1 (.slice none 0 0))
    have hbl := (((HB.out).setCell (p := ⟨w.heap.size + 2, 0, none⟩) (by simp) (.slice none 0 0)).setCell (p := ⟨w.heap.size + 2, 1, none⟩) (by simp) (.slice none 0 0))
    refine bodyPost_ret (v := .tuple #[.agg #[(.slice none 0 0), (.slice none 0 0)], .int .i64 ((E : Nat) : Int)]) ?_ rfl ⟨.agg #[(.slice none 0 0), (.slice none 0 0)], rfl, ⟨_, _, rfl, sl_res (Sl.nil _) HRB.out _ _ _ _ _ _, sl_res (Sl.nil _) HRB.out _ _ _ _ _ _⟩, hbl⟩
    have hr := run_loadVar_at (P := Try.prog) _ ⟨w.heap.size + 2, 0, none⟩ 28 [(.slice none 0 0), (.slice none 0 0)] _ hbk.at Try.underlying28 rfl size28
    simp [results, Try.results68, asAddr, hr]
end Go.Proofs.Ytbfhilbagojdnaa
