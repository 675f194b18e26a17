/-
  The law RatioCounts returns true for all pairs of ratios.
  No condition but that the limbs that came in can be read, and that the library's variable MaxLen is there.
-/
import Derived.Test.YtbfhilbagojdnaaGreatHr13
import Derived.Deep.CutBlock
namespace Go.Proofs.YtbfhilbagojdnaaGreat
open Go.RowKit Wr Go.Proofs.YtbfhilbagojdnaaGreat.Nm
set_option linter.unusedVariables false
set_option maxRecDepth 100000

set_option maxHeartbeats 8000000 in
theorem counts_walk {A5 A6 : Option Addr} {n5 k5 n6 k6 : Nat} {lr lm : List Nat} (n m how by_ : Int) (w : World) (hM : MaxL w) (h2 : 2 < w.heap.size) (hn : -9223372036854775808 ≤ n ∧ n ≤ 9223372036854775807) (hm : -9223372036854775808 ≤ m ∧ m ≤ 9223372036854775807) (hh : -9223372036854775808 ≤ how ∧ how ≤ 9223372036854775807) (hb : -9223372036854775808 ≤ by_ ∧ by_ ≤ 9223372036854775807)
    (h5 : Sl w (.slice A5 n5 k5) lr) (h6 : Sl w (.slice A6 n6 k6) lm) (o5 : Ok lr) (o6 : Ok lm) (hl5 : n5 ≤ 9223372036854775807) (hl6 : n6 ≤ 9223372036854775807) : Calls Tryz.prog 3 #[.int .i64 n, .int .i64 m, .int .i64 how, .int .i64 by_, .slice A5 n5 k5, .slice A6 n6 k6] w (SmP w true) := by
  have HS1 := Lib.hid (some_any (w := w) n m how by_ hn hm hh hb h5 h6 o5 o6 hl5 hl6)
  have HS2 := Lib.hid (fun W (h : Below w.heap.size w W) => some_any (w := W) m by_ by_ how hm hb hb hh (h6.below h) (Sl.nil W) o6 Ok.nil hl6 (by omega))
  have HAr := Lib.hid (fun W => around_any how 3 W hh (by omega))
  have p1 := arI_lo how 3 (by omega); have p2 := arI_hi how 3 (by omega)
  obtain ⟨a3, ha3⟩ := Int.eq_ofNat_of_zero_le p1
  rw [ha3] at HAr p2
  have ha3I : (a3 : Int) < 3 := by omega
  have HM := Lib.hid hM; have H2 := Lib.hid h2
  clear hM h2 hn hm hh hb h5 h6 o5 o6 hl5 hl6 ha3 p1 p2
  go_enter Tryz.func3, Tryz.ntmps3
  go_wp2_with fail
  refine HS1.out.mono ?_
  rintro e w1 ⟨v, L, rfl, hL, hR, hb⟩
  have BW := Lib.hid hb
  obtain ⟨g, o, c, rfl, hc7, hgl, hcs⟩ := rls_cells hR hL
  have HG := Lib.hid hgl; have HCA := Lib.hid hcs
  clear hR hb hL hgl hcs hc7 HS1
  go_wp2_with fail
  refine (HS2.out _ BW.out).mono ?_
  rintro e w2 ⟨v, L2, rfl, hL, hR, hb⟩
  have BW2 := Lib.hid hb; have BWW := Lib.hid (below_step BW.out hb)
  obtain ⟨g2, o2, c2, rfl, hc7, hgl, hcs⟩ := rls_cells hR hL
  have HG2 := Lib.hid hgl; have HCB := Lib.hid hcs
  clear hR hb hL hgl hcs hc7 HS2 BW
  go_wp2_with fail
  go_loopw [15] (fun s wr => ∃ i : Nat, i ≤ 7 ∧ s = .int .i64 ((i : Nat) : Int) ∧ Below w2.heap.size w2 wr) (fun s _ => 7 - (intOf s).toNat)
  case atStart => exact ⟨0, Nat.zero_le _, rfl, Below.refl _ _⟩
  case round =>
    obtain ⟨i, hi, rfl, hbel⟩ := hrel
    have BR := Lib.hid hbel
    clear hbel
    rcases Nat.lt_or_ge i 7 with hlt | hge
    · have hiI : (i : Int) < 7 := by omega
      have HI := Lib.hid (show i + 1 ≤ 7 ∧ i < 7 by omega)
      clear hlt hi
      go_wp2_with fail
      go_loopw [16] (fun s wr => ∃ k : Nat, k ≤ 7 ∧ s = .int .i64 ((k : Nat) : Int) ∧ Below w2.heap.size w2 wr) (fun s _ => 7 - (intOf s).toNat)
      case atStart => exact ⟨0, Nat.zero_le _, rfl, BR.out⟩
      case round =>
        clear BR
        obtain ⟨k, hk, rfl, hbel⟩ := hrel
        have B0 := Lib.hid hbel
        clear hbel
        rcases Nat.lt_or_ge k 7 with hlt | hge
        · have hkI : (k : Int) < 7 := by omega
          have HK := Lib.hid (show k + 1 ≤ 7 by omega)
          obtain ⟨A1, n1, k1, A2, n2, k2, r, hr, d1, d2, hkr⟩ := HCA.out i HI.out.2
          obtain ⟨A3, n3, k3, A4, n4, k4, s, hs, d3, d4, hks⟩ := HCB.out k hlt
          have CW := Lib.hid (fun W (h : Below w2.heap.size w2 W) => show (W.cell? ⟨g, o + i * 2, none⟩ = some (.slice A1 n1 k1) ∧ W.cell? ⟨g, o + i * 2 + 1, none⟩ = some (.slice A2 n2 k2)) ∧ W.cell? ⟨g2, o2 + k * 2, none⟩ = some (.slice A3 n3 k3) ∧ W.cell? ⟨g2, o2 + k * 2 + 1, none⟩ = some (.slice A4 n4 k4) from
            ⟨⟨((below_step BW2.out h).cell (p := ⟨g, o + i * 2, none⟩) HG.out).trans d1, ((below_step BW2.out h).cell (p := ⟨g, o + i * 2 + 1, none⟩) HG.out).trans d2⟩, (h.cell (p := ⟨g2, o2 + k * 2, none⟩) HG2.out).trans d3, (h.cell (p := ⟨g2, o2 + k * 2 + 1, none⟩) HG2.out).trans d4⟩)
          have KA := Lib.hid (fun W (h : Below w2.heap.size w2 W) => (hkr.below BW2.out).below h); have KB := Lib.hid (fun W (h : Below w2.heap.size w2 W) => hks.below h)
          obtain ⟨t, ht⟩ : ∃ t, t = (i + 2 * k + a3) % 3 := ⟨_, rfl⟩
          have htI : ((i : Int) + 2 * (k : Int) + (a3 : Int)) % 3 = (t : Int) := by omega
          clear hr d1 d2 hkr hs d3 d4 hks ht hlt hk
          by_cases h0 : t = 0
          · subst h0
            obtain ⟨⟨c1, c2⟩, c3, c4⟩ := CW.out _ B0.out
            go_upto_region 11 with (go_at_call 8; (with_reducible refine (HAr.out _).mono ?_); rintro e w' ⟨rfl, rfl⟩)
            clear c1 c2 c3 c4
            have V_a := Lib.hid (Bx.new (KA.out wr B0.out))
            have G_a := Lib.hid (show w2.heap.size ≤ wr.heap.size from B0.out.size)
            have B1 := Lib.hid (below_step B0.out (below_al wr (.cells #[.slice A1 n1 k1, .slice A2 n2 k2] 27)))
            obtain ⟨ga, hgn⟩ : ∃ g, wr.heap.size = g := ⟨_, rfl⟩
            obtain ⟨wa, hww⟩ : ∃ W, wr.alloc (.cells #[.slice A1 n1 k1, .slice A2 n2 k2] 27) = W := ⟨_, rfl⟩
            rw [hww] at V_a  B1 ⊢
            rw [hgn] at V_a G_a  ⊢
            clear hww hgn
            obtain ⟨⟨c1, c2⟩, c3, c4⟩ := CW.out _ B1.out
            go_upto_region 12 with fail
            clear c1 c2 c3 c4
            have V_b := Lib.hid (Bx.new (KB.out wa B1.out))
            have G_b := Lib.hid (show w2.heap.size ≤ wa.heap.size from B1.out.size)
            have L_a := Lib.hid (V_a.out.b.lt)
            have V_a := Lib.hid (V_a.out.below (below_al wa (.cells #[.slice A3 n3 k3, .slice A4 n4 k4] 27)))
            have B2 := Lib.hid (below_step B1.out (below_al wa (.cells #[.slice A3 n3 k3, .slice A4 n4 k4] 27)))
            obtain ⟨gb, hgn⟩ : ∃ g, wa.heap.size = g := ⟨_, rfl⟩
            obtain ⟨wb, hww⟩ : ∃ W, wa.alloc (.cells #[.slice A3 n3 k3, .slice A4 n4 k4] 27) = W := ⟨_, rfl⟩
            rw [hww] at V_b V_a B2 ⊢
            rw [hgn] at V_b G_b L_a ⊢
            clear hww hgn
            go_upto_if 85 with fail
            go_cut [] from 86 to 203 (fun wx => ∃ X1 p1 q1 X2 p2 q2 X3 p3 q3 X4 p4 q4 r s, Hid (Bx wx ga X1 p1 q1 X2 p2 q2 r ∧ Bx wx gb X3 p3 q3 X4 p4 q4 s ∧ Below w2.heap.size w2 wx))
            case first =>
              rcases Nat.mod_two_eq_zero_or_one i with hi2 | hi2 <;> rcases Nat.mod_two_eq_zero_or_one k with hk2 | hk2
              · have e1 : (i : Int) % 2 = 0 := by omega
                have e2 : (k : Int) % 2 = 0 := by omega
                clear hi2 hk2
                go_wp2_with fail
                go_meet
                exact ⟨A1, n1, k1, A2, n2, k2, A3, n3, k3, A4, n4, k4, r, s, Lib.hid ⟨V_a.out, V_b.out, B2.out⟩⟩
              · have e1 : (i : Int) % 2 = 0 := by omega
                have e2 : (k : Int) % 2 = 1 := by omega
                clear hi2 hk2
                obtain ⟨⟨c1, c2⟩, c3, c4⟩ := CW.out _ B2.out
                obtain ⟨hc3, hc4, hf5, hf6⟩ := blk_cells2 V_a.out.b
                go_upto_region 14 with fail
                clear c1 c2 c3 c4 hc3 hc4 hf5 hf6
                have KB1 := Lib.hid (KB.out wb B2.out); have BP := Lib.hid (below_put B2.out G_a.out (.slice A3 n3 k3) (.slice A4 n4 k4))
                have V_b1 := Lib.hid (V_b.out.far V_a.out (by have := L_a.out; omega) A3 n3 k3 A4 n4 k4); have V_a1 := Lib.hid (V_a.out.put KB1.out)
                obtain ⟨we, hww⟩ : ∃ W, ((wb.setCell ⟨ga, 0, none⟩ (.slice A3 n3 k3)).setCell ⟨ga, 1, none⟩ (.slice A4 n4 k4)) = W := ⟨_, rfl⟩
                rw [hww] at BP V_b1 V_a1 ⊢
                clear hww KB1
                obtain ⟨⟨c1, c2⟩, c3, c4⟩ := CW.out _ BP.out
                obtain ⟨hd1, hd2, hf1, hf2⟩ := blk_cells2 V_b1.out.b
                go_wp2_with fail
                go_meet
                exact ⟨A3, n3, k3, A4, n4, k4, A1, n1, k1, A2, n2, k2, s, r, Lib.hid ⟨V_a1.out.far V_b1.out (by have := L_a.out; omega) A1 n1 k1 A2 n2 k2, V_b1.out.put (KA.out we BP.out), below_put BP.out G_b.out (.slice A1 n1 k1) (.slice A2 n2 k2)⟩⟩
              · have e1 : (i : Int) % 2 = 1 := by omega
                have e2 : (k : Int) % 2 = 0 := by omega
                clear hi2 hk2
                obtain ⟨⟨c1, c2⟩, c3, c4⟩ := CW.out _ B2.out
                obtain ⟨hc7, hc8, hf9, hf10⟩ := blk_cells2 V_a.out.b
                go_upto_region 14 with fail
                clear c1 c2 c3 c4 hc7 hc8 hf9 hf10
                have KB1 := Lib.hid (KB.out wb B2.out); have BP := Lib.hid (below_put B2.out G_a.out (.slice A3 n3 k3) (.slice A4 n4 k4))
                have V_b1 := Lib.hid (V_b.out.far V_a.out (by have := L_a.out; omega) A3 n3 k3 A4 n4 k4); have V_a1 := Lib.hid (V_a.out.put KB1.out)
                obtain ⟨we, hww⟩ : ∃ W, ((wb.setCell ⟨ga, 0, none⟩ (.slice A3 n3 k3)).setCell ⟨ga, 1, none⟩ (.slice A4 n4 k4)) = W := ⟨_, rfl⟩
                rw [hww] at BP V_b1 V_a1 ⊢
                clear hww KB1
                obtain ⟨⟨c1, c2⟩, c3, c4⟩ := CW.out _ BP.out
                obtain ⟨hd1, hd2, hf1, hf2⟩ := blk_cells2 V_b1.out.b
                go_wp2_with fail
                go_meet
                exact ⟨A3, n3, k3, A4, n4, k4, A1, n1, k1, A2, n2, k2, s, r, Lib.hid ⟨V_a1.out.far V_b1.out (by have := L_a.out; omega) A1 n1 k1 A2 n2 k2, V_b1.out.put (KA.out we BP.out), below_put BP.out G_b.out (.slice A1 n1 k1) (.slice A2 n2 k2)⟩⟩
              · have e1 : (i : Int) % 2 = 1 := by omega
                have e2 : (k : Int) % 2 = 1 := by omega
                clear hi2 hk2
                go_wp2_with fail
                go_meet
                exact ⟨A1, n1, k1, A2, n2, k2, A3, n3, k3, A4, n4, k4, r, s, Lib.hid ⟨V_a.out, V_b.out, B2.out⟩⟩
            case rest =>
              obtain ⟨X1, p1, q1, X2, p2, q2, X3, p3, q3, X4, p4, q4, r', s', hall⟩ := hcut
              clear V_a V_b B2 CW KA KB HAr
              have V_a := Lib.hid hall.out.1; have V_b := Lib.hid hall.out.2.1; have B00 := Lib.hid hall.out.2.2
              clear hall G_a G_b L_a
              obtain ⟨r_cmp, e_cmp, h_cmp⟩ : ∃ r e, cmpR r' s' = (r, e) := ⟨_, _, rfl⟩
              have Q_cmp := Lib.hid h_cmp
              clear h_cmp
              obtain ⟨r_sum, e_sum, h_sum⟩ : ∃ r e, addR r' s' = (r, e) := ⟨_, _, rfl⟩
              have Q_sum := Lib.hid h_sum
              have D_sum := Lib.hid (show Gd5 (r_sum, e_sum) by rw [← h_sum]; exact gd_add V_a.out.k.ok V_b.out.k.ok)
              clear h_sum
              obtain ⟨r_less, e_less, h_less⟩ : ∃ r e, subR r' s' = (r, e) := ⟨_, _, rfl⟩
              have Q_less := Lib.hid h_less
              have D_less := Lib.hid (show Gd5 (r_less, e_less) by rw [← h_less]; exact gd_sub V_a.out.k.ok V_b.out.k.ok)
              clear h_less
              obtain ⟨hc11, hc12, hf13, hf14⟩ := blk_cells2 V_a.out.b
              obtain ⟨hc15, hc16, hf17, hf18⟩ := blk_cells2 V_b.out.b
              go_wp2_with fail
              refine (show Calls Tryz.prog 9 #[.agg #[.slice X1 p1 q1, .slice X2 p2 q2], .agg #[.slice X3 p3 q3, .slice X4 p4 q4]] wc (CmP wc (r_cmp, e_cmp)) by have h := cmp_any V_a.out.k V_b.out.k; rw [Q_cmp.out] at h; exact h).mono ?_
              rintro e w19 ⟨rfl, hb⟩
              have V_a := Lib.hid (V_a.out.below hb)
              have V_b := Lib.hid (V_b.out.below hb)
              have B20 := Lib.hid (below_step B00.out hb)
              clear B00
              clear hb
              clear hc11 hc12 hf13 hf14 hc15 hc16 hf17 hf18
              as_aux_lemma =>
              obtain ⟨hc21, hc22, hf23, hf24⟩ := blk_cells2 V_a.out.b
              obtain ⟨hc25, hc26, hf27, hf28⟩ := blk_cells2 V_b.out.b
              go_wp2_with fail
              refine (show Calls Tryz.prog 10 #[.agg #[.slice X1 p1 q1, .slice X2 p2 q2], .agg #[.slice X3 p3 q3, .slice X4 p4 q4]] w19 (CmP w19 (r_cmp, e_cmp)) by have h := rcmp_any V_a.out.k V_b.out.k; rw [Q_cmp.out] at h; exact h).mono ?_
              rintro e w29 ⟨rfl, hb⟩
              have V_a := Lib.hid (V_a.out.below hb)
              have V_b := Lib.hid (V_b.out.below hb)
              have B30 := Lib.hid (below_step B20.out hb)
              clear B20
              clear hb
              clear hc21 hc22 hf23 hf24 hc25 hc26 hf27 hf28
              as_aux_lemma =>
              obtain ⟨hc31, hc32, hf33, hf34⟩ := blk_cells2 V_a.out.b
              obtain ⟨hc35, hc36, hf37, hf38⟩ := blk_cells2 V_b.out.b
              go_wp2_with fail
              refine (show Calls Tryz.prog 11 #[.agg #[.slice X1 p1 q1, .slice X2 p2 q2], .agg #[.slice X3 p3 q3, .slice X4 p4 q4]] w29 (RtP w29 (r_sum, e_sum)) by have h := add_any V_a.out.k V_b.out.k; rw [Q_sum.out] at h; exact h).mono ?_
              rintro e w39 ⟨v, rfl, hrv, hb⟩
              obtain ⟨u1, u2, rfl, hk⟩ := gd_rk hrv D_sum.out
              obtain ⟨C40, m41, j42, e1⟩ := sl_form hk.s1
              obtain ⟨D43, p44, q45, e2⟩ := sl_form hk.s2
              subst e1 e2
              have KN := Lib.hid hk
              have V_a := Lib.hid (V_a.out.below hb)
              have V_b := Lib.hid (V_b.out.below hb)
              have B46 := Lib.hid (below_step B30.out hb)
              clear B30
              clear hk hb hrv
              clear hc31 hc32 hf33 hf34 hc35 hc36 hf37 hf38
              have BS0 := B46
              go_upto_region 18 with fail
              have V_a := Lib.hid (V_a.out.below (boxb w39 (.slice C40 m41 j42) (.slice D43 p44 q45)))
              have V_b := Lib.hid (V_b.out.below (boxb w39 (.slice C40 m41 j42) (.slice D43 p44 q45)))
              have B47 := Lib.hid (below_step B46.out (boxb w39 (.slice C40 m41 j42) (.slice D43 p44 q45)))
              clear B46
              have V_sum0 := Lib.hid (Bx.new KN.out)
              have G_sum0 := Lib.hid (show w2.heap.size ≤ w39.heap.size from BS0.out.size)
              clear KN
              clear BS0
              obtain ⟨g48, hgn⟩ : ∃ g, w39.heap.size = g := ⟨_, rfl⟩
              obtain ⟨w49, hww⟩ : ∃ W, w39.alloc (.cells #[.slice C40 m41 j42, .slice D43 p44 q45] 27) = W := ⟨_, rfl⟩
              rw [hww] at B47 V_a V_b V_sum0 ⊢
              rw [hgn] at V_sum0 G_sum0  ⊢
              clear hww hgn
              as_aux_lemma =>
              obtain ⟨hc50, hc51, hf52, hf53⟩ := blk_cells2 V_a.out.b
              obtain ⟨hc54, hc55, hf56, hf57⟩ := blk_cells2 V_b.out.b
              go_wp2_with fail
              refine (show Calls Tryz.prog 12 #[.agg #[.slice X1 p1 q1, .slice X2 p2 q2], .agg #[.slice X3 p3 q3, .slice X4 p4 q4]] w49 (RtP w49 (r_sum, e_sum)) by have h := radd_any V_a.out.k V_b.out.k; rw [Q_sum.out] at h; exact h).mono ?_
              rintro e w58 ⟨v, rfl, hrv, hb⟩
              obtain ⟨u1, u2, rfl, hk⟩ := gd_rk hrv D_sum.out
              obtain ⟨C59, m60, j61, e1⟩ := sl_form hk.s1
              obtain ⟨D62, p63, q64, e2⟩ := sl_form hk.s2
              subst e1 e2
              have KN := Lib.hid hk
              have V_a := Lib.hid (V_a.out.below hb)
              have V_b := Lib.hid (V_b.out.below hb)
              have V_sum0 := Lib.hid (V_sum0.out.below hb)
              have B65 := Lib.hid (below_step B47.out hb)
              clear B47
              clear hk hb hrv
              clear hc50 hc51 hf52 hf53 hc54 hc55 hf56 hf57
              have BS0 := B65
              go_upto_region 19 with fail
              have V_a := Lib.hid (V_a.out.below (boxb w58 (.slice C59 m60 j61) (.slice D62 p63 q64)))
              have V_b := Lib.hid (V_b.out.below (boxb w58 (.slice C59 m60 j61) (.slice D62 p63 q64)))
              have V_sum0 := Lib.hid (V_sum0.out.below (boxb w58 (.slice C59 m60 j61) (.slice D62 p63 q64)))
              have B66 := Lib.hid (below_step B65.out (boxb w58 (.slice C59 m60 j61) (.slice D62 p63 q64)))
              clear B65
              have V_sum1 := Lib.hid (Bx.new KN.out)
              have G_sum1 := Lib.hid (show w2.heap.size ≤ w58.heap.size from BS0.out.size)
              clear KN
              clear BS0
              obtain ⟨g67, hgn⟩ : ∃ g, w58.heap.size = g := ⟨_, rfl⟩
              obtain ⟨w68, hww⟩ : ∃ W, w58.alloc (.cells #[.slice C59 m60 j61, .slice D62 p63 q64] 27) = W := ⟨_, rfl⟩
              rw [hww] at B66 V_a V_b V_sum0 V_sum1 ⊢
              rw [hgn] at V_sum1 G_sum1  ⊢
              clear hww hgn
              as_aux_lemma =>
              obtain ⟨hc69, hc70, hf71, hf72⟩ := blk_cells2 V_a.out.b
              obtain ⟨hc73, hc74, hf75, hf76⟩ := blk_cells2 V_b.out.b
              go_wp2_with fail
              refine (show Calls Tryz.prog 13 #[.agg #[.slice X1 p1 q1, .slice X2 p2 q2], .agg #[.slice X3 p3 q3, .slice X4 p4 q4]] w68 (RtP w68 (r_less, e_less)) by have h := sub_any V_a.out.k V_b.out.k; rw [Q_less.out] at h; exact h).mono ?_
              rintro e w77 ⟨v, rfl, hrv, hb⟩
              obtain ⟨u1, u2, rfl, hk⟩ := gd_rk hrv D_less.out
              obtain ⟨C78, m79, j80, e1⟩ := sl_form hk.s1
              obtain ⟨D81, p82, q83, e2⟩ := sl_form hk.s2
              subst e1 e2
              have KN := Lib.hid hk
              have V_a := Lib.hid (V_a.out.below hb)
              have V_b := Lib.hid (V_b.out.below hb)
              have V_sum0 := Lib.hid (V_sum0.out.below hb)
              have V_sum1 := Lib.hid (V_sum1.out.below hb)
              have B84 := Lib.hid (below_step B66.out hb)
              clear B66
              clear hk hb hrv
              clear hc69 hc70 hf71 hf72 hc73 hc74 hf75 hf76
              have BS0 := B84
              go_upto_region 20 with fail
              have V_a := Lib.hid (V_a.out.below (boxb w77 (.slice C78 m79 j80) (.slice D81 p82 q83)))
              have V_b := Lib.hid (V_b.out.below (boxb w77 (.slice C78 m79 j80) (.slice D81 p82 q83)))
              have V_sum0 := Lib.hid (V_sum0.out.below (boxb w77 (.slice C78 m79 j80) (.slice D81 p82 q83)))
              have V_sum1 := Lib.hid (V_sum1.out.below (boxb w77 (.slice C78 m79 j80) (.slice D81 p82 q83)))
              have B85 := Lib.hid (below_step B84.out (boxb w77 (.slice C78 m79 j80) (.slice D81 p82 q83)))
              clear B84
              have V_less0 := Lib.hid (Bx.new KN.out)
              have G_less0 := Lib.hid (show w2.heap.size ≤ w77.heap.size from BS0.out.size)
              clear KN
              clear BS0
              obtain ⟨g86, hgn⟩ : ∃ g, w77.heap.size = g := ⟨_, rfl⟩
              obtain ⟨w87, hww⟩ : ∃ W, w77.alloc (.cells #[.slice C78 m79 j80, .slice D81 p82 q83] 27) = W := ⟨_, rfl⟩
              rw [hww] at B85 V_a V_b V_sum0 V_sum1 V_less0 ⊢
              rw [hgn] at V_less0 G_less0  ⊢
              clear hww hgn
              as_aux_lemma =>
              obtain ⟨hc88, hc89, hf90, hf91⟩ := blk_cells2 V_a.out.b
              obtain ⟨hc92, hc93, hf94, hf95⟩ := blk_cells2 V_b.out.b
              go_wp2_with fail
              refine (show Calls Tryz.prog 14 #[.agg #[.slice X1 p1 q1, .slice X2 p2 q2], .agg #[.slice X3 p3 q3, .slice X4 p4 q4]] w87 (RtP w87 (r_less, e_less)) by have h := rsub_any V_a.out.k V_b.out.k; rw [Q_less.out] at h; exact h).mono ?_
              rintro e w96 ⟨v, rfl, hrv, hb⟩
              obtain ⟨u1, u2, rfl, hk⟩ := gd_rk hrv D_less.out
              obtain ⟨C97, m98, j99, e1⟩ := sl_form hk.s1
              obtain ⟨D100, p101, q102, e2⟩ := sl_form hk.s2
              subst e1 e2
              have KN := Lib.hid hk
              have V_a := Lib.hid (V_a.out.below hb)
              have V_b := Lib.hid (V_b.out.below hb)
              have V_sum0 := Lib.hid (V_sum0.out.below hb)
              have V_sum1 := Lib.hid (V_sum1.out.below hb)
              have V_less0 := Lib.hid (V_less0.out.below hb)
              have B103 := Lib.hid (below_step B85.out hb)
              clear B85
              clear hk hb hrv
              clear hc88 hc89 hf90 hf91 hc92 hc93 hf94 hf95
              have BS0 := B103
              go_upto_region 21 with fail
              have V_a := Lib.hid (V_a.out.below (boxb w96 (.slice C97 m98 j99) (.slice D100 p101 q102)))
              have V_b := Lib.hid (V_b.out.below (boxb w96 (.slice C97 m98 j99) (.slice D100 p101 q102)))
              have V_sum0 := Lib.hid (V_sum0.out.below (boxb w96 (.slice C97 m98 j99) (.slice D100 p101 q102)))
              have V_sum1 := Lib.hid (V_sum1.out.below (boxb w96 (.slice C97 m98 j99) (.slice D100 p101 q102)))
              have V_less0 := Lib.hid (V_less0.out.below (boxb w96 (.slice C97 m98 j99) (.slice D100 p101 q102)))
              have B104 := Lib.hid (below_step B103.out (boxb w96 (.slice C97 m98 j99) (.slice D100 p101 q102)))
              clear B103
              have V_less1 := Lib.hid (Bx.new KN.out)
              have G_less1 := Lib.hid (show w2.heap.size ≤ w96.heap.size from BS0.out.size)
              clear KN
              clear BS0
              obtain ⟨g105, hgn⟩ : ∃ g, w96.heap.size = g := ⟨_, rfl⟩
              obtain ⟨w106, hww⟩ : ∃ W, w96.alloc (.cells #[.slice C97 m98 j99, .slice D100 p101 q102] 27) = W := ⟨_, rfl⟩
              rw [hww] at B104 V_a V_b V_sum0 V_sum1 V_less0 V_less1 ⊢
              rw [hgn] at V_less1 G_less1  ⊢
              clear hww hgn
              as_aux_lemma =>
              obtain ⟨hc107, hc108, hf109, hf110⟩ := blk_cells2 V_sum0.out.b
              obtain ⟨hc111, hc112, hf113, hf114⟩ := blk_cells2 V_sum1.out.b
              go_wp2_with fail
              have hsm := rsame_any V_sum0.out.k V_sum1.out.k
              rw [decide_eq_true rfl] at hsm
              refine hsm.mono ?_
              clear hsm
              rintro e w115 ⟨rfl, hb⟩
              have V_a := Lib.hid (V_a.out.below hb)
              have V_b := Lib.hid (V_b.out.below hb)
              have V_sum0 := Lib.hid (V_sum0.out.below hb)
              have V_sum1 := Lib.hid (V_sum1.out.below hb)
              have V_less0 := Lib.hid (V_less0.out.below hb)
              have V_less1 := Lib.hid (V_less1.out.below hb)
              have B116 := Lib.hid (below_step B104.out hb)
              clear B104
              clear hb
              clear hc107 hc108 hf109 hf110 hc111 hc112 hf113 hf114
              as_aux_lemma =>
              obtain ⟨hc117, hc118, hf119, hf120⟩ := blk_cells2 V_less0.out.b
              obtain ⟨hc121, hc122, hf123, hf124⟩ := blk_cells2 V_less1.out.b
              go_wp2_with fail
              have hsm := rsame_any V_less0.out.k V_less1.out.k
              rw [decide_eq_true rfl] at hsm
              refine hsm.mono ?_
              clear hsm
              rintro e w125 ⟨rfl, hb⟩
              have V_a := Lib.hid (V_a.out.below hb)
              have V_b := Lib.hid (V_b.out.below hb)
              have V_sum0 := Lib.hid (V_sum0.out.below hb)
              have V_sum1 := Lib.hid (V_sum1.out.below hb)
              have V_less0 := Lib.hid (V_less0.out.below hb)
              have V_less1 := Lib.hid (V_less1.out.below hb)
              have B126 := Lib.hid (below_step B116.out hb)
              clear B116
              clear hb
              clear hc117 hc118 hf119 hf120 hc121 hc122 hf123 hf124
              as_aux_lemma =>
              clear V_sum0 G_sum0
              clear V_sum1 G_sum1
              clear V_less0 G_less0
              clear V_less1 G_less1
              clear Q_cmp Q_sum D_sum Q_less D_less
              go_upto_region 23 with fail
              obtain ⟨r_times, e_times, h_times⟩ : ∃ r e, mulR r' s' = (r, e) := ⟨_, _, rfl⟩
              have Q_times := Lib.hid h_times
              have D_times := Lib.hid (show Gd5 (r_times, e_times) by rw [← h_times]; exact gd_mul V_a.out.k.ok V_b.out.k.ok)
              clear h_times
              obtain ⟨r_part, e_part, h_part⟩ : ∃ r e, divR r' s' = (r, e) := ⟨_, _, rfl⟩
              have Q_part := Lib.hid h_part
              have D_part := Lib.hid (show Gd5 (r_part, e_part) by rw [← h_part]; exact gd_div V_a.out.k.ok V_b.out.k.ok)
              clear h_part
              obtain ⟨hc127, hc128, hf129, hf130⟩ := blk_cells2 V_a.out.b
              obtain ⟨hc131, hc132, hf133, hf134⟩ := blk_cells2 V_b.out.b
              go_wp2_with fail
              refine (show Calls Tryz.prog 16 #[.agg #[.slice X1 p1 q1, .slice X2 p2 q2], .agg #[.slice X3 p3 q3, .slice X4 p4 q4]] w125 (RtP w125 (r_times, e_times)) by have h := mul_any V_a.out.k V_b.out.k; rw [Q_times.out] at h; exact h).mono ?_
              rintro e w135 ⟨v, rfl, hrv, hb⟩
              obtain ⟨u1, u2, rfl, hk⟩ := gd_rk hrv D_times.out
              obtain ⟨C136, m137, j138, e1⟩ := sl_form hk.s1
              obtain ⟨D139, p140, q141, e2⟩ := sl_form hk.s2
              subst e1 e2
              have KN := Lib.hid hk
              have V_a := Lib.hid (V_a.out.below hb)
              have V_b := Lib.hid (V_b.out.below hb)
              have B142 := Lib.hid (below_step B126.out hb)
              clear B126
              clear hk hb hrv
              clear hc127 hc128 hf129 hf130 hc131 hc132 hf133 hf134
              have BS0 := B142
              go_upto_region 24 with fail
              have V_a := Lib.hid (V_a.out.below (boxb w135 (.slice C136 m137 j138) (.slice D139 p140 q141)))
              have V_b := Lib.hid (V_b.out.below (boxb w135 (.slice C136 m137 j138) (.slice D139 p140 q141)))
              have B143 := Lib.hid (below_step B142.out (boxb w135 (.slice C136 m137 j138) (.slice D139 p140 q141)))
              clear B142
              have V_times0 := Lib.hid (Bx.new KN.out)
              have G_times0 := Lib.hid (show w2.heap.size ≤ w135.heap.size from BS0.out.size)
              clear KN
              clear BS0
              obtain ⟨g144, hgn⟩ : ∃ g, w135.heap.size = g := ⟨_, rfl⟩
              obtain ⟨w145, hww⟩ : ∃ W, w135.alloc (.cells #[.slice C136 m137 j138, .slice D139 p140 q141] 27) = W := ⟨_, rfl⟩
              rw [hww] at B143 V_a V_b V_times0 ⊢
              rw [hgn] at V_times0 G_times0  ⊢
              clear hww hgn
              as_aux_lemma =>
              obtain ⟨hc146, hc147, hf148, hf149⟩ := blk_cells2 V_a.out.b
              obtain ⟨hc150, hc151, hf152, hf153⟩ := blk_cells2 V_b.out.b
              go_wp2_with fail
              refine (show Calls Tryz.prog 17 #[.agg #[.slice X1 p1 q1, .slice X2 p2 q2], .agg #[.slice X3 p3 q3, .slice X4 p4 q4]] w145 (RtP w145 (r_times, e_times)) by have h := rmul_any V_a.out.k V_b.out.k; rw [Q_times.out] at h; exact h).mono ?_
              rintro e w154 ⟨v, rfl, hrv, hb⟩
              obtain ⟨u1, u2, rfl, hk⟩ := gd_rk hrv D_times.out
              obtain ⟨C155, m156, j157, e1⟩ := sl_form hk.s1
              obtain ⟨D158, p159, q160, e2⟩ := sl_form hk.s2
              subst e1 e2
              have KN := Lib.hid hk
              have V_a := Lib.hid (V_a.out.below hb)
              have V_b := Lib.hid (V_b.out.below hb)
              have V_times0 := Lib.hid (V_times0.out.below hb)
              have B161 := Lib.hid (below_step B143.out hb)
              clear B143
              clear hk hb hrv
              clear hc146 hc147 hf148 hf149 hc150 hc151 hf152 hf153
              have BS0 := B161
              go_upto_region 25 with fail
              have V_a := Lib.hid (V_a.out.below (boxb w154 (.slice C155 m156 j157) (.slice D158 p159 q160)))
              have V_b := Lib.hid (V_b.out.below (boxb w154 (.slice C155 m156 j157) (.slice D158 p159 q160)))
              have V_times0 := Lib.hid (V_times0.out.below (boxb w154 (.slice C155 m156 j157) (.slice D158 p159 q160)))
              have B162 := Lib.hid (below_step B161.out (boxb w154 (.slice C155 m156 j157) (.slice D158 p159 q160)))
              clear B161
              have V_times1 := Lib.hid (Bx.new KN.out)
              have G_times1 := Lib.hid (show w2.heap.size ≤ w154.heap.size from BS0.out.size)
              clear KN
              clear BS0
              obtain ⟨g163, hgn⟩ : ∃ g, w154.heap.size = g := ⟨_, rfl⟩
              obtain ⟨w164, hww⟩ : ∃ W, w154.alloc (.cells #[.slice C155 m156 j157, .slice D158 p159 q160] 27) = W := ⟨_, rfl⟩
              rw [hww] at B162 V_a V_b V_times0 V_times1 ⊢
              rw [hgn] at V_times1 G_times1  ⊢
              clear hww hgn
              as_aux_lemma =>
              obtain ⟨hc165, hc166, hf167, hf168⟩ := blk_cells2 V_a.out.b
              obtain ⟨hc169, hc170, hf171, hf172⟩ := blk_cells2 V_b.out.b
              go_wp2_with fail
              refine (show Calls Tryz.prog 18 #[.agg #[.slice X1 p1 q1, .slice X2 p2 q2], .agg #[.slice X3 p3 q3, .slice X4 p4 q4]] w164 (RtP w164 (r_part, e_part)) by have h := div_any V_a.out.k V_b.out.k; rw [Q_part.out] at h; exact h).mono ?_
              rintro e w173 ⟨v, rfl, hrv, hb⟩
              obtain ⟨u1, u2, rfl, hk⟩ := gd_rk hrv D_part.out
              obtain ⟨C174, m175, j176, e1⟩ := sl_form hk.s1
              obtain ⟨D177, p178, q179, e2⟩ := sl_form hk.s2
              subst e1 e2
              have KN := Lib.hid hk
              have V_a := Lib.hid (V_a.out.below hb)
              have V_b := Lib.hid (V_b.out.below hb)
              have V_times0 := Lib.hid (V_times0.out.below hb)
              have V_times1 := Lib.hid (V_times1.out.below hb)
              have B180 := Lib.hid (below_step B162.out hb)
              clear B162
              clear hk hb hrv
              clear hc165 hc166 hf167 hf168 hc169 hc170 hf171 hf172
              have BS0 := B180
              go_upto_region 26 with fail
              have V_a := Lib.hid (V_a.out.below (boxb w173 (.slice C174 m175 j176) (.slice D177 p178 q179)))
              have V_b := Lib.hid (V_b.out.below (boxb w173 (.slice C174 m175 j176) (.slice D177 p178 q179)))
              have V_times0 := Lib.hid (V_times0.out.below (boxb w173 (.slice C174 m175 j176) (.slice D177 p178 q179)))
              have V_times1 := Lib.hid (V_times1.out.below (boxb w173 (.slice C174 m175 j176) (.slice D177 p178 q179)))
              have B181 := Lib.hid (below_step B180.out (boxb w173 (.slice C174 m175 j176) (.slice D177 p178 q179)))
              clear B180
              have V_part0 := Lib.hid (Bx.new KN.out)
              have G_part0 := Lib.hid (show w2.heap.size ≤ w173.heap.size from BS0.out.size)
              clear KN
              clear BS0
              obtain ⟨g182, hgn⟩ : ∃ g, w173.heap.size = g := ⟨_, rfl⟩
              obtain ⟨w183, hww⟩ : ∃ W, w173.alloc (.cells #[.slice C174 m175 j176, .slice D177 p178 q179] 27) = W := ⟨_, rfl⟩
              rw [hww] at B181 V_a V_b V_times0 V_times1 V_part0 ⊢
              rw [hgn] at V_part0 G_part0  ⊢
              clear hww hgn
              as_aux_lemma =>
              obtain ⟨hc184, hc185, hf186, hf187⟩ := blk_cells2 V_a.out.b
              obtain ⟨hc188, hc189, hf190, hf191⟩ := blk_cells2 V_b.out.b
              go_wp2_with fail
              refine (show Calls Tryz.prog 19 #[.agg #[.slice X1 p1 q1, .slice X2 p2 q2], .agg #[.slice X3 p3 q3, .slice X4 p4 q4]] w183 (RtP w183 (r_part, e_part)) by have h := rdiv_any V_a.out.k V_b.out.k; rw [Q_part.out] at h; exact h).mono ?_
              rintro e w192 ⟨v, rfl, hrv, hb⟩
              obtain ⟨u1, u2, rfl, hk⟩ := gd_rk hrv D_part.out
              obtain ⟨C193, m194, j195, e1⟩ := sl_form hk.s1
              obtain ⟨D196, p197, q198, e2⟩ := sl_form hk.s2
              subst e1 e2
              have KN := Lib.hid hk
              have V_a := Lib.hid (V_a.out.below hb)
              have V_b := Lib.hid (V_b.out.below hb)
              have V_times0 := Lib.hid (V_times0.out.below hb)
              have V_times1 := Lib.hid (V_times1.out.below hb)
              have V_part0 := Lib.hid (V_part0.out.below hb)
              have B199 := Lib.hid (below_step B181.out hb)
              clear B181
              clear hk hb hrv
              clear hc184 hc185 hf186 hf187 hc188 hc189 hf190 hf191
              have BS0 := B199
              go_upto_region 27 with fail
              have V_a := Lib.hid (V_a.out.below (boxb w192 (.slice C193 m194 j195) (.slice D196 p197 q198)))
              have V_b := Lib.hid (V_b.out.below (boxb w192 (.slice C193 m194 j195) (.slice D196 p197 q198)))
              have V_times0 := Lib.hid (V_times0.out.below (boxb w192 (.slice C193 m194 j195) (.slice D196 p197 q198)))
              have V_times1 := Lib.hid (V_times1.out.below (boxb w192 (.slice C193 m194 j195) (.slice D196 p197 q198)))
              have V_part0 := Lib.hid (V_part0.out.below (boxb w192 (.slice C193 m194 j195) (.slice D196 p197 q198)))
              have B200 := Lib.hid (below_step B199.out (boxb w192 (.slice C193 m194 j195) (.slice D196 p197 q198)))
              clear B199
              have V_part1 := Lib.hid (Bx.new KN.out)
              have G_part1 := Lib.hid (show w2.heap.size ≤ w192.heap.size from BS0.out.size)
              clear KN
              clear BS0
              obtain ⟨g201, hgn⟩ : ∃ g, w192.heap.size = g := ⟨_, rfl⟩
              obtain ⟨w202, hww⟩ : ∃ W, w192.alloc (.cells #[.slice C193 m194 j195, .slice D196 p197 q198] 27) = W := ⟨_, rfl⟩
              rw [hww] at B200 V_a V_b V_times0 V_times1 V_part0 V_part1 ⊢
              rw [hgn] at V_part1 G_part1  ⊢
              clear hww hgn
              as_aux_lemma =>
              obtain ⟨hc203, hc204, hf205, hf206⟩ := blk_cells2 V_times0.out.b
              obtain ⟨hc207, hc208, hf209, hf210⟩ := blk_cells2 V_times1.out.b
              go_wp2_with fail
              have hsm := rsame_any V_times0.out.k V_times1.out.k
              rw [decide_eq_true rfl] at hsm
              refine hsm.mono ?_
              clear hsm
              rintro e w211 ⟨rfl, hb⟩
              have V_a := Lib.hid (V_a.out.below hb)
              have V_b := Lib.hid (V_b.out.below hb)
              have V_times0 := Lib.hid (V_times0.out.below hb)
              have V_times1 := Lib.hid (V_times1.out.below hb)
              have V_part0 := Lib.hid (V_part0.out.below hb)
              have V_part1 := Lib.hid (V_part1.out.below hb)
              have B212 := Lib.hid (below_step B200.out hb)
              clear B200
              clear hb
              clear hc203 hc204 hf205 hf206 hc207 hc208 hf209 hf210
              as_aux_lemma =>
              obtain ⟨hc213, hc214, hf215, hf216⟩ := blk_cells2 V_part0.out.b
              obtain ⟨hc217, hc218, hf219, hf220⟩ := blk_cells2 V_part1.out.b
              go_wp2_with fail
              have hsm := rsame_any V_part0.out.k V_part1.out.k
              rw [decide_eq_true rfl] at hsm
              refine hsm.mono ?_
              clear hsm
              rintro e w221 ⟨rfl, hb⟩
              have V_a := Lib.hid (V_a.out.below hb)
              have V_b := Lib.hid (V_b.out.below hb)
              have V_times0 := Lib.hid (V_times0.out.below hb)
              have V_times1 := Lib.hid (V_times1.out.below hb)
              have V_part0 := Lib.hid (V_part0.out.below hb)
              have V_part1 := Lib.hid (V_part1.out.below hb)
              have B222 := Lib.hid (below_step B212.out hb)
              clear B212
              clear hb
              clear hc213 hc214 hf215 hf216 hc217 hc218 hf219 hf220
              as_aux_lemma =>
              go_wp2_with fail
              go_roundw
              case rel => exact ⟨k + 1, HK.out, by simp, B222.out⟩
              case measure => simp only [intOf]; omega
          · have htI2 : ((t : Int) != 0) = true := by rw [bne_iff_ne]; omega
            clear h0 CW KA KB
            go_wp2_with (go_at_call 8; (with_reducible refine (HAr.out _).mono ?_); rintro e w' ⟨rfl, rfl⟩)
            go_roundw
            case rel => exact ⟨k + 1, HK.out, by simp, B0.out⟩
            case measure => simp only [intOf]; omega
        · have hin : k = 7 := by omega
          subst hin
          clear hk hge
          go_wp2_with fail
          go_roundw
          case rel => exact ⟨i + 1, HI.out.1, by simp, B0.out⟩
          case measure => simp only [intOf]; omega
    · have hin : i = 7 := by omega
      subst hin
      clear hi hge
      have BF := Lib.hid (below_step BWW.out BR.out)
      go_wp2_with fail
      refine (lives_any wr (HM.out.below H2.out BF.out) (by have := H2.out; have := BF.out.size; omega)).mono ?_
      rintro e w9 ⟨rfl, hb⟩
      have BL := Lib.hid (below_step BF.out hb)
      clear hb
      go_wp2_with fail
      go_ret
      exact ⟨rfl, BL.out⟩
end Go.Proofs.YtbfhilbagojdnaaGreat
