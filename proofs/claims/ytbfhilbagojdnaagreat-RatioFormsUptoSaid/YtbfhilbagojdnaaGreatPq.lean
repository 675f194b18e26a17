/-
  The reference: Parse.
  No condition but the length.
-/
import Derived.Test.YtbfhilbagojdnaaGreatCt
namespace Go.Proofs.YtbfhilbagojdnaaGreat
open Go.RowKit Wr Go.Proofs.YtbfhilbagojdnaaGreat.Nm
set_option linter.unusedVariables false
set_option maxRecDepth 100000

theorem ext_take (s : ByteArray) (k : Nat) : (s.extract 0 k).data.toList = s.data.toList.take k := by simp
theorem ext_drop (s : ByteArray) (k : Nat) : (s.extract k s.size).data.toList = s.data.toList.drop k := by
  rw [ByteArray.data_extract, Array.toList_extract, List.extract_eq_take_drop]
  exact List.take_of_length_le (by rw [List.length_drop]; exact Nat.le_refl _)
set_option maxHeartbeats 4000000 in
theorem rparse_any (s : ByteArray) (w : World) (hl : s.size ≤ 1000000000) : Calls Tryz.prog 36 #[.string s] w (RtP w (parseR s.data.toList)) := by
  suffices hgen : ∀ Res, Hid (parseR s.data.toList = Res) → Calls Tryz.prog 36 #[.string s] w (RtP w Res) from hgen _ (Lib.hid rfl)
  intro Res HRR
  obtain ⟨l, hL⟩ : ∃ l, l = s.data.toList := ⟨_, rfl⟩
  have hIX := fun k h W => str_ix s k h W
  have hsl : s.size = l.length := by rw [hL]; simp
  rw [← hL] at HRR
  obtain ⟨N, hn⟩ : ∃ n, n = s.size := ⟨_, rfl⟩
  have HN := Lib.hid (show N = l.length by omega)
  have hsz : (s.size : Int) = (N : Int) := by rw [hn]
  have HIX := Lib.hid (show ∀ k (h : k < l.length) W, (Instr.index 9 (.string s) (.int .i64 (k : Int))).run Tryz.prog W = .ok (.int .u8 ((l[k]).toNat : Int)) W by subst hL; exact hIX)
  have HRA := Lib.hid (show ∀ k, k ≤ N → ∀ W, Calls Tryz.prog 88 #[.string (s.extract 0 k)] W (fun e w' => e = .returned (.bool (rowOk (l.take k))) ∧ W = w') from fun k hk W => by
    have h := rrow_any (s.extract 0 k) W (by simp; omega)
    rw [ext_take, ← hL] at h; exact h)
  have HNA := Lib.hid (show ∀ k W, (l.take k).all digB = true → Calls Tryz.prog 89 #[.string (s.extract 0 k)] W (NaP W (l.take k)) from fun k W hd => by
    have h := number_all (s.extract 0 k) W (by rw [ext_take, ← hL]; exact hd)
    rw [ext_take, ← hL] at h; exact h)
  have HRB := Lib.hid (show ∀ k, k ≤ N → ∀ W, Calls Tryz.prog 88 #[.string (s.extract k s.size)] W (fun e w' => e = .returned (.bool (rowOk (l.drop k))) ∧ W = w') from fun k hk W => by
    have h := rrow_any (s.extract k s.size) W (by simp; omega)
    rw [ext_drop, ← hL] at h; exact h)
  have HNB := Lib.hid (show ∀ k W, (l.drop k).all digB = true → Calls Tryz.prog 89 #[.string (s.extract k s.size)] W (NaP W (l.drop k)) from fun k W hd => by
    have h := number_all (s.extract k s.size) W (by rw [ext_drop, ← hL]; exact hd)
    rw [ext_drop, ← hL] at h; exact h)
  have hnI : (N : Int) ≤ 1000000000 := by omega
  have HR0 := Lib.hid (res0 w); have HB0 := Lib.hid (bel0 w)
  clear hIX hsl hL hn hl
  go_enter Tryz.func36, Tryz.ntmps36
  go_upto_region 1 with (fail)
  generalize w.alloc (.cells #[.slice none 0 0, .slice none 0 0] 27) = W0 at HR0 HB0 ⊢
  go_wp2_with fail
  go_loopw [4] (fun s4 wr => ∃ k : Nat, k ≤ N ∧ s4 = .int .i64 ((k : Nat) : Int) ∧ (∀ j, j < k → l[j]? ≠ some 47) ∧ wr = W0) (fun s4 _ => N - (intOf s4).toNat)
  case atStart => exact ⟨0, Nat.zero_le _, rfl, fun j hj => absurd hj (by omega), rfl⟩
  case round =>
    obtain ⟨k, hk, rfl, hno, rfl⟩ := hrel
    rename World => W0
    rcases Nat.lt_or_ge k N with hlt | hge
    · have hkl : k < l.length := by have := HN.out; omega
      have hix := HIX.out k hkl
      have hkI : (k : Int) < (N : Int) := by omega
      by_cases h47 : l[k] = 47
      · have hbv : ((l[k].toNat : Int) != 47) = false := by rw [h47]; rfl
        have hcut := cut_at (l := l) (k := k) (by omega) hno (Or.inr (by rw [List.getElem?_eq_getElem hkl, h47]))
        rw [decide_eq_true hkl] at hcut
        have hre := HRR.out
        unfold parseR at hre
        rw [hcut] at hre
        dsimp only at hre
        have HA := Lib.hid (HRA.out k hk W0)
        have HNU := Lib.hid (HNA.out k)
        have HB9 := Lib.hid (HRB.out (k + 1) (by omega) W0)
        have HNV := Lib.hid (HNB.out (k + 1))
        obtain ⟨a, ha⟩ : ∃ a, a = l.take k := ⟨_, rfl⟩
        obtain ⟨b, hb⟩ : ∃ a, a = l.drop (k + 1) := ⟨_, rfl⟩
        rw [← ha] at hre HA HNU
        rw [← hb] at hre HB9 HNV
        obtain ⟨ra, hra⟩ : ∃ q, q = rowOk a := ⟨_, rfl⟩
        obtain ⟨rb, hrb⟩ : ∃ q, q = rowOk b := ⟨_, rfl⟩
        have HRA2 := Lib.hid hra; have HRB2 := Lib.hid hrb
        rw [← hra] at hre HA
        rw [← hrb] at hre HB9
        generalize l[k].toNat = bt at *
        have hk1 : (k : Int) + 1 ≤ (N : Int) := by omega
        clear hcut ha hb hra hrb hno hk HIX h47
        go_wp2_with fail
        refine HA.out.mono ?_
        rintro e w1 ⟨rfl, rfl⟩
        cases ra with
        | false =>
          rw [if_pos (Or.inl rfl)] at hre
          subst hre
          clear HA HNU HB9 HNV
          obtain ⟨hc1, hc2, hf1, hf2⟩ := blk_cells2 HR0.out
          go_wp2_with fail
          have hbk := (((HR0.out).put 0 (.slice none 0 0)).put 1 (.slice none 0 0))
          have hbl := (((HB0.out).setCell (p := ⟨w.heap.size, 0, none⟩) (Nat.le_refl _) (.slice none 0 0)).setCell (p := ⟨w.heap.size, 1, none⟩) (Nat.le_refl _) (.slice none 0 0))
          refine bodyPost_ret (v := .tuple #[.agg #[(.slice none 0 0), (.slice none 0 0)], .int .i64 2]) ?_ rfl ⟨.agg #[(.slice none 0 0), (.slice none 0 0)], rfl, ⟨_, _, rfl, sl_res (Sl.nil _) HR0.out _ _ _ _ _ _, sl_res (Sl.nil _) HR0.out _ _ _ _ _ _⟩, hbl⟩
          have hr := run_loadVar_at (P := Tryz.prog) _ ⟨w.heap.size, 0, none⟩ 27 [(.slice none 0 0), (.slice none 0 0)] _ hbk.at Tryz.underlying27 rfl size28
          simp [results, Tryz.results36, asAddr, hr]
        | true =>
          have HRE := Lib.hid hre
          clear hre
          go_wp2_with fail
          refine HB9.out.mono ?_
          rintro e w1 ⟨rfl, rfl⟩
          have hre := HRE.out
          cases rb with
          | false =>
            rw [if_pos (Or.inr ⟨by trivial, rfl⟩)] at hre
            subst hre
            clear HA HNU HB9 HNV HRE
            obtain ⟨hc1, hc2, hf1, hf2⟩ := blk_cells2 HR0.out
            go_wp2_with fail
            have hbk := (((HR0.out).put 0 (.slice none 0 0)).put 1 (.slice none 0 0))
            have hbl := (((HB0.out).setCell (p := ⟨w.heap.size, 0, none⟩) (Nat.le_refl _) (.slice none 0 0)).setCell (p := ⟨w.heap.size, 1, none⟩) (Nat.le_refl _) (.slice none 0 0))
            refine bodyPost_ret (v := .tuple #[.agg #[(.slice none 0 0), (.slice none 0 0)], .int .i64 2]) ?_ rfl ⟨.agg #[(.slice none 0 0), (.slice none 0 0)], rfl, ⟨_, _, rfl, sl_res (Sl.nil _) HR0.out _ _ _ _ _ _, sl_res (Sl.nil _) HR0.out _ _ _ _ _ _⟩, hbl⟩
            have hr := run_loadVar_at (P := Tryz.prog) _ ⟨w.heap.size, 0, none⟩ 27 [(.slice none 0 0), (.slice none 0 0)] _ hbk.at Tryz.underlying27 rfl size28
            simp [results, Tryz.results36, asAddr, hr]
          | true =>
            rw [if_neg (by simp)] at hre
            have HC := Lib.hid (HNU.out W0 (row_dig HRA2.out.symm))
            have HRE2 := Lib.hid hre
            clear HA HNU HRE hre HB9
            go_wp2_with fail
            refine HC.out.mono ?_
            rintro e w2 ⟨v1, rfl, s1, hb⟩
            have hR2 := HR0.out.below hb HR0.out.lt; have hB2 := below_step HB0.out hb
            have hal := (Below.refl w2.heap.size w2).alloc (Nat.le_refl _) (.cells #[] 66)
            have R3 := Lib.hid (hR2.below hal hR2.lt); have B3 := Lib.hid (below_step hB2 hal); have SA0 := Lib.hid (s1.below hal)
            obtain ⟨q1, hq1⟩ : ∃ q, decide (a.length ≤ 617 ∧ (lim (decV a)).length ≤ 64) = q := ⟨_, rfl⟩
            rw [hq1]
            obtain ⟨C1, m1, j1, e1⟩ := sl_form s1
            subst e1
            clear s1 hb hal hR2 hB2 HC
            go_upto_region 8 with fail
            obtain ⟨g3, hg3⟩ : ∃ g, w2.heap.size = g := ⟨_, rfl⟩
            obtain ⟨w3, hww⟩ : ∃ W, w2.alloc (.cells #[] 66) = W := ⟨_, rfl⟩
            rw [hww] at R3 B3 SA0 ⊢
            rw [hg3]
            clear hww hg3
            have HC := Lib.hid (HNV.out w3 (row_dig HRB2.out.symm))
            clear HNV
            go_wp2_with fail
            refine HC.out.mono ?_
            rintro e ww ⟨v2, rfl, s2, hb⟩
            have R4 := Lib.hid (R3.out.below hb R3.out.lt); have B4 := Lib.hid (below_step B3.out hb); have SA4 := Lib.hid (SA0.out.below hb); have SD4 := Lib.hid s2
            obtain ⟨q2, hq2⟩ : ∃ q, decide (b.length ≤ 617 ∧ (lim (decV b)).length ≤ 64) = q := ⟨_, rfl⟩
            rw [hq2]
            obtain ⟨C2, n2, j2, e2⟩ := sl_form s2
            subst e2
            clear s2 hb R3 B3 SA0 HC
            have hre := HRE2.out
            by_cases hqq : q1 = true ∧ q2 = true
            · obtain ⟨rfl, rfl⟩ := hqq
              have h := of_decide_eq_true hq1
              have h9 := of_decide_eq_true hq2
              rw [if_neg (by omega), if_neg (by omega)] at hre
              have SA := Lib.hid (show Sl ww (.slice C1 m1 j1) (lim (decV a)) by have := SA4.out; rwa [if_pos h.1] at this)
              have SD := Lib.hid (show Sl ww (.slice C2 n2 j2) (lim (decV b)) by have := SD4.out; rwa [if_pos h9.1] at this)
              have HL := Lib.hid (And.intro h.2 h9.2)
              have HD0 := Lib.hid (show n2 = 0 ↔ decV b = 0 by rw [sl_len SD.out, List.length_eq_zero_iff, lim_nil])
              clear HRE2 hq1 hq2 h h9 SA4 SD4
              go_upto_region 15 with fail
              have R6 := Lib.hid (R4.out.alloc (.cells #[(.slice C1 m1 j1), (.slice C2 n2 j2)] 27))
              have B6 := Lib.hid (B4.out.alloc B4.out.size (.cells #[(.slice C1 m1 j1), (.slice C2 n2 j2)] 27))
              have S6 := Lib.hid (SA.out.below (boxb ww (.slice C1 m1 j1) (.slice C2 n2 j2))); have S7 := Lib.hid (SD.out.below (boxb ww (.slice C1 m1 j1) (.slice C2 n2 j2)))
              have X6 := Lib.hid (box0 ww (.slice C1 m1 j1) (.slice C2 n2 j2))
              obtain ⟨gn, hgn⟩ : ∃ g, ww.heap.size = g := ⟨_, rfl⟩
              obtain ⟨w6, hw6⟩ : ∃ W, ww.alloc (.cells #[(.slice C1 m1 j1), (.slice C2 n2 j2)] 27) = W := ⟨_, rfl⟩
              rw [hw6] at R6 B6 S6 S7 X6
              rw [hgn] at X6
              rw [hw6, hgn]
              clear R4 B4 SA SD hw6 hgn
              have HV := Lib.hid (rvalid_sl S6.out S7.out (lim_ok _) (lim_ok _) (by have := HL.out.1; omega) (by have := HL.out.2; omega))
              obtain ⟨vr, hvr⟩ : ∃ v, vld (lim (decV a), lim (decV b)) = v := ⟨_, rfl⟩
              have HV2 := Lib.hid (show Calls Tryz.prog 67 #[.agg #[(.slice C1 m1 j1), (.slice C2 n2 j2)]] w6 (fun e w' => e = .returned (.int .i64 ((vr : Nat) : Int)) ∧ Below w6.heap.size w6 w') by rw [← hvr]; exact HV.out)
              rw [hvr] at hre
              have HRE := Lib.hid hre
              obtain ⟨hc3, hc4, hf3, hf4⟩ := blk_cells2 X6.out
              clear HV hvr hre
              go_wp2_with fail
              refine HV2.out.mono ?_
              rintro e w7 ⟨rfl, hb⟩
              have R7 := Lib.hid (R6.out.below hb R6.out.lt); have B7 := Lib.hid (below_step B6.out hb); have X7 := Lib.hid (X6.out.below hb X6.out.lt)
              have S8 := Lib.hid (S6.out.below hb); have S9 := Lib.hid (S7.out.below hb)
              clear hb HV2 R6 B6 X6 S6 S7 hc3 hc4 hf3 hf4
              obtain ⟨hc1, hc2, hf1, hf2⟩ := blk_cells2 R7.out
              obtain ⟨hc3, hc4, hf3, hf4⟩ := blk_cells2 X7.out
              have hre := HRE.out
              by_cases hv : vr = 0
              · subst hv
                by_cases hd0 : n2 = 0
                · rw [if_pos (Or.inl ⟨by trivial, HD0.out.1 hd0⟩)] at hre
                  subst hre hd0
                  clear HRE HD0
                  go_wp2_with fail
                  have hbk := (((R7.out).put 0 (.slice none 0 0)).put 1 (.slice none 0 0))
                  have hbl := (((B7.out).setCell (p := ⟨w.heap.size, 0, none⟩) (Nat.le_refl _) (.slice none 0 0)).setCell (p := ⟨w.heap.size, 1, none⟩) (Nat.le_refl _) (.slice none 0 0))
                  refine bodyPost_ret (v := .tuple #[.agg #[(.slice none 0 0), (.slice none 0 0)], .int .i64 1]) ?_ rfl ⟨.agg #[(.slice none 0 0), (.slice none 0 0)], rfl, ⟨_, _, rfl, sl_res (Sl.nil _) R7.out _ _ _ _ _ _, sl_res (Sl.nil _) R7.out _ _ _ _ _ _⟩, hbl⟩
                  have hr := run_loadVar_at (P := Tryz.prog) _ ⟨w.heap.size, 0, none⟩ 27 [(.slice none 0 0), (.slice none 0 0)] _ hbk.at Tryz.underlying27 rfl size28
                  simp [results, Tryz.results36, asAddr, hr]
                · rw [if_neg (by rintro (h | h); exact hd0 (HD0.out.2 h.2); exact h rfl)] at hre
                  subst hre
                  have hne2 : ((n2 : Int) == 0) = false := by rw [beq_eq_false_iff_ne]; omega
                  clear HRE HD0 hd0
                  go_wp2_with fail
                  have hbk := (((R7.out).put 0 (.slice C1 m1 j1)).put 1 (.slice C2 n2 j2))
                  have hbl := (((B7.out).setCell (p := ⟨w.heap.size, 0, none⟩) (Nat.le_refl _) (.slice C1 m1 j1)).setCell (p := ⟨w.heap.size, 1, none⟩) (Nat.le_refl _) (.slice C2 n2 j2))
                  refine bodyPost_ret (v := .tuple #[.agg #[(.slice C1 m1 j1), (.slice C2 n2 j2)], .int .i64 0]) ?_ rfl ⟨.agg #[(.slice C1 m1 j1), (.slice C2 n2 j2)], rfl, ⟨_, _, rfl, sl_res S8.out R7.out _ _ _ _ _ _, sl_res S9.out R7.out _ _ _ _ _ _⟩, hbl⟩
                  have hr := run_loadVar_at (P := Tryz.prog) _ ⟨w.heap.size, 0, none⟩ 27 [(.slice C1 m1 j1), (.slice C2 n2 j2)] _ hbk.at Tryz.underlying27 rfl size28
                  simp [results, Tryz.results36, asAddr, hr]
              · rw [if_pos (Or.inr hv)] at hre
                subst hre
                have hne : (((vr : Nat) : Int) != 0) = true := by rw [bne_iff_ne]; omega
                clear HRE hv
                go_wp2_with fail
                have hbk := (((R7.out).put 0 (.slice none 0 0)).put 1 (.slice none 0 0))
                have hbl := (((B7.out).setCell (p := ⟨w.heap.size, 0, none⟩) (Nat.le_refl _) (.slice none 0 0)).setCell (p := ⟨w.heap.size, 1, none⟩) (Nat.le_refl _) (.slice none 0 0))
                refine bodyPost_ret (v := .tuple #[.agg #[(.slice none 0 0), (.slice none 0 0)], .int .i64 1]) ?_ rfl ⟨.agg #[(.slice none 0 0), (.slice none 0 0)], rfl, ⟨_, _, rfl, sl_res (Sl.nil _) R7.out _ _ _ _ _ _, sl_res (Sl.nil _) R7.out _ _ _ _ _ _⟩, hbl⟩
                have hr := run_loadVar_at (P := Tryz.prog) _ ⟨w.heap.size, 0, none⟩ 27 [(.slice none 0 0), (.slice none 0 0)] _ hbk.at Tryz.underlying27 rfl size28
                simp [results, Tryz.results36, asAddr, hr]
            · have hr4 : Res = (noR, 4) := by
                by_cases h1 : 617 < a.length ∨ 617 < b.length
                · rw [if_pos h1] at hre; exact hre.symm
                · rw [if_neg h1] at hre
                  by_cases h2 : 64 < (lim (decV a)).length ∨ 64 < (lim (decV b)).length
                  · rw [if_pos h2] at hre; exact hre.symm
                  · exact absurd ⟨by rw [← hq1, decide_eq_true_iff]; omega, by rw [← hq2, decide_eq_true_iff]; omega⟩ hqq
              subst hr4
              clear hre HRE2 hq1 hq2 SA4 SD4
              cases q1 with
              | false =>
                clear hqq
                obtain ⟨hc1, hc2, hf1, hf2⟩ := blk_cells2 R4.out
                go_wp2_with fail
                have hbk := (((R4.out).put 0 (.slice none 0 0)).put 1 (.slice none 0 0))
                have hbl := (((B4.out).setCell (p := ⟨w.heap.size, 0, none⟩) (Nat.le_refl _) (.slice none 0 0)).setCell (p := ⟨w.heap.size, 1, none⟩) (Nat.le_refl _) (.slice none 0 0))
                refine bodyPost_ret (v := .tuple #[.agg #[(.slice none 0 0), (.slice none 0 0)], .int .i64 4]) ?_ rfl ⟨.agg #[(.slice none 0 0), (.slice none 0 0)], rfl, ⟨_, _, rfl, sl_res (Sl.nil _) R4.out _ _ _ _ _ _, sl_res (Sl.nil _) R4.out _ _ _ _ _ _⟩, hbl⟩
                have hr := run_loadVar_at (P := Tryz.prog) _ ⟨w.heap.size, 0, none⟩ 27 [(.slice none 0 0), (.slice none 0 0)] _ hbk.at Tryz.underlying27 rfl size28
                simp [results, Tryz.results36, asAddr, hr]
              | true =>
                cases q2 with
                | false =>
                  clear hqq
                  obtain ⟨hc1, hc2, hf1, hf2⟩ := blk_cells2 R4.out
                  go_wp2_with fail
                  have hbk := (((R4.out).put 0 (.slice none 0 0)).put 1 (.slice none 0 0))
                  have hbl := (((B4.out).setCell (p := ⟨w.heap.size, 0, none⟩) (Nat.le_refl _) (.slice none 0 0)).setCell (p := ⟨w.heap.size, 1, none⟩) (Nat.le_refl _) (.slice none 0 0))
                  refine bodyPost_ret (v := .tuple #[.agg #[(.slice none 0 0), (.slice none 0 0)], .int .i64 4]) ?_ rfl ⟨.agg #[(.slice none 0 0), (.slice none 0 0)], rfl, ⟨_, _, rfl, sl_res (Sl.nil _) R4.out _ _ _ _ _ _, sl_res (Sl.nil _) R4.out _ _ _ _ _ _⟩, hbl⟩
                  have hr := run_loadVar_at (P := Tryz.prog) _ ⟨w.heap.size, 0, none⟩ 27 [(.slice none 0 0), (.slice none 0 0)] _ hbk.at Tryz.underlying27 rfl size28
                  simp [results, Tryz.results36, asAddr, hr]
                | true => exact absurd ⟨rfl, rfl⟩ hqq
      · have HNO := Lib.hid (show ∀ j, j < k + 1 → l[j]? ≠ some 47 from fun j hj => by
          rcases Nat.lt_or_ge j k with h | h
          · exact hno j h
          · have e : j = k := by omega
            subst e
            rw [List.getElem?_eq_getElem hkl]; intro e; injection e with e; exact h47 e)
        have hne : ((l[k].toNat : Int) != 47) = true := by
          rw [bne_iff_ne]
          intro e
          exact h47 (UInt8.toNat_inj.1 (by show l[k].toNat = 47; omega))
        generalize l[k].toNat = b at *
        clear h47 hno
        go_wp2_with fail
        go_roundw
        case rel => exact ⟨k + 1, by omega, by simp, HNO.out, by trivial⟩
        case measure => simp only [intOf]; omega
    · have hkn : k = N := by omega
      subst hkn
      have hcut := cut_at (l := l) (k := k) (by have := HN.out; omega) hno (Or.inl HN.out)
      rw [show decide (k < l.length) = false by rw [decide_eq_false_iff_not]; have := HN.out; omega, List.drop_of_length_le (by have := HN.out; omega)] at hcut
      have hre := HRR.out
      unfold parseR at hre
      rw [hcut] at hre
      dsimp only at hre
      have HA := Lib.hid (HRA.out k (Nat.le_refl _) W0)
      have HNU := Lib.hid (HNA.out k)
      obtain ⟨a, ha⟩ : ∃ a, a = l.take k := ⟨_, rfl⟩
      rw [← ha] at hre HA HNU
      obtain ⟨sa, hsa⟩ : ∃ t, t = s.extract 0 k := ⟨_, rfl⟩
      obtain ⟨ra, hra⟩ : ∃ q, q = rowOk a := ⟨_, rfl⟩
      have HRA2 := Lib.hid hra
      rw [← hra] at hre HA
      clear hcut ha hsa hra hno hk HIX hge
      go_wp2_with fail
      refine HA.out.mono ?_
      rintro e w1 ⟨rfl, rfl⟩
      cases ra with
      | false =>
        rw [if_pos (Or.inl rfl)] at hre
        subst hre
        clear HA HNU
        obtain ⟨hc1, hc2, hf1, hf2⟩ := blk_cells2 HR0.out
        go_wp2_with fail
        have hbk := (((HR0.out).put 0 (.slice none 0 0)).put 1 (.slice none 0 0))
        have hbl := (((HB0.out).setCell (p := ⟨w.heap.size, 0, none⟩) (Nat.le_refl _) (.slice none 0 0)).setCell (p := ⟨w.heap.size, 1, none⟩) (Nat.le_refl _) (.slice none 0 0))
        refine bodyPost_ret (v := .tuple #[.agg #[(.slice none 0 0), (.slice none 0 0)], .int .i64 2]) ?_ rfl ⟨.agg #[(.slice none 0 0), (.slice none 0 0)], rfl, ⟨_, _, rfl, sl_res (Sl.nil _) HR0.out _ _ _ _ _ _, sl_res (Sl.nil _) HR0.out _ _ _ _ _ _⟩, hbl⟩
        have hr := run_loadVar_at (P := Tryz.prog) _ ⟨w.heap.size, 0, none⟩ 27 [(.slice none 0 0), (.slice none 0 0)] _ hbk.at Tryz.underlying27 rfl size28
        simp [results, Tryz.results36, asAddr, hr]
      | true =>
        rw [if_neg (by simp)] at hre
        have HC := Lib.hid (HNU.out W0 (row_dig HRA2.out.symm))
        clear HA HNU
        have HRE := Lib.hid hre
        clear hre
        go_wp2_with fail
        refine HC.out.mono ?_
        rintro e w2 ⟨v1, rfl, s1, hb⟩
        have hR2 := HR0.out.below hb HR0.out.lt; have hB2 := below_step HB0.out hb
        have hal := (Below.refl w2.heap.size w2).alloc (Nat.le_refl _) (.cells #[] 66)
        have R3 := Lib.hid (hR2.below hal hR2.lt); have B3 := Lib.hid (below_step hB2 hal); have SA0 := Lib.hid (s1.below hal)
        have SD := Lib.hid (show Sl (w2.alloc (.cells #[] 66)) (.slice (some ⟨w2.heap.size, 0, none⟩) 0 0) [] from ⟨_, 0, rfl, Nat.le_refl _, (fun e => by cases e), Rd.nil⟩)
        obtain ⟨q1, hq1⟩ : ∃ q, decide (a.length ≤ 617 ∧ (lim (decV a)).length ≤ 64) = q := ⟨_, rfl⟩
        rw [hq1]
        obtain ⟨C1, m1, j1, e1⟩ := sl_form s1
        subst e1
        clear s1 hb hal hR2 hB2 HC
        go_upto_region 8 with fail
        obtain ⟨g3, hg3⟩ : ∃ g, w2.heap.size = g := ⟨_, rfl⟩
        obtain ⟨ww, hww⟩ : ∃ W, w2.alloc (.cells #[] 66) = W := ⟨_, rfl⟩
        rw [hww] at R3 B3 SA0 SD ⊢
        rw [hg3] at SD ⊢
        clear hww hg3
        have hre := HRE.out
        cases q1 with
        | false =>
          have h := of_decide_eq_false hq1
          have hr4 : Res = (noR, 4) := by
            by_cases h1 : 617 < a.length
            · rw [if_pos (Or.inl h1)] at hre; exact hre.symm
            · rw [if_neg (by simp; omega), if_pos (Or.inl (by have : ¬ (lim (decV a)).length ≤ 64 := fun h2 => h ⟨by omega, h2⟩; omega))] at hre; exact hre.symm
          subst hr4
          clear hre HRE hq1 h SA0 SD
          obtain ⟨hc1, hc2, hf1, hf2⟩ := blk_cells2 R3.out
          go_wp2_with fail
          have hbk := (((R3.out).put 0 (.slice none 0 0)).put 1 (.slice none 0 0))
          have hbl := (((B3.out).setCell (p := ⟨w.heap.size, 0, none⟩) (Nat.le_refl _) (.slice none 0 0)).setCell (p := ⟨w.heap.size, 1, none⟩) (Nat.le_refl _) (.slice none 0 0))
          refine bodyPost_ret (v := .tuple #[.agg #[(.slice none 0 0), (.slice none 0 0)], .int .i64 4]) ?_ rfl ⟨.agg #[(.slice none 0 0), (.slice none 0 0)], rfl, ⟨_, _, rfl, sl_res (Sl.nil _) R3.out _ _ _ _ _ _, sl_res (Sl.nil _) R3.out _ _ _ _ _ _⟩, hbl⟩
          have hr := run_loadVar_at (P := Tryz.prog) _ ⟨w.heap.size, 0, none⟩ 27 [(.slice none 0 0), (.slice none 0 0)] _ hbk.at Tryz.underlying27 rfl size28
          simp [results, Tryz.results36, asAddr, hr]
        | true =>
          have h := of_decide_eq_true hq1
          rw [if_neg (by simp; omega), if_neg (by show ¬ (64 < (lim (decV a)).length ∨ 64 < (lim 0).length); rw [lim_zero]; simp; omega)] at hre
          have hz : lim (decV []) = [] := lim_zero
          rw [hz] at hre
          have SA := Lib.hid (show Sl ww (.slice C1 m1 j1) (lim (decV a)) by have := SA0.out; rwa [if_pos h.1] at this)
          have HL := Lib.hid h.2
          clear HRE hq1 h SA0 hz
          go_upto_region 15 with fail
          have R6 := Lib.hid (R3.out.alloc (.cells #[(.slice C1 m1 j1), (.slice (some ⟨g3, 0, none⟩) 0 0)] 27))
          have B6 := Lib.hid (B3.out.alloc B3.out.size (.cells #[(.slice C1 m1 j1), (.slice (some ⟨g3, 0, none⟩) 0 0)] 27))
          have S6 := Lib.hid (SA.out.below (boxb ww (.slice C1 m1 j1) (.slice (some ⟨g3, 0, none⟩) 0 0))); have S7 := Lib.hid (SD.out.below (boxb ww (.slice C1 m1 j1) (.slice (some ⟨g3, 0, none⟩) 0 0)))
          have X6 := Lib.hid (box0 ww (.slice C1 m1 j1) (.slice (some ⟨g3, 0, none⟩) 0 0))
          obtain ⟨gn, hgn⟩ : ∃ g, ww.heap.size = g := ⟨_, rfl⟩
          obtain ⟨w6, hw6⟩ : ∃ W, ww.alloc (.cells #[(.slice C1 m1 j1), (.slice (some ⟨g3, 0, none⟩) 0 0)] 27) = W := ⟨_, rfl⟩
          rw [hw6] at R6 B6 S6 S7 X6
          rw [hgn] at X6
          rw [hw6, hgn]
          clear R3 B3 SA SD hw6 hgn
          have HV := Lib.hid (rvalid_sl S6.out S7.out (lim_ok _) Ok.nil (by have := HL.out; omega) (by simp))
          obtain ⟨vr, hvr⟩ : ∃ v, vld (lim (decV a), []) = v := ⟨_, rfl⟩
          have HV2 := Lib.hid (show Calls Tryz.prog 67 #[.agg #[(.slice C1 m1 j1), (.slice (some ⟨g3, 0, none⟩) 0 0)]] w6 (fun e w' => e = .returned (.int .i64 ((vr : Nat) : Int)) ∧ Below w6.heap.size w6 w') by rw [← hvr]; exact HV.out)
          rw [hvr] at hre
          have HRE := Lib.hid hre
          obtain ⟨hc3, hc4, hf3, hf4⟩ := blk_cells2 X6.out
          clear HV hvr hre
          go_wp2_with fail
          refine HV2.out.mono ?_
          rintro e w7 ⟨rfl, hb⟩
          have R7 := Lib.hid (R6.out.below hb R6.out.lt); have B7 := Lib.hid (below_step B6.out hb); have X7 := Lib.hid (X6.out.below hb X6.out.lt)
          have S8 := Lib.hid (S6.out.below hb); have S9 := Lib.hid (S7.out.below hb)
          clear hb HV2 R6 B6 X6 S6 S7 hc3 hc4 hf3 hf4
          obtain ⟨hc1, hc2, hf1, hf2⟩ := blk_cells2 R7.out
          obtain ⟨hc3, hc4, hf3, hf4⟩ := blk_cells2 X7.out
          have hre := HRE.out
          by_cases hv : vr = 0
          · subst hv
            rw [if_neg (by simp)] at hre
            subst hre
            clear HRE
            go_wp2_with fail
            have hbk := (((R7.out).put 0 (.slice C1 m1 j1)).put 1 (.slice (some ⟨g3, 0, none⟩) 0 0))
            have hbl := (((B7.out).setCell (p := ⟨w.heap.size, 0, none⟩) (Nat.le_refl _) (.slice C1 m1 j1)).setCell (p := ⟨w.heap.size, 1, none⟩) (Nat.le_refl _) (.slice (some ⟨g3, 0, none⟩) 0 0))
            refine bodyPost_ret (v := .tuple #[.agg #[(.slice C1 m1 j1), (.slice (some ⟨g3, 0, none⟩) 0 0)], .int .i64 0]) ?_ rfl ⟨.agg #[(.slice C1 m1 j1), (.slice (some ⟨g3, 0, none⟩) 0 0)], rfl, ⟨_, _, rfl, sl_res S8.out R7.out _ _ _ _ _ _, sl_res S9.out R7.out _ _ _ _ _ _⟩, hbl⟩
            have hr := run_loadVar_at (P := Tryz.prog) _ ⟨w.heap.size, 0, none⟩ 27 [(.slice C1 m1 j1), (.slice (some ⟨g3, 0, none⟩) 0 0)] _ hbk.at Tryz.underlying27 rfl size28
            simp [results, Tryz.results36, asAddr, hr]
          · rw [if_pos (Or.inr hv)] at hre
            subst hre
            have hne : (((vr : Nat) : Int) != 0) = true := by rw [bne_iff_ne]; omega
            clear HRE hv
            go_wp2_with fail
            have hbk := (((R7.out).put 0 (.slice none 0 0)).put 1 (.slice none 0 0))
            have hbl := (((B7.out).setCell (p := ⟨w.heap.size, 0, none⟩) (Nat.le_refl _) (.slice none 0 0)).setCell (p := ⟨w.heap.size, 1, none⟩) (Nat.le_refl _) (.slice none 0 0))
            refine bodyPost_ret (v := .tuple #[.agg #[(.slice none 0 0), (.slice none 0 0)], .int .i64 1]) ?_ rfl ⟨.agg #[(.slice none 0 0), (.slice none 0 0)], rfl, ⟨_, _, rfl, sl_res (Sl.nil _) R7.out _ _ _ _ _ _, sl_res (Sl.nil _) R7.out _ _ _ _ _ _⟩, hbl⟩
            have hr := run_loadVar_at (P := Tryz.prog) _ ⟨w.heap.size, 0, none⟩ 27 [(.slice none 0 0), (.slice none 0 0)] _ hbk.at Tryz.underlying27 rfl size28
            simp [results, Tryz.results36, asAddr, hr]
end Go.Proofs.YtbfhilbagojdnaaGreat
