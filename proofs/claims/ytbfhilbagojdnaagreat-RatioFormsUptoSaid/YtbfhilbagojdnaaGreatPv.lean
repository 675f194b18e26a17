/-
  Parse of long texts.
  No condition but the length, and that the library's variable MaxLen is there.
-/
import Derived.Test.YtbfhilbagojdnaaGreatPq
namespace Go.Proofs.YtbfhilbagojdnaaGreat
open Go.RowKit Wr Go.Proofs.YtbfhilbagojdnaaGreat.Nm
set_option linter.unusedVariables false
set_option maxRecDepth 100000

set_option maxHeartbeats 2000000 in
theorem isRow_wide (l : List UInt8) (w : World) (hl : l.length ≤ 4000000) : Calls Tryz.prog 81 #[.string ⟨l.toArray⟩] w fun e w' => e = .returned (.bool (rowOk l)) ∧ Below w.heap.size w w' := by
  obtain ⟨C, W, hC, hcv, hrd, hbl⟩ := bytes_of w ⟨l.toArray⟩
  have hsz : (⟨l.toArray⟩ : ByteArray).size = l.length := rfl
  rw [hsz] at hC hcv
  have hrd' : Rd W W.heap.size (some ⟨w.heap.size, 0, none⟩) (Bv l) := hrd
  have HB := Lib.hid hbl
  obtain ⟨n, hn⟩ : ∃ n, n = l.length := ⟨_, rfl⟩
  rw [← hn] at hcv hC
  have HN := Lib.hid hn
  have HR := Lib.hid hrd'
  have hnI : (n : Int) ≤ 4000000 := by omega
  clear hrd hrd' hbl hn hl hsz
  go_enter Tryz.func81, Tryz.ntmps81
  go_wp2
  go_loopw [8] (fun s wr => ∃ k : Nat, k ≤ n ∧ s = .int .i64 (k : Int) ∧ (l.take k).all digB = true ∧ wr = W) (fun s _ => n - (intOf s).toNat)
  case atStart => exact ⟨0, Nat.zero_le _, rfl, rfl, rfl⟩
  case round =>
    clear hcv
    obtain ⟨k, hk, rfl, hall, rfl⟩ := hrel
    have HA := Lib.hid hall
    clear hall
    rcases Nat.lt_or_ge k n with hlt | hge
    · have hkl : k < l.length := by have := HN.out; omega
      obtain ⟨g, o, e1, hgB, hcell⟩ := byte_cell HR.out k hkl
      cases e1
      rw [Nat.zero_add] at hcell
      have hkI : (k : Int) < (n : Int) := by omega
      have hb256 := l[k].toNat_lt
      by_cases hd : digB l[k] = true
      · have hd2 := of_decide_eq_true hd
        have HT := Lib.hid (show (l.take (k + 1)).all digB = true by
          rw [List.take_succ_eq_append_getElem hkl, List.all_append, HA.out, Bool.true_and]
          simp [hd])
        generalize l[k].toNat = b at *
        have hb1 : ¬ ((b : Int) < 48) := by omega
        have hb2 : ¬ (57 < (b : Int)) := by omega
        clear hd hd2
        go_wp2
        go_roundw
        case rel => exact ⟨k + 1, by omega, by simp, HT.out, by trivial⟩
        case measure => simp only [intOf]; omega
      · have hd2 : ¬ (48 ≤ l[k].toNat ∧ l[k].toNat ≤ 57) := fun h => hd (decide_eq_true h)
        have HF := Lib.hid (show rowOk l = false by
          have : l.all digB = false := by
            rw [← Bool.not_eq_true]
            intro h
            exact hd (List.all_eq_true.1 h _ (List.getElem_mem hkl))
          unfold rowOk; rw [this, Bool.false_and])
        generalize l[k].toNat = b at *
        clear hd
        by_cases hb1 : b < 48
        · have hb1I : (b : Int) < 48 := by omega
          clear hd2
          go_wp2
          go_ret
          exact ⟨by rw [HF.out]; rfl, HB.out⟩
        · have hb1I : ¬ ((b : Int) < 48) := by omega
          have hb2I : 57 < (b : Int) := by omega
          clear hd2
          go_wp2
          go_ret
          exact ⟨by rw [HF.out]; rfl, HB.out⟩
    · have hkn : k = n := by omega
      subst hkn
      have hA := HA.out
      rw [HN.out, List.take_length] at hA
      have HF := Lib.hid (show rowOk l = (decide (l = [48]) || (decide (l ≠ []) && decide (l[0]? ≠ some 48))) by unfold rowOk; rw [hA, Bool.true_and])
      have HB' := HB
      clear hA HA HR hk
      cases l with
      | nil =>
        have HF' := Lib.hid (show rowOk [] = false by rw [HF.out]; decide)
        clear HF
        go_wp2
        go_ret
        exact ⟨by rw [HF'.out]; rfl, HB'.out⟩
      | cons b l' =>
        have hpos : 0 < (b :: l').length := by simp
        by_cases h1 : b :: l' = [48]
        · have HF' := Lib.hid (show rowOk (b :: l') = true by rw [HF.out, decide_eq_true h1, Bool.true_or])
          have hbq : (b :: l' == [48]) = true := by rw [h1]; rfl
          clear HF h1
          go_wp2
          go_ret
          exact ⟨by rw [HF'.out]; rfl, HB'.out⟩
        · have hbq : (b :: l' == [48]) = false := by rw [beq_eq_false_iff_ne]; exact h1
          have HF' := Lib.hid (show rowOk (b :: l') = decide (b ≠ 48) by rw [HF.out, decide_eq_false h1]; simp)
          clear HF h1
          go_wp2
          go_ret
          exact ⟨by rw [HF'.out]; exact congrArg (fun z => Ending.returned (.bool z)) (byte_ne b), HB'.out⟩
set_option maxHeartbeats 4000000 in
theorem parse_wide (l : List UInt8) (w : World) (hM : MaxL w) (h2 : 2 < w.heap.size) (hl : l.length ≤ 4000000) : Calls Tryz.prog 32 #[.string ⟨l.toArray⟩] w (RtP w (parseR l)) := by
  suffices hgen : ∀ Res, Hid (parseR l = Res) → Calls Tryz.prog 32 #[.string ⟨l.toArray⟩] w (RtP w Res) from hgen _ (Lib.hid rfl)
  intro Res HRR
  have hre := HRR.out
  unfold parseR at hre
  have HR0 := Lib.hid (res0 w); have HB0 := Lib.hid (bel0 w)
  have HC := Lib.hid (fun W (h : Below w.heap.size w W) => cut_any l W (hM.below h2 h) (by omega))
  obtain ⟨f1, f2, f3⟩ := cut_facts l
  obtain ⟨a, ha⟩ : ∃ a, a = (Lib.cut l [47]).1 := ⟨_, rfl⟩
  obtain ⟨b, hb⟩ : ∃ a, a = (Lib.cut l [47]).2.1 := ⟨_, rfl⟩
  obtain ⟨c, hc⟩ : ∃ a, a = (Lib.cut l [47]).2.2 := ⟨_, rfl⟩
  rw [← ha, ← hb, ← hc] at hre HC
  rw [← ha] at f1
  rw [← hb] at f2 f3
  rw [← hc] at f3
  have HIa := Lib.hid (fun W => isRow_wide a W (by omega)); have HIb := Lib.hid (fun W => isRow_wide b W (by omega))
  have HDa := Lib.hid (fun W (h : rowOk a = true) (h2 : a.length ≤ 617) => fromDec_any a W (row_dig h) h2)
  have HDb := Lib.hid (fun W (h : b.all digB = true) (h2 : b.length ≤ 617) => fromDec_any b W h h2)
  obtain ⟨ra, hra⟩ : ∃ q, q = rowOk a := ⟨_, rfl⟩
  obtain ⟨rb, hrb⟩ : ∃ q, q = rowOk b := ⟨_, rfl⟩
  have HRA := Lib.hid hra; have HRB := Lib.hid hrb
  rw [← hra] at hre HIa
  rw [← hrb] at hre HIb
  have HRE := Lib.hid hre; have HF3 := Lib.hid f3
  have HSA := Lib.hid (show (⟨a.toArray⟩ : ByteArray).size = a.length from rfl)
  have HSB := Lib.hid (show (⟨b.toArray⟩ : ByteArray).size = b.length from rfl)
  have HLL := Lib.hid (And.intro f1 f2)
  clear hre HRR ha hb hc hra hrb f1 f2 f3 hM h2
  go_enter Tryz.func32, Tryz.ntmps32
  go_upto_region 1 with (fail)
  generalize w.alloc (.cells #[.slice none 0 0, .slice none 0 0] 27) = W0 at HR0 HB0 ⊢
  go_wp2_with fail
  refine (HC.out _ HB0.out).mono ?_
  rintro e w1 ⟨rfl, q, rfl⟩
  have R0 := Lib.hid (show Blk (W0.drewN q) w.heap.size 27 [.slice none 0 0, .slice none 0 0] from HR0.out)
  have B0 := Lib.hid (below_drewN HB0.out q)
  clear HR0 HB0 HC
  generalize W0.drewN q = W1 at R0 B0 ⊢
  go_upto_region 2 with fail
  go_cut [25] from 15 (fun s25 wx => ∃ bad, s25 = .bool bad ∧ Hid (bad = (!ra || (c && !rb))) ∧ Blk wx w.heap.size 27 [.slice none 0 0, .slice none 0 0] ∧ Below w.heap.size w wx)
  case first =>
    go_wp2_with fail
    refine (HIa.out _).mono ?_
    rintro e w1 ⟨rfl, hb1⟩
    have R1 := Lib.hid (R0.out.below hb1 R0.out.lt); have B1 := Lib.hid (below_step B0.out hb1)
    clear hb1 R0 B0 HIa
    cases ra with
    | false =>
      clear HRE HDa HRA
      go_wp2_with fail
      go_meet
      exact ⟨true, rfl, Lib.hid rfl, R1.out, B1.out⟩
    | true =>
      cases c with
      | false =>
        clear HRE HDa HRA HF3
        go_wp2_with fail
        go_meet
        exact ⟨false, rfl, Lib.hid rfl, R1.out, B1.out⟩
      | true =>
        clear HRE HDa HRA HF3
        go_wp2_with fail
        refine (HIb.out _).mono ?_
        rintro e w2 ⟨rfl, hb2⟩
        have R2 := Lib.hid (R1.out.below hb2 R1.out.lt); have B2 := Lib.hid (below_step B1.out hb2)
        clear hb2 R1 B1 HIb
        cases rb with
        | false =>
          clear HRB
          go_wp2_with fail
          go_meet
          exact ⟨true, rfl, Lib.hid rfl, R2.out, B2.out⟩
        | true =>
          clear HRB
          go_wp2_with fail
          go_meet
          exact ⟨false, rfl, Lib.hid rfl, R2.out, B2.out⟩
  case rest =>
    obtain ⟨bad, rfl, hbad, hr, hb⟩ := hcut
    have R1 := Lib.hid hr; have B1 := Lib.hid hb
    clear R0 B0 HIa HIb hr hb
    obtain ⟨hc1, hc2, hf1, hf2⟩ := blk_cells2 R1.out
    cases bad with
    | true =>
      have hre := HRE.out
      rw [if_pos (by
        have h := hbad.out
        cases ra with
        | false => exact Or.inl rfl
        | true =>
          cases c with
          | false => cases h
          | true =>
            cases rb with
            | false => exact Or.inr ⟨rfl, rfl⟩
            | true => cases h)] at hre
      subst hre
      clear hbad
      go_wp2_with fail
      have hbk := (((R1.out).put 0 (.slice none 0 0)).put 1 (.slice none 0 0))
      have hbl := (((B1.out).setCell (p := ⟨w.heap.size, 0, none⟩) (Nat.le_refl _) (.slice none 0 0)).setCell (p := ⟨w.heap.size, 1, none⟩) (Nat.le_refl _) (.slice none 0 0))
      refine bodyPost_ret (v := .tuple #[.agg #[(.slice none 0 0), (.slice none 0 0)], .int .i64 2]) ?_ rfl ⟨.agg #[(.slice none 0 0), (.slice none 0 0)], rfl, ⟨_, _, rfl, sl_res (Sl.nil _) R1.out _ _ _ _ _ _, sl_res (Sl.nil _) R1.out _ _ _ _ _ _⟩, hbl⟩
      have hr := run_loadVar_at (P := Tryz.prog) _ ⟨w.heap.size, 0, none⟩ 27 [(.slice none 0 0), (.slice none 0 0)] _ hbk.at Tryz.underlying27 rfl size28
      simp [results, Tryz.results32, asAddr, hr]
    | false =>
      have hra : ra = true := by
        have h := hbad.out
        cases ra with
        | false => cases h
        | true => rfl
      have hrc : c = true → rb = true := by
        intro hc
        have h := hbad.out
        rw [hra, hc] at h
        cases rb with
        | false => cases h
        | true => rfl
      have hre := HRE.out
      rw [if_neg (by
        rintro (h | ⟨h1, h2⟩)
        · rw [hra] at h; cases h
        · rw [hrc h1] at h2; cases h2)] at hre
      have HBD := Lib.hid (show b.all digB = true by
        cases hcc : c with
        | false => rw [HF3.out hcc]; rfl
        | true => exact row_dig (by rw [← HRB.out]; exact hrc hcc))
      have HAD := Lib.hid (show rowOk a = true by rw [← HRA.out]; exact hra)
      have HRE := Lib.hid hre
      clear hre hbad hra hrc HF3 HRA HRB
      obtain ⟨la, hla⟩ : ∃ z, z = a.length := ⟨_, rfl⟩
      obtain ⟨lb, hlb⟩ : ∃ z, z = b.length := ⟨_, rfl⟩
      have hsa : (⟨a.toArray⟩ : ByteArray).size = la := by rw [hla]; rfl
      have hsb : (⟨b.toArray⟩ : ByteArray).size = lb := by rw [hlb]; rfl
      have hre := HRE.out
      rw [← hla, ← hlb] at hre
      have HLAB := Lib.hid (And.intro hla hlb)
      have hla3 : la ≤ 4000000 := by have := HLL.out.1; omega
      have hlb3 : lb ≤ 4000000 := by have := HLL.out.2; omega
      by_cases hbig : 617 < la ∨ 617 < lb
      · rw [if_pos hbig] at hre
        subst hre
        have hbigI : 617 < max (la : Int) (lb : Int) := by omega
        clear hbig hla hlb
        go_wp2_with fail
        have hbk := (((R1.out).put 0 (.slice none 0 0)).put 1 (.slice none 0 0))
        have hbl := (((B1.out).setCell (p := ⟨w.heap.size, 0, none⟩) (Nat.le_refl _) (.slice none 0 0)).setCell (p := ⟨w.heap.size, 1, none⟩) (Nat.le_refl _) (.slice none 0 0))
        refine bodyPost_ret (v := .tuple #[.agg #[(.slice none 0 0), (.slice none 0 0)], .int .i64 4]) ?_ rfl ⟨.agg #[(.slice none 0 0), (.slice none 0 0)], rfl, ⟨_, _, rfl, sl_res (Sl.nil _) R1.out _ _ _ _ _ _, sl_res (Sl.nil _) R1.out _ _ _ _ _ _⟩, hbl⟩
        have hr := run_loadVar_at (P := Tryz.prog) _ ⟨w.heap.size, 0, none⟩ 27 [(.slice none 0 0), (.slice none 0 0)] _ hbk.at Tryz.underlying27 rfl size28
        simp [results, Tryz.results32, asAddr, hr]
      · rw [if_neg hbig] at hre
        have hbigI : ¬ (617 < max (la : Int) (lb : Int)) := by omega
        have HDa1 := Lib.hid (fun W => HDa.out W HAD.out (by omega)); have HDb1 := Lib.hid (fun W => HDb.out W HBD.out (by omega))
        have hxl := decV_len a (row_dig HAD.out) a.length (Nat.le_refl _)
        have hyl := decV_len b HBD.out b.length (Nat.le_refl _)
        rw [List.take_length] at hxl hyl
        obtain ⟨x, hx⟩ : ∃ x, x = decV a := ⟨_, rfl⟩
        obtain ⟨y, hy⟩ : ∃ y, y = decV b := ⟨_, rfl⟩
        rw [← hx, ← hla] at hxl
        rw [← hy, ← hlb] at hyl
        have HXL := Lib.hid (show (lim x).length ≤ 617 ∧ (lim y).length ≤ 617 by omega)
        clear hxl hyl
        rw [← hx] at hre HDa1
        rw [← hy] at hre HDb1
        have HRE := Lib.hid hre
        clear hbig hla hlb hre HDa HDb hx hy hc1 hc2 hf1 hf2
        go_wp2_with fail
        refine (HDa1.out _).mono ?_
        rintro e w3 ⟨va, rfl, hs3, hb3⟩
        have R3 := Lib.hid (R1.out.below hb3 R1.out.lt); have B3 := Lib.hid (below_step B1.out hb3); have S3 := Lib.hid hs3
        clear hb3 hs3 R1 B1 HDa1
        go_wp2_with fail
        refine (HDb1.out _).mono ?_
        rintro e w4 ⟨vb, rfl, hs4, hb4⟩
        have R4 := Lib.hid (R3.out.below hb4 R3.out.lt); have B4 := Lib.hid (below_step B3.out hb4); have S4 := Lib.hid (S3.out.below hb4); have S5 := Lib.hid hs4
        clear hb4 hs4 R3 B3 S3 HDb1
        obtain ⟨A1, m1, j1, e1⟩ := sl_form S4.out
        obtain ⟨A2, m2, j2, e2⟩ := sl_form S5.out
        subst e1 e2
        have L1 := Lib.hid (sl_len S4.out); have L2 := Lib.hid (sl_len S5.out)
        go_upto_region 7 with fail
        have R6 := Lib.hid (R4.out.alloc (.cells #[.slice A1 m1 j1, .slice A2 m2 j2] 27))
        have B6 := Lib.hid (B4.out.alloc B4.out.size (.cells #[.slice A1 m1 j1, .slice A2 m2 j2] 27))
        have S6 := Lib.hid (S4.out.below (boxb w4 (.slice A1 m1 j1) (.slice A2 m2 j2))); have S7 := Lib.hid (S5.out.below (boxb w4 (.slice A1 m1 j1) (.slice A2 m2 j2)))
        have X6 := Lib.hid (box0 w4 (.slice A1 m1 j1) (.slice A2 m2 j2))
        have HGN := Lib.hid (show w.heap.size < w4.heap.size from R4.out.lt)
        obtain ⟨gn, hgn⟩ : ∃ g, w4.heap.size = g := ⟨_, rfl⟩
        obtain ⟨w6, hw6⟩ : ∃ W, w4.alloc (.cells #[.slice A1 m1 j1, .slice A2 m2 j2] 27) = W := ⟨_, rfl⟩
        rw [hw6] at R6 B6 S6 S7 X6
        rw [hgn] at X6 HGN
        rw [hw6, hgn]
        clear R4 B4 S4 S5 hw6 hgn
        obtain ⟨hc3, hc4, hf3, hf4⟩ := blk_cells2 X6.out
        obtain ⟨bf, hbf⟩ : ∃ q, q = decide (max m1 m2 ≤ 64) := ⟨_, rfl⟩
        have HFT := Lib.hid (fits_any A1 A2 m1 m2 j1 j2 bf w6 (by rw [L1.out]; have := HXL.out.1; omega) (by rw [L2.out]; have := HXL.out.2; omega) hbf)
        have HBF := Lib.hid hbf
        have HVL := Lib.hid (fun W (h : Below w6.heap.size w6 W) => valid_sl (S6.out.below h) (S7.out.below h) (lim_ok x) (lim_ok y) (by have := HXL.out.1; omega) (by have := HXL.out.2; omega))
        clear hbf
        go_wp2_with fail
        refine HFT.out.mono ?_
        rintro e w7 ⟨rfl, hb7⟩
        have R7 := Lib.hid (R6.out.below hb7 R6.out.lt); have B7 := Lib.hid (below_step B6.out hb7); have X7 := Lib.hid (X6.out.below hb7 X6.out.lt)
        have V7 := Lib.hid (HVL.out _ hb7)
        have S8 := Lib.hid (S6.out.below hb7); have S9 := Lib.hid (S7.out.below hb7)
        clear hb7 HFT HVL R6 B6 X6 S6 S7 hc3 hc4 hf3 hf4
        obtain ⟨hc1, hc2, hf1, hf2⟩ := blk_cells2 R7.out
        obtain ⟨hc3, hc4, hf3, hf4⟩ := blk_cells2 X7.out
        have hre := HRE.out
        rw [← L1.out, ← L2.out] at hre
        cases bf with
        | false =>
          have h := of_decide_eq_false HBF.out.symm
          rw [if_pos (by omega)] at hre
          subst hre
          clear h HBF V7
          go_wp2_with fail
          have hbk := (((R7.out).put 0 (.slice none 0 0)).put 1 (.slice none 0 0))
          have hbl := (((B7.out).setCell (p := ⟨w.heap.size, 0, none⟩) (Nat.le_refl _) (.slice none 0 0)).setCell (p := ⟨w.heap.size, 1, none⟩) (Nat.le_refl _) (.slice none 0 0))
          refine bodyPost_ret (v := .tuple #[.agg #[(.slice none 0 0), (.slice none 0 0)], .int .i64 4]) ?_ rfl ⟨.agg #[(.slice none 0 0), (.slice none 0 0)], rfl, ⟨_, _, rfl, sl_res (Sl.nil _) R7.out _ _ _ _ _ _, sl_res (Sl.nil _) R7.out _ _ _ _ _ _⟩, hbl⟩
          have hr := run_loadVar_at (P := Tryz.prog) _ ⟨w.heap.size, 0, none⟩ 27 [(.slice none 0 0), (.slice none 0 0)] _ hbk.at Tryz.underlying27 rfl size28
          simp [results, Tryz.results32, asAddr, hr]
        | true =>
          have h := of_decide_eq_true HBF.out.symm
          rw [if_neg (by omega)] at hre
          obtain ⟨vr, hvr⟩ : ∃ q, q = vld (lim x, lim y) := ⟨_, rfl⟩
          have hm2 : m2 = 0 ↔ y = 0 := by rw [L2.out]; exact lim_len0
          have HM2 := Lib.hid hm2
          have V8 := Lib.hid (show Calls Tryz.prog 62 #[.agg #[.slice A1 m1 j1, .slice A2 m2 j2]] w7 (fun e w' => e = .returned (.int .i64 ((vr : Nat) : Int)) ∧ Below w7.heap.size w7 w') by rw [hvr]; exact V7.out)
          rw [← hvr] at hre
          have HRE2 := Lib.hid hre
          clear h HBF V7 hvr hm2 hre HRE L1 L2
          by_cases hbn : c = true ∧ y = 0
          · obtain ⟨rfl, hy0⟩ := hbn
            have hm0 := HM2.out.2 hy0
            have hre := HRE2.out
            rw [if_pos (Or.inl ⟨rfl, hy0⟩)] at hre
            subst hre hm0
            clear hy0 HRE2 V8 HM2
            go_wp2_with fail
            have hbk := (((R7.out).put 0 (.slice none 0 0)).put 1 (.slice none 0 0))
            have hbl := (((B7.out).setCell (p := ⟨w.heap.size, 0, none⟩) (Nat.le_refl _) (.slice none 0 0)).setCell (p := ⟨w.heap.size, 1, none⟩) (Nat.le_refl _) (.slice none 0 0))
            refine bodyPost_ret (v := .tuple #[.agg #[(.slice none 0 0), (.slice none 0 0)], .int .i64 1]) ?_ rfl ⟨.agg #[(.slice none 0 0), (.slice none 0 0)], rfl, ⟨_, _, rfl, sl_res (Sl.nil _) R7.out _ _ _ _ _ _, sl_res (Sl.nil _) R7.out _ _ _ _ _ _⟩, hbl⟩
            have hr := run_loadVar_at (P := Tryz.prog) _ ⟨w.heap.size, 0, none⟩ 27 [(.slice none 0 0), (.slice none 0 0)] _ hbk.at Tryz.underlying27 rfl size28
            simp [results, Tryz.results32, asAddr, hr]
          · have hby : (decide (c = true) && decide (m2 = 0)) = false := by
              rw [Bool.eq_false_iff]
              intro h
              rw [Bool.and_eq_true, decide_eq_true_eq, decide_eq_true_eq] at h
              exact hbn ⟨h.1, HM2.out.1 h.2⟩
            have HBN := Lib.hid hbn
            have HBY := Lib.hid hby
            clear hbn hby
            go_upto_region 9 with fail
            go_cut [8] from 10 (fun s8 wx => s8 = .bool false ∧ w7 = wx)
            case first =>
              cases c with
              | false =>
                clear HBN HBY HRE2 V8
                go_wp2_with fail
                go_meet
                exact ⟨rfl, rfl⟩
              | true =>
                have hne : ((m2 : Int) == 0) = false := by
                  rw [beq_eq_false_iff_ne]; intro h
                  exact HBN.out ⟨rfl, HM2.out.1 (by omega)⟩
                clear HBN HBY HRE2 V8
                go_wp2_with fail
                go_meet
                exact ⟨rfl, rfl⟩
            case rest =>
              obtain ⟨rfl, rfl⟩ := hcut
              go_wp2_with fail
              refine V8.out.mono ?_
              rintro e w8 ⟨rfl, hb8⟩
              have R8 := Lib.hid (R7.out.below hb8 R7.out.lt); have B8 := Lib.hid (below_step B7.out hb8); have X8 := Lib.hid (X7.out.below hb8 X7.out.lt)
              have T1 := Lib.hid (S8.out.below hb8); have T2 := Lib.hid (S9.out.below hb8)
              clear hb8 V8 R7 B7 X7 S8 S9 hc1 hc2 hf1 hf2 hc3 hc4 hf3 hf4
              obtain ⟨hc1, hc2, hf1, hf2⟩ := blk_cells2 R8.out
              obtain ⟨hc3, hc4, hf3, hf4⟩ := blk_cells2 X8.out
              have hre := HRE2.out
              by_cases hv : vr = 0
              · rw [if_neg (by rintro (h | h); exact HBN.out h; exact h hv)] at hre
                subst hre hv
                clear HRE2 HBN
                go_wp2_with fail
                have hbk := (((R8.out).put 0 (.slice A1 m1 j1)).put 1 (.slice A2 m2 j2))
                have hbl := (((B8.out).setCell (p := ⟨w.heap.size, 0, none⟩) (Nat.le_refl _) (.slice A1 m1 j1)).setCell (p := ⟨w.heap.size, 1, none⟩) (Nat.le_refl _) (.slice A2 m2 j2))
                refine bodyPost_ret (v := .tuple #[.agg #[(.slice A1 m1 j1), (.slice A2 m2 j2)], .int .i64 0]) ?_ rfl ⟨.agg #[(.slice A1 m1 j1), (.slice A2 m2 j2)], rfl, ⟨_, _, rfl, sl_res T1.out R8.out _ _ _ _ _ _, sl_res T2.out R8.out _ _ _ _ _ _⟩, hbl⟩
                have hr := run_loadVar_at (P := Tryz.prog) _ ⟨w.heap.size, 0, none⟩ 27 [(.slice A1 m1 j1), (.slice A2 m2 j2)] _ hbk.at Tryz.underlying27 rfl size28
                simp [results, Tryz.results32, asAddr, hr]
              · rw [if_pos (Or.inr hv)] at hre
                subst hre
                have hne : (((vr : Nat) : Int) != 0) = true := by rw [bne_iff_ne]; omega
                clear HRE2 HBN hv
                go_wp2_with fail
                have hbk := (((R8.out).put 0 (.slice none 0 0)).put 1 (.slice none 0 0))
                have hbl := (((B8.out).setCell (p := ⟨w.heap.size, 0, none⟩) (Nat.le_refl _) (.slice none 0 0)).setCell (p := ⟨w.heap.size, 1, none⟩) (Nat.le_refl _) (.slice none 0 0))
                refine bodyPost_ret (v := .tuple #[.agg #[(.slice none 0 0), (.slice none 0 0)], .int .i64 1]) ?_ rfl ⟨.agg #[(.slice none 0 0), (.slice none 0 0)], rfl, ⟨_, _, rfl, sl_res (Sl.nil _) R8.out _ _ _ _ _ _, sl_res (Sl.nil _) R8.out _ _ _ _ _ _⟩, hbl⟩
                have hr := run_loadVar_at (P := Tryz.prog) _ ⟨w.heap.size, 0, none⟩ 27 [(.slice none 0 0), (.slice none 0 0)] _ hbk.at Tryz.underlying27 rfl size28
                simp [results, Tryz.results32, asAddr, hr]
end Go.Proofs.YtbfhilbagojdnaaGreat
