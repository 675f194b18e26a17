/-
  The examples of the section, as each law checks them: they hold.
  Condition: the table of the round constants is as the text lays it.
-/
import Derived.Test.YtofccgkgjcnfbaaDoorZ
import Derived.Test.YtofccgkgjcnfbaaDoorFive
set_option linter.unusedSimpArgs false
namespace Go.Proofs.YtofccgkgjcnfbaaDoor
open Go.RowKit Wr Sh
set_option linter.unusedVariables false
set_option maxRecDepth 100000
set_option maxHeartbeats 16000000 in
theorem lives_any (w : World) (ht : Tab 1 w) : Calls Tryd.prog 19 #[] w fun e w' => e = .returned (.bool true) ∧ Below w.heap.size w w' := by
 have HT := Lh ht
 have hZ := hZ16
 have hZ2 := hZP
 clear ht
 go_enter Tryd.func19, Tryd.ntmps19
 go_wp2_with (go_at_call 53; refine (five_any _).mono ?_; rintro e w1 ⟨rfl, rfl⟩)
 obtain ⟨w1, hw1⟩ : ∃ W, W = w.alloc (.cells (LC five).toArray 41) := ⟨_, rfl⟩
 rw [← hw1]
 have Bs1 := Lh (show Below w.heap.size w w1 by rw [hw1]; exact (Below.refl _ _).alloc (Nat.le_refl _) _)
 have F1 := Lh (show LsAt w1 w1.heap.size (some ⟨w.heap.size, 0, none⟩) five 5 from ⟨by rw [hw1]; exact rd_new w (LC five) 41, Nat.le_refl _, (fun h => by cases h), five_ok⟩)
 clear hw1
 have HW1 := Lh (Below.refl w1.heap.size w1)
 obtain ⟨R, hR⟩ : ∃ R, R = rootR five := ⟨_, rfl⟩
 have HR := Lh hR
 have HRl := Lh (show R.length = 16 by rw [hR]; exact rootR_len five)
 have HVE := Lh five_valid
 clear hR
 have hc0 := root_any _ five 5 w1 F1.out (HT.out.below Bs1.out HT.out.1) R HR
 rw [HVE.out] at hc0
 refine hc0.mono ?_; rintro e w2 ⟨rfl, hb2⟩
 clear hc0
 have Bs2 := Lh (Bs1.out.trans (hb2.mono Bs1.out.size))
 have HW1' := Lh (HW1.out.trans (hb2.mono HW1.out.size))
 clear HW1
 have HW1 := HW1'
 clear HW1'
 clear hb2
 obtain ⟨w3, hw3⟩ : ∃ W, W = (w2.alloc (.cells Z16.toArray 29)).setRow w2.heap.size (B8 R).toArray := ⟨_, rfl⟩
 have hb3 : Below w2.heap.size w2 w3 := by rw [hw3]; exact belowRow ((Below.refl _ _).alloc (Nat.le_refl _) _) (Nat.le_refl _) _
 have Bs3 := Lh (Bs2.out.trans (hb3.mono Bs2.out.size))
 have HW1' := Lh (HW1.out.trans (hb3.mono HW1.out.size))
 clear HW1
 have HW1 := HW1'
 clear HW1'
 have R_0 := Lh (show Blk w3 w2.heap.size 29 (B8 R) by rw [hw3]; exact (Blk.new w2 29 Z16).row _)
 have HE3 := Lh hw3
 clear hw3 hb3
 go_wp2_with (with_reducible refine wpList_store_row rfl 29 (.tmp 2) (.tmp 30) rfl w2.heap.size (B8 R).toArray rfl rfl 29 _ (heap_alloc_new w2 _) (size29' _ HRl.out) (Z16_size _ HRl.out) (one8 _) ?_; rw [← HE3.out])
 have hc0 := prove_any _ five 5 ⟨#[99]⟩ w3 ((F1.out.below (show Below w1.heap.size w1 w3 from HW1.out)).more HW1.out.size) (HT.out.below Bs3.out HT.out.1)
 rw [HVE.out, prC] at hc0
 refine hc0.mono ?_; rintro e w4 ⟨v, rfl, hp, hb⟩
 clear hc0
 obtain ⟨aC, cC, dC, eC, rfl, atC⟩ := pfAt_of hp (ok_cut five_ok _ _) (by rw [siC]; decide) ⟨⟨by decide, by decide⟩, ⟨by decide, by decide⟩⟩
 have ATC := Lh atC
 clear hp atC
 have Bs4 := Lh (Bs3.out.trans (hb.mono Bs3.out.size))
 have R_4 := Lh (R_0.out.below hb R_0.out.lt)
 have HW1' := Lh (HW1.out.trans (hb.mono HW1.out.size))
 clear HW1
 have HW1 := HW1'
 clear HW1'
 clear hb
 obtain ⟨w5, hw5⟩ : ∃ W, W = (w4.alloc (.cells ZP.toArray 50)).setRow w4.heap.size (PR pC.first pC.size (.slice aC pC.leaves.length cC) (.slice dC pC.sides.length eC)).toArray := ⟨_, rfl⟩
 have hb : Below w4.heap.size w4 w5 := by rw [hw5]; exact belowRow ((Below.refl _ _).alloc (Nat.le_refl _) _) (Nat.le_refl _) _
 have Bs5 := Lh (Bs4.out.trans (hb.mono Bs4.out.size))
 have R_5 := Lh (R_4.out.below hb R_4.out.lt)
 have HW1' := Lh (HW1.out.trans (hb.mono HW1.out.size))
 clear HW1
 have HW1 := HW1'
 clear HW1'
 have C_0 := Lh (show Bx w5 w4.heap.size pC aC dC pC.leaves.length pC.sides.length cC eC from ⟨by rw [hw5]; exact (Blk.new w4 50 ZP).row _, (ATC.out.r1.below hb).more hb.size, (ATC.out.r2.below hb).more hb.size, ATC.out.k1, ATC.out.k2, ATC.out.okl, ATC.out.oks, ATC.out.oki⟩)
 have HE5 := Lh hw5
 clear hw5 hb ATC
 go_wp2_with (with_reducible refine wpList_store_row rfl 50 (.tmp 4) (.tmp 35) rfl w4.heap.size (PR pC.first pC.size (.slice aC pC.leaves.length cC) (.slice dC pC.sides.length eC)).toArray rfl rfl 50 _ (heap_alloc_new w4 _) (size50A _ _ _ _) (ZP_PR _ _ _ _) (PR_one _ _ _ _ _ _ _ _) ?_; rw [← HE5.out])
 have hc0 := prove_any _ five 5 ⟨#[101]⟩ w5 ((F1.out.below (show Below w1.heap.size w1 w5 from HW1.out)).more HW1.out.size) (HT.out.below Bs5.out HT.out.1)
 rw [HVE.out, prE] at hc0
 refine hc0.mono ?_; rintro e w6 ⟨v, rfl, hp, hb⟩
 clear hc0
 obtain ⟨aE, cE, dE, eE, rfl, atE⟩ := pfAt_of hp (ok_cut five_ok _ _) (by rw [siE]; decide) ⟨⟨by decide, by decide⟩, ⟨by decide, by decide⟩⟩
 have ATE := Lh atE
 clear hp atE
 have Bs6 := Lh (Bs5.out.trans (hb.mono Bs5.out.size))
 have R_6 := Lh (R_5.out.below hb R_5.out.lt)
 have C_6 := Lh (C_0.out.below hb)
 have HW1' := Lh (HW1.out.trans (hb.mono HW1.out.size))
 clear HW1
 have HW1 := HW1'
 clear HW1'
 clear hb
 obtain ⟨w7, hw7⟩ : ∃ W, W = (w6.alloc (.cells ZP.toArray 50)).setRow w6.heap.size (PR pE.first pE.size (.slice aE pE.leaves.length cE) (.slice dE pE.sides.length eE)).toArray := ⟨_, rfl⟩
 have hb : Below w6.heap.size w6 w7 := by rw [hw7]; exact belowRow ((Below.refl _ _).alloc (Nat.le_refl _) _) (Nat.le_refl _) _
 have Bs7 := Lh (Bs6.out.trans (hb.mono Bs6.out.size))
 have R_7 := Lh (R_6.out.below hb R_6.out.lt)
 have C_7 := Lh (C_6.out.below hb)
 have HW1' := Lh (HW1.out.trans (hb.mono HW1.out.size))
 clear HW1
 have HW1 := HW1'
 clear HW1'
 have E_0 := Lh (show Bx w7 w6.heap.size pE aE dE pE.leaves.length pE.sides.length cE eE from ⟨by rw [hw7]; exact (Blk.new w6 50 ZP).row _, (ATE.out.r1.below hb).more hb.size, (ATE.out.r2.below hb).more hb.size, ATE.out.k1, ATE.out.k2, ATE.out.okl, ATE.out.oks, ATE.out.oki⟩)
 have HE7 := Lh hw7
 clear hw7 hb ATE
 go_wp2_with (with_reducible refine wpList_store_row rfl 50 (.tmp 6) (.tmp 40) rfl w6.heap.size (PR pE.first pE.size (.slice aE pE.leaves.length cE) (.slice dE pE.sides.length eE)).toArray rfl rfl 50 _ (heap_alloc_new w6 _) (size50A _ _ _ _) (ZP_PR _ _ _ _) (PR_one _ _ _ _ _ _ _ _) ?_; rw [← HE7.out])
 have hc0 := prove_any _ five 5 ⟨#[104]⟩ w7 ((F1.out.below (show Below w1.heap.size w1 w7 from HW1.out)).more HW1.out.size) (HT.out.below Bs7.out HT.out.1)
 rw [HVE.out, prH] at hc0
 refine hc0.mono ?_; rintro e w8 ⟨v, rfl, hp, hb⟩
 clear hc0
 obtain ⟨aH, cH, dH, eH, rfl, atH⟩ := pfAt_of hp (ok_cut five_ok _ _) (by rw [siH]; decide) ⟨⟨by decide, by decide⟩, ⟨by decide, by decide⟩⟩
 have ATH := Lh atH
 clear hp atH
 have Bs8 := Lh (Bs7.out.trans (hb.mono Bs7.out.size))
 have R_8 := Lh (R_7.out.below hb R_7.out.lt)
 have C_8 := Lh (C_7.out.below hb)
 have E_8 := Lh (E_0.out.below hb)
 have HW1' := Lh (HW1.out.trans (hb.mono HW1.out.size))
 clear HW1
 have HW1 := HW1'
 clear HW1'
 clear hb
 obtain ⟨w9, hw9⟩ : ∃ W, W = (w8.alloc (.cells ZP.toArray 50)).setRow w8.heap.size (PR pH.first pH.size (.slice aH pH.leaves.length cH) (.slice dH pH.sides.length eH)).toArray := ⟨_, rfl⟩
 have hb : Below w8.heap.size w8 w9 := by rw [hw9]; exact belowRow ((Below.refl _ _).alloc (Nat.le_refl _) _) (Nat.le_refl _) _
 have Bs9 := Lh (Bs8.out.trans (hb.mono Bs8.out.size))
 have R_9 := Lh (R_8.out.below hb R_8.out.lt)
 have C_9 := Lh (C_8.out.below hb)
 have E_9 := Lh (E_8.out.below hb)
 have HW1' := Lh (HW1.out.trans (hb.mono HW1.out.size))
 clear HW1
 have HW1 := HW1'
 clear HW1'
 have H_0 := Lh (show Bx w9 w8.heap.size pH aH dH pH.leaves.length pH.sides.length cH eH from ⟨by rw [hw9]; exact (Blk.new w8 50 ZP).row _, (ATH.out.r1.below hb).more hb.size, (ATH.out.r2.below hb).more hb.size, ATH.out.k1, ATH.out.k2, ATH.out.okl, ATH.out.oks, ATH.out.oki⟩)
 have HE9 := Lh hw9
 clear hw9 hb ATH
 go_wp2_with (with_reducible refine wpList_store_row rfl 50 (.tmp 8) (.tmp 45) rfl w8.heap.size (PR pH.first pH.size (.slice aH pH.leaves.length cH) (.slice dH pH.sides.length eH)).toArray rfl rfl 50 _ (heap_alloc_new w8 _) (size50A _ _ _ _) (ZP_PR _ _ _ _) (PR_one _ _ _ _ _ _ _ _) ?_; rw [← HE9.out])
 have hc0 := range_any _ five 5 ⟨#[99]⟩ ⟨#[102]⟩ w9 ((F1.out.below (show Below w1.heap.size w1 w9 from HW1.out)).more HW1.out.size) (HT.out.below Bs9.out HT.out.1)
 rw [prR] at hc0
 refine hc0.mono ?_; rintro e w10 ⟨v, rfl, hp, hb⟩
 clear hc0
 obtain ⟨aQ, cQ, dQ, eQ, rfl, atQ⟩ := pfAt_of hp (ok_cut five_ok _ _) (by rw [siR]; decide) ⟨⟨by decide, by decide⟩, ⟨by decide, by decide⟩⟩
 have ATQ := Lh atQ
 clear hp atQ
 have Bs10 := Lh (Bs9.out.trans (hb.mono Bs9.out.size))
 have R_10 := Lh (R_9.out.below hb R_9.out.lt)
 have C_10 := Lh (C_9.out.below hb)
 have E_10 := Lh (E_9.out.below hb)
 have H_10 := Lh (H_0.out.below hb)
 have HW1' := Lh (HW1.out.trans (hb.mono HW1.out.size))
 clear HW1
 have HW1 := HW1'
 clear HW1'
 clear hb
 obtain ⟨w11, hw11⟩ : ∃ W, W = (w10.alloc (.cells ZP.toArray 50)).setRow w10.heap.size (PR pR.first pR.size (.slice aQ pR.leaves.length cQ) (.slice dQ pR.sides.length eQ)).toArray := ⟨_, rfl⟩
 have hb : Below w10.heap.size w10 w11 := by rw [hw11]; exact belowRow ((Below.refl _ _).alloc (Nat.le_refl _) _) (Nat.le_refl _) _
 have Bs11 := Lh (Bs10.out.trans (hb.mono Bs10.out.size))
 have R_11 := Lh (R_10.out.below hb R_10.out.lt)
 have C_11 := Lh (C_10.out.below hb)
 have E_11 := Lh (E_10.out.below hb)
 have H_11 := Lh (H_10.out.below hb)
 have HW1' := Lh (HW1.out.trans (hb.mono HW1.out.size))
 clear HW1
 have HW1 := HW1'
 clear HW1'
 have Q_0 := Lh (show Bx w11 w10.heap.size pR aQ dQ pR.leaves.length pR.sides.length cQ eQ from ⟨by rw [hw11]; exact (Blk.new w10 50 ZP).row _, (ATQ.out.r1.below hb).more hb.size, (ATQ.out.r2.below hb).more hb.size, ATQ.out.k1, ATQ.out.k2, ATQ.out.okl, ATQ.out.oks, ATQ.out.oki⟩)
 have HE11 := Lh hw11
 clear hw11 hb ATQ
 go_upto_region 7 with (with_reducible refine wpList_store_row rfl 50 (.tmp 10) (.tmp 50) rfl w10.heap.size (PR pR.first pR.size (.slice aQ pR.leaves.length cQ) (.slice dQ pR.sides.length eQ)).toArray rfl rfl 50 _ (heap_alloc_new w10 _) (size50A _ _ _ _) (ZP_PR _ _ _ _) (PR_one _ _ _ _ _ _ _ _) ?_; rw [← HE11.out])
 have tC0 : w11.cell? ⟨w4.heap.size, 0, none⟩ = some (.int .i64 1) := (C_11.out.blk.cell 0).trans rfl
 have tC2 : w11.cell? ⟨w4.heap.size, 2, none⟩ = some (.slice aC 1 cC) := (C_11.out.blk.cell 2).trans rfl
 have tC3 : w11.cell? ⟨w4.heap.size, 3, none⟩ = some (.slice dC 3 eC) := (C_11.out.blk.cell 3).trans (congrArg (fun x => some (Value.slice dC x eC)) siC)
 have tE0 : w11.cell? ⟨w6.heap.size, 0, none⟩ = some (.int .i64 2) := (E_11.out.blk.cell 0).trans rfl
 have tE2 : w11.cell? ⟨w6.heap.size, 2, none⟩ = some (.slice aE 2 cE) := (E_11.out.blk.cell 2).trans rfl
 have tE3 : w11.cell? ⟨w6.heap.size, 3, none⟩ = some (.slice dE 2 eE) := (E_11.out.blk.cell 3).trans (congrArg (fun x => some (Value.slice dE x eE)) siE)
 have tH0 : w11.cell? ⟨w8.heap.size, 0, none⟩ = some (.int .i64 4) := (H_11.out.blk.cell 0).trans rfl
 have tH2 : w11.cell? ⟨w8.heap.size, 2, none⟩ = some (.slice aH 1 cH) := (H_11.out.blk.cell 2).trans rfl
 have tH3 : w11.cell? ⟨w8.heap.size, 3, none⟩ = some (.slice dH 1 eH) := (H_11.out.blk.cell 3).trans (congrArg (fun x => some (Value.slice dH x eH)) siH)
 have tQ0 : w11.cell? ⟨w10.heap.size, 0, none⟩ = some (.int .i64 0) := (Q_0.out.blk.cell 0).trans rfl
 have tQ2 : w11.cell? ⟨w10.heap.size, 2, none⟩ = some (.slice aQ 4 cQ) := (Q_0.out.blk.cell 2).trans rfl
 have tQ3 : w11.cell? ⟨w10.heap.size, 3, none⟩ = some (.slice dQ 1 eQ) := (Q_0.out.blk.cell 3).trans (congrArg (fun x => some (Value.slice dQ x eQ)) siR)
 have LR := Lh R_11.out.at
 have LP := Lh C_11.out.blk.at
 go_wp2_with (first
  | (refine wpList_load_at rfl 29 (.tmp 2) rfl ⟨w2.heap.size, 0, none⟩ rfl (B8 R) (.array 16 5) LR.out Tryd.underlying29 rfl (size29 _ HRl.out) ?_)
  | (refine wpList_load_at rfl 50 (.tmp 4) rfl ⟨w4.heap.size, 0, none⟩ rfl (PR pC.first pC.size (.slice aC pC.leaves.length cC) (.slice dC pC.sides.length eC)) _ LP.out Tryd.underlying50 rfl (size50L _ _ _ _) ?_))
 have hc0 := check_any R ⟨#[99]⟩ pC _ _ _ _ w11 HRl.out C_11.out.at_ (HT.out.below Bs11.out HT.out.1)
 rw [HR.out, chC, ← HR.out] at hc0
 refine hc0.mono ?_; rintro e w12 ⟨rfl, hb⟩
 clear hc0 LR LP
 have Bs12 := Lh (Bs11.out.trans (hb.mono Bs11.out.size))
 have R_12 := Lh (R_11.out.below hb R_11.out.lt)
 have C_12 := Lh (C_11.out.below hb)
 have E_12 := Lh (E_11.out.below hb)
 have H_12 := Lh (H_11.out.below hb)
 have Q_12 := Lh (Q_0.out.below hb)
 have HW1' := Lh (HW1.out.trans (hb.mono HW1.out.size))
 clear HW1
 have HW1 := HW1'
 clear HW1'
 clear hb
 clear tC0 tC2 tC3 tE0 tE2 tE3 tH0 tH2 tH3 tQ0 tQ2 tQ3
 have LR := Lh R_12.out.at
 have LP := Lh E_12.out.blk.at
 go_wp2_with (first
  | (refine wpList_load_at rfl 29 (.tmp 2) rfl ⟨w2.heap.size, 0, none⟩ rfl (B8 R) (.array 16 5) LR.out Tryd.underlying29 rfl (size29 _ HRl.out) ?_)
  | (refine wpList_load_at rfl 50 (.tmp 6) rfl ⟨w6.heap.size, 0, none⟩ rfl (PR pE.first pE.size (.slice aE pE.leaves.length cE) (.slice dE pE.sides.length eE)) _ LP.out Tryd.underlying50 rfl (size50L _ _ _ _) ?_))
 have hc0 := check_any R ⟨#[101]⟩ pE _ _ _ _ w12 HRl.out E_12.out.at_ (HT.out.below Bs12.out HT.out.1)
 rw [HR.out, chE, ← HR.out] at hc0
 refine hc0.mono ?_; rintro e w13 ⟨rfl, hb⟩
 clear hc0 LR LP
 have Bs13 := Lh (Bs12.out.trans (hb.mono Bs12.out.size))
 have R_13 := Lh (R_12.out.below hb R_12.out.lt)
 have C_13 := Lh (C_12.out.below hb)
 have E_13 := Lh (E_12.out.below hb)
 have H_13 := Lh (H_12.out.below hb)
 have Q_13 := Lh (Q_12.out.below hb)
 have HW1' := Lh (HW1.out.trans (hb.mono HW1.out.size))
 clear HW1
 have HW1 := HW1'
 clear HW1'
 clear hb
 have LR := Lh R_13.out.at
 have LP := Lh E_13.out.blk.at
 go_wp2_with (first
  | (refine wpList_load_at rfl 29 (.tmp 2) rfl ⟨w2.heap.size, 0, none⟩ rfl (B8 R) (.array 16 5) LR.out Tryd.underlying29 rfl (size29 _ HRl.out) ?_)
  | (refine wpList_load_at rfl 50 (.tmp 6) rfl ⟨w6.heap.size, 0, none⟩ rfl (PR pE.first pE.size (.slice aE pE.leaves.length cE) (.slice dE pE.sides.length eE)) _ LP.out Tryd.underlying50 rfl (size50L _ _ _ _) ?_))
 have hc0 := check_any R ⟨#[100]⟩ pE _ _ _ _ w13 HRl.out E_13.out.at_ (HT.out.below Bs13.out HT.out.1)
 rw [HR.out, chD, ← HR.out] at hc0
 refine hc0.mono ?_; rintro e w14 ⟨rfl, hb⟩
 clear hc0 LR LP
 have Bs14 := Lh (Bs13.out.trans (hb.mono Bs13.out.size))
 have R_14 := Lh (R_13.out.below hb R_13.out.lt)
 have C_14 := Lh (C_13.out.below hb)
 have E_14 := Lh (E_13.out.below hb)
 have H_14 := Lh (H_13.out.below hb)
 have Q_14 := Lh (Q_13.out.below hb)
 have HW1' := Lh (HW1.out.trans (hb.mono HW1.out.size))
 clear HW1
 have HW1 := HW1'
 clear HW1'
 clear hb
 have LR := Lh R_14.out.at
 have LP := Lh E_14.out.blk.at
 go_wp2_with (first
  | (refine wpList_load_at rfl 29 (.tmp 2) rfl ⟨w2.heap.size, 0, none⟩ rfl (B8 R) (.array 16 5) LR.out Tryd.underlying29 rfl (size29 _ HRl.out) ?_)
  | (refine wpList_load_at rfl 50 (.tmp 6) rfl ⟨w6.heap.size, 0, none⟩ rfl (PR pE.first pE.size (.slice aE pE.leaves.length cE) (.slice dE pE.sides.length eE)) _ LP.out Tryd.underlying50 rfl (size50L _ _ _ _) ?_))
 have hc0 := check_any R ⟨#[99]⟩ pE _ _ _ _ w14 HRl.out E_14.out.at_ (HT.out.below Bs14.out HT.out.1)
 rw [HR.out, chX, ← HR.out] at hc0
 obtain ⟨sx, hsx⟩ : ∃ sx, sx = (checkR node lf top R ⟨#[99]⟩ pE).1 := ⟨_, rfl⟩
 obtain ⟨bx, hbx⟩ : ∃ bx, bx = (checkR node lf top R ⟨#[99]⟩ pE).2.1 := ⟨_, rfl⟩
 rw [← hsx, ← hbx] at hc0
 clear hsx hbx
 refine hc0.mono ?_; rintro e w15 ⟨rfl, hb⟩
 clear hc0 LR LP
 have Bs15 := Lh (Bs14.out.trans (hb.mono Bs14.out.size))
 have R_15 := Lh (R_14.out.below hb R_14.out.lt)
 have C_15 := Lh (C_14.out.below hb)
 have E_15 := Lh (E_14.out.below hb)
 have H_15 := Lh (H_14.out.below hb)
 have Q_15 := Lh (Q_14.out.below hb)
 have HW1' := Lh (HW1.out.trans (hb.mono HW1.out.size))
 clear HW1
 have HW1 := HW1'
 clear HW1'
 clear hb
 have LR := Lh R_15.out.at
 have LP := Lh Q_15.out.blk.at
 go_wp2_with (first
  | (refine wpList_load_at rfl 29 (.tmp 2) rfl ⟨w2.heap.size, 0, none⟩ rfl (B8 R) (.array 16 5) LR.out Tryd.underlying29 rfl (size29 _ HRl.out) ?_)
  | (refine wpList_load_at rfl 50 (.tmp 10) rfl ⟨w10.heap.size, 0, none⟩ rfl (PR pR.first pR.size (.slice aQ pR.leaves.length cQ) (.slice dQ pR.sides.length eQ)) _ LP.out Tryd.underlying50 rfl (size50L _ _ _ _) ?_))
 have hc0 := checkRange_any R ⟨#[99]⟩ ⟨#[102]⟩ pR _ _ _ _ w15 HRl.out Q_15.out.at_ (HT.out.below Bs15.out HT.out.1)
 rw [HR.out, chR, ← HR.out] at hc0
 refine hc0.mono ?_; rintro e w16 ⟨ax, nx, cx, rfl, hlv, hb⟩
 clear hc0 LR LP
 have Bs16 := Lh (Bs15.out.trans (hb.mono Bs15.out.size))
 have R_16 := Lh (R_15.out.below hb R_15.out.lt)
 have C_16 := Lh (C_15.out.below hb)
 have E_16 := Lh (E_15.out.below hb)
 have H_16 := Lh (H_15.out.below hb)
 have Q_16 := Lh (Q_15.out.below hb)
 have HW1' := Lh (HW1.out.trans (hb.mono HW1.out.size))
 clear HW1
 have HW1 := HW1'
 clear HW1'
 obtain ⟨hnx, hrd, _, _, _⟩ := hlv
 have hn2 : nx = 2 := hnx
 subst hn2
 obtain ⟨gx, ox, rfl, hgx, hcx⟩ := hrd (by intro e; have := congrArg List.length e; rw [LC_len] at this; exact absurd this (by decide))
 have u0 : w16.cell? ⟨gx, ox, none⟩ = some (.string ⟨#[99]⟩) := hcx 0 _ rfl
 have u3 : w16.cell? ⟨gx, ox + 2 + 1, none⟩ = some (.string ⟨#[51]⟩) := hcx 3 _ rfl
 clear hb hcx hnx hgx hrd
 have HBF := Lh Bs16.out
 go_wp2_with fail
 go_ret
 exact ⟨rfl, HBF.out⟩
end Go.Proofs.YtofccgkgjcnfbaaDoor
