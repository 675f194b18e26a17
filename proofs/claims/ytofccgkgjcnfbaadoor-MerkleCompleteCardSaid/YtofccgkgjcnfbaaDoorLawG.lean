/-
  The walk of the law MerkleComplete.
  Condition: the table of the round constants is as the text lays it.
-/
import Derived.Test.YtofccgkgjcnfbaaDoorFacts
namespace Go.Proofs.YtofccgkgjcnfbaaDoor
open Go.RowKit Wr Sh
set_option linter.unusedVariables false
set_option maxRecDepth 100000

set_option maxHeartbeats 16000000 in
theorem complete_walk (A : Option Addr) (l : List Int) (c : Nat) (n m : Int) (w : World) (hl : l.length ≤ 281474976710656) (hr : Rd w w.heap.size A (I64 l)) (ho : ∀ x ∈ l, okInt x) (hn : okInt n) (hm : okInt m) (ht : Tab 1 w) :
    Calls Tryd.prog 7 #[.slice A l.length c, .int .i64 n, .int .i64 m] w fun e w' => e = .returned (.bool true) ∧ Below w.heap.size w w' := by
  have HT := Lib.hid ht
  have hZ := hZ16
  have hZ2 := hZP
  have HC0 := Lib.hid (leaves_any A l c w hl hr ho)
  obtain ⟨L, hL⟩ : ∃ L, L = genL l := ⟨_, rfl⟩
  have HV := Lib.hid (show validE L = 0 by rw [hL]; exact genL_valid l)
  have HO := Lib.hid (show ord L by rw [hL]; exact genL_ord l)
  have HK := Lib.hid (show okL L by rw [hL]; exact genL_ok l)
  have hN : L.length ≤ 11 := by rw [hL]; exact genL_len l
  have HKs := Lib.hid (show ∀ x ∈ L, x.1.size ≤ 1073741824 from fun x hx => (HK.out.2 x hx).1)
  rw [← hL] at HC0
  obtain ⟨R, hR⟩ : ∃ R, R = rootR L := ⟨_, rfl⟩
  have HR := Lib.hid hR
  have HRl := Lib.hid (show R.length = 16 by rw [hR]; exact rootR_len L)
  have Hn := Lib.hid hn
  have Hm := Lib.hid hm
  clear ht hl hr ho hL hR hn hm
  generalize l.length = N at HC0 ⊢
  go_enter Tryd.func7, Tryd.ntmps7
  go_wp2_with (go_at_call 10; refine HC0.out.mono ?_; rintro e w1 ⟨A1, c1, rfl, hcap, hnil, hrd, hb1⟩)
  have Bs1 := Lib.hid hb1
  have L1 := Lib.hid (show LsAt w1 w1.heap.size A1 L c1 from ⟨hrd, hcap, hnil, HK.out⟩)
  have HW_1 := Lib.hid (Below.refl w1.heap.size w1)
  clear hb1 hcap hnil hrd HC0
  refine (own_any A1 L c1 w1 (by omega) ((L1.out.below (show Below w1.heap.size w1 w1 from HW_1.out)).more HW_1.out.size).rd).mono ?_; rintro e w2 ⟨Aa, ca, rfl, hcap, hnil, hrd, hb⟩
  have Oa := Lib.hid (show LsAt w2 w2.heap.size Aa L ca from ⟨hrd, hcap, hnil, HK.out⟩)
  have Bs2 := Lib.hid (Bs1.out.trans (hb.mono Bs1.out.size))
  have HW_2 := Lib.hid (HW_1.out.trans (hb.mono HW_1.out.size))
  clear hb hcap hnil hrd
  go_wp2_with fail
  have hc0 := root_any Aa L ca w2 Oa.out (HT.out.below Bs2.out HT.out.1) R HR
  rw [HV.out] at hc0
  refine hc0.mono ?_; rintro e w3 ⟨rfl, hb⟩
  clear hc0 Oa
  have Bs3 := Lib.hid (Bs2.out.trans (hb.mono Bs2.out.size))
  have HW_3 := Lib.hid (HW_2.out.trans (hb.mono HW_2.out.size))
  clear hb
  obtain ⟨w4, hw4⟩ : ∃ W, W = (w3.alloc (.cells Z16.toArray 29)).setRow w3.heap.size (B8 R).toArray := ⟨_, rfl⟩
  have hb : Below w3.heap.size w3 w4 := by rw [hw4]; exact belowRow ((Below.refl _ _).alloc (Nat.le_refl _) _) (Nat.le_refl _) _
  have Bs4 := Lib.hid (Bs3.out.trans (hb.mono Bs3.out.size))
  have HW_4 := Lib.hid (HW_3.out.trans (hb.mono HW_3.out.size))
  have R_4 := Lib.hid (show Blk w4 w3.heap.size 29 (B8 R) by rw [hw4]; exact (Blk.new w3 29 Z16).row _)
  have HE := Lib.hid hw4
  clear hw4 hb
  go_wp2_with (with_reducible refine wpList_store_row rfl 29 (.tmp 8) (.tmp 28) rfl w3.heap.size (B8 R).toArray rfl rfl 29 _ (heap_alloc_new w3 _) (size29' _ HRl.out) (Z16_size _ HRl.out) (one8 _) ?_; rw [← HE.out])
  clear HE
  refine (lawKey_any A1 L c1 n w4 hN ((L1.out.below (show Below w1.heap.size w1 w4 from HW_4.out)).more HW_4.out.size).rd Hn.out HKs.out).mono ?_; rintro e w5 ⟨K, rfl, hb⟩
  have Bs5 := Lib.hid (Bs4.out.trans (hb.mono Bs4.out.size))
  have HW_5 := Lib.hid (HW_4.out.trans (hb.mono HW_4.out.size))
  have R_5 := Lib.hid (R_4.out.below hb R_4.out.lt)
  clear hb
  go_wp2_with fail
  refine (lawKey_any A1 L c1 m w5 hN ((L1.out.below (show Below w1.heap.size w1 w5 from HW_5.out)).more HW_5.out.size).rd Hm.out HKs.out).mono ?_; rintro e w6 ⟨T, rfl, hb⟩
  have Bs6 := Lib.hid (Bs5.out.trans (hb.mono Bs5.out.size))
  have HW_6 := Lib.hid (HW_5.out.trans (hb.mono HW_5.out.size))
  have R_6 := Lib.hid (R_5.out.below hb R_5.out.lt)
  clear hb
  go_wp2_with fail
  refine (own_any A1 L c1 w6 (by omega) ((L1.out.below (show Below w1.heap.size w1 w6 from HW_6.out)).more HW_6.out.size).rd).mono ?_; rintro e w7 ⟨Abb, cbb, rfl, hcap, hnil, hrd, hb⟩
  have Obb := Lib.hid (show LsAt w7 w7.heap.size Abb L cbb from ⟨hrd, hcap, hnil, HK.out⟩)
  have Bs7 := Lib.hid (Bs6.out.trans (hb.mono Bs6.out.size))
  have HW_7 := Lib.hid (HW_6.out.trans (hb.mono HW_6.out.size))
  have R_7 := Lib.hid (R_6.out.below hb R_6.out.lt)
  clear hb hcap hnil hrd
  go_wp2_with fail
  have hc0 := prove_any Abb L cbb K w7 Obb.out (HT.out.below Bs7.out HT.out.1)
  rw [HV.out] at hc0
  obtain ⟨PC, hPC⟩ : ∃ P, P = (proveR node lf top L K).1 := ⟨_, rfl⟩
  rw [← hPC] at hc0
  have HPC := Lib.hid hPC
  have HFC := Lib.hid (show Few PC by rw [hPC]; exact few_prove L K hN HK.out HV.out)
  clear hPC
  refine hc0.mono ?_; rintro e w8 ⟨v, rfl, hp, hb⟩
  clear hc0 Obb
  obtain ⟨aC, cC, dC, eC, rfl, atC⟩ := pfAt_of hp HFC.out.ok (by have := HFC.out.sides; omega) HFC.out.ints
  have AT := Lib.hid atC
  clear hp atC
  have Bs8 := Lib.hid (Bs7.out.trans (hb.mono Bs7.out.size))
  have HW_8 := Lib.hid (HW_7.out.trans (hb.mono HW_7.out.size))
  have R_8 := Lib.hid (R_7.out.below hb R_7.out.lt)
  clear hb
  obtain ⟨w9, hw9⟩ : ∃ W, W = (w8.alloc (.cells ZP.toArray 50)).setRow w8.heap.size (PR PC.first PC.size (.slice aC PC.leaves.length cC) (.slice dC PC.sides.length eC)).toArray := ⟨_, rfl⟩
  have hb : Below w8.heap.size w8 w9 := by rw [hw9]; exact belowRow ((Below.refl _ _).alloc (Nat.le_refl _) _) (Nat.le_refl _) _
  have Bs9 := Lib.hid (Bs8.out.trans (hb.mono Bs8.out.size))
  have HW_9 := Lib.hid (HW_8.out.trans (hb.mono HW_8.out.size))
  have R_9 := Lib.hid (R_8.out.below hb R_8.out.lt)
  have C_9 := Lib.hid (show Bx w9 w8.heap.size PC aC dC PC.leaves.length PC.sides.length cC eC from ⟨by rw [hw9]; exact (Blk.new w8 50 ZP).row _, (AT.out.r1.below hb).more hb.size, (AT.out.r2.below hb).more hb.size, AT.out.k1, AT.out.k2, AT.out.okl, AT.out.oks, AT.out.oki⟩)
  have HE := Lib.hid hw9
  clear hw9 hb AT
  go_wp2_with (first
    | (with_reducible refine wpList_store_row rfl 50 (.tmp 12) (.tmp 41) rfl w8.heap.size (PR PC.first PC.size (.slice aC PC.leaves.length cC) (.slice dC PC.sides.length eC)).toArray rfl rfl 50 _ (heap_alloc_new w8 _) (size50A _ _ _ _) (ZP_PR _ _ _ _) (PR_one _ _ _ _ _ _ _ _) ?_; rw [← HE.out])
    | (refine wpList_load_at rfl 29 (.tmp 8) rfl ⟨w3.heap.size, 0, none⟩ rfl (B8 R) (.array 16 5) R_9.out.at Tryd.underlying29 rfl (size29 _ HRl.out) ?_)
    | (refine wpList_load_at rfl 50 (.tmp 12) rfl ⟨w8.heap.size, 0, none⟩ rfl (PR PC.first PC.size (.slice aC PC.leaves.length cC) (.slice dC PC.sides.length eC)) _ C_9.out.blk.at Tryd.underlying50 rfl (size50L _ _ _ _) ?_))
  clear HE
  have hc0 := check_any R K PC _ _ _ _ w9 HRl.out C_9.out.at_ (HT.out.below Bs9.out HT.out.1)
  have hce := law_check L K HV.out R HR.out
  rw [← HPC.out] at hce
  rw [hce] at hc0
  clear hce
  have HC0 := Lib.hid hc0
  clear hc0
  cases hit : hitB L K with
  | true =>
    have hq : cb L K < L.length := by unfold hitB at hit; rw [Bool.and_eq_true, decide_eq_true_eq] at hit; exact hit.1
    have hhas := has_hit L K HO.out hit
    have hc1 := HC0.out
    rw [if_pos hit] at hc1
    rw [List.getD_eq_getElem?_getD, List.getElem?_eq_getElem hq] at hc1
    dsimp only [Option.getD_some] at hc1
    generalize cb L K = q at hq hhas hc1
    obtain ⟨V, hVV⟩ : ∃ V, V = L[q].2 := ⟨_, rfl⟩
    rw [← hVV] at hc1
    clear HC0 hit
    cases hs : sl T K with
    | true =>
      refine hc1.mono ?_; rintro e w10 ⟨rfl, hb⟩
      clear hc1
      have Bs10 := Lib.hid (Bs9.out.trans (hb.mono Bs9.out.size))
      have HW_10 := Lib.hid (HW_9.out.trans (hb.mono HW_9.out.size))
      have R_10 := Lib.hid (R_9.out.below hb R_9.out.lt)
      have C_10 := Lib.hid (C_9.out.below hb)
      clear hb
      have tC3 : w10.cell? ⟨w8.heap.size, 3, none⟩ = some (.slice dC PC.sides.length eC) := (C_10.out.blk.cell 3).trans rfl
      have hs24 : (PC.sides.length : Int) ≤ 24 := by have := HFC.out.sides; omega
      have hc2 := has_any A1 L c1 K w10 (by omega) ((L1.out.below (show Below w1.heap.size w1 w10 from HW_10.out)).more HW_10.out.size).rd
      rw [hhas] at hc2
      have HC2 := Lib.hid hc2
      clear hc2
      obtain ⟨g1, o1, rfl, hg1, hcell⟩ := leaf_cells ((L1.out.below (show Below w1.heap.size w1 w10 from HW_10.out)).more HW_10.out.size).rd q hq
      have hV := (hcell q hq).2
      rw [← hVV] at hV
      have hq0 : (0 : Int) ≤ (q : Int) := by omega
      have hqm : max (q : Int) 0 = (q : Int) := by omega
      have hqi : (q : Int) < (L.length : Int) := by omega
      have HCELL := Lib.hid hcell
      clear hcell hVV hg1
      go_wp2_with (go_at_call 43; refine HC2.out.mono ?_; rintro e wx ⟨rfl, hwx⟩; rw [hwx]; clear hwx wx)
      refine (own_any (some ⟨g1, o1, none⟩) L c1 w10 (by omega) ((L1.out.below (show Below w1.heap.size w1 w10 from HW_10.out)).more HW_10.out.size).rd).mono ?_; rintro e w11 ⟨Ac, cc, rfl, hcap, hnil, hrd, hb⟩
      have Oc := Lib.hid (show LsAt w11 w11.heap.size Ac L cc from ⟨hrd, hcap, hnil, HK.out⟩)
      have Bs11 := Lib.hid (Bs10.out.trans (hb.mono Bs10.out.size))
      have HW_11 := Lib.hid (HW_10.out.trans (hb.mono HW_10.out.size))
      have R_11 := Lib.hid (R_10.out.below hb R_10.out.lt)
      have C_11 := Lib.hid (C_10.out.below hb)
      clear hb hcap hnil hrd tC3
      go_wp2_with fail
      have hc0 := range_any Ac L cc K T w11 Oc.out (HT.out.below Bs11.out HT.out.1)
      rw [(law_range_bad L K T HV.out hs R noPf).2] at hc0
      obtain ⟨PQ, hPQ⟩ : ∃ P, P = (rangeR node lf top L K T).1 := ⟨_, rfl⟩
      rw [← hPQ] at hc0
      have HPQ := Lib.hid hPQ
      have HFQ := Lib.hid (show Few PQ by rw [hPQ]; exact few_range L K T hN HK.out HV.out)
      clear hPQ
      refine hc0.mono ?_; rintro e w12 ⟨v, rfl, hp, hb⟩
      clear hc0 Oc
      obtain ⟨aQ, cQ, dQ, eQ, rfl, atQ⟩ := pfAt_of hp HFQ.out.ok (by have := HFQ.out.sides; omega) HFQ.out.ints
      have AT := Lib.hid atQ
      clear hp atQ
      have Bs12 := Lib.hid (Bs11.out.trans (hb.mono Bs11.out.size))
      have HW_12 := Lib.hid (HW_11.out.trans (hb.mono HW_11.out.size))
      have R_12 := Lib.hid (R_11.out.below hb R_11.out.lt)
      have C_12 := Lib.hid (C_11.out.below hb)
      clear hb
      obtain ⟨w13, hw13⟩ : ∃ W, W = (w12.alloc (.cells ZP.toArray 50)).setRow w12.heap.size (PR PQ.first PQ.size (.slice aQ PQ.leaves.length cQ) (.slice dQ PQ.sides.length eQ)).toArray := ⟨_, rfl⟩
      have hb : Below w12.heap.size w12 w13 := by rw [hw13]; exact belowRow ((Below.refl _ _).alloc (Nat.le_refl _) _) (Nat.le_refl _) _
      have Bs13 := Lib.hid (Bs12.out.trans (hb.mono Bs12.out.size))
      have HW_13 := Lib.hid (HW_12.out.trans (hb.mono HW_12.out.size))
      have R_13 := Lib.hid (R_12.out.below hb R_12.out.lt)
      have C_13 := Lib.hid (C_12.out.below hb)
      have Q_13 := Lib.hid (show Bx w13 w12.heap.size PQ aQ dQ PQ.leaves.length PQ.sides.length cQ eQ from ⟨by rw [hw13]; exact (Blk.new w12 50 ZP).row _, (AT.out.r1.below hb).more hb.size, (AT.out.r2.below hb).more hb.size, AT.out.k1, AT.out.k2, AT.out.okl, AT.out.oks, AT.out.oki⟩)
      have HE := Lib.hid hw13
      clear hw13 hb AT
      go_wp2_with (first
        | (with_reducible refine wpList_store_row rfl 50 (.tmp 18) (.tmp 99) rfl w12.heap.size (PR PQ.first PQ.size (.slice aQ PQ.leaves.length cQ) (.slice dQ PQ.sides.length eQ)).toArray rfl rfl 50 _ (heap_alloc_new w12 _) (size50A _ _ _ _) (ZP_PR _ _ _ _) (PR_one _ _ _ _ _ _ _ _) ?_; rw [← HE.out])
        | (refine wpList_load_at rfl 29 (.tmp 8) rfl ⟨w3.heap.size, 0, none⟩ rfl (B8 R) (.array 16 5) R_13.out.at Tryd.underlying29 rfl (size29 _ HRl.out) ?_)
        | (refine wpList_load_at rfl 50 (.tmp 18) rfl ⟨w12.heap.size, 0, none⟩ rfl (PR PQ.first PQ.size (.slice aQ PQ.leaves.length cQ) (.slice dQ PQ.sides.length eQ)) _ Q_13.out.blk.at Tryd.underlying50 rfl (size50L _ _ _ _) ?_))
      clear HE
      have hc0 := checkRange_any R K T PQ _ _ _ _ w13 HRl.out Q_13.out.at_ (HT.out.below Bs13.out HT.out.1)
      rw [(law_range_bad L K T HV.out hs R PQ).1] at hc0
      refine hc0.mono ?_; rintro e w14 ⟨ax, nx, cx, rfl, hlv, hb⟩
      clear hc0
      have Bs14 := Lib.hid (Bs13.out.trans (hb.mono Bs13.out.size))
      have HW_14 := Lib.hid (HW_13.out.trans (hb.mono HW_13.out.size))
      have R_14 := Lib.hid (R_13.out.below hb R_13.out.lt)
      have C_14 := Lib.hid (C_13.out.below hb)
      have Q_14 := Lib.hid (Q_13.out.below hb)
      clear hb
      have i1 : Op.bytesLess T.toList K.toList = true := by rw [lss_str]; exact hs
      have HLV := Lib.hid (lives_any w14 (HT.out.below Bs14.out HT.out.1))
      clear hlv
      go_wp2_with (go_at_call 19; refine HLV.out.mono ?_; rintro e w15 ⟨rfl, hb⟩; have Bz := Lib.hid (Bs14.out.trans (hb.mono Bs14.out.size)); clear hb)
      go_ret
      exact ⟨rfl, Bz.out⟩
    | false =>
      refine hc1.mono ?_; rintro e w10 ⟨rfl, hb⟩
      clear hc1
      have Bs10 := Lib.hid (Bs9.out.trans (hb.mono Bs9.out.size))
      have HW_10 := Lib.hid (HW_9.out.trans (hb.mono HW_9.out.size))
      have R_10 := Lib.hid (R_9.out.below hb R_9.out.lt)
      have C_10 := Lib.hid (C_9.out.below hb)
      clear hb
      have tC3 : w10.cell? ⟨w8.heap.size, 3, none⟩ = some (.slice dC PC.sides.length eC) := (C_10.out.blk.cell 3).trans rfl
      have hs24 : (PC.sides.length : Int) ≤ 24 := by have := HFC.out.sides; omega
      have hc2 := has_any A1 L c1 K w10 (by omega) ((L1.out.below (show Below w1.heap.size w1 w10 from HW_10.out)).more HW_10.out.size).rd
      rw [hhas] at hc2
      have HC2 := Lib.hid hc2
      clear hc2
      obtain ⟨g1, o1, rfl, hg1, hcell⟩ := leaf_cells ((L1.out.below (show Below w1.heap.size w1 w10 from HW_10.out)).more HW_10.out.size).rd q hq
      have hV := (hcell q hq).2
      rw [← hVV] at hV
      have hq0 : (0 : Int) ≤ (q : Int) := by omega
      have hqm : max (q : Int) 0 = (q : Int) := by omega
      have hqi : (q : Int) < (L.length : Int) := by omega
      have HCELL := Lib.hid hcell
      clear hcell hVV hg1
      go_wp2_with (go_at_call 43; refine HC2.out.mono ?_; rintro e wx ⟨rfl, hwx⟩; rw [hwx]; clear hwx wx)
      refine (own_any (some ⟨g1, o1, none⟩) L c1 w10 (by omega) ((L1.out.below (show Below w1.heap.size w1 w10 from HW_10.out)).more HW_10.out.size).rd).mono ?_; rintro e w11 ⟨Ac, cc, rfl, hcap, hnil, hrd, hb⟩
      have Oc := Lib.hid (show LsAt w11 w11.heap.size Ac L cc from ⟨hrd, hcap, hnil, HK.out⟩)
      have Bs11 := Lib.hid (Bs10.out.trans (hb.mono Bs10.out.size))
      have HW_11 := Lib.hid (HW_10.out.trans (hb.mono HW_10.out.size))
      have R_11 := Lib.hid (R_10.out.below hb R_10.out.lt)
      have C_11 := Lib.hid (C_10.out.below hb)
      clear hb hcap hnil hrd tC3
      go_wp2_with fail
      have hc0 := range_any Ac L cc K T w11 Oc.out (HT.out.below Bs11.out HT.out.1)
      rw [(law_range L K T HV.out hs R HR.out).2] at hc0
      obtain ⟨PQ, hPQ⟩ : ∃ P, P = (rangeR node lf top L K T).1 := ⟨_, rfl⟩
      rw [← hPQ] at hc0
      have HPQ := Lib.hid hPQ
      have HFQ := Lib.hid (show Few PQ by rw [hPQ]; exact few_range L K T hN HK.out HV.out)
      clear hPQ
      refine hc0.mono ?_; rintro e w12 ⟨v, rfl, hp, hb⟩
      clear hc0 Oc
      obtain ⟨aQ, cQ, dQ, eQ, rfl, atQ⟩ := pfAt_of hp HFQ.out.ok (by have := HFQ.out.sides; omega) HFQ.out.ints
      have AT := Lib.hid atQ
      clear hp atQ
      have Bs12 := Lib.hid (Bs11.out.trans (hb.mono Bs11.out.size))
      have HW_12 := Lib.hid (HW_11.out.trans (hb.mono HW_11.out.size))
      have R_12 := Lib.hid (R_11.out.below hb R_11.out.lt)
      have C_12 := Lib.hid (C_11.out.below hb)
      clear hb
      obtain ⟨w13, hw13⟩ : ∃ W, W = (w12.alloc (.cells ZP.toArray 50)).setRow w12.heap.size (PR PQ.first PQ.size (.slice aQ PQ.leaves.length cQ) (.slice dQ PQ.sides.length eQ)).toArray := ⟨_, rfl⟩
      have hb : Below w12.heap.size w12 w13 := by rw [hw13]; exact belowRow ((Below.refl _ _).alloc (Nat.le_refl _) _) (Nat.le_refl _) _
      have Bs13 := Lib.hid (Bs12.out.trans (hb.mono Bs12.out.size))
      have HW_13 := Lib.hid (HW_12.out.trans (hb.mono HW_12.out.size))
      have R_13 := Lib.hid (R_12.out.below hb R_12.out.lt)
      have C_13 := Lib.hid (C_12.out.below hb)
      have Q_13 := Lib.hid (show Bx w13 w12.heap.size PQ aQ dQ PQ.leaves.length PQ.sides.length cQ eQ from ⟨by rw [hw13]; exact (Blk.new w12 50 ZP).row _, (AT.out.r1.below hb).more hb.size, (AT.out.r2.below hb).more hb.size, AT.out.k1, AT.out.k2, AT.out.okl, AT.out.oks, AT.out.oki⟩)
      have HE := Lib.hid hw13
      clear hw13 hb AT
      go_wp2_with (first
        | (with_reducible refine wpList_store_row rfl 50 (.tmp 18) (.tmp 99) rfl w12.heap.size (PR PQ.first PQ.size (.slice aQ PQ.leaves.length cQ) (.slice dQ PQ.sides.length eQ)).toArray rfl rfl 50 _ (heap_alloc_new w12 _) (size50A _ _ _ _) (ZP_PR _ _ _ _) (PR_one _ _ _ _ _ _ _ _) ?_; rw [← HE.out])
        | (refine wpList_load_at rfl 29 (.tmp 8) rfl ⟨w3.heap.size, 0, none⟩ rfl (B8 R) (.array 16 5) R_13.out.at Tryd.underlying29 rfl (size29 _ HRl.out) ?_)
        | (refine wpList_load_at rfl 50 (.tmp 18) rfl ⟨w12.heap.size, 0, none⟩ rfl (PR PQ.first PQ.size (.slice aQ PQ.leaves.length cQ) (.slice dQ PQ.sides.length eQ)) _ Q_13.out.blk.at Tryd.underlying50 rfl (size50L _ _ _ _) ?_))
      clear HE
      have hc0 := checkRange_any R K T PQ _ _ _ _ w13 HRl.out Q_13.out.at_ (HT.out.below Bs13.out HT.out.1)
      have hce := (law_range L K T HV.out hs R HR.out).1
      rw [← HPQ.out] at hce
      rw [hce] at hc0
      clear hce
      refine hc0.mono ?_; rintro e w14 ⟨ax, nx, cx, rfl, hlv, hb⟩
      clear hc0
      have Bs14 := Lib.hid (Bs13.out.trans (hb.mono Bs13.out.size))
      have HW_14 := Lib.hid (HW_13.out.trans (hb.mono HW_13.out.size))
      have R_14 := Lib.hid (R_13.out.below hb R_13.out.lt)
      have C_14 := Lib.hid (C_13.out.below hb)
      have Q_14 := Lib.hid (Q_13.out.below hb)
      clear hb
      have i1 : Op.bytesLess T.toList K.toList = false := by rw [lss_str]; exact hs
      obtain ⟨hnx, hrd, hcp, hnl, _⟩ := hlv
      obtain ⟨M, hM⟩ : ∃ M, M = insideR L K T := ⟨_, rfl⟩
      have hML : M.length ≤ 11 := by rw [hM]; exact Nat.le_trans (List.length_filter_le _ _) hN
      change nx = (insideR L K T).length at hnx
      change Rd w14 w14.heap.size ax (LC (insideR L K T)) at hrd
      rw [← hM] at hnx hrd
      subst hnx
      have HM := Lib.hid hM
      have HP1 := Lib.hid (plain_any ax M cx w14 (by omega) hrd)
      clear hrd hM hs
      go_wp2_with (go_at_call 18; refine HP1.out.mono ?_; rintro e w15 ⟨ay, cy, rfl, _, _, hry, hb⟩)
      have Bs15 := Lib.hid (Bs14.out.trans (hb.mono Bs14.out.size))
      have HW_15 := Lib.hid (HW_14.out.trans (hb.mono HW_14.out.size))
      have R_15 := Lib.hid (R_14.out.below hb R_14.out.lt)
      have C_15 := Lib.hid (C_14.out.below hb)
      have Q_15 := Lib.hid (Q_14.out.below hb)
      have hc3 := inside_any (some ⟨g1, o1, none⟩) L c1 K T w15 (by omega) ((L1.out.below (show Below w1.heap.size w1 w15 from HW_15.out)).more HW_15.out.size).rd
      rw [← HM.out] at hc3
      have HC3 := Lib.hid hc3
      have HRY := Lib.hid hry
      clear hb hc3 hry
      go_wp2_with (go_at_call 44; refine HC3.out.mono ?_; rintro e w16 ⟨az, cz, rfl, _, _, hrz, hb⟩)
      have Bs16 := Lib.hid (Bs15.out.trans (hb.mono Bs15.out.size))
      have HW_16 := Lib.hid (HW_15.out.trans (hb.mono HW_15.out.size))
      have R_16 := Lib.hid (R_15.out.below hb R_15.out.lt)
      have C_16 := Lib.hid (C_15.out.below hb)
      have Q_16 := Lib.hid (Q_15.out.below hb)
      have HS3 := Lib.hid (same_any ay az M cy cz w16 (by omega) ((HRY.out.below hb).more hb.size) hrz)
      clear hb hrz
      go_wp2_with (go_at_call 34; refine HS3.out.mono ?_; rintro e w17 ⟨rfl, hb⟩)
      have Bs17 := Lib.hid (Bs16.out.trans (hb.mono Bs16.out.size))
      have HW_17 := Lib.hid (HW_16.out.trans (hb.mono HW_16.out.size))
      have R_17 := Lib.hid (R_16.out.below hb R_16.out.lt)
      have C_17 := Lib.hid (C_16.out.below hb)
      have Q_17 := Lib.hid (Q_16.out.below hb)
      have HLV := Lib.hid (lives_any w17 (HT.out.below Bs17.out HT.out.1))
      clear hb
      go_wp2_with (go_at_call 19; refine HLV.out.mono ?_; rintro e w18 ⟨rfl, hb⟩; have Bz := Lib.hid (Bs17.out.trans (hb.mono Bs17.out.size)); clear hb)
      go_ret
      exact ⟨rfl, Bz.out⟩
  | false =>
    have hhas := has_miss L K HO.out hit
    have hc1 := HC0.out
    rw [if_neg (by rw [hit]; simp)] at hc1
    clear HC0 hit
    cases hs : sl T K with
    | true =>
      refine hc1.mono ?_; rintro e w10 ⟨rfl, hb⟩
      clear hc1
      have Bs10 := Lib.hid (Bs9.out.trans (hb.mono Bs9.out.size))
      have HW_10 := Lib.hid (HW_9.out.trans (hb.mono HW_9.out.size))
      have R_10 := Lib.hid (R_9.out.below hb R_9.out.lt)
      have C_10 := Lib.hid (C_9.out.below hb)
      clear hb
      have tC3 : w10.cell? ⟨w8.heap.size, 3, none⟩ = some (.slice dC PC.sides.length eC) := (C_10.out.blk.cell 3).trans rfl
      have hs24 : (PC.sides.length : Int) ≤ 24 := by have := HFC.out.sides; omega
      have hc2 := has_any A1 L c1 K w10 (by omega) ((L1.out.below (show Below w1.heap.size w1 w10 from HW_10.out)).more HW_10.out.size).rd
      rw [hhas] at hc2
      have HC2 := Lib.hid hc2
      clear hc2
      go_wp2_with (go_at_call 43; refine HC2.out.mono ?_; rintro e wx ⟨rfl, hwx⟩; rw [hwx]; clear hwx wx)
      refine (own_any A1 L c1 w10 (by omega) ((L1.out.below (show Below w1.heap.size w1 w10 from HW_10.out)).more HW_10.out.size).rd).mono ?_; rintro e w11 ⟨Ac, cc, rfl, hcap, hnil, hrd, hb⟩
      have Oc := Lib.hid (show LsAt w11 w11.heap.size Ac L cc from ⟨hrd, hcap, hnil, HK.out⟩)
      have Bs11 := Lib.hid (Bs10.out.trans (hb.mono Bs10.out.size))
      have HW_11 := Lib.hid (HW_10.out.trans (hb.mono HW_10.out.size))
      have R_11 := Lib.hid (R_10.out.below hb R_10.out.lt)
      have C_11 := Lib.hid (C_10.out.below hb)
      clear hb hcap hnil hrd tC3
      go_wp2_with fail
      have hc0 := range_any Ac L cc K T w11 Oc.out (HT.out.below Bs11.out HT.out.1)
      rw [(law_range_bad L K T HV.out hs R noPf).2] at hc0
      obtain ⟨PQ, hPQ⟩ : ∃ P, P = (rangeR node lf top L K T).1 := ⟨_, rfl⟩
      rw [← hPQ] at hc0
      have HPQ := Lib.hid hPQ
      have HFQ := Lib.hid (show Few PQ by rw [hPQ]; exact few_range L K T hN HK.out HV.out)
      clear hPQ
      refine hc0.mono ?_; rintro e w12 ⟨v, rfl, hp, hb⟩
      clear hc0 Oc
      obtain ⟨aQ, cQ, dQ, eQ, rfl, atQ⟩ := pfAt_of hp HFQ.out.ok (by have := HFQ.out.sides; omega) HFQ.out.ints
      have AT := Lib.hid atQ
      clear hp atQ
      have Bs12 := Lib.hid (Bs11.out.trans (hb.mono Bs11.out.size))
      have HW_12 := Lib.hid (HW_11.out.trans (hb.mono HW_11.out.size))
      have R_12 := Lib.hid (R_11.out.below hb R_11.out.lt)
      have C_12 := Lib.hid (C_11.out.below hb)
      clear hb
      obtain ⟨w13, hw13⟩ : ∃ W, W = (w12.alloc (.cells ZP.toArray 50)).setRow w12.heap.size (PR PQ.first PQ.size (.slice aQ PQ.leaves.length cQ) (.slice dQ PQ.sides.length eQ)).toArray := ⟨_, rfl⟩
      have hb : Below w12.heap.size w12 w13 := by rw [hw13]; exact belowRow ((Below.refl _ _).alloc (Nat.le_refl _) _) (Nat.le_refl _) _
      have Bs13 := Lib.hid (Bs12.out.trans (hb.mono Bs12.out.size))
      have HW_13 := Lib.hid (HW_12.out.trans (hb.mono HW_12.out.size))
      have R_13 := Lib.hid (R_12.out.below hb R_12.out.lt)
      have C_13 := Lib.hid (C_12.out.below hb)
      have Q_13 := Lib.hid (show Bx w13 w12.heap.size PQ aQ dQ PQ.leaves.length PQ.sides.length cQ eQ from ⟨by rw [hw13]; exact (Blk.new w12 50 ZP).row _, (AT.out.r1.below hb).more hb.size, (AT.out.r2.below hb).more hb.size, AT.out.k1, AT.out.k2, AT.out.okl, AT.out.oks, AT.out.oki⟩)
      have HE := Lib.hid hw13
      clear hw13 hb AT
      go_wp2_with (first
        | (with_reducible refine wpList_store_row rfl 50 (.tmp 18) (.tmp 99) rfl w12.heap.size (PR PQ.first PQ.size (.slice aQ PQ.leaves.length cQ) (.slice dQ PQ.sides.length eQ)).toArray rfl rfl 50 _ (heap_alloc_new w12 _) (size50A _ _ _ _) (ZP_PR _ _ _ _) (PR_one _ _ _ _ _ _ _ _) ?_; rw [← HE.out])
        | (refine wpList_load_at rfl 29 (.tmp 8) rfl ⟨w3.heap.size, 0, none⟩ rfl (B8 R) (.array 16 5) R_13.out.at Tryd.underlying29 rfl (size29 _ HRl.out) ?_)
        | (refine wpList_load_at rfl 50 (.tmp 18) rfl ⟨w12.heap.size, 0, none⟩ rfl (PR PQ.first PQ.size (.slice aQ PQ.leaves.length cQ) (.slice dQ PQ.sides.length eQ)) _ Q_13.out.blk.at Tryd.underlying50 rfl (size50L _ _ _ _) ?_))
      clear HE
      have hc0 := checkRange_any R K T PQ _ _ _ _ w13 HRl.out Q_13.out.at_ (HT.out.below Bs13.out HT.out.1)
      rw [(law_range_bad L K T HV.out hs R PQ).1] at hc0
      refine hc0.mono ?_; rintro e w14 ⟨ax, nx, cx, rfl, hlv, hb⟩
      clear hc0
      have Bs14 := Lib.hid (Bs13.out.trans (hb.mono Bs13.out.size))
      have HW_14 := Lib.hid (HW_13.out.trans (hb.mono HW_13.out.size))
      have R_14 := Lib.hid (R_13.out.below hb R_13.out.lt)
      have C_14 := Lib.hid (C_13.out.below hb)
      have Q_14 := Lib.hid (Q_13.out.below hb)
      clear hb
      have i1 : Op.bytesLess T.toList K.toList = true := by rw [lss_str]; exact hs
      have HLV := Lib.hid (lives_any w14 (HT.out.below Bs14.out HT.out.1))
      clear hlv
      go_wp2_with (go_at_call 19; refine HLV.out.mono ?_; rintro e w15 ⟨rfl, hb⟩; have Bz := Lib.hid (Bs14.out.trans (hb.mono Bs14.out.size)); clear hb)
      go_ret
      exact ⟨rfl, Bz.out⟩
    | false =>
      refine hc1.mono ?_; rintro e w10 ⟨rfl, hb⟩
      clear hc1
      have Bs10 := Lib.hid (Bs9.out.trans (hb.mono Bs9.out.size))
      have HW_10 := Lib.hid (HW_9.out.trans (hb.mono HW_9.out.size))
      have R_10 := Lib.hid (R_9.out.below hb R_9.out.lt)
      have C_10 := Lib.hid (C_9.out.below hb)
      clear hb
      have tC3 : w10.cell? ⟨w8.heap.size, 3, none⟩ = some (.slice dC PC.sides.length eC) := (C_10.out.blk.cell 3).trans rfl
      have hs24 : (PC.sides.length : Int) ≤ 24 := by have := HFC.out.sides; omega
      have hc2 := has_any A1 L c1 K w10 (by omega) ((L1.out.below (show Below w1.heap.size w1 w10 from HW_10.out)).more HW_10.out.size).rd
      rw [hhas] at hc2
      have HC2 := Lib.hid hc2
      clear hc2
      go_wp2_with (go_at_call 43; refine HC2.out.mono ?_; rintro e wx ⟨rfl, hwx⟩; rw [hwx]; clear hwx wx)
      refine (own_any A1 L c1 w10 (by omega) ((L1.out.below (show Below w1.heap.size w1 w10 from HW_10.out)).more HW_10.out.size).rd).mono ?_; rintro e w11 ⟨Ac, cc, rfl, hcap, hnil, hrd, hb⟩
      have Oc := Lib.hid (show LsAt w11 w11.heap.size Ac L cc from ⟨hrd, hcap, hnil, HK.out⟩)
      have Bs11 := Lib.hid (Bs10.out.trans (hb.mono Bs10.out.size))
      have HW_11 := Lib.hid (HW_10.out.trans (hb.mono HW_10.out.size))
      have R_11 := Lib.hid (R_10.out.below hb R_10.out.lt)
      have C_11 := Lib.hid (C_10.out.below hb)
      clear hb hcap hnil hrd tC3
      go_wp2_with fail
      have hc0 := range_any Ac L cc K T w11 Oc.out (HT.out.below Bs11.out HT.out.1)
      rw [(law_range L K T HV.out hs R HR.out).2] at hc0
      obtain ⟨PQ, hPQ⟩ : ∃ P, P = (rangeR node lf top L K T).1 := ⟨_, rfl⟩
      rw [← hPQ] at hc0
      have HPQ := Lib.hid hPQ
      have HFQ := Lib.hid (show Few PQ by rw [hPQ]; exact few_range L K T hN HK.out HV.out)
      clear hPQ
      refine hc0.mono ?_; rintro e w12 ⟨v, rfl, hp, hb⟩
      clear hc0 Oc
      obtain ⟨aQ, cQ, dQ, eQ, rfl, atQ⟩ := pfAt_of hp HFQ.out.ok (by have := HFQ.out.sides; omega) HFQ.out.ints
      have AT := Lib.hid atQ
      clear hp atQ
      have Bs12 := Lib.hid (Bs11.out.trans (hb.mono Bs11.out.size))
      have HW_12 := Lib.hid (HW_11.out.trans (hb.mono HW_11.out.size))
      have R_12 := Lib.hid (R_11.out.below hb R_11.out.lt)
      have C_12 := Lib.hid (C_11.out.below hb)
      clear hb
      obtain ⟨w13, hw13⟩ : ∃ W, W = (w12.alloc (.cells ZP.toArray 50)).setRow w12.heap.size (PR PQ.first PQ.size (.slice aQ PQ.leaves.length cQ) (.slice dQ PQ.sides.length eQ)).toArray := ⟨_, rfl⟩
      have hb : Below w12.heap.size w12 w13 := by rw [hw13]; exact belowRow ((Below.refl _ _).alloc (Nat.le_refl _) _) (Nat.le_refl _) _
      have Bs13 := Lib.hid (Bs12.out.trans (hb.mono Bs12.out.size))
      have HW_13 := Lib.hid (HW_12.out.trans (hb.mono HW_12.out.size))
      have R_13 := Lib.hid (R_12.out.below hb R_12.out.lt)
      have C_13 := Lib.hid (C_12.out.below hb)
      have Q_13 := Lib.hid (show Bx w13 w12.heap.size PQ aQ dQ PQ.leaves.length PQ.sides.length cQ eQ from ⟨by rw [hw13]; exact (Blk.new w12 50 ZP).row _, (AT.out.r1.below hb).more hb.size, (AT.out.r2.below hb).more hb.size, AT.out.k1, AT.out.k2, AT.out.okl, AT.out.oks, AT.out.oki⟩)
      have HE := Lib.hid hw13
      clear hw13 hb AT
      go_wp2_with (first
        | (with_reducible refine wpList_store_row rfl 50 (.tmp 18) (.tmp 99) rfl w12.heap.size (PR PQ.first PQ.size (.slice aQ PQ.leaves.length cQ) (.slice dQ PQ.sides.length eQ)).toArray rfl rfl 50 _ (heap_alloc_new w12 _) (size50A _ _ _ _) (ZP_PR _ _ _ _) (PR_one _ _ _ _ _ _ _ _) ?_; rw [← HE.out])
        | (refine wpList_load_at rfl 29 (.tmp 8) rfl ⟨w3.heap.size, 0, none⟩ rfl (B8 R) (.array 16 5) R_13.out.at Tryd.underlying29 rfl (size29 _ HRl.out) ?_)
        | (refine wpList_load_at rfl 50 (.tmp 18) rfl ⟨w12.heap.size, 0, none⟩ rfl (PR PQ.first PQ.size (.slice aQ PQ.leaves.length cQ) (.slice dQ PQ.sides.length eQ)) _ Q_13.out.blk.at Tryd.underlying50 rfl (size50L _ _ _ _) ?_))
      clear HE
      have hc0 := checkRange_any R K T PQ _ _ _ _ w13 HRl.out Q_13.out.at_ (HT.out.below Bs13.out HT.out.1)
      have hce := (law_range L K T HV.out hs R HR.out).1
      rw [← HPQ.out] at hce
      rw [hce] at hc0
      clear hce
      refine hc0.mono ?_; rintro e w14 ⟨ax, nx, cx, rfl, hlv, hb⟩
      clear hc0
      have Bs14 := Lib.hid (Bs13.out.trans (hb.mono Bs13.out.size))
      have HW_14 := Lib.hid (HW_13.out.trans (hb.mono HW_13.out.size))
      have R_14 := Lib.hid (R_13.out.below hb R_13.out.lt)
      have C_14 := Lib.hid (C_13.out.below hb)
      have Q_14 := Lib.hid (Q_13.out.below hb)
      clear hb
      have i1 : Op.bytesLess T.toList K.toList = false := by rw [lss_str]; exact hs
      obtain ⟨hnx, hrd, hcp, hnl, _⟩ := hlv
      obtain ⟨M, hM⟩ : ∃ M, M = insideR L K T := ⟨_, rfl⟩
      have hML : M.length ≤ 11 := by rw [hM]; exact Nat.le_trans (List.length_filter_le _ _) hN
      change nx = (insideR L K T).length at hnx
      change Rd w14 w14.heap.size ax (LC (insideR L K T)) at hrd
      rw [← hM] at hnx hrd
      subst hnx
      have HM := Lib.hid hM
      have HP1 := Lib.hid (plain_any ax M cx w14 (by omega) hrd)
      clear hrd hM hs
      go_wp2_with (go_at_call 18; refine HP1.out.mono ?_; rintro e w15 ⟨ay, cy, rfl, _, _, hry, hb⟩)
      have Bs15 := Lib.hid (Bs14.out.trans (hb.mono Bs14.out.size))
      have HW_15 := Lib.hid (HW_14.out.trans (hb.mono HW_14.out.size))
      have R_15 := Lib.hid (R_14.out.below hb R_14.out.lt)
      have C_15 := Lib.hid (C_14.out.below hb)
      have Q_15 := Lib.hid (Q_14.out.below hb)
      have hc3 := inside_any A1 L c1 K T w15 (by omega) ((L1.out.below (show Below w1.heap.size w1 w15 from HW_15.out)).more HW_15.out.size).rd
      rw [← HM.out] at hc3
      have HC3 := Lib.hid hc3
      have HRY := Lib.hid hry
      clear hb hc3 hry
      go_wp2_with (go_at_call 44; refine HC3.out.mono ?_; rintro e w16 ⟨az, cz, rfl, _, _, hrz, hb⟩)
      have Bs16 := Lib.hid (Bs15.out.trans (hb.mono Bs15.out.size))
      have HW_16 := Lib.hid (HW_15.out.trans (hb.mono HW_15.out.size))
      have R_16 := Lib.hid (R_15.out.below hb R_15.out.lt)
      have C_16 := Lib.hid (C_15.out.below hb)
      have Q_16 := Lib.hid (Q_15.out.below hb)
      have HS3 := Lib.hid (same_any ay az M cy cz w16 (by omega) ((HRY.out.below hb).more hb.size) hrz)
      clear hb hrz
      go_wp2_with (go_at_call 34; refine HS3.out.mono ?_; rintro e w17 ⟨rfl, hb⟩)
      have Bs17 := Lib.hid (Bs16.out.trans (hb.mono Bs16.out.size))
      have HW_17 := Lib.hid (HW_16.out.trans (hb.mono HW_16.out.size))
      have R_17 := Lib.hid (R_16.out.below hb R_16.out.lt)
      have C_17 := Lib.hid (C_16.out.below hb)
      have Q_17 := Lib.hid (Q_16.out.below hb)
      have HLV := Lib.hid (lives_any w17 (HT.out.below Bs17.out HT.out.1))
      clear hb
      go_wp2_with (go_at_call 19; refine HLV.out.mono ?_; rintro e w18 ⟨rfl, hb⟩; have Bz := Lib.hid (Bs17.out.trans (hb.mono Bs17.out.size)); clear hb)
      go_ret
      exact ⟨rfl, Bz.out⟩
end Go.Proofs.YtofccgkgjcnfbaaDoor
