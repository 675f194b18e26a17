/-
  The contracts of merkle's Range, Check and CheckRange.
  Conditions: at most 2^30 leaves and sides, keys and values of at most 2^30 bytes; the table of the round constants is as the text lays it.
-/
import Derived.Test.YtofccgkgjcnfbaaDoorApi2
namespace Go.Proofs.YtofccgkgjcnfbaaDoor
open Go.RowKit Wr Sh
set_option linter.unusedVariables false
set_option maxRecDepth 100000

/-- '<' on strings, as the walk spells it. -/
theorem lss_str (x y : ByteArray) : Op.bytesLess x.toList y.toList = sl x y := by
  rw [Go.Proofs.bytesLess_eq, Lib.toList_data, Lib.toList_data]; rfl
set_option maxHeartbeats 4000000 in
theorem range_any (A : Option Addr) (L : List Lf) (c : Nat) (k t : ByteArray) (w : World) (h : LsAt w w.heap.size A L c) (ht : Tab 1 w) :
    Calls Tryd.prog 24 #[.slice A L.length c, .string k, .string t] w fun e w' => ∃ v, e = .returned (.tuple #[v, .int .i64 (rangeR node lf top L k t).2]) ∧ ProofV w.heap.size w' (rangeR node lf top L k t).1 v ∧ Below w.heap.size w w' := by
  have hZ := hZP
  obtain ⟨W1, hW1⟩ : ∃ W, W = w.alloc (.cells ZP.toArray 50) := ⟨_, rfl⟩
  have K1 := Lib.hid (Kz.first hW1)
  have HW := Lib.hid hW1
  have H := Lib.hid h
  have HT := Lib.hid ht
  have hln := h.ok.1
  have ZS := Lib.hid (show (Tryd.prog.info? 50).map (·.size) = some ZP.toArray.size from size50A _ _ _ _)
  obtain ⟨V, hV⟩ : ∃ V, V = validE L := ⟨_, rfl⟩
  have HV := Lib.hid (valid_any A L c W1 h.ok ((h.below K1.out.b).more K1.out.b.size).rd)
  rw [← hV] at HV
  have HVE := Lib.hid hV
  clear h ht hW1 hV
  by_cases hv : V = 0
  · subst hv
    cases hs : sl t k with
    | true =>
      have HR := Lib.hid (show rangeR node lf top L k t = (noPf, 5) by unfold rangeR; rw [if_pos HVE.out.symm, if_pos hs])
      have i1 : Op.bytesLess t.toList k.toList = true := by rw [lss_str]; exact hs
      clear hs
      go_enter Tryd.func24, Tryd.ntmps24
      go_upto_region 4 with (go_at_call 15; rw [← HW.out]; refine HV.out.mono ?_; rintro e w2 ⟨rfl, hb2⟩; have HB2 := Lib.hid hb2; clear hb2)
      have K2 := Lib.hid (K1.out.below HB2.out)
      have Z5 := Lib.hid (show w2.heap[w.heap.size]? = some (.cells ZP.toArray 50 (0, 0)) from K2.out.z)
      go_wp2_with (with_reducible refine wpList_store_row rfl 50 (.tmp 6) (.tmp 18) rfl w.heap.size ZP.toArray rfl rfl 50 _ Z5.out ZS.out rfl ZP_one ?_)
      refine bodyPost_ret (v := .tuple #[.agg ZP.toArray, .int .i64 5]) ?_ rfl ⟨_, by rw [HR.out], by rw [HR.out]; exact noPf_V _ _, belowRow K2.out.b (Nat.le_refl _) _⟩
      have hr := run_loadVar_row (P := Tryd.prog) _ w.heap.size 50 50 ZP.toArray (0, 0) _ (heap_setRow w2 w.heap.size ZP.toArray _ 50 Z5.out) Tryd.underlying50 rfl ZS.out
      simp [results, Tryd.results24, asAddr, hr]
    | false =>
      obtain ⟨v1, v2, v3⟩ := valid_ok HVE.out.symm
      obtain ⟨n, hn⟩ : ∃ n, n = cb L k := ⟨_, rfl⟩
      obtain ⟨q, hq⟩ : ∃ q, q = cb L t := ⟨_, rfl⟩
      have hnl : n ≤ L.length := by rw [hn]; exact cb_le L k
      have hql : q ≤ L.length := by rw [hq]; exact cb_le L t
      have hnq : n ≤ q := by rw [hn, hq]; exact cb_mono hs
      have HC : Hid (∀ W, Below w.heap.size w W → Calls Tryd.prog 54 #[.slice A L.length c, .string k] W fun e w' => e = .returned (.int .i64 (n : Int)) ∧ Below W.heap.size W w') := Lib.hid (fun W hb => by
        rw [hn]; exact count_any A L c k W hln v3 ((H.out.below hb).more hb.size).rd)
      have HD : Hid (∀ W, Below w.heap.size w W → Calls Tryd.prog 54 #[.slice A L.length c, .string t] W fun e w' => e = .returned (.int .i64 (q : Int)) ∧ Below W.heap.size W w') := Lib.hid (fun W hb => by
        rw [hq]; exact count_any A L c t W hln v3 ((H.out.below hb).more hb.size).rd)
      obtain ⟨lo, hlo⟩ : ∃ lo, lo = n - 1 := ⟨_, rfl⟩
      obtain ⟨hi, hhi⟩ : ∃ hi, hi = min (q + 1) L.length := ⟨_, rfl⟩
      obtain ⟨m, hm⟩ : ∃ m, m = hi - lo := ⟨_, rfl⟩
      have HR := Lib.hid (show rangeR node lf top L k t = (shown node lf top L lo hi, 0) by
        unfold rangeR; rw [if_pos HVE.out.symm, if_neg (by rw [hs]; simp), ← hn, ← hq, hlo, hhi])
      have HP : Hid (∀ W, Below w.heap.size w W → Calls Tryd.prog 55 #[.slice A L.length c, .int .i64 ((n : Int) - 1), .int .i64 ((q : Int) + 1)] W fun en w' => ∃ A1 c1 A2 k2 c2, en = .returned (.agg (PR (lo : Int) (L.length : Int) (.slice A1 m c1) (.slice A2 k2 c2)).toArray) ∧ ProofV W.heap.size w' (shown node lf top L lo hi) (.agg (PR (lo : Int) (L.length : Int) (.slice A1 m c1) (.slice A2 k2 c2)).toArray) ∧ Below W.heap.size W w') := Lib.hid (fun W hb => proof_any A L c _ _ lo hi m W H.out.ok H.out.cap H.out.nil (by omega) (by omega) (by omega) hm.symm ((H.out.below hb).more hb.size).rd (HT.out.below hb HT.out.1) ⟨by omega, by omega⟩ ⟨by omega, by omega⟩)
      have i1 : Op.bytesLess t.toList k.toList = false := by rw [lss_str]; exact hs
      clear hs hlo hhi hm hn hq hnq v2 v3
      go_enter Tryd.func24, Tryd.ntmps24
      go_upto_region 4 with (go_at_call 15; rw [← HW.out]; refine HV.out.mono ?_; rintro e w2 ⟨rfl, hb2⟩; have HB2 := Lib.hid hb2; clear hb2)
      have K2 := Lib.hid (K1.out.below HB2.out)
      go_wp2_with fail
      refine (HC.out _ K2.out.b).mono ?_; rintro e w3 ⟨rfl, hb3⟩
      have K3 := Lib.hid (K2.out.below hb3)
      clear hb3
      go_wp2_with fail
      refine (HD.out _ K3.out.b).mono ?_; rintro e w3b ⟨rfl, hb3⟩
      have K3b := Lib.hid (K3.out.below hb3)
      clear hb3
      go_wp2_with fail
      refine (HP.out _ K3b.out.b).mono ?_; rintro e w4 ⟨A1, c1, A2, k2, c2, rfl, hp4, hb4⟩
      have K4 := Lib.hid (K3b.out.below hb4)
      have HP4 := Lib.hid hp4
      have Z4 := Lib.hid (show w4.heap[w.heap.size]? = some (.cells ZP.toArray 50 (0, 0)) from K4.out.z)
      have L3 := Lib.hid K3b.out.z.lt
      clear hp4 hb4
      go_wp2_with (with_reducible refine wpList_store_row rfl 50 (.tmp 6) (.tmp 28) rfl w.heap.size _ rfl rfl 50 _ Z4.out (size50A _ _ _ _) (ZP_PR _ _ _ _) (PR_one _ _ _ _ _ _ _ _) ?_)
      refine bodyPost_ret (v := .tuple #[.agg (PR (lo : Int) (L.length : Int) (.slice A1 m c1) (.slice A2 k2 c2)).toArray, .int .i64 0]) ?_ rfl ⟨_, by rw [HR.out], ?_, belowRow K4.out.b (Nat.le_refl _) _⟩
      · have hr := run_loadVar_row (P := Tryd.prog) _ w.heap.size 50 50 (PR (lo : Int) (L.length : Int) (.slice A1 m c1) (.slice A2 k2 c2)).toArray (0, 0) _ (heap_setRow w4 w.heap.size (PR (lo : Int) (L.length : Int) (.slice A1 m c1) (.slice A2 k2 c2)).toArray _ 50 Z4.out) Tryd.underlying50 rfl (size50A _ _ _ _)
        simp [results, Tryd.results24, asAddr, hr]
      · rw [HR.out]
        exact (HP4.out.keep (by simp) (fun k hk hb => heap_setRow_other _ _ _ _ (by have := L3.out; omega))).mono (by have := L3.out; omega)
  · have c61 : (V == 0) = false := by rw [beq_eq_false_iff_ne]; exact hv
    have HR := Lib.hid (show rangeR node lf top L k t = (noPf, V) by unfold rangeR; rw [if_neg (by rw [← HVE.out]; exact hv), HVE.out])
    clear hv
    go_enter Tryd.func24, Tryd.ntmps24
    go_upto_region 3 with (go_at_call 15; rw [← HW.out]; refine HV.out.mono ?_; rintro e w2 ⟨rfl, hb2⟩; have HB2 := Lib.hid hb2; clear hb2)
    have K2 := Lib.hid (K1.out.below HB2.out)
    have Z5 := Lib.hid (show w2.heap[w.heap.size]? = some (.cells ZP.toArray 50 (0, 0)) from K2.out.z)
    go_wp2_with (with_reducible refine wpList_store_row rfl 50 (.tmp 6) (.tmp 13) rfl w.heap.size ZP.toArray rfl rfl 50 _ Z5.out ZS.out rfl ZP_one ?_)
    refine bodyPost_ret (v := .tuple #[.agg ZP.toArray, .int .i64 V]) ?_ rfl ⟨_, by rw [HR.out], by rw [HR.out]; exact noPf_V _ _, belowRow K2.out.b (Nat.le_refl _) _⟩
    have hr := run_loadVar_row (P := Tryd.prog) _ w.heap.size 50 50 ZP.toArray (0, 0) _ (heap_setRow w2 w.heap.size ZP.toArray _ 50 Z5.out) Tryd.underlying50 rfl ZS.out
    simp [results, Tryd.results24, asAddr, hr]
set_option maxHeartbeats 8000000 in
theorem check_any (root : List UInt8) (key : ByteArray) (p : Pf) (A1 A2 : Option Addr) (c1 c2 : Nat) (w : World) (hroot : root.length = 16) (hp : PfAt w w.heap.size p A1 A2 c1 c2) (ht : Tab 1 w) :
    Calls Tryd.prog 29 #[.agg (B8 root).toArray, .string key, .agg #[.int .i64 p.first, .int .i64 p.size, .slice A1 p.leaves.length c1, .slice A2 p.sides.length c2]] w fun e w' =>
      e = .returned (.tuple #[.string (checkR node lf top root key p).1, .bool (checkR node lf top root key p).2.1, .int .i64 (checkR node lf top root key p).2.2]) ∧ Below w.heap.size w w' := by
  obtain ⟨r, hr⟩ : ∃ r, r = checkR node lf top root key p := ⟨_, rfl⟩
  rw [← hr]
  have HR := Lib.hid hr
  clear hr
  obtain ⟨W1, hW1⟩ : ∃ W, W = (w.alloc (.cells (B8 root).toArray 29)).alloc (.cells #[.int .i64 p.first, .int .i64 p.size, .slice A1 p.leaves.length c1, .slice A2 p.sides.length c2] 50) := ⟨_, rfl⟩
  have hb1 : Below w.heap.size w W1 := by rw [hW1]; exact ((Below.refl w.heap.size w).alloc (Nat.le_refl _) _).alloc (by simp) _
  have HB1 := Lib.hid hb1
  have P1 := Lib.hid (show Blk W1 (w.heap.size + 1) 50 (PR p.first p.size (.slice A1 p.leaves.length c1) (.slice A2 p.sides.length c2)) by rw [hW1]; exact Blk.newAt _ _ 50 (PR p.first p.size (.slice A1 p.leaves.length c1) (.slice A2 p.sides.length c2)) (by simp))
  have R1 := Lib.hid (show Blk W1 w.heap.size 29 (B8 root) by rw [hW1]; exact (Blk.new w 29 (B8 root)).alloc _)
  have HRl := Lib.hid hroot
  have hp1 : PfAt W1 W1.heap.size p A1 A2 c1 c2 := ⟨(hp.r1.below hb1).more hb1.size, (hp.r2.below hb1).more hb1.size, hp.k1, hp.k2, hp.okl, hp.oks, hp.oki⟩
  have HU := Lib.hid (under_any root p A1 A2 c1 c2 W1 hroot hp1 (ht.below hb1 ht.1))
  have HW := Lib.hid hW1
  have L1 := Lib.hid P1.out.at
  have L0 := Lib.hid R1.out.at
  have HP := Lib.hid hp
  have HT := Lib.hid ht
  obtain ⟨f, sz, L, S⟩ := p
  dsimp only at *
  have hln := hp.okl.1
  cases hu : underB node lf top root ⟨f, sz, L, S⟩ with
  | false =>
    have HE := Lib.hid (show r = (ByteArray.empty, false, 17) by rw [HR.out]; unfold checkR; rw [if_neg (by rw [hu]; simp)])
    rw [hu] at HU
    clear hu hp hp1 hb1 hW1 ht hroot
    go_enter Tryd.func29, Tryd.ntmps29
    go_upto_region 1 with fail
    rw [← HW.out]
    go_wp2_with (first
      | (refine wpList_load_at rfl 29 (.tmp 3) rfl ⟨w.heap.size, 0, none⟩ rfl (B8 root) (.array 16 5) L0.out Tryd.underlying29 rfl (size29 _ HRl.out) ?_)
      | (refine wpList_load_at rfl 50 (.tmp 5) rfl ⟨w.heap.size + 1, 0, none⟩ rfl (PR f sz (.slice A1 L.length c1) (.slice A2 S.length c2)) _ L1.out Tryd.underlying50 rfl (size50L _ _ _ _) ?_)
      | (go_at_call 59; refine HU.out.mono ?_; rintro e w2 ⟨rfl, hb2⟩; have HB2 := Lib.hid hb2; clear hb2))
    go_ret3
    exact ⟨by rw [HE.out]; rfl, HB1.out.trans (HB2.out.mono HB1.out.size)⟩
  | true =>
    have hform : formP ⟨f, sz, L, S⟩ = true := by unfold underB at hu; exact (Bool.and_eq_true_iff.1 hu).1
    have hf0 : 0 ≤ f ∧ f ≤ 4096 ∧ ord L := by
      unfold formP at hform
      simp only [Bool.and_eq_true, decide_eq_true_eq] at hform
      obtain ⟨⟨⟨h1, h2, h3, h4⟩, _⟩, h5⟩ := hform
      exact ⟨h3, by omega, (valid_ok h5).2.2⟩
    obtain ⟨f0, f1, ho⟩ := hf0
    obtain ⟨n, hn⟩ : ∃ n, n = cb L key := ⟨_, rfl⟩
    have hnl : n ≤ L.length := by rw [hn]; exact cb_le L key
    have HC : Hid (∀ W, Below w.heap.size w W → Calls Tryd.prog 54 #[.slice A1 L.length c1, .string key] W fun e w' => e = .returned (.int .i64 (n : Int)) ∧ Below W.heap.size W w') := Lib.hid (fun W hb => by
      rw [hn]; exact count_any A1 L c1 key W hln ho ((HP.out.r1.below hb).more hb.size))
    have HBD : Hid (∀ W, Calls Tryd.prog 60 #[.agg (PR f sz (.slice A1 L.length c1) (.slice A2 S.length c2)).toArray, .int .i64 (n : Int), .int .i64 (n : Int)] W fun en w' => en = .returned (.bool (bndB f sz L.length n n)) ∧ Below W.heap.size W w') := Lib.hid (fun W => bounded_any f sz A1 A2 L.length c1 S.length c2 n n W f0 (by omega) hln)
    rw [hu] at HU
    by_cases hit : hitB L key = true
    · obtain ⟨h1, h2⟩ : n < L.length ∧ (L.getD n (ByteArray.empty, ByteArray.empty)).1 = key := by
        unfold hitB at hit; rw [← hn] at hit; simpa using hit
      obtain ⟨v, hv⟩ : ∃ v, v = (L.getD n (ByteArray.empty, ByteArray.empty)).2 := ⟨_, rfl⟩
      have HE := Lib.hid (show r = (v, true, 0) by rw [HR.out]; unfold checkR; rw [if_pos hu, if_pos hit, ← hn, hv])
      rw [List.getD_eq_getElem?_getD, List.getElem?_eq_getElem h1] at h2 hv
      have h2' : L[n].1 = key := h2
      have hv' : v = L[n].2 := hv
      obtain ⟨g, o, rfl, hg, hc⟩ := leaf_cells HP.out.r1 n h1
      obtain ⟨d1, d2⟩ := hc n h1
      rw [h2'] at d1
      rw [← hv'] at d2
      have CC := Lib.hid (And.intro d1 d2)
      have HG := Lib.hid hg
      have i1 : (n : Int) < (L.length : Int) := by omega
      clear hu hit h2 h2' hv hv' hc d1 d2 hg hn ho hform hp hp1 hb1 hW1 ht hroot
      go_enter Tryd.func29, Tryd.ntmps29
      go_upto_region 1 with fail
      rw [← HW.out]
      go_upto_region 3 with (first
        | (refine wpList_load_at rfl 29 (.tmp 3) rfl ⟨w.heap.size, 0, none⟩ rfl (B8 root) (.array 16 5) L0.out Tryd.underlying29 rfl (size29 _ HRl.out) ?_)
        | (refine wpList_load_at rfl 50 (.tmp 5) rfl ⟨w.heap.size + 1, 0, none⟩ rfl (PR f sz (.slice (some ⟨g, o, none⟩) L.length c1) (.slice A2 S.length c2)) _ L1.out Tryd.underlying50 rfl (size50L _ _ _ _) ?_)
        | (go_at_call 59; refine HU.out.mono ?_; rintro e w2 ⟨rfl, hb2⟩; have HB2 := Lib.hid hb2; clear hb2))
      have P2 := Lib.hid (P1.out.below HB2.out P1.out.lt)
      have B2 := Lib.hid (HB1.out.trans (HB2.out.mono HB1.out.size))
      have q2 : w2.cell? ⟨w.heap.size + 1, 2, none⟩ = some (.slice (some ⟨g, o, none⟩) L.length c1) := (P2.out.cell 2).trans rfl
      go_upto_region 4 with (go_at_call 54; refine (HC.out _ B2.out).mono ?_; rintro e w3 ⟨rfl, hb3⟩; have HB3 := Lib.hid hb3; clear hb3)
      have B3 := Lib.hid (B2.out.trans (HB3.out.mono B2.out.size))
      have P3 := Lib.hid (P2.out.below HB3.out P2.out.lt)
      have q3 : w3.cell? ⟨w.heap.size + 1, 2, none⟩ = some (.slice (some ⟨g, o, none⟩) L.length c1) := (P3.out.cell 2).trans rfl
      have q4 : w3.cell? ⟨g, o + n * 2, none⟩ = some (.string key) := (B3.out.cell (p := ⟨g, o + n * 2, none⟩) HG.out).trans CC.out.1
      have q5 : w3.cell? ⟨g, o + n * 2 + 1, none⟩ = some (.string v) := (B3.out.cell (p := ⟨g, o + n * 2 + 1, none⟩) HG.out).trans CC.out.2
      clear q2 HU HC HBD
      go_wp2_with fail
      go_ret3
      exact ⟨by rw [HE.out]; rfl, B3.out⟩
    · have hcs : ¬ n < L.length ∨ ∃ (h : n < L.length), L[n].1 ≠ key := by
        rcases Nat.lt_or_ge n L.length with h | h
        · right; refine ⟨h, fun e => hit ?_⟩
          unfold hitB; rw [← hn]
          rw [List.getD_eq_getElem?_getD, List.getElem?_eq_getElem h]
          simp [h, e]
        · left; omega
      obtain ⟨b, hb⟩ : ∃ b, b = bndB f sz L.length n n := ⟨_, rfl⟩
      rw [← hb] at HBD
      have HE := Lib.hid (show r = (ByteArray.empty, false, if b = true then 0 else 17) by
        rw [HR.out]; unfold checkR; rw [if_pos hu, if_neg hit, ← hn, hb]
        show (if bndB f sz L.length n n = true then _ else _) = _
        split <;> rfl)
      clear hu hit hn ho hform hp hp1 hb1 hW1 ht hroot hb
      have fin : ∀ b : Bool, True := fun _ => trivial
      rcases hcs with hcs | ⟨h1, hne⟩
      · have i1 : ¬ (n : Int) < (L.length : Int) := by omega
        go_enter Tryd.func29, Tryd.ntmps29
        go_upto_region 1 with fail
        rw [← HW.out]
        go_upto_region 3 with (first
          | (refine wpList_load_at rfl 29 (.tmp 3) rfl ⟨w.heap.size, 0, none⟩ rfl (B8 root) (.array 16 5) L0.out Tryd.underlying29 rfl (size29 _ HRl.out) ?_)
          | (refine wpList_load_at rfl 50 (.tmp 5) rfl ⟨w.heap.size + 1, 0, none⟩ rfl (PR f sz (.slice A1 L.length c1) (.slice A2 S.length c2)) _ L1.out Tryd.underlying50 rfl (size50L _ _ _ _) ?_)
          | (go_at_call 59; refine HU.out.mono ?_; rintro e w2 ⟨rfl, hb2⟩; have HB2 := Lib.hid hb2; clear hb2))
        have P2 := Lib.hid (P1.out.below HB2.out P1.out.lt)
        have B2 := Lib.hid (HB1.out.trans (HB2.out.mono HB1.out.size))
        have q2 : w2.cell? ⟨w.heap.size + 1, 2, none⟩ = some (.slice A1 L.length c1) := (P2.out.cell 2).trans rfl
        go_upto_region 4 with (go_at_call 54; refine (HC.out _ B2.out).mono ?_; rintro e w3 ⟨rfl, hb3⟩; have HB3 := Lib.hid hb3; clear hb3)
        have B3 := Lib.hid (B2.out.trans (HB3.out.mono B2.out.size))
        have P3 := Lib.hid (P2.out.below HB3.out P2.out.lt)
        have q3 : w3.cell? ⟨w.heap.size + 1, 2, none⟩ = some (.slice A1 L.length c1) := (P3.out.cell 2).trans rfl
        have L3 := Lib.hid P3.out.at
        clear q2 HU HC
        go_upto_region 6 with fail
        clear q3
        cases b with
        | true =>
          go_wp2_with (first
            | (refine wpList_load_at rfl 50 (.tmp 5) rfl ⟨w.heap.size + 1, 0, none⟩ rfl (PR f sz (.slice A1 L.length c1) (.slice A2 S.length c2)) _ L3.out Tryd.underlying50 rfl (size50L _ _ _ _) ?_)
            | (go_at_call 60; refine (HBD.out _).mono ?_; rintro e w4 ⟨rfl, hb4⟩; have HB4 := Lib.hid hb4; clear hb4))
          go_ret3
          exact ⟨by rw [HE.out]; rfl, B3.out.trans (HB4.out.mono B3.out.size)⟩
        | false =>
          go_wp2_with (first
            | (refine wpList_load_at rfl 50 (.tmp 5) rfl ⟨w.heap.size + 1, 0, none⟩ rfl (PR f sz (.slice A1 L.length c1) (.slice A2 S.length c2)) _ L3.out Tryd.underlying50 rfl (size50L _ _ _ _) ?_)
            | (go_at_call 60; refine (HBD.out _).mono ?_; rintro e w4 ⟨rfl, hb4⟩; have HB4 := Lib.hid hb4; clear hb4))
          go_ret3
          exact ⟨by rw [HE.out]; rfl, B3.out.trans (HB4.out.mono B3.out.size)⟩
      · obtain ⟨g, o, rfl, hg, hc⟩ := leaf_cells HP.out.r1 n h1
        have d1 := (hc n h1).1
        obtain ⟨x, hx⟩ : ∃ x, x = L[n].1 := ⟨_, rfl⟩
        rw [← hx] at d1 hne
        have i2 : (x.toList == key.toList) = false := by rw [beq_eq_false_iff_ne]; exact fun e => hne (str_ext e)
        have CC := Lib.hid d1
        have HG := Lib.hid hg
        have i1 : (n : Int) < (L.length : Int) := by omega
        clear hx hne hc d1 hg
        go_enter Tryd.func29, Tryd.ntmps29
        go_upto_region 1 with fail
        rw [← HW.out]
        go_upto_region 3 with (first
          | (refine wpList_load_at rfl 29 (.tmp 3) rfl ⟨w.heap.size, 0, none⟩ rfl (B8 root) (.array 16 5) L0.out Tryd.underlying29 rfl (size29 _ HRl.out) ?_)
          | (refine wpList_load_at rfl 50 (.tmp 5) rfl ⟨w.heap.size + 1, 0, none⟩ rfl (PR f sz (.slice (some ⟨g, o, none⟩) L.length c1) (.slice A2 S.length c2)) _ L1.out Tryd.underlying50 rfl (size50L _ _ _ _) ?_)
          | (go_at_call 59; refine HU.out.mono ?_; rintro e w2 ⟨rfl, hb2⟩; have HB2 := Lib.hid hb2; clear hb2))
        have P2 := Lib.hid (P1.out.below HB2.out P1.out.lt)
        have B2 := Lib.hid (HB1.out.trans (HB2.out.mono HB1.out.size))
        have q2 : w2.cell? ⟨w.heap.size + 1, 2, none⟩ = some (.slice (some ⟨g, o, none⟩) L.length c1) := (P2.out.cell 2).trans rfl
        go_upto_region 4 with (go_at_call 54; refine (HC.out _ B2.out).mono ?_; rintro e w3 ⟨rfl, hb3⟩; have HB3 := Lib.hid hb3; clear hb3)
        have B3 := Lib.hid (B2.out.trans (HB3.out.mono B2.out.size))
        have P3 := Lib.hid (P2.out.below HB3.out P2.out.lt)
        have q3 : w3.cell? ⟨w.heap.size + 1, 2, none⟩ = some (.slice (some ⟨g, o, none⟩) L.length c1) := (P3.out.cell 2).trans rfl
        have q4 : w3.cell? ⟨g, o + n * 2, none⟩ = some (.string x) := (B3.out.cell (p := ⟨g, o + n * 2, none⟩) HG.out).trans CC.out
        have L3 := Lib.hid P3.out.at
        clear q2 HU HC
        go_upto_region 6 with fail
        clear q3
        cases b with
        | true =>
          go_wp2_with (first
            | (refine wpList_load_at rfl 50 (.tmp 5) rfl ⟨w.heap.size + 1, 0, none⟩ rfl (PR f sz (.slice (some ⟨g, o, none⟩) L.length c1) (.slice A2 S.length c2)) _ L3.out Tryd.underlying50 rfl (size50L _ _ _ _) ?_)
            | (go_at_call 60; refine (HBD.out _).mono ?_; rintro e w4 ⟨rfl, hb4⟩; have HB4 := Lib.hid hb4; clear hb4))
          go_ret3
          exact ⟨by rw [HE.out]; rfl, B3.out.trans (HB4.out.mono B3.out.size)⟩
        | false =>
          go_wp2_with (first
            | (refine wpList_load_at rfl 50 (.tmp 5) rfl ⟨w.heap.size + 1, 0, none⟩ rfl (PR f sz (.slice (some ⟨g, o, none⟩) L.length c1) (.slice A2 S.length c2)) _ L3.out Tryd.underlying50 rfl (size50L _ _ _ _) ?_)
            | (go_at_call 60; refine (HBD.out _).mono ?_; rintro e w4 ⟨rfl, hb4⟩; have HB4 := Lib.hid hb4; clear hb4))
          go_ret3
          exact ⟨by rw [HE.out]; rfl, B3.out.trans (HB4.out.mono B3.out.size)⟩
end Go.Proofs.YtofccgkgjcnfbaaDoor
