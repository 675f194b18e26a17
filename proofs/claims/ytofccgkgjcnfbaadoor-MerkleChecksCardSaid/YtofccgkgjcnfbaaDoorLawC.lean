/-
  The walk of the law MerkleChecks.
  Conditions: the tables of the round constants are as the text lays them.
-/
import Derived.Test.YtofccgkgjcnfbaaDoorBentA
import Derived.Test.YtofccgkgjcnfbaaDoorRChk
namespace Go.Proofs.YtofccgkgjcnfbaaDoor
open Go.RowKit Wr Sh
set_option linter.unusedVariables false
set_option maxRecDepth 100000

theorem s5b_below {a b c d g : Nat} {x y z u v : List Value} {W W' : World} (h : Blk W a 54 x ∧ Blk W b 54 y ∧ Blk W c 54 z ∧ Blk W d 54 u ∧ Blk W g 54 v) (hb : Below W.heap.size W W') : Blk W' a 54 x ∧ Blk W' b 54 y ∧ Blk W' c 54 z ∧ Blk W' d 54 u ∧ Blk W' g 54 v :=
  ⟨h.1.below hb h.1.lt, h.2.1.below hb h.2.1.lt, h.2.2.1.below hb h.2.2.1.lt, h.2.2.2.1.below hb h.2.2.2.1.lt, h.2.2.2.2.below hb h.2.2.2.2.lt⟩
theorem build63b : ∀ (W : World) (a1 b1 a2 b2 a3 b3 a4 b4 a5 b5 a6 b6 a7 b7 : Int) (x1 y1 x2 y2 x3 y3 x4 y4 x5 y5 x6 y6 x7 y7 : Value), (Instr.buildSlice 63 8 #[(0, .agg (PR a1 b1 x1 y1).toArray), (1, .agg (PR a2 b2 x2 y2).toArray), (2, .agg (PR a3 b3 x3 y3).toArray), (3, .agg (PR a4 b4 x4 y4).toArray), (4, .agg (PR a5 b5 x5 y5).toArray), (5, .agg (PR a6 b6 x6 y6).toArray), (6, .agg (PR a7 b7 x7 y7).toArray), (7, .agg ZP.toArray)]).run Tryd.prog W = .ok (.slice (some ⟨W.heap.size, 0, none⟩) 8 8) (W.alloc (.cells ([PR a1 b1 x1 y1, PR a2 b2 x2 y2, PR a3 b3 x3 y3, PR a4 b4 x4 y4, PR a5 b5 x5 y5, PR a6 b6 x6 y6, PR a7 b7 x7 y7, ZP].flatten).toArray 54)) := by
  intros; kernel_rfl
/-- The proofs of a list, each in its place. -/
def ListQ (W : World) (gl cnt N M : Nat) : Prop := ∀ i, i < cnt → ∃ (p : Pf) (A1 A2 : Option Addr) (n m c1 c2 : Nat), (∀ q u, (PR p.first p.size (.slice A1 n c1) (.slice A2 m c2))[q]? = some u → W.cell? ((⟨gl, i * 4, none⟩ : Addr).add q) = some u) ∧ PV W W.heap.size N M p A1 A2 n m c1 c2
theorem pv_nil (W : World) (N M : Nat) : PV W W.heap.size N M noPf none none 0 0 0 0 := ⟨⟨Rd.nil, Rd.nil, ⟨Nat.le_refl _, fun _ => rfl⟩, ⟨Nat.le_refl _, fun _ => rfl⟩, ⟨by decide, fun x h => by cases h⟩, ⟨by decide, fun x h => by cases h⟩, ⟨⟨by decide, by decide⟩, ⟨by decide, by decide⟩⟩⟩, rfl, rfl, Nat.zero_le _, Nat.zero_le _, fun x h => by cases h⟩
theorem listP8 {W : World} {gl N M : Nat} {p1 p2 p3 p4 p5 p6 p7 : Pf} {A1 B1 A2 B2 A3 B3 A4 B4 A5 B5 A6 B6 A7 B7 : Option Addr} {n1 m1 c1 d1 n2 m2 c2 d2 n3 m3 c3 d3 n4 m4 c4 d4 n5 m5 c5 d5 n6 m6 c6 d6 n7 m7 c7 d7 : Nat}
    (h : Blk W gl 54 [PR p1.first p1.size (.slice A1 n1 c1) (.slice B1 m1 d1), PR p2.first p2.size (.slice A2 n2 c2) (.slice B2 m2 d2), PR p3.first p3.size (.slice A3 n3 c3) (.slice B3 m3 d3), PR p4.first p4.size (.slice A4 n4 c4) (.slice B4 m4 d4), PR p5.first p5.size (.slice A5 n5 c5) (.slice B5 m5 d5), PR p6.first p6.size (.slice A6 n6 c6) (.slice B6 m6 d6), PR p7.first p7.size (.slice A7 n7 c7) (.slice B7 m7 d7), ZP].flatten)
    (h1 : PV W W.heap.size N M p1 A1 B1 n1 m1 c1 d1) (h2 : PV W W.heap.size N M p2 A2 B2 n2 m2 c2 d2) (h3 : PV W W.heap.size N M p3 A3 B3 n3 m3 c3 d3) (h4 : PV W W.heap.size N M p4 A4 B4 n4 m4 c4 d4) (h5 : PV W W.heap.size N M p5 A5 B5 n5 m5 c5 d5) (h6 : PV W W.heap.size N M p6 A6 B6 n6 m6 c6 d6) (h7 : PV W W.heap.size N M p7 A7 B7 n7 m7 c7 d7) : ListQ W gl 8 N M := by
  intro i hi
  have hc : i = 0 ∨ i = 1 ∨ i = 2 ∨ i = 3 ∨ i = 4 ∨ i = 5 ∨ i = 6 ∨ i = 7 := by omega
  rcases hc with rfl | rfl | rfl | rfl | rfl | rfl | rfl | rfl
  · exact ⟨p1, A1, B1, n1, m1, c1, d1, row4 (X := []) h 0 rfl, h1⟩
  · exact ⟨p2, A2, B2, n2, m2, c2, d2, row4 (X := PR p1.first p1.size (.slice A1 n1 c1) (.slice B1 m1 d1)) h 1 rfl, h2⟩
  · exact ⟨p3, A3, B3, n3, m3, c3, d3, row4 (X := PR p1.first p1.size (.slice A1 n1 c1) (.slice B1 m1 d1) ++ PR p2.first p2.size (.slice A2 n2 c2) (.slice B2 m2 d2)) h 2 rfl, h3⟩
  · exact ⟨p4, A4, B4, n4, m4, c4, d4, row4 (X := PR p1.first p1.size (.slice A1 n1 c1) (.slice B1 m1 d1) ++ PR p2.first p2.size (.slice A2 n2 c2) (.slice B2 m2 d2) ++ PR p3.first p3.size (.slice A3 n3 c3) (.slice B3 m3 d3)) h 3 rfl, h4⟩
  · exact ⟨p5, A5, B5, n5, m5, c5, d5, row4 (X := PR p1.first p1.size (.slice A1 n1 c1) (.slice B1 m1 d1) ++ PR p2.first p2.size (.slice A2 n2 c2) (.slice B2 m2 d2) ++ PR p3.first p3.size (.slice A3 n3 c3) (.slice B3 m3 d3) ++ PR p4.first p4.size (.slice A4 n4 c4) (.slice B4 m4 d4)) h 4 rfl, h5⟩
  · exact ⟨p6, A6, B6, n6, m6, c6, d6, row4 (X := PR p1.first p1.size (.slice A1 n1 c1) (.slice B1 m1 d1) ++ PR p2.first p2.size (.slice A2 n2 c2) (.slice B2 m2 d2) ++ PR p3.first p3.size (.slice A3 n3 c3) (.slice B3 m3 d3) ++ PR p4.first p4.size (.slice A4 n4 c4) (.slice B4 m4 d4) ++ PR p5.first p5.size (.slice A5 n5 c5) (.slice B5 m5 d5)) h 5 rfl, h6⟩
  · exact ⟨p7, A7, B7, n7, m7, c7, d7, row4 (X := PR p1.first p1.size (.slice A1 n1 c1) (.slice B1 m1 d1) ++ PR p2.first p2.size (.slice A2 n2 c2) (.slice B2 m2 d2) ++ PR p3.first p3.size (.slice A3 n3 c3) (.slice B3 m3 d3) ++ PR p4.first p4.size (.slice A4 n4 c4) (.slice B4 m4 d4) ++ PR p5.first p5.size (.slice A5 n5 c5) (.slice B5 m5 d5) ++ PR p6.first p6.size (.slice A6 n6 c6) (.slice B6 m6 d6)) h 6 rfl, h7⟩
  · exact ⟨noPf, none, none, 0, 0, 0, 0, row4 (X := PR p1.first p1.size (.slice A1 n1 c1) (.slice B1 m1 d1) ++ PR p2.first p2.size (.slice A2 n2 c2) (.slice B2 m2 d2) ++ PR p3.first p3.size (.slice A3 n3 c3) (.slice B3 m3 d3) ++ PR p4.first p4.size (.slice A4 n4 c4) (.slice B4 m4 d4) ++ PR p5.first p5.size (.slice A5 n5 c5) (.slice B5 m5 d5) ++ PR p6.first p6.size (.slice A6 n6 c6) (.slice B6 m6 d6) ++ PR p7.first p7.size (.slice A7 n7 c7) (.slice B7 m7 d7)) (Y := ZP) (Z := []) h 7 rfl, pv_nil W N M⟩
theorem keys_at' {F T G : ByteArray} (j : Nat) (hj : j < 3) : ∃ K, [Value.string F, .string T, .string G][j]? = some (.string K) := by
  have : j = 0 ∨ j = 1 ∨ j = 2 := by omega
  rcases this with rfl | rfl | rfl
  · exact ⟨F, rfl⟩
  · exact ⟨T, rfl⟩
  · exact ⟨G, rfl⟩
theorem range_len' (R : List UInt8) (K T : ByteArray) (p : Pf) : (checkRangeR node lf top R K T p).1.length ≤ p.leaves.length := by
  unfold checkRangeR
  split
  · exact Nat.zero_le _
  · split
    · split
      · exact (cut_sub _ _ _).length_le
      · exact Nat.zero_le _
    · exact Nat.zero_le _
set_option maxHeartbeats 16000000 in
theorem checks_walk (A : Option Addr) (l : List Int) (c : Nat) (A' : Option Addr) (l2 : List Int) (c' : Nat) (kn mn hw bn : Int) (w : World) (hl : l.length ≤ 281474976710656) (hr : Rd w w.heap.size A (I64 l)) (ho : ∀ x ∈ l, okInt x)
    (hl2 : l2.length ≤ 281474976710656) (hr2 : Rd w w.heap.size A' (I64 l2)) (ho2 : ∀ x ∈ l2, okInt x) (hkn : okInt kn) (hmn : okInt mn) (hhw : okInt hw) (hbn : okInt bn) (ht0 : Tab 0 w) (ht : Tab 1 w) :
    Calls Tryd.prog 5 #[.slice A l.length c, .slice A' l2.length c', .int .i64 kn, .int .i64 mn, .int .i64 hw, .int .i64 bn] w fun e w' => e = .returned (.bool true) ∧ Below w.heap.size w w' := by
  have HT := Lib.hid ht
  have HT0 := Lib.hid ht0
  have Hkn := Lib.hid hkn
  have Hmn := Lib.hid hmn
  have Hhw := Lib.hid hhw
  have Hbn := Lib.hid hbn
  obtain ⟨La, hLa⟩ : ∃ L, L = genL l := ⟨_, rfl⟩
  obtain ⟨Lb, hLb⟩ : ∃ L, L = genL l2 := ⟨_, rfl⟩
  obtain ⟨N1, hN1⟩ : ∃ n, n = La.length := ⟨_, rfl⟩
  obtain ⟨N2, hN2⟩ : ∃ n, n = Lb.length := ⟨_, rfl⟩
  have HN1 := Lib.hid (show N1 = La.length ∧ La.length ≤ 11 ∧ validE La = 0 ∧ ord La from ⟨hN1, by rw [hLa]; exact genL_len l, by rw [hLa]; exact genL_valid l, by rw [hLa]; exact genL_ord l⟩)
  have HN2 := Lib.hid (show N2 = Lb.length ∧ Lb.length ≤ 11 ∧ validE Lb = 0 from ⟨hN2, by rw [hLb]; exact genL_len l2, by rw [hLb]; exact genL_valid l2⟩)
  have HMa := Lib.hid (show ∀ x ∈ La, x.1.size ≤ 3 ∧ x.2.size ≤ 3 from fun x hx => by rw [hLa] at hx; have := gls_sizes l _ x hx; omega)
  have HMb := Lib.hid (show ∀ x ∈ Lb, x.1.size ≤ 3 ∧ x.2.size ≤ 3 from fun x hx => by rw [hLb] at hx; have := gls_sizes l2 _ x hx; omega)
  have HC0 := Lib.hid (show Calls Tryd.prog 10 #[.slice A l.length c] w fun e w' => ∃ A1 c1, e = .returned (.slice A1 N1 c1) ∧ LsAt w' w'.heap.size A1 La c1 ∧ Below w.heap.size w w' from by
    refine (leaves_any A l c w hl hr ho).mono ?_
    rintro e w' ⟨A1, c1, rfl, h1, h2, h3, h4⟩
    rw [hN1, hLa]; exact ⟨A1, c1, rfl, ⟨h3, h1, h2, genL_ok l⟩, h4⟩)
  have HC1 := Lib.hid (fun (W : World) (hb : Below w.heap.size w W) => show Calls Tryd.prog 10 #[.slice A' l2.length c'] W fun e w' => ∃ A1 c1, e = .returned (.slice A1 N2 c1) ∧ LsAt w' w'.heap.size A1 Lb c1 ∧ Below W.heap.size W w' from by
    refine (leaves_any A' l2 c' W hl2 ((hr2.below hb).more hb.size) ho2).mono ?_
    rintro e w' ⟨A1, c1, rfl, h1, h2, h3, h4⟩
    rw [hN2, hLb]; exact ⟨A1, c1, rfl, ⟨h3, h1, h2, genL_ok l2⟩, h4⟩)
  clear hl hr ho hl2 hr2 ho2 hkn hmn hhw hbn ht0 ht hLa hLb hN1 hN2
  generalize l.length = NA at HC0 ⊢
  generalize l2.length = NN at HC1 ⊢
  go_enter Tryd.func5, Tryd.ntmps5
  go_upto_region 2 with (go_at_call 10; refine HC0.out.mono ?_; rintro e w1 ⟨A1, c1, rfl, hls1, hb1⟩; have L1 := Lib.hid hls1; have Bs1 := Lib.hid hb1; clear hls1 hb1)
  go_upto_region 3 with (go_at_call 10; refine (HC1.out w1 Bs1.out).mono ?_; rintro e w2 ⟨A2, c2, rfl, hls2, hb2⟩; have L2 := Lib.hid hls2; have L1a := Lib.hid ((L1.out.below hb2).more hb2.size); have Bs2 := Lib.hid (Bs1.out.trans (hb2.mono Bs1.out.size)); clear hls2 hb2)
  obtain ⟨R, hR⟩ : ∃ R, R = rootR La := ⟨_, rfl⟩
  have HR := Lib.hid hR
  have HRl := Lib.hid (show R.length = 16 by rw [hR]; exact rootR_len La)
  have HRTa := Lib.hid (show Calls Tryd.prog 14 #[.slice A1 N1 c1] w2 fun e w' => e = .returned (.tuple #[.agg (B8 R).toArray, .int .i64 0]) ∧ Below w2.heap.size w2 w' from by
    have := rroot_any A1 La c1 w2 L1a.out (HT0.out.below Bs2.out HT0.out.1) R HR
    rw [HN1.out.2.2.1, ← HN1.out.1] at this; exact this)
  have HKa := Lib.hid (fun (n : Int) (hn : okInt n) (W : World) (hb : Below w2.heap.size w2 W) => show Calls Tryd.prog 20 #[.slice A1 N1 c1, .int .i64 n] W fun e w' => ∃ K, e = .returned (.string K) ∧ Below W.heap.size W w' from by
    rw [HN1.out.1]; exact lawKey_any A1 La c1 n W HN1.out.2.1 ((L1a.out.below hb).more hb.size).rd hn (fun x hx => (L1a.out.ok.2 x hx).1))
  have HPR := Lib.hid (fun (K : ByteArray) (W : World) (hb : Below w2.heap.size w2 W) => rprove_pv La A1 c1 N1 3 K W HN1.out.1 HN1.out.2.1 HMa.out HN1.out.2.2.1 ((L1a.out.below hb).more hb.size) (HT0.out.below (Bs2.out.trans (hb.mono Bs2.out.size)) HT0.out.1))
  have HPRb := Lib.hid (fun (K : ByteArray) (W : World) (hb : Below w2.heap.size w2 W) => rprove_pv Lb A2 c2 N2 3 K W HN2.out.1 HN2.out.2.1 HMb.out HN2.out.2.2 ((L2.out.below hb).more hb.size) (HT0.out.below (Bs2.out.trans (hb.mono Bs2.out.size)) HT0.out.1))
  have HRG := Lib.hid (fun (K T : ByteArray) (W : World) (hb : Below w2.heap.size w2 W) => rrange_pv La A1 c1 N1 3 K T W HN1.out.1 HN1.out.2.1 HMa.out ((L1a.out.below hb).more hb.size) (HT0.out.below (Bs2.out.trans (hb.mono Bs2.out.size)) HT0.out.1))
  clear hR HC0 HC1 HMa HMb L1
  go_wp2_with fail
  refine HRTa.out.mono ?_; rintro e w4 ⟨rfl, hb⟩
  have K4 := Lib.hid hb
  obtain ⟨W5, hW5⟩ : ∃ W, W = (w4.alloc (.cells Z16.toArray 29)).setRow w4.heap.size (B8 R).toArray := ⟨_, rfl⟩
  have hb5 : Below w4.heap.size w4 W5 := by rw [hW5]; exact belowRow ((Below.refl _ _).alloc (Nat.le_refl _) _) (Nat.le_refl _) _
  have K5 := Lib.hid (K4.out.trans (hb5.mono K4.out.size))
  have XR := Lib.hid (show Blk W5 w4.heap.size 29 (B8 R) by rw [hW5]; exact (Blk.new w4 29 Z16).row _)
  have HE := Lib.hid hW5
  have hZ := hZ16
  clear hW5 hb5 hb K4 HRTa
  go_upto_region 4 with (with_reducible refine wpList_store_row rfl 29 (.tmp 15) (.tmp 46) rfl w4.heap.size (B8 R).toArray rfl rfl 29 _ (heap_alloc_new w4 _) (size29' _ HRl.out) (Z16_size _ HRl.out) (one8 _) ?_)
  rw [← HE.out]
  clear HE hZ
  obtain ⟨gr, hgr⟩ : ∃ g, g = w4.heap.size := ⟨_, rfl⟩
  rw [← hgr] at XR ⊢
  clear hgr
  go_wp2_with (go_at_call 20; with_reducible refine (HKa.out kn Hkn.out W5 K5.out).mono ?_; rintro e w6 ⟨K1, rfl, hb⟩; have B6 := Lib.hid (K5.out.trans (hb.mono K5.out.size)); have D6 := Lib.hid hb; clear hb)
  have T_ := Lib.hid (XR.out.below D6.out XR.out.lt)
  clear XR
  have XR := T_
  clear T_
  refine (HPR.out K1 w6 B6.out).mono ?_; rintro e w7 ⟨p1, P1, Q1, n1, m1, d1, e1, rfl, hpv, hb⟩
  have V1 := Lib.hid hpv
  have B7 := Lib.hid (B6.out.trans (hb.mono B6.out.size))
  have D7 := Lib.hid hb
  clear hpv hb
  have T_ := Lib.hid (XR.out.below D7.out XR.out.lt)
  clear XR
  have XR := T_
  clear T_
  obtain ⟨W8, hW_⟩ : ∃ W, W = (w7.alloc (.cells ZP.toArray 54)).setRow w7.heap.size (PR p1.first p1.size (.slice P1 n1 d1) (.slice Q1 m1 e1)).toArray := ⟨_, rfl⟩
  have hb_ : Below w7.heap.size w7 W8 := by rw [hW_]; exact belowRow ((Below.refl _ _).alloc (Nat.le_refl _) _) (Nat.le_refl _) _
  have B8' := Lib.hid (B7.out.trans (hb_.mono B7.out.size))
  have Y17 := Lib.hid (show Blk W8 w7.heap.size 54 (PR p1.first p1.size (.slice P1 n1 d1) (.slice Q1 m1 e1)) by rw [hW_]; exact (Blk.new w7 54 ZP).row _)
  have V1' := Lib.hid (V1.out.next hb_)
  have DD := Lib.hid hb_
  have T_ := Lib.hid (XR.out.below DD.out XR.out.lt)
  clear XR
  have XR := T_
  clear T_
  clear DD
  have HE := Lib.hid hW_
  have hZ := hZP
  clear hW_ hb_
  go_upto_region 5 with (with_reducible refine wpList_store_row rfl 54 (.tmp 17) (.tmp 54) rfl w7.heap.size (PR p1.first p1.size (.slice P1 n1 d1) (.slice Q1 m1 e1)).toArray rfl rfl 54 _ (heap_alloc_new w7 _) (size54A _ _ _ _) (ZP_PR _ _ _ _) (PR_one _ _ _ _ _ _ _ _) ?_)
  rw [← HE.out]
  try dsimp only [Act.put]
  clear HE hZ V1
  have V1 := V1'
  clear V1'
  obtain ⟨g17, hg⟩ : ∃ g, g = w7.heap.size := ⟨_, rfl⟩
  rw [← hg] at Y17 ⊢
  clear hg
  go_wp2_with (go_at_call 20; with_reducible refine (HKa.out kn Hkn.out W8 B8'.out).mono ?_; rintro e w9 ⟨K2, rfl, hb⟩; have B9 := Lib.hid (B8'.out.trans (hb.mono B8'.out.size)); have D9 := Lib.hid hb; clear hb)
  have T_ := Lib.hid (XR.out.below D9.out XR.out.lt)
  clear XR
  have XR := T_
  clear T_
  have T_ := Lib.hid (Y17.out.below D9.out Y17.out.lt)
  clear Y17
  have Y17 := T_
  clear T_
  have T_ := Lib.hid (V1.out.next D9.out)
  clear V1
  have V1 := T_
  clear T_
  refine (HKa.out mn Hmn.out w9 B9.out).mono ?_; rintro e w10 ⟨K3, rfl, hb⟩
  have B10 := Lib.hid (B9.out.trans (hb.mono B9.out.size))
  have D10 := Lib.hid hb
  clear hb
  have T_ := Lib.hid (XR.out.below D10.out XR.out.lt)
  clear XR
  have XR := T_
  clear T_
  have T_ := Lib.hid (Y17.out.below D10.out Y17.out.lt)
  clear Y17
  have Y17 := T_
  clear T_
  have T_ := Lib.hid (V1.out.next D10.out)
  clear V1
  have V1 := T_
  clear T_
  go_wp2_with fail
  refine (HRG.out K2 K3 w10 B10.out).mono ?_; rintro e w11 ⟨p2, P2, Q2, n2, m2, d2, e2, er2, rfl, hpv, hb⟩
  have V2 := Lib.hid hpv
  have B11 := Lib.hid (B10.out.trans (hb.mono B10.out.size))
  have D11 := Lib.hid hb
  clear hpv hb
  have T_ := Lib.hid (XR.out.below D11.out XR.out.lt)
  clear XR
  have XR := T_
  clear T_
  have T_ := Lib.hid (Y17.out.below D11.out Y17.out.lt)
  clear Y17
  have Y17 := T_
  clear T_
  have T_ := Lib.hid (V1.out.next D11.out)
  clear V1
  have V1 := T_
  clear T_
  obtain ⟨W9, hW_⟩ : ∃ W, W = (w11.alloc (.cells ZP.toArray 54)).setRow w11.heap.size (PR p2.first p2.size (.slice P2 n2 d2) (.slice Q2 m2 e2)).toArray := ⟨_, rfl⟩
  have hb_ : Below w11.heap.size w11 W9 := by rw [hW_]; exact belowRow ((Below.refl _ _).alloc (Nat.le_refl _) _) (Nat.le_refl _) _
  have B12 := Lib.hid (B11.out.trans (hb_.mono B11.out.size))
  have Y19 := Lib.hid (show Blk W9 w11.heap.size 54 (PR p2.first p2.size (.slice P2 n2 d2) (.slice Q2 m2 e2)) by rw [hW_]; exact (Blk.new w11 54 ZP).row _)
  have V2' := Lib.hid (V2.out.next hb_)
  have DD := Lib.hid hb_
  have T_ := Lib.hid (XR.out.below DD.out XR.out.lt)
  clear XR
  have XR := T_
  clear T_
  have T_ := Lib.hid (Y17.out.below DD.out Y17.out.lt)
  clear Y17
  have Y17 := T_
  clear T_
  have T_ := Lib.hid (V1.out.next DD.out)
  clear V1
  have V1 := T_
  clear T_
  clear DD
  have HE := Lib.hid hW_
  have hZ := hZP
  clear hW_ hb_
  go_upto_region 6 with (with_reducible refine wpList_store_row rfl 54 (.tmp 19) (.tmp 65) rfl w11.heap.size (PR p2.first p2.size (.slice P2 n2 d2) (.slice Q2 m2 e2)).toArray rfl rfl 54 _ (heap_alloc_new w11 _) (size54A _ _ _ _) (ZP_PR _ _ _ _) (PR_one _ _ _ _ _ _ _ _) ?_)
  rw [← HE.out]
  try dsimp only [Act.put]
  clear HE hZ V2
  have V2 := V2'
  clear V2'
  obtain ⟨g19, hg⟩ : ∃ g, g = w11.heap.size := ⟨_, rfl⟩
  rw [← hg] at Y19 ⊢
  clear hg
  go_wp2_with (go_at_call 20; with_reducible refine (HKa.out kn Hkn.out W9 B12.out).mono ?_; rintro e w13 ⟨K4, rfl, hb⟩; have B13 := Lib.hid (B12.out.trans (hb.mono B12.out.size)); have D13 := Lib.hid hb; clear hb)
  have T_ := Lib.hid (XR.out.below D13.out XR.out.lt)
  clear XR
  have XR := T_
  clear T_
  have T_ := Lib.hid (Y17.out.below D13.out Y17.out.lt)
  clear Y17
  have Y17 := T_
  clear T_
  have T_ := Lib.hid (Y19.out.below D13.out Y19.out.lt)
  clear Y19
  have Y19 := T_
  clear T_
  have T_ := Lib.hid (V1.out.next D13.out)
  clear V1
  have V1 := T_
  clear T_
  have T_ := Lib.hid (V2.out.next D13.out)
  clear V2
  have V2 := T_
  clear T_
  refine (HPRb.out K4 w13 B13.out).mono ?_; rintro e w14 ⟨p3, P3, Q3, n3, m3, d3, e3, rfl, hpv, hb⟩
  have V3 := Lib.hid hpv
  have B14 := Lib.hid (B13.out.trans (hb.mono B13.out.size))
  have D14 := Lib.hid hb
  clear hpv hb
  have T_ := Lib.hid (XR.out.below D14.out XR.out.lt)
  clear XR
  have XR := T_
  clear T_
  have T_ := Lib.hid (Y17.out.below D14.out Y17.out.lt)
  clear Y17
  have Y17 := T_
  clear T_
  have T_ := Lib.hid (Y19.out.below D14.out Y19.out.lt)
  clear Y19
  have Y19 := T_
  clear T_
  have T_ := Lib.hid (V1.out.next D14.out)
  clear V1
  have V1 := T_
  clear T_
  have T_ := Lib.hid (V2.out.next D14.out)
  clear V2
  have V2 := T_
  clear T_
  obtain ⟨W10, hW_⟩ : ∃ W, W = (w14.alloc (.cells ZP.toArray 54)).setRow w14.heap.size (PR p3.first p3.size (.slice P3 n3 d3) (.slice Q3 m3 e3)).toArray := ⟨_, rfl⟩
  have hb_ : Below w14.heap.size w14 W10 := by rw [hW_]; exact belowRow ((Below.refl _ _).alloc (Nat.le_refl _) _) (Nat.le_refl _) _
  have B15 := Lib.hid (B14.out.trans (hb_.mono B14.out.size))
  have Y21 := Lib.hid (show Blk W10 w14.heap.size 54 (PR p3.first p3.size (.slice P3 n3 d3) (.slice Q3 m3 e3)) by rw [hW_]; exact (Blk.new w14 54 ZP).row _)
  have V3' := Lib.hid (V3.out.next hb_)
  have DD := Lib.hid hb_
  have T_ := Lib.hid (XR.out.below DD.out XR.out.lt)
  clear XR
  have XR := T_
  clear T_
  have T_ := Lib.hid (Y17.out.below DD.out Y17.out.lt)
  clear Y17
  have Y17 := T_
  clear T_
  have T_ := Lib.hid (Y19.out.below DD.out Y19.out.lt)
  clear Y19
  have Y19 := T_
  clear T_
  have T_ := Lib.hid (V1.out.next DD.out)
  clear V1
  have V1 := T_
  clear T_
  have T_ := Lib.hid (V2.out.next DD.out)
  clear V2
  have V2 := T_
  clear T_
  clear DD
  have HE := Lib.hid hW_
  have hZ := hZP
  clear hW_ hb_
  go_upto_region 7 with (with_reducible refine wpList_store_row rfl 54 (.tmp 21) (.tmp 73) rfl w14.heap.size (PR p3.first p3.size (.slice P3 n3 d3) (.slice Q3 m3 e3)).toArray rfl rfl 54 _ (heap_alloc_new w14 _) (size54A _ _ _ _) (ZP_PR _ _ _ _) (PR_one _ _ _ _ _ _ _ _) ?_)
  rw [← HE.out]
  try dsimp only [Act.put]
  clear HE hZ V3
  have V3 := V3'
  clear V3'
  obtain ⟨g21, hg⟩ : ∃ g, g = w14.heap.size := ⟨_, rfl⟩
  rw [← hg] at Y21 ⊢
  clear hg
  have LB := Lib.hid (Blk.at Y17.out)
  go_wp2_with (refine wpList_load_at rfl 54 (.tmp 17) rfl ⟨g17, 0, none⟩ rfl (PR p1.first p1.size (.slice P1 n1 d1) (.slice Q1 m1 e1)) _ LB.out Tryd.underlying54 rfl (size54L _ _ _ _) ?_)
  clear LB
  refine (bent_all hw bn p1 P1 Q1 n1 m1 d1 e1 11 3 W10 V1.out (by decide) (by decide) Hhw.out Hbn.out).mono ?_; rintro e w16 ⟨p4, P4, Q4, n4, m4, d4, e4, rfl, hpv, hb⟩
  have V4 := Lib.hid hpv
  have B17x := Lib.hid (B15.out.trans (hb.mono B15.out.size))
  have DX := Lib.hid hb
  clear hpv hb
  have T_ := Lib.hid (XR.out.below DX.out XR.out.lt)
  clear XR
  have XR := T_
  clear T_
  have T_ := Lib.hid (Y17.out.below DX.out Y17.out.lt)
  clear Y17
  have Y17 := T_
  clear T_
  have T_ := Lib.hid (Y19.out.below DX.out Y19.out.lt)
  clear Y19
  have Y19 := T_
  clear T_
  have T_ := Lib.hid (Y21.out.below DX.out Y21.out.lt)
  clear Y21
  have Y21 := T_
  clear T_
  have T_ := Lib.hid (V1.out.next DX.out)
  clear V1
  have V1 := T_
  clear T_
  have T_ := Lib.hid (V2.out.next DX.out)
  clear V2
  have V2 := T_
  clear T_
  have T_ := Lib.hid (V3.out.next DX.out)
  clear V3
  have V3 := T_
  clear T_
  clear DX
  obtain ⟨W11, hW_⟩ : ∃ W, W = (w16.alloc (.cells ZP.toArray 54)).setRow w16.heap.size (PR p4.first p4.size (.slice P4 n4 d4) (.slice Q4 m4 e4)).toArray := ⟨_, rfl⟩
  have hb_ : Below w16.heap.size w16 W11 := by rw [hW_]; exact belowRow ((Below.refl _ _).alloc (Nat.le_refl _) _) (Nat.le_refl _) _
  have B17 := Lib.hid (B17x.out.trans (hb_.mono B17x.out.size))
  have Y23 := Lib.hid (show Blk W11 w16.heap.size 54 (PR p4.first p4.size (.slice P4 n4 d4) (.slice Q4 m4 e4)) by rw [hW_]; exact (Blk.new w16 54 ZP).row _)
  have V4' := Lib.hid (V4.out.next hb_)
  have DD := Lib.hid hb_
  have T_ := Lib.hid (XR.out.below DD.out XR.out.lt)
  clear XR
  have XR := T_
  clear T_
  have T_ := Lib.hid (Y17.out.below DD.out Y17.out.lt)
  clear Y17
  have Y17 := T_
  clear T_
  have T_ := Lib.hid (Y19.out.below DD.out Y19.out.lt)
  clear Y19
  have Y19 := T_
  clear T_
  have T_ := Lib.hid (Y21.out.below DD.out Y21.out.lt)
  clear Y21
  have Y21 := T_
  clear T_
  have T_ := Lib.hid (V1.out.next DD.out)
  clear V1
  have V1 := T_
  clear T_
  have T_ := Lib.hid (V2.out.next DD.out)
  clear V2
  have V2 := T_
  clear T_
  have T_ := Lib.hid (V3.out.next DD.out)
  clear V3
  have V3 := T_
  clear T_
  clear DD
  have HE := Lib.hid hW_
  have hZ := hZP
  clear hW_ hb_
  go_upto_region 8 with (with_reducible refine wpList_store_row rfl 54 (.tmp 23) (.tmp 78) rfl w16.heap.size (PR p4.first p4.size (.slice P4 n4 d4) (.slice Q4 m4 e4)).toArray rfl rfl 54 _ (heap_alloc_new w16 _) (size54A _ _ _ _) (ZP_PR _ _ _ _) (PR_one _ _ _ _ _ _ _ _) ?_)
  rw [← HE.out]
  try dsimp only [Act.put]
  clear HE hZ V4
  have V4 := V4'
  clear V4'
  obtain ⟨g23, hg⟩ : ∃ g, g = w16.heap.size := ⟨_, rfl⟩
  rw [← hg] at Y23 ⊢
  clear hg
  have LB := Lib.hid (Blk.at Y19.out)
  go_wp2_with (refine wpList_load_at rfl 54 (.tmp 19) rfl ⟨g19, 0, none⟩ rfl (PR p2.first p2.size (.slice P2 n2 d2) (.slice Q2 m2 e2)) _ LB.out Tryd.underlying54 rfl (size54L _ _ _ _) ?_)
  clear LB
  refine (bent_all bn hw p2 P2 Q2 n2 m2 d2 e2 11 3 W11 V2.out (by decide) (by decide) Hbn.out Hhw.out).mono ?_; rintro e w18 ⟨p5, P5, Q5, n5, m5, d5, e5, rfl, hpv, hb⟩
  have V5 := Lib.hid hpv
  have B19x := Lib.hid (B17.out.trans (hb.mono B17.out.size))
  have DX := Lib.hid hb
  clear hpv hb
  have T_ := Lib.hid (XR.out.below DX.out XR.out.lt)
  clear XR
  have XR := T_
  clear T_
  have T_ := Lib.hid (Y17.out.below DX.out Y17.out.lt)
  clear Y17
  have Y17 := T_
  clear T_
  have T_ := Lib.hid (Y19.out.below DX.out Y19.out.lt)
  clear Y19
  have Y19 := T_
  clear T_
  have T_ := Lib.hid (Y21.out.below DX.out Y21.out.lt)
  clear Y21
  have Y21 := T_
  clear T_
  have T_ := Lib.hid (Y23.out.below DX.out Y23.out.lt)
  clear Y23
  have Y23 := T_
  clear T_
  have T_ := Lib.hid (V1.out.next DX.out)
  clear V1
  have V1 := T_
  clear T_
  have T_ := Lib.hid (V2.out.next DX.out)
  clear V2
  have V2 := T_
  clear T_
  have T_ := Lib.hid (V3.out.next DX.out)
  clear V3
  have V3 := T_
  clear T_
  have T_ := Lib.hid (V4.out.next DX.out)
  clear V4
  have V4 := T_
  clear T_
  clear DX
  obtain ⟨W12, hW_⟩ : ∃ W, W = (w18.alloc (.cells ZP.toArray 54)).setRow w18.heap.size (PR p5.first p5.size (.slice P5 n5 d5) (.slice Q5 m5 e5)).toArray := ⟨_, rfl⟩
  have hb_ : Below w18.heap.size w18 W12 := by rw [hW_]; exact belowRow ((Below.refl _ _).alloc (Nat.le_refl _) _) (Nat.le_refl _) _
  have B19 := Lib.hid (B19x.out.trans (hb_.mono B19x.out.size))
  have Y24 := Lib.hid (show Blk W12 w18.heap.size 54 (PR p5.first p5.size (.slice P5 n5 d5) (.slice Q5 m5 e5)) by rw [hW_]; exact (Blk.new w18 54 ZP).row _)
  have V5' := Lib.hid (V5.out.next hb_)
  have DD := Lib.hid hb_
  have T_ := Lib.hid (XR.out.below DD.out XR.out.lt)
  clear XR
  have XR := T_
  clear T_
  have T_ := Lib.hid (Y17.out.below DD.out Y17.out.lt)
  clear Y17
  have Y17 := T_
  clear T_
  have T_ := Lib.hid (Y19.out.below DD.out Y19.out.lt)
  clear Y19
  have Y19 := T_
  clear T_
  have T_ := Lib.hid (Y21.out.below DD.out Y21.out.lt)
  clear Y21
  have Y21 := T_
  clear T_
  have T_ := Lib.hid (Y23.out.below DD.out Y23.out.lt)
  clear Y23
  have Y23 := T_
  clear T_
  have T_ := Lib.hid (V1.out.next DD.out)
  clear V1
  have V1 := T_
  clear T_
  have T_ := Lib.hid (V2.out.next DD.out)
  clear V2
  have V2 := T_
  clear T_
  have T_ := Lib.hid (V3.out.next DD.out)
  clear V3
  have V3 := T_
  clear T_
  have T_ := Lib.hid (V4.out.next DD.out)
  clear V4
  have V4 := T_
  clear T_
  clear DD
  have HE := Lib.hid hW_
  have hZ := hZP
  clear hW_ hb_
  go_upto_region 9 with (with_reducible refine wpList_store_row rfl 54 (.tmp 24) (.tmp 82) rfl w18.heap.size (PR p5.first p5.size (.slice P5 n5 d5) (.slice Q5 m5 e5)).toArray rfl rfl 54 _ (heap_alloc_new w18 _) (size54A _ _ _ _) (ZP_PR _ _ _ _) (PR_one _ _ _ _ _ _ _ _) ?_)
  rw [← HE.out]
  try dsimp only [Act.put]
  clear HE hZ V5
  have V5 := V5'
  clear V5'
  obtain ⟨g24, hg⟩ : ∃ g, g = w18.heap.size := ⟨_, rfl⟩
  rw [← hg] at Y24 ⊢
  clear hg
  have HS12 := Lib.hid (And.intro Y17.out (And.intro Y19.out (And.intro Y21.out (And.intro Y23.out Y24.out))))
  clear Y17 Y19 Y21 Y23 Y24 D6 D7 D9 D10 D11 D13 D14 B6 B7 B8' B9 B10 B11 B12 B13 B14 B15 B17x B17 B19x K5 HPR HPRb HRG
  go_cut [25] (fun s25 wx => ∃ gl, s25 = .slice (some ⟨gl, 0, none⟩) 8 8 ∧ Hid (ListQ wx gl 8 13 7 ∧ Below W12.heap.size W12 wx))
  case first =>
    clear HKa XR
    as_aux_lemma =>
      refine wp_region_held (S := fun W => Blk W g17 54 (PR p1.first p1.size (.slice P1 n1 d1) (.slice Q1 m1 e1)) ∧ Blk W g19 54 (PR p2.first p2.size (.slice P2 n2 d2) (.slice Q2 m2 e2)) ∧ Blk W g21 54 (PR p3.first p3.size (.slice P3 n3 d3) (.slice Q3 m3 e3)) ∧ Blk W g23 54 (PR p4.first p4.size (.slice P4 n4 d4) (.slice Q4 m4 e4)) ∧ Blk W g24 54 (PR p5.first p5.size (.slice P5 n5 d5) (.slice Q5 m5 e5))) (by kernel_rfl) ?_
      change wpAnyH _ _ _ _ _ _ _ _ (World.drew W12)
      have k0 := Lib.hid (Below.refl W12.heap.size W12).drew
      have hs0 : Blk (World.drew W12) g17 54 (PR p1.first p1.size (.slice P1 n1 d1) (.slice Q1 m1 e1)) ∧ Blk (World.drew W12) g19 54 (PR p2.first p2.size (.slice P2 n2 d2) (.slice Q2 m2 e2)) ∧ Blk (World.drew W12) g21 54 (PR p3.first p3.size (.slice P3 n3 d3) (.slice Q3 m3 e3)) ∧ Blk (World.drew W12) g23 54 (PR p4.first p4.size (.slice P4 n4 d4) (.slice Q4 m4 e4)) ∧ Blk (World.drew W12) g24 54 (PR p5.first p5.size (.slice P5 n5 d5) (.slice Q5 m5 e5)) := HS12.out
      have U1 := Lib.hid (V1.out.next (Below.refl W12.heap.size W12).drew)
      have U2 := Lib.hid (V2.out.next (Below.refl W12.heap.size W12).drew)
      have U3 := Lib.hid (V3.out.next (Below.refl W12.heap.size W12).drew)
      have U4 := Lib.hid (V4.out.next (Below.refl W12.heap.size W12).drew)
      have U5 := Lib.hid (V5.out.next (Below.refl W12.heap.size W12).drew)
      generalize World.drew W12 = Wd at k0 hs0 U1 U2 U3 U4 U5 ⊢
      refine wpAnyH_take (i := 0) (oi := { dst := some 83, op := Op.load 54 (Operand.tmp 17), type := 54, pos := "law.go:140", after := #[], guard := none }) (v := .agg (PR p1.first p1.size (.slice P1 n1 d1) (.slice Q1 m1 e1)).toArray) rfl (by kernel_rfl) (by kernel_rfl) (by kernel_rfl) (fun _ _ _ h => h) (Or.inl ⟨by rfl, fun W hW => exec_load_row _ _ 54 (.tmp 17) rfl ⟨g17, 0, none⟩ rfl (PR p1.first p1.size (.slice P1 n1 d1) (.slice Q1 m1 e1)) W (run_loadVar_at W _ 54 (PR p1.first p1.size (.slice P1 n1 d1) (.slice Q1 m1 e1)) _ (Blk.at hW.1) Tryd.underlying54 rfl (size54L _ _ _ _))⟩) hs0 ?_
      (try dsimp only [Act.put]); try simp only [z1, z2, z3]
      refine wpAnyH_take (i := 1) (oi := { dst := some 84, op := Op.load 54 (Operand.tmp 19), type := 54, pos := "law.go:140", after := #[], guard := none }) (v := .agg (PR p2.first p2.size (.slice P2 n2 d2) (.slice Q2 m2 e2)).toArray) rfl (by kernel_rfl) (by kernel_rfl) (by kernel_rfl) (fun _ _ _ h => h) (Or.inl ⟨by rfl, fun W hW => exec_load_row _ _ 54 (.tmp 19) rfl ⟨g19, 0, none⟩ rfl (PR p2.first p2.size (.slice P2 n2 d2) (.slice Q2 m2 e2)) W (run_loadVar_at W _ 54 (PR p2.first p2.size (.slice P2 n2 d2) (.slice Q2 m2 e2)) _ (Blk.at hW.2.1) Tryd.underlying54 rfl (size54L _ _ _ _))⟩) hs0 ?_
      (try dsimp only [Act.put]); try simp only [z1, z2, z3]
      refine wpAnyH_take (i := 2) (oi := { dst := some 85, op := Op.load 54 (Operand.tmp 21), type := 54, pos := "law.go:140", after := #[], guard := none }) (v := .agg (PR p3.first p3.size (.slice P3 n3 d3) (.slice Q3 m3 e3)).toArray) rfl (by kernel_rfl) (by kernel_rfl) (by kernel_rfl) (fun _ _ _ h => h) (Or.inl ⟨by rfl, fun W hW => exec_load_row _ _ 54 (.tmp 21) rfl ⟨g21, 0, none⟩ rfl (PR p3.first p3.size (.slice P3 n3 d3) (.slice Q3 m3 e3)) W (run_loadVar_at W _ 54 (PR p3.first p3.size (.slice P3 n3 d3) (.slice Q3 m3 e3)) _ (Blk.at hW.2.2.1) Tryd.underlying54 rfl (size54L _ _ _ _))⟩) hs0 ?_
      (try dsimp only [Act.put]); try simp only [z1, z2, z3]
      refine wpAnyH_take (i := 3) (oi := { dst := some 86, op := Op.load 54 (Operand.tmp 23), type := 54, pos := "law.go:140", after := #[], guard := none }) (v := .agg (PR p4.first p4.size (.slice P4 n4 d4) (.slice Q4 m4 e4)).toArray) rfl (by kernel_rfl) (by kernel_rfl) (by kernel_rfl) (fun _ _ _ h => h) (Or.inl ⟨by rfl, fun W hW => exec_load_row _ _ 54 (.tmp 23) rfl ⟨g23, 0, none⟩ rfl (PR p4.first p4.size (.slice P4 n4 d4) (.slice Q4 m4 e4)) W (run_loadVar_at W _ 54 (PR p4.first p4.size (.slice P4 n4 d4) (.slice Q4 m4 e4)) _ (Blk.at hW.2.2.2.1) Tryd.underlying54 rfl (size54L _ _ _ _))⟩) hs0 ?_
      (try dsimp only [Act.put]); try simp only [z1, z2, z3]
      refine wpAnyH_take (i := 4) (oi := { dst := some 87, op := Op.load 54 (Operand.tmp 24), type := 54, pos := "law.go:140", after := #[], guard := none }) (v := .agg (PR p5.first p5.size (.slice P5 n5 d5) (.slice Q5 m5 e5)).toArray) rfl (by kernel_rfl) (by kernel_rfl) (by kernel_rfl) (fun _ _ _ h => h) (Or.inl ⟨by rfl, fun W hW => exec_load_row _ _ 54 (.tmp 24) rfl ⟨g24, 0, none⟩ rfl (PR p5.first p5.size (.slice P5 n5 d5) (.slice Q5 m5 e5)) W (run_loadVar_at W _ 54 (PR p5.first p5.size (.slice P5 n5 d5) (.slice Q5 m5 e5)) _ (Blk.at hW.2.2.2.2) Tryd.underlying54 rfl (size54L _ _ _ _))⟩) hs0 ?_
      (try dsimp only [Act.put]); try simp only [z1, z2, z3]
      refine wpAnyH_take (i := 5) (oi := { dst := some 88, op := Op.load 54 (Operand.tmp 23), type := 54, pos := "law.go:140", after := #[], guard := none }) (v := .agg (PR p4.first p4.size (.slice P4 n4 d4) (.slice Q4 m4 e4)).toArray) rfl (by kernel_rfl) (by kernel_rfl) (by kernel_rfl) (fun _ _ _ h => h) (Or.inl ⟨by rfl, fun W hW => exec_load_row _ _ 54 (.tmp 23) rfl ⟨g23, 0, none⟩ rfl (PR p4.first p4.size (.slice P4 n4 d4) (.slice Q4 m4 e4)) W (run_loadVar_at W _ 54 (PR p4.first p4.size (.slice P4 n4 d4) (.slice Q4 m4 e4)) _ (Blk.at hW.2.2.2.1) Tryd.underlying54 rfl (size54L _ _ _ _))⟩) hs0 ?_
      (try dsimp only [Act.put]); try simp only [z1, z2, z3]
      refine wpAnyH_take (i := 6) (oi := { dst := some 89, op := Op.move (Operand.tmp 5), type := 3, pos := "law.go:140", after := #[], guard := none }) (v := .int .i64 bn) rfl (by kernel_rfl) (by kernel_rfl) (by kernel_rfl) (fun _ _ _ h => h) (Or.inl ⟨by rfl, fun W hW => ?y7⟩) hs0 ?_
      case y7 => go_simp
      (try dsimp only [Act.put]); try simp only [z1, z2, z3]
      refine wpAnyH_take (i := 7) (oi := { dst := some 90, op := Op.move (Operand.tmp 4), type := 3, pos := "law.go:140", after := #[], guard := none }) (v := .int .i64 hw) rfl (by kernel_rfl) (by kernel_rfl) (by kernel_rfl) (fun _ _ _ h => h) (Or.inl ⟨by rfl, fun W hW => ?y8⟩) hs0 ?_
      case y8 => go_simp
      (try dsimp only [Act.put]); try simp only [z1, z2, z3]
      refine wpAnyH_take (i := 9) (oi := { dst := some 92, op := Op.load 54 (Operand.tmp 24), type := 54, pos := "law.go:140", after := #[], guard := none }) (v := .agg (PR p5.first p5.size (.slice P5 n5 d5) (.slice Q5 m5 e5)).toArray) rfl (by kernel_rfl) (by kernel_rfl) (by kernel_rfl) (fun _ _ _ h => h) (Or.inl ⟨by rfl, fun W hW => exec_load_row _ _ 54 (.tmp 24) rfl ⟨g24, 0, none⟩ rfl (PR p5.first p5.size (.slice P5 n5 d5) (.slice Q5 m5 e5)) W (run_loadVar_at W _ 54 (PR p5.first p5.size (.slice P5 n5 d5) (.slice Q5 m5 e5)) _ (Blk.at hW.2.2.2.2) Tryd.underlying54 rfl (size54L _ _ _ _))⟩) hs0 ?_
      (try dsimp only [Act.put]); try simp only [z1, z2, z3]
      refine wpAnyH_take (i := 10) (oi := { dst := some 93, op := Op.move (Operand.tmp 4), type := 3, pos := "law.go:140", after := #[], guard := none }) (v := .int .i64 hw) rfl (by kernel_rfl) (by kernel_rfl) (by kernel_rfl) (fun _ _ _ h => h) (Or.inl ⟨by rfl, fun W hW => ?y10⟩) hs0 ?_
      case y10 => go_simp
      (try dsimp only [Act.put]); try simp only [z1, z2, z3]
      refine wpAnyH_take (i := 11) (oi := { dst := some 94, op := Op.move (Operand.tmp 5), type := 3, pos := "law.go:140", after := #[], guard := none }) (v := .int .i64 bn) rfl (by kernel_rfl) (by kernel_rfl) (by kernel_rfl) (fun _ _ _ h => h) (Or.inl ⟨by rfl, fun W hW => ?y11⟩) hs0 ?_
      case y11 => go_simp
      (try dsimp only [Act.put]); try simp only [z1, z2, z3]
      refine wpAnyH_take (i := 13) (oi := { dst := some 96, op := Op.build 54 #[], type := 54, pos := "law.go:140", after := #[], guard := none }) (v := .agg ZP.toArray) rfl (by kernel_rfl) (by kernel_rfl) (by kernel_rfl) (fun _ _ _ h => h) (Or.inl ⟨by rfl, fun W hW => by go_simp; first | done | rfl⟩) hs0 ?_
      (try dsimp only [Act.put]); try simp only [z1, z2, z3]
      refine wpAnyH_ready (rs := [8]) (by kernel_rfl) (by simp) ?_
      refine AllReadyH.cons (o := { dst := some 91, op := Op.call { callee := Callee.value (Operand.func 28), args := #[Operand.tmp 88, Operand.tmp 89, Operand.tmp 90], argTypes := #[54, 3, 3] }, type := 54, pos := "law.go:140", after := #[{ on := 5, ground := Ground.data }, { on := 6, ground := Ground.data }, { on := 7, ground := Ground.data }], guard := none }) rfl (fun K hK => ?_) AllReadyH.nil
      rw [if_pos (by rfl)]
      have HCC := bent_all bn hw p4 P4 Q4 n4 m4 d4 e4 12 5 Wd U4.out (by decide) (by decide) Hbn.out Hhw.out
      go_simp
      refine HCC.mono ?_; rintro e w13 ⟨p6, P6, Q6, n6, m6, d6, e6, rfl, hpv, hbt⟩
      clear HCC
      have k14 := Lib.hid (k0.out.trans (hbt.mono k0.out.size))
      have hs15 := s5b_below hs0 hbt
      have V16 := Lib.hid (U1.out.next hbt)
      have V17 := Lib.hid (U2.out.next hbt)
      have V18 := Lib.hid (U3.out.next hbt)
      have V19 := Lib.hid (U4.out.next hbt)
      have V20 := Lib.hid (U5.out.next hbt)
      have V21 := Lib.hid hpv
      clear hpv hbt
      go_wp2_with fail
      refine hK.out _ _ hs15 (fun _ => ?_)
      clear hK K
      (try dsimp only [Act.put]); try simp only [z1, z2, z3]
      refine wpAnyH_ready (rs := [12]) (by kernel_rfl) (by simp) ?_
      refine AllReadyH.cons (o := { dst := some 95, op := Op.call { callee := Callee.value (Operand.func 28), args := #[Operand.tmp 92, Operand.tmp 93, Operand.tmp 94], argTypes := #[54, 3, 3] }, type := 54, pos := "law.go:140", after := #[{ on := 9, ground := Ground.data }, { on := 10, ground := Ground.data }, { on := 11, ground := Ground.data }, { on := 8, ground := Ground.chain }], guard := none }) rfl (fun K hK => ?_) AllReadyH.nil
      rw [if_pos (by rfl)]
      have HCC := bent_all hw bn p5 P5 Q5 n5 m5 d5 e5 12 5 w13 V20.out (by decide) (by decide) Hhw.out Hbn.out
      go_simp
      refine HCC.mono ?_; rintro e w22 ⟨p7, P7, Q7, n7, m7, d7, e7, rfl, hpv, hbt⟩
      clear HCC
      have k23 := Lib.hid (k14.out.trans (hbt.mono k14.out.size))
      have hs24 := s5b_below hs15 hbt
      have V25 := Lib.hid (V16.out.next hbt)
      have V26 := Lib.hid (V17.out.next hbt)
      have V27 := Lib.hid (V18.out.next hbt)
      have V28 := Lib.hid (V19.out.next hbt)
      have V29 := Lib.hid (V20.out.next hbt)
      have V30 := Lib.hid (V21.out.next hbt)
      have V31 := Lib.hid hpv
      clear hpv hbt
      go_wp2_with fail
      refine hK.out _ _ hs24 (fun _ => ?_)
      clear hK K
      (try dsimp only [Act.put]); try simp only [z1, z2, z3]
      refine wpAnyH_ready (rs := [14]) (by kernel_rfl) (by simp) ?_
      refine AllReadyH.cons (o := { dst := some 97, op := Op.buildSlice 63 8 #[(0, Operand.tmp 83), (1, Operand.tmp 84), (2, Operand.tmp 85), (3, Operand.tmp 86), (4, Operand.tmp 87), (5, Operand.tmp 91), (6, Operand.tmp 95), (7, Operand.tmp 96)], type := 63, pos := "law.go:140", after := #[{ on := 0, ground := Ground.data }, { on := 1, ground := Ground.data }, { on := 2, ground := Ground.data }, { on := 3, ground := Ground.data }, { on := 4, ground := Ground.data }, { on := 8, ground := Ground.data }, { on := 12, ground := Ground.data }, { on := 13, ground := Ground.data }], guard := none }) rfl (fun K hK => ?_) AllReadyH.nil
      rw [if_pos (by rfl)]
      have hbs := build63b w22 p1.first p1.size p2.first p2.size p3.first p3.size p4.first p4.size p5.first p5.size p6.first p6.size p7.first p7.size (.slice P1 n1 d1) (.slice Q1 m1 e1) (.slice P2 n2 d2) (.slice Q2 m2 e2) (.slice P3 n3 d3) (.slice Q3 m3 e3) (.slice P4 n4 d4) (.slice Q4 m4 e4) (.slice P5 n5 d5) (.slice Q5 m5 e5) (.slice P6 n6 d6) (.slice Q6 m6 e6) (.slice P7 n7 d7) (.slice Q7 m7 e7)
      have hbt := (Below.refl w22.heap.size w22).alloc (Nat.le_refl _) (.cells [(PR p1.first p1.size (.slice P1 n1 d1) (.slice Q1 m1 e1)), (PR p2.first p2.size (.slice P2 n2 d2) (.slice Q2 m2 e2)), (PR p3.first p3.size (.slice P3 n3 d3) (.slice Q3 m3 e3)), (PR p4.first p4.size (.slice P4 n4 d4) (.slice Q4 m4 e4)), (PR p5.first p5.size (.slice P5 n5 d5) (.slice Q5 m5 e5)), (PR p6.first p6.size (.slice P6 n6 d6) (.slice Q6 m6 e6)), (PR p7.first p7.size (.slice P7 n7 d7) (.slice Q7 m7 e7)), ZP].flatten.toArray 54)
      have k32 := Lib.hid (k23.out.trans (hbt.mono k23.out.size))
      have hs33 := s5b_below hs24 hbt
      have LP := Lib.hid (listP8 (N := 13) (M := 7) (Blk.new w22 54 [(PR p1.first p1.size (.slice P1 n1 d1) (.slice Q1 m1 e1)), (PR p2.first p2.size (.slice P2 n2 d2) (.slice Q2 m2 e2)), (PR p3.first p3.size (.slice P3 n3 d3) (.slice Q3 m3 e3)), (PR p4.first p4.size (.slice P4 n4 d4) (.slice Q4 m4 e4)), (PR p5.first p5.size (.slice P5 n5 d5) (.slice Q5 m5 e5)), (PR p6.first p6.size (.slice P6 n6 d6) (.slice Q6 m6 e6)), (PR p7.first p7.size (.slice P7 n7 d7) (.slice Q7 m7 e7)), ZP].flatten) ((V25.out.next hbt).wide (by decide) (by decide)) ((V26.out.next hbt).wide (by decide) (by decide)) ((V27.out.next hbt).wide (by decide) (by decide)) ((V28.out.next hbt).wide (by decide) (by decide)) ((V29.out.next hbt).wide (by decide) (by decide)) ((V30.out.next hbt).wide (by decide) (by decide)) ((V31.out.next hbt).wide (by decide) (by decide)))
      clear hbt
      refine wp_bs rfl (by simp only [List.map_toArray, List.map_cons, List.map_nil]; rfl) hbs ?_
      clear hbs
      refine hK.out _ _ hs33 (fun _ => ?_)
      clear hK K
      (try dsimp only [Act.put]); try simp only [z1, z2, z3]
      refine wpAnyH_take (i := 15) (oi := { dst := some 25, op := Op.assign (Operand.tmp 97), type := 63, pos := "law.go:140", after := #[{ on := 14, ground := Ground.data }, { on := 12, ground := Ground.chain }, { on := 0, ground := Ground.phase }, { on := 1, ground := Ground.phase }, { on := 2, ground := Ground.phase }, { on := 3, ground := Ground.phase }, { on := 4, ground := Ground.phase }, { on := 5, ground := Ground.phase }, { on := 6, ground := Ground.phase }, { on := 7, ground := Ground.phase }, { on := 8, ground := Ground.phase }, { on := 9, ground := Ground.phase }, { on := 10, ground := Ground.phase }, { on := 11, ground := Ground.phase }, { on := 12, ground := Ground.phase }, { on := 13, ground := Ground.phase }, { on := 14, ground := Ground.phase }], guard := none }) (v := .slice (some ⟨w22.heap.size, 0, none⟩) 8 8) rfl (by kernel_rfl) (by kernel_rfl) (by kernel_rfl) (fun _ _ _ h => h) (Or.inl ⟨by rfl, fun W hW => ?y34⟩) hs33 ?_
      case y34 => go_simp
      (try dsimp only [Act.put]); try simp only [z1, z2, z3]
      refine wpAnyH_done (by kernel_rfl) ?_ _
      (try dsimp only [Act.put]); try simp only [z1, z2, z3]
      go_wp2_with fail
      go_meet
      exact ⟨w22.heap.size, rfl, Lib.hid ⟨LP.out, k32.out⟩⟩
  case rest =>
  obtain ⟨gl, rfl, KE⟩ := hcut
  obtain ⟨w13, hw13⟩ : ∃ W, W = wc := ⟨_, rfl⟩
  rw [← hw13] at KE ⊢
  have B13 := Lib.hid (B19.out.trans (KE.out.2.mono B19.out.size))
  have LP13 := KE
  have XR13 := Lib.hid (XR.out.below KE.out.2 XR.out.lt)
  clear KE hw13 HS12 V1 V2 V3 V4 V5 XR B19
  go_wp2_with (go_at_call 20; with_reducible refine (HKa.out kn Hkn.out w13 B13.out).mono ?_; rintro e w14 ⟨F, rfl, hb⟩; have B14 := Lib.hid (B13.out.trans (hb.mono B13.out.size)); have D14 := Lib.hid hb; clear hb)
  refine (HKa.out mn Hmn.out w14 B14.out).mono ?_; rintro e w15 ⟨T, rfl, hb⟩
  have B15 := Lib.hid (B14.out.trans (hb.mono B14.out.size))
  have E15 := Lib.hid hb
  clear hb
  have D15 := Lib.hid (D14.out.trans (E15.out.mono D14.out.size))
  go_wp2_with fail
  refine (HKa.out bn Hbn.out w15 B15.out).mono ?_; rintro e w16 ⟨G, rfl, hb⟩
  have B16 := Lib.hid (B15.out.trans (hb.mono B15.out.size))
  have E16 := Lib.hid hb
  clear hb
  have D16 := Lib.hid (D15.out.trans (E16.out.mono D15.out.size))
  go_wp2_with fail
  obtain ⟨W9, hW9⟩ : ∃ W, W = w16.alloc (.cells #[.string F, .string T, .string G] 9) := ⟨_, rfl⟩
  have hb9 : Below w16.heap.size w16 W9 := by rw [hW9]; exact (Below.refl _ _).alloc (Nat.le_refl _) _
  have B17 := Lib.hid (B16.out.trans (hb9.mono B16.out.size))
  have D17 := Lib.hid (D16.out.trans (hb9.mono D16.out.size))
  have KK0 := Lib.hid (show Blk W9 w16.heap.size 9 [.string F, .string T, .string G] by rw [hW9]; exact Blk.new w16 9 [.string F, .string T, .string G])
  have XR9 := Lib.hid (XR13.out.below D17.out XR13.out.lt)
  have LP := Lib.hid (show ListQ W9 gl 8 13 7 from fun i hi => by
    obtain ⟨p, A1, A2, n, m, c1, c2, h1, h2⟩ := LP13.out.1 i hi
    exact ⟨p, A1, A2, n, m, c1, c2, fun q u hu => (D17.out.cell (World.block_lt_of_cell? _ _ (h1 q u hu))).trans (h1 q u hu), h2.next D17.out⟩)
  have Bs9 := Lib.hid (Bs2.out.trans (B17.out.mono Bs2.out.size))
  have HW9 := Lib.hid hW9
  obtain ⟨gk, hgk⟩ : ∃ g, g = w16.heap.size := ⟨_, rfl⟩
  rw [← hgk] at KK0 ⊢
  clear hW9 hb9 hgk B13 B14 B15 B16 D14 D15 D16 D17 E15 E16 LP13 XR13 HKa B17 L1a L2 Bs1 Bs2 HN1 HN2 Hkn Hmn Hhw Hbn HR
  go_loopw [27] (fun s27 wr => ∃ i : Nat, i ≤ 8 ∧ s27 = .int .i64 i ∧ Hid (Below W9.heap.size W9 wr)) (fun s27 _ => 8 - (intOf s27).toNat)
  case atStart => exact ⟨0, by omega, rfl, Lib.hid (by rw [HW9.out]; exact Below.refl _ _)⟩
  case round =>
  obtain ⟨i, hi5, rfl, HB⟩ := hrel
  clear HW9
  by_cases hlt : i < 8
  · obtain ⟨p, P1, P2, n, m, d1, d2, hcells, hpv⟩ := LP.out i hlt
    have hltI : (i : Int) < 8 := by omega
    have HPV := Lib.hid hpv
    have HCL := Lib.hid hcells
    clear hcells hpv
    go_wp2_with fail
    go_loopw [28] (fun s28 wr => ∃ j : Nat, j ≤ 3 ∧ s28 = .int .i64 j ∧ Hid (Below W9.heap.size W9 wr)) (fun s28 _ => 3 - (intOf s28).toNat)
    case atStart => exact ⟨0, by omega, rfl, HB⟩
    case round =>
    clear HB
    obtain ⟨j, hj3, rfl, HB⟩ := hrel
    by_cases hjl : j < 3
    · have hjI : (j : Int) < 3 := by omega
      obtain ⟨j1, hj1⟩ : ∃ j1 : Nat, j1 = (j + 1) % 3 := ⟨_, rfl⟩
      have hj13 : j1 < 3 := by omega
      have HJ1 := Lib.hid (show ((j : Int) + 1) % 3 = (j1 : Int) by omega)
      have hj1I : (j1 : Int) < 3 := by omega
      obtain ⟨KJ, hKJ⟩ := keys_at' (F := F) (T := T) (G := G) j hjl
      obtain ⟨KK, hKK⟩ := keys_at' (F := F) (T := T) (G := G) j1 hj13
      have HS0 := Lib.hid (show At5 R gr gk j j1 KJ KK gl i (PR p.first p.size (.slice P1 n d1) (.slice P2 m d2)) W9 from ⟨XR9.out, (KK0.out.cell j).trans hKJ, (KK0.out.cell j1).trans hKK, HCL.out⟩)
      have HPW := Lib.hid (fun (W : World) (hb : Below W9.heap.size W9 W) => HPV.out.next hb)
      have HTW := Lib.hid (fun (W : World) (hb : Below W9.heap.size W9 W) => And.intro (HT0.out.below (Bs9.out.trans (hb.mono Bs9.out.size)) HT0.out.1) (HT.out.below (Bs9.out.trans (hb.mono Bs9.out.size)) HT.out.1))
      have HPF := Lib.hid (fun (W : World) (hb : Below W9.heap.size W9 W) => show Calls Tryd.prog 30 #[.agg (PR p.first p.size (.slice P1 n d1) (.slice P2 m d2)).toArray] W fun e w' => ∃ A' c', e = .returned (.agg (PR p.first p.size (.slice A' n c') (.slice P2 m d2)).toArray) ∧ PfAt w' w'.heap.size p A' P2 c' d2 ∧ Below W.heap.size W w' from pfOf_any p P1 P2 n m d1 d2 W (HPV.out.hn) (HPV.out.hm) (HPW.out W hb).at_)
      obtain ⟨r, hr⟩ : ∃ r, r = checkR node lf top R KJ p := ⟨_, rfl⟩
      obtain ⟨rv, hrv⟩ : ∃ v, v = r.1 := ⟨_, rfl⟩
      obtain ⟨ri, hri⟩ : ∃ v, v = r.2.1 := ⟨_, rfl⟩
      obtain ⟨re, hre⟩ : ∃ v, v = r.2.2 := ⟨_, rfl⟩
      obtain ⟨rr, hrr⟩ : ∃ r, r = checkRangeR node lf top R KJ KK p := ⟨_, rfl⟩
      obtain ⟨Ls, hLs⟩ : ∃ v, v = rr.1 := ⟨_, rfl⟩
      obtain ⟨ge, hge⟩ : ∃ v, v = rr.2 := ⟨_, rfl⟩
      have HCK := Lib.hid (fun (W : World) (A' : Option Addr) (c' : Nat) (hp : PfAt W W.heap.size p A' P2 c' d2) (hb : Below W9.heap.size W9 W) => show Calls Tryd.prog 29 #[.agg (B8 R).toArray, .string KJ, .agg (PR p.first p.size (.slice A' n c') (.slice P2 m d2)).toArray] W fun e w' => e = .returned (.tuple #[.string rv, .bool ri, .int .i64 re]) ∧ Below W.heap.size W w' from by
        have := check_any R KJ p A' P2 c' d2 W HRl.out hp (HTW.out W hb).2
        rw [← hr, ← hrv, ← hri, ← hre, ← HPV.out.hn, ← HPV.out.hm] at this; exact this)
      have HCK2 := Lib.hid (fun (W : World) (hb : Below W9.heap.size W9 W) => show Calls Tryd.prog 31 #[.agg (B8 R).toArray, .string KJ, .agg (PR p.first p.size (.slice P1 n d1) (.slice P2 m d2)).toArray] W fun e w' => e = .returned (.tuple #[.string rv, .bool ri, .int .i64 re]) ∧ Below W.heap.size W w' from by
        have := rcheck_any R KJ p P1 P2 n m d1 d2 W HPV.out.hn HPV.out.hm HRl.out (HPW.out W hb).at_ (HTW.out W hb).1
        rw [← hr, ← hrv, ← hri, ← hre] at this; exact this)
      have HCR := Lib.hid (fun (W : World) (A' : Option Addr) (c' : Nat) (hp : PfAt W W.heap.size p A' P2 c' d2) (hb : Below W9.heap.size W9 W) => show Calls Tryd.prog 32 #[.agg (B8 R).toArray, .string KJ, .string KK, .agg (PR p.first p.size (.slice A' n c') (.slice P2 m d2)).toArray] W fun e w' => ∃ As ns cs, e = .returned (.tuple #[.slice As ns cs, .int .i64 ge]) ∧ (ns = Ls.length ∧ Rd w' w'.heap.size As (LC Ls)) ∧ Below W.heap.size W w' from by
        have := checkRange_any R KJ KK p A' P2 c' d2 W HRl.out hp (HTW.out W hb).2
        rw [← hrr, ← hLs, ← hge, ← HPV.out.hn, ← HPV.out.hm] at this
        exact this.mono fun e w' ⟨As, ns, cs, h1, h2, h3⟩ => ⟨As, ns, cs, h1, ⟨h2.1, h2.2.1⟩, h3⟩)
      have HCR2 := Lib.hid (fun (W : World) (hb : Below W9.heap.size W9 W) => show Calls Tryd.prog 33 #[.agg (B8 R).toArray, .string KJ, .string KK, .agg (PR p.first p.size (.slice P1 n d1) (.slice P2 m d2)).toArray] W fun e w' => ∃ As ns cs, e = .returned (.tuple #[.slice As ns cs, .int .i64 ge]) ∧ (ns = Ls.length ∧ Rd w' w'.heap.size As (LC Ls)) ∧ Below W.heap.size W w' from by
        have := rcheckRange_any R KJ KK p P1 P2 n m d1 d2 W HPV.out.hn HPV.out.hm HRl.out (HPW.out W hb).at_ (HTW.out W hb).1
        rw [← hrr, ← hLs, ← hge] at this; exact this)
      have HLL := Lib.hid (show Ls.length ≤ 1073741824 by rw [hLs, hrr]; have := range_len' R KJ KK p; have := HPV.out.at_.okl.1; omega)
      clear hKJ hKK hr hrv hri hre hrr hLs hge hj13 hj1 HPW HTW
      go_upto_region 17 with fail
      have KS := HB
      have HSc := Lib.hid (HS0.out.below KS.out)
      obtain ⟨Wc, hWc⟩ : ∃ W, W = wr := ⟨_, rfl⟩
      rw [← hWc] at KS HSc ⊢
      clear hWc
      go_cut [29, 30, 31] from 114 to 212 (fun s29 s30 s31 wx => s29 = .string rv ∧ s30 = .bool ri ∧ s31 = .int .i64 re ∧ Hid (Below Wc.heap.size Wc wx))
      case first =>
        as_aux_lemma =>
          refine wp_region_held (S := fun W => At5 R gr gk j j1 KJ KK gl i (PR p.first p.size (.slice P1 n d1) (.slice P2 m d2)) W) (by kernel_rfl) ?_
          change wpAnyH _ _ _ _ _ _ _ _ (World.drew Wc)
          have k0 := Lib.hid (Below.refl Wc.heap.size Wc).drew
          have hs0 : At5 R gr gk j j1 KJ KK gl i (PR p.first p.size (.slice P1 n d1) (.slice P2 m d2)) (World.drew Wc) := HSc.out.below (Below.refl Wc.heap.size Wc).drew
          generalize World.drew Wc = Wd at k0 hs0 ⊢
          refine wpAnyH_take (i := 0) (oi := { dst := some 121, op := Op.load 29 (Operand.tmp 15), type := 29, pos := "law.go:144", after := #[], guard := none }) (v := .agg (B8 R).toArray) rfl (by kernel_rfl) (by kernel_rfl) (by kernel_rfl) (fun _ _ _ h => h) (Or.inl ⟨by rfl, fun W hW => exec_load_row _ _ 29 (.tmp 15) rfl ⟨gr, 0, none⟩ rfl (B8 R) W (run_loadVar_at W _ 29 (B8 R) (.array 16 5) (Blk.at hW.r) Tryd.underlying29 rfl (size29 _ HRl.out))⟩) hs0 ?_
          (try dsimp only [Act.put]); try simp only [z1, z2, z3]
          refine wpAnyH_take (i := 1) (oi := { dst := some 122, op := Op.move (Operand.tmp 26), type := 47, pos := "law.go:144", after := #[], guard := none }) (v := .slice (some ⟨gk, 0, none⟩) 3 3) rfl (by kernel_rfl) (by kernel_rfl) (by kernel_rfl) (fun _ _ _ h => h) (Or.inl ⟨by rfl, fun W hW => ?y2⟩) hs0 ?_
          case y2 => go_simp
          (try dsimp only [Act.put]); try simp only [z1, z2, z3]
          refine wpAnyH_take (i := 2) (oi := { dst := some 123, op := Op.move (Operand.tmp 28), type := 3, pos := "law.go:144", after := #[], guard := none }) (v := .int .i64 (j : Int)) rfl (by kernel_rfl) (by kernel_rfl) (by kernel_rfl) (fun _ _ _ h => h) (Or.inl ⟨by rfl, fun W hW => ?y3⟩) hs0 ?_
          case y3 => go_simp
          (try dsimp only [Act.put]); try simp only [z1, z2, z3]
          refine wpAnyH_take (i := 3) (oi := { dst := some 124, op := Op.indexAddr 47 (Operand.tmp 122) (Operand.tmp 123), type := 0, pos := "law.go:144", after := #[{ on := 1, ground := Ground.data }, { on := 2, ground := Ground.data }], guard := none }) (v := .pointer (some ⟨gk, j, none⟩)) rfl (by kernel_rfl) (by kernel_rfl) (by kernel_rfl) (fun _ _ _ h => h) (Or.inl ⟨by rfl, fun W hW => ?y4⟩) hs0 ?_
          case y4 => go_simp
          (try dsimp only [Act.put]); try simp only [z1, z2, z3]
          refine wpAnyH_take (i := 4) (oi := { dst := some 125, op := Op.load 9 (Operand.tmp 124), type := 9, pos := "law.go:144", after := #[{ on := 3, ground := Ground.data }], guard := none }) (v := .string KJ) rfl (by kernel_rfl) (by kernel_rfl) (by kernel_rfl) (fun _ _ _ h => h) (Or.inl ⟨by rfl, fun W hW => by have hcl := hW.k; go_simp⟩) hs0 ?_
          (try dsimp only [Act.put]); try simp only [z1, z2, z3]
          refine wpAnyH_take (i := 5) (oi := { dst := some 126, op := Op.move (Operand.tmp 25), type := 63, pos := "law.go:144", after := #[], guard := none }) (v := .slice (some ⟨gl, 0, none⟩) 8 8) rfl (by kernel_rfl) (by kernel_rfl) (by kernel_rfl) (fun _ _ _ h => h) (Or.inl ⟨by rfl, fun W hW => ?y6⟩) hs0 ?_
          case y6 => go_simp
          (try dsimp only [Act.put]); try simp only [z1, z2, z3]
          refine wpAnyH_take (i := 6) (oi := { dst := some 127, op := Op.move (Operand.tmp 27), type := 3, pos := "law.go:144", after := #[], guard := none }) (v := .int .i64 (i : Int)) rfl (by kernel_rfl) (by kernel_rfl) (by kernel_rfl) (fun _ _ _ h => h) (Or.inl ⟨by rfl, fun W hW => ?y7⟩) hs0 ?_
          case y7 => go_simp
          (try dsimp only [Act.put]); try simp only [z1, z2, z3]
          refine wpAnyH_take (i := 7) (oi := { dst := some 128, op := Op.indexAddr 63 (Operand.tmp 126) (Operand.tmp 127), type := 0, pos := "law.go:144", after := #[{ on := 5, ground := Ground.data }, { on := 6, ground := Ground.data }], guard := none }) (v := .pointer (some ⟨gl, i * 4, none⟩)) rfl (by kernel_rfl) (by kernel_rfl) (by kernel_rfl) (fun _ _ _ h => h) (Or.inl ⟨by rfl, fun W hW => ?y8⟩) hs0 ?_
          case y8 => go_simp
          (try dsimp only [Act.put]); try simp only [z1, z2, z3]
          refine wpAnyH_take (i := 8) (oi := { dst := some 129, op := Op.load 54 (Operand.tmp 128), type := 54, pos := "law.go:144", after := #[{ on := 7, ground := Ground.data }], guard := none }) (v := .agg (PR p.first p.size (.slice P1 n d1) (.slice P2 m d2)).toArray) rfl (by kernel_rfl) (by kernel_rfl) (by kernel_rfl) (fun _ _ _ h => h) (Or.inl ⟨by rfl, fun W hW => exec_load_row _ _ 54 (.tmp 128) rfl ⟨gl, i * 4, none⟩ rfl (PR p.first p.size (.slice P1 n d1) (.slice P2 m d2)) W (run_loadVar_at W _ 54 (PR p.first p.size (.slice P1 n d1) (.slice P2 m d2)) _ (hW.p) Tryd.underlying54 rfl (size54L _ _ _ _))⟩) hs0 ?_
          (try dsimp only [Act.put]); try simp only [z1, z2, z3]
          refine wpAnyH_ready (rs := [9]) (by kernel_rfl) (by simp) ?_
          refine AllReadyH.cons (o := { dst := some 130, op := Op.call { callee := Callee.value (Operand.func 30), args := #[Operand.tmp 129], argTypes := #[54] }, type := 50, pos := "law.go:144", after := #[{ on := 8, ground := Ground.data }], guard := none }) rfl (fun K hK => ?_) AllReadyH.nil
          rw [if_pos (by rfl)]
          have HCC := HPF.out Wd (KS.out.trans (k0.out.mono KS.out.size))
          go_simp
          refine HCC.mono ?_; rintro e w10 ⟨A9, c9, rfl, hpa, hbt⟩
          clear HCC
          have k11 := Lib.hid (k0.out.trans (hbt.mono k0.out.size))
          have hs12 := hs0.below hbt
          have O9 := Lib.hid hpa
          clear hpa
          clear hbt
          go_wp2_with fail
          refine hK.out _ _ hs12 (fun _ => ?_)
          clear hK K
          (try dsimp only [Act.put]); try simp only [z1, z2, z3]
          refine wpAnyH_ready (rs := [10]) (by kernel_rfl) (by simp) ?_
          refine AllReadyH.cons (o := { dst := some 131, op := Op.call { callee := Callee.value (Operand.func 29), args := #[Operand.tmp 121, Operand.tmp 125, Operand.tmp 130], argTypes := #[29, 9, 50] }, type := 64, pos := "law.go:144", after := #[{ on := 0, ground := Ground.data }, { on := 4, ground := Ground.data }, { on := 9, ground := Ground.data }, { on := 9, ground := Ground.chain }], guard := none }) rfl (fun K hK => ?_) AllReadyH.nil
          rw [if_pos (by rfl)]
          have HCC := HCK.out w10 A9 c9 O9.out (KS.out.trans (k11.out.mono KS.out.size))
          go_simp
          refine HCC.mono ?_; rintro e w13 ⟨rfl, hbt⟩
          clear HCC
          have k14 := Lib.hid (k11.out.trans (hbt.mono k11.out.size))
          have hs15 := hs12.below hbt
          clear hbt
          go_wp2_with fail
          refine hK.out _ _ hs15 (fun _ => ?_)
          clear hK K
          (try dsimp only [Act.put]); try simp only [z1, z2, z3]
          refine wpAnyH_take (i := 11) (oi := { dst := some 120, op := Op.move (Operand.tmp 131), type := 64, pos := "law.go:144", after := #[{ on := 10, ground := Ground.data }], guard := none }) (v := .tuple #[.string rv, .bool ri, .int .i64 re]) rfl (by kernel_rfl) (by kernel_rfl) (by kernel_rfl) (fun _ _ _ h => h) (Or.inl ⟨by rfl, fun W hW => ?y16⟩) hs15 ?_
          case y16 => go_simp
          (try dsimp only [Act.put]); try simp only [z1, z2, z3]
          refine wpAnyH_take (i := 12) (oi := { dst := some 132, op := Op.extract (Operand.tmp 120) 0, type := 9, pos := "law.go:144", after := #[{ on := 11, ground := Ground.data }], guard := none }) (v := .string rv) rfl (by kernel_rfl) (by kernel_rfl) (by kernel_rfl) (fun _ _ _ h => h) (Or.inl ⟨by rfl, fun W hW => ?y17⟩) hs15 ?_
          case y17 => go_simp
          (try dsimp only [Act.put]); try simp only [z1, z2, z3]
          refine wpAnyH_take (i := 13) (oi := { dst := some 133, op := Op.extract (Operand.tmp 120) 1, type := 4, pos := "law.go:144", after := #[{ on := 11, ground := Ground.data }, { on := 15, ground := Ground.gcOnly Departure.lateStores }], guard := none }) (v := .bool ri) rfl (by kernel_rfl) (by kernel_rfl) (by kernel_rfl) (fun _ _ _ h => h) (Or.inl ⟨by rfl, fun W hW => ?y18⟩) hs15 ?_
          case y18 => go_simp
          (try dsimp only [Act.put]); try simp only [z1, z2, z3]
          refine wpAnyH_take (i := 14) (oi := { dst := some 134, op := Op.extract (Operand.tmp 120) 2, type := 30, pos := "law.go:144", after := #[{ on := 11, ground := Ground.data }, { on := 16, ground := Ground.gcOnly Departure.lateStores }], guard := none }) (v := .int .i64 re) rfl (by kernel_rfl) (by kernel_rfl) (by kernel_rfl) (fun _ _ _ h => h) (Or.inl ⟨by rfl, fun W hW => ?y19⟩) hs15 ?_
          case y19 => go_simp
          (try dsimp only [Act.put]); try simp only [z1, z2, z3]
          refine wpAnyH_take (i := 15) (oi := { dst := some 29, op := Op.assign (Operand.tmp 132), type := 9, pos := "law.go:144", after := #[{ on := 12, ground := Ground.data }, { on := 10, ground := Ground.chain }, { on := 0, ground := Ground.phase }, { on := 1, ground := Ground.phase }, { on := 2, ground := Ground.phase }, { on := 3, ground := Ground.phase }, { on := 4, ground := Ground.phase }, { on := 5, ground := Ground.phase }, { on := 6, ground := Ground.phase }, { on := 7, ground := Ground.phase }, { on := 8, ground := Ground.phase }, { on := 9, ground := Ground.phase }, { on := 10, ground := Ground.phase }, { on := 11, ground := Ground.phase }, { on := 12, ground := Ground.phase }, { on := 13, ground := Ground.textOnly Departure.lateStores }, { on := 14, ground := Ground.textOnly Departure.lateStores }], guard := none }) (v := .string rv) rfl (by kernel_rfl) (by kernel_rfl) (by kernel_rfl) (fun _ _ _ h => h) (Or.inl ⟨by rfl, fun W hW => ?y20⟩) hs15 ?_
          case y20 => go_simp
          (try dsimp only [Act.put]); try simp only [z1, z2, z3]
          refine wpAnyH_take (i := 16) (oi := { dst := some 30, op := Op.assign (Operand.tmp 133), type := 4, pos := "law.go:144", after := #[{ on := 13, ground := Ground.data }, { on := 15, ground := Ground.chain }, { on := 0, ground := Ground.phase }, { on := 1, ground := Ground.phase }, { on := 2, ground := Ground.phase }, { on := 3, ground := Ground.phase }, { on := 4, ground := Ground.phase }, { on := 5, ground := Ground.phase }, { on := 6, ground := Ground.phase }, { on := 7, ground := Ground.phase }, { on := 8, ground := Ground.phase }, { on := 9, ground := Ground.phase }, { on := 10, ground := Ground.phase }, { on := 11, ground := Ground.phase }, { on := 12, ground := Ground.phase }, { on := 13, ground := Ground.phase }, { on := 14, ground := Ground.textOnly Departure.lateStores }, { on := 15, ground := Ground.phase }], guard := none }) (v := .bool ri) rfl (by kernel_rfl) (by kernel_rfl) (by kernel_rfl) (fun _ _ _ h => h) (Or.inl ⟨by rfl, fun W hW => ?y21⟩) hs15 ?_
          case y21 => go_simp
          (try dsimp only [Act.put]); try simp only [z1, z2, z3]
          refine wpAnyH_take (i := 17) (oi := { dst := some 31, op := Op.assign (Operand.tmp 134), type := 30, pos := "law.go:144", after := #[{ on := 14, ground := Ground.data }, { on := 16, ground := Ground.chain }, { on := 0, ground := Ground.phase }, { on := 1, ground := Ground.phase }, { on := 2, ground := Ground.phase }, { on := 3, ground := Ground.phase }, { on := 4, ground := Ground.phase }, { on := 5, ground := Ground.phase }, { on := 6, ground := Ground.phase }, { on := 7, ground := Ground.phase }, { on := 8, ground := Ground.phase }, { on := 9, ground := Ground.phase }, { on := 10, ground := Ground.phase }, { on := 11, ground := Ground.phase }, { on := 12, ground := Ground.phase }, { on := 13, ground := Ground.phase }, { on := 14, ground := Ground.phase }, { on := 15, ground := Ground.phase }, { on := 16, ground := Ground.phase }], guard := none }) (v := .int .i64 re) rfl (by kernel_rfl) (by kernel_rfl) (by kernel_rfl) (fun _ _ _ h => h) (Or.inl ⟨by rfl, fun W hW => ?y22⟩) hs15 ?_
          case y22 => go_simp
          (try dsimp only [Act.put]); try simp only [z1, z2, z3]
          refine wpAnyH_done (by kernel_rfl) ?_ _
          (try dsimp only [Act.put]); try simp only [z1, z2, z3]
          have KE := k14
          go_wp2_with fail
          go_meet
          exact ⟨rfl, rfl, rfl, KE⟩
      case rest =>
      obtain ⟨rfl, rfl, rfl, KE⟩ := hcut
      obtain ⟨w18, hw18⟩ : ∃ W, W = wc := ⟨_, rfl⟩
      rw [← hw18] at KE ⊢
      have K18 := Lib.hid (KS.out.trans (KE.out.mono KS.out.size))
      clear KE hw18 KS HSc HCK
      go_upto_region 18 with fail
      have KS := K18
      have HSc := Lib.hid (HS0.out.below KS.out)
      obtain ⟨Wc, hWc⟩ : ∃ W, W = w18 := ⟨_, rfl⟩
      rw [← hWc] at KS HSc ⊢
      clear hWc
      go_cut [32, 33, 34] from 114 to 212 (fun s32 s33 s34 wx => s32 = .string rv ∧ s33 = .bool ri ∧ s34 = .int .i64 re ∧ Hid (Below Wc.heap.size Wc wx))
      case first =>
        as_aux_lemma =>
          refine wp_region_held (S := fun W => At5 R gr gk j j1 KJ KK gl i (PR p.first p.size (.slice P1 n d1) (.slice P2 m d2)) W) (by kernel_rfl) ?_
          change wpAnyH _ _ _ _ _ _ _ _ (World.drew Wc)
          have k0 := Lib.hid (Below.refl Wc.heap.size Wc).drew
          have hs0 : At5 R gr gk j j1 KJ KK gl i (PR p.first p.size (.slice P1 n d1) (.slice P2 m d2)) (World.drew Wc) := HSc.out.below (Below.refl Wc.heap.size Wc).drew
          generalize World.drew Wc = Wd at k0 hs0 ⊢
          refine wpAnyH_take (i := 0) (oi := { dst := some 136, op := Op.load 29 (Operand.tmp 15), type := 29, pos := "law.go:145", after := #[], guard := none }) (v := .agg (B8 R).toArray) rfl (by kernel_rfl) (by kernel_rfl) (by kernel_rfl) (fun _ _ _ h => h) (Or.inl ⟨by rfl, fun W hW => exec_load_row _ _ 29 (.tmp 15) rfl ⟨gr, 0, none⟩ rfl (B8 R) W (run_loadVar_at W _ 29 (B8 R) (.array 16 5) (Blk.at hW.r) Tryd.underlying29 rfl (size29 _ HRl.out))⟩) hs0 ?_
          (try dsimp only [Act.put]); try simp only [z1, z2, z3]
          refine wpAnyH_take (i := 1) (oi := { dst := some 137, op := Op.move (Operand.tmp 26), type := 47, pos := "law.go:145", after := #[], guard := none }) (v := .slice (some ⟨gk, 0, none⟩) 3 3) rfl (by kernel_rfl) (by kernel_rfl) (by kernel_rfl) (fun _ _ _ h => h) (Or.inl ⟨by rfl, fun W hW => ?y2⟩) hs0 ?_
          case y2 => go_simp
          (try dsimp only [Act.put]); try simp only [z1, z2, z3]
          refine wpAnyH_take (i := 2) (oi := { dst := some 138, op := Op.move (Operand.tmp 28), type := 3, pos := "law.go:145", after := #[], guard := none }) (v := .int .i64 (j : Int)) rfl (by kernel_rfl) (by kernel_rfl) (by kernel_rfl) (fun _ _ _ h => h) (Or.inl ⟨by rfl, fun W hW => ?y3⟩) hs0 ?_
          case y3 => go_simp
          (try dsimp only [Act.put]); try simp only [z1, z2, z3]
          refine wpAnyH_take (i := 3) (oi := { dst := some 139, op := Op.indexAddr 47 (Operand.tmp 137) (Operand.tmp 138), type := 0, pos := "law.go:145", after := #[{ on := 1, ground := Ground.data }, { on := 2, ground := Ground.data }], guard := none }) (v := .pointer (some ⟨gk, j, none⟩)) rfl (by kernel_rfl) (by kernel_rfl) (by kernel_rfl) (fun _ _ _ h => h) (Or.inl ⟨by rfl, fun W hW => ?y4⟩) hs0 ?_
          case y4 => go_simp
          (try dsimp only [Act.put]); try simp only [z1, z2, z3]
          refine wpAnyH_take (i := 4) (oi := { dst := some 140, op := Op.load 9 (Operand.tmp 139), type := 9, pos := "law.go:145", after := #[{ on := 3, ground := Ground.data }], guard := none }) (v := .string KJ) rfl (by kernel_rfl) (by kernel_rfl) (by kernel_rfl) (fun _ _ _ h => h) (Or.inl ⟨by rfl, fun W hW => by have hcl := hW.k; go_simp⟩) hs0 ?_
          (try dsimp only [Act.put]); try simp only [z1, z2, z3]
          refine wpAnyH_take (i := 5) (oi := { dst := some 141, op := Op.move (Operand.tmp 25), type := 63, pos := "law.go:145", after := #[], guard := none }) (v := .slice (some ⟨gl, 0, none⟩) 8 8) rfl (by kernel_rfl) (by kernel_rfl) (by kernel_rfl) (fun _ _ _ h => h) (Or.inl ⟨by rfl, fun W hW => ?y6⟩) hs0 ?_
          case y6 => go_simp
          (try dsimp only [Act.put]); try simp only [z1, z2, z3]
          refine wpAnyH_take (i := 6) (oi := { dst := some 142, op := Op.move (Operand.tmp 27), type := 3, pos := "law.go:145", after := #[], guard := none }) (v := .int .i64 (i : Int)) rfl (by kernel_rfl) (by kernel_rfl) (by kernel_rfl) (fun _ _ _ h => h) (Or.inl ⟨by rfl, fun W hW => ?y7⟩) hs0 ?_
          case y7 => go_simp
          (try dsimp only [Act.put]); try simp only [z1, z2, z3]
          refine wpAnyH_take (i := 7) (oi := { dst := some 143, op := Op.indexAddr 63 (Operand.tmp 141) (Operand.tmp 142), type := 0, pos := "law.go:145", after := #[{ on := 5, ground := Ground.data }, { on := 6, ground := Ground.data }], guard := none }) (v := .pointer (some ⟨gl, i * 4, none⟩)) rfl (by kernel_rfl) (by kernel_rfl) (by kernel_rfl) (fun _ _ _ h => h) (Or.inl ⟨by rfl, fun W hW => ?y8⟩) hs0 ?_
          case y8 => go_simp
          (try dsimp only [Act.put]); try simp only [z1, z2, z3]
          refine wpAnyH_take (i := 8) (oi := { dst := some 144, op := Op.load 54 (Operand.tmp 143), type := 54, pos := "law.go:145", after := #[{ on := 7, ground := Ground.data }], guard := none }) (v := .agg (PR p.first p.size (.slice P1 n d1) (.slice P2 m d2)).toArray) rfl (by kernel_rfl) (by kernel_rfl) (by kernel_rfl) (fun _ _ _ h => h) (Or.inl ⟨by rfl, fun W hW => exec_load_row _ _ 54 (.tmp 143) rfl ⟨gl, i * 4, none⟩ rfl (PR p.first p.size (.slice P1 n d1) (.slice P2 m d2)) W (run_loadVar_at W _ 54 (PR p.first p.size (.slice P1 n d1) (.slice P2 m d2)) _ (hW.p) Tryd.underlying54 rfl (size54L _ _ _ _))⟩) hs0 ?_
          (try dsimp only [Act.put]); try simp only [z1, z2, z3]
          refine wpAnyH_ready (rs := [9]) (by kernel_rfl) (by simp) ?_
          refine AllReadyH.cons (o := { dst := some 145, op := Op.call { callee := Callee.value (Operand.func 31), args := #[Operand.tmp 136, Operand.tmp 140, Operand.tmp 144], argTypes := #[29, 9, 54] }, type := 64, pos := "law.go:145", after := #[{ on := 0, ground := Ground.data }, { on := 4, ground := Ground.data }, { on := 8, ground := Ground.data }], guard := none }) rfl (fun K hK => ?_) AllReadyH.nil
          rw [if_pos (by rfl)]
          have HCC := HCK2.out Wd (KS.out.trans (k0.out.mono KS.out.size))
          go_simp
          refine HCC.mono ?_; rintro e w10 ⟨rfl, hbt⟩
          clear HCC
          have k11 := Lib.hid (k0.out.trans (hbt.mono k0.out.size))
          have hs12 := hs0.below hbt
          clear hbt
          go_wp2_with fail
          refine hK.out _ _ hs12 (fun _ => ?_)
          clear hK K
          (try dsimp only [Act.put]); try simp only [z1, z2, z3]
          refine wpAnyH_take (i := 10) (oi := { dst := some 135, op := Op.move (Operand.tmp 145), type := 64, pos := "law.go:145", after := #[{ on := 9, ground := Ground.data }], guard := none }) (v := .tuple #[.string rv, .bool ri, .int .i64 re]) rfl (by kernel_rfl) (by kernel_rfl) (by kernel_rfl) (fun _ _ _ h => h) (Or.inl ⟨by rfl, fun W hW => ?y13⟩) hs12 ?_
          case y13 => go_simp
          (try dsimp only [Act.put]); try simp only [z1, z2, z3]
          refine wpAnyH_take (i := 11) (oi := { dst := some 146, op := Op.extract (Operand.tmp 135) 0, type := 9, pos := "law.go:145", after := #[{ on := 10, ground := Ground.data }], guard := none }) (v := .string rv) rfl (by kernel_rfl) (by kernel_rfl) (by kernel_rfl) (fun _ _ _ h => h) (Or.inl ⟨by rfl, fun W hW => ?y14⟩) hs12 ?_
          case y14 => go_simp
          (try dsimp only [Act.put]); try simp only [z1, z2, z3]
          refine wpAnyH_take (i := 12) (oi := { dst := some 147, op := Op.extract (Operand.tmp 135) 1, type := 4, pos := "law.go:145", after := #[{ on := 10, ground := Ground.data }, { on := 14, ground := Ground.gcOnly Departure.lateStores }], guard := none }) (v := .bool ri) rfl (by kernel_rfl) (by kernel_rfl) (by kernel_rfl) (fun _ _ _ h => h) (Or.inl ⟨by rfl, fun W hW => ?y15⟩) hs12 ?_
          case y15 => go_simp
          (try dsimp only [Act.put]); try simp only [z1, z2, z3]
          refine wpAnyH_take (i := 13) (oi := { dst := some 148, op := Op.extract (Operand.tmp 135) 2, type := 30, pos := "law.go:145", after := #[{ on := 10, ground := Ground.data }, { on := 15, ground := Ground.gcOnly Departure.lateStores }], guard := none }) (v := .int .i64 re) rfl (by kernel_rfl) (by kernel_rfl) (by kernel_rfl) (fun _ _ _ h => h) (Or.inl ⟨by rfl, fun W hW => ?y16⟩) hs12 ?_
          case y16 => go_simp
          (try dsimp only [Act.put]); try simp only [z1, z2, z3]
          refine wpAnyH_take (i := 14) (oi := { dst := some 32, op := Op.assign (Operand.tmp 146), type := 9, pos := "law.go:145", after := #[{ on := 11, ground := Ground.data }, { on := 9, ground := Ground.chain }, { on := 0, ground := Ground.phase }, { on := 1, ground := Ground.phase }, { on := 2, ground := Ground.phase }, { on := 3, ground := Ground.phase }, { on := 4, ground := Ground.phase }, { on := 5, ground := Ground.phase }, { on := 6, ground := Ground.phase }, { on := 7, ground := Ground.phase }, { on := 8, ground := Ground.phase }, { on := 9, ground := Ground.phase }, { on := 10, ground := Ground.phase }, { on := 11, ground := Ground.phase }, { on := 12, ground := Ground.textOnly Departure.lateStores }, { on := 13, ground := Ground.textOnly Departure.lateStores }], guard := none }) (v := .string rv) rfl (by kernel_rfl) (by kernel_rfl) (by kernel_rfl) (fun _ _ _ h => h) (Or.inl ⟨by rfl, fun W hW => ?y17⟩) hs12 ?_
          case y17 => go_simp
          (try dsimp only [Act.put]); try simp only [z1, z2, z3]
          refine wpAnyH_take (i := 15) (oi := { dst := some 33, op := Op.assign (Operand.tmp 147), type := 4, pos := "law.go:145", after := #[{ on := 12, ground := Ground.data }, { on := 14, ground := Ground.chain }, { on := 0, ground := Ground.phase }, { on := 1, ground := Ground.phase }, { on := 2, ground := Ground.phase }, { on := 3, ground := Ground.phase }, { on := 4, ground := Ground.phase }, { on := 5, ground := Ground.phase }, { on := 6, ground := Ground.phase }, { on := 7, ground := Ground.phase }, { on := 8, ground := Ground.phase }, { on := 9, ground := Ground.phase }, { on := 10, ground := Ground.phase }, { on := 11, ground := Ground.phase }, { on := 12, ground := Ground.phase }, { on := 13, ground := Ground.textOnly Departure.lateStores }, { on := 14, ground := Ground.phase }], guard := none }) (v := .bool ri) rfl (by kernel_rfl) (by kernel_rfl) (by kernel_rfl) (fun _ _ _ h => h) (Or.inl ⟨by rfl, fun W hW => ?y18⟩) hs12 ?_
          case y18 => go_simp
          (try dsimp only [Act.put]); try simp only [z1, z2, z3]
          refine wpAnyH_take (i := 16) (oi := { dst := some 34, op := Op.assign (Operand.tmp 148), type := 30, pos := "law.go:145", after := #[{ on := 13, ground := Ground.data }, { on := 15, ground := Ground.chain }, { on := 0, ground := Ground.phase }, { on := 1, ground := Ground.phase }, { on := 2, ground := Ground.phase }, { on := 3, ground := Ground.phase }, { on := 4, ground := Ground.phase }, { on := 5, ground := Ground.phase }, { on := 6, ground := Ground.phase }, { on := 7, ground := Ground.phase }, { on := 8, ground := Ground.phase }, { on := 9, ground := Ground.phase }, { on := 10, ground := Ground.phase }, { on := 11, ground := Ground.phase }, { on := 12, ground := Ground.phase }, { on := 13, ground := Ground.phase }, { on := 14, ground := Ground.phase }, { on := 15, ground := Ground.phase }], guard := none }) (v := .int .i64 re) rfl (by kernel_rfl) (by kernel_rfl) (by kernel_rfl) (fun _ _ _ h => h) (Or.inl ⟨by rfl, fun W hW => ?y19⟩) hs12 ?_
          case y19 => go_simp
          (try dsimp only [Act.put]); try simp only [z1, z2, z3]
          refine wpAnyH_done (by kernel_rfl) ?_ _
          (try dsimp only [Act.put]); try simp only [z1, z2, z3]
          have KE := k11
          go_wp2_with fail
          go_meet
          exact ⟨rfl, rfl, rfl, KE⟩
      case rest =>
      obtain ⟨rfl, rfl, rfl, KE⟩ := hcut
      obtain ⟨w19, hw19⟩ : ∃ W, W = wc := ⟨_, rfl⟩
      rw [← hw19] at KE ⊢
      have K19 := Lib.hid (KS.out.trans (KE.out.mono KS.out.size))
      clear KE hw19 KS HSc HCK2
      go_upto_region 19 with fail
      have KS := K19
      have HSc := Lib.hid (HS0.out.below KS.out)
      obtain ⟨Wc, hWc⟩ : ∃ W, W = w19 := ⟨_, rfl⟩
      rw [← hWc] at KS HSc ⊢
      clear hWc
      go_cut [35, 36] from 114 to 212 (fun s35 s36 wx => ∃ As ns cs, s35 = .slice As ns cs ∧ s36 = .int .i64 ge ∧ Hid ((ns = Ls.length ∧ Rd wx wx.heap.size As (LC Ls)) ∧ Below Wc.heap.size Wc wx))
      case first =>
        as_aux_lemma =>
          refine wp_region_held (S := fun W => At5 R gr gk j j1 KJ KK gl i (PR p.first p.size (.slice P1 n d1) (.slice P2 m d2)) W) (by kernel_rfl) ?_
          change wpAnyH _ _ _ _ _ _ _ _ (World.drew Wc)
          have k0 := Lib.hid (Below.refl Wc.heap.size Wc).drew
          have hs0 : At5 R gr gk j j1 KJ KK gl i (PR p.first p.size (.slice P1 n d1) (.slice P2 m d2)) (World.drew Wc) := HSc.out.below (Below.refl Wc.heap.size Wc).drew
          generalize World.drew Wc = Wd at k0 hs0 ⊢
          refine wpAnyH_take (i := 0) (oi := { dst := some 150, op := Op.load 29 (Operand.tmp 15), type := 29, pos := "law.go:146", after := #[], guard := none }) (v := .agg (B8 R).toArray) rfl (by kernel_rfl) (by kernel_rfl) (by kernel_rfl) (fun _ _ _ h => h) (Or.inl ⟨by rfl, fun W hW => exec_load_row _ _ 29 (.tmp 15) rfl ⟨gr, 0, none⟩ rfl (B8 R) W (run_loadVar_at W _ 29 (B8 R) (.array 16 5) (Blk.at hW.r) Tryd.underlying29 rfl (size29 _ HRl.out))⟩) hs0 ?_
          (try dsimp only [Act.put]); try simp only [z1, z2, z3]
          refine wpAnyH_take (i := 1) (oi := { dst := some 151, op := Op.move (Operand.tmp 26), type := 47, pos := "law.go:146", after := #[], guard := none }) (v := .slice (some ⟨gk, 0, none⟩) 3 3) rfl (by kernel_rfl) (by kernel_rfl) (by kernel_rfl) (fun _ _ _ h => h) (Or.inl ⟨by rfl, fun W hW => ?y2⟩) hs0 ?_
          case y2 => go_simp
          (try dsimp only [Act.put]); try simp only [z1, z2, z3]
          refine wpAnyH_take (i := 2) (oi := { dst := some 152, op := Op.move (Operand.tmp 28), type := 3, pos := "law.go:146", after := #[], guard := none }) (v := .int .i64 (j : Int)) rfl (by kernel_rfl) (by kernel_rfl) (by kernel_rfl) (fun _ _ _ h => h) (Or.inl ⟨by rfl, fun W hW => ?y3⟩) hs0 ?_
          case y3 => go_simp
          (try dsimp only [Act.put]); try simp only [z1, z2, z3]
          refine wpAnyH_take (i := 3) (oi := { dst := some 153, op := Op.indexAddr 47 (Operand.tmp 151) (Operand.tmp 152), type := 0, pos := "law.go:146", after := #[{ on := 1, ground := Ground.data }, { on := 2, ground := Ground.data }], guard := none }) (v := .pointer (some ⟨gk, j, none⟩)) rfl (by kernel_rfl) (by kernel_rfl) (by kernel_rfl) (fun _ _ _ h => h) (Or.inl ⟨by rfl, fun W hW => ?y4⟩) hs0 ?_
          case y4 => go_simp
          (try dsimp only [Act.put]); try simp only [z1, z2, z3]
          refine wpAnyH_take (i := 4) (oi := { dst := some 154, op := Op.load 9 (Operand.tmp 153), type := 9, pos := "law.go:146", after := #[{ on := 3, ground := Ground.data }], guard := none }) (v := .string KJ) rfl (by kernel_rfl) (by kernel_rfl) (by kernel_rfl) (fun _ _ _ h => h) (Or.inl ⟨by rfl, fun W hW => by have hcl := hW.k; go_simp⟩) hs0 ?_
          (try dsimp only [Act.put]); try simp only [z1, z2, z3]
          refine wpAnyH_take (i := 5) (oi := { dst := some 155, op := Op.move (Operand.tmp 26), type := 47, pos := "law.go:146", after := #[], guard := none }) (v := .slice (some ⟨gk, 0, none⟩) 3 3) rfl (by kernel_rfl) (by kernel_rfl) (by kernel_rfl) (fun _ _ _ h => h) (Or.inl ⟨by rfl, fun W hW => ?y6⟩) hs0 ?_
          case y6 => go_simp
          (try dsimp only [Act.put]); try simp only [z1, z2, z3]
          refine wpAnyH_take (i := 6) (oi := { dst := some 156, op := Op.move (Operand.tmp 28), type := 3, pos := "law.go:146", after := #[], guard := none }) (v := .int .i64 (j : Int)) rfl (by kernel_rfl) (by kernel_rfl) (by kernel_rfl) (fun _ _ _ h => h) (Or.inl ⟨by rfl, fun W hW => ?y7⟩) hs0 ?_
          case y7 => go_simp
          (try dsimp only [Act.put]); try simp only [z1, z2, z3]
          refine wpAnyH_take (i := 7) (oi := { dst := some 157, op := Op.binOp BinOp.add 3 (Operand.tmp 156) (Operand.const (Value.int IntKind.i64 1)) 3, type := 3, pos := "law.go:146", after := #[{ on := 6, ground := Ground.data }], guard := none }) (v := .int .i64 ((j : Int) + 1)) rfl (by kernel_rfl) (by kernel_rfl) (by kernel_rfl) (fun _ _ _ h => h) (Or.inl ⟨by rfl, fun W hW => by go_simp; first | done | exact IntWalk.i64_in _ (by omega)⟩) hs0 ?_
          (try dsimp only [Act.put]); try simp only [z1, z2, z3]
          refine wpAnyH_take (i := 8) (oi := { dst := some 158, op := Op.binOp BinOp.rem 3 (Operand.tmp 157) (Operand.const (Value.int IntKind.i64 3)) 3, type := 3, pos := "law.go:146", after := #[{ on := 7, ground := Ground.data }], guard := none }) (v := .int .i64 (j1 : Int)) rfl (by kernel_rfl) (by kernel_rfl) (by kernel_rfl) (fun _ _ _ h => h) (Or.inl ⟨by rfl, fun W hW => by have hj1 := HJ1.out; go_simp; first | done | exact hj1 | (rw [hj1])⟩) hs0 ?_
          (try dsimp only [Act.put]); try simp only [z1, z2, z3]
          refine wpAnyH_take (i := 9) (oi := { dst := some 159, op := Op.indexAddr 47 (Operand.tmp 155) (Operand.tmp 158), type := 0, pos := "law.go:146", after := #[{ on := 5, ground := Ground.data }, { on := 8, ground := Ground.data }], guard := none }) (v := .pointer (some ⟨gk, j1, none⟩)) rfl (by kernel_rfl) (by kernel_rfl) (by kernel_rfl) (fun _ _ _ h => h) (Or.inl ⟨by rfl, fun W hW => ?y10⟩) hs0 ?_
          case y10 => go_simp
          (try dsimp only [Act.put]); try simp only [z1, z2, z3]
          refine wpAnyH_take (i := 10) (oi := { dst := some 160, op := Op.load 9 (Operand.tmp 159), type := 9, pos := "law.go:146", after := #[{ on := 9, ground := Ground.data }], guard := none }) (v := .string KK) rfl (by kernel_rfl) (by kernel_rfl) (by kernel_rfl) (fun _ _ _ h => h) (Or.inl ⟨by rfl, fun W hW => by have hcl := hW.k1; go_simp⟩) hs0 ?_
          (try dsimp only [Act.put]); try simp only [z1, z2, z3]
          refine wpAnyH_take (i := 11) (oi := { dst := some 161, op := Op.move (Operand.tmp 25), type := 63, pos := "law.go:146", after := #[], guard := none }) (v := .slice (some ⟨gl, 0, none⟩) 8 8) rfl (by kernel_rfl) (by kernel_rfl) (by kernel_rfl) (fun _ _ _ h => h) (Or.inl ⟨by rfl, fun W hW => ?y12⟩) hs0 ?_
          case y12 => go_simp
          (try dsimp only [Act.put]); try simp only [z1, z2, z3]
          refine wpAnyH_take (i := 12) (oi := { dst := some 162, op := Op.move (Operand.tmp 27), type := 3, pos := "law.go:146", after := #[], guard := none }) (v := .int .i64 (i : Int)) rfl (by kernel_rfl) (by kernel_rfl) (by kernel_rfl) (fun _ _ _ h => h) (Or.inl ⟨by rfl, fun W hW => ?y13⟩) hs0 ?_
          case y13 => go_simp
          (try dsimp only [Act.put]); try simp only [z1, z2, z3]
          refine wpAnyH_take (i := 13) (oi := { dst := some 163, op := Op.indexAddr 63 (Operand.tmp 161) (Operand.tmp 162), type := 0, pos := "law.go:146", after := #[{ on := 11, ground := Ground.data }, { on := 12, ground := Ground.data }], guard := none }) (v := .pointer (some ⟨gl, i * 4, none⟩)) rfl (by kernel_rfl) (by kernel_rfl) (by kernel_rfl) (fun _ _ _ h => h) (Or.inl ⟨by rfl, fun W hW => ?y14⟩) hs0 ?_
          case y14 => go_simp
          (try dsimp only [Act.put]); try simp only [z1, z2, z3]
          refine wpAnyH_take (i := 14) (oi := { dst := some 164, op := Op.load 54 (Operand.tmp 163), type := 54, pos := "law.go:146", after := #[{ on := 13, ground := Ground.data }], guard := none }) (v := .agg (PR p.first p.size (.slice P1 n d1) (.slice P2 m d2)).toArray) rfl (by kernel_rfl) (by kernel_rfl) (by kernel_rfl) (fun _ _ _ h => h) (Or.inl ⟨by rfl, fun W hW => exec_load_row _ _ 54 (.tmp 163) rfl ⟨gl, i * 4, none⟩ rfl (PR p.first p.size (.slice P1 n d1) (.slice P2 m d2)) W (run_loadVar_at W _ 54 (PR p.first p.size (.slice P1 n d1) (.slice P2 m d2)) _ (hW.p) Tryd.underlying54 rfl (size54L _ _ _ _))⟩) hs0 ?_
          (try dsimp only [Act.put]); try simp only [z1, z2, z3]
          refine wpAnyH_ready (rs := [15]) (by kernel_rfl) (by simp) ?_
          refine AllReadyH.cons (o := { dst := some 165, op := Op.call { callee := Callee.value (Operand.func 30), args := #[Operand.tmp 164], argTypes := #[54] }, type := 50, pos := "law.go:146", after := #[{ on := 14, ground := Ground.data }], guard := none }) rfl (fun K hK => ?_) AllReadyH.nil
          rw [if_pos (by rfl)]
          have HCC := HPF.out Wd (KS.out.trans (k0.out.mono KS.out.size))
          go_simp
          refine HCC.mono ?_; rintro e w16 ⟨A9, c9, rfl, hpa, hbt⟩
          clear HCC
          have k17 := Lib.hid (k0.out.trans (hbt.mono k0.out.size))
          have hs18 := hs0.below hbt
          have O9 := Lib.hid hpa
          clear hpa
          clear hbt
          go_wp2_with fail
          refine hK.out _ _ hs18 (fun _ => ?_)
          clear hK K
          (try dsimp only [Act.put]); try simp only [z1, z2, z3]
          refine wpAnyH_ready (rs := [16]) (by kernel_rfl) (by simp) ?_
          refine AllReadyH.cons (o := { dst := some 166, op := Op.call { callee := Callee.value (Operand.func 32), args := #[Operand.tmp 150, Operand.tmp 154, Operand.tmp 160, Operand.tmp 165], argTypes := #[29, 9, 9, 50] }, type := 68, pos := "law.go:146", after := #[{ on := 0, ground := Ground.data }, { on := 4, ground := Ground.data }, { on := 10, ground := Ground.data }, { on := 15, ground := Ground.data }, { on := 15, ground := Ground.chain }], guard := none }) rfl (fun K hK => ?_) AllReadyH.nil
          rw [if_pos (by rfl)]
          have HCC := HCR.out w16 A9 c9 O9.out (KS.out.trans (k17.out.mono KS.out.size))
          go_simp
          refine HCC.mono ?_; rintro e w19 ⟨As, ns, cs, rfl, hls, hbt⟩
          clear HCC
          have k20 := Lib.hid (k17.out.trans (hbt.mono k17.out.size))
          have hs21 := hs18.below hbt
          have LSS := Lib.hid hls
          clear hls
          clear hbt
          go_wp2_with fail
          refine hK.out _ _ hs21 (fun _ => ?_)
          clear hK K
          (try dsimp only [Act.put]); try simp only [z1, z2, z3]
          refine wpAnyH_take (i := 17) (oi := { dst := some 149, op := Op.move (Operand.tmp 166), type := 68, pos := "law.go:146", after := #[{ on := 16, ground := Ground.data }], guard := none }) (v := .tuple #[.slice As ns cs, .int .i64 ge]) rfl (by kernel_rfl) (by kernel_rfl) (by kernel_rfl) (fun _ _ _ h => h) (Or.inl ⟨by rfl, fun W hW => ?y22⟩) hs21 ?_
          case y22 => go_simp
          (try dsimp only [Act.put]); try simp only [z1, z2, z3]
          refine wpAnyH_take (i := 18) (oi := { dst := some 167, op := Op.extract (Operand.tmp 149) 0, type := 33, pos := "law.go:146", after := #[{ on := 17, ground := Ground.data }], guard := none }) (v := .slice As ns cs) rfl (by kernel_rfl) (by kernel_rfl) (by kernel_rfl) (fun _ _ _ h => h) (Or.inl ⟨by rfl, fun W hW => ?y23⟩) hs21 ?_
          case y23 => go_simp
          (try dsimp only [Act.put]); try simp only [z1, z2, z3]
          refine wpAnyH_take (i := 19) (oi := { dst := some 168, op := Op.extract (Operand.tmp 149) 1, type := 30, pos := "law.go:146", after := #[{ on := 17, ground := Ground.data }, { on := 20, ground := Ground.gcOnly Departure.lateStores }], guard := none }) (v := .int .i64 ge) rfl (by kernel_rfl) (by kernel_rfl) (by kernel_rfl) (fun _ _ _ h => h) (Or.inl ⟨by rfl, fun W hW => ?y24⟩) hs21 ?_
          case y24 => go_simp
          (try dsimp only [Act.put]); try simp only [z1, z2, z3]
          refine wpAnyH_take (i := 20) (oi := { dst := some 35, op := Op.assign (Operand.tmp 167), type := 33, pos := "law.go:146", after := #[{ on := 18, ground := Ground.data }, { on := 16, ground := Ground.chain }, { on := 0, ground := Ground.phase }, { on := 1, ground := Ground.phase }, { on := 2, ground := Ground.phase }, { on := 3, ground := Ground.phase }, { on := 4, ground := Ground.phase }, { on := 5, ground := Ground.phase }, { on := 6, ground := Ground.phase }, { on := 7, ground := Ground.phase }, { on := 8, ground := Ground.phase }, { on := 9, ground := Ground.phase }, { on := 10, ground := Ground.phase }, { on := 11, ground := Ground.phase }, { on := 12, ground := Ground.phase }, { on := 13, ground := Ground.phase }, { on := 14, ground := Ground.phase }, { on := 15, ground := Ground.phase }, { on := 16, ground := Ground.phase }, { on := 17, ground := Ground.phase }, { on := 18, ground := Ground.phase }, { on := 19, ground := Ground.textOnly Departure.lateStores }], guard := none }) (v := .slice As ns cs) rfl (by kernel_rfl) (by kernel_rfl) (by kernel_rfl) (fun _ _ _ h => h) (Or.inl ⟨by rfl, fun W hW => ?y25⟩) hs21 ?_
          case y25 => go_simp
          (try dsimp only [Act.put]); try simp only [z1, z2, z3]
          refine wpAnyH_take (i := 21) (oi := { dst := some 36, op := Op.assign (Operand.tmp 168), type := 30, pos := "law.go:146", after := #[{ on := 19, ground := Ground.data }, { on := 20, ground := Ground.chain }, { on := 0, ground := Ground.phase }, { on := 1, ground := Ground.phase }, { on := 2, ground := Ground.phase }, { on := 3, ground := Ground.phase }, { on := 4, ground := Ground.phase }, { on := 5, ground := Ground.phase }, { on := 6, ground := Ground.phase }, { on := 7, ground := Ground.phase }, { on := 8, ground := Ground.phase }, { on := 9, ground := Ground.phase }, { on := 10, ground := Ground.phase }, { on := 11, ground := Ground.phase }, { on := 12, ground := Ground.phase }, { on := 13, ground := Ground.phase }, { on := 14, ground := Ground.phase }, { on := 15, ground := Ground.phase }, { on := 16, ground := Ground.phase }, { on := 17, ground := Ground.phase }, { on := 18, ground := Ground.phase }, { on := 19, ground := Ground.phase }, { on := 20, ground := Ground.phase }], guard := none }) (v := .int .i64 ge) rfl (by kernel_rfl) (by kernel_rfl) (by kernel_rfl) (fun _ _ _ h => h) (Or.inl ⟨by rfl, fun W hW => ?y26⟩) hs21 ?_
          case y26 => go_simp
          (try dsimp only [Act.put]); try simp only [z1, z2, z3]
          refine wpAnyH_done (by kernel_rfl) ?_ _
          (try dsimp only [Act.put]); try simp only [z1, z2, z3]
          have KE := k20
          go_wp2_with fail
          go_meet
          exact ⟨As, ns, cs, rfl, rfl, Lib.hid ⟨LSS.out, KE.out⟩⟩
      case rest =>
      obtain ⟨As, ns, cs, rfl, rfl, KE⟩ := hcut
      obtain ⟨w20, hw20⟩ : ∃ W, W = wc := ⟨_, rfl⟩
      rw [← hw20] at KE ⊢
      have K20 := Lib.hid (KS.out.trans (KE.out.2.mono KS.out.size))
      have HAs := Lib.hid KE.out.1
      clear KE hw20 KS HSc HCR HPF
      obtain ⟨A0, hA0⟩ : ∃ x, x = As := ⟨_, rfl⟩
      obtain ⟨n0, hn0⟩ : ∃ x, x = ns := ⟨_, rfl⟩
      obtain ⟨c0, hc0⟩ : ∃ x, x = cs := ⟨_, rfl⟩
      rw [← hA0, ← hn0] at HAs
      rw [← hA0, ← hn0, ← hc0]
      clear hA0 hn0 hc0
      go_upto_region 20 with fail
      have KS := K20
      have HSc := Lib.hid (HS0.out.below KS.out)
      obtain ⟨Wc, hWc⟩ : ∃ W, W = w20 := ⟨_, rfl⟩
      rw [← hWc] at KS HSc HAs ⊢
      clear hWc
      go_cut [37, 38] from 114 to 212 (fun s37 s38 wx => ∃ As ns cs, s37 = .slice As ns cs ∧ s38 = .int .i64 ge ∧ Hid ((ns = Ls.length ∧ Rd wx wx.heap.size As (LC Ls)) ∧ Below Wc.heap.size Wc wx))
      case first =>
        as_aux_lemma =>
          refine wp_region_held (S := fun W => At5 R gr gk j j1 KJ KK gl i (PR p.first p.size (.slice P1 n d1) (.slice P2 m d2)) W) (by kernel_rfl) ?_
          change wpAnyH _ _ _ _ _ _ _ _ (World.drew Wc)
          have k0 := Lib.hid (Below.refl Wc.heap.size Wc).drew
          have hs0 : At5 R gr gk j j1 KJ KK gl i (PR p.first p.size (.slice P1 n d1) (.slice P2 m d2)) (World.drew Wc) := HSc.out.below (Below.refl Wc.heap.size Wc).drew
          generalize World.drew Wc = Wd at k0 hs0 ⊢
          refine wpAnyH_take (i := 0) (oi := { dst := some 170, op := Op.load 29 (Operand.tmp 15), type := 29, pos := "law.go:147", after := #[], guard := none }) (v := .agg (B8 R).toArray) rfl (by kernel_rfl) (by kernel_rfl) (by kernel_rfl) (fun _ _ _ h => h) (Or.inl ⟨by rfl, fun W hW => exec_load_row _ _ 29 (.tmp 15) rfl ⟨gr, 0, none⟩ rfl (B8 R) W (run_loadVar_at W _ 29 (B8 R) (.array 16 5) (Blk.at hW.r) Tryd.underlying29 rfl (size29 _ HRl.out))⟩) hs0 ?_
          (try dsimp only [Act.put]); try simp only [z1, z2, z3]
          refine wpAnyH_take (i := 1) (oi := { dst := some 171, op := Op.move (Operand.tmp 26), type := 47, pos := "law.go:147", after := #[], guard := none }) (v := .slice (some ⟨gk, 0, none⟩) 3 3) rfl (by kernel_rfl) (by kernel_rfl) (by kernel_rfl) (fun _ _ _ h => h) (Or.inl ⟨by rfl, fun W hW => ?y2⟩) hs0 ?_
          case y2 => go_simp
          (try dsimp only [Act.put]); try simp only [z1, z2, z3]
          refine wpAnyH_take (i := 2) (oi := { dst := some 172, op := Op.move (Operand.tmp 28), type := 3, pos := "law.go:147", after := #[], guard := none }) (v := .int .i64 (j : Int)) rfl (by kernel_rfl) (by kernel_rfl) (by kernel_rfl) (fun _ _ _ h => h) (Or.inl ⟨by rfl, fun W hW => ?y3⟩) hs0 ?_
          case y3 => go_simp
          (try dsimp only [Act.put]); try simp only [z1, z2, z3]
          refine wpAnyH_take (i := 3) (oi := { dst := some 173, op := Op.indexAddr 47 (Operand.tmp 171) (Operand.tmp 172), type := 0, pos := "law.go:147", after := #[{ on := 1, ground := Ground.data }, { on := 2, ground := Ground.data }], guard := none }) (v := .pointer (some ⟨gk, j, none⟩)) rfl (by kernel_rfl) (by kernel_rfl) (by kernel_rfl) (fun _ _ _ h => h) (Or.inl ⟨by rfl, fun W hW => ?y4⟩) hs0 ?_
          case y4 => go_simp
          (try dsimp only [Act.put]); try simp only [z1, z2, z3]
          refine wpAnyH_take (i := 4) (oi := { dst := some 174, op := Op.load 9 (Operand.tmp 173), type := 9, pos := "law.go:147", after := #[{ on := 3, ground := Ground.data }], guard := none }) (v := .string KJ) rfl (by kernel_rfl) (by kernel_rfl) (by kernel_rfl) (fun _ _ _ h => h) (Or.inl ⟨by rfl, fun W hW => by have hcl := hW.k; go_simp⟩) hs0 ?_
          (try dsimp only [Act.put]); try simp only [z1, z2, z3]
          refine wpAnyH_take (i := 5) (oi := { dst := some 175, op := Op.move (Operand.tmp 26), type := 47, pos := "law.go:147", after := #[], guard := none }) (v := .slice (some ⟨gk, 0, none⟩) 3 3) rfl (by kernel_rfl) (by kernel_rfl) (by kernel_rfl) (fun _ _ _ h => h) (Or.inl ⟨by rfl, fun W hW => ?y6⟩) hs0 ?_
          case y6 => go_simp
          (try dsimp only [Act.put]); try simp only [z1, z2, z3]
          refine wpAnyH_take (i := 6) (oi := { dst := some 176, op := Op.move (Operand.tmp 28), type := 3, pos := "law.go:147", after := #[], guard := none }) (v := .int .i64 (j : Int)) rfl (by kernel_rfl) (by kernel_rfl) (by kernel_rfl) (fun _ _ _ h => h) (Or.inl ⟨by rfl, fun W hW => ?y7⟩) hs0 ?_
          case y7 => go_simp
          (try dsimp only [Act.put]); try simp only [z1, z2, z3]
          refine wpAnyH_take (i := 7) (oi := { dst := some 177, op := Op.binOp BinOp.add 3 (Operand.tmp 176) (Operand.const (Value.int IntKind.i64 1)) 3, type := 3, pos := "law.go:147", after := #[{ on := 6, ground := Ground.data }], guard := none }) (v := .int .i64 ((j : Int) + 1)) rfl (by kernel_rfl) (by kernel_rfl) (by kernel_rfl) (fun _ _ _ h => h) (Or.inl ⟨by rfl, fun W hW => by go_simp; first | done | exact IntWalk.i64_in _ (by omega)⟩) hs0 ?_
          (try dsimp only [Act.put]); try simp only [z1, z2, z3]
          refine wpAnyH_take (i := 8) (oi := { dst := some 178, op := Op.binOp BinOp.rem 3 (Operand.tmp 177) (Operand.const (Value.int IntKind.i64 3)) 3, type := 3, pos := "law.go:147", after := #[{ on := 7, ground := Ground.data }], guard := none }) (v := .int .i64 (j1 : Int)) rfl (by kernel_rfl) (by kernel_rfl) (by kernel_rfl) (fun _ _ _ h => h) (Or.inl ⟨by rfl, fun W hW => by have hj1 := HJ1.out; go_simp; first | done | exact hj1 | (rw [hj1])⟩) hs0 ?_
          (try dsimp only [Act.put]); try simp only [z1, z2, z3]
          refine wpAnyH_take (i := 9) (oi := { dst := some 179, op := Op.indexAddr 47 (Operand.tmp 175) (Operand.tmp 178), type := 0, pos := "law.go:147", after := #[{ on := 5, ground := Ground.data }, { on := 8, ground := Ground.data }], guard := none }) (v := .pointer (some ⟨gk, j1, none⟩)) rfl (by kernel_rfl) (by kernel_rfl) (by kernel_rfl) (fun _ _ _ h => h) (Or.inl ⟨by rfl, fun W hW => ?y10⟩) hs0 ?_
          case y10 => go_simp
          (try dsimp only [Act.put]); try simp only [z1, z2, z3]
          refine wpAnyH_take (i := 10) (oi := { dst := some 180, op := Op.load 9 (Operand.tmp 179), type := 9, pos := "law.go:147", after := #[{ on := 9, ground := Ground.data }], guard := none }) (v := .string KK) rfl (by kernel_rfl) (by kernel_rfl) (by kernel_rfl) (fun _ _ _ h => h) (Or.inl ⟨by rfl, fun W hW => by have hcl := hW.k1; go_simp⟩) hs0 ?_
          (try dsimp only [Act.put]); try simp only [z1, z2, z3]
          refine wpAnyH_take (i := 11) (oi := { dst := some 181, op := Op.move (Operand.tmp 25), type := 63, pos := "law.go:147", after := #[], guard := none }) (v := .slice (some ⟨gl, 0, none⟩) 8 8) rfl (by kernel_rfl) (by kernel_rfl) (by kernel_rfl) (fun _ _ _ h => h) (Or.inl ⟨by rfl, fun W hW => ?y12⟩) hs0 ?_
          case y12 => go_simp
          (try dsimp only [Act.put]); try simp only [z1, z2, z3]
          refine wpAnyH_take (i := 12) (oi := { dst := some 182, op := Op.move (Operand.tmp 27), type := 3, pos := "law.go:147", after := #[], guard := none }) (v := .int .i64 (i : Int)) rfl (by kernel_rfl) (by kernel_rfl) (by kernel_rfl) (fun _ _ _ h => h) (Or.inl ⟨by rfl, fun W hW => ?y13⟩) hs0 ?_
          case y13 => go_simp
          (try dsimp only [Act.put]); try simp only [z1, z2, z3]
          refine wpAnyH_take (i := 13) (oi := { dst := some 183, op := Op.indexAddr 63 (Operand.tmp 181) (Operand.tmp 182), type := 0, pos := "law.go:147", after := #[{ on := 11, ground := Ground.data }, { on := 12, ground := Ground.data }], guard := none }) (v := .pointer (some ⟨gl, i * 4, none⟩)) rfl (by kernel_rfl) (by kernel_rfl) (by kernel_rfl) (fun _ _ _ h => h) (Or.inl ⟨by rfl, fun W hW => ?y14⟩) hs0 ?_
          case y14 => go_simp
          (try dsimp only [Act.put]); try simp only [z1, z2, z3]
          refine wpAnyH_take (i := 14) (oi := { dst := some 184, op := Op.load 54 (Operand.tmp 183), type := 54, pos := "law.go:147", after := #[{ on := 13, ground := Ground.data }], guard := none }) (v := .agg (PR p.first p.size (.slice P1 n d1) (.slice P2 m d2)).toArray) rfl (by kernel_rfl) (by kernel_rfl) (by kernel_rfl) (fun _ _ _ h => h) (Or.inl ⟨by rfl, fun W hW => exec_load_row _ _ 54 (.tmp 183) rfl ⟨gl, i * 4, none⟩ rfl (PR p.first p.size (.slice P1 n d1) (.slice P2 m d2)) W (run_loadVar_at W _ 54 (PR p.first p.size (.slice P1 n d1) (.slice P2 m d2)) _ (hW.p) Tryd.underlying54 rfl (size54L _ _ _ _))⟩) hs0 ?_
          (try dsimp only [Act.put]); try simp only [z1, z2, z3]
          refine wpAnyH_ready (rs := [15]) (by kernel_rfl) (by simp) ?_
          refine AllReadyH.cons (o := { dst := some 185, op := Op.call { callee := Callee.value (Operand.func 33), args := #[Operand.tmp 170, Operand.tmp 174, Operand.tmp 180, Operand.tmp 184], argTypes := #[29, 9, 9, 54] }, type := 70, pos := "law.go:147", after := #[{ on := 0, ground := Ground.data }, { on := 4, ground := Ground.data }, { on := 10, ground := Ground.data }, { on := 14, ground := Ground.data }], guard := none }) rfl (fun K hK => ?_) AllReadyH.nil
          rw [if_pos (by rfl)]
          have HCC := HCR2.out Wd (KS.out.trans (k0.out.mono KS.out.size))
          go_simp
          refine HCC.mono ?_; rintro e w16 ⟨As, ns, cs, rfl, hls, hbt⟩
          clear HCC
          have k17 := Lib.hid (k0.out.trans (hbt.mono k0.out.size))
          have hs18 := hs0.below hbt
          have LSS := Lib.hid hls
          clear hls
          clear hbt
          go_wp2_with fail
          refine hK.out _ _ hs18 (fun _ => ?_)
          clear hK K
          (try dsimp only [Act.put]); try simp only [z1, z2, z3]
          refine wpAnyH_take (i := 16) (oi := { dst := some 169, op := Op.move (Operand.tmp 185), type := 70, pos := "law.go:147", after := #[{ on := 15, ground := Ground.data }], guard := none }) (v := .tuple #[.slice As ns cs, .int .i64 ge]) rfl (by kernel_rfl) (by kernel_rfl) (by kernel_rfl) (fun _ _ _ h => h) (Or.inl ⟨by rfl, fun W hW => ?y19⟩) hs18 ?_
          case y19 => go_simp
          (try dsimp only [Act.put]); try simp only [z1, z2, z3]
          refine wpAnyH_take (i := 17) (oi := { dst := some 186, op := Op.extract (Operand.tmp 169) 0, type := 24, pos := "law.go:147", after := #[{ on := 16, ground := Ground.data }], guard := none }) (v := .slice As ns cs) rfl (by kernel_rfl) (by kernel_rfl) (by kernel_rfl) (fun _ _ _ h => h) (Or.inl ⟨by rfl, fun W hW => ?y20⟩) hs18 ?_
          case y20 => go_simp
          (try dsimp only [Act.put]); try simp only [z1, z2, z3]
          refine wpAnyH_take (i := 18) (oi := { dst := some 187, op := Op.extract (Operand.tmp 169) 1, type := 30, pos := "law.go:147", after := #[{ on := 16, ground := Ground.data }, { on := 19, ground := Ground.gcOnly Departure.lateStores }], guard := none }) (v := .int .i64 ge) rfl (by kernel_rfl) (by kernel_rfl) (by kernel_rfl) (fun _ _ _ h => h) (Or.inl ⟨by rfl, fun W hW => ?y21⟩) hs18 ?_
          case y21 => go_simp
          (try dsimp only [Act.put]); try simp only [z1, z2, z3]
          refine wpAnyH_take (i := 19) (oi := { dst := some 37, op := Op.assign (Operand.tmp 186), type := 24, pos := "law.go:147", after := #[{ on := 17, ground := Ground.data }, { on := 15, ground := Ground.chain }, { on := 0, ground := Ground.phase }, { on := 1, ground := Ground.phase }, { on := 2, ground := Ground.phase }, { on := 3, ground := Ground.phase }, { on := 4, ground := Ground.phase }, { on := 5, ground := Ground.phase }, { on := 6, ground := Ground.phase }, { on := 7, ground := Ground.phase }, { on := 8, ground := Ground.phase }, { on := 9, ground := Ground.phase }, { on := 10, ground := Ground.phase }, { on := 11, ground := Ground.phase }, { on := 12, ground := Ground.phase }, { on := 13, ground := Ground.phase }, { on := 14, ground := Ground.phase }, { on := 15, ground := Ground.phase }, { on := 16, ground := Ground.phase }, { on := 17, ground := Ground.phase }, { on := 18, ground := Ground.textOnly Departure.lateStores }], guard := none }) (v := .slice As ns cs) rfl (by kernel_rfl) (by kernel_rfl) (by kernel_rfl) (fun _ _ _ h => h) (Or.inl ⟨by rfl, fun W hW => ?y22⟩) hs18 ?_
          case y22 => go_simp
          (try dsimp only [Act.put]); try simp only [z1, z2, z3]
          refine wpAnyH_take (i := 20) (oi := { dst := some 38, op := Op.assign (Operand.tmp 187), type := 30, pos := "law.go:147", after := #[{ on := 18, ground := Ground.data }, { on := 19, ground := Ground.chain }, { on := 0, ground := Ground.phase }, { on := 1, ground := Ground.phase }, { on := 2, ground := Ground.phase }, { on := 3, ground := Ground.phase }, { on := 4, ground := Ground.phase }, { on := 5, ground := Ground.phase }, { on := 6, ground := Ground.phase }, { on := 7, ground := Ground.phase }, { on := 8, ground := Ground.phase }, { on := 9, ground := Ground.phase }, { on := 10, ground := Ground.phase }, { on := 11, ground := Ground.phase }, { on := 12, ground := Ground.phase }, { on := 13, ground := Ground.phase }, { on := 14, ground := Ground.phase }, { on := 15, ground := Ground.phase }, { on := 16, ground := Ground.phase }, { on := 17, ground := Ground.phase }, { on := 18, ground := Ground.phase }, { on := 19, ground := Ground.phase }], guard := none }) (v := .int .i64 ge) rfl (by kernel_rfl) (by kernel_rfl) (by kernel_rfl) (fun _ _ _ h => h) (Or.inl ⟨by rfl, fun W hW => ?y23⟩) hs18 ?_
          case y23 => go_simp
          (try dsimp only [Act.put]); try simp only [z1, z2, z3]
          refine wpAnyH_done (by kernel_rfl) ?_ _
          (try dsimp only [Act.put]); try simp only [z1, z2, z3]
          have KE := k17
          go_wp2_with fail
          go_meet
          exact ⟨As, ns, cs, rfl, rfl, Lib.hid ⟨LSS.out, KE.out⟩⟩
      case rest =>
      obtain ⟨As, ns, cs, rfl, rfl, KE⟩ := hcut
      obtain ⟨w21, hw21⟩ : ∃ W, W = wc := ⟨_, rfl⟩
      rw [← hw21] at KE ⊢
      have K21 := Lib.hid (KS.out.trans (KE.out.2.mono KS.out.size))
      have HA0 := Lib.hid (show n0 = Ls.length ∧ Rd w21 w21.heap.size A0 (LC Ls) from ⟨HAs.out.1, (HAs.out.2.below KE.out.2).more KE.out.2.size⟩)
      have HA1 := Lib.hid KE.out.1
      clear KE hw21 KS HSc HCR2 HAs
      have hnn : n0 = ns := by rw [HA0.out.1, HA1.out.1]
      subst hnn
      have HPL := Lib.hid (show Calls Tryd.prog 18 #[.slice A0 n0 c0] w21 fun e w' => ∃ A' c', e = .returned (.slice A' n0 c') ∧ Rd w' w'.heap.size A' (LC Ls) ∧ Below w21.heap.size w21 w' from by
        have := plain_any A0 Ls c0 w21 HLL.out HA0.out.2
        rw [← HA0.out.1] at this
        exact this.mono fun e w' ⟨A', c', h1, h2, h3, h4, h5⟩ => ⟨A', c', h1, h4, h5⟩)
      have HSM := Lib.hid (fun (W : World) (A : Option Addr) (c : Nat) (h1 : Rd W W.heap.size A (LC Ls)) (hb : Below w21.heap.size w21 W) => show Calls Tryd.prog 34 #[.slice A n0 c, .slice As n0 cs] W fun e w' => e = .returned (.bool true) ∧ Below W.heap.size W w' from by
        have := same_any A As Ls c cs W HLL.out h1 ((HA1.out.2.below hb).more hb.size)
        rw [← HA0.out.1] at this; exact this)
      go_upto_region 21 with fail
      go_cut [212] from 114 to 212 (fun s212 wx => s212 = .bool false ∧ Hid (Below w21.heap.size w21 wx))
      case first =>
        go_wp2_with (first
          | (go_at_call 18; refine HPL.out.mono ?_; rintro e w22 ⟨A22, c22, rfl, hrd, hb⟩; have O22 := Lib.hid hrd; have K22 := Lib.hid hb; clear hrd hb)
          | (go_at_call 34; refine (HSM.out w22 A22 c22 O22.out K22.out).mono ?_; rintro e w23 ⟨rfl, hb⟩; have K23 := Lib.hid (K22.out.trans (hb.mono K22.out.size)); clear hb))
        go_meet
        exact ⟨rfl, K23⟩
      case rest =>
      obtain ⟨rfl, KE⟩ := hcut
      have K25 := Lib.hid (K21.out.trans (KE.out.mono K21.out.size))
      clear KE
      go_wp2_with fail
      go_roundw
      case rel => exact ⟨j + 1, by omega, by go_num, K25⟩
      case measure => simp only [intOf]; omega
    · obtain rfl : j = 3 := by omega
      go_wp2_with fail
      go_roundw
      case rel => exact ⟨i + 1, by omega, by go_num, HB⟩
      case measure => simp only [intOf]; omega
  · obtain rfl : i = 8 := by omega
    have Bw := Lib.hid (Bs9.out.trans (HB.out.mono Bs9.out.size))
    go_wp2_with (go_at_call 19; refine (lives_any _ (HT.out.below Bw.out HT.out.1)).mono ?_; rintro e w30 ⟨rfl, hb⟩; have K30 := Lib.hid (Bw.out.trans (hb.mono Bw.out.size)); clear hb)
    go_ret
    exact ⟨rfl, K30.out⟩
end Go.Proofs.YtofccgkgjcnfbaaDoor
