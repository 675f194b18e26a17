/-
  The walk of the law MerkleSound.
  Conditions: the tables of the round constants are as the text lays them.
-/
import Derived.Test.YtofccgkgjcnfbaaDoorBentA
import Derived.Test.YtofccgkgjcnfbaaDoorColl
namespace Go.Proofs.YtofccgkgjcnfbaaDoor
open Go.RowKit Wr Sh
set_option linter.unusedVariables false
set_option maxRecDepth 100000

/-- Whether what Check gave is true of the leaves, as the law asks it. -/
def rightB (L : List Lf) (K : ByteArray) (v : ByteArray) (is : Bool) : Bool :=
  if is == decide (0 ≤ hasI L K) then (if is = true then decide (v = (L.getD (hasI L K).toNat (ByteArray.empty, ByteArray.empty)).2) else true) else false
theorem under_form {R : List UInt8} {p : Pf} (h : underB node lf top R p = true) : 0 ≤ p.size ∧ p.size ≤ 4096 ∧ 0 ≤ p.first ∧ p.first ≤ p.size - p.leaves.length := by
  have hf : formP p = true := by unfold underB at h; exact (Bool.and_eq_true_iff.1 h).1
  unfold formP at hf
  simp only [Bool.and_eq_true, decide_eq_true_eq] at hf
  exact hf.1.1
theorem check_under {R : List UInt8} {K : ByteArray} {p : Pf} (h : (checkR node lf top R K p).2.2 = 0) : underB node lf top R p = true := by
  unfold checkR at h
  split at h
  · assumption
  · exact absurd h (by decide)
theorem range_under {R : List UInt8} {K T : ByteArray} {p : Pf} (h : (checkRangeR node lf top R K T p).2 = 0) : underB node lf top R p = true := by
  unfold checkRangeR at h
  split at h
  · exact absurd h (by decide)
  · split at h
    · assumption
    · exact absurd h (by decide)
theorem sound_check (L : List Lf) (K : ByteArray) (p : Pf) (hL : okL L) (ho : ord L) (hp : okL p.leaves) (hs : ∀ d ∈ p.sides, d.length = 16)
    (hc : (checkR node lf top (rootD node lf top L) K p).2.2 = 0) (hb : rightB L K (checkR node lf top (rootD node lf top L) K p).1 (checkR node lf top (rootD node lf top L) K p).2.1 = false) :
    Clash (textsOf L 0 [] L.length ++ textsOf p.leaves p.first.toNat p.sides p.size.toNat) := by
  refine Classical.byContradiction fun hno => ?_
  rw [check_true L K p hL ho hp hs hno hc] at hb
  cases hh : hitB L K with
  | true =>
    rw [hh, if_pos rfl] at hb
    unfold rightB at hb
    have h1 := has_hit L K ho hh
    rw [h1] at hb
    simp at hb
  | false =>
    rw [hh] at hb
    unfold rightB at hb
    have h1 := has_miss L K ho hh
    rw [h1] at hb
    simp at hb
theorem sound_range (L : List Lf) (K T : ByteArray) (p : Pf) (hL : okL L) (ho : ord L) (hp : okL p.leaves) (hs : ∀ d ∈ p.sides, d.length = 16)
    (hc : (checkRangeR node lf top (rootD node lf top L) K T p).2 = 0) (hb : (checkRangeR node lf top (rootD node lf top L) K T p).1 ≠ insideR L K T) :
    Clash (textsOf L 0 [] L.length ++ textsOf p.leaves p.first.toNat p.sides p.size.toNat) := by
  refine Classical.byContradiction fun hno => hb ?_
  rw [range_true L K T p hL ho hp hs hno hc]
/-- Collide of leaves and a proof that was accepted. -/
theorem collide_pv (A : Option Addr) (L : List Lf) (NL c : Nat) (p : Pf) (A1 A2 : Option Addr) (n m c1 c2 N M : Nat) (R : List UInt8) (w : World) (hNL : NL = L.length) (h : LsAt w w.heap.size A L c) (hl : L.length ≤ 4096) (hp : PV w w.heap.size N M p A1 A2 n m c1 c2) (hu : underB node lf top R p = true) (ht : Tab 0 w)
    (hcl : Clash (textsOf L 0 [] L.length ++ textsOf p.leaves p.first.toNat p.sides p.size.toNat)) :
    Calls Tryd.prog 45 #[.slice A NL c, .agg (PR p.first p.size (.slice A1 n c1) (.slice A2 m c2)).toArray] w fun e w' => e = .returned (.bool true) ∧ Below w.heap.size w w' := by
  obtain ⟨h1, h2, h3, h4⟩ := under_form hu
  have hn := hp.hn
  exact collide_any A L NL c p A1 A2 n m c1 c2 p.first.toNat p.size.toNat w hNL hp.hn hp.hm h.rd h.ok hl hp.at_ (by omega) (by omega) (by omega) (by omega) ht hcl
theorem s19_below {a b : Nat} {x y : List Value} {W W' : World} (h : Blk W a 54 x ∧ Blk W b 54 y) (hb : Below W.heap.size W W') : Blk W' a 54 x ∧ Blk W' b 54 y := ⟨h.1.below hb h.1.lt, h.2.below hb h.2.lt⟩
theorem build63 : ∀ (W : World) (a1 b1 a2 b2 a3 b3 a4 b4 a5 b5 : Int) (x1 y1 x2 y2 x3 y3 x4 y4 x5 y5 : Value), (Instr.buildSlice 63 5 #[(0, .agg (PR a1 b1 x1 y1).toArray), (1, .agg (PR a2 b2 x2 y2).toArray), (2, .agg (PR a3 b3 x3 y3).toArray), (3, .agg (PR a4 b4 x4 y4).toArray), (4, .agg (PR a5 b5 x5 y5).toArray)]).run Tryd.prog W = .ok (.slice (some ⟨W.heap.size, 0, none⟩) 5 5) (W.alloc (.cells ([PR a1 b1 x1 y1, PR a2 b2 x2 y2, PR a3 b3 x3 y3, PR a4 b4 x4 y4, PR a5 b5 x5 y5].flatten).toArray 54)) := by
  intros; kernel_rfl
/-- The proofs of a list, each in its place. -/
def ListP (W : World) (gl cnt N M : Nat) : Prop := ∀ i, i < cnt → ∃ (p : Pf) (A1 A2 : Option Addr) (n m c1 c2 : Nat), (∀ q u, (PR p.first p.size (.slice A1 n c1) (.slice A2 m c2))[q]? = some u → W.cell? ((⟨gl, i * 4, none⟩ : Addr).add q) = some u) ∧ PV W W.heap.size N M p A1 A2 n m c1 c2
theorem listP5 {W : World} {gl N M : Nat} {p1 p2 p3 p4 p5 : Pf} {A1 B1 A2 B2 A3 B3 A4 B4 A5 B5 : Option Addr} {n1 m1 c1 d1 n2 m2 c2 d2 n3 m3 c3 d3 n4 m4 c4 d4 n5 m5 c5 d5 : Nat}
    (h : Blk W gl 54 [PR p1.first p1.size (.slice A1 n1 c1) (.slice B1 m1 d1), PR p2.first p2.size (.slice A2 n2 c2) (.slice B2 m2 d2), PR p3.first p3.size (.slice A3 n3 c3) (.slice B3 m3 d3), PR p4.first p4.size (.slice A4 n4 c4) (.slice B4 m4 d4), PR p5.first p5.size (.slice A5 n5 c5) (.slice B5 m5 d5)].flatten)
    (h1 : PV W W.heap.size N M p1 A1 B1 n1 m1 c1 d1) (h2 : PV W W.heap.size N M p2 A2 B2 n2 m2 c2 d2) (h3 : PV W W.heap.size N M p3 A3 B3 n3 m3 c3 d3) (h4 : PV W W.heap.size N M p4 A4 B4 n4 m4 c4 d4) (h5 : PV W W.heap.size N M p5 A5 B5 n5 m5 c5 d5) : ListP W gl 5 N M := by
  intro i hi
  have hc : i = 0 ∨ i = 1 ∨ i = 2 ∨ i = 3 ∨ i = 4 := by omega
  rcases hc with rfl | rfl | rfl | rfl | rfl
  · exact ⟨p1, A1, B1, n1, m1, c1, d1, row4 (X := []) h 0 rfl, h1⟩
  · exact ⟨p2, A2, B2, n2, m2, c2, d2, row4 (X := PR p1.first p1.size (.slice A1 n1 c1) (.slice B1 m1 d1)) h 1 rfl, h2⟩
  · exact ⟨p3, A3, B3, n3, m3, c3, d3, row4 (X := PR p1.first p1.size (.slice A1 n1 c1) (.slice B1 m1 d1) ++ PR p2.first p2.size (.slice A2 n2 c2) (.slice B2 m2 d2)) h 2 rfl, h3⟩
  · exact ⟨p4, A4, B4, n4, m4, c4, d4, row4 (X := PR p1.first p1.size (.slice A1 n1 c1) (.slice B1 m1 d1) ++ PR p2.first p2.size (.slice A2 n2 c2) (.slice B2 m2 d2) ++ PR p3.first p3.size (.slice A3 n3 c3) (.slice B3 m3 d3)) h 3 rfl, h4⟩
  · exact ⟨p5, A5, B5, n5, m5, c5, d5, row4 (X := PR p1.first p1.size (.slice A1 n1 c1) (.slice B1 m1 d1) ++ PR p2.first p2.size (.slice A2 n2 c2) (.slice B2 m2 d2) ++ PR p3.first p3.size (.slice A3 n3 c3) (.slice B3 m3 d3) ++ PR p4.first p4.size (.slice A4 n4 c4) (.slice B4 m4 d4)) (Z := []) h 4 rfl, h5⟩
theorem hasI_lt (L : List Lf) (K : ByteArray) (h : 0 ≤ hasI L K) : (hasI L K).toNat < L.length := by
  unfold hasI at h ⊢
  cases hf : L.findIdx? (fun x => decide (x.1 = K)) with
  | none => rw [hf] at h; exact absurd h (by decide)
  | some i =>
    have := (List.findIdx?_eq_some_iff_findIdx_eq.1 hf).1
    simpa using this
theorem check_vals (R : List UInt8) (K : ByteArray) (p : Pf) : (checkR node lf top R K p).2.2 = 0 ∨ (checkR node lf top R K p).2.2 = 17 := by
  unfold checkR
  split
  · split
    · exact .inl rfl
    · split
      · exact .inl rfl
      · exact .inr rfl
  · exact .inr rfl
theorem range_vals (R : List UInt8) (K T : ByteArray) (p : Pf) : (checkRangeR node lf top R K T p).2 = 0 ∨ (checkRangeR node lf top R K T p).2 = 5 ∨ (checkRangeR node lf top R K T p).2 = 17 := by
  unfold checkRangeR
  split
  · exact .inr (.inl rfl)
  · split
    · split
      · exact .inl rfl
      · exact .inr (.inr rfl)
    · exact .inr (.inr rfl)
theorem range_len (R : List UInt8) (K T : ByteArray) (p : Pf) : (checkRangeR node lf top R K T p).1.length ≤ p.leaves.length := by
  unfold checkRangeR
  split
  · exact Nat.zero_le _
  · split
    · split
      · exact (cut_sub _ _ _).length_le
      · exact Nat.zero_le _
    · exact Nat.zero_le _
theorem keys_at {F T G : ByteArray} (j : Nat) (hj : j < 3) : ∃ K, [Value.string F, .string T, .string G][j]? = some (.string K) := by
  have : j = 0 ∨ j = 1 ∨ j = 2 := by omega
  rcases this with rfl | rfl | rfl
  · exact ⟨F, rfl⟩
  · exact ⟨T, rfl⟩
  · exact ⟨G, rfl⟩
set_option maxHeartbeats 16000000 in
theorem sound_walk (A : Option Addr) (l : List Int) (c : Nat) (A' : Option Addr) (l2 : List Int) (c' : Nat) (kn mn hw bn an : Int) (w : World) (hl : l.length ≤ 281474976710656) (hr : Rd w w.heap.size A (I64 l)) (ho : ∀ x ∈ l, okInt x)
    (hl2 : l2.length ≤ 281474976710656) (hr2 : Rd w w.heap.size A' (I64 l2)) (ho2 : ∀ x ∈ l2, okInt x) (hkn : okInt kn) (hmn : okInt mn) (hhw : okInt hw) (hbn : okInt bn) (han : okInt an) (ht0 : Tab 0 w) (ht : Tab 1 w) :
    Calls Tryd.prog 8 #[.slice A l.length c, .slice A' l2.length c', .int .i64 kn, .int .i64 mn, .int .i64 hw, .int .i64 bn, .int .i64 an] w fun e w' => e = .returned (.bool true) ∧ Below w.heap.size w w' := by
  have HT := Lib.hid ht
  have HT0 := Lib.hid ht0
  have Hkn := Lib.hid hkn
  have Hmn := Lib.hid hmn
  have Hhw := Lib.hid hhw
  have Hbn := Lib.hid hbn
  have Han := Lib.hid han
  obtain ⟨La, hLa⟩ : ∃ L, L = genL l := ⟨_, rfl⟩
  obtain ⟨Lb, hLb⟩ : ∃ L, L = genL l2 := ⟨_, rfl⟩
  obtain ⟨N1, hN1⟩ : ∃ n, n = La.length := ⟨_, rfl⟩
  obtain ⟨N2, hN2⟩ : ∃ n, n = Lb.length := ⟨_, rfl⟩
  have HN1 := Lib.hid (show N1 = La.length ∧ La.length ≤ 11 ∧ validE La = 0 ∧ ord La from ⟨hN1, by rw [hLa]; exact genL_len l, by rw [hLa]; exact genL_valid l, by rw [hLa]; exact genL_ord l⟩)
  have HN2 := Lib.hid (show N2 = Lb.length ∧ Lb.length ≤ 11 from ⟨hN2, by rw [hLb]; exact genL_len l2⟩)
  have HMa := Lib.hid (show ∀ x ∈ La, x.1.size ≤ 3 ∧ x.2.size ≤ 3 from fun x hx => by rw [hLa] at hx; have := gls_sizes l _ x hx; omega)
  have HMb := Lib.hid (show ∀ x ∈ Lb, x.1.size ≤ 3 ∧ x.2.size ≤ 3 from fun x hx => by rw [hLb] at hx; have := gls_sizes l2 _ x hx; omega)
  have HC0 := Lib.hid (show Calls Tryd.prog 10 #[.slice A l.length c] w fun e w' => ∃ A1 c1, e = .returned (.slice A1 N1 c1) ∧ LsAt w' w'.heap.size A1 La c1 ∧ Below w.heap.size w w' from by
    refine (leaves_any A l c w hl hr ho).mono ?_
    rintro e w' ⟨A1, c1, rfl, h1, h2, h3, h4⟩
    rw [hN1, hLa]; exact ⟨A1, c1, rfl, ⟨h3, h1, h2, genL_ok l⟩, h4⟩)
  have HC1 := Lib.hid (fun (W : World) (hb : Below w.heap.size w W) => show Calls Tryd.prog 10 #[.slice A' l2.length c'] W fun e w' => ∃ A1 c1, e = .returned (.slice A1 N2 c1) ∧ LsAt w' w'.heap.size A1 Lb c1 ∧ Below W.heap.size W w' from by
    refine (leaves_any A' l2 c' W hl2 ((hr2.below hb).more hb.size) ho2).mono ?_
    rintro e w' ⟨A1, c1, rfl, h1, h2, h3, h4⟩
    rw [hN2, hLb]; exact ⟨A1, c1, rfl, ⟨h3, h1, h2, genL_ok l2⟩, h4⟩)
  clear hl hr ho hl2 hr2 ho2 hkn hmn hhw hbn han ht0 ht hLa hLb hN1 hN2
  generalize l.length = NA at HC0 ⊢
  generalize l2.length = NN at HC1 ⊢
  go_enter Tryd.func8, Tryd.ntmps8
  go_upto_region 2 with (go_at_call 10; refine HC0.out.mono ?_; rintro e w1 ⟨A1, c1, rfl, hls1, hb1⟩; have L1 := Lib.hid hls1; have Bs1 := Lib.hid hb1; clear hls1 hb1)
  go_upto_region 3 with (go_at_call 10; refine (HC1.out w1 Bs1.out).mono ?_; rintro e w2 ⟨A2, c2, rfl, hls2, hb2⟩; have L2 := Lib.hid hls2; have L1a := Lib.hid ((L1.out.below hb2).more hb2.size); have Bs2 := Lib.hid (Bs1.out.trans (hb2.mono Bs1.out.size)); clear hls2 hb2)
  obtain ⟨R, hR⟩ : ∃ R, R = rootR La := ⟨_, rfl⟩
  have HR := Lib.hid hR
  have HRl := Lib.hid (show R.length = 16 by rw [hR]; exact rootR_len La)
  have HRD := Lib.hid (show R = rootD node lf top La by rw [hR]; exact rootR_ok La HN1.out.2.2.1)
  have HOa := Lib.hid (fun (W : World) (hb : Below w2.heap.size w2 W) => show Calls Tryd.prog 13 #[.slice A1 N1 c1] W fun e w' => ∃ A' c', e = .returned (.slice A' N1 c') ∧ LsAt w' w'.heap.size A' La c' ∧ Below W.heap.size W w' from by
    have := own_any A1 La c1 W L1a.out.ok.1 ((L1a.out.below hb).more hb.size).rd
    rw [← HN1.out.1] at this
    refine this.mono ?_
    rintro e w' ⟨A', c', rfl, h1, h2, h3, h4⟩
    exact ⟨A', c', rfl, ⟨h3, by rw [← HN1.out.1]; exact h1, h2, L1a.out.ok⟩, h4⟩)
  have HRTa := Lib.hid (fun (W : World) (A' : Option Addr) (c' : Nat) (hls : LsAt W W.heap.size A' La c') (hb : Below w2.heap.size w2 W) => show Calls Tryd.prog 12 #[.slice A' N1 c'] W fun e w' => e = .returned (.tuple #[.agg (B8 R).toArray, .int .i64 0]) ∧ Below W.heap.size W w' from by
    have := root_any A' La c' W hls (HT.out.below (Bs2.out.trans (hb.mono Bs2.out.size)) HT.out.1) R HR
    rw [HN1.out.2.2.1, ← HN1.out.1] at this; exact this)
  have HKa := Lib.hid (fun (n : Int) (hn : okInt n) (W : World) (hb : Below w2.heap.size w2 W) => show Calls Tryd.prog 20 #[.slice A1 N1 c1, .int .i64 n] W fun e w' => ∃ K, e = .returned (.string K) ∧ Below W.heap.size W w' from by
    rw [HN1.out.1]; exact lawKey_any A1 La c1 n W HN1.out.2.1 ((L1a.out.below hb).more hb.size).rd hn (fun x hx => (L1a.out.ok.2 x hx).1))
  have HKb := Lib.hid (fun (n : Int) (hn : okInt n) (W : World) (hb : Below w2.heap.size w2 W) => show Calls Tryd.prog 20 #[.slice A2 N2 c2, .int .i64 n] W fun e w' => ∃ K, e = .returned (.string K) ∧ Below W.heap.size W w' from by
    rw [HN2.out.1]; exact lawKey_any A2 Lb c2 n W HN2.out.2 ((L2.out.below hb).more hb.size).rd hn (fun x hx => (L2.out.ok.2 x hx).1))
  have HPR := Lib.hid (fun (K : ByteArray) (W : World) (hb : Below w2.heap.size w2 W) => rprove_pv La A1 c1 N1 3 K W HN1.out.1 HN1.out.2.1 HMa.out HN1.out.2.2.1 ((L1a.out.below hb).more hb.size) (HT0.out.below (Bs2.out.trans (hb.mono Bs2.out.size)) HT0.out.1))
  have HRG := Lib.hid (fun (K T : ByteArray) (W : World) (hb : Below w2.heap.size w2 W) => rrange_pv Lb A2 c2 N2 3 K T W HN2.out.1 HN2.out.2 HMb.out ((L2.out.below hb).more hb.size) (HT0.out.below (Bs2.out.trans (hb.mono Bs2.out.size)) HT0.out.1))
  clear hR HC0 HC1 HMa HMb L1
  go_wp2_with (go_at_call 13; refine (HOa.out w2 (Below.refl _ _)).mono ?_; rintro e w3 ⟨Aa, ca, rfl, hoa, hb⟩; have Oa := Lib.hid hoa; have K3 := Lib.hid hb; clear hb hoa)
  refine (HRTa.out w3 Aa ca Oa.out K3.out).mono ?_; rintro e w4 ⟨rfl, hb⟩
  have K4 := Lib.hid (K3.out.trans (hb.mono K3.out.size))
  obtain ⟨W5, hW5⟩ : ∃ W, W = (w4.alloc (.cells Z16.toArray 29)).setRow w4.heap.size (B8 R).toArray := ⟨_, rfl⟩
  have hb5 : Below w4.heap.size w4 W5 := by rw [hW5]; exact belowRow ((Below.refl _ _).alloc (Nat.le_refl _) _) (Nat.le_refl _) _
  have K5 := Lib.hid (K4.out.trans (hb5.mono K4.out.size))
  have XR := Lib.hid (show Blk W5 w4.heap.size 29 (B8 R) by rw [hW5]; exact (Blk.new w4 29 Z16).row _)
  have HE := Lib.hid hW5
  have hZ := hZ16
  clear hW5 hb5 hb Oa K3 K4 HOa HRTa
  go_upto_region 6 with (with_reducible refine wpList_store_row rfl 29 (.tmp 17) (.tmp 42) rfl w4.heap.size (B8 R).toArray rfl rfl 29 _ (heap_alloc_new w4 _) (size29' _ HRl.out) (Z16_size _ HRl.out) (one8 _) ?_)
  rw [← HE.out]
  clear HE hZ
  obtain ⟨gr, hgr⟩ : ∃ g, g = w4.heap.size := ⟨_, rfl⟩
  rw [← hgr] at XR ⊢
  clear hgr
  go_wp2_with (go_at_call 20; with_reducible refine (HKa.out kn Hkn.out W5 K5.out).mono ?_; rintro e w6 ⟨KX, rfl, hb⟩; have B6 := Lib.hid (K5.out.trans (hb.mono K5.out.size)); have XR6 := Lib.hid (XR.out.below hb XR.out.lt); clear hb)
  refine (HPR.out KX w6 B6.out).mono ?_; rintro e w7 ⟨p1, P1, Q1, n1, m1, d1, e1, rfl, hpv, hb⟩
  have PV1 := Lib.hid hpv
  have B7 := Lib.hid (B6.out.trans (hb.mono B6.out.size))
  obtain ⟨W8, hW8⟩ : ∃ W, W = (w7.alloc (.cells ZP.toArray 54)).setRow w7.heap.size (PR p1.first p1.size (.slice P1 n1 d1) (.slice Q1 m1 e1)).toArray := ⟨_, rfl⟩
  have hb8 : Below w7.heap.size w7 W8 := by rw [hW8]; exact belowRow ((Below.refl _ _).alloc (Nat.le_refl _) _) (Nat.le_refl _) _
  have B8' := Lib.hid (B7.out.trans (hb8.mono B7.out.size))
  have X19 := Lib.hid (show Blk W8 w7.heap.size 54 (PR p1.first p1.size (.slice P1 n1 d1) (.slice Q1 m1 e1)) by rw [hW8]; exact (Blk.new w7 54 ZP).row _)
  have XR8 := Lib.hid ((XR6.out.below hb XR6.out.lt).below hb8 (Nat.lt_of_lt_of_le XR6.out.lt hb.size))
  have PV1a := Lib.hid (PV1.out.next hb8)
  have HE := Lib.hid hW8
  have hZ := hZP
  clear hW8 hb8 hb hpv PV1 XR6 XR B6 B7 K5 HPR
  go_upto_region 7 with (with_reducible refine wpList_store_row rfl 54 (.tmp 19) (.tmp 52) rfl w7.heap.size (PR p1.first p1.size (.slice P1 n1 d1) (.slice Q1 m1 e1)).toArray rfl rfl 54 _ (heap_alloc_new w7 _) (size54A _ _ _ _) (ZP_PR _ _ _ _) (PR_one _ _ _ _ _ _ _ _) ?_)
  rw [← HE.out]
  clear HE hZ
  obtain ⟨g19, hg⟩ : ∃ g, g = w7.heap.size := ⟨_, rfl⟩
  rw [← hg] at X19 ⊢
  clear hg
  go_wp2_with (go_at_call 20; with_reducible refine (HKa.out kn Hkn.out W8 B8'.out).mono ?_; rintro e w9 ⟨KY, rfl, hb⟩; have B9 := Lib.hid (B8'.out.trans (hb.mono B8'.out.size)); have D9 := Lib.hid hb; clear hb)
  refine (HKb.out mn Hmn.out w9 B9.out).mono ?_; rintro e w10 ⟨KZ, rfl, hb⟩
  have B10 := Lib.hid (B9.out.trans (hb.mono B9.out.size))
  have D10 := Lib.hid (D9.out.trans (hb.mono D9.out.size))
  clear hb
  go_wp2_with fail
  refine (HRG.out KY KZ w10 B10.out).mono ?_; rintro e w11 ⟨p2, P2, Q2, n2, m2, d2, e2, er2, rfl, hpv, hb⟩
  have PV2a := Lib.hid hpv
  have B11 := Lib.hid (B10.out.trans (hb.mono B10.out.size))
  obtain ⟨W12, hW12⟩ : ∃ W, W = (w11.alloc (.cells ZP.toArray 54)).setRow w11.heap.size (PR p2.first p2.size (.slice P2 n2 d2) (.slice Q2 m2 e2)).toArray := ⟨_, rfl⟩
  have hb12 : Below w11.heap.size w11 W12 := by rw [hW12]; exact belowRow ((Below.refl _ _).alloc (Nat.le_refl _) _) (Nat.le_refl _) _
  have B12 := Lib.hid (B11.out.trans (hb12.mono B11.out.size))
  have D12 := Lib.hid ((D10.out.trans (hb.mono D10.out.size)).trans (hb12.mono (Nat.le_trans D10.out.size hb.size)))
  have X21 := Lib.hid (show Blk W12 w11.heap.size 54 (PR p2.first p2.size (.slice P2 n2 d2) (.slice Q2 m2 e2)) by rw [hW12]; exact (Blk.new w11 54 ZP).row _)
  have X19a := Lib.hid (X19.out.below D12.out X19.out.lt)
  have XR12 := Lib.hid (XR8.out.below D12.out XR8.out.lt)
  have PV1c := Lib.hid (PV1a.out.next D12.out)
  have PV2 := Lib.hid (PV2a.out.next hb12)
  have HE := Lib.hid hW12
  have hZ := hZP
  clear hW12 hb12 hb hpv PV2a PV1a X19 XR8 B9 B10 B11 D9 D10 D12 HRG B8'
  go_upto_region 8 with (with_reducible refine wpList_store_row rfl 54 (.tmp 21) (.tmp 63) rfl w11.heap.size (PR p2.first p2.size (.slice P2 n2 d2) (.slice Q2 m2 e2)).toArray rfl rfl 54 _ (heap_alloc_new w11 _) (size54A _ _ _ _) (ZP_PR _ _ _ _) (PR_one _ _ _ _ _ _ _ _) ?_)
  rw [← HE.out]
  clear HE hZ
  obtain ⟨g21, hg⟩ : ∃ g, g = w11.heap.size := ⟨_, rfl⟩
  rw [← hg] at X21 ⊢
  clear hg
  have HS12 := Lib.hid (And.intro X19a.out X21.out)
  go_cut [23] (fun s23 wx => ∃ gl, s23 = .slice (some ⟨gl, 0, none⟩) 5 5 ∧ Hid (ListP wx gl 5 13 7 ∧ Below W12.heap.size W12 wx))
  case first =>
    clear HKa HKb X19a X21 XR12
    as_aux_lemma =>
      refine wp_region_held (S := fun W => Blk W g19 54 (PR p1.first p1.size (.slice P1 n1 d1) (.slice Q1 m1 e1)) ∧ Blk W g21 54 (PR p2.first p2.size (.slice P2 n2 d2) (.slice Q2 m2 e2))) (by kernel_rfl) ?_
      change wpAnyH _ _ _ _ _ _ _ _ (World.drew W12)
      have k0 := Lib.hid (Below.refl W12.heap.size W12).drew
      have hs0 : Blk (World.drew W12) g19 54 (PR p1.first p1.size (.slice P1 n1 d1) (.slice Q1 m1 e1)) ∧ Blk (World.drew W12) g21 54 (PR p2.first p2.size (.slice P2 n2 d2) (.slice Q2 m2 e2)) := HS12.out
      have U1 := Lib.hid (PV1c.out.next (Below.refl W12.heap.size W12).drew)
      have U2 := Lib.hid (PV2.out.next (Below.refl W12.heap.size W12).drew)
      generalize World.drew W12 = Wd at k0 hs0 U1 U2 ⊢
      refine wpAnyH_take (i := 0) (oi := { dst := some 65, op := Op.load 54 (Operand.tmp 19), type := 54, pos := "law.go:220", after := #[], guard := none }) (v := .agg (PR p1.first p1.size (.slice P1 n1 d1) (.slice Q1 m1 e1)).toArray) rfl (by kernel_rfl) (by kernel_rfl) (by kernel_rfl) (fun _ _ _ h => h) (Or.inl ⟨by rfl, fun W hW => exec_load_row _ _ 54 (.tmp 19) rfl ⟨g19, 0, none⟩ rfl (PR p1.first p1.size (.slice P1 n1 d1) (.slice Q1 m1 e1)) W (run_loadVar_at W _ 54 (PR p1.first p1.size (.slice P1 n1 d1) (.slice Q1 m1 e1)) _ (Blk.at hW.1) Tryd.underlying54 rfl (size54L _ _ _ _))⟩) hs0 ?_
      (try dsimp only [Act.put]); try simp only [z1, z2, z3]
      refine wpAnyH_take (i := 1) (oi := { dst := some 66, op := Op.load 54 (Operand.tmp 21), type := 54, pos := "law.go:220", after := #[], guard := none }) (v := .agg (PR p2.first p2.size (.slice P2 n2 d2) (.slice Q2 m2 e2)).toArray) rfl (by kernel_rfl) (by kernel_rfl) (by kernel_rfl) (fun _ _ _ h => h) (Or.inl ⟨by rfl, fun W hW => exec_load_row _ _ 54 (.tmp 21) rfl ⟨g21, 0, none⟩ rfl (PR p2.first p2.size (.slice P2 n2 d2) (.slice Q2 m2 e2)) W (run_loadVar_at W _ 54 (PR p2.first p2.size (.slice P2 n2 d2) (.slice Q2 m2 e2)) _ (Blk.at hW.2) Tryd.underlying54 rfl (size54L _ _ _ _))⟩) hs0 ?_
      (try dsimp only [Act.put]); try simp only [z1, z2, z3]
      refine wpAnyH_take (i := 2) (oi := { dst := some 67, op := Op.load 54 (Operand.tmp 19), type := 54, pos := "law.go:220", after := #[], guard := none }) (v := .agg (PR p1.first p1.size (.slice P1 n1 d1) (.slice Q1 m1 e1)).toArray) rfl (by kernel_rfl) (by kernel_rfl) (by kernel_rfl) (fun _ _ _ h => h) (Or.inl ⟨by rfl, fun W hW => exec_load_row _ _ 54 (.tmp 19) rfl ⟨g19, 0, none⟩ rfl (PR p1.first p1.size (.slice P1 n1 d1) (.slice Q1 m1 e1)) W (run_loadVar_at W _ 54 (PR p1.first p1.size (.slice P1 n1 d1) (.slice Q1 m1 e1)) _ (Blk.at hW.1) Tryd.underlying54 rfl (size54L _ _ _ _))⟩) hs0 ?_
      (try dsimp only [Act.put]); try simp only [z1, z2, z3]
      refine wpAnyH_take (i := 3) (oi := { dst := some 68, op := Op.move (Operand.tmp 4), type := 3, pos := "law.go:220", after := #[], guard := none }) (v := .int .i64 hw) rfl (by kernel_rfl) (by kernel_rfl) (by kernel_rfl) (fun _ _ _ h => h) (Or.inl ⟨by rfl, fun W hW => ?y4⟩) hs0 ?_
      case y4 => go_simp
      (try dsimp only [Act.put]); try simp only [z1, z2, z3]
      refine wpAnyH_take (i := 4) (oi := { dst := some 69, op := Op.move (Operand.tmp 5), type := 3, pos := "law.go:220", after := #[], guard := none }) (v := .int .i64 bn) rfl (by kernel_rfl) (by kernel_rfl) (by kernel_rfl) (fun _ _ _ h => h) (Or.inl ⟨by rfl, fun W hW => ?y5⟩) hs0 ?_
      case y5 => go_simp
      (try dsimp only [Act.put]); try simp only [z1, z2, z3]
      refine wpAnyH_take (i := 6) (oi := { dst := some 71, op := Op.load 54 (Operand.tmp 21), type := 54, pos := "law.go:220", after := #[], guard := none }) (v := .agg (PR p2.first p2.size (.slice P2 n2 d2) (.slice Q2 m2 e2)).toArray) rfl (by kernel_rfl) (by kernel_rfl) (by kernel_rfl) (fun _ _ _ h => h) (Or.inl ⟨by rfl, fun W hW => exec_load_row _ _ 54 (.tmp 21) rfl ⟨g21, 0, none⟩ rfl (PR p2.first p2.size (.slice P2 n2 d2) (.slice Q2 m2 e2)) W (run_loadVar_at W _ 54 (PR p2.first p2.size (.slice P2 n2 d2) (.slice Q2 m2 e2)) _ (Blk.at hW.2) Tryd.underlying54 rfl (size54L _ _ _ _))⟩) hs0 ?_
      (try dsimp only [Act.put]); try simp only [z1, z2, z3]
      refine wpAnyH_take (i := 7) (oi := { dst := some 72, op := Op.move (Operand.tmp 6), type := 3, pos := "law.go:220", after := #[], guard := none }) (v := .int .i64 an) rfl (by kernel_rfl) (by kernel_rfl) (by kernel_rfl) (fun _ _ _ h => h) (Or.inl ⟨by rfl, fun W hW => ?y7⟩) hs0 ?_
      case y7 => go_simp
      (try dsimp only [Act.put]); try simp only [z1, z2, z3]
      refine wpAnyH_take (i := 8) (oi := { dst := some 73, op := Op.move (Operand.tmp 5), type := 3, pos := "law.go:220", after := #[], guard := none }) (v := .int .i64 bn) rfl (by kernel_rfl) (by kernel_rfl) (by kernel_rfl) (fun _ _ _ h => h) (Or.inl ⟨by rfl, fun W hW => ?y8⟩) hs0 ?_
      case y8 => go_simp
      (try dsimp only [Act.put]); try simp only [z1, z2, z3]
      refine wpAnyH_take (i := 10) (oi := { dst := some 75, op := Op.load 54 (Operand.tmp 19), type := 54, pos := "law.go:220", after := #[], guard := none }) (v := .agg (PR p1.first p1.size (.slice P1 n1 d1) (.slice Q1 m1 e1)).toArray) rfl (by kernel_rfl) (by kernel_rfl) (by kernel_rfl) (fun _ _ _ h => h) (Or.inl ⟨by rfl, fun W hW => exec_load_row _ _ 54 (.tmp 19) rfl ⟨g19, 0, none⟩ rfl (PR p1.first p1.size (.slice P1 n1 d1) (.slice Q1 m1 e1)) W (run_loadVar_at W _ 54 (PR p1.first p1.size (.slice P1 n1 d1) (.slice Q1 m1 e1)) _ (Blk.at hW.1) Tryd.underlying54 rfl (size54L _ _ _ _))⟩) hs0 ?_
      (try dsimp only [Act.put]); try simp only [z1, z2, z3]
      refine wpAnyH_take (i := 11) (oi := { dst := some 76, op := Op.move (Operand.tmp 4), type := 3, pos := "law.go:220", after := #[], guard := none }) (v := .int .i64 hw) rfl (by kernel_rfl) (by kernel_rfl) (by kernel_rfl) (fun _ _ _ h => h) (Or.inl ⟨by rfl, fun W hW => ?y10⟩) hs0 ?_
      case y10 => go_simp
      (try dsimp only [Act.put]); try simp only [z1, z2, z3]
      refine wpAnyH_take (i := 12) (oi := { dst := some 77, op := Op.move (Operand.tmp 5), type := 3, pos := "law.go:220", after := #[], guard := none }) (v := .int .i64 bn) rfl (by kernel_rfl) (by kernel_rfl) (by kernel_rfl) (fun _ _ _ h => h) (Or.inl ⟨by rfl, fun W hW => ?y11⟩) hs0 ?_
      case y11 => go_simp
      (try dsimp only [Act.put]); try simp only [z1, z2, z3]
      refine wpAnyH_take (i := 14) (oi := { dst := some 79, op := Op.move (Operand.tmp 6), type := 3, pos := "law.go:220", after := #[], guard := none }) (v := .int .i64 an) rfl (by kernel_rfl) (by kernel_rfl) (by kernel_rfl) (fun _ _ _ h => h) (Or.inl ⟨by rfl, fun W hW => ?y12⟩) hs0 ?_
      case y12 => go_simp
      (try dsimp only [Act.put]); try simp only [z1, z2, z3]
      refine wpAnyH_take (i := 15) (oi := { dst := some 80, op := Op.move (Operand.tmp 4), type := 3, pos := "law.go:220", after := #[], guard := none }) (v := .int .i64 hw) rfl (by kernel_rfl) (by kernel_rfl) (by kernel_rfl) (fun _ _ _ h => h) (Or.inl ⟨by rfl, fun W hW => ?y13⟩) hs0 ?_
      case y13 => go_simp
      (try dsimp only [Act.put]); try simp only [z1, z2, z3]
      refine wpAnyH_ready (rs := [5]) (by kernel_rfl) (by simp) ?_
      refine AllReadyH.cons (o := { dst := some 70, op := Op.call { callee := Callee.value (Operand.func 28), args := #[Operand.tmp 67, Operand.tmp 68, Operand.tmp 69], argTypes := #[54, 3, 3] }, type := 54, pos := "law.go:220", after := #[{ on := 2, ground := Ground.data }, { on := 3, ground := Ground.data }, { on := 4, ground := Ground.data }], guard := none }) rfl (fun K hK => ?_) AllReadyH.nil
      rw [if_pos (by rfl)]
      have HCC := bent_all hw bn p1 P1 Q1 n1 m1 d1 e1 11 3 Wd U1.out (by decide) (by decide) Hhw.out Hbn.out
      go_simp
      refine HCC.mono ?_; rintro e w14 ⟨p3, P3, Q3, n3, m3, d3, e3, rfl, hpv, hbt⟩
      clear HCC
      have k15 := Lib.hid (k0.out.trans (hbt.mono k0.out.size))
      have hs16 := s19_below hs0 hbt
      have V17 := Lib.hid (U1.out.next hbt)
      have V18 := Lib.hid (U2.out.next hbt)
      have V19 := Lib.hid hpv
      clear hpv hbt
      go_wp2_with fail
      refine hK.out _ _ hs16 (fun _ => ?_)
      clear hK K
      (try dsimp only [Act.put]); try simp only [z1, z2, z3]
      refine wpAnyH_ready (rs := [9]) (by kernel_rfl) (by simp) ?_
      refine AllReadyH.cons (o := { dst := some 74, op := Op.call { callee := Callee.value (Operand.func 28), args := #[Operand.tmp 71, Operand.tmp 72, Operand.tmp 73], argTypes := #[54, 3, 3] }, type := 54, pos := "law.go:220", after := #[{ on := 6, ground := Ground.data }, { on := 7, ground := Ground.data }, { on := 8, ground := Ground.data }, { on := 5, ground := Ground.chain }], guard := none }) rfl (fun K hK => ?_) AllReadyH.nil
      rw [if_pos (by rfl)]
      have HCC := bent_all an bn p2 P2 Q2 n2 m2 d2 e2 11 3 w14 V18.out (by decide) (by decide) Han.out Hbn.out
      go_simp
      refine HCC.mono ?_; rintro e w20 ⟨p4, P4, Q4, n4, m4, d4, e4, rfl, hpv, hbt⟩
      clear HCC
      have k21 := Lib.hid (k15.out.trans (hbt.mono k15.out.size))
      have hs22 := s19_below hs16 hbt
      have V23 := Lib.hid (V17.out.next hbt)
      have V24 := Lib.hid (V18.out.next hbt)
      have V25 := Lib.hid (V19.out.next hbt)
      have V26 := Lib.hid hpv
      clear hpv hbt
      go_wp2_with fail
      refine hK.out _ _ hs22 (fun _ => ?_)
      clear hK K
      (try dsimp only [Act.put]); try simp only [z1, z2, z3]
      refine wpAnyH_ready (rs := [13]) (by kernel_rfl) (by simp) ?_
      refine AllReadyH.cons (o := { dst := some 78, op := Op.call { callee := Callee.value (Operand.func 28), args := #[Operand.tmp 75, Operand.tmp 76, Operand.tmp 77], argTypes := #[54, 3, 3] }, type := 54, pos := "law.go:220", after := #[{ on := 10, ground := Ground.data }, { on := 11, ground := Ground.data }, { on := 12, ground := Ground.data }, { on := 9, ground := Ground.chain }], guard := none }) rfl (fun K hK => ?_) AllReadyH.nil
      rw [if_pos (by rfl)]
      have HCC := bent_all hw bn p1 P1 Q1 n1 m1 d1 e1 11 3 w20 V23.out (by decide) (by decide) Hhw.out Hbn.out
      go_simp
      refine HCC.mono ?_; rintro e w27 ⟨p5, P5, Q5, n5, m5, d5, e5, rfl, hpv, hbt⟩
      clear HCC
      have k28 := Lib.hid (k21.out.trans (hbt.mono k21.out.size))
      have hs29 := s19_below hs22 hbt
      have V30 := Lib.hid (V23.out.next hbt)
      have V31 := Lib.hid (V24.out.next hbt)
      have V32 := Lib.hid (V25.out.next hbt)
      have V33 := Lib.hid (V26.out.next hbt)
      have V34 := Lib.hid hpv
      clear hpv hbt
      go_wp2_with fail
      refine hK.out _ _ hs29 (fun _ => ?_)
      clear hK K
      (try dsimp only [Act.put]); try simp only [z1, z2, z3]
      refine wpAnyH_ready (rs := [16]) (by kernel_rfl) (by simp) ?_
      refine AllReadyH.cons (o := { dst := some 81, op := Op.call { callee := Callee.value (Operand.func 28), args := #[Operand.tmp 78, Operand.tmp 79, Operand.tmp 80], argTypes := #[54, 3, 3] }, type := 54, pos := "law.go:220", after := #[{ on := 13, ground := Ground.data }, { on := 14, ground := Ground.data }, { on := 15, ground := Ground.data }, { on := 13, ground := Ground.chain }], guard := none }) rfl (fun K hK => ?_) AllReadyH.nil
      rw [if_pos (by rfl)]
      have HCC := bent_all an hw p5 P5 Q5 n5 m5 d5 e5 12 5 w27 V34.out (by decide) (by decide) Han.out Hhw.out
      go_simp
      refine HCC.mono ?_; rintro e w35 ⟨p6, P6, Q6, n6, m6, d6, e6, rfl, hpv, hbt⟩
      clear HCC
      have k36 := Lib.hid (k28.out.trans (hbt.mono k28.out.size))
      have hs37 := s19_below hs29 hbt
      have V38 := Lib.hid (V30.out.next hbt)
      have V39 := Lib.hid (V31.out.next hbt)
      have V40 := Lib.hid (V32.out.next hbt)
      have V41 := Lib.hid (V33.out.next hbt)
      have V42 := Lib.hid (V34.out.next hbt)
      have V43 := Lib.hid hpv
      clear hpv hbt
      go_wp2_with fail
      refine hK.out _ _ hs37 (fun _ => ?_)
      clear hK K
      (try dsimp only [Act.put]); try simp only [z1, z2, z3]
      refine wpAnyH_ready (rs := [17]) (by kernel_rfl) (by simp) ?_
      refine AllReadyH.cons (o := { dst := some 82, op := Op.buildSlice 63 5 #[(0, Operand.tmp 65), (1, Operand.tmp 66), (2, Operand.tmp 70), (3, Operand.tmp 74), (4, Operand.tmp 81)], type := 63, pos := "law.go:220", after := #[{ on := 0, ground := Ground.data }, { on := 1, ground := Ground.data }, { on := 5, ground := Ground.data }, { on := 9, ground := Ground.data }, { on := 16, ground := Ground.data }], guard := none }) rfl (fun K hK => ?_) AllReadyH.nil
      rw [if_pos (by rfl)]
      have hbs := build63 w35 p1.first p1.size p2.first p2.size p3.first p3.size p4.first p4.size p6.first p6.size (.slice P1 n1 d1) (.slice Q1 m1 e1) (.slice P2 n2 d2) (.slice Q2 m2 e2) (.slice P3 n3 d3) (.slice Q3 m3 e3) (.slice P4 n4 d4) (.slice Q4 m4 e4) (.slice P6 n6 d6) (.slice Q6 m6 e6)
      have hbt := (Below.refl w35.heap.size w35).alloc (Nat.le_refl _) (.cells [(PR p1.first p1.size (.slice P1 n1 d1) (.slice Q1 m1 e1)), (PR p2.first p2.size (.slice P2 n2 d2) (.slice Q2 m2 e2)), (PR p3.first p3.size (.slice P3 n3 d3) (.slice Q3 m3 e3)), (PR p4.first p4.size (.slice P4 n4 d4) (.slice Q4 m4 e4)), (PR p6.first p6.size (.slice P6 n6 d6) (.slice Q6 m6 e6))].flatten.toArray 54)
      have k44 := Lib.hid (k36.out.trans (hbt.mono k36.out.size))
      have hs45 := s19_below hs37 hbt
      have LP := Lib.hid (listP5 (N := 13) (M := 7) (Blk.new w35 54 [(PR p1.first p1.size (.slice P1 n1 d1) (.slice Q1 m1 e1)), (PR p2.first p2.size (.slice P2 n2 d2) (.slice Q2 m2 e2)), (PR p3.first p3.size (.slice P3 n3 d3) (.slice Q3 m3 e3)), (PR p4.first p4.size (.slice P4 n4 d4) (.slice Q4 m4 e4)), (PR p6.first p6.size (.slice P6 n6 d6) (.slice Q6 m6 e6))].flatten) ((V38.out.next hbt).wide (by decide) (by decide)) ((V39.out.next hbt).wide (by decide) (by decide)) ((V40.out.next hbt).wide (by decide) (by decide)) ((V41.out.next hbt).wide (by decide) (by decide)) ((V43.out.next hbt).wide (by decide) (by decide)))
      clear hbt
      refine wp_bs rfl (by simp only [List.map_toArray, List.map_cons, List.map_nil]; rfl) hbs ?_
      clear hbs
      refine hK.out _ _ hs45 (fun _ => ?_)
      clear hK K
      (try dsimp only [Act.put]); try simp only [z1, z2, z3]
      refine wpAnyH_take (i := 18) (oi := { dst := some 23, op := Op.assign (Operand.tmp 82), type := 63, pos := "law.go:220", after := #[{ on := 17, ground := Ground.data }, { on := 16, ground := Ground.chain }, { on := 0, ground := Ground.phase }, { on := 1, ground := Ground.phase }, { on := 2, ground := Ground.phase }, { on := 3, ground := Ground.phase }, { on := 4, ground := Ground.phase }, { on := 5, ground := Ground.phase }, { on := 6, ground := Ground.phase }, { on := 7, ground := Ground.phase }, { on := 8, ground := Ground.phase }, { on := 9, ground := Ground.phase }, { on := 10, ground := Ground.phase }, { on := 11, ground := Ground.phase }, { on := 12, ground := Ground.phase }, { on := 13, ground := Ground.phase }, { on := 14, ground := Ground.phase }, { on := 15, ground := Ground.phase }, { on := 16, ground := Ground.phase }, { on := 17, ground := Ground.phase }], guard := none }) (v := .slice (some ⟨w35.heap.size, 0, none⟩) 5 5) rfl (by kernel_rfl) (by kernel_rfl) (by kernel_rfl) (fun _ _ _ h => h) (Or.inl ⟨by rfl, fun W hW => ?y46⟩) hs45 ?_
      case y46 => go_simp
      (try dsimp only [Act.put]); try simp only [z1, z2, z3]
      refine wpAnyH_done (by kernel_rfl) ?_ _
      (try dsimp only [Act.put]); try simp only [z1, z2, z3]
      go_wp2_with fail
      go_meet
      exact ⟨w35.heap.size, rfl, Lib.hid ⟨LP.out, k44.out⟩⟩
  case rest =>
  obtain ⟨gl, rfl, KE⟩ := hcut
  obtain ⟨w13, hw13⟩ : ∃ W, W = wc := ⟨_, rfl⟩
  rw [← hw13] at KE ⊢
  have B13 := Lib.hid (B12.out.trans (KE.out.2.mono B12.out.size))
  have LP13 := KE
  have XR13 := Lib.hid (XR12.out.below KE.out.2 XR12.out.lt)
  clear KE hw13 HS12 PV1c PV2 X19a X21 XR12 B12
  go_wp2_with (go_at_call 20; with_reducible refine (HKa.out kn Hkn.out w13 B13.out).mono ?_; rintro e w14 ⟨F, rfl, hb⟩; have B14 := Lib.hid (B13.out.trans (hb.mono B13.out.size)); have D14 := Lib.hid hb; clear hb)
  refine (HKb.out mn Hmn.out w14 B14.out).mono ?_; rintro e w15 ⟨T, rfl, hb⟩
  have B15 := Lib.hid (B14.out.trans (hb.mono B14.out.size))
  have D15 := Lib.hid (D14.out.trans (hb.mono D14.out.size))
  clear hb
  go_wp2_with fail
  refine (HKa.out bn Hbn.out w15 B15.out).mono ?_; rintro e w16 ⟨G, rfl, hb⟩
  have B16 := Lib.hid (B15.out.trans (hb.mono B15.out.size))
  have D16 := Lib.hid (D15.out.trans (hb.mono D15.out.size))
  clear hb
  go_wp2_with fail
  obtain ⟨W9, hW9⟩ : ∃ W, W = w16.alloc (.cells #[.string F, .string T, .string G] 9) := ⟨_, rfl⟩
  have hb9 : Below w16.heap.size w16 W9 := by rw [hW9]; exact (Below.refl _ _).alloc (Nat.le_refl _) _
  have B17 := Lib.hid (B16.out.trans (hb9.mono B16.out.size))
  have D17 := Lib.hid (D16.out.trans (hb9.mono D16.out.size))
  have KK0 := Lib.hid (show Blk W9 w16.heap.size 9 [.string F, .string T, .string G] by rw [hW9]; exact Blk.new w16 9 [.string F, .string T, .string G])
  have XR9 := Lib.hid (XR13.out.below D17.out XR13.out.lt)
  have LP := Lib.hid (show ListP W9 gl 5 13 7 from fun i hi => by
    obtain ⟨p, A1, A2, n, m, c1, c2, h1, h2⟩ := LP13.out.1 i hi
    exact ⟨p, A1, A2, n, m, c1, c2, fun q u hu => (D17.out.cell (World.block_lt_of_cell? _ _ (h1 q u hu))).trans (h1 q u hu), h2.next D17.out⟩)
  have LS9 := Lib.hid ((L1a.out.below B17.out).more B17.out.size)
  have Bs9 := Lib.hid (Bs2.out.trans (B17.out.mono Bs2.out.size))
  have HW9 := Lib.hid hW9
  obtain ⟨gk, hgk⟩ : ∃ g, g = w16.heap.size := ⟨_, rfl⟩
  rw [← hgk] at KK0 ⊢
  clear hW9 hb9 hgk B13 B14 B15 B16 D14 D15 D16 D17 LP13 XR13 HKa HKb B17 L1a L2 Bs1 Bs2 HN2 Hkn Hmn Hhw Hbn Han
  go_loopw [25] (fun s25 wr => ∃ i : Nat, i ≤ 5 ∧ s25 = .int .i64 i ∧ Hid (Below W9.heap.size W9 wr)) (fun s25 _ => 5 - (intOf s25).toNat)
  case atStart => exact ⟨0, by omega, rfl, Lib.hid (by rw [HW9.out]; exact Below.refl _ _)⟩
  case round =>
  obtain ⟨i, hi5, rfl, HB⟩ := hrel
  clear HW9
  by_cases hlt : i < 5
  · obtain ⟨p, P1, P2, n, m, d1, d2, hcells, hpv⟩ := LP.out i hlt
    have hltI : (i : Int) < 5 := by omega
    have HPV := Lib.hid hpv
    have HCL := Lib.hid hcells
    clear hcells hpv
    go_wp2_with fail
    go_loopw [26] (fun s26 wr => ∃ j : Nat, j ≤ 3 ∧ s26 = .int .i64 j ∧ Hid (Below W9.heap.size W9 wr)) (fun s26 _ => 3 - (intOf s26).toNat)
    case atStart => exact ⟨0, by omega, rfl, HB⟩
    case round =>
      as_aux_lemma =>
        clear HB
        obtain ⟨j, hj3, rfl, HB⟩ := hrel
        by_cases hjl : j < 3
        · have hjI : (j : Int) < 3 := by omega
          obtain ⟨j1, hj1⟩ : ∃ j1 : Nat, j1 = (j + 1) % 3 := ⟨_, rfl⟩
          have hj13 : j1 < 3 := by omega
          have HJ1 := Lib.hid (show ((j : Int) + 1) % 3 = (j1 : Int) by omega)
          have hj1I : (j1 : Int) < 3 := by omega
          obtain ⟨KJ, hKJ⟩ := keys_at (F := F) (T := T) (G := G) j hjl
          obtain ⟨KK, hKK⟩ := keys_at (F := F) (T := T) (G := G) j1 hj13
          have HS16 := Lib.hid ((show At5 R gr gk j j1 KJ KK gl i (PR p.first p.size (.slice P1 n d1) (.slice P2 m d2)) W9 from ⟨XR9.out, (KK0.out.cell j).trans hKJ, (KK0.out.cell j1).trans hKK, HCL.out⟩).below HB.out)
          have HPW := Lib.hid (fun (W : World) (hb : Below wr.heap.size wr W) => HPV.out.next (HB.out.trans (hb.mono HB.out.size)))
          have HPF := Lib.hid (fun (W : World) (hb : Below wr.heap.size wr W) => show Calls Tryd.prog 30 #[.agg (PR p.first p.size (.slice P1 n d1) (.slice P2 m d2)).toArray] W fun e w' => ∃ A' c', e = .returned (.agg (PR p.first p.size (.slice A' n c') (.slice P2 m d2)).toArray) ∧ PfAt w' w'.heap.size p A' P2 c' d2 ∧ Below W.heap.size W w' from pfOf_any p P1 P2 n m d1 d2 W (HPV.out.hn) (HPV.out.hm) (HPW.out W hb).at_)
          obtain ⟨r, hr⟩ : ∃ r, r = checkR node lf top R KJ p := ⟨_, rfl⟩
          obtain ⟨rv, hrv⟩ : ∃ v, v = r.1 := ⟨_, rfl⟩
          obtain ⟨ri, hri⟩ : ∃ v, v = r.2.1 := ⟨_, rfl⟩
          obtain ⟨re, hre⟩ : ∃ v, v = r.2.2 := ⟨_, rfl⟩
          have HCK := Lib.hid (fun (W : World) (A' : Option Addr) (c' : Nat) (hp : PfAt W W.heap.size p A' P2 c' d2) (hb : Below wr.heap.size wr W) => show Calls Tryd.prog 29 #[.agg (B8 R).toArray, .string KJ, .agg (PR p.first p.size (.slice A' n c') (.slice P2 m d2)).toArray] W fun e w' => e = .returned (.tuple #[.string rv, .bool ri, .int .i64 re]) ∧ Below W.heap.size W w' from by
            have := check_any R KJ p A' P2 c' d2 W HRl.out hp (HT.out.below (Bs9.out.trans ((HB.out.trans (hb.mono HB.out.size)).mono Bs9.out.size)) HT.out.1)
            rw [← hr, ← hrv, ← hri, ← hre, ← HPV.out.hn, ← HPV.out.hm] at this; exact this)
          have HVAL := Lib.hid (show re = 0 ∨ re = 17 by rw [hre, hr]; exact check_vals R KJ p)
          have HCO := Lib.hid (fun (W : World) (hu : underB node lf top R p = true) (hcl : Clash (textsOf La 0 [] La.length ++ textsOf p.leaves p.first.toNat p.sides p.size.toNat)) (hb : Below wr.heap.size wr W) => show Calls Tryd.prog 45 #[.slice A1 N1 c1, .agg (PR p.first p.size (.slice P1 n d1) (.slice P2 m d2)).toArray] W fun e w' => e = .returned (.bool true) ∧ Below W.heap.size W w' from by
            have hb3 := HB.out.trans (hb.mono HB.out.size)
            exact collide_pv A1 La N1 c1 p P1 P2 n m d1 d2 13 7 R W HN1.out.1 ((LS9.out.below hb3).more hb3.size) (by have := HN1.out.2.1; omega) (HPW.out W hb) hu (HT0.out.below (Bs9.out.trans (hb3.mono Bs9.out.size)) HT0.out.1) hcl)
          obtain ⟨rb, hrb⟩ : ∃ b, b = rightB La KJ rv ri := ⟨_, rfl⟩
          have HRB := Lib.hid hrb
          have HSC := Lib.hid (show re = 0 → rb = false → underB node lf top R p = true ∧ Clash (textsOf La 0 [] La.length ++ textsOf p.leaves p.first.toNat p.sides p.size.toNat) from fun h1 h2 => by
            rw [hre, hr] at h1
            rw [hrb, hrv, hri, hr] at h2
            refine ⟨check_under h1, ?_⟩
            rw [HRD.out] at h1 h2
            exact sound_check La KJ p LS9.out.ok HN1.out.2.2.2 HPV.out.at_.okl HPV.out.at_.oks.2 h1 h2)
          obtain ⟨at_, hat⟩ : ∃ a, a = hasI La KJ := ⟨_, rfl⟩
          have HAT := Lib.hid hat
          have HHS := Lib.hid (fun (W : World) (hb : Below wr.heap.size wr W) => show Calls Tryd.prog 43 #[.slice A1 N1 c1, .string KJ] W fun e w' => e = .returned (.int .i64 at_) ∧ W = w' from by
            have hb3 := HB.out.trans (hb.mono HB.out.size)
            have := has_any A1 La c1 KJ W LS9.out.ok.1 ((LS9.out.below hb3).more hb3.size).rd
            rw [← hat, ← HN1.out.1] at this
            exact this.mono fun e w' h => ⟨h.1, h.2.symm⟩)
          clear hKJ hKK hr hrv hri hre hrb hat hj13 hj1
          go_upto_region 16 with fail
          go_cut [27, 28, 29] from 99 to 205 (fun s27 s28 s29 wx => s27 = .string rv ∧ s28 = .bool ri ∧ s29 = .int .i64 re ∧ Hid (Below wr.heap.size wr wx))
          case first =>
            as_aux_lemma =>
              refine wp_region_held (S := fun W => At5 R gr gk j j1 KJ KK gl i (PR p.first p.size (.slice P1 n d1) (.slice P2 m d2)) W) (by kernel_rfl) ?_
              change wpAnyH _ _ _ _ _ _ _ _ (World.drew wr)
              have k0 := Lib.hid (Below.refl wr.heap.size wr).drew
              have hs0 : At5 R gr gk j j1 KJ KK gl i (PR p.first p.size (.slice P1 n d1) (.slice P2 m d2)) (World.drew wr) := HS16.out.below (Below.refl wr.heap.size wr).drew
              generalize World.drew wr = Wd at k0 hs0 ⊢
              refine wpAnyH_take (i := 0) (oi := { dst := some 106, op := Op.load 29 (Operand.tmp 17), type := 29, pos := "law.go:224", after := #[], guard := none }) (v := .agg (B8 R).toArray) rfl (by kernel_rfl) (by kernel_rfl) (by kernel_rfl) (fun _ _ _ h => h) (Or.inl ⟨by rfl, fun W hW => exec_load_row _ _ 29 (.tmp 17) rfl ⟨gr, 0, none⟩ rfl (B8 R) W (run_loadVar_at W _ 29 (B8 R) (.array 16 5) (Blk.at hW.r) Tryd.underlying29 rfl (size29 _ HRl.out))⟩) hs0 ?_
              (try dsimp only [Act.put]); try simp only [z1, z2, z3]
              refine wpAnyH_take (i := 1) (oi := { dst := some 107, op := Op.move (Operand.tmp 24), type := 47, pos := "law.go:224", after := #[], guard := none }) (v := .slice (some ⟨gk, 0, none⟩) 3 3) rfl (by kernel_rfl) (by kernel_rfl) (by kernel_rfl) (fun _ _ _ h => h) (Or.inl ⟨by rfl, fun W hW => ?y2⟩) hs0 ?_
              case y2 => go_simp
              (try dsimp only [Act.put]); try simp only [z1, z2, z3]
              refine wpAnyH_take (i := 2) (oi := { dst := some 108, op := Op.move (Operand.tmp 26), type := 3, pos := "law.go:224", after := #[], guard := none }) (v := .int .i64 (j : Int)) rfl (by kernel_rfl) (by kernel_rfl) (by kernel_rfl) (fun _ _ _ h => h) (Or.inl ⟨by rfl, fun W hW => ?y3⟩) hs0 ?_
              case y3 => go_simp
              (try dsimp only [Act.put]); try simp only [z1, z2, z3]
              refine wpAnyH_take (i := 3) (oi := { dst := some 109, op := Op.indexAddr 47 (Operand.tmp 107) (Operand.tmp 108), type := 0, pos := "law.go:224", after := #[{ on := 1, ground := Ground.data }, { on := 2, ground := Ground.data }], guard := none }) (v := .pointer (some ⟨gk, j, none⟩)) rfl (by kernel_rfl) (by kernel_rfl) (by kernel_rfl) (fun _ _ _ h => h) (Or.inl ⟨by rfl, fun W hW => ?y4⟩) hs0 ?_
              case y4 => go_simp
              (try dsimp only [Act.put]); try simp only [z1, z2, z3]
              refine wpAnyH_take (i := 4) (oi := { dst := some 110, op := Op.load 9 (Operand.tmp 109), type := 9, pos := "law.go:224", after := #[{ on := 3, ground := Ground.data }], guard := none }) (v := .string KJ) rfl (by kernel_rfl) (by kernel_rfl) (by kernel_rfl) (fun _ _ _ h => h) (Or.inl ⟨by rfl, fun W hW => by have hcl := hW.k; go_simp⟩) hs0 ?_
              (try dsimp only [Act.put]); try simp only [z1, z2, z3]
              refine wpAnyH_take (i := 5) (oi := { dst := some 111, op := Op.move (Operand.tmp 23), type := 63, pos := "law.go:224", after := #[], guard := none }) (v := .slice (some ⟨gl, 0, none⟩) 5 5) rfl (by kernel_rfl) (by kernel_rfl) (by kernel_rfl) (fun _ _ _ h => h) (Or.inl ⟨by rfl, fun W hW => ?y6⟩) hs0 ?_
              case y6 => go_simp
              (try dsimp only [Act.put]); try simp only [z1, z2, z3]
              refine wpAnyH_take (i := 6) (oi := { dst := some 112, op := Op.move (Operand.tmp 25), type := 3, pos := "law.go:224", after := #[], guard := none }) (v := .int .i64 (i : Int)) rfl (by kernel_rfl) (by kernel_rfl) (by kernel_rfl) (fun _ _ _ h => h) (Or.inl ⟨by rfl, fun W hW => ?y7⟩) hs0 ?_
              case y7 => go_simp
              (try dsimp only [Act.put]); try simp only [z1, z2, z3]
              refine wpAnyH_take (i := 7) (oi := { dst := some 113, op := Op.indexAddr 63 (Operand.tmp 111) (Operand.tmp 112), type := 0, pos := "law.go:224", after := #[{ on := 5, ground := Ground.data }, { on := 6, ground := Ground.data }], guard := none }) (v := .pointer (some ⟨gl, i * 4, none⟩)) rfl (by kernel_rfl) (by kernel_rfl) (by kernel_rfl) (fun _ _ _ h => h) (Or.inl ⟨by rfl, fun W hW => ?y8⟩) hs0 ?_
              case y8 => go_simp
              (try dsimp only [Act.put]); try simp only [z1, z2, z3]
              refine wpAnyH_take (i := 8) (oi := { dst := some 114, op := Op.load 54 (Operand.tmp 113), type := 54, pos := "law.go:224", after := #[{ on := 7, ground := Ground.data }], guard := none }) (v := .agg (PR p.first p.size (.slice P1 n d1) (.slice P2 m d2)).toArray) rfl (by kernel_rfl) (by kernel_rfl) (by kernel_rfl) (fun _ _ _ h => h) (Or.inl ⟨by rfl, fun W hW => exec_load_row _ _ 54 (.tmp 113) rfl ⟨gl, i * 4, none⟩ rfl (PR p.first p.size (.slice P1 n d1) (.slice P2 m d2)) W (run_loadVar_at W _ 54 (PR p.first p.size (.slice P1 n d1) (.slice P2 m d2)) _ (hW.p) Tryd.underlying54 rfl (size54L _ _ _ _))⟩) hs0 ?_
              (try dsimp only [Act.put]); try simp only [z1, z2, z3]
              refine wpAnyH_ready (rs := [9]) (by kernel_rfl) (by simp) ?_
              refine AllReadyH.cons (o := { dst := some 115, op := Op.call { callee := Callee.value (Operand.func 30), args := #[Operand.tmp 114], argTypes := #[54] }, type := 50, pos := "law.go:224", after := #[{ on := 8, ground := Ground.data }], guard := none }) rfl (fun K hK => ?_) AllReadyH.nil
              rw [if_pos (by rfl)]
              have HCC := HPF.out Wd k0.out
              go_simp
              refine HCC.mono ?_; rintro e w10 ⟨A9, c9, rfl, hpa, hbt⟩
              clear HCC
              have k11 := Lib.hid (k0.out.trans (hbt.mono k0.out.size))
              have hs12 := hs0.below hbt
              have O9 := Lib.hid hpa
              clear hpa
              clear hbt
              go_wp2_with fail
              refine hK.out _ _ hs12 (fun _ => ?_)
              clear hK K
              (try dsimp only [Act.put]); try simp only [z1, z2, z3]
              refine wpAnyH_ready (rs := [10]) (by kernel_rfl) (by simp) ?_
              refine AllReadyH.cons (o := { dst := some 116, op := Op.call { callee := Callee.value (Operand.func 29), args := #[Operand.tmp 106, Operand.tmp 110, Operand.tmp 115], argTypes := #[29, 9, 50] }, type := 64, pos := "law.go:224", after := #[{ on := 0, ground := Ground.data }, { on := 4, ground := Ground.data }, { on := 9, ground := Ground.data }, { on := 9, ground := Ground.chain }], guard := none }) rfl (fun K hK => ?_) AllReadyH.nil
              rw [if_pos (by rfl)]
              have HCC := HCK.out w10 A9 c9 O9.out k11.out
              go_simp
              refine HCC.mono ?_; rintro e w13 ⟨rfl, hbt⟩
              clear HCC
              have k14 := Lib.hid (k11.out.trans (hbt.mono k11.out.size))
              have hs15 := hs12.below hbt
              clear hbt
              go_wp2_with fail
              refine hK.out _ _ hs15 (fun _ => ?_)
              clear hK K
              (try dsimp only [Act.put]); try simp only [z1, z2, z3]
              refine wpAnyH_take (i := 11) (oi := { dst := some 105, op := Op.move (Operand.tmp 116), type := 64, pos := "law.go:224", after := #[{ on := 10, ground := Ground.data }], guard := none }) (v := .tuple #[.string rv, .bool ri, .int .i64 re]) rfl (by kernel_rfl) (by kernel_rfl) (by kernel_rfl) (fun _ _ _ h => h) (Or.inl ⟨by rfl, fun W hW => ?y16⟩) hs15 ?_
              case y16 => go_simp
              (try dsimp only [Act.put]); try simp only [z1, z2, z3]
              refine wpAnyH_take (i := 12) (oi := { dst := some 117, op := Op.extract (Operand.tmp 105) 0, type := 9, pos := "law.go:224", after := #[{ on := 11, ground := Ground.data }], guard := none }) (v := .string rv) rfl (by kernel_rfl) (by kernel_rfl) (by kernel_rfl) (fun _ _ _ h => h) (Or.inl ⟨by rfl, fun W hW => ?y17⟩) hs15 ?_
              case y17 => go_simp
              (try dsimp only [Act.put]); try simp only [z1, z2, z3]
              refine wpAnyH_take (i := 13) (oi := { dst := some 118, op := Op.extract (Operand.tmp 105) 1, type := 4, pos := "law.go:224", after := #[{ on := 11, ground := Ground.data }, { on := 15, ground := Ground.gcOnly Departure.lateStores }], guard := none }) (v := .bool ri) rfl (by kernel_rfl) (by kernel_rfl) (by kernel_rfl) (fun _ _ _ h => h) (Or.inl ⟨by rfl, fun W hW => ?y18⟩) hs15 ?_
              case y18 => go_simp
              (try dsimp only [Act.put]); try simp only [z1, z2, z3]
              refine wpAnyH_take (i := 14) (oi := { dst := some 119, op := Op.extract (Operand.tmp 105) 2, type := 30, pos := "law.go:224", after := #[{ on := 11, ground := Ground.data }, { on := 16, ground := Ground.gcOnly Departure.lateStores }], guard := none }) (v := .int .i64 re) rfl (by kernel_rfl) (by kernel_rfl) (by kernel_rfl) (fun _ _ _ h => h) (Or.inl ⟨by rfl, fun W hW => ?y19⟩) hs15 ?_
              case y19 => go_simp
              (try dsimp only [Act.put]); try simp only [z1, z2, z3]
              refine wpAnyH_take (i := 15) (oi := { dst := some 27, op := Op.assign (Operand.tmp 117), type := 9, pos := "law.go:224", after := #[{ on := 12, ground := Ground.data }, { on := 10, ground := Ground.chain }, { on := 0, ground := Ground.phase }, { on := 1, ground := Ground.phase }, { on := 2, ground := Ground.phase }, { on := 3, ground := Ground.phase }, { on := 4, ground := Ground.phase }, { on := 5, ground := Ground.phase }, { on := 6, ground := Ground.phase }, { on := 7, ground := Ground.phase }, { on := 8, ground := Ground.phase }, { on := 9, ground := Ground.phase }, { on := 10, ground := Ground.phase }, { on := 11, ground := Ground.phase }, { on := 12, ground := Ground.phase }, { on := 13, ground := Ground.textOnly Departure.lateStores }, { on := 14, ground := Ground.textOnly Departure.lateStores }], guard := none }) (v := .string rv) rfl (by kernel_rfl) (by kernel_rfl) (by kernel_rfl) (fun _ _ _ h => h) (Or.inl ⟨by rfl, fun W hW => ?y20⟩) hs15 ?_
              case y20 => go_simp
              (try dsimp only [Act.put]); try simp only [z1, z2, z3]
              refine wpAnyH_take (i := 16) (oi := { dst := some 28, op := Op.assign (Operand.tmp 118), type := 4, pos := "law.go:224", after := #[{ on := 13, ground := Ground.data }, { on := 15, ground := Ground.chain }, { on := 0, ground := Ground.phase }, { on := 1, ground := Ground.phase }, { on := 2, ground := Ground.phase }, { on := 3, ground := Ground.phase }, { on := 4, ground := Ground.phase }, { on := 5, ground := Ground.phase }, { on := 6, ground := Ground.phase }, { on := 7, ground := Ground.phase }, { on := 8, ground := Ground.phase }, { on := 9, ground := Ground.phase }, { on := 10, ground := Ground.phase }, { on := 11, ground := Ground.phase }, { on := 12, ground := Ground.phase }, { on := 13, ground := Ground.phase }, { on := 14, ground := Ground.textOnly Departure.lateStores }, { on := 15, ground := Ground.phase }], guard := none }) (v := .bool ri) rfl (by kernel_rfl) (by kernel_rfl) (by kernel_rfl) (fun _ _ _ h => h) (Or.inl ⟨by rfl, fun W hW => ?y21⟩) hs15 ?_
              case y21 => go_simp
              (try dsimp only [Act.put]); try simp only [z1, z2, z3]
              refine wpAnyH_take (i := 17) (oi := { dst := some 29, op := Op.assign (Operand.tmp 119), type := 30, pos := "law.go:224", after := #[{ on := 14, ground := Ground.data }, { on := 16, ground := Ground.chain }, { on := 0, ground := Ground.phase }, { on := 1, ground := Ground.phase }, { on := 2, ground := Ground.phase }, { on := 3, ground := Ground.phase }, { on := 4, ground := Ground.phase }, { on := 5, ground := Ground.phase }, { on := 6, ground := Ground.phase }, { on := 7, ground := Ground.phase }, { on := 8, ground := Ground.phase }, { on := 9, ground := Ground.phase }, { on := 10, ground := Ground.phase }, { on := 11, ground := Ground.phase }, { on := 12, ground := Ground.phase }, { on := 13, ground := Ground.phase }, { on := 14, ground := Ground.phase }, { on := 15, ground := Ground.phase }, { on := 16, ground := Ground.phase }], guard := none }) (v := .int .i64 re) rfl (by kernel_rfl) (by kernel_rfl) (by kernel_rfl) (fun _ _ _ h => h) (Or.inl ⟨by rfl, fun W hW => ?y22⟩) hs15 ?_
              case y22 => go_simp
              (try dsimp only [Act.put]); try simp only [z1, z2, z3]
              refine wpAnyH_done (by kernel_rfl) ?_ _
              (try dsimp only [Act.put]); try simp only [z1, z2, z3]
              have KE := k14
              go_wp2_with fail
              go_meet
              exact ⟨rfl, rfl, rfl, KE⟩
          case rest =>
          obtain ⟨rfl, rfl, rfl, KE⟩ := hcut
          obtain ⟨w17, hw17⟩ : ∃ W, W = wc := ⟨_, rfl⟩
          rw [← hw17] at KE ⊢
          clear hw17
          have hk17 : w17.cell? ⟨gk, j, none⟩ = some (.string KJ) := (HS16.out.below KE.out).k
          go_upto_region 18 with (go_at_call 43; refine (HHS.out w17 KE.out).mono ?_; rintro e wx ⟨rfl, rfl⟩)
          clear hk17 HHS
          obtain ⟨e1, he1⟩ : ∃ b, b = (ri == decide (0 ≤ at_)) := ⟨_, rfl⟩
          have HE1 := Lib.hid he1
          clear he1
          go_cut [31] from 99 to 205 (fun s31 wx => s31 = .bool e1 ∧ w17 = wx)
          case first =>
            have he1 := HE1.out
            by_cases h0 : 0 ≤ at_
            · rw [decide_eq_true h0] at he1
              cases ri <;> simp at he1 <;> subst he1 <;> (go_wp2_with fail; go_meet; exact ⟨rfl, rfl⟩)
            · rw [decide_eq_false h0] at he1
              cases ri <;> simp at he1 <;> subst he1 <;> (go_wp2_with fail; go_meet; exact ⟨rfl, rfl⟩)
          case rest =>
          obtain ⟨rfl, rfl⟩ := hcut
          obtain ⟨t133, ht133⟩ : ∃ b, b = (e1 && ri) := ⟨_, rfl⟩
          have HT133 := Lib.hid ht133
          clear ht133
          go_upto_region 19 with fail
          go_cut [133] from 99 to 205 (fun s133 wx => s133 = .bool t133 ∧ w17 = wx)
          case first =>
            have h1 := HT133.out
            cases e1 <;> cases ri <;> simp at h1 <;> subst h1 <;> (go_wp2_with fail; go_meet; exact ⟨rfl, rfl⟩)
          case rest =>
          obtain ⟨rfl, rfl⟩ := hcut
          go_upto_if 133 with fail
          go_cut [31] from 99 to 205 (fun s31 wx => s31 = .bool rb ∧ w17 = wx)
          case first =>
            as_aux_lemma =>
              have h1 := HT133.out
              have h2 := HE1.out
              have h3 := HRB.out
              have hat := HAT.out
              unfold rightB at h3
              rw [← hat, ← h2] at h3
              cases t133 with
              | true =>
                have h4 : e1 = true ∧ ri = true := by rw [← Bool.and_eq_true]; exact h1.symm
                obtain ⟨rfl, rfl⟩ := h4
                rw [if_pos rfl, if_pos rfl] at h3
                have h5 : 0 ≤ at_ := by
                  rcases Int.lt_or_le at_ 0 with h | h
                  · rw [decide_eq_false (by omega)] at h2; exact absurd h2 (by decide)
                  · exact h
                obtain ⟨q, hq⟩ : ∃ q : Nat, at_ = (q : Int) := ⟨at_.toNat, by omega⟩
                have hql : q < La.length := by have := hasI_lt La KJ (by rw [← hat]; exact h5); rw [← hat, hq] at this; simpa using this
                have hqN : (q : Int) < (N1 : Int) := by have := HN1.out.1; omega
                rw [hq, Int.toNat_natCast, List.getD_eq_getElem?_getD, List.getElem?_eq_getElem hql] at h3
                have hb3 := HB.out.trans (KE.out.mono HB.out.size)
                obtain ⟨g, o, hA, hg, hc⟩ := leaf_cells ((LS9.out.below hb3).more hb3.size).rd q hql
                obtain ⟨v2, hv2⟩ : ∃ v, v = La[q].2 := ⟨_, rfl⟩
                have hc2 := (hc q hql).2
                rw [← hv2] at hc2
                have h3' : rb = decide (rv = v2) := by rw [hv2]; exact h3
                have hqm : max (q : Int) 0 = (q : Int) := by omega
                subst hA
                subst hq
                clear h1 h2 h3 hat hc hv2 h5 hb3 hql HAT HE1 HT133
                by_cases hvv : rv = v2
                · rw [decide_eq_true hvv] at h3'
                  subst h3'
                  subst hvv
                  go_wp2_with fail
                  go_meet
                  exact ⟨rfl, rfl⟩
                · rw [decide_eq_false hvv] at h3'
                  subst h3'
                  have i2 : (rv.toList == v2.toList) = false := neq_str hvv
                  clear hvv
                  go_wp2_with fail
                  go_meet
                  exact ⟨rfl, rfl⟩
              | false =>
                have h4 : rb = e1 := by
                  rw [h3]
                  cases e1 with
                  | false => rfl
                  | true =>
                    have : ri = false := by simpa using h1.symm
                    rw [this]; rfl
                clear h1 h2 h3 hat
                subst h4
                go_wp2_with fail
                go_meet
                exact ⟨rfl, rfl⟩
          case rest =>
          obtain ⟨rfl, rfl⟩ := hcut
          go_upto_region 21 with fail
          go_cut [156] from 99 to 205 (fun s156 wx => s156 = .bool false ∧ Hid (Below wr.heap.size wr wx))
          case first =>
            as_aux_lemma =>
              rcases HVAL.out with hv | hv
              · have hrbb : rb = true ∨ rb = false := by cases rb <;> simp
                rcases hrbb with hrbb | hrbb
                · subst hrbb
                  subst hv
                  go_wp2_with fail
                  go_meet
                  exact ⟨rfl, KE⟩
                · subst hrbb
                  obtain ⟨hu, hcl⟩ := HSC.out hv rfl
                  have HC45 := Lib.hid (HCO.out w17 hu hcl KE.out)
                  have HLD := Lib.hid (HS16.out.below KE.out).p
                  subst hv
                  clear hu hcl
                  go_wp2_with (first
                    | (refine wpList_load_guarded 54 (.tmp 152) rfl ⟨gl, i * 4, none⟩ rfl (by rfl) (PR p.first p.size (.slice P1 n d1) (.slice P2 m d2)) _ HLD.out Tryd.underlying54 rfl (size54L _ _ _ _) ?_)
                    | (go_at_call 45; refine HC45.out.mono ?_; rintro e w18 ⟨rfl, hb⟩; have K18 := Lib.hid (KE.out.trans (hb.mono KE.out.size)); clear hb))
                  go_meet
                  exact ⟨rfl, K18⟩
              · subst hv
                go_wp2_with fail
                go_meet
                exact ⟨rfl, KE⟩
          case rest =>
          obtain ⟨rfl, KB21⟩ := hcut
          obtain ⟨w21, hw21⟩ : ∃ W, W = wc := ⟨_, rfl⟩
          rw [← hw21] at KB21 ⊢
          clear hw21 KE
          have HS21 := Lib.hid (HS16.out.below KB21.out)
          obtain ⟨rr, hrr⟩ : ∃ r, r = checkRangeR node lf top R KJ KK p := ⟨_, rfl⟩
          obtain ⟨Ls, hLs⟩ : ∃ v, v = rr.1 := ⟨_, rfl⟩
          obtain ⟨ge, hge⟩ : ∃ v, v = rr.2 := ⟨_, rfl⟩
          have HCR := Lib.hid (fun (W : World) (A' : Option Addr) (c' : Nat) (hp : PfAt W W.heap.size p A' P2 c' d2) (hb : Below wr.heap.size wr W) => show Calls Tryd.prog 32 #[.agg (B8 R).toArray, .string KJ, .string KK, .agg (PR p.first p.size (.slice A' n c') (.slice P2 m d2)).toArray] W fun e w' => ∃ As ns cs, e = .returned (.tuple #[.slice As ns cs, .int .i64 ge]) ∧ (ns = Ls.length ∧ Rd w' w'.heap.size As (LC Ls)) ∧ Below W.heap.size W w' from by
            have := checkRange_any R KJ KK p A' P2 c' d2 W HRl.out hp (HT.out.below (Bs9.out.trans ((HB.out.trans (hb.mono HB.out.size)).mono Bs9.out.size)) HT.out.1)
            rw [← hrr, ← hLs, ← hge, ← HPV.out.hn, ← HPV.out.hm] at this
            exact this.mono fun e w' ⟨As, ns, cs, h1, h2, h3⟩ => ⟨As, ns, cs, h1, ⟨h2.1, h2.2.1⟩, h3⟩)
          have HVG := Lib.hid (show ge = 0 ∨ ge = 5 ∨ ge = 17 by rw [hge, hrr]; exact range_vals R KJ KK p)
          have HLL := Lib.hid (show Ls.length ≤ 1073741824 by rw [hLs, hrr]; have := range_len R KJ KK p; have := HPV.out.at_.okl.1; omega)
          have HSR := Lib.hid (show ge = 0 → Ls ≠ insideR La KJ KK → underB node lf top R p = true ∧ Clash (textsOf La 0 [] La.length ++ textsOf p.leaves p.first.toNat p.sides p.size.toNat) from fun h1 h2 => by
            rw [hge, hrr] at h1
            rw [hLs, hrr] at h2
            refine ⟨range_under h1, ?_⟩
            rw [HRD.out] at h1 h2
            exact sound_range La KJ KK p LS9.out.ok HN1.out.2.2.2 HPV.out.at_.okl HPV.out.at_.oks.2 h1 h2)
          clear hrr hLs hge HCK HVAL HRB HSC HAT HE1 HT133
          go_upto_region 23 with fail
          go_cut [32, 33] from 99 to 205 (fun s32 s33 wx => ∃ As ns cs, s32 = .slice As ns cs ∧ s33 = .int .i64 ge ∧ Hid ((ns = Ls.length ∧ Rd wx wx.heap.size As (LC Ls)) ∧ Below w21.heap.size w21 wx))
          case first =>
            as_aux_lemma =>
              refine wp_region_held (S := fun W => At5 R gr gk j j1 KJ KK gl i (PR p.first p.size (.slice P1 n d1) (.slice P2 m d2)) W) (by kernel_rfl) ?_
              change wpAnyH _ _ _ _ _ _ _ _ (World.drew w21)
              have k0 := Lib.hid (Below.refl w21.heap.size w21).drew
              have hs0 : At5 R gr gk j j1 KJ KK gl i (PR p.first p.size (.slice P1 n d1) (.slice P2 m d2)) (World.drew w21) := HS21.out.below (Below.refl w21.heap.size w21).drew
              generalize World.drew w21 = Wd at k0 hs0 ⊢
              refine wpAnyH_take (i := 0) (oi := { dst := some 158, op := Op.load 29 (Operand.tmp 17), type := 29, pos := "law.go:233", after := #[], guard := none }) (v := .agg (B8 R).toArray) rfl (by kernel_rfl) (by kernel_rfl) (by kernel_rfl) (fun _ _ _ h => h) (Or.inl ⟨by rfl, fun W hW => exec_load_row _ _ 29 (.tmp 17) rfl ⟨gr, 0, none⟩ rfl (B8 R) W (run_loadVar_at W _ 29 (B8 R) (.array 16 5) (Blk.at hW.r) Tryd.underlying29 rfl (size29 _ HRl.out))⟩) hs0 ?_
              (try dsimp only [Act.put]); try simp only [z1, z2, z3]
              refine wpAnyH_take (i := 1) (oi := { dst := some 159, op := Op.move (Operand.tmp 24), type := 47, pos := "law.go:233", after := #[], guard := none }) (v := .slice (some ⟨gk, 0, none⟩) 3 3) rfl (by kernel_rfl) (by kernel_rfl) (by kernel_rfl) (fun _ _ _ h => h) (Or.inl ⟨by rfl, fun W hW => ?y2⟩) hs0 ?_
              case y2 => go_simp
              (try dsimp only [Act.put]); try simp only [z1, z2, z3]
              refine wpAnyH_take (i := 2) (oi := { dst := some 160, op := Op.move (Operand.tmp 26), type := 3, pos := "law.go:233", after := #[], guard := none }) (v := .int .i64 (j : Int)) rfl (by kernel_rfl) (by kernel_rfl) (by kernel_rfl) (fun _ _ _ h => h) (Or.inl ⟨by rfl, fun W hW => ?y3⟩) hs0 ?_
              case y3 => go_simp
              (try dsimp only [Act.put]); try simp only [z1, z2, z3]
              refine wpAnyH_take (i := 3) (oi := { dst := some 161, op := Op.indexAddr 47 (Operand.tmp 159) (Operand.tmp 160), type := 0, pos := "law.go:233", after := #[{ on := 1, ground := Ground.data }, { on := 2, ground := Ground.data }], guard := none }) (v := .pointer (some ⟨gk, j, none⟩)) rfl (by kernel_rfl) (by kernel_rfl) (by kernel_rfl) (fun _ _ _ h => h) (Or.inl ⟨by rfl, fun W hW => ?y4⟩) hs0 ?_
              case y4 => go_simp
              (try dsimp only [Act.put]); try simp only [z1, z2, z3]
              refine wpAnyH_take (i := 4) (oi := { dst := some 162, op := Op.load 9 (Operand.tmp 161), type := 9, pos := "law.go:233", after := #[{ on := 3, ground := Ground.data }], guard := none }) (v := .string KJ) rfl (by kernel_rfl) (by kernel_rfl) (by kernel_rfl) (fun _ _ _ h => h) (Or.inl ⟨by rfl, fun W hW => by have hcl := hW.k; go_simp⟩) hs0 ?_
              (try dsimp only [Act.put]); try simp only [z1, z2, z3]
              refine wpAnyH_take (i := 5) (oi := { dst := some 163, op := Op.move (Operand.tmp 24), type := 47, pos := "law.go:233", after := #[], guard := none }) (v := .slice (some ⟨gk, 0, none⟩) 3 3) rfl (by kernel_rfl) (by kernel_rfl) (by kernel_rfl) (fun _ _ _ h => h) (Or.inl ⟨by rfl, fun W hW => ?y6⟩) hs0 ?_
              case y6 => go_simp
              (try dsimp only [Act.put]); try simp only [z1, z2, z3]
              refine wpAnyH_take (i := 6) (oi := { dst := some 164, op := Op.move (Operand.tmp 26), type := 3, pos := "law.go:233", after := #[], guard := none }) (v := .int .i64 (j : Int)) rfl (by kernel_rfl) (by kernel_rfl) (by kernel_rfl) (fun _ _ _ h => h) (Or.inl ⟨by rfl, fun W hW => ?y7⟩) hs0 ?_
              case y7 => go_simp
              (try dsimp only [Act.put]); try simp only [z1, z2, z3]
              refine wpAnyH_take (i := 7) (oi := { dst := some 165, op := Op.binOp BinOp.add 3 (Operand.tmp 164) (Operand.const (Value.int IntKind.i64 1)) 3, type := 3, pos := "law.go:233", after := #[{ on := 6, ground := Ground.data }], guard := none }) (v := .int .i64 ((j : Int) + 1)) rfl (by kernel_rfl) (by kernel_rfl) (by kernel_rfl) (fun _ _ _ h => h) (Or.inl ⟨by rfl, fun W hW => by go_simp; first | done | exact IntWalk.i64_in _ (by omega)⟩) hs0 ?_
              (try dsimp only [Act.put]); try simp only [z1, z2, z3]
              refine wpAnyH_take (i := 8) (oi := { dst := some 166, op := Op.binOp BinOp.rem 3 (Operand.tmp 165) (Operand.const (Value.int IntKind.i64 3)) 3, type := 3, pos := "law.go:233", after := #[{ on := 7, ground := Ground.data }], guard := none }) (v := .int .i64 (j1 : Int)) rfl (by kernel_rfl) (by kernel_rfl) (by kernel_rfl) (fun _ _ _ h => h) (Or.inl ⟨by rfl, fun W hW => by have hj1 := HJ1.out; go_simp; first | done | exact hj1 | (rw [hj1])⟩) hs0 ?_
              (try dsimp only [Act.put]); try simp only [z1, z2, z3]
              refine wpAnyH_take (i := 9) (oi := { dst := some 167, op := Op.indexAddr 47 (Operand.tmp 163) (Operand.tmp 166), type := 0, pos := "law.go:233", after := #[{ on := 5, ground := Ground.data }, { on := 8, ground := Ground.data }], guard := none }) (v := .pointer (some ⟨gk, j1, none⟩)) rfl (by kernel_rfl) (by kernel_rfl) (by kernel_rfl) (fun _ _ _ h => h) (Or.inl ⟨by rfl, fun W hW => ?y10⟩) hs0 ?_
              case y10 => go_simp
              (try dsimp only [Act.put]); try simp only [z1, z2, z3]
              refine wpAnyH_take (i := 10) (oi := { dst := some 168, op := Op.load 9 (Operand.tmp 167), type := 9, pos := "law.go:233", after := #[{ on := 9, ground := Ground.data }], guard := none }) (v := .string KK) rfl (by kernel_rfl) (by kernel_rfl) (by kernel_rfl) (fun _ _ _ h => h) (Or.inl ⟨by rfl, fun W hW => by have hcl := hW.k1; go_simp⟩) hs0 ?_
              (try dsimp only [Act.put]); try simp only [z1, z2, z3]
              refine wpAnyH_take (i := 11) (oi := { dst := some 169, op := Op.move (Operand.tmp 23), type := 63, pos := "law.go:233", after := #[], guard := none }) (v := .slice (some ⟨gl, 0, none⟩) 5 5) rfl (by kernel_rfl) (by kernel_rfl) (by kernel_rfl) (fun _ _ _ h => h) (Or.inl ⟨by rfl, fun W hW => ?y12⟩) hs0 ?_
              case y12 => go_simp
              (try dsimp only [Act.put]); try simp only [z1, z2, z3]
              refine wpAnyH_take (i := 12) (oi := { dst := some 170, op := Op.move (Operand.tmp 25), type := 3, pos := "law.go:233", after := #[], guard := none }) (v := .int .i64 (i : Int)) rfl (by kernel_rfl) (by kernel_rfl) (by kernel_rfl) (fun _ _ _ h => h) (Or.inl ⟨by rfl, fun W hW => ?y13⟩) hs0 ?_
              case y13 => go_simp
              (try dsimp only [Act.put]); try simp only [z1, z2, z3]
              refine wpAnyH_take (i := 13) (oi := { dst := some 171, op := Op.indexAddr 63 (Operand.tmp 169) (Operand.tmp 170), type := 0, pos := "law.go:233", after := #[{ on := 11, ground := Ground.data }, { on := 12, ground := Ground.data }], guard := none }) (v := .pointer (some ⟨gl, i * 4, none⟩)) rfl (by kernel_rfl) (by kernel_rfl) (by kernel_rfl) (fun _ _ _ h => h) (Or.inl ⟨by rfl, fun W hW => ?y14⟩) hs0 ?_
              case y14 => go_simp
              (try dsimp only [Act.put]); try simp only [z1, z2, z3]
              refine wpAnyH_take (i := 14) (oi := { dst := some 172, op := Op.load 54 (Operand.tmp 171), type := 54, pos := "law.go:233", after := #[{ on := 13, ground := Ground.data }], guard := none }) (v := .agg (PR p.first p.size (.slice P1 n d1) (.slice P2 m d2)).toArray) rfl (by kernel_rfl) (by kernel_rfl) (by kernel_rfl) (fun _ _ _ h => h) (Or.inl ⟨by rfl, fun W hW => exec_load_row _ _ 54 (.tmp 171) rfl ⟨gl, i * 4, none⟩ rfl (PR p.first p.size (.slice P1 n d1) (.slice P2 m d2)) W (run_loadVar_at W _ 54 (PR p.first p.size (.slice P1 n d1) (.slice P2 m d2)) _ (hW.p) Tryd.underlying54 rfl (size54L _ _ _ _))⟩) hs0 ?_
              (try dsimp only [Act.put]); try simp only [z1, z2, z3]
              refine wpAnyH_ready (rs := [15]) (by kernel_rfl) (by simp) ?_
              refine AllReadyH.cons (o := { dst := some 173, op := Op.call { callee := Callee.value (Operand.func 30), args := #[Operand.tmp 172], argTypes := #[54] }, type := 50, pos := "law.go:233", after := #[{ on := 14, ground := Ground.data }], guard := none }) rfl (fun K hK => ?_) AllReadyH.nil
              rw [if_pos (by rfl)]
              have HCC := HPF.out Wd (KB21.out.trans (k0.out.mono KB21.out.size))
              go_simp
              refine HCC.mono ?_; rintro e w16 ⟨A9, c9, rfl, hpa, hbt⟩
              clear HCC
              have k17 := Lib.hid (k0.out.trans (hbt.mono k0.out.size))
              have hs18 := hs0.below hbt
              have O9 := Lib.hid hpa
              clear hpa
              clear hbt
              go_wp2_with fail
              refine hK.out _ _ hs18 (fun _ => ?_)
              clear hK K
              (try dsimp only [Act.put]); try simp only [z1, z2, z3]
              refine wpAnyH_ready (rs := [16]) (by kernel_rfl) (by simp) ?_
              refine AllReadyH.cons (o := { dst := some 174, op := Op.call { callee := Callee.value (Operand.func 32), args := #[Operand.tmp 158, Operand.tmp 162, Operand.tmp 168, Operand.tmp 173], argTypes := #[29, 9, 9, 50] }, type := 68, pos := "law.go:233", after := #[{ on := 0, ground := Ground.data }, { on := 4, ground := Ground.data }, { on := 10, ground := Ground.data }, { on := 15, ground := Ground.data }, { on := 15, ground := Ground.chain }], guard := none }) rfl (fun K hK => ?_) AllReadyH.nil
              rw [if_pos (by rfl)]
              have HCC := HCR.out w16 A9 c9 O9.out (KB21.out.trans (k17.out.mono KB21.out.size))
              go_simp
              refine HCC.mono ?_; rintro e w19 ⟨As, ns, cs, rfl, hls, hbt⟩
              clear HCC
              have k20 := Lib.hid (k17.out.trans (hbt.mono k17.out.size))
              have hs21 := hs18.below hbt
              have LSS := Lib.hid hls
              clear hls hbt
              go_wp2_with fail
              refine hK.out _ _ hs21 (fun _ => ?_)
              clear hK K
              (try dsimp only [Act.put]); try simp only [z1, z2, z3]
              refine wpAnyH_take (i := 17) (oi := { dst := some 157, op := Op.move (Operand.tmp 174), type := 68, pos := "law.go:233", after := #[{ on := 16, ground := Ground.data }], guard := none }) (v := .tuple #[.slice As ns cs, .int .i64 ge]) rfl (by kernel_rfl) (by kernel_rfl) (by kernel_rfl) (fun _ _ _ h => h) (Or.inl ⟨by rfl, fun W hW => ?y22⟩) hs21 ?_
              case y22 => go_simp
              (try dsimp only [Act.put]); try simp only [z1, z2, z3]
              refine wpAnyH_take (i := 18) (oi := { dst := some 175, op := Op.extract (Operand.tmp 157) 0, type := 33, pos := "law.go:233", after := #[{ on := 17, ground := Ground.data }], guard := none }) (v := .slice As ns cs) rfl (by kernel_rfl) (by kernel_rfl) (by kernel_rfl) (fun _ _ _ h => h) (Or.inl ⟨by rfl, fun W hW => ?y23⟩) hs21 ?_
              case y23 => go_simp
              (try dsimp only [Act.put]); try simp only [z1, z2, z3]
              refine wpAnyH_take (i := 19) (oi := { dst := some 176, op := Op.extract (Operand.tmp 157) 1, type := 30, pos := "law.go:233", after := #[{ on := 17, ground := Ground.data }, { on := 20, ground := Ground.gcOnly Departure.lateStores }], guard := none }) (v := .int .i64 ge) rfl (by kernel_rfl) (by kernel_rfl) (by kernel_rfl) (fun _ _ _ h => h) (Or.inl ⟨by rfl, fun W hW => ?y24⟩) hs21 ?_
              case y24 => go_simp
              (try dsimp only [Act.put]); try simp only [z1, z2, z3]
              refine wpAnyH_take (i := 20) (oi := { dst := some 32, op := Op.assign (Operand.tmp 175), type := 33, pos := "law.go:233", after := #[{ on := 18, ground := Ground.data }, { on := 16, ground := Ground.chain }, { on := 0, ground := Ground.phase }, { on := 1, ground := Ground.phase }, { on := 2, ground := Ground.phase }, { on := 3, ground := Ground.phase }, { on := 4, ground := Ground.phase }, { on := 5, ground := Ground.phase }, { on := 6, ground := Ground.phase }, { on := 7, ground := Ground.phase }, { on := 8, ground := Ground.phase }, { on := 9, ground := Ground.phase }, { on := 10, ground := Ground.phase }, { on := 11, ground := Ground.phase }, { on := 12, ground := Ground.phase }, { on := 13, ground := Ground.phase }, { on := 14, ground := Ground.phase }, { on := 15, ground := Ground.phase }, { on := 16, ground := Ground.phase }, { on := 17, ground := Ground.phase }, { on := 18, ground := Ground.phase }, { on := 19, ground := Ground.textOnly Departure.lateStores }], guard := none }) (v := .slice As ns cs) rfl (by kernel_rfl) (by kernel_rfl) (by kernel_rfl) (fun _ _ _ h => h) (Or.inl ⟨by rfl, fun W hW => ?y25⟩) hs21 ?_
              case y25 => go_simp
              (try dsimp only [Act.put]); try simp only [z1, z2, z3]
              refine wpAnyH_take (i := 21) (oi := { dst := some 33, op := Op.assign (Operand.tmp 176), type := 30, pos := "law.go:233", after := #[{ on := 19, ground := Ground.data }, { on := 20, ground := Ground.chain }, { on := 0, ground := Ground.phase }, { on := 1, ground := Ground.phase }, { on := 2, ground := Ground.phase }, { on := 3, ground := Ground.phase }, { on := 4, ground := Ground.phase }, { on := 5, ground := Ground.phase }, { on := 6, ground := Ground.phase }, { on := 7, ground := Ground.phase }, { on := 8, ground := Ground.phase }, { on := 9, ground := Ground.phase }, { on := 10, ground := Ground.phase }, { on := 11, ground := Ground.phase }, { on := 12, ground := Ground.phase }, { on := 13, ground := Ground.phase }, { on := 14, ground := Ground.phase }, { on := 15, ground := Ground.phase }, { on := 16, ground := Ground.phase }, { on := 17, ground := Ground.phase }, { on := 18, ground := Ground.phase }, { on := 19, ground := Ground.phase }, { on := 20, ground := Ground.phase }], guard := none }) (v := .int .i64 ge) rfl (by kernel_rfl) (by kernel_rfl) (by kernel_rfl) (fun _ _ _ h => h) (Or.inl ⟨by rfl, fun W hW => ?y26⟩) hs21 ?_
              case y26 => go_simp
              (try dsimp only [Act.put]); try simp only [z1, z2, z3]
              refine wpAnyH_done (by kernel_rfl) ?_ _
              (try dsimp only [Act.put]); try simp only [z1, z2, z3]
              have KE := k20
              go_wp2_with fail
              go_meet
              exact ⟨As, ns, cs, rfl, rfl, Lib.hid ⟨LSS.out, KE.out⟩⟩
          case rest =>
          obtain ⟨As, ns, cs, rfl, rfl, KE⟩ := hcut
          obtain ⟨w23, hw23⟩ : ∃ W, W = wc := ⟨_, rfl⟩
          rw [← hw23] at KE ⊢
          have HS23 := Lib.hid (HS21.out.below KE.out.2)
          have KB23 := Lib.hid (KB21.out.trans (KE.out.2.mono KB21.out.size))
          have HAs := Lib.hid KE.out.1
          clear KE hw23 HCR HS21 HPF
          obtain ⟨Li, hLi⟩ : ∃ L, L = insideR La KJ KK := ⟨_, rfl⟩
          obtain ⟨NI, hNI⟩ : ∃ L, L = Li.length := ⟨_, rfl⟩
          have HPL := Lib.hid (fun (W : World) (hb : Below w23.heap.size w23 W) => show Calls Tryd.prog 18 #[.slice As ns cs] W fun e w' => ∃ A' c', e = .returned (.slice A' ns c') ∧ Rd w' w'.heap.size A' (LC Ls) ∧ Below W.heap.size W w' from by
            have := plain_any As Ls cs W HLL.out ((HAs.out.2.below hb).more hb.size)
            rw [← HAs.out.1] at this
            exact this.mono fun e w' ⟨A', c', h1, h2, h3, h4, h5⟩ => ⟨A', c', h1, h4, h5⟩)
          have HIN := Lib.hid (fun (W : World) (hb : Below w23.heap.size w23 W) => show Calls Tryd.prog 44 #[.slice A1 N1 c1, .string KJ, .string KK] W fun e w' => ∃ A' c', e = .returned (.slice A' NI c') ∧ Rd w' w'.heap.size A' (LC Li) ∧ Below W.heap.size W w' from by
            have hb3 := HB.out.trans ((KB23.out.trans (hb.mono KB23.out.size)).mono HB.out.size)
            have := inside_any A1 La c1 KJ KK W LS9.out.ok.1 ((LS9.out.below hb3).more hb3.size).rd
            rw [← hLi, ← hNI, ← HN1.out.1] at this
            exact this.mono fun e w' ⟨A', c', h1, h2, h3, h4, h5⟩ => ⟨A', c', h1, h4, h5⟩)
          have HSM0 := Lib.hid (fun (W : World) (A : Option Addr) (c : Nat) (B : Option Addr) (d : Nat) (h1 : Rd W W.heap.size A (LC Ls)) (h2 : Rd W W.heap.size B (LC Li)) => show Calls Tryd.prog 34 #[.slice A ns c, .slice B NI d] W fun e w' => e = .returned (.bool (decide (Ls = Li))) ∧ Below W.heap.size W w' from
            same2_any A B Ls Li ns NI c d W HAs.out.1 hNI (by rw [HAs.out.1]; exact HLL.out) h1 h2)
          have HLI := Lib.hid hLi
          clear hLi hNI
          go_upto_region 24 with fail
          go_cut [205] from 99 to 205 (fun s205 wx => s205 = .bool false ∧ Hid (Below w23.heap.size w23 wx))
          case first =>
            rcases Int.decEq ge 0 with hv | hv
            · have HG0 := Lib.hid (show (ge == 0) = false by rw [beq_eq_false_iff_ne]; exact hv)
              clear hv HCO HSR HSM0 HPL HIN
              as_aux_lemma =>
                refine wp_region_held (S := fun W => At5 R gr gk j j1 KJ KK gl i (PR p.first p.size (.slice P1 n d1) (.slice P2 m d2)) W) (by kernel_rfl) ?_
                change wpAnyH _ _ _ _ _ _ _ _ (World.drew w23)
                have k0 := Lib.hid (Below.refl w23.heap.size w23).drew
                have hs0 : At5 R gr gk j j1 KJ KK gl i (PR p.first p.size (.slice P1 n d1) (.slice P2 m d2)) (World.drew w23) := HS23.out.below (Below.refl w23.heap.size w23).drew
                generalize World.drew w23 = Wd at k0 hs0 ⊢
                refine wpAnyH_take (i := 0) (oi := { dst := some 177, op := Op.move (Operand.tmp 33), type := 30, pos := "law.go:234", after := #[], guard := none }) (v := .int .i64 ge) rfl (by kernel_rfl) (by kernel_rfl) (by kernel_rfl) (fun _ _ _ h => h) (Or.inl ⟨by rfl, fun W hW => ?y1⟩) hs0 ?_
                case y1 => go_simp
                (try dsimp only [Act.put]); try simp only [z1, z2, z3]
                refine wpAnyH_take (i := 1) (oi := { dst := some 178, op := Op.binOp BinOp.eql 30 (Operand.tmp 177) (Operand.const (Value.int IntKind.i64 0)) 30, type := 4, pos := "law.go:234", after := #[{ on := 0, ground := Ground.data }], guard := none }) (v := .bool false) rfl (by kernel_rfl) (by kernel_rfl) (by kernel_rfl) (fun _ _ _ h => h) (Or.inl ⟨by rfl, fun W hW => by have hg0 := HG0.out; go_simp⟩) hs0 ?_
                (try dsimp only [Act.put]); try simp only [z1, z2, z3]
                refine wpAnyH_take (i := 2) (oi := { dst := some 179, op := Op.move (Operand.tmp 178), type := 4, pos := "law.go:234", after := #[{ on := 1, ground := Ground.data }], guard := none }) (v := .bool false) rfl (by kernel_rfl) (by kernel_rfl) (by kernel_rfl) (fun _ _ _ h => h) (Or.inl ⟨by rfl, fun W hW => ?y3⟩) hs0 ?_
                case y3 => go_simp
                (try dsimp only [Act.put]); try simp only [z1, z2, z3]
                refine wpAnyH_take (i := 3) (oi := { dst := some 180, op := Op.move (Operand.tmp 32), type := 33, pos := "law.go:234", after := #[{ on := 2, ground := Ground.guard }], guard := some (2, true) }) (v := undef) rfl (by kernel_rfl) (by kernel_rfl) (by kernel_rfl) (fun _ _ _ h => h) (Or.inr ⟨by rfl, rfl⟩) hs0 ?_
                (try dsimp only [Act.put]); try simp only [z1, z2, z3]
                refine wpAnyH_take (i := 4) (oi := { dst := some 181, op := Op.call { callee := Callee.value (Operand.func 18), args := #[Operand.tmp 180], argTypes := #[33] }, type := 24, pos := "law.go:234", after := #[{ on := 3, ground := Ground.data }, { on := 2, ground := Ground.chain }, { on := 2, ground := Ground.guard }], guard := some (2, true) }) (v := undef) rfl (by kernel_rfl) (by kernel_rfl) (by kernel_rfl) (fun _ _ _ h => h) (Or.inr ⟨by rfl, rfl⟩) hs0 ?_
                (try dsimp only [Act.put]); try simp only [z1, z2, z3]
                refine wpAnyH_take (i := 5) (oi := { dst := some 182, op := Op.move (Operand.tmp 15), type := 24, pos := "law.go:234", after := #[{ on := 2, ground := Ground.guard }], guard := some (2, true) }) (v := undef) rfl (by kernel_rfl) (by kernel_rfl) (by kernel_rfl) (fun _ _ _ h => h) (Or.inr ⟨by rfl, rfl⟩) hs0 ?_
                (try dsimp only [Act.put]); try simp only [z1, z2, z3]
                refine wpAnyH_take (i := 6) (oi := { dst := some 183, op := Op.move (Operand.tmp 24), type := 47, pos := "law.go:234", after := #[{ on := 2, ground := Ground.guard }], guard := some (2, true) }) (v := undef) rfl (by kernel_rfl) (by kernel_rfl) (by kernel_rfl) (fun _ _ _ h => h) (Or.inr ⟨by rfl, rfl⟩) hs0 ?_
                (try dsimp only [Act.put]); try simp only [z1, z2, z3]
                refine wpAnyH_take (i := 7) (oi := { dst := some 184, op := Op.move (Operand.tmp 26), type := 3, pos := "law.go:234", after := #[{ on := 2, ground := Ground.guard }], guard := some (2, true) }) (v := undef) rfl (by kernel_rfl) (by kernel_rfl) (by kernel_rfl) (fun _ _ _ h => h) (Or.inr ⟨by rfl, rfl⟩) hs0 ?_
                (try dsimp only [Act.put]); try simp only [z1, z2, z3]
                refine wpAnyH_take (i := 8) (oi := { dst := some 185, op := Op.indexAddr 47 (Operand.tmp 183) (Operand.tmp 184), type := 0, pos := "law.go:234", after := #[{ on := 6, ground := Ground.data }, { on := 7, ground := Ground.data }, { on := 2, ground := Ground.guard }], guard := some (2, true) }) (v := undef) rfl (by kernel_rfl) (by kernel_rfl) (by kernel_rfl) (fun _ _ _ h => h) (Or.inr ⟨by rfl, rfl⟩) hs0 ?_
                (try dsimp only [Act.put]); try simp only [z1, z2, z3]
                refine wpAnyH_take (i := 9) (oi := { dst := some 186, op := Op.load 9 (Operand.tmp 185), type := 9, pos := "law.go:234", after := #[{ on := 8, ground := Ground.data }, { on := 2, ground := Ground.guard }], guard := some (2, true) }) (v := undef) rfl (by kernel_rfl) (by kernel_rfl) (by kernel_rfl) (fun _ _ _ h => h) (Or.inr ⟨by rfl, rfl⟩) hs0 ?_
                (try dsimp only [Act.put]); try simp only [z1, z2, z3]
                refine wpAnyH_take (i := 10) (oi := { dst := some 187, op := Op.move (Operand.tmp 24), type := 47, pos := "law.go:234", after := #[{ on := 2, ground := Ground.guard }], guard := some (2, true) }) (v := undef) rfl (by kernel_rfl) (by kernel_rfl) (by kernel_rfl) (fun _ _ _ h => h) (Or.inr ⟨by rfl, rfl⟩) hs0 ?_
                (try dsimp only [Act.put]); try simp only [z1, z2, z3]
                refine wpAnyH_take (i := 11) (oi := { dst := some 188, op := Op.move (Operand.tmp 26), type := 3, pos := "law.go:234", after := #[{ on := 2, ground := Ground.guard }], guard := some (2, true) }) (v := undef) rfl (by kernel_rfl) (by kernel_rfl) (by kernel_rfl) (fun _ _ _ h => h) (Or.inr ⟨by rfl, rfl⟩) hs0 ?_
                (try dsimp only [Act.put]); try simp only [z1, z2, z3]
                refine wpAnyH_take (i := 12) (oi := { dst := some 189, op := Op.binOp BinOp.add 3 (Operand.tmp 188) (Operand.const (Value.int IntKind.i64 1)) 3, type := 3, pos := "law.go:234", after := #[{ on := 11, ground := Ground.data }, { on := 2, ground := Ground.guard }], guard := some (2, true) }) (v := undef) rfl (by kernel_rfl) (by kernel_rfl) (by kernel_rfl) (fun _ _ _ h => h) (Or.inr ⟨by rfl, rfl⟩) hs0 ?_
                (try dsimp only [Act.put]); try simp only [z1, z2, z3]
                refine wpAnyH_take (i := 13) (oi := { dst := some 190, op := Op.binOp BinOp.rem 3 (Operand.tmp 189) (Operand.const (Value.int IntKind.i64 3)) 3, type := 3, pos := "law.go:234", after := #[{ on := 12, ground := Ground.data }, { on := 2, ground := Ground.guard }], guard := some (2, true) }) (v := undef) rfl (by kernel_rfl) (by kernel_rfl) (by kernel_rfl) (fun _ _ _ h => h) (Or.inr ⟨by rfl, rfl⟩) hs0 ?_
                (try dsimp only [Act.put]); try simp only [z1, z2, z3]
                refine wpAnyH_take (i := 14) (oi := { dst := some 191, op := Op.indexAddr 47 (Operand.tmp 187) (Operand.tmp 190), type := 0, pos := "law.go:234", after := #[{ on := 10, ground := Ground.data }, { on := 13, ground := Ground.data }, { on := 2, ground := Ground.guard }], guard := some (2, true) }) (v := undef) rfl (by kernel_rfl) (by kernel_rfl) (by kernel_rfl) (fun _ _ _ h => h) (Or.inr ⟨by rfl, rfl⟩) hs0 ?_
                (try dsimp only [Act.put]); try simp only [z1, z2, z3]
                refine wpAnyH_take (i := 15) (oi := { dst := some 192, op := Op.load 9 (Operand.tmp 191), type := 9, pos := "law.go:234", after := #[{ on := 14, ground := Ground.data }, { on := 2, ground := Ground.guard }], guard := some (2, true) }) (v := undef) rfl (by kernel_rfl) (by kernel_rfl) (by kernel_rfl) (fun _ _ _ h => h) (Or.inr ⟨by rfl, rfl⟩) hs0 ?_
                (try dsimp only [Act.put]); try simp only [z1, z2, z3]
                refine wpAnyH_take (i := 16) (oi := { dst := some 193, op := Op.call { callee := Callee.value (Operand.func 44), args := #[Operand.tmp 182, Operand.tmp 186, Operand.tmp 192], argTypes := #[24, 9, 9] }, type := 24, pos := "law.go:234", after := #[{ on := 5, ground := Ground.data }, { on := 9, ground := Ground.data }, { on := 15, ground := Ground.data }, { on := 4, ground := Ground.chain }, { on := 2, ground := Ground.guard }], guard := some (2, true) }) (v := undef) rfl (by kernel_rfl) (by kernel_rfl) (by kernel_rfl) (fun _ _ _ h => h) (Or.inr ⟨by rfl, rfl⟩) hs0 ?_
                (try dsimp only [Act.put]); try simp only [z1, z2, z3]
                refine wpAnyH_take (i := 17) (oi := { dst := some 194, op := Op.call { callee := Callee.value (Operand.func 34), args := #[Operand.tmp 181, Operand.tmp 193], argTypes := #[24, 24] }, type := 4, pos := "law.go:234", after := #[{ on := 4, ground := Ground.data }, { on := 16, ground := Ground.data }, { on := 16, ground := Ground.chain }, { on := 2, ground := Ground.guard }], guard := some (2, true) }) (v := undef) rfl (by kernel_rfl) (by kernel_rfl) (by kernel_rfl) (fun _ _ _ h => h) (Or.inr ⟨by rfl, rfl⟩) hs0 ?_
                (try dsimp only [Act.put]); try simp only [z1, z2, z3]
                refine wpAnyH_take (i := 18) (oi := { dst := some 195, op := Op.unOp UnOp.not 4 (Operand.tmp 194), type := 4, pos := "law.go:234", after := #[{ on := 17, ground := Ground.data }, { on := 2, ground := Ground.guard }], guard := some (2, true) }) (v := undef) rfl (by kernel_rfl) (by kernel_rfl) (by kernel_rfl) (fun _ _ _ h => h) (Or.inr ⟨by rfl, rfl⟩) hs0 ?_
                (try dsimp only [Act.put]); try simp only [z1, z2, z3]
                refine wpAnyH_take (i := 19) (oi := { dst := some 196, op := Op.pick (Operand.tmp 179) (Operand.tmp 195) (Operand.const (Value.bool false)), type := 4, pos := "law.go:234", after := #[{ on := 2, ground := Ground.data }, { on := 18, ground := Ground.data }], guard := none }) (v := .bool false) rfl (by kernel_rfl) (by kernel_rfl) (by kernel_rfl) (fun _ _ _ h => h) (Or.inl ⟨by rfl, fun W hW => ?y20⟩) hs0 ?_
                case y20 => go_simp
                (try dsimp only [Act.put]); try simp only [z1, z2, z3]
                refine wpAnyH_take (i := 20) (oi := { dst := some 197, op := Op.move (Operand.tmp 196), type := 4, pos := "law.go:234", after := #[{ on := 19, ground := Ground.data }, { on := 17, ground := Ground.chain }], guard := none }) (v := .bool false) rfl (by kernel_rfl) (by kernel_rfl) (by kernel_rfl) (fun _ _ _ h => h) (Or.inl ⟨by rfl, fun W hW => ?y21⟩) hs0 ?_
                case y21 => go_simp
                (try dsimp only [Act.put]); try simp only [z1, z2, z3]
                refine wpAnyH_take (i := 21) (oi := { dst := some 198, op := Op.move (Operand.tmp 15), type := 24, pos := "law.go:234", after := #[{ on := 20, ground := Ground.guard }], guard := some (20, true) }) (v := undef) rfl (by kernel_rfl) (by kernel_rfl) (by kernel_rfl) (fun _ _ _ h => h) (Or.inr ⟨by rfl, rfl⟩) hs0 ?_
                (try dsimp only [Act.put]); try simp only [z1, z2, z3]
                refine wpAnyH_take (i := 22) (oi := { dst := some 199, op := Op.move (Operand.tmp 23), type := 63, pos := "law.go:234", after := #[{ on := 20, ground := Ground.guard }], guard := some (20, true) }) (v := undef) rfl (by kernel_rfl) (by kernel_rfl) (by kernel_rfl) (fun _ _ _ h => h) (Or.inr ⟨by rfl, rfl⟩) hs0 ?_
                (try dsimp only [Act.put]); try simp only [z1, z2, z3]
                refine wpAnyH_take (i := 23) (oi := { dst := some 200, op := Op.move (Operand.tmp 25), type := 3, pos := "law.go:234", after := #[{ on := 20, ground := Ground.guard }], guard := some (20, true) }) (v := undef) rfl (by kernel_rfl) (by kernel_rfl) (by kernel_rfl) (fun _ _ _ h => h) (Or.inr ⟨by rfl, rfl⟩) hs0 ?_
                (try dsimp only [Act.put]); try simp only [z1, z2, z3]
                refine wpAnyH_take (i := 24) (oi := { dst := some 201, op := Op.indexAddr 63 (Operand.tmp 199) (Operand.tmp 200), type := 0, pos := "law.go:234", after := #[{ on := 22, ground := Ground.data }, { on := 23, ground := Ground.data }, { on := 20, ground := Ground.guard }], guard := some (20, true) }) (v := undef) rfl (by kernel_rfl) (by kernel_rfl) (by kernel_rfl) (fun _ _ _ h => h) (Or.inr ⟨by rfl, rfl⟩) hs0 ?_
                (try dsimp only [Act.put]); try simp only [z1, z2, z3]
                refine wpAnyH_take (i := 25) (oi := { dst := some 202, op := Op.load 54 (Operand.tmp 201), type := 54, pos := "law.go:234", after := #[{ on := 24, ground := Ground.data }, { on := 20, ground := Ground.guard }], guard := some (20, true) }) (v := undef) rfl (by kernel_rfl) (by kernel_rfl) (by kernel_rfl) (fun _ _ _ h => h) (Or.inr ⟨by rfl, rfl⟩) hs0 ?_
                (try dsimp only [Act.put]); try simp only [z1, z2, z3]
                refine wpAnyH_take (i := 26) (oi := { dst := some 203, op := Op.call { callee := Callee.value (Operand.func 45), args := #[Operand.tmp 198, Operand.tmp 202], argTypes := #[24, 54] }, type := 4, pos := "law.go:234", after := #[{ on := 21, ground := Ground.data }, { on := 25, ground := Ground.data }, { on := 20, ground := Ground.chain }, { on := 20, ground := Ground.guard }], guard := some (20, true) }) (v := undef) rfl (by kernel_rfl) (by kernel_rfl) (by kernel_rfl) (fun _ _ _ h => h) (Or.inr ⟨by rfl, rfl⟩) hs0 ?_
                (try dsimp only [Act.put]); try simp only [z1, z2, z3]
                refine wpAnyH_take (i := 27) (oi := { dst := some 204, op := Op.unOp UnOp.not 4 (Operand.tmp 203), type := 4, pos := "law.go:234", after := #[{ on := 26, ground := Ground.data }, { on := 20, ground := Ground.guard }], guard := some (20, true) }) (v := undef) rfl (by kernel_rfl) (by kernel_rfl) (by kernel_rfl) (fun _ _ _ h => h) (Or.inr ⟨by rfl, rfl⟩) hs0 ?_
                (try dsimp only [Act.put]); try simp only [z1, z2, z3]
                refine wpAnyH_take (i := 28) (oi := { dst := some 205, op := Op.pick (Operand.tmp 197) (Operand.tmp 204) (Operand.const (Value.bool false)), type := 4, pos := "law.go:234", after := #[{ on := 20, ground := Ground.data }, { on := 27, ground := Ground.data }], guard := none }) (v := .bool false) rfl (by kernel_rfl) (by kernel_rfl) (by kernel_rfl) (fun _ _ _ h => h) (Or.inl ⟨by rfl, fun W hW => ?y29⟩) hs0 ?_
                case y29 => go_simp
                (try dsimp only [Act.put]); try simp only [z1, z2, z3]
                refine wpAnyH_done (by kernel_rfl) ?_ _
                (try dsimp only [Act.put]); try simp only [z1, z2, z3]
                have KE := k0
                go_wp2_with fail
                go_meet
                exact ⟨rfl, KE⟩
            · obtain ⟨sb, hsb⟩ : ∃ b, b = decide (Ls = Li) := ⟨_, rfl⟩
              have HSM := Lib.hid (fun (W : World) (A : Option Addr) (c : Nat) (B : Option Addr) (d : Nat) (h1 : Rd W W.heap.size A (LC Ls)) (h2 : Rd W W.heap.size B (LC Li)) => show Calls Tryd.prog 34 #[.slice A ns c, .slice B NI d] W fun e w' => e = .returned (.bool sb) ∧ Below W.heap.size W w' from by
                rw [hsb]; exact HSM0.out W A c B d h1 h2)
              have HSB := Lib.hid (show (sb = true ∧ Ls = Li) ∨ (sb = false ∧ Ls ≠ insideR La KJ KK) by
                rw [hsb]
                by_cases h : Ls = Li
                · exact .inl ⟨decide_eq_true h, h⟩
                · exact .inr ⟨decide_eq_false h, by rw [← HLI.out]; exact h⟩)
              subst hv
              clear hsb HSM0
              as_aux_lemma =>
                refine wp_region_held (S := fun W => At5 R gr gk j j1 KJ KK gl i (PR p.first p.size (.slice P1 n d1) (.slice P2 m d2)) W) (by kernel_rfl) ?_
                change wpAnyH _ _ _ _ _ _ _ _ (World.drew w23)
                have k0 := Lib.hid (Below.refl w23.heap.size w23).drew
                have hs0 : At5 R gr gk j j1 KJ KK gl i (PR p.first p.size (.slice P1 n d1) (.slice P2 m d2)) (World.drew w23) := HS23.out.below (Below.refl w23.heap.size w23).drew
                generalize World.drew w23 = Wd at k0 hs0 ⊢
                refine wpAnyH_take (i := 0) (oi := { dst := some 177, op := Op.move (Operand.tmp 33), type := 30, pos := "law.go:234", after := #[], guard := none }) (v := .int .i64 0) rfl (by kernel_rfl) (by kernel_rfl) (by kernel_rfl) (fun _ _ _ h => h) (Or.inl ⟨by rfl, fun W hW => ?y1⟩) hs0 ?_
                case y1 => go_simp
                (try dsimp only [Act.put]); try simp only [z1, z2, z3]
                refine wpAnyH_take (i := 1) (oi := { dst := some 178, op := Op.binOp BinOp.eql 30 (Operand.tmp 177) (Operand.const (Value.int IntKind.i64 0)) 30, type := 4, pos := "law.go:234", after := #[{ on := 0, ground := Ground.data }], guard := none }) (v := .bool true) rfl (by kernel_rfl) (by kernel_rfl) (by kernel_rfl) (fun _ _ _ h => h) (Or.inl ⟨by rfl, fun W hW => ?y2⟩) hs0 ?_
                case y2 => go_simp
                (try dsimp only [Act.put]); try simp only [z1, z2, z3]
                refine wpAnyH_take (i := 2) (oi := { dst := some 179, op := Op.move (Operand.tmp 178), type := 4, pos := "law.go:234", after := #[{ on := 1, ground := Ground.data }], guard := none }) (v := .bool true) rfl (by kernel_rfl) (by kernel_rfl) (by kernel_rfl) (fun _ _ _ h => h) (Or.inl ⟨by rfl, fun W hW => ?y3⟩) hs0 ?_
                case y3 => go_simp
                (try dsimp only [Act.put]); try simp only [z1, z2, z3]
                refine wpAnyH_take (i := 3) (oi := { dst := some 180, op := Op.move (Operand.tmp 32), type := 33, pos := "law.go:234", after := #[{ on := 2, ground := Ground.guard }], guard := some (2, true) }) (v := .slice As ns cs) rfl (by kernel_rfl) (by kernel_rfl) (by kernel_rfl) (fun _ _ _ h => h) (Or.inl ⟨by rfl, fun W hW => ?y4⟩) hs0 ?_
                case y4 => go_simp
                (try dsimp only [Act.put]); try simp only [z1, z2, z3]
                refine wpAnyH_take (i := 5) (oi := { dst := some 182, op := Op.move (Operand.tmp 15), type := 24, pos := "law.go:234", after := #[{ on := 2, ground := Ground.guard }], guard := some (2, true) }) (v := .slice A1 N1 c1) rfl (by kernel_rfl) (by kernel_rfl) (by kernel_rfl) (fun _ _ _ h => h) (Or.inl ⟨by rfl, fun W hW => ?y5⟩) hs0 ?_
                case y5 => go_simp
                (try dsimp only [Act.put]); try simp only [z1, z2, z3]
                refine wpAnyH_take (i := 6) (oi := { dst := some 183, op := Op.move (Operand.tmp 24), type := 47, pos := "law.go:234", after := #[{ on := 2, ground := Ground.guard }], guard := some (2, true) }) (v := .slice (some ⟨gk, 0, none⟩) 3 3) rfl (by kernel_rfl) (by kernel_rfl) (by kernel_rfl) (fun _ _ _ h => h) (Or.inl ⟨by rfl, fun W hW => ?y6⟩) hs0 ?_
                case y6 => go_simp
                (try dsimp only [Act.put]); try simp only [z1, z2, z3]
                refine wpAnyH_take (i := 7) (oi := { dst := some 184, op := Op.move (Operand.tmp 26), type := 3, pos := "law.go:234", after := #[{ on := 2, ground := Ground.guard }], guard := some (2, true) }) (v := .int .i64 (j : Int)) rfl (by kernel_rfl) (by kernel_rfl) (by kernel_rfl) (fun _ _ _ h => h) (Or.inl ⟨by rfl, fun W hW => ?y7⟩) hs0 ?_
                case y7 => go_simp
                (try dsimp only [Act.put]); try simp only [z1, z2, z3]
                refine wpAnyH_take (i := 8) (oi := { dst := some 185, op := Op.indexAddr 47 (Operand.tmp 183) (Operand.tmp 184), type := 0, pos := "law.go:234", after := #[{ on := 6, ground := Ground.data }, { on := 7, ground := Ground.data }, { on := 2, ground := Ground.guard }], guard := some (2, true) }) (v := .pointer (some ⟨gk, j, none⟩)) rfl (by kernel_rfl) (by kernel_rfl) (by kernel_rfl) (fun _ _ _ h => h) (Or.inl ⟨by rfl, fun W hW => ?y8⟩) hs0 ?_
                case y8 => go_simp
                (try dsimp only [Act.put]); try simp only [z1, z2, z3]
                refine wpAnyH_take (i := 9) (oi := { dst := some 186, op := Op.load 9 (Operand.tmp 185), type := 9, pos := "law.go:234", after := #[{ on := 8, ground := Ground.data }, { on := 2, ground := Ground.guard }], guard := some (2, true) }) (v := .string KJ) rfl (by kernel_rfl) (by kernel_rfl) (by kernel_rfl) (fun _ _ _ h => h) (Or.inl ⟨by rfl, fun W hW => by have hcl := hW.k; go_simp⟩) hs0 ?_
                (try dsimp only [Act.put]); try simp only [z1, z2, z3]
                refine wpAnyH_take (i := 10) (oi := { dst := some 187, op := Op.move (Operand.tmp 24), type := 47, pos := "law.go:234", after := #[{ on := 2, ground := Ground.guard }], guard := some (2, true) }) (v := .slice (some ⟨gk, 0, none⟩) 3 3) rfl (by kernel_rfl) (by kernel_rfl) (by kernel_rfl) (fun _ _ _ h => h) (Or.inl ⟨by rfl, fun W hW => ?y10⟩) hs0 ?_
                case y10 => go_simp
                (try dsimp only [Act.put]); try simp only [z1, z2, z3]
                refine wpAnyH_take (i := 11) (oi := { dst := some 188, op := Op.move (Operand.tmp 26), type := 3, pos := "law.go:234", after := #[{ on := 2, ground := Ground.guard }], guard := some (2, true) }) (v := .int .i64 (j : Int)) rfl (by kernel_rfl) (by kernel_rfl) (by kernel_rfl) (fun _ _ _ h => h) (Or.inl ⟨by rfl, fun W hW => ?y11⟩) hs0 ?_
                case y11 => go_simp
                (try dsimp only [Act.put]); try simp only [z1, z2, z3]
                refine wpAnyH_take (i := 12) (oi := { dst := some 189, op := Op.binOp BinOp.add 3 (Operand.tmp 188) (Operand.const (Value.int IntKind.i64 1)) 3, type := 3, pos := "law.go:234", after := #[{ on := 11, ground := Ground.data }, { on := 2, ground := Ground.guard }], guard := some (2, true) }) (v := .int .i64 ((j : Int) + 1)) rfl (by kernel_rfl) (by kernel_rfl) (by kernel_rfl) (fun _ _ _ h => h) (Or.inl ⟨by rfl, fun W hW => by go_simp; first | done | exact IntWalk.i64_in _ (by omega)⟩) hs0 ?_
                (try dsimp only [Act.put]); try simp only [z1, z2, z3]
                refine wpAnyH_take (i := 13) (oi := { dst := some 190, op := Op.binOp BinOp.rem 3 (Operand.tmp 189) (Operand.const (Value.int IntKind.i64 3)) 3, type := 3, pos := "law.go:234", after := #[{ on := 12, ground := Ground.data }, { on := 2, ground := Ground.guard }], guard := some (2, true) }) (v := .int .i64 (j1 : Int)) rfl (by kernel_rfl) (by kernel_rfl) (by kernel_rfl) (fun _ _ _ h => h) (Or.inl ⟨by rfl, fun W hW => by have hj1 := HJ1.out; go_simp; first | done | exact hj1 | (rw [hj1])⟩) hs0 ?_
                (try dsimp only [Act.put]); try simp only [z1, z2, z3]
                refine wpAnyH_take (i := 14) (oi := { dst := some 191, op := Op.indexAddr 47 (Operand.tmp 187) (Operand.tmp 190), type := 0, pos := "law.go:234", after := #[{ on := 10, ground := Ground.data }, { on := 13, ground := Ground.data }, { on := 2, ground := Ground.guard }], guard := some (2, true) }) (v := .pointer (some ⟨gk, j1, none⟩)) rfl (by kernel_rfl) (by kernel_rfl) (by kernel_rfl) (fun _ _ _ h => h) (Or.inl ⟨by rfl, fun W hW => ?y14⟩) hs0 ?_
                case y14 => go_simp
                (try dsimp only [Act.put]); try simp only [z1, z2, z3]
                refine wpAnyH_take (i := 15) (oi := { dst := some 192, op := Op.load 9 (Operand.tmp 191), type := 9, pos := "law.go:234", after := #[{ on := 14, ground := Ground.data }, { on := 2, ground := Ground.guard }], guard := some (2, true) }) (v := .string KK) rfl (by kernel_rfl) (by kernel_rfl) (by kernel_rfl) (fun _ _ _ h => h) (Or.inl ⟨by rfl, fun W hW => by have hcl := hW.k1; go_simp⟩) hs0 ?_
                (try dsimp only [Act.put]); try simp only [z1, z2, z3]
                refine wpAnyH_ready (rs := [4]) (by kernel_rfl) (by simp) ?_
                refine AllReadyH.cons (o := { dst := some 181, op := Op.call { callee := Callee.value (Operand.func 18), args := #[Operand.tmp 180], argTypes := #[33] }, type := 24, pos := "law.go:234", after := #[{ on := 3, ground := Ground.data }, { on := 2, ground := Ground.chain }, { on := 2, ground := Ground.guard }], guard := some (2, true) }) rfl (fun K hK => ?_) AllReadyH.nil
                rw [if_pos (by rfl)]
                have HCC := HPL.out Wd k0.out
                go_simp
                refine HCC.mono ?_; rintro e w16 ⟨A24, c24, rfl, hrd, hbt⟩
                clear HCC
                have k17 := Lib.hid (k0.out.trans (hbt.mono k0.out.size))
                have hs18 := hs0.below hbt
                have O24 := Lib.hid hrd
                clear hrd
                clear hbt
                go_wp2_with fail
                refine hK.out _ _ hs18 (fun _ => ?_)
                clear hK K
                (try dsimp only [Act.put]); try simp only [z1, z2, z3]
                refine wpAnyH_ready (rs := [16]) (by kernel_rfl) (by simp) ?_
                refine AllReadyH.cons (o := { dst := some 193, op := Op.call { callee := Callee.value (Operand.func 44), args := #[Operand.tmp 182, Operand.tmp 186, Operand.tmp 192], argTypes := #[24, 9, 9] }, type := 24, pos := "law.go:234", after := #[{ on := 5, ground := Ground.data }, { on := 9, ground := Ground.data }, { on := 15, ground := Ground.data }, { on := 4, ground := Ground.chain }, { on := 2, ground := Ground.guard }], guard := some (2, true) }) rfl (fun K hK => ?_) AllReadyH.nil
                rw [if_pos (by rfl)]
                have HCC := HIN.out w16 k17.out
                go_simp
                refine HCC.mono ?_; rintro e w19 ⟨A25, c25, rfl, hrd, hbt⟩
                clear HCC
                have k20 := Lib.hid (k17.out.trans (hbt.mono k17.out.size))
                have hs21 := hs18.below hbt
                have O25 := Lib.hid hrd
                have O24' := Lib.hid ((O24.out.below hbt).more hbt.size)
                clear hrd
                clear hbt
                go_wp2_with fail
                refine hK.out _ _ hs21 (fun _ => ?_)
                clear hK K
                (try dsimp only [Act.put]); try simp only [z1, z2, z3]
                refine wpAnyH_ready (rs := [17]) (by kernel_rfl) (by simp) ?_
                refine AllReadyH.cons (o := { dst := some 194, op := Op.call { callee := Callee.value (Operand.func 34), args := #[Operand.tmp 181, Operand.tmp 193], argTypes := #[24, 24] }, type := 4, pos := "law.go:234", after := #[{ on := 4, ground := Ground.data }, { on := 16, ground := Ground.data }, { on := 16, ground := Ground.chain }, { on := 2, ground := Ground.guard }], guard := some (2, true) }) rfl (fun K hK => ?_) AllReadyH.nil
                rw [if_pos (by rfl)]
                have HCC := HSM.out w19 A24 c24 A25 c25 O24'.out O25.out
                go_simp
                refine HCC.mono ?_; rintro e w22 ⟨rfl, hbt⟩
                clear HCC
                have k23 := Lib.hid (k20.out.trans (hbt.mono k20.out.size))
                have hs24 := hs21.below hbt
                clear hbt
                go_wp2_with fail
                refine hK.out _ _ hs24 (fun _ => ?_)
                clear hK K
                (try dsimp only [Act.put]); try simp only [z1, z2, z3]
                rcases HSB.out with ⟨hs1, hs2⟩ | ⟨hs1, hs2⟩
                · subst hs1
                  clear hs2
                  refine wpAnyH_take (i := 18) (oi := { dst := some 195, op := Op.unOp UnOp.not 4 (Operand.tmp 194), type := 4, pos := "law.go:234", after := #[{ on := 17, ground := Ground.data }, { on := 2, ground := Ground.guard }], guard := some (2, true) }) (v := .bool false) rfl (by kernel_rfl) (by kernel_rfl) (by kernel_rfl) (fun _ _ _ h => h) (Or.inl ⟨by rfl, fun W hW => ?y25⟩) hs24 ?_
                  case y25 => go_simp
                  (try dsimp only [Act.put]); try simp only [z1, z2, z3]
                  refine wpAnyH_take (i := 19) (oi := { dst := some 196, op := Op.pick (Operand.tmp 179) (Operand.tmp 195) (Operand.const (Value.bool false)), type := 4, pos := "law.go:234", after := #[{ on := 2, ground := Ground.data }, { on := 18, ground := Ground.data }], guard := none }) (v := .bool false) rfl (by kernel_rfl) (by kernel_rfl) (by kernel_rfl) (fun _ _ _ h => h) (Or.inl ⟨by rfl, fun W hW => ?y26⟩) hs24 ?_
                  case y26 => go_simp
                  (try dsimp only [Act.put]); try simp only [z1, z2, z3]
                  refine wpAnyH_take (i := 20) (oi := { dst := some 197, op := Op.move (Operand.tmp 196), type := 4, pos := "law.go:234", after := #[{ on := 19, ground := Ground.data }, { on := 17, ground := Ground.chain }], guard := none }) (v := .bool false) rfl (by kernel_rfl) (by kernel_rfl) (by kernel_rfl) (fun _ _ _ h => h) (Or.inl ⟨by rfl, fun W hW => ?y27⟩) hs24 ?_
                  case y27 => go_simp
                  (try dsimp only [Act.put]); try simp only [z1, z2, z3]
                  refine wpAnyH_take (i := 21) (oi := { dst := some 198, op := Op.move (Operand.tmp 15), type := 24, pos := "law.go:234", after := #[{ on := 20, ground := Ground.guard }], guard := some (20, true) }) (v := undef) rfl (by kernel_rfl) (by kernel_rfl) (by kernel_rfl) (fun _ _ _ h => h) (Or.inr ⟨by rfl, rfl⟩) hs24 ?_
                  (try dsimp only [Act.put]); try simp only [z1, z2, z3]
                  refine wpAnyH_take (i := 22) (oi := { dst := some 199, op := Op.move (Operand.tmp 23), type := 63, pos := "law.go:234", after := #[{ on := 20, ground := Ground.guard }], guard := some (20, true) }) (v := undef) rfl (by kernel_rfl) (by kernel_rfl) (by kernel_rfl) (fun _ _ _ h => h) (Or.inr ⟨by rfl, rfl⟩) hs24 ?_
                  (try dsimp only [Act.put]); try simp only [z1, z2, z3]
                  refine wpAnyH_take (i := 23) (oi := { dst := some 200, op := Op.move (Operand.tmp 25), type := 3, pos := "law.go:234", after := #[{ on := 20, ground := Ground.guard }], guard := some (20, true) }) (v := undef) rfl (by kernel_rfl) (by kernel_rfl) (by kernel_rfl) (fun _ _ _ h => h) (Or.inr ⟨by rfl, rfl⟩) hs24 ?_
                  (try dsimp only [Act.put]); try simp only [z1, z2, z3]
                  refine wpAnyH_take (i := 24) (oi := { dst := some 201, op := Op.indexAddr 63 (Operand.tmp 199) (Operand.tmp 200), type := 0, pos := "law.go:234", after := #[{ on := 22, ground := Ground.data }, { on := 23, ground := Ground.data }, { on := 20, ground := Ground.guard }], guard := some (20, true) }) (v := undef) rfl (by kernel_rfl) (by kernel_rfl) (by kernel_rfl) (fun _ _ _ h => h) (Or.inr ⟨by rfl, rfl⟩) hs24 ?_
                  (try dsimp only [Act.put]); try simp only [z1, z2, z3]
                  refine wpAnyH_take (i := 25) (oi := { dst := some 202, op := Op.load 54 (Operand.tmp 201), type := 54, pos := "law.go:234", after := #[{ on := 24, ground := Ground.data }, { on := 20, ground := Ground.guard }], guard := some (20, true) }) (v := undef) rfl (by kernel_rfl) (by kernel_rfl) (by kernel_rfl) (fun _ _ _ h => h) (Or.inr ⟨by rfl, rfl⟩) hs24 ?_
                  (try dsimp only [Act.put]); try simp only [z1, z2, z3]
                  refine wpAnyH_take (i := 26) (oi := { dst := some 203, op := Op.call { callee := Callee.value (Operand.func 45), args := #[Operand.tmp 198, Operand.tmp 202], argTypes := #[24, 54] }, type := 4, pos := "law.go:234", after := #[{ on := 21, ground := Ground.data }, { on := 25, ground := Ground.data }, { on := 20, ground := Ground.chain }, { on := 20, ground := Ground.guard }], guard := some (20, true) }) (v := undef) rfl (by kernel_rfl) (by kernel_rfl) (by kernel_rfl) (fun _ _ _ h => h) (Or.inr ⟨by rfl, rfl⟩) hs24 ?_
                  (try dsimp only [Act.put]); try simp only [z1, z2, z3]
                  refine wpAnyH_take (i := 27) (oi := { dst := some 204, op := Op.unOp UnOp.not 4 (Operand.tmp 203), type := 4, pos := "law.go:234", after := #[{ on := 26, ground := Ground.data }, { on := 20, ground := Ground.guard }], guard := some (20, true) }) (v := undef) rfl (by kernel_rfl) (by kernel_rfl) (by kernel_rfl) (fun _ _ _ h => h) (Or.inr ⟨by rfl, rfl⟩) hs24 ?_
                  (try dsimp only [Act.put]); try simp only [z1, z2, z3]
                  refine wpAnyH_take (i := 28) (oi := { dst := some 205, op := Op.pick (Operand.tmp 197) (Operand.tmp 204) (Operand.const (Value.bool false)), type := 4, pos := "law.go:234", after := #[{ on := 20, ground := Ground.data }, { on := 27, ground := Ground.data }], guard := none }) (v := .bool false) rfl (by kernel_rfl) (by kernel_rfl) (by kernel_rfl) (fun _ _ _ h => h) (Or.inl ⟨by rfl, fun W hW => ?y35⟩) hs24 ?_
                  case y35 => go_simp
                  (try dsimp only [Act.put]); try simp only [z1, z2, z3]
                  refine wpAnyH_done (by kernel_rfl) ?_ _
                  (try dsimp only [Act.put]); try simp only [z1, z2, z3]
                  have KE := k23
                  go_wp2_with fail
                  go_meet
                  exact ⟨rfl, KE⟩
                · subst hs1
                  obtain ⟨hu, hcl⟩ := HSR.out (by first | rfl | trivial) hs2
                  clear hs2
                  refine wpAnyH_take (i := 18) (oi := { dst := some 195, op := Op.unOp UnOp.not 4 (Operand.tmp 194), type := 4, pos := "law.go:234", after := #[{ on := 17, ground := Ground.data }, { on := 2, ground := Ground.guard }], guard := some (2, true) }) (v := .bool true) rfl (by kernel_rfl) (by kernel_rfl) (by kernel_rfl) (fun _ _ _ h => h) (Or.inl ⟨by rfl, fun W hW => ?y36⟩) hs24 ?_
                  case y36 => go_simp
                  (try dsimp only [Act.put]); try simp only [z1, z2, z3]
                  refine wpAnyH_take (i := 19) (oi := { dst := some 196, op := Op.pick (Operand.tmp 179) (Operand.tmp 195) (Operand.const (Value.bool false)), type := 4, pos := "law.go:234", after := #[{ on := 2, ground := Ground.data }, { on := 18, ground := Ground.data }], guard := none }) (v := .bool true) rfl (by kernel_rfl) (by kernel_rfl) (by kernel_rfl) (fun _ _ _ h => h) (Or.inl ⟨by rfl, fun W hW => ?y37⟩) hs24 ?_
                  case y37 => go_simp
                  (try dsimp only [Act.put]); try simp only [z1, z2, z3]
                  refine wpAnyH_take (i := 20) (oi := { dst := some 197, op := Op.move (Operand.tmp 196), type := 4, pos := "law.go:234", after := #[{ on := 19, ground := Ground.data }, { on := 17, ground := Ground.chain }], guard := none }) (v := .bool true) rfl (by kernel_rfl) (by kernel_rfl) (by kernel_rfl) (fun _ _ _ h => h) (Or.inl ⟨by rfl, fun W hW => ?y38⟩) hs24 ?_
                  case y38 => go_simp
                  (try dsimp only [Act.put]); try simp only [z1, z2, z3]
                  refine wpAnyH_take (i := 21) (oi := { dst := some 198, op := Op.move (Operand.tmp 15), type := 24, pos := "law.go:234", after := #[{ on := 20, ground := Ground.guard }], guard := some (20, true) }) (v := .slice A1 N1 c1) rfl (by kernel_rfl) (by kernel_rfl) (by kernel_rfl) (fun _ _ _ h => h) (Or.inl ⟨by rfl, fun W hW => ?y39⟩) hs24 ?_
                  case y39 => go_simp
                  (try dsimp only [Act.put]); try simp only [z1, z2, z3]
                  refine wpAnyH_take (i := 22) (oi := { dst := some 199, op := Op.move (Operand.tmp 23), type := 63, pos := "law.go:234", after := #[{ on := 20, ground := Ground.guard }], guard := some (20, true) }) (v := .slice (some ⟨gl, 0, none⟩) 5 5) rfl (by kernel_rfl) (by kernel_rfl) (by kernel_rfl) (fun _ _ _ h => h) (Or.inl ⟨by rfl, fun W hW => ?y40⟩) hs24 ?_
                  case y40 => go_simp
                  (try dsimp only [Act.put]); try simp only [z1, z2, z3]
                  refine wpAnyH_take (i := 23) (oi := { dst := some 200, op := Op.move (Operand.tmp 25), type := 3, pos := "law.go:234", after := #[{ on := 20, ground := Ground.guard }], guard := some (20, true) }) (v := .int .i64 (i : Int)) rfl (by kernel_rfl) (by kernel_rfl) (by kernel_rfl) (fun _ _ _ h => h) (Or.inl ⟨by rfl, fun W hW => ?y41⟩) hs24 ?_
                  case y41 => go_simp
                  (try dsimp only [Act.put]); try simp only [z1, z2, z3]
                  refine wpAnyH_take (i := 24) (oi := { dst := some 201, op := Op.indexAddr 63 (Operand.tmp 199) (Operand.tmp 200), type := 0, pos := "law.go:234", after := #[{ on := 22, ground := Ground.data }, { on := 23, ground := Ground.data }, { on := 20, ground := Ground.guard }], guard := some (20, true) }) (v := .pointer (some ⟨gl, i * 4, none⟩)) rfl (by kernel_rfl) (by kernel_rfl) (by kernel_rfl) (fun _ _ _ h => h) (Or.inl ⟨by rfl, fun W hW => ?y42⟩) hs24 ?_
                  case y42 => go_simp
                  (try dsimp only [Act.put]); try simp only [z1, z2, z3]
                  refine wpAnyH_take (i := 25) (oi := { dst := some 202, op := Op.load 54 (Operand.tmp 201), type := 54, pos := "law.go:234", after := #[{ on := 24, ground := Ground.data }, { on := 20, ground := Ground.guard }], guard := some (20, true) }) (v := .agg (PR p.first p.size (.slice P1 n d1) (.slice P2 m d2)).toArray) rfl (by kernel_rfl) (by kernel_rfl) (by kernel_rfl) (fun _ _ _ h => h) (Or.inl ⟨by rfl, fun W hW => exec_load_row _ _ 54 (.tmp 201) rfl ⟨gl, i * 4, none⟩ rfl (PR p.first p.size (.slice P1 n d1) (.slice P2 m d2)) W (run_loadVar_at W _ 54 (PR p.first p.size (.slice P1 n d1) (.slice P2 m d2)) _ (hW.p) Tryd.underlying54 rfl (size54L _ _ _ _))⟩) hs24 ?_
                  (try dsimp only [Act.put]); try simp only [z1, z2, z3]
                  refine wpAnyH_ready (rs := [26]) (by kernel_rfl) (by simp) ?_
                  refine AllReadyH.cons (o := { dst := some 203, op := Op.call { callee := Callee.value (Operand.func 45), args := #[Operand.tmp 198, Operand.tmp 202], argTypes := #[24, 54] }, type := 4, pos := "law.go:234", after := #[{ on := 21, ground := Ground.data }, { on := 25, ground := Ground.data }, { on := 20, ground := Ground.chain }, { on := 20, ground := Ground.guard }], guard := some (20, true) }) rfl (fun K hK => ?_) AllReadyH.nil
                  rw [if_pos (by rfl)]
                  have HCC := HCO.out w22 hu hcl (KB23.out.trans (k23.out.mono KB23.out.size))
                  go_simp
                  refine HCC.mono ?_; rintro e w44 ⟨rfl, hbt⟩
                  clear HCC
                  have k45 := Lib.hid (k23.out.trans (hbt.mono k23.out.size))
                  have hs46 := hs24.below hbt
                  clear hu hcl
                  clear hbt
                  go_wp2_with fail
                  refine hK.out _ _ hs46 (fun _ => ?_)
                  clear hK K
                  (try dsimp only [Act.put]); try simp only [z1, z2, z3]
                  refine wpAnyH_take (i := 27) (oi := { dst := some 204, op := Op.unOp UnOp.not 4 (Operand.tmp 203), type := 4, pos := "law.go:234", after := #[{ on := 26, ground := Ground.data }, { on := 20, ground := Ground.guard }], guard := some (20, true) }) (v := .bool false) rfl (by kernel_rfl) (by kernel_rfl) (by kernel_rfl) (fun _ _ _ h => h) (Or.inl ⟨by rfl, fun W hW => ?y47⟩) hs46 ?_
                  case y47 => go_simp
                  (try dsimp only [Act.put]); try simp only [z1, z2, z3]
                  refine wpAnyH_take (i := 28) (oi := { dst := some 205, op := Op.pick (Operand.tmp 197) (Operand.tmp 204) (Operand.const (Value.bool false)), type := 4, pos := "law.go:234", after := #[{ on := 20, ground := Ground.data }, { on := 27, ground := Ground.data }], guard := none }) (v := .bool false) rfl (by kernel_rfl) (by kernel_rfl) (by kernel_rfl) (fun _ _ _ h => h) (Or.inl ⟨by rfl, fun W hW => ?y48⟩) hs46 ?_
                  case y48 => go_simp
                  (try dsimp only [Act.put]); try simp only [z1, z2, z3]
                  refine wpAnyH_done (by kernel_rfl) ?_ _
                  (try dsimp only [Act.put]); try simp only [z1, z2, z3]
                  have KE := k45
                  go_wp2_with fail
                  go_meet
                  exact ⟨rfl, KE⟩
          case rest =>
          obtain ⟨rfl, KE⟩ := hcut
          have K25 := Lib.hid (HB.out.trans ((KB23.out.trans (KE.out.mono KB23.out.size)).mono HB.out.size))
          clear KE
          go_wp2_with fail
          go_roundw
          case rel => exact ⟨j + 1, by omega, by go_num, K25⟩
          case measure => simp only [intOf]; omega
        · obtain rfl : j = 3 := by omega
          go_wp2_with fail
          go_roundw
          case rel => exact ⟨i + 1, by omega, by go_num, HB⟩
          case measure => simp only [intOf]; omega
  · obtain rfl : i = 5 := by omega
    have Bw := Lib.hid (Bs9.out.trans (HB.out.mono Bs9.out.size))
    go_wp2_with (go_at_call 19; refine (lives_any _ (HT.out.below Bw.out HT.out.1)).mono ?_; rintro e w30 ⟨rfl, hb⟩; have K30 := Lib.hid (Bw.out.trans (hb.mono Bw.out.size)); clear hb)
    go_ret
    exact ⟨rfl, K30.out⟩
end Go.Proofs.YtofccgkgjcnfbaaDoor
