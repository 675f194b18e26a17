/-
  The contracts of Verify, the program's and the reference's, for all arguments; the laws SignVerifiesAsSpecified and SignBindsTheIndex return true, if sanity does.
  Conditions: the lengths of the strings; the tables of the round constants are as the text lays them.
-/
import Derived.Test.YtgonidjajmjniaaDoorRefY
import Derived.Test.YtgonidjajmjniaaDoorLawA
import Derived.Test.YtgonidjajmjniaaDoorLawC
namespace Go.Proofs.YtgonidjajmjniaaDoor
open Go.RowKit Wr Sh
set_option linter.unusedVariables false
set_option maxRecDepth 100000

theorem verify_all (p : List UInt8) (n : Int) (m sg : ByteArray) (w : World) (hp : p.length = 16) (hsg : sg.size ≤ 1073741824) (ht : Tab 1 w) (V : Int × Nat) (hV : V = verOf p n m sg.data.toList) :
    Calls Tryd.prog 18 #[.agg (B8 p).toArray, .int .i64 n, .string m, .string sg] w fun e w' => e = .returned (.tuple #[.int .i64 V.1, .int .i64 (V.2 : Int)]) ∧ Below w.heap.size w w' := by
  unfold verOf at hV
  by_cases h0 : 0 ≤ n ∧ n ≤ 6
  · rw [if_neg (by simpa using h0)] at hV
    obtain ⟨h, rfl⟩ := Int.eq_ofNat_of_zero_le h0.1
    have hh : h ≤ 6 := by omega
    rw [Int.toNat_natCast] at hV
    by_cases hm : 1048576 < m.size
    · rw [if_pos hm] at hV
      subst hV
      exact verify_limit p h m sg w hh hm
    · rw [if_neg hm] at hV
      obtain ⟨I, U, E, hd⟩ : ∃ I U E, decInt sg.data.toList = (I, U, E) := ⟨_, _, _, rfl⟩
      rw [hd] at hV
      dsimp only at hV
      by_cases hE : E ≠ 0
      · rw [if_pos hE] at hV
        subst hV
        exact verify_err p h m sg w hh (by omega) hsg I U E (Lib.hid hd) hE
      · rw [if_neg hE] at hV
        have hE0 : E = 0 := by omega
        subst hE0
        have hU : U ≤ sg.size := by have := decInt_le sg.data.toList; rw [hd, size_l] at this; exact this
        have hbk := decInt_back _ _ _ hd
        by_cases hI : 0 ≤ I ∧ I < ((2 ^ h : Nat) : Int)
        · rw [if_neg (by simpa using hI)] at hV
          obtain ⟨ix, rfl⟩ := Int.eq_ofNat_of_zero_le hI.1
          have hix : ix < 2 ^ h := Int.ofNat_lt.1 hI.2
          rw [Int.toNat_natCast, List.length_drop, size_l] at hV
          by_cases hl : sg.size - U = (68 + h) * 16
          · rw [if_neg (by simpa using hl)] at hV
            refine (verify_root p h ix m sg w hp hh hix (by omega) hsg U (Lib.hid hd) hU hl ht _ (Lib.hid rfl)).mono ?_
            rintro e w' ⟨rfl, hb⟩
            refine ⟨?_, hb⟩
            by_cases hq : rootV p h m ix (sg.data.toList.drop U) = p
            · rw [if_pos hq] at hV
              rw [show (rootV p h m ix (sg.data.toList.drop U) == p) = true by rw [beq_iff_eq]; exact hq, hV]; rfl
            · rw [if_neg hq] at hV
              rw [show (rootV p h m ix (sg.data.toList.drop U) == p) = false by rw [beq_eq_false_iff_ne]; exact hq, hV]; rfl
          · rw [if_pos hl] at hV
            subst hV
            exact verify_form p h m sg w hh (by omega) hsg (ix : Int) U (Lib.hid hd) hU (Or.inr ⟨by rw [decide_eq_true_eq]; exact hI, hl⟩)
        · rw [if_pos hI] at hV
          subst hV
          exact verify_form p h m sg w hh (by omega) hsg I U (Lib.hid hd) hU (Or.inl (by rw [decide_eq_false_iff_not]; exact hI))
  · rw [if_pos h0] at hV
    subst hV
    exact verify_arg p n m sg w h0
theorem rverify_all (p : List UInt8) (n : Int) (m sg : ByteArray) (w : World) (hp : p.length = 16) (hsg : sg.size ≤ 1073741824) (ht : Tab 0 w) (V : Int × Nat) (hV : V = verOf p n m sg.data.toList) :
    Calls Tryd.prog 19 #[.agg (B8 p).toArray, .int .i64 n, .string m, .string sg] w fun e w' => e = .returned (.tuple #[.int .i64 V.1, .int .i64 (V.2 : Int)]) ∧ Below w.heap.size w w' := by
  unfold verOf at hV
  by_cases h0 : 0 ≤ n ∧ n ≤ 6
  · rw [if_neg (by simpa using h0)] at hV
    obtain ⟨h, rfl⟩ := Int.eq_ofNat_of_zero_le h0.1
    have hh : h ≤ 6 := by omega
    rw [Int.toNat_natCast] at hV
    by_cases hm : 1048576 < m.size
    · rw [if_pos hm] at hV
      subst hV
      exact rverify_limit p h m sg w hh hm
    · rw [if_neg hm] at hV
      obtain ⟨I, U, E, hd⟩ : ∃ I U E, decInt sg.data.toList = (I, U, E) := ⟨_, _, _, rfl⟩
      rw [hd] at hV
      dsimp only at hV
      by_cases hE : E ≠ 0
      · rw [if_pos hE] at hV
        subst hV
        exact rverify_err p h m sg w hh (by omega) hsg I U E (Lib.hid hd) hE
      · rw [if_neg hE] at hV
        have hE0 : E = 0 := by omega
        subst hE0
        have hU : U ≤ sg.size := by have := decInt_le sg.data.toList; rw [hd, size_l] at this; exact this
        have hbk := decInt_back _ _ _ hd
        by_cases hI : 0 ≤ I ∧ I < ((2 ^ h : Nat) : Int)
        · rw [if_neg (by simpa using hI)] at hV
          obtain ⟨ix, rfl⟩ := Int.eq_ofNat_of_zero_le hI.1
          have hix : ix < 2 ^ h := Int.ofNat_lt.1 hI.2
          rw [Int.toNat_natCast, List.length_drop, size_l] at hV
          by_cases hl : sg.size - U = (68 + h) * 16
          · rw [if_neg (by simpa using hl)] at hV
            refine (rverify_root p h ix m sg w hp hh hix (by omega) hsg U (Lib.hid hd) hU hl ht _ (Lib.hid rfl)).mono ?_
            rintro e w' ⟨rfl, hb⟩
            refine ⟨?_, hb⟩
            by_cases hq : rootV p h m ix (sg.data.toList.drop U) = p
            · rw [if_pos hq] at hV
              rw [show (rootV p h m ix (sg.data.toList.drop U) == p) = true by rw [beq_iff_eq]; exact hq, hV]; rfl
            · rw [if_neg hq] at hV
              rw [show (rootV p h m ix (sg.data.toList.drop U) == p) = false by rw [beq_eq_false_iff_ne]; exact hq, hV]; rfl
          · rw [if_pos hl] at hV
            subst hV
            exact rverify_form p h m sg w hh (by omega) hsg (ix : Int) U (Lib.hid hd) hU ⟨hbk.2.2.2.1, hbk.2.2.2.2⟩ (Or.inr (Or.inr ⟨by omega, hI.2, hl⟩))
        · rw [if_pos hI] at hV
          subst hV
          exact rverify_form p h m sg w hh (by omega) hsg I U (Lib.hid hd) hU ⟨hbk.2.2.2.1, hbk.2.2.2.2⟩ (by omega)
  · rw [if_pos h0] at hV
    subst hV
    exact rverify_arg p n m sg w (by omega)

set_option maxHeartbeats 4000000 in
theorem verifies_walk (p : List UInt8) (n : Int) (m sg : ByteArray) (w : World) (hp : p.length = 16) (hm47 : m.size ≤ 140737488355328) (hs47 : sg.size ≤ 140737488355328) (ht : Tab 1 w) (ht0 : Tab 0 w) (hs : Sane w) :
    Calls Tryd.prog 5 #[.agg (B8 p).toArray, .int .i64 n, .string m, .string sg] w fun e w' => e = .returned (.bool true) ∧ Below w.heap.size w w' := by
  have HS := Lib.hid hs
  have HT := Lib.hid ht
  have HT0 := Lib.hid ht0
  have HPl := Lib.hid hp
  have KP := Lib.hid (Blk.new w 23 (B8 p))
  have B0 := Lib.hid ((Below.refl w.heap.size w).alloc (Nat.le_refl _) (.cells (B8 p).toArray 23))
  clear hs ht ht0 hp
  by_cases hbig : 200 < m.size
  · have hb' : (200 : Int) < (m.size : Int) := by omega
    go_enter Tryd.func5, Tryd.ntmps5
    go_wp2_with (go_at_call 9; refine (HS.out _ B0.out).mono ?_; rintro e w1 ⟨rfl, hb1⟩; have B1 := Lib.hid (B0.out.trans (hb1.mono B0.out.size)); clear hb1)
    go_ret
    exact ⟨rfl, B1.out⟩
  by_cases hbig2 : 1400 < sg.size
  · have hb' : ¬ (200 : Int) < (m.size : Int) := by omega
    have hb2' : (1400 : Int) < (sg.size : Int) := by omega
    go_enter Tryd.func5, Tryd.ntmps5
    go_wp2_with (go_at_call 9; refine (HS.out _ B0.out).mono ?_; rintro e w1 ⟨rfl, hb1⟩; have B1 := Lib.hid (B0.out.trans (hb1.mono B0.out.size)); clear hb1)
    go_ret
    exact ⟨rfl, B1.out⟩
  have hb' : ¬ (200 : Int) < (m.size : Int) := by omega
  have hb2' : ¬ (1400 : Int) < (sg.size : Int) := by omega
  obtain ⟨V, hV⟩ : ∃ V, V = verOf p n m sg.data.toList := ⟨_, rfl⟩
  obtain ⟨V1, V2⟩ := V
  have H1 := Lib.hid (show ∀ W, Tab 1 W → Calls Tryd.prog 18 #[.agg (B8 p).toArray, .int .i64 n, .string m, .string sg] W fun e w' => e = .returned (.tuple #[.int .i64 V1, .int .i64 (V2 : Int)]) ∧ Below W.heap.size W w' from fun W h => verify_all p n m sg W HPl.out (by omega) h _ hV)
  have H2 := Lib.hid (show ∀ W, Tab 0 W → Calls Tryd.prog 19 #[.agg (B8 p).toArray, .int .i64 n, .string m, .string sg] W fun e w' => e = .returned (.tuple #[.int .i64 V1, .int .i64 (V2 : Int)]) ∧ Below W.heap.size W w' from fun W h => rverify_all p n m sg W HPl.out (by omega) h _ hV)
  have e1 : (V1 == V1) = true := by simp
  have e2 : ((V2 : Int) == (V2 : Int)) = true := by simp
  clear hV
  go_enter Tryd.func5, Tryd.ntmps5
  go_wp2_with fail
  refine (HS.out _ B0.out).mono ?_; rintro e w1 ⟨rfl, hb1⟩
  have B1 := Lib.hid (B0.out.trans (hb1.mono B0.out.size))
  have K1 := Lib.hid (KP.out.below hb1 KP.out.lt)
  have A1 := Lib.hid K1.out.at
  clear hb1
  go_wp2_with (with_reducible refine wpList_load_at rfl 23 (.tmp 4) rfl ⟨w.heap.size, 0, none⟩ rfl (B8 p) (.array 16 5) A1.out Tryd.underlying23 rfl (size23 _ HPl.out) ?_)
  refine (H1.out _ (HT.out.below B1.out HT.out.1)).mono ?_; rintro e w2 ⟨rfl, hb2⟩
  have B2 := Lib.hid (B1.out.trans (hb2.mono B1.out.size))
  have K2 := Lib.hid (K1.out.below hb2 K1.out.lt)
  have A2 := Lib.hid K2.out.at
  clear hb2
  go_wp2_with (with_reducible refine wpList_load_at rfl 23 (.tmp 4) rfl ⟨w.heap.size, 0, none⟩ rfl (B8 p) (.array 16 5) A2.out Tryd.underlying23 rfl (size23 _ HPl.out) ?_)
  refine (H2.out _ (HT0.out.below B2.out HT0.out.1)).mono ?_; rintro e w3 ⟨rfl, hb3⟩
  have B3 := Lib.hid (B2.out.trans (hb3.mono B2.out.size))
  clear hb3
  go_wp2_with fail
  go_ret
  exact ⟨rfl, B3.out⟩
end Go.Proofs.YtgonidjajmjniaaDoor

namespace Go.Proofs.YtgonidjajmjniaaDoor
open Go.RowKit Wr Sh
set_option linter.unusedVariables false
set_option maxRecDepth 100000

theorem ver_own (s p : List UInt8) (h ix : Nat) (m : ByteArray) (hh : h ≤ 6) (hix : ix < 2 ^ h) (hm : m.size ≤ 1048576) (hp : p = node s h 0) : verOf p (h : Int) m (sigOf s h ix m) = ((ix : Int), 0) := by
  have hp6 : 2 ^ h ≤ 64 := Nat.le_trans (Nat.pow_le_pow_right (by decide) hh) (by decide)
  have hl := sig_len s h ix m
  unfold verOf
  rw [if_neg (by omega), if_neg (by omega), sig_dec s h ix m (by omega)]
  dsimp only
  rw [if_neg (by omega), Int.toNat_natCast, Int.toNat_natCast, if_neg (by simp; exact Int.ofNat_lt.2 hix), List.length_drop, hl, if_neg (by omega), sig_drop, hp, root_sig s h ix m hix, if_pos rfl]

set_option maxHeartbeats 4000000 in
theorem binds_walk (c x y z : UInt8) (m : ByteArray) (w : World) (hm47 : m.size ≤ 140737488355328) (ht : Tab 1 w) (ht0 : Tab 0 w) (hs : Sane w) :
    Calls Tryd.prog 8 #[.int .u8 (c.toNat : Int), .int .u8 (x.toNat : Int), .int .u8 (y.toNat : Int), .int .u8 (z.toNat : Int), .string m] w fun e w' => e = .returned (.bool true) ∧ Below w.heap.size w w' := by
  have HS := Lib.hid hs
  have HT := Lib.hid ht
  have HT0 := Lib.hid ht0
  clear hs ht ht0
  by_cases hbig : 200 < m.size
  · have hb' : (200 : Int) < (m.size : Int) := by omega
    go_enter Tryd.func8, Tryd.ntmps8
    go_wp2_with (go_at_call 9; refine (HS.out _ (Below.refl _ _)).mono ?_; rintro e w1 ⟨rfl, hb1⟩; have B1 := Lib.hid hb1; clear hb1)
    go_ret
    exact ⟨rfl, B1.out⟩
  · have hm2 : m.size ≤ 200 := by omega
    have hb' : ¬ (200 : Int) < (m.size : Int) := by omega
    obtain ⟨h, hh0⟩ : ∃ h, h = x.toNat % 3 := ⟨_, rfl⟩
    obtain ⟨ix, hix0⟩ : ∃ ix, ix = y.toNat % 2 ^ h := ⟨_, rfl⟩
    obtain ⟨kx, hkx0⟩ : ∃ kx, kx = z.toNat % 2 ^ h := ⟨_, rfl⟩
    have hh : h ≤ 6 := by omega
    have hh2 : h ≤ 2 := by omega
    have hix : ix < 2 ^ h := by rw [hix0]; exact Nat.mod_lt _ (Nat.two_pow_pos h)
    have hkx : kx < 2 ^ h := by rw [hkx0]; exact Nat.mod_lt _ (Nat.two_pow_pos h)
    have hp4 : 2 ^ h ≤ 4 := Nat.le_trans (Nat.pow_le_pow_right (by decide) hh2) (by decide)
    have hix4 : ix < 4 := by omega
    have hkx4 : kx < 4 := by omega
    have hxl := x.toNat_lt
    have hyl := y.toNat_lt
    have hzl := z.toNat_lt
    have q0 : wrap64 (x.toNat : Int) = (x.toNat : Int) := by simp only [wrap64]; omega
    have q1 : wrap64 (y.toNat : Int) = (y.toNat : Int) := by simp only [wrap64]; omega
    have q1z : wrap64 (z.toNat : Int) = (z.toNat : Int) := by simp only [wrap64]; omega
    have q2 : (x.toNat : Int) % 3 = (h : Int) := by omega
    have HIX0 := Lib.hid hix0
    have HKX0 := Lib.hid hkx0
    have HIX := Lib.hid hix
    have HKX := Lib.hid hkx
    clear hix0 hkx0 hix hkx
    obtain ⟨N, hN⟩ : ∃ N, N = (68 + h) * 16 := ⟨_, rfl⟩
    have hNN : (68 + (h : Int)) * 16 = (N : Int) := by rw [hN, Int.natCast_mul, Int.natCast_add]; rfl
    have hN1 : 1088 ≤ N := by omega
    have hN2 : N ≤ 1184 := by omega
    obtain ⟨sd, hsd⟩ : ∃ sd : ByteArray, sd = ⟨(List.replicate 32 c).toArray⟩ := ⟨_, rfl⟩
    have HSd := Lib.hid (show sd.data.toList = seedL c by rw [hsd]; rfl)
    have HSdv := Lib.hid hsd
    have H32 := Lib.hid (show sd.size = 32 by rw [← size_l, HSd.out]; simp [seedL])
    obtain ⟨p, hp⟩ : ∃ p, p = node sd.data.toList h 0 := ⟨_, rfl⟩
    have HP := Lib.hid hp
    have HPl := Lib.hid (show p.length = 16 by rw [hp]; exact node_len _ _ _)
    obtain ⟨R, hR⟩ : ∃ R, R = sigOf sd.data.toList h ix m := ⟨_, rfl⟩
    obtain ⟨T, hT⟩ : ∃ T, T = sigOf sd.data.toList h kx m := ⟨_, rfl⟩
    have HR := Lib.hid hR
    have HTs := Lib.hid hT
    have hU1 := enc_le (ix : Int)
    have hU2 := enc_le (kx : Int)
    have hRl : R.length = (enc (ix : Int)).length + N := by rw [hR, hN]; exact sig_len _ _ _ _
    have hTl : T.length = (enc (kx : Int)).length + N := by rw [hT, hN]; exact sig_len _ _ _ _
    obtain ⟨sg, hsg⟩ : ∃ sg, sg = bs R := ⟨_, rfl⟩
    obtain ⟨tg, htg⟩ : ∃ tg, tg = bs T := ⟨_, rfl⟩
    have hsz : sg.size = (enc (ix : Int)).length + N := by rw [hsg, bs_size, hRl]
    have htz : tg.size = (enc (kx : Int)).length + N := by rw [htg, bs_size, hTl]
    have hsz1 : N ≤ sg.size := by omega
    have hsz2 : sg.size ≤ N + 9 := by omega
    have htz1 : N ≤ tg.size := by omega
    have htz2 : tg.size ≤ N + 9 := by omega
    have HSGv := Lib.hid hsg
    have HTGv := Lib.hid htg
    obtain ⟨t1, ht1⟩ : ∃ t1 : ByteArray, t1 = tg.extract 0 (tg.size - N) := ⟨_, rfl⟩
    obtain ⟨s1, hs1⟩ : ∃ s1 : ByteArray, s1 = sg.extract (sg.size - N) sg.size := ⟨_, rfl⟩
    have hl1 : t1.data.toList = T.take (enc (kx : Int)).length := by rw [ht1, Lib.extract_data, List.drop_zero, htg, bs_list]; congr 1; rw [← htg]; omega
    have hl2 : s1.data.toList = R.drop (enc (ix : Int)).length := by rw [hs1, Lib.extract_to_end, hsg, bs_list]; congr 1; rw [← hsg]; omega
    have hz1 : t1.size ≤ 9 := by rw [← size_l, hl1, List.length_take]; omega
    have hz2 : s1.size ≤ 1200 := by rw [← size_l, hl2, List.length_drop]; omega
    obtain ⟨mx, hmx⟩ : ∃ mx : ByteArray, mx = t1 ++ s1 := ⟨_, rfl⟩
    have hmxl : mx.data.toList = T.take (enc (kx : Int)).length ++ R.drop (enc (ix : Int)).length := by rw [hmx, ByteArray.data_append, Array.toList_append, hl1, hl2]
    have hmz : mx.size ≤ 1209 := by rw [← size_l, hmxl, List.length_append, List.length_take, List.length_drop]; omega
    obtain ⟨V, hV⟩ : ∃ V, V = verOf p (h : Int) m mx.data.toList := ⟨_, rfl⟩
    obtain ⟨V1, V2⟩ := V
    have HV0 := Lib.hid (show ix = kx → V2 = 0 by
      intro e
      have h1 : mx.data.toList = sigOf sd.data.toList h ix m := by
        rw [hmxl, hT, hR, ← e, List.take_append_drop]
      rw [h1, ver_own sd.data.toList p h ix m hh HIX.out (by omega) hp] at hV
      injection hV)
    have H1 := Lib.hid (show ∀ W, Tab 1 W → Calls Tryd.prog 18 #[.agg (B8 p).toArray, .int .i64 (h : Int), .string m, .string mx] W fun e w' => e = .returned (.tuple #[.int .i64 V1, .int .i64 (V2 : Int)]) ∧ Below W.heap.size W w' from fun W h1 => verify_all p (h : Int) m mx W HPl.out (by omega) h1 _ hV)
    have H2 := Lib.hid (show ∀ W, Tab 0 W → Calls Tryd.prog 19 #[.agg (B8 p).toArray, .int .i64 (h : Int), .string m, .string mx] W fun e w' => e = .returned (.tuple #[.int .i64 V1, .int .i64 (V2 : Int)]) ∧ Below W.heap.size W w' from fun W h1 => rverify_all p (h : Int) m mx W HPl.out (by omega) h1 _ hV)
    have HMX := Lib.hid hmx
    have q5 : IntKind.i64.wrap ((tg.size : Int) - (N : Int)) = (tg.size : Int) - (N : Int) := IntWalk.i64_in _ (by omega)
    have q6 : IntKind.i64.wrap ((sg.size : Int) - (N : Int)) = (sg.size : Int) - (N : Int) := IntWalk.i64_in _ (by omega)
    have hsl1 : ∀ W : World, (Instr.sliceAt 9 (.string tg) none (some (.int .i64 ((tg.size : Int) - (N : Int)))) none).run Tryd.prog W = .ok (.string t1) W := by
      intro W
      have h1 := run_slice_string_h (P := Tryd.prog) W 9 tg Tryd.underlying9 .i64 ((tg.size : Int) - (N : Int)) (by omega) (by omega)
      rw [show ((tg.size : Int) - (N : Int)).toNat = tg.size - N by omega, ← ht1] at h1
      rw [run_sliceAt_string (P := Tryd.prog) (w := W) 9 _ _ _ _ Tryd.underlying9]
      exact h1
    have hsl2 : ∀ W : World, (Instr.sliceAt 9 (.string sg) (some (.int .i64 ((sg.size : Int) - (N : Int)))) none none).run Tryd.prog W = .ok (.string s1) W := by
      intro W
      have h1 := part_str sg (sg.size - N) (by omega) W
      rw [← hs1, show ((sg.size - N : Nat) : Int) = (sg.size : Int) - (N : Int) by omega] at h1
      exact h1
    have hct : ¬ (9223372036854775807 < t1.size + s1.size) := by omega
    have hZ := hZ16
    clear hh0 hsd hp hR hT hRl hTl hsg htg hsz htz ht1 hs1 hl1 hl2 hmx hmxl hV hN hU1 hU2
    go_enter Tryd.func8, Tryd.ntmps8
    go_upto_region 5 with (go_at_call 9; refine (HS.out _ (Below.refl _ _)).mono ?_; rintro e w0 ⟨rfl, hb0⟩; have B0 := Lib.hid hb0; clear hb0)
    rw [q2]
    go_cut [13] (fun s13 wx => s13 = .int .i64 (ix : Int) ∧ w0 = wx)
    case first =>
      have hix' := HIX0.out
      have hyz : ∀ k : Nat, h = k → (y.toNat : Int) % ((2 ^ k : Nat) : Int) = (ix : Int) := by intro k hk; subst hk; rw [hix']; omega
      rcases (show h = 0 ∨ h = 1 ∨ h = 2 by omega) with e | e | e
      all_goals
        have hq := hyz _ e
        subst e
        go_wp2_with fail
        go_meet
        exact ⟨by first | (rw [← hq]; rfl) | (rw [← hq]; simp), rfl⟩
    case rest =>
    obtain ⟨rfl, rfl⟩ := hcut
    go_upto_region 6 with (fail)
    go_cut [14] (fun s14 wx => s14 = .int .i64 (kx : Int) ∧ w0 = wx)
    case first =>
      have hix' := HKX0.out
      have hyz : ∀ k : Nat, h = k → (z.toNat : Int) % ((2 ^ k : Nat) : Int) = (kx : Int) := by intro k hk; subst hk; rw [hix']; omega
      rcases (show h = 0 ∨ h = 1 ∨ h = 2 by omega) with e | e | e
      all_goals
        have hq := hyz _ e
        subst e
        go_wp2_with fail
        go_meet
        exact ⟨by first | (rw [← hq]; rfl) | (rw [← hq]; simp), rfl⟩
    case rest =>
    obtain ⟨rfl, rfl⟩ := hcut
    go_wp2_with fail
    refine (seed_any c w0).mono ?_; rintro e w1 ⟨rfl, hb1⟩
    have B1 := Lib.hid (B0.out.trans (hb1.mono B0.out.size))
    rw [← HSdv.out]
    clear hb1
    go_wp2_with fail
    refine (public_ok sd h _ H32.out hh (HT.out.below B1.out HT.out.1) p HP.out).mono ?_; rintro e w2 ⟨rfl, hb2⟩
    have B2 := Lib.hid (B1.out.trans (hb2.mono B1.out.size))
    clear hb2
    obtain ⟨w3, hw3⟩ : ∃ W, W = (w2.alloc (.cells Z16.toArray 23)).setRow w2.heap.size (B8 p).toArray := ⟨_, rfl⟩
    have B3 := Lib.hid (show Below w.heap.size w w3 by rw [hw3]; exact belowRow (B2.out.alloc B2.out.size _) B2.out.size _)
    have KP := Lib.hid (show Blk w3 w2.heap.size 23 (B8 p) by rw [hw3]; exact (Blk.new w2 23 Z16).row _)
    have HW3 := Lib.hid hw3
    clear hw3
    go_wp2_with (with_reducible refine wpList_store_row rfl 23 (.tmp 15) (.tmp 50) rfl w2.heap.size (B8 p).toArray rfl rfl 23 _ (heap_alloc_new w2 _) (size23' _ HPl.out) (Z16_size _ HPl.out) (one8 _) ?_; rw [← HW3.out])
    refine (seed_any c w3).mono ?_; rintro e w4 ⟨rfl, hb4⟩
    have B4 := Lib.hid (B3.out.trans (hb4.mono B3.out.size))
    have KP4 := Lib.hid (KP.out.below hb4 KP.out.lt)
    rw [← HSdv.out]
    clear hb4
    go_wp2_with fail
    refine (sign_ok sd h ix m w4 H32.out hh HIX.out (by omega) (HT.out.below B4.out HT.out.1) R HR).mono ?_; rintro e w5 ⟨rfl, hb5⟩
    have B5 := Lib.hid (B4.out.trans (hb5.mono B4.out.size))
    have KP5 := Lib.hid (KP4.out.below hb5 KP4.out.lt)
    rw [← HSGv.out]
    clear hb5
    go_wp2_with fail
    refine (seed_any c w5).mono ?_; rintro e w6 ⟨rfl, hb6⟩
    have B6 := Lib.hid (B5.out.trans (hb6.mono B5.out.size))
    have KP6 := Lib.hid (KP5.out.below hb6 KP5.out.lt)
    rw [← HSdv.out]
    clear hb6
    go_wp2_with fail
    refine (sign_ok sd h kx m w6 H32.out hh HKX.out (by omega) (HT.out.below B6.out HT.out.1) T HTs).mono ?_; rintro e w7 ⟨rfl, hb7⟩
    have B7 := Lib.hid (B6.out.trans (hb7.mono B6.out.size))
    have KP7 := Lib.hid (KP6.out.below hb7 KP6.out.lt)
    rw [← HTGv.out]
    clear hb7
    have hg1 : ¬ (sg.size : Int) < 1088 := by omega
    have hg2 : ¬ (sg.size : Int) < (N : Int) := by omega
    have hg3 : ¬ (tg.size : Int) < (N : Int) := by omega
    go_wp2_with fail
    go_quiet (fail)
    rw [← HMX.out]
    have B8' := Lib.hid (below_drewN B7.out nq)
    have KP8 := Lib.hid (KP7.out.drewN nq)
    generalize w7.drewN nq = w8 at B8' KP8 ⊢
    have A8 := Lib.hid KP8.out.at
    go_wp2_with (with_reducible refine wpList_load_at rfl 23 (.tmp 15) rfl ⟨w2.heap.size, 0, none⟩ rfl (B8 p) (.array 16 5) A8.out Tryd.underlying23 rfl (size23 _ HPl.out) ?_)
    refine (H1.out _ (HT.out.below B8'.out HT.out.1)).mono ?_; rintro e w9 ⟨rfl, hb9⟩
    have B9 := Lib.hid (B8'.out.trans (hb9.mono B8'.out.size))
    have KP9 := Lib.hid (KP8.out.below hb9 KP8.out.lt)
    have A9 := Lib.hid KP9.out.at
    clear hb9
    go_wp2_with (with_reducible refine wpList_load_at rfl 23 (.tmp 15) rfl ⟨w2.heap.size, 0, none⟩ rfl (B8 p) (.array 16 5) A9.out Tryd.underlying23 rfl (size23 _ HPl.out) ?_)
    refine (H2.out _ (HT0.out.below B9.out HT0.out.1)).mono ?_; rintro e w10 ⟨rfl, hb10⟩
    have B10 := Lib.hid (B9.out.trans (hb10.mono B9.out.size))
    clear hb10
    have e1 : (V1 == V1) = true := by simp
    have e2 : ((V2 : Int) == (V2 : Int)) = true := by simp
    by_cases hik : ix = kx
    · have hv := HV0.out hik
      have e3 : ((ix : Int) != (kx : Int)) = false := by rw [bne_eq_false_iff_eq, hik]
      have e4 : ((V2 : Int) == 0) = true := by rw [hv]; rfl
      clear hv hik
      go_wp2_with fail
      go_ret
      exact ⟨rfl, B10.out⟩
    · have e3 : ((ix : Int) != (kx : Int)) = true := by rw [bne_iff_ne]; omega
      clear hik
      go_wp2_with fail
      go_ret
      exact ⟨rfl, B10.out⟩
end Go.Proofs.YtgonidjajmjniaaDoor

