/-
  The contracts of the reference's padKey and Mac.
  Conditions: key and text have at most 2^38 bytes; the reference's table of the round constants is as the text lays it.
-/
import Derived.Test.YtfagpeacilfaaaaDoorRSum
import Derived.Test.YtfagpeacilfaaaaDoorText
import Derived.Test.YtfagpeacilfaaaaDoorLawB
import Derived.Lib.AppendStr
import Derived.Outline
namespace Go.Proofs.YtfagpeacilfaaaaDoor
open Go.RowKit Wr Sh
set_option linter.unusedVariables false

theorem rsum_s (s : ByteArray) (A : Option Addr) (c : Nat) (w : World) (hr : Rd w w.heap.size A (B8 s.data.toList)) (hnil : A = none → c = 0) (hsz : s.size ≤ 549755813888) (ht : Tab 0 w) (R : List UInt8) (hR : Hid (R = sha s.data.toList)) :
    Calls Tryd.prog 12 #[.slice A s.size c] w fun e w' => e = .returned (.agg (B8 R).toArray) ∧ Below w.heap.size w w' := by
  have := rsum_go s.data.toList A c w hr hnil (by rw [size_l]; exact hsz) ht R hR
  rw [size_l] at this; exact this
theorem rsum_v (m : List UInt8) (v : Value) (base : Nat) (w0 w : World) (ho : w0.ownsRow base 5 1 v m.length (B8 m)) (hb : Below w0.heap.size w0 w) (hsz : m.length ≤ 549755813888) (ht : Tab 0 w) (R : List UInt8) (hR : Hid (R = sha m)) :
    Calls Tryd.prog 12 #[v] w fun e w' => e = .returned (.agg (B8 R).toArray) ∧ Below w.heap.size w w' := by
  obtain ⟨A, c, rfl, hc, hnil, hr⟩ := own_form (own_below ho hb)
  exact rsum_go m A c w hr hnil hsz ht R hR
/-- The byte number i of a key, zero behind its end. -/
def keyAt (k : ByteArray) (i : Nat) : UInt8 := k.data.toList.getD i 0
theorem ext64_at (k : ByteArray) (i : Nat) (hk : k.size ≤ 64) (hi : i < 64) : (ext64 k.data.toList)[i]? = some (keyAt k i) := by
  unfold ext64 keyAt
  rw [List.getD_eq_getElem?_getD]
  rcases Nat.lt_or_ge i k.size with h | h
  · have h2 : i < k.data.toList.length := by rw [size_l]; exact h
    rw [List.getElem?_append_left h2, List.getElem?_eq_getElem h2]; rfl
  · have h2 : k.data.toList.length ≤ i := by rw [size_l]; exact h
    rw [List.getElem?_append_right h2, List.getElem?_eq_none h2, List.getElem?_replicate, if_pos (by rw [size_l] at *; omega)]; rfl
theorem padk_succ (k : ByteArray) (c : UInt8) (i : Nat) (hk : k.size ≤ 64) (hi : i < 64) : (padk k.data.toList c).take (i + 1) = (padk k.data.toList c).take i ++ [keyAt k i ^^^ c] := by
  have hl : (padk k.data.toList c).length = 64 := padk_len _ _ (by rw [size_l]; exact hk)
  rw [List.take_succ_eq_append_getElem (by omega)]
  congr 2
  have h := ext64_at k i hk hi
  unfold padk
  rw [List.getElem_map]
  rw [List.getElem?_eq_getElem (by rw [ext64_len _ (by rw [size_l]; exact hk)]; exact hi)] at h
  rw [Option.some.inj h]

set_option maxRecDepth 100000 in
set_option maxHeartbeats 4000000 in
theorem padkey_go (key : ByteArray) (c : UInt8) (w : World) (hk : key.size ≤ 274877906944) (ht : Tab 0 w) (D : List UInt8) (hD : Hid (D = padk (hkey key.data.toList) c)) :
    Calls Tryd.prog 32 #[.string key, .int .u8 (c.toNat : Int)] w fun e w' => ∃ v', e = .returned v' ∧ w'.ownsRow w.heap.size 5 1 v' 64 (B8 D) ∧ Below w.heap.size w w' := by
  have HT := Lib.hid ht
  clear ht
  go_enter Tryd.func32, Tryd.ntmps32
  go_upto_if 12 with (fail)
  go_cut [5] (fun s5 wx => ∃ kk : ByteArray, s5 = .string kk ∧ kk.data.toList = hkey key.data.toList ∧ Below w.heap.size w wx)
  case first =>
    by_cases h64 : 64 < key.size
    · have hi64 : (64 : Int) < (key.size : Int) := by omega
      have hkk : hkey key.data.toList = sha key.data.toList := by unfold hkey; rw [size_l, if_pos h64]
      obtain ⟨S, hS⟩ : ∃ S, S = sha key.data.toList := ⟨_, rfl⟩
      have HS0 : Hid (S = sha key.data.toList) := Lib.hid hS
      have hSl : S.length = 32 := by rw [hS]; exact sha_len _
      have HSl := Lib.hid hSl
      have HKK := Lib.hid hkk
      clear hS hSl hkk h64
      go_wp2_with (first
        | (with_reducible refine wpList_bytes_of rfl 9 22 5 (.tmp 13) rfl key rfl Tryd.underlying9 Tryd.underlying22 Tryd.underlying5 ?_; intro C w3 hC hrd hb3; have HRD := Lib.hid hrd; have HB3 := Lib.hid hb3; clear hb3 hrd)
        | (go_at_call 12; refine (rsum_s key _ C w3 HRD.out (fun h => by cases h) (by omega) (HT.out.below HB3.out HT.out.1) S HS0).mono ?_; rintro e w4 ⟨rfl, hb4⟩; have HB4 := Lib.hid (HB3.out.trans (hb4.mono HB3.out.size)); clear hb4)
        | (go_at_call 20; refine (bytes32_any S _ HSl.out).mono ?_; rintro e w5 ⟨rfl, hb5⟩; have HB5 := Lib.hid (HB4.out.trans (hb5.mono HB4.out.size)); clear hb5))
      go_meet
      exact ⟨_, rfl, by rw [HKK.out, ← HS0.out], HB5.out⟩
    · have hi64 : ¬ (64 : Int) < (key.size : Int) := by omega
      have HKK := Lib.hid (show key.data.toList = hkey key.data.toList by unfold hkey; rw [size_l, if_neg h64])
      clear h64
      go_wp2_with fail
      go_meet
      exact ⟨_, rfl, HKK.out, Below.refl _ _⟩
  case rest =>
    obtain ⟨kk, rfl, hkk, hbw⟩ := hcut
    have hkl : kk.size ≤ 64 := by rw [← size_l, hkk]; exact hkey_le _
    have HD2 : Hid (D = padk kk.data.toList c) := Lib.hid (by rw [hD.out, hkk])
    have HB := Lib.hid hbw
    clear hkk hbw
    rename World => wa
    go_wp2_with fail
    go_loopw [6, 7] (fun s6 s7 wr => ∃ i : Nat, i ≤ 64 ∧ s7 = .int .i64 i ∧ Hid (wr.ownsRow w.heap.size 5 1 s6 i (B8 (D.take i))) ∧ Hid (Below w.heap.size w wr)) (fun _ s7 _ => 64 - (intOf s7).toNat)
    case atStart => exact ⟨0, by omega, rfl, Lib.hid (World.ownsRow_nil _ _ _ _), HB⟩
    case round =>
      clear HB
      rename World => wr
      obtain ⟨i, hi, rfl, HO, HB⟩ := hrel
      by_cases hlt : i < 64
      · have hlt' : (i : Int) < 64 := by omega
        obtain ⟨y, hy⟩ : ∃ y, y = keyAt kk i ^^^ c := ⟨_, rfl⟩
        have HN := Lib.hid (show D.take (i + 1) = D.take i ++ [y] by rw [HD2.out, padk_succ kk c i hkl hlt, hy])
        by_cases hin : i < kk.size
        · have hin' : (i : Int) < (kk.size : Int) := by omega
          obtain ⟨x, hx⟩ : ∃ x, x = kk[i] := ⟨_, rfl⟩
          have hix : ∀ W : World, (Instr.index 9 (.string kk) (.int .i64 (i : Int))).run Tryd.prog W = .ok (.int .u8 (x.toNat : Int)) W := by
            intro W
            rw [run_index_string W 9 kk _ _ Tryd.underlying9, dif_pos ⟨by omega, hin'⟩]
            simp only [Int.toNat_natCast, hx]
          have hxk : keyAt kk i = x := by
            unfold keyAt
            rw [hx, List.getD_eq_getElem?_getD, List.getElem?_eq_getElem (by rw [size_l]; exact hin)]; rfl
          have hxy : bits .xor .u8 (x.toNat : Int) (c.toNat : Int) = (y.toNat : Int) := by rw [hy, hxk]; exact xor_c x c _ rfl
          clear hx hxk hy
          go_wp2_with (at_builtin; refine wpList_append_rd rfl (.tmp 28) (.tmp 32) rfl w.heap.size _ i _ rfl (HO.out.alloc _) (some ⟨wr.heap.size, 0, none⟩) 1 1 _ [y] rfl (fun h => by cases h) rfl (rd_lit wr y) (by omega) (by have := HB.out.size; simp; omega) ?_; intro v4 w4 ho4 hg4; have HO4 := Lib.hid ho4; have HB4 := Lib.hid ((HB.out.alloc HB.out.size (.cells #[.int .u8 (y.toNat : Int)] 5)).grown hg4 (HB.out.alloc HB.out.size _).size (fun q hq => (HO.out.lt q hq).1)); clear ho4 hg4)
          go_roundw
          case rel =>
            refine ⟨i + 1, by omega, by go_num, Lib.hid ?_, HB4⟩
            have := HO4.out
            rw [← B8_append, ← HN.out] at this
            exact this
          case measure => simp only [intOf]; omega
        · have hin' : ¬ (i : Int) < (kk.size : Int) := by omega
          have hxk : keyAt kk i = 0 := by
            unfold keyAt
            rw [List.getD_eq_getElem?_getD, List.getElem?_eq_none (by rw [size_l]; omega)]; rfl
          have hxy : bits .xor .u8 0 (c.toNat : Int) = (y.toNat : Int) := by rw [hy, hxk]; exact xor_c 0 c _ rfl
          clear hxk hy
          go_wp2_with (at_builtin; refine wpList_append_rd rfl (.tmp 28) (.tmp 32) rfl w.heap.size _ i _ rfl (HO.out.alloc _) (some ⟨wr.heap.size, 0, none⟩) 1 1 _ [y] rfl (fun h => by cases h) rfl (rd_lit wr y) (by omega) (by have := HB.out.size; simp; omega) ?_; intro v4 w4 ho4 hg4; have HO4 := Lib.hid ho4; have HB4 := Lib.hid ((HB.out.alloc HB.out.size (.cells #[.int .u8 (y.toNat : Int)] 5)).grown hg4 (HB.out.alloc HB.out.size _).size (fun q hq => (HO.out.lt q hq).1)); clear ho4 hg4)
          go_roundw
          case rel =>
            refine ⟨i + 1, by omega, by go_num, Lib.hid ?_, HB4⟩
            have := HO4.out
            rw [← B8_append, ← HN.out] at this
            exact this
          case measure => simp only [intOf]; omega
      · obtain rfl : i = 64 := by omega
        have HF := Lib.hid (show D.take 64 = D from List.take_of_length_le (by rw [HD2.out, padk_len _ _ (by rw [size_l]; exact hkl)]; omega))
        go_wp2_with fail
        go_ret
        refine ⟨_, rfl, ?_, HB.out⟩
        have := HO.out
        rw [HF.out] at this
        exact this

set_option maxRecDepth 100000 in
set_option maxHeartbeats 4000000 in
theorem rmac_go (key text : ByteArray) (w : World) (hk : key.size ≤ 274877906944) (htx : text.size ≤ 274877906944) (ht : Tab 0 w) (R : List UInt8) (hR : Hid (R = mac key.data.toList text.data.toList)) :
    Calls Tryd.prog 19 #[.string key, .string text] w fun e w' => e = .returned (.string ⟨R.toArray⟩) ∧ Below w.heap.size w w' := by
  obtain ⟨i0, hi0, hz0, hz1, hz2⟩ := info_parts Tryd.info5
  have HT := Lib.hid ht
  clear ht
  obtain ⟨D, hD⟩ : ∃ D, D = padk (hkey key.data.toList) 0x36 := ⟨_, rfl⟩
  obtain ⟨E, hE⟩ : ∃ E, E = padk (hkey key.data.toList) 0x5c := ⟨_, rfl⟩
  have HD := Lib.hid hD
  have HE := Lib.hid hE
  have HDL := Lib.hid (show D.length = 64 by rw [hD]; exact padk_len _ _ (hkey_le _))
  have HEL := Lib.hid (show E.length = 64 by rw [hE]; exact padk_len _ _ (hkey_le _))
  obtain ⟨S, hS⟩ : ∃ S, S = sha (D ++ text.data.toList) := ⟨_, rfl⟩
  have HS := Lib.hid hS
  have HSL := Lib.hid (show S.length = 32 by rw [hS]; exact sha_len _)
  have HRR := Lib.hid (show R = sha (E ++ S) by rw [hR.out, hS, hD, hE]; rfl)
  have HRL := Lib.hid (show R.length = 32 by rw [HRR.out]; exact sha_len _)
  have HSS := Lib.hid (show (⟨S.toArray⟩ : ByteArray).size = 32 by show S.toArray.size = 32; rw [List.size_toArray, HSL.out])
  have P1 := Lib.hid (show ∀ W, Tab 0 W → Calls Tryd.prog 32 #[.string key, .int .u8 54] W fun e w' => ∃ v', e = .returned v' ∧ w'.ownsRow W.heap.size 5 1 v' 64 (B8 D) ∧ Below W.heap.size W w' from fun W hW => padkey_go key 0x36 W hk hW D HD)
  have P2 := Lib.hid (show ∀ W, Tab 0 W → Calls Tryd.prog 32 #[.string key, .int .u8 92] W fun e w' => ∃ v', e = .returned v' ∧ w'.ownsRow W.heap.size 5 1 v' 64 (B8 E) ∧ Below W.heap.size W w' from fun W hW => padkey_go key 0x5c W hk hW E HE)
  have HT1 : ∀ W, Below w.heap.size w W → Tab 0 W := fun W hW => HT.out.below hW HT.out.1
  clear hD hE hS
  go_enter Tryd.func19, Tryd.ntmps19
  go_wp2_with (first
    | (go_at_call 32; (with_reducible refine (P1.out _ HT.out).mono ?_); rintro e w1 ⟨v1, rfl, ho1, hb1⟩; have HO1 := Lib.hid ho1; have HB1 := Lib.hid hb1; clear ho1 hb1)
    | (at_builtin; refine Lib.wpList_append_own_string _ rfl (.tmp 9) (.tmp 10) 22 9 rfl w.heap.size 5 i0 Tryd.underlying22 Tryd.underlying9 hi0 hz0 hz1 hz2 v1 64 (B8 D) rfl HO1.out text rfl (by unfold maxLen; omega) (by omega) HB1.out.size ?_; intro v2 w2 ho2 hg2 _; have HO2 := Lib.hid (show w2.ownsRow w.heap.size 5 1 v2 (D ++ text.data.toList).length (B8 (D ++ text.data.toList)) by rw [strCells_B8, ← B8_append] at ho2; rw [List.length_append, HDL.out, size_l]; exact ho2); have HB2 := Lib.hid (HB1.out.grown hg2 HB1.out.size (fun q hq => (HO1.out.lt q hq).1)); clear ho2 hg2)
    | (go_at_call 32; (with_reducible refine (P2.out _ (HT1 _ HB2.out)).mono ?_); rintro e w3 ⟨v3, rfl, ho3, hb3⟩; have HO3 := Lib.hid ho3; have HC3 := Lib.hid hb3; have HB3 := Lib.hid (HB2.out.trans (hb3.mono HB2.out.size)); clear ho3 hb3)
    | (go_at_call 12; (with_reducible refine (rsum_v (D ++ text.data.toList) v2 _ w2 w3 HO2.out HC3.out (by rw [List.length_append, HDL.out, size_l]; omega) (HT1 _ HB3.out) S HS).mono ?_); rintro e w4 ⟨rfl, hb4⟩; have HC4 := Lib.hid hb4; have HB4 := Lib.hid (HB3.out.trans (hb4.mono HB3.out.size)); clear hb4)
    | (go_at_call 20; (with_reducible refine (bytes32_any S _ HSL.out).mono ?_); rintro e w5 ⟨rfl, hb5⟩; have HC5 := Lib.hid (HC4.out.trans (hb5.mono HC4.out.size)); have HB5 := Lib.hid (HB4.out.trans (hb5.mono HB4.out.size)); clear hb5)
    | (at_builtin; refine Lib.wpList_append_own_string _ rfl (.tmp 14) (.tmp 17) 22 9 rfl w2.heap.size 5 i0 Tryd.underlying22 Tryd.underlying9 hi0 hz0 hz1 hz2 v3 64 (B8 E) rfl (own_below HO3.out HC5.out) ⟨S.toArray⟩ rfl (by rw [HSS.out]; unfold maxLen; omega) (by rw [HSS.out]; omega) (by have := HC3.out.size; have := HC5.out.size; omega) ?_; intro v6 w6 ho6 hg6 _; have HO6 := Lib.hid (show w6.ownsRow w2.heap.size 5 1 v6 (E ++ S).length (B8 (E ++ S)) by rw [strCells_B8, ← B8_append, HSS.out] at ho6; rw [List.length_append, HEL.out, HSL.out]; exact ho6); have HB6 := Lib.hid (HB5.out.grown hg6 HB5.out.size (fun q hq => Nat.le_trans HB2.out.size (HO3.out.lt q hq).1)); clear ho6 hg6)
    | (go_at_call 12; (with_reducible refine (rsum_v (E ++ S) v6 _ w6 w6 HO6.out (Below.refl _ _) (by rw [List.length_append, HEL.out, HSL.out]; omega) (HT1 _ HB6.out) R HRR).mono ?_); rintro e w7 ⟨rfl, hb7⟩; have HB7 := Lib.hid (HB6.out.trans (hb7.mono HB6.out.size)); clear hb7)
    | (go_at_call 20; (with_reducible refine (bytes32_any R _ HRL.out).mono ?_); rintro e w8 ⟨rfl, hb8⟩; have HB8 := Lib.hid (HB7.out.trans (hb8.mono HB7.out.size)); clear hb8))
  go_ret
  exact ⟨rfl, HB8.out⟩
end Go.Proofs.YtfagpeacilfaaaaDoor
