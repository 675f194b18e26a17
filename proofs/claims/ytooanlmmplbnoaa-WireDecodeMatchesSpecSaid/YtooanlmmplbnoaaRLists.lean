/-
  The contracts of the reference's Ints, Strings and Digests: they return the encodings of the lists.
  Conditions: the lists and their encodings are no longer than 2^30.
-/
import Derived.Test.YtooanlmmplbnoaaRBytes
namespace Go.Proofs.Ytooanlmmplbnoaa
open Go.RowKit Wr
set_option linter.unusedVariables false

set_option maxRecDepth 100000 in
set_option maxHeartbeats 4000000 in
theorem rints_any (A : Option Addr) (l : List Int) (c : Nat) (w : World) (hr : Rd w w.heap.size A (I64 l)) (hl : l.length ≤ 1073741824) (hi : ∀ x ∈ l, okInt x) :
    Calls Try.prog 19 #[.slice A l.length c] w fun e w' => ∃ v', e = .returned v' ∧ w'.ownsRow w.heap.size 5 1 v' (encInts l).length (B8 (encInts l)) ∧ Below w.heap.size w w' := by
  obtain ⟨N, hN⟩ : ∃ N, N = l.length := ⟨_, rfl⟩
  rw [← hN] at hl ⊢
  have HN := Lib.hid hN
  have HR := Lib.hid hr
  have HI := Lib.hid hi
  clear hN hr hi
  go_enter Try.func19, Try.ntmps19
  go_wp2_with (go_at_call 15; refine (rint_any _ _ (by omega) (by omega)).mono ?_; rintro e w1 ⟨v1, rfl, ho1, hb1⟩; have HO1 := Lib.hid ho1; have HB1 := Lib.hid hb1; clear ho1 hb1)
  go_loopw [3, 4] (fun s3 s4 wr => ∃ j k : Nat, j ≤ N ∧ s4 = .int .i64 j ∧ Hid (k = (partE enc l j).length) ∧ Hid (wr.ownsRow w.heap.size 5 1 s3 k (B8 (partE enc l j))) ∧ Hid (Below w.heap.size w wr))
    (fun _ s4 _ => N - (intOf s4).toNat)
  case atStart => exact ⟨0, _, Nat.zero_le _, rfl, Lib.hid rfl, by rw [partE_zero, ← HN.out]; exact HO1, HB1⟩
  case round =>
    clear HO1 HB1
    obtain ⟨j, k, hj, rfl, HK, HO, HB⟩ := hrel
    by_cases hlt : j < N
    · have hjl : j < l.length := by have := HN.out; omega
      obtain ⟨g, o, rfl, hg, hcell⟩ := HR.out (by intro e; have := congrArg List.length e; simp only [I64, List.length_map, List.length_nil] at this; omega)
      have hcj : wr.cell? ⟨g, o + j, none⟩ = some (.int .i64 l[j]) := by
        rw [HB.out.cell (show (⟨g, o + j, none⟩ : Addr).block < _ from hg)]; exact hcell j _ (I64_get l j hjl)
      have hb2 := HI.out l[j] (List.getElem_mem _)
      have hb3 := partE_len enc l 9 j (fun x _ => (enc_le x).2) (by have := HN.out; omega)
      rw [← HK.out] at hb3
      have HP := Lib.hid (partE_succ enc l j hjl)
      obtain ⟨x, hx⟩ : ∃ x, x = l[j] := ⟨_, rfl⟩
      rw [← hx] at hcj hb2 HP
      have he9 := enc_le x
      obtain ⟨L, hL⟩ : ∃ L, L = (enc x).length := ⟨_, rfl⟩
      rw [← hL] at he9
      have HL := Lib.hid hL
      clear hcell hx hL
      go_wp2_with (first
        | (go_at_call 15; refine (rint_any _ _ hb2.1 hb2.2).mono ?_; rintro e w2 ⟨v2, rfl, ho2, hb2'⟩; obtain ⟨A2, c2, rfl, _, hn2, hrd2⟩ := own_form ho2; have HRD := Lib.hid hrd2; have HNL := Lib.hid hn2; have HB2 := Lib.hid hb2'; clear ho2 hb2' hrd2 hn2; rw [← HL.out])
        | (at_builtin; refine wpList_append_rd rfl (.tmp 14) (.tmp 19) rfl w.heap.size _ k _ rfl (own_below HO.out HB2.out) A2 L c2 _ (enc x) rfl HNL.out HL.out.symm HRD.out (by omega) (Nat.le_trans HB.out.size HB2.out.size) ?_; intro v3 w3 ho3 hg3; have HO3 := Lib.hid ho3; have HB3 := Lib.hid ((HB.out.trans (HB2.out.mono HB.out.size)).grown hg3 (Nat.le_trans HB.out.size HB2.out.size) (fun q hq => (HO.out.lt q hq).1)); clear ho3 hg3))
      go_roundw
      case rel =>
        refine ⟨j + 1, k + L, hlt, by go_num, Lib.hid (by rw [HP.out, List.length_append, ← HK.out, ← HL.out]), Lib.hid ?_, HB3⟩
        have := HO3.out
        rw [← B8_append] at this
        rw [HP.out]
        exact this
      case measure => simp only [intOf]; omega
    · obtain rfl : j = N := by omega
      go_wp2_with fail
      go_ret
      refine ⟨_, rfl, ?_, HB.out⟩
      have h := HO.out
      rw [HK.out, HN.out, partE_all] at h
      exact h

set_option maxRecDepth 100000 in
set_option maxHeartbeats 4000000 in
theorem rstrings_any (A : Option Addr) (l : List ByteArray) (c : Nat) (w : World) (hr : Rd w w.heap.size A (St l)) (hl : l.length ≤ 1073741824) (hsum : (encStrs (bs l)).length ≤ 1073741824) (hi : ∀ x ∈ l, x.size ≤ 1073741824) :
    Calls Try.prog 21 #[.slice A l.length c] w fun e w' => ∃ v', e = .returned v' ∧ w'.ownsRow w.heap.size 5 1 v' (encStrs (bs l)).length (B8 (encStrs (bs l))) ∧ Below w.heap.size w w' := by
  obtain ⟨N, hN⟩ : ∃ N, N = l.length := ⟨_, rfl⟩
  rw [← hN] at hl ⊢
  have HN := Lib.hid hN
  have HR := Lib.hid hr
  have HI := Lib.hid hi
  have HS := Lib.hid hsum
  clear hN hr hi hsum
  go_enter Try.func21, Try.ntmps21
  go_wp2_with (go_at_call 15; refine (rint_any _ _ (by omega) (by omega)).mono ?_; rintro e w1 ⟨v1, rfl, ho1, hb1⟩; have HO1 := Lib.hid ho1; have HB1 := Lib.hid hb1; clear ho1 hb1)
  go_loopw [3, 4] (fun s3 s4 wr => ∃ j k : Nat, j ≤ N ∧ s4 = .int .i64 j ∧ Hid (k = (partE encStr (bs l) j).length) ∧ Hid (wr.ownsRow w.heap.size 5 1 s3 k (B8 (partE encStr (bs l) j))) ∧ Hid (Below w.heap.size w wr))
    (fun _ s4 _ => N - (intOf s4).toNat)
  case atStart => exact ⟨0, _, Nat.zero_le _, rfl, Lib.hid rfl, by rw [partE_zero, bs_len, ← HN.out]; exact HO1, HB1⟩
  case round =>
    clear HO1 HB1
    obtain ⟨j, k, hj, rfl, HK, HO, HB⟩ := hrel
    by_cases hlt : j < N
    · have hjl : j < l.length := by have := HN.out; omega
      obtain ⟨g, o, rfl, hg, hcell⟩ := HR.out (by intro e; have := congrArg List.length e; simp only [St, List.length_map, List.length_nil] at this; omega)
      have hcj : wr.cell? ⟨g, o + j, none⟩ = some (.string l[j]) := by
        rw [HB.out.cell (show (⟨g, o + j, none⟩ : Addr).block < _ from hg)]; exact hcell j _ (St_get l j hjl)
      have hb2 := HI.out l[j] (List.getElem_mem _)
      have hjb : j < (bs l).length := by rw [bs_len]; exact hjl
      have hp := partE_succ encStr (bs l) j hjb
      have hle := partE_le encStr (bs l) (j + 1) hjb
      have hbj : (bs l)[j] = l[j].data.toList := by simp [bs]
      rw [hbj] at hp
      obtain ⟨x, hx⟩ : ∃ x, x = l[j] := ⟨_, rfl⟩
      rw [← hx] at hcj hb2 hp
      obtain ⟨L, hL⟩ : ∃ L, L = (encStr x.data.toList).length := ⟨_, rfl⟩
      have hkL : k + L ≤ 1073741824 := by
        have hs : (encList encStr (bs l)).length ≤ 1073741824 := HS.out
        rw [hp, List.length_append, ← HK.out, ← hL] at hle
        omega
      have HP := Lib.hid hp
      have HL := Lib.hid hL
      have hx40 : x.size ≤ 1099511627776 := by omega
      clear hcell hx hL hp hle hbj hjb
      go_wp2_with (first
        | (go_at_call 17; refine (rbytes_any _ _ hx40).mono ?_; rintro e w2 ⟨v2, rfl, ho2, hb2'⟩; obtain ⟨A2, c2, rfl, _, hn2, hrd2⟩ := own_form ho2; have HRD := Lib.hid hrd2; have HNL := Lib.hid hn2; have HB2 := Lib.hid hb2'; clear ho2 hb2' hrd2 hn2; rw [← HL.out])
        | (at_builtin; refine wpList_append_rd rfl (.tmp 14) (.tmp 19) rfl w.heap.size _ k _ rfl (own_below HO.out HB2.out) A2 L c2 _ (encStr x.data.toList) rfl HNL.out HL.out.symm HRD.out (by omega) (Nat.le_trans HB.out.size HB2.out.size) ?_; intro v3 w3 ho3 hg3; have HO3 := Lib.hid ho3; have HB3 := Lib.hid ((HB.out.trans (HB2.out.mono HB.out.size)).grown hg3 (Nat.le_trans HB.out.size HB2.out.size) (fun q hq => (HO.out.lt q hq).1)); clear ho3 hg3))
      go_roundw
      case rel =>
        refine ⟨j + 1, k + L, hlt, by go_num, Lib.hid (by rw [HP.out, List.length_append, ← HK.out, ← HL.out]), Lib.hid ?_, HB3⟩
        have := HO3.out
        rw [← B8_append] at this
        rw [HP.out]
        exact this
      case measure => simp only [intOf]; omega
    · obtain rfl : j = N := by omega
      go_wp2_with fail
      go_ret
      refine ⟨_, rfl, ?_, HB.out⟩
      have h := HO.out
      rw [HK.out, HN.out, ← bs_len, partE_all] at h
      exact h

set_option maxRecDepth 100000 in
set_option maxHeartbeats 4000000 in
theorem rdigests_any (A : Option Addr) (l : List (List UInt8)) (c : Nat) (w : World) (hr : Rd w w.heap.size A (Dg l)) (hl : l.length ≤ 67108864) (hi : ∀ x ∈ l, okDig x) :
    Calls Try.prog 23 #[.slice A l.length c] w fun e w' => ∃ v', e = .returned v' ∧ w'.ownsRow w.heap.size 5 1 v' (encDigs l).length (B8 (encDigs l)) ∧ Below w.heap.size w w' := by
  obtain ⟨N, hN⟩ : ∃ N, N = l.length := ⟨_, rfl⟩
  rw [← hN] at hl ⊢
  have HN := Lib.hid hN
  have HR := Lib.hid hr
  have HI := Lib.hid hi
  clear hN hr hi
  go_enter Try.func23, Try.ntmps23
  go_wp2_with (go_at_call 15; refine (rint_any _ _ (by omega) (by omega)).mono ?_; rintro e w1 ⟨v1, rfl, ho1, hb1⟩; have HO1 := Lib.hid ho1; have HB1 := Lib.hid hb1; clear ho1 hb1)
  go_loopw [3, 4] (fun s3 s4 wr => ∃ j k : Nat, j ≤ N ∧ s4 = .int .i64 j ∧ Hid (k = (partE (fun d : List UInt8 => d) l j).length) ∧ Hid (wr.ownsRow w.heap.size 5 1 s3 k (B8 (partE (fun d : List UInt8 => d) l j))) ∧ Hid (Below w.heap.size w wr))
    (fun _ s4 _ => N - (intOf s4).toNat)
  case atStart => exact ⟨0, _, Nat.zero_le _, rfl, Lib.hid rfl, by rw [partE_zero, ← HN.out]; exact HO1, HB1⟩
  case round =>
    clear HO1 HB1
    rename World => wa
    obtain ⟨j, k, hj, rfl, HK, HO, HB⟩ := hrel
    by_cases hlt : j < N
    · have hjl : j < l.length := by have := HN.out; omega
      have h16 : l[j].length = 16 := HI.out l[j] (List.getElem_mem _)
      obtain ⟨D, hD⟩ : ∃ D, D = l[j] := ⟨_, rfl⟩
      have hb3 := partE_len (fun d : List UInt8 => d) l 16 j (fun x hx => by rw [HI.out x hx]; omega) (by omega)
      rw [← HK.out] at hb3
      have hp := partE_succ (fun d : List UInt8 => d) l j hjl
      rw [← hD] at h16 hp
      have HP := Lib.hid hp
      have HD16 := Lib.hid h16
      obtain ⟨g, o, rfl, hg, hcell⟩ := HR.out (by intro e; have := congrArg List.length e; simp only [Dg, B8, List.length_map, List.length_nil, flat_len l HI.out] at this; omega)
      have HC := Lib.hid (show ∀ W, Below w.heap.size w W → ∀ i u, (B8 D)[i]? = some u → W.cell? ⟨g, o + j * 16 + i, none⟩ = some u from fun W hW i u hu => by
        rw [hD] at hu
        rw [hW.cell (show (⟨g, o + j * 16 + i, none⟩ : Addr).block < _ from hg), Nat.add_assoc]
        exact hcell _ u (Dg_at l HI.out j hjl i u hu))
      have hjN : (j : Int) < (N : Int) := by omega
      clear hcell hD hp h16
      go_wp2_with fail
      go_loopw [3, 5] (fun s3 s5 wr => ∃ i : Nat, i ≤ 16 ∧ s5 = .int .i64 i ∧ Hid (wr.ownsRow w.heap.size 5 1 s3 (k + i) (B8 (partE (fun d : List UInt8 => d) l j ++ D.take i))) ∧ Hid (Below w.heap.size w wr)) (fun _ s5 _ => 16 - (intOf s5).toNat)
      case atStart => exact ⟨0, by omega, rfl, by rw [List.take_zero, List.append_nil]; exact HO, HB⟩
      case round =>
        clear HO HB
        rename World => wr
        obtain ⟨i, hi, rfl, HO, HB⟩ := hrel
        by_cases hi16 : i < 16
        · have hiD : i < D.length := by have := HD16.out; omega
          obtain ⟨x, hx⟩ : ∃ x, x = D[i] := ⟨_, rfl⟩
          have cx : wr.cell? ⟨g, o + j * 16 + i, none⟩ = some (.int .u8 (x.toNat : Int)) := HC.out wr HB.out i _ (by rw [B8_get _ _ hiD, hx])
          have HT := Lib.hid (show D.take (i + 1) = D.take i ++ [x] by rw [List.take_succ_eq_append_getElem hiD, hx])
          have hi16' : (i : Int) < 16 := by omega
          clear hx
          go_wp2_with (at_builtin; refine wpList_append_rd rfl (.tmp 19) (.tmp 26) rfl w.heap.size _ (k + i) _ rfl (HO.out.alloc _) (some ⟨wr.heap.size, 0, none⟩) 1 1 _ [x] rfl (fun h => by cases h) rfl (rd_lit wr x) (by omega) (by have := HB.out.size; simp; omega) ?_; intro v4 w4 ho4 hg4; have HO4 := Lib.hid ho4; have HB4 := Lib.hid ((HB.out.alloc HB.out.size (.cells #[.int .u8 (x.toNat : Int)] 5)).grown hg4 (HB.out.alloc HB.out.size _).size (fun q hq => (HO.out.lt q hq).1)); clear ho4 hg4)
          go_roundw
          case rel =>
            refine ⟨i + 1, by omega, by go_num, Lib.hid ?_, HB4⟩
            have := HO4.out
            rw [← B8_append, List.append_assoc, ← HT.out] at this
            exact this
          case measure => simp only [intOf]; omega
        · obtain rfl : i = 16 := by omega
          have HF := Lib.hid (show D.take 16 = D from List.take_of_length_le (by rw [HD16.out]; exact Nat.le_refl _))
          go_wp2_with fail
          go_roundw
          case rel =>
            refine ⟨j + 1, k + 16, hlt, by go_num, Lib.hid (by rw [HP.out, List.length_append, ← HK.out, HD16.out]), Lib.hid ?_, HB⟩
            have := HO.out
            rw [HF.out, ← HP.out] at this
            exact this
          case measure => simp only [intOf]; omega
    · obtain rfl : j = N := by omega
      go_wp2_with fail
      go_ret
      refine ⟨_, rfl, ?_, HB.out⟩
      have h := HO.out
      rw [HK.out, HN.out, partE_all] at h
      exact h
end Go.Proofs.Ytooanlmmplbnoaa
