/-
  Contracts and words of several parts of the program (W1RLen, W1RGets, W1RGetD, CodM), one after the other.
  Conditions: those that each says.
-/
import Derived.Test.YtofccgkgjcnfbaaDoorW1RGet
import Derived.Test.YtofccgkgjcnfbaaDoorGW1PutW1RLisW1GetW1Len
import Derived.Test.YtofccgkgjcnfbaaDoorZ
import Derived.Test.YtofccgkgjcnfbaaDoorGW1ListW1GetsW1AuxW1Same
import Derived.Test.YtofccgkgjcnfbaaDoorGHalfLfSingleTold
import Derived.Test.YtofccgkgjcnfbaaDoorTree
set_option linter.unusedSimpArgs false
namespace Go.Proofs.YtofccgkgjcnfbaaDoor.W1
open Go.RowKit Wr Sh
set_option maxRecDepth 100000
set_option linter.unusedVariables false
set_option maxRecDepth 100000 in
set_option maxHeartbeats 4000000 in
theorem rcount_any (A : Option Addr) (b : List UInt8) (c least : Nat) (w : World) (hr : Rd w w.heap.size A (B8 b)) (hc : b.length ≤ c) (hl : b.length ≤ 1048576) (h1 : 1 ≤ least) (h2 : least ≤ 16) :
  Calls Tryd.prog 95 #[.slice A b.length c, .int .i64 least] w fun e w' => e = .returned (.tuple #[.int .i64 ((decLen least b).1 : Nat), .int .i64 ((decLen least b).2.1 : Nat), .int .i64 ((decLen least b).2.2 : Nat)]) ∧ Below w.heap.size w w' := by
 have hcall := rgetInt_any A b c w hr hc (by omega)
 rcases hd : decInt b with ⟨n, u, er⟩
 rw [hd] at hcall
 simp only at hcall
 have HC := Lib.hid hcall
 clear hcall
 by_cases he : er = 0
 ·
  subst he
  obtain ⟨b1, b2, b3, b4, b5⟩ := decInt_back b n u hd
  have hu := enc_le n
  rw [← b3] at hu
  have Hd := Lib.hid hd
  clear hd b2 b3
  obtain ⟨L, hL⟩ : ∃ L, L = b.length := ⟨_, rfl⟩
  rw [← hL] at HC hc hl b1 ⊢
  have HL := Lib.hid hL
  clear hL
  by_cases hn : n < 0
  ·
   have hlen : decLen least b = (0, 0, 2) := by
    unfold decLen
    rw [Hd.out, if_neg (by simp), if_pos hn]
   rw [hlen]
   clear hlen
   go_enter Tryd.func95, Tryd.ntmps95
   go_wp2_with (go_at_call 96; refine HC.out.mono ?_; rintro e w' ⟨rfl, hb⟩)
   go_ret3
   exact ⟨rfl, hb⟩
  ·
   obtain ⟨m, rfl⟩ : ∃ m : Nat, n = (m : Int) := ⟨n.toNat, by omega⟩
   have hn' : ¬ (m : Int) < 0 := by omega
   by_cases hm : (L - u) / least < m
   ·
    have hlen : decLen least b = (0, 0, 3) := by
     unfold decLen
     rw [Hd.out, if_neg (by simp), if_neg (by simp), if_pos (by rw [← HL.out]; exact hm)]
    rw [hlen]
    clear hlen
    by_cases hml : L < m
    ·
     have g1 : (L : Int) < (m : Int) := by omega
     clear hm hml
     go_enter Tryd.func95, Tryd.ntmps95
     go_wp2_with (go_at_call 96; refine HC.out.mono ?_; rintro e w' ⟨rfl, hb⟩)
     go_ret3
     exact ⟨rfl, hb⟩
    ·
     have g1 : ¬ (L : Int) < (m : Int) := by omega
     obtain ⟨P, hP⟩ : ∃ P, P = m * least := ⟨_, rfl⟩
     have hPle : P ≤ 1048576 * 16 := by rw [hP]; exact Nat.mul_le_mul (by omega) h2
     have hPl : L - u < P := by rw [hP]; exact (Nat.div_lt_iff_lt_mul (by omega)).1 hm
     have g2 : IntKind.i64.wrap ((m : Int) * (least : Int)) = (P : Int) := by rw [← Int.natCast_mul, ← hP]; exact IntWalk.i64_in _ (by omega)
     have g3 : IntKind.i64.wrap ((L : Int) - (u : Int)) = (L : Int) - (u : Int) := IntWalk.i64_in _ (by omega)
     have g4 : (L : Int) - (u : Int) < (P : Int) := by omega
     clear hm hml hP
     go_enter Tryd.func95, Tryd.ntmps95
     go_wp2_with (go_at_call 96; refine HC.out.mono ?_; rintro e w' ⟨rfl, hb⟩)
     go_ret3
     exact ⟨rfl, hb⟩
   ·
    have hlen : decLen least b = (m, u, 0) := by
     unfold decLen
     rw [Hd.out, if_neg (by simp), if_neg (by simp), if_neg (by rw [← HL.out]; exact hm)]
     rfl
    rw [hlen]
    clear hlen
    have hq2 : (L - u) / least ≤ L := Nat.le_trans (Nat.div_le_self _ _) (Nat.sub_le _ _)
    have g1 : ¬ (L : Int) < (m : Int) := by omega
    obtain ⟨P, hP⟩ : ∃ P, P = m * least := ⟨_, rfl⟩
    have hPl : P ≤ L - u := by rw [hP]; exact (Nat.le_div_iff_mul_le (by omega)).1 (by omega)
    have g2 : IntKind.i64.wrap ((m : Int) * (least : Int)) = (P : Int) := by rw [← Int.natCast_mul, ← hP]; exact IntWalk.i64_in _ (by omega)
    have g3 : IntKind.i64.wrap ((L : Int) - (u : Int)) = (L : Int) - (u : Int) := IntWalk.i64_in _ (by omega)
    have g4 : ¬ (L : Int) - (u : Int) < (P : Int) := by omega
    clear hm hP
    go_enter Tryd.func95, Tryd.ntmps95
    go_wp2_with (go_at_call 96; refine HC.out.mono ?_; rintro e w' ⟨rfl, hb⟩)
    go_ret3
    exact ⟨rfl, hb⟩
 ·
  have hb := errB er he
  have hlen : decLen least b = (0, 0, er) := by
   unfold decLen
   rw [hd, if_pos he]
  rw [hlen]
  clear hlen hd
  go_enter Tryd.func95, Tryd.ntmps95
  go_wp2_with (go_at_call 96; refine HC.out.mono ?_; rintro e w' ⟨rfl, hb⟩)
  go_ret3
  exact ⟨rfl, hb⟩
set_option maxRecDepth 100000 in
set_option maxHeartbeats 4000000 in
theorem rgetBytes_any (A : Option Addr) (b : List UInt8) (c : Nat) (w : World) (hr : Rd w w.heap.size A (B8 b)) (hc : b.length ≤ c) (hl : b.length ≤ 1048576) :
  Calls Tryd.prog 97 #[.slice A b.length c] w fun e w' => e = .returned (.tuple #[.string ⟨(decStr b).1.toArray⟩, .int .i64 ((decStr b).2.1 : Nat), .int .i64 ((decStr b).2.2 : Nat)]) ∧ Below w.heap.size w w' := by
 have hcall := rcount_any A b c 1 w hr hc hl (by omega) (by omega)
 rcases hd : decLen 1 b with ⟨n, u, er⟩
 rw [hd] at hcall
 simp only at hcall
 have HC := Lib.hid hcall
 clear hcall
 by_cases he : er = 0
 ·
  subst he
  obtain ⟨b1, b2, b3, b4, b5⟩ := decLen_ok hd
  have hu := enc_le (n : Int)
  rw [← b3] at hu
  simp only [Nat.div_one] at b4
  have hdec : decStr b = ((b.drop u).take n, u + n, 0) := by
   unfold decStr
   rw [hd, if_neg (by simp)]
  rw [hdec]
  obtain ⟨S, hS⟩ : ∃ S, S = (b.drop u).take n := ⟨_, rfl⟩
  rw [← hS]
  have HCV := Lib.hid (show ∀ W, Below w.heap.size w W → ∃ a : Addr, (Instr.sliceAt 39 (.slice A b.length c) (some (.int .i64 (u : Int))) (some (.int .i64 ((u : Int) + (n : Int)))) none).run Tryd.prog W = .ok (.slice (some a) n (c - u)) W ∧ (convert 39 9 (.slice (some a) n (c - u))).run Tryd.prog W = .ok (.string ⟨S.toArray⟩) W from fun W hW => by
   obtain ⟨a, hsl, _, hcl⟩ := cut_bytes A b c u (u + n) W W.heap.size ((hr.below hW).more hW.size) (by omega) (by omega) (by omega) hc
   have hcv := run_convert_bytes_back W 39 9 5 a (c - u) ((b.drop u).take (u + n - u)) Tryd.underlying39 Tryd.underlying5 Tryd.underlying9 hcl
   have hlen : ((b.drop u).take (u + n - u)).length = u + n - u := by simp; omega
   rw [hlen] at hcv
   rw [Nat.add_sub_cancel_left] at hcv hsl
   rw [show ((u + n : Nat) : Int) = (u : Int) + (n : Int) from by omega] at hsl
   rw [← hS] at hcv
   exact ⟨a, hsl W, hcv⟩)
  have hw : IntKind.i64.wrap ((u : Int) + (n : Int)) = (u : Int) + (n : Int) := IntWalk.i64_in _ (by omega)
  clear hd b2 b3 hdec hS hr
  obtain ⟨L, hL⟩ : ∃ L, L = b.length := ⟨_, rfl⟩
  rw [← hL] at HC HCV hc hl b1 b4 ⊢
  clear hL
  go_enter Tryd.func97, Tryd.ntmps97
  go_wp2_with (go_at_call 95; refine HC.out.mono ?_; rintro e w' ⟨rfl, hb⟩; obtain ⟨ad, hsl, hcv⟩ := HCV.out w' hb)
  go_ret3
  exact ⟨rfl, hb⟩
 ·
  have hb := errB er he
  have hlen : decStr b = ([], 0, er) := by
   unfold decStr
   rw [hd, if_pos he]
  rw [hlen]
  clear hlen hd
  go_enter Tryd.func97, Tryd.ntmps97
  go_wp2_with (go_at_call 95; refine HC.out.mono ?_; rintro e w' ⟨rfl, hb⟩)
  go_ret3
  exact ⟨rfl, hb⟩
end Go.Proofs.YtofccgkgjcnfbaaDoor.W1
namespace Go.Proofs.YtofccgkgjcnfbaaDoor.W1
open Go.RowKit Wr Sh
set_option maxRecDepth 100000
set_option linter.unusedVariables false
theorem B8_drop (b : List UInt8) (k : Nat) : B8 (b.drop k) = (B8 b).drop k := by simp [B8]
theorem I64_one (l : List Int) : ∀ u ∈ I64 l, u.oneCell' = true := by
 intro u hu; obtain ⟨_, _, rfl⟩ := List.mem_map.1 hu; rfl
theorem Sb_one (l : List (List UInt8)) : ∀ u ∈ Sb l, u.oneCell' = true := by
 intro u hu; obtain ⟨_, _, rfl⟩ := List.mem_map.1 hu; rfl
set_option maxRecDepth 100000 in
set_option maxHeartbeats 4000000 in
theorem rgetInts_any (A : Option Addr) (b : List UInt8) (c : Nat) (w : World) (hr : Rd w w.heap.size A (B8 b)) (hc : b.length ≤ c) (hl : b.length ≤ 1048576) :
  Calls Tryd.prog 71 #[.slice A b.length c] w fun e w' => ∃ v', e = .returned (.tuple #[v', .int .i64 ((decInts b).2.1 : Nat), .int .i64 ((decInts b).2.2 : Nat)]) ∧
   w'.ownsRow w.heap.size 3 1 v' (decInts b).1.length (I64 (decInts b).1) ∧ Below w.heap.size w w' := by
 obtain ⟨i0, hi0, hz0, hz1, hz2⟩ := info_parts Tryd.info3
 have hcall := rcount_any A b c 1 w hr hc hl (by omega) (by omega)
 have hdef : decInts b = if (decLen 1 b).2.2 ≠ 0 then ([], 0, (decLen 1 b).2.2) else decGo decInt b (decLen 1 b).1 (decLen 1 b).2.1 [] := rfl
 rcases hd : decLen 1 b with ⟨n, u, er⟩
 rw [hd] at hcall hdef
 simp only at hcall
 have HC := Lh hcall
 clear hcall
 by_cases he : er = 0
 ·
  subst he
  obtain ⟨b1, b2, b3, b4, b5⟩ := decLen_ok hd
  simp only [ne_eq, not_true_eq_false, if_false] at hdef
  obtain ⟨R, hR⟩ : ∃ R, R = decInts b := ⟨_, rfl⟩
  rw [← hR]
  have HR := Lh (show decGo decInt b n u [] = R by rw [hR, hdef])
  have hn : n ≤ b.length := Nat.le_trans b4 (Nat.le_trans (Nat.div_le_self _ _) (Nat.sub_le _ _))
  obtain ⟨L, hL⟩ : ∃ L, L = b.length := ⟨_, rfl⟩
  have HGET := Lh (show ∀ (W : World) (a : Nat), a ≤ L → Below w.heap.size w W → Calls Tryd.prog 96 #[.slice (if c = a then A else A.map (·.add a)) (L - a) (c - a)] W fun e w' => e = .returned (.tuple #[.int .i64 (decInt (b.drop a)).1, .int .i64 ((decInt (b.drop a)).2.1 : Nat), .int .i64 ((decInt (b.drop a)).2.2 : Nat)]) ∧ Below W.heap.size W w' from fun W a ha hW => by
   have h1 := ((hr.cut a c (by rw [B8_len, ← hL]; exact ha) (by rw [B8_len]; exact hc)).below hW).more hW.size
   rw [← B8_drop] at h1
   have h2 := rgetInt_any _ (b.drop a) (c - a) W h1 (by rw [List.length_drop]; omega) (by rw [List.length_drop]; omega)
   rw [List.length_drop, ← hL] at h2
   exact h2)
  rw [← hL] at HC hc hl b1 hn ⊢
  have HL := Lh hL
  clear hd b2 b3 b4 hdef hL hR hr
  go_enter Tryd.func71, Tryd.ntmps71
  go_wp2_with (go_at_call 95; refine HC.out.mono ?_; rintro e w1 ⟨rfl, hb1⟩)
  have HB1 := Lh hb1
  clear hb1
  go_loopw [6, 8, 9] (fun s6 s8 s9 wr => ∃ (k a : Nat) (acc : List Int), k ≤ n ∧ s9 = .int .i64 (k : Int) ∧ s6 = .int .i64 (a : Int) ∧ a ≤ L ∧ Hid (acc.length = k) ∧ Hid (decGo decInt b (n - k) a acc = R) ∧ Hid (wr.ownsRow w.heap.size 3 1 s8 k (I64 acc)) ∧ Hid (Below w.heap.size w wr)) (fun _ _ s9 _ => n - (intOf s9).toNat)
  case atStart => exact ⟨0, u, [], Nat.zero_le _, rfl, rfl, b1, Lh rfl, HR, Lh (World.ownsRow_nil _ _ _ _), HB1⟩
  case round =>
   clear HB1
   rename World => wr
   obtain ⟨k, a, acc, hk, rfl, rfl, ha, HA, HGO, HO, HB⟩ := hrel
   by_cases hlt : k < n
   ·
    have hlt' : (k : Int) < (n : Int) := by omega
    have hsl := slice_from A L c a ha
    have hs : R = if (decInt (b.drop a)).2.2 ≠ 0 then ([], 0, (decInt (b.drop a)).2.2) else decGo decInt b (n - (k + 1)) (a + (decInt (b.drop a)).2.1) (acc ++ [(decInt (b.drop a)).1]) := by
     rw [← HGO.out, show n - k = (n - (k + 1)) + 1 by omega]; rfl
    have hle := decInt_le (b.drop a)
    have hget := HGET.out wr a ha HB.out
    obtain ⟨A2, hA2⟩ : ∃ x, x = (if c = a then A else A.map (·.add a)) := ⟨_, rfl⟩
    rw [← hA2] at hsl hget
    clear hA2
    rcases hd2 : decInt (b.drop a) with ⟨x, m, er⟩
    rw [hd2] at hs hle hget
    simp only [List.length_drop] at hs hle hget
    rw [← HL.out] at hle
    have HG2 := Lh hget
    clear hget hd2
    by_cases he : er = 0
    ·
     subst he
     simp only [ne_eq, not_true_eq_false, if_false] at hs
     have HS := Lh hs
     have hw : IntKind.i64.wrap ((a : Int) + (m : Int)) = (a : Int) + (m : Int) := IntWalk.i64_in _ (by omega)
     clear hs
     go_wp2_with (first
      | (go_at_call 96; refine HG2.out.mono ?_; rintro e w2 ⟨rfl, hb2⟩; have HB2 := Lh (HB.out.trans (hb2.mono HB.out.size)); have HO2 := Lh (own_below HO.out hb2); clear hb2)
      | (at_builtin; refine wpList_append_own _ rfl (.tmp 38) (.tmp 40) 22 rfl w.heap.size 3 i0 (.int .i64 0) 1 8 Tryd.underlying22 hi0 hz0 hz1 hz2 rfl (by decide) u8 k (I64 acc) rfl (HO2.out.alloc _) ⟨w2.heap.size, 0, none⟩ 1 1 (I64 [x]) rfl rfl ?c1 (I64_one _) (by unfold maxLen; omega) (by omega) (by have := HB2.out.size; simp; omega) ?_))
     case c1 =>
      intro j y hy
      rw [Addr.add_lit, Nat.zero_add, cell_of_row _ _ _ _ _ _ (heap_alloc_new w2 _)]
      simpa [I64] using hy
     intro v3 w3 ho3 hg3 _
     have HB3 := Lh ((HB2.out.alloc HB2.out.size (.cells (I64 [x]).toArray 3)).grown hg3 (HB2.out.alloc HB2.out.size _).size (fun q hq => (HO2.out.lt q hq).1))
     have HO3 := Lh (show w3.ownsRow w.heap.size 3 1 v3 (k + 1) (I64 (acc ++ [x])) by
      have e : I64 (acc ++ [x]) = I64 acc ++ I64 [x] := by simp [I64]
      rw [e]; exact ho3)
     clear ho3 hg3
     go_wp2_with fail
     go_roundw
     case rel => exact ⟨k + 1, a + m, acc ++ [x], hlt, by go_num, by rw [show ((a + m : Nat) : Int) = (a : Int) + (m : Int) by omega], by omega, Lh (by rw [List.length_append, HA.out]; rfl), Lh HS.out.symm, HO3, HB3⟩
     case measure => simp only [intOf]; omega
    ·
     have hb := errB er he
     rw [if_pos he] at hs
     subst hs
     go_wp2_with (go_at_call 96; refine HG2.out.mono ?_; rintro e w2 ⟨rfl, hb2⟩; have HB2 := Lh (HB.out.trans (hb2.mono HB.out.size)); clear hb2)
     go_ret3
     exact ⟨_, rfl, World.ownsRow_nil _ _ _ _, HB2.out⟩
   ·
    obtain rfl : k = n := by omega
    have hs : R = (acc, a, 0) := by rw [← HGO.out, Nat.sub_self]; rfl
    subst hs
    go_wp2_with fail
    go_ret3
    exact ⟨_, rfl, by rw [HA.out]; exact HO.out, HB.out⟩
 ·
  have hb := errB er he
  rw [if_pos he] at hdef
  rw [hdef]
  clear hdef hd
  go_enter Tryd.func71, Tryd.ntmps71
  go_wp2_with (go_at_call 95; refine HC.out.mono ?_; rintro e w' ⟨rfl, hb'⟩)
  go_ret3
  exact ⟨_, rfl, World.ownsRow_nil _ _ _ _, hb'⟩
set_option maxRecDepth 100000 in
set_option maxHeartbeats 4000000 in
theorem rgetStrings_any (A : Option Addr) (b : List UInt8) (c : Nat) (w : World) (hr : Rd w w.heap.size A (B8 b)) (hc : b.length ≤ c) (hl : b.length ≤ 1048576) :
  Calls Tryd.prog 72 #[.slice A b.length c] w fun e w' => ∃ v', e = .returned (.tuple #[v', .int .i64 ((decStrs b).2.1 : Nat), .int .i64 ((decStrs b).2.2 : Nat)]) ∧
   w'.ownsRow w.heap.size 9 1 v' (decStrs b).1.length (Sb (decStrs b).1) ∧ Below w.heap.size w w' := by
 obtain ⟨i0, hi0, hz0, hz1, hz2⟩ := info_parts Tryd.info9
 have hcall := rcount_any A b c 1 w hr hc hl (by omega) (by omega)
 have hdef : decStrs b = if (decLen 1 b).2.2 ≠ 0 then ([], 0, (decLen 1 b).2.2) else decGo decStr b (decLen 1 b).1 (decLen 1 b).2.1 [] := rfl
 rcases hd : decLen 1 b with ⟨n, u, er⟩
 rw [hd] at hcall hdef
 simp only at hcall
 have HC := Lh hcall
 clear hcall
 by_cases he : er = 0
 ·
  subst he
  obtain ⟨b1, b2, b3, b4, b5⟩ := decLen_ok hd
  simp only [ne_eq, not_true_eq_false, if_false] at hdef
  obtain ⟨R, hR⟩ : ∃ R, R = decStrs b := ⟨_, rfl⟩
  rw [← hR]
  have HR := Lh (show decGo decStr b n u [] = R by rw [hR, hdef])
  have hn : n ≤ b.length := Nat.le_trans b4 (Nat.le_trans (Nat.div_le_self _ _) (Nat.sub_le _ _))
  obtain ⟨L, hL⟩ : ∃ L, L = b.length := ⟨_, rfl⟩
  have HGET := Lh (show ∀ (W : World) (a : Nat), a ≤ L → Below w.heap.size w W → Calls Tryd.prog 97 #[.slice (if c = a then A else A.map (·.add a)) (L - a) (c - a)] W fun e w' => e = .returned (.tuple #[.string ⟨(decStr (b.drop a)).1.toArray⟩, .int .i64 ((decStr (b.drop a)).2.1 : Nat), .int .i64 ((decStr (b.drop a)).2.2 : Nat)]) ∧ Below W.heap.size W w' from fun W a ha hW => by
   have h1 := ((hr.cut a c (by rw [B8_len, ← hL]; exact ha) (by rw [B8_len]; exact hc)).below hW).more hW.size
   rw [← B8_drop] at h1
   have h2 := rgetBytes_any _ (b.drop a) (c - a) W h1 (by rw [List.length_drop]; omega) (by rw [List.length_drop]; omega)
   rw [List.length_drop, ← hL] at h2
   exact h2)
  rw [← hL] at HC hc hl b1 hn ⊢
  have HL := Lh hL
  clear hd b2 b3 b4 hdef hL hR hr
  go_enter Tryd.func72, Tryd.ntmps72
  go_wp2_with (go_at_call 95; refine HC.out.mono ?_; rintro e w1 ⟨rfl, hb1⟩)
  have HB1 := Lh hb1
  clear hb1
  go_loopw [6, 8, 9] (fun s6 s8 s9 wr => ∃ (k a : Nat) (acc : List (List UInt8)), k ≤ n ∧ s9 = .int .i64 (k : Int) ∧ s6 = .int .i64 (a : Int) ∧ a ≤ L ∧ Hid (acc.length = k) ∧ Hid (decGo decStr b (n - k) a acc = R) ∧ Hid (wr.ownsRow w.heap.size 9 1 s8 k (Sb acc)) ∧ Hid (Below w.heap.size w wr)) (fun _ _ s9 _ => n - (intOf s9).toNat)
  case atStart => exact ⟨0, u, [], Nat.zero_le _, rfl, rfl, b1, Lh rfl, HR, Lh (World.ownsRow_nil _ _ _ _), HB1⟩
  case round =>
   clear HB1
   rename World => wr
   obtain ⟨k, a, acc, hk, rfl, rfl, ha, HA, HGO, HO, HB⟩ := hrel
   by_cases hlt : k < n
   ·
    have hlt' : (k : Int) < (n : Int) := by omega
    have hsl := slice_from A L c a ha
    have hs : R = if (decStr (b.drop a)).2.2 ≠ 0 then ([], 0, (decStr (b.drop a)).2.2) else decGo decStr b (n - (k + 1)) (a + (decStr (b.drop a)).2.1) (acc ++ [(decStr (b.drop a)).1]) := by
     rw [← HGO.out, show n - k = (n - (k + 1)) + 1 by omega]; rfl
    have hle := decStr_le (b.drop a)
    have hget := HGET.out wr a ha HB.out
    obtain ⟨A2, hA2⟩ : ∃ x, x = (if c = a then A else A.map (·.add a)) := ⟨_, rfl⟩
    rw [← hA2] at hsl hget
    clear hA2
    rcases hd2 : decStr (b.drop a) with ⟨x, m, er⟩
    rw [hd2] at hs hle hget
    simp only [List.length_drop] at hs hle hget
    rw [← HL.out] at hle
    have HG2 := Lh hget
    clear hget hd2
    by_cases he : er = 0
    ·
     subst he
     simp only [ne_eq, not_true_eq_false, if_false] at hs
     have HS := Lh hs
     have hw : IntKind.i64.wrap ((a : Int) + (m : Int)) = (a : Int) + (m : Int) := IntWalk.i64_in _ (by omega)
     clear hs
     go_wp2_with (first
      | (go_at_call 97; refine HG2.out.mono ?_; rintro e w2 ⟨rfl, hb2⟩; have HB2 := Lh (HB.out.trans (hb2.mono HB.out.size)); have HO2 := Lh (own_below HO.out hb2); clear hb2)
      | (at_builtin; refine wpList_append_own _ rfl (.tmp 38) (.tmp 40) 47 rfl w.heap.size 9 i0 (.string ⟨#[]⟩) 1 16 Tryd.underlying47 hi0 hz0 hz1 hz2 rfl (by decide) u8 k (Sb acc) rfl (HO2.out.alloc _) ⟨w2.heap.size, 0, none⟩ 1 1 (Sb [x]) rfl rfl ?c1 (Sb_one _) (by unfold maxLen; omega) (by omega) (by have := HB2.out.size; simp; omega) ?_))
     case c1 =>
      intro j y hy
      rw [Addr.add_lit, Nat.zero_add, cell_of_row _ _ _ _ _ _ (heap_alloc_new w2 _)]
      simpa [Sb] using hy
     intro v3 w3 ho3 hg3 _
     have HB3 := Lh ((HB2.out.alloc HB2.out.size (.cells (Sb [x]).toArray 9)).grown hg3 (HB2.out.alloc HB2.out.size _).size (fun q hq => (HO2.out.lt q hq).1))
     have HO3 := Lh (show w3.ownsRow w.heap.size 9 1 v3 (k + 1) (Sb (acc ++ [x])) by
      have e : Sb (acc ++ [x]) = Sb acc ++ Sb [x] := by simp [Sb]
      rw [e]; exact ho3)
     clear ho3 hg3
     go_wp2_with fail
     go_roundw
     case rel => exact ⟨k + 1, a + m, acc ++ [x], hlt, by go_num, by rw [show ((a + m : Nat) : Int) = (a : Int) + (m : Int) by omega], by omega, Lh (by rw [List.length_append, HA.out]; rfl), Lh HS.out.symm, HO3, HB3⟩
     case measure => simp only [intOf]; omega
    ·
     have hb := errB er he
     rw [if_pos he] at hs
     subst hs
     go_wp2_with (go_at_call 97; refine HG2.out.mono ?_; rintro e w2 ⟨rfl, hb2⟩; have HB2 := Lh (HB.out.trans (hb2.mono HB.out.size)); clear hb2)
     go_ret3
     exact ⟨_, rfl, World.ownsRow_nil _ _ _ _, HB2.out⟩
   ·
    obtain rfl : k = n := by omega
    have hs : R = (acc, a, 0) := by rw [← HGO.out, Nat.sub_self]; rfl
    subst hs
    go_wp2_with fail
    go_ret3
    exact ⟨_, rfl, by rw [HA.out]; exact HO.out, HB.out⟩
 ·
  have hb := errB er he
  rw [if_pos he] at hdef
  rw [hdef]
  clear hdef hd
  go_enter Tryd.func72, Tryd.ntmps72
  go_wp2_with (go_at_call 95; refine HC.out.mono ?_; rintro e w' ⟨rfl, hb'⟩)
  go_ret3
  exact ⟨_, rfl, World.ownsRow_nil _ _ _ _, hb'⟩
end Go.Proofs.YtofccgkgjcnfbaaDoor.W1
namespace Go.Proofs.YtofccgkgjcnfbaaDoor.W1
open Go.RowKit Wr Sh
set_option maxRecDepth 100000
set_option linter.unusedVariables false
def outd (l : List UInt8) (i : Nat) : List UInt8 := l.take i ++ List.replicate (16 - i) 0
theorem outd_at (l : List UInt8) (i : Nat) (hl : l.length = 16) (hi : i < 16) : (B8 (outd l i))[i]? = some (.int .u8 0) := by
 unfold outd
 rw [B8_append, List.getElem?_append_right (by rw [B8_len, List.length_take]; omega), B8_len, List.length_take]
 rw [show i - min i l.length = 0 by omega, show 16 - i = (16 - (i + 1)) + 1 by omega, List.replicate_succ]; rfl
theorem outd_set (l : List UInt8) (i : Nat) (c : UInt8) (hl : l.length = 16) (hi : i < 16) (hc : l[i]? = some c) : (B8 (outd l i)).set i (.int .u8 (c.toNat : Int)) = B8 (outd l (i + 1)) := by
 have hil : i < l.length := by omega
 have hci : l[i] = c := by rw [List.getElem?_eq_getElem hil] at hc; exact Option.some.inj hc
 unfold outd
 rw [show 16 - i = (16 - (i + 1)) + 1 by omega, List.replicate_succ, List.take_succ_eq_append_getElem hil, hci, B8_append, B8_append, B8_append, List.set_append_right _ _ (by rw [B8_len, List.length_take]; omega), B8_len, List.length_take,
  show i - min i l.length = 0 by omega]
 simp [B8]
theorem outd_end (l : List UInt8) (hl : l.length = 16) : outd l 16 = l := by unfold outd; rw [List.take_of_length_le (by omega)]; simp
theorem build16 (D : List UInt8) (h : D.length = 16) : ∀ W : World, (Instr.buildSlice 48 1 #[(0, .agg (B8 D).toArray)]).run Tryd.prog W = .ok (.slice (some ⟨W.heap.size, 0, none⟩) 1 1) (W.alloc (.cells (B8 D).toArray 29)) := by
 match D, h with
 | [d0, d1, d2, d3, d4, d5, d6, d7, d8, d9, d10, d11, d12, d13, d14, d15], _ => intro W; kernel_rfl
theorem wpList_build16 {w : World} {ops : Array Oper} {rest : List Oper} {o : Oper} {a : Act} {Q : Exit → Act → World → Prop} (hgd : o.guard = none) (x : Operand) (ho : o.op = .buildSlice 48 1 #[(0, x)]) (D : List UInt8) (hx : a.eval x = .agg (B8 D).toArray) (h16 : D.length = 16)
  (h : wpList Tryd.prog ops Q rest (a.put o.dst (.slice (some ⟨w.heap.size, 0, none⟩) 1 1)) (w.alloc (.cells (B8 D).toArray 29))) : wpList Tryd.prog ops Q (o :: rest) a w :=
 wpList_plain hgd fun K hK => by
  have hb := build16 D h16 w
  unfold Oper.wp execOp
  simp only [ho, List.map_toArray, List.map_cons, List.map_nil, hx, Sem.run_bind, hb, Result.andThen_ok, Sem.run_pure]
  exact hK _ _ h
theorem Dg_more (acc : List (List UInt8)) (d : List UInt8) : Dg (acc ++ [d]) = Dg acc ++ B8 d := by simp [Dg, B8]
set_option maxRecDepth 100000 in
set_option maxHeartbeats 4000000 in
theorem rgetDigests_any (A : Option Addr) (b : List UInt8) (c : Nat) (w : World) (hr : Rd w w.heap.size A (B8 b)) (hc : b.length ≤ c) (hl : b.length ≤ 1048576) :
  Calls Tryd.prog 73 #[.slice A b.length c] w fun e w' => ∃ v', e = .returned (.tuple #[v', .int .i64 ((decDigs b).2.1 : Nat), .int .i64 ((decDigs b).2.2 : Nat)]) ∧
   w'.ownsRow w.heap.size 29 16 v' (decDigs b).1.length (Dg (decDigs b).1) ∧ Below w.heap.size w w' := by
 obtain ⟨i0, hi0, hz0, hz1, hz2⟩ := info_parts Tryd.info29
 have hcall := rcount_any A b c 16 w hr hc hl (by omega) (by omega)
 have hdef : decDigs b = if (decLen 16 b).2.2 ≠ 0 then ([], 0, (decLen 16 b).2.2) else decGo decDig b (decLen 16 b).1 (decLen 16 b).2.1 [] := rfl
 rcases hd : decLen 16 b with ⟨n, u, er⟩
 rw [hd] at hcall hdef
 simp only at hcall
 have HC := Lh hcall
 clear hcall
 by_cases he : er = 0
 ·
  subst he
  obtain ⟨b1, b2, b3, b4, b5⟩ := decLen_ok hd
  simp only [ne_eq, not_true_eq_false, if_false] at hdef
  obtain ⟨R, hR⟩ : ∃ R, R = decDigs b := ⟨_, rfl⟩
  rw [← hR]
  have HR := Lh (show decGo decDig b n u [] = R by rw [hR, hdef])
  obtain ⟨L, hL⟩ : ∃ L, L = b.length := ⟨_, rfl⟩
  rw [← hL] at b4
  have hn : u + 16 * n ≤ L := by have := Nat.div_mul_le_self (L - u) 16; omega
  have HCELL := Lh (show ∀ (W : World) (j : Nat) (x : UInt8), Below w.heap.size w W → b[j]? = some x → ∃ g o, A = some ⟨g, o, none⟩ ∧ W.cell? ⟨g, o + j, none⟩ = some (.int .u8 (x.toNat : Int)) from fun W j x hW hx => by
   have hj := (List.getElem?_eq_some_iff.1 hx).1
   obtain ⟨g, o, hA, hg, hcell⟩ := hr (by intro e; have := congrArg List.length e; rw [B8_len] at this; simp at this; subst this; simp at hj)
   refine ⟨g, o, hA, ?_⟩
   rw [hW.cell (show (⟨g, o + j, none⟩ : Addr).block < _ from hg)]
   refine hcell j _ ?_
   rw [B8_get _ _ hj]
   rw [List.getElem?_eq_getElem hj] at hx
   rw [Option.some.inj hx])
  rw [← hL] at HC hc hl b1 ⊢
  have HL := Lh hL
  clear hd b2 b3 b4 hdef hL hR hr
  go_enter Tryd.func73, Tryd.ntmps73
  go_wp2_with (go_at_call 95; refine HC.out.mono ?_; rintro e w1 ⟨rfl, hb1⟩)
  have HB1 := Lh hb1
  clear hb1
  go_loopw [6, 8, 9] (fun s6 s8 s9 wr => ∃ (k : Nat) (acc : List (List UInt8)), k ≤ n ∧ s9 = .int .i64 (k : Int) ∧ s6 = .int .i64 ((u + 16 * k : Nat) : Int) ∧ Hid (acc.length = k) ∧ Hid (decGo decDig b (n - k) (u + 16 * k) acc = R) ∧ Hid (wr.ownsRow w.heap.size 29 16 s8 k (Dg acc)) ∧ Hid (Below w.heap.size w wr)) (fun _ _ s9 _ => n - (intOf s9).toNat)
  case atStart => exact ⟨0, [], Nat.zero_le _, rfl, rfl, Lh rfl, HR, Lh (World.ownsRow_nil _ _ _ _), HB1⟩
  case round =>
   clear HB1
   rename World => wr
   obtain ⟨k, acc, hk, rfl, rfl, HA, HGO, HO, HB⟩ := hrel
   by_cases hlt : k < n
   ·
    have hlt' : (k : Int) < (n : Int) := by omega
    obtain ⟨a, ha⟩ : ∃ a, a = u + 16 * k := ⟨_, rfl⟩
    have ha16 : a + 16 ≤ L := by omega
    obtain ⟨D, hD⟩ : ∃ D, D = (b.drop a).take 16 := ⟨_, rfl⟩
    have hDl : D.length = 16 := by rw [hD, List.length_take, List.length_drop, ← HL.out]; omega
    have hs : R = decGo decDig b (n - (k + 1)) (a + 16) (acc ++ [D]) := by
     have h1 := HGO.out
     rw [← ha, show n - k = (n - (k + 1)) + 1 by omega] at h1
     rw [← h1]
     have h2 : decDig (b.drop a) = (D, 16, 0) := by
      unfold decDig
      rw [if_neg (by rw [List.length_drop, ← HL.out]; omega), hD]
     show (if (decDig (b.drop a)).2.2 ≠ 0 then _ else _) = _
     rw [h2]; rfl
    rw [← ha]
    have HS := Lh hs
    have HDL := Lh hDl
    have HD := Lh hD
    have HAU := Lh ha
    have hwa : IntKind.i64.wrap ((a : Int) + 16) = (a : Int) + 16 := IntWalk.i64_in _ (by omega)
    clear hs hD hDl ha
    go_wp2_with fail
    generalize hW : World.alloc _ _ = W1
    have e0 : Blk W1 wr.heap.size 29 (B8 (outd D 0)) := by rw [← hW]; exact Blk.new wr 29 (B8 (List.replicate 16 0))
    have HBW : Hid (Below wr.heap.size wr W1) := by rw [← hW]; exact Lh ((Below.refl _ _).alloc (Nat.le_refl _) _)
    have hMge : w.heap.size ≤ wr.heap.size := HB.out.size
    obtain ⟨M, hM⟩ : ∃ M, M = wr.heap.size := ⟨_, rfl⟩
    rw [← hM] at e0 hMge ⊢
    have HM := Lh hM
    clear hW hM
    go_loopw [11] (fun s11 wy => ∃ i : Nat, i ≤ 16 ∧ s11 = .int .i64 i ∧ Blk wy M 29 (B8 (outd D i)) ∧ Hid (Below wr.heap.size wr wy)) (fun s11 _ => 16 - (intOf s11).toNat)
    case atStart => exact ⟨0, by omega, rfl, e0, HBW⟩
    case round =>
     clear e0 HBW
     rename World => wy
     obtain ⟨i, hi, rfl, e0, HBW⟩ := hrel
     by_cases hi16 : i < 16
     ·
      have hiD : i < D.length := by have := HDL.out; omega
      obtain ⟨x, hx⟩ : ∃ x, x = D[i] := ⟨_, rfl⟩
      obtain ⟨q, hq⟩ : ∃ q, q = a + i := ⟨_, rfl⟩
      have hbq : b[q]? = some x := by
       have h1 : D[i]? = some x := by rw [List.getElem?_eq_getElem hiD, hx]
       rw [HD.out, List.getElem?_take_of_lt hi16, List.getElem?_drop] at h1
       rw [hq]; exact h1
      obtain ⟨g, o, rfl, hcx⟩ := HCELL.out wy q x (HB.out.trans (HBW.out.mono HB.out.size)) hbq
      have co : wy.cell? ⟨M, i, none⟩ = some (.int .u8 0) := (e0.cell i).trans (outd_at D i HDL.out hi16)
      have fo := e0.frozen i
      have hwq : IntKind.i64.wrap ((a : Int) + (i : Int)) = (q : Int) := by rw [IntWalk.i64_in _ (by omega)]; omega
      have hqL : (q : Int) < (L : Int) := by omega
      have hi16' : (i : Int) < 16 := by omega
      have Hset := Lh (outd_set D i x HDL.out hi16 (by rw [List.getElem?_eq_getElem hiD, hx]))
      clear hx hq hbq hiD
      go_wp2_with fail
      go_roundw
      case rel =>
       refine ⟨i + 1, by omega, by go_num, ?_, Lh (HBW.out.setCell (show wr.heap.size ≤ M by rw [HM.out]; exact Nat.le_refl _) _)⟩
       have := e0.put i (.int .u8 (x.toNat : Int))
       rw [Hset.out] at this
       exact this
      case measure => simp only [intOf]; omega
     ·
      obtain rfl : i = 16 := by omega
      rw [outd_end D HDL.out] at e0
      have E0 := Lh (show ∀ j v, (B8 D)[j]? = some v → wy.cell? ((⟨M, 0, none⟩ : Addr).add j) = some v from fun j v hv => by rw [Addr.add_lit, Nat.zero_add, e0.cell, hv])
      have HO2 := Lh (own_below HO.out HBW.out)
      have HB2 := Lh (HB.out.trans (HBW.out.mono HB.out.size))
      clear e0
      go_wp2_with (first
       | (with_reducible refine wpList_load_at rfl 29 (.tmp 10) rfl ⟨M, 0, none⟩ rfl (B8 D) (.array 16 5) E0.out Tryd.underlying29 rfl (size57 _ HDL.out) ?_)
       | (with_reducible refine wpList_build16 rfl (.tmp 39) rfl D rfl HDL.out ?_)
       | (at_builtin; refine wpList_append_own _ rfl (.tmp 38) (.tmp 40) 48 rfl w.heap.size 29 i0 _ 16 16 Tryd.underlying48 hi0 hz0 hz1 hz2 rfl (by decide) u8 k (Dg acc) rfl (HO2.out.alloc _) ⟨wy.heap.size, 0, none⟩ 1 1 (B8 D) rfl (by rw [B8_len, HDL.out]) ?c1 (B8_one _) (by unfold maxLen; omega) (by omega) (by have := HB2.out.size; simp; omega) ?_))
      case c1 =>
       intro j y hy
       rw [Addr.add_lit, Nat.zero_add, cell_of_row _ _ _ _ _ _ (heap_alloc_new wy _)]
       simpa using hy
      intro v3 w3 ho3 hg3 _
      have HB3 := Lh ((HB2.out.alloc HB2.out.size (.cells (B8 D).toArray 29)).grown hg3 (HB2.out.alloc HB2.out.size _).size (fun q hq => (HO2.out.lt q hq).1))
      have HO3 := Lh (show w3.ownsRow w.heap.size 29 16 v3 (k + 1) (Dg (acc ++ [D])) by rw [Dg_more]; exact ho3)
      clear ho3 hg3
      go_wp2_with fail
      go_roundw
      case rel =>
       have h16 := HAU.out
       have hv : (Value.int IntKind.i64 ((a : Int) + 16)) = .int .i64 ((u + 16 * (k + 1) : Nat) : Int) := by
        rw [show ((u + 16 * (k + 1) : Nat) : Int) = (a : Int) + 16 by omega]
       exact ⟨k + 1, acc ++ [D], hlt, by go_num, hv, Lh (by rw [List.length_append, HA.out]; rfl), Lh (by rw [show u + 16 * (k + 1) = a + 16 by omega]; exact HS.out.symm), HO3, HB3⟩
      case measure => simp only [intOf]; omega
   ·
    obtain rfl : k = n := by omega
    have hs : R = (acc, u + 16 * k, 0) := by rw [← HGO.out, Nat.sub_self]; rfl
    subst hs
    go_wp2_with fail
    go_ret3
    exact ⟨_, rfl, by rw [HA.out]; exact HO.out, HB.out⟩
 ·
  have hb := errB er he
  rw [if_pos he] at hdef
  rw [hdef]
  clear hdef hd
  go_enter Tryd.func73, Tryd.ntmps73
  go_wp2_with (go_at_call 95; refine HC.out.mono ?_; rintro e w' ⟨rfl, hb'⟩)
  go_ret3
  exact ⟨_, rfl, World.ownsRow_nil _ _ _ _, hb'⟩
end Go.Proofs.YtofccgkgjcnfbaaDoor.W1
namespace Go.Proofs.YtofccgkgjcnfbaaDoor
open Go.RowKit Wr Sh
set_option linter.unusedVariables false
def ltx (L : List Lf) : List (List UInt8) := L.flatMap fun x => [x.1.data.toList, x.2.data.toList]
def unltx : List (List UInt8) → List Lf
 | a :: b :: r => (bs a, bs b) :: unltx r
 | _ => []
theorem ltx_cons (x : Lf) (L : List Lf) : ltx (x :: L) = x.1.data.toList :: x.2.data.toList :: ltx L := rfl
theorem ltx_len : ∀ L : List Lf, (ltx L).length = 2 * L.length
 | [] => rfl
 | x :: L => by rw [ltx_cons, List.length_cons, List.length_cons, ltx_len L, List.length_cons]; omega
theorem bs_data (x : ByteArray) : bs x.data.toList = x := by unfold bs; simp
theorem unltx_ltx : ∀ L : List Lf, unltx (ltx L) = L
 | [] => rfl
 | x :: L => by rw [ltx_cons]; show (bs x.1.data.toList, bs x.2.data.toList) :: unltx (ltx L) = x :: L; rw [bs_data, bs_data, unltx_ltx L]
def encP (p : Pf) : List UInt8 := encInts [p.first, p.size] ++ (encStrs (ltx p.leaves) ++ encDigs p.sides)
def decP (b : List UInt8) : Pf × Nat × Nat :=
 if (decInts b).2.2 ≠ 0 then (noPf, 0, (decInts b).2.2)
 else if (decInts b).1.length ≠ 2 then (noPf, 0, 2)
 else if (decStrs (b.drop (decInts b).2.1)).2.2 ≠ 0 then (noPf, 0, (decStrs (b.drop (decInts b).2.1)).2.2)
 else if (decStrs (b.drop (decInts b).2.1)).1.length % 2 ≠ 0 then (noPf, 0, 2)
 else if (decDigs (b.drop ((decInts b).2.1 + (decStrs (b.drop (decInts b).2.1)).2.1))).2.2 ≠ 0 then (noPf, 0, (decDigs (b.drop ((decInts b).2.1 + (decStrs (b.drop (decInts b).2.1)).2.1))).2.2)
 else (⟨(decInts b).1.getD 0 0, (decInts b).1.getD 1 0, unltx (decStrs (b.drop (decInts b).2.1)).1, (decDigs (b.drop ((decInts b).2.1 + (decStrs (b.drop (decInts b).2.1)).2.1))).1⟩,
  (decInts b).2.1 + (decStrs (b.drop (decInts b).2.1)).2.1 + (decDigs (b.drop ((decInts b).2.1 + (decStrs (b.drop (decInts b).2.1)).2.1))).2.1, 0)
structure OkP (p : Pf) : Prop where
 f : okInt p.first
 s : okInt p.size
 l : p.leaves.length ≤ 1073741824
 k : ∀ x ∈ p.leaves, x.1.size ≤ 9223372036854775807 ∧ x.2.size ≤ 9223372036854775807
 d : p.sides.length ≤ 1073741824
 g : ∀ x ∈ p.sides, x.length = 16
theorem size_len (x : ByteArray) : x.data.toList.length = x.size := by rw [Array.length_toList]; rfl
theorem ltx_ok (p : Pf) (h : OkP p) : ∀ x ∈ ltx p.leaves, okStr x := by
 intro x hx
 unfold ltx at hx
 obtain ⟨y, hy, hxy⟩ := List.mem_flatMap.1 hx
 have := h.k y hy
 simp only [List.mem_cons, List.not_mem_nil, or_false] at hxy
 rcases hxy with rfl | rfl
 ·
  show _ ≤ _; rw [size_len]; exact this.1
 ·
  show _ ≤ _; rw [size_len]; exact this.2
theorem ints_ok (p : Pf) (h : OkP p) : ∀ x ∈ [p.first, p.size], okInt x := by
 intro x hx
 simp only [List.mem_cons, List.not_mem_nil, or_false] at hx
 rcases hx with rfl | rfl
 ·
  exact h.f
 ·
  exact h.s
theorem decP_enc (p : Pf) (t : List UInt8) (h : OkP p) : decP (encP p ++ t) = (p, (encP p).length, 0) := by
 have h1 : decInts (encP p ++ t) = ([p.first, p.size], (encInts [p.first, p.size]).length, 0) := by
  unfold encP; rw [List.append_assoc]; exact list_there codecInt _ _ (by simp) (ints_ok p h)
 have e1 : (encP p ++ t).drop (encInts [p.first, p.size]).length = encStrs (ltx p.leaves) ++ (encDigs p.sides ++ t) := by
  unfold encP; rw [List.append_assoc, List.drop_append_of_le_length (Nat.le_refl _), List.drop_length, List.nil_append, List.append_assoc]
 have h2 : decStrs (encStrs (ltx p.leaves) ++ (encDigs p.sides ++ t)) = (ltx p.leaves, (encStrs (ltx p.leaves)).length, 0) :=
  list_there codecStr _ _ (by rw [ltx_len]; have := h.l; omega) (ltx_ok p h)
 have e2 : (encP p ++ t).drop ((encInts [p.first, p.size]).length + (encStrs (ltx p.leaves)).length) = encDigs p.sides ++ t := by
  rw [← List.drop_drop, e1, List.drop_append_of_le_length (Nat.le_refl _), List.drop_length, List.nil_append]
 have h3 : decDigs (encDigs p.sides ++ t) = (p.sides, (encDigs p.sides).length, 0) :=
  list_there codecDig _ _ (by have := h.d; omega) h.g
 unfold decP
 simp only [h1, e1, h2, e2, h3]
 rw [if_neg (by simp), if_neg (by simp), if_neg (by simp), if_neg (by rw [ltx_len]; omega), if_neg (by simp), unltx_ltx]
 unfold encP
 simp only [List.length_append, List.getD_cons_zero, List.getD_cons_succ, Nat.add_assoc]
theorem decP_cut (p : Pf) (i : Nat) (h : OkP p) (hi : i < (encP p).length) : (decP ((encP p).take i)).2.2 ≠ 0 := by
 obtain ⟨E1, hE1⟩ : ∃ E, E = encInts [p.first, p.size] := ⟨_, rfl⟩
 obtain ⟨E2, hE2⟩ : ∃ E, E = encStrs (ltx p.leaves) := ⟨_, rfl⟩
 obtain ⟨E3, hE3⟩ : ∃ E, E = encDigs p.sides := ⟨_, rfl⟩
 have hE : encP p = E1 ++ (E2 ++ E3) := by rw [hE1, hE2, hE3]; rfl
 rw [hE] at hi ⊢
 simp only [List.length_append] at hi
 rcases Nat.lt_or_ge i E1.length with h1 | h1
 ·
  rw [List.take_append_of_le_length (Nat.le_of_lt h1)]
  have := list_cut codecInt [p.first, p.size] i (by simp) (ints_ok p h) (by rw [hE1] at h1; exact h1)
  unfold decP
  rw [hE1]
  have e : (decInts (List.take i (encInts [p.first, p.size]))).2.2 = 3 := this
  rw [if_pos (by rw [e]; decide), e]; decide
 ·
  have ht : (E1 ++ (E2 ++ E3)).take i = E1 ++ (E2 ++ E3).take (i - E1.length) := by rw [List.take_append, List.take_of_length_le h1]
  rw [ht]
  have d1 : ∀ t, decInts (E1 ++ t) = ([p.first, p.size], E1.length, 0) := fun t => by rw [hE1]; exact list_there codecInt _ _ (by simp) (ints_ok p h)
  have e1 : ∀ t : List UInt8, (E1 ++ t).drop E1.length = t := fun t => by rw [List.drop_append_of_le_length (Nat.le_refl _), List.drop_length, List.nil_append]
  rcases Nat.lt_or_ge (i - E1.length) E2.length with h2 | h2
  ·
   rw [List.take_append_of_le_length (Nat.le_of_lt h2)]
   have := list_cut codecStr (ltx p.leaves) (i - E1.length) (by rw [ltx_len]; have := h.l; omega) (ltx_ok p h) (by rw [hE2] at h2; exact h2)
   have e : (decStrs (E2.take (i - E1.length))).2.2 = 3 := by rw [hE2]; exact this
   unfold decP
   simp only [d1, e1]
   rw [if_neg (by simp), if_neg (by simp), if_pos (by rw [e]; decide), e]; decide
  ·
   have ht2 : (E2 ++ E3).take (i - E1.length) = E2 ++ E3.take (i - E1.length - E2.length) := by rw [List.take_append, List.take_of_length_le h2]
   rw [ht2]
   have d2 : ∀ t, decStrs (E2 ++ t) = (ltx p.leaves, E2.length, 0) := fun t => by rw [hE2]; exact list_there codecStr _ _ (by rw [ltx_len]; have := h.l; omega) (ltx_ok p h)
   have e2 : ∀ t : List UInt8, (E1 ++ (E2 ++ t)).drop (E1.length + E2.length) = t := fun t => by rw [← List.drop_drop, e1, List.drop_append_of_le_length (Nat.le_refl _), List.drop_length, List.nil_append]
   have := list_cut codecDig p.sides (i - E1.length - E2.length) (by have := h.d; omega) h.g (by have : (encList (fun d : List UInt8 => d) p.sides) = E3 := hE3.symm; rw [this]; omega)
   have e : (decDigs (E3.take (i - E1.length - E2.length))).2.2 = 3 := by rw [hE3]; exact this
   unfold decP
   simp only [d1, e1, d2, e2]
   rw [if_neg (by simp), if_neg (by simp), if_neg (by simp), if_neg (by rw [ltx_len]; omega), if_pos (by rw [e]; decide), e]; decide
end Go.Proofs.YtofccgkgjcnfbaaDoor
