/-
  The contract of tokenAt.
  No condition but the lengths.
-/
import Derived.Test.YtpbhgebblpdmnaaDoorZ
import Derived.Test.YtpbhgebblpdmnaaDoorGTbOp
namespace Go.Proofs.YtpbhgebblpdmnaaDoor
open Go.RowKit Wr Src
set_option linter.unusedVariables false
set_option maxRecDepth 100000
theorem sg_find {l : Str} {i : Nat} (hi : i < 13) (h : (sgn i).1.isPrefixOf l = true) (hj : ∀ j, j < i → (sgn j).1.isPrefixOf l = false) : sgAt l = (sgn i).1 := by
 unfold sgAt
 have e : sgs = (List.range 13).map (fun j => (sgn j).1) := by decide
 have hf : sgs.find? (fun s => s.isPrefixOf l) = some (sgn i).1 := by
  rw [e, List.find?_map]
  have : (List.range 13).find? ((fun s => s.isPrefixOf l) ∘ fun j => (sgn j).1) = some i := by
   rw [List.find?_range_eq_some]
   exact ⟨h, List.mem_range.2 hi, fun j hj2 => by simp [hj j hj2]⟩
  rw [this]; rfl
 rw [hf]; rfl
theorem sg_none {l : Str} (hj : ∀ j, j < 13 → (sgn j).1.isPrefixOf l = false) : sgAt l = [] := by
 unfold sgAt
 have e : sgs = (List.range 13).map (fun j => (sgn j).1) := by decide
 have hf : sgs.find? (fun s => s.isPrefixOf l) = none := by
  rw [List.find?_eq_none, e]
  intro x hx
  obtain ⟨j, h1, rfl⟩ := List.mem_map.1 hx
  rw [hj j (List.mem_range.1 h1)]; simp
 rw [hf]; rfl
theorem sg_op : ∀ i, i < 13 → (sgn i).1 ≠ [] ∧ (opOf (sgn i).1).1 = (sgn i).2.1 ∧ (opOf (sgn i).1).2 = (sgn i).2.2 := by decide
theorem tokAt_letter {b : UInt8} {t : Str} (h1 : isBlank b = false) (h2 : isL b = true) : tokAt (b :: t) = wkA ((b :: t).take (wordLen (b :: t))) := by
 unfold tokAt wkA; dsimp only; rw [if_neg (by rw [h1]; simp), if_pos h2]
 cases wordKind ((b :: t).take (wordLen (b :: t))) with
 | some k => rfl
 | none => rfl
theorem tokAt_digit {b : UInt8} {t : Str} (h1 : isBlank b = false) (h2 : isL b = false) (h3 : isD b = true) : tokAt (b :: t) = (4, (b :: t).take (numLen (b :: t)), 0, 0) := by
 unfold tokAt; dsimp only; rw [if_neg (by rw [h1]; simp), if_neg (by rw [h2]; simp), if_pos h3]
theorem tokAt_loc {b : UInt8} {t : Str} (h1 : isBlank b = false) (h2 : isL b = false) (h3 : isD b = false) (h4 : b = 36) : tokAt (b :: t) = (5, (b :: t).take (if wordLen t = 0 then 0 else wordLen t + 1), 0, 0) := by
 unfold tokAt; dsimp only; rw [if_neg (by rw [h1]; simp), if_neg (by rw [h2]; simp), if_neg (by rw [h3]; simp), if_pos h4]
theorem tokAt_sign {b : UInt8} {t : Str} (h1 : isBlank b = false) (h2 : isL b = false) (h3 : isD b = false) (h4 : b ≠ 36) : tokAt (b :: t) = if sgAt (b :: t) = [] then (0, [], 0, 0) else (6, sgAt (b :: t), (opOf (sgAt (b :: t))).1, (opOf (sgAt (b :: t))).2) := by
 unfold tokAt; dsimp only; rw [if_neg (by rw [h1]; simp), if_neg (by rw [h2]; simp), if_neg (by rw [h3]; simp), if_neg h4]
theorem blank_nat (b : UInt8) : isBlank b = (decide (b.toNat = 32) || decide (b.toNat = 10)) := by
 unfold isBlank
 rw [← Bool.decide_or, decide_eq_decide]
 constructor
 ·
  rintro (rfl | rfl)
  ·
   exact Or.inl rfl
  ·
   exact Or.inr rfl
 ·
  rintro (h | h)
  ·
   exact Or.inl (UInt8.toNat_inj.1 h)
  ·
   exact Or.inr (UInt8.toNat_inj.1 h)
theorem nat_beq (a : Nat) (b : Nat) : (((a : Nat) : Int) == ((b : Nat) : Int)) = decide (a = b) := by
 rw [Bool.eq_iff_iff, beq_iff_eq, decide_eq_true_iff]; omega
set_option maxHeartbeats 4000000 in
theorem tokenAt_any {B : Nat} (b : UInt8) (t : Str) (w : World) (ht : Tab B w) (hl : t.length ≤ 4294967295)
  (HP : Hid (∀ (a p : Str) W, Calls Tryd.prog 50 #[sv a, sv p] W fun e w' => e = .returned (.bool (p.isPrefixOf a)) ∧ W = w')) :
  Calls Tryd.prog 37 #[sv (b :: t)] w fun e w' => e = .returned (tkv (tokAt (b :: t)) 0) ∧ Below w.heap.size w w' := by
 suffices hgen : ∀ R, Hid (tokAt (b :: t) = R) → Calls Tryd.prog 37 #[sv (b :: t)] w fun e w' => e = .returned (tkv R 0) ∧ Below w.heap.size w w' from hgen _ (Lh rfl)
 intro R HR
 have b0 := Lh (Blk.new w 62 Z5)
 have B0 := Lh ((Below.refl w.heap.size w).alloc (Nat.le_refl _) (.cells Z5.toArray 62))
 change Hid (Blk (w.alloc (.cells #[.int .i64 0, .string ⟨#[]⟩, .int .i64 0, .int .i64 0, .int .i64 0] 62)) w.heap.size 62 Z5) at b0
 change Hid (Below w.heap.size w (w.alloc (.cells #[.int .i64 0, .string ⟨#[]⟩, .int .i64 0, .int .i64 0, .int .i64 0] 62))) at B0
 have z1 := zero62
 have z2 := zero75
 obtain ⟨n, hn⟩ : ∃ n, n = t.length + 1 := ⟨_, rfl⟩
 have hsz : (⟨(b :: t).toArray⟩ : ByteArray).size = n := hn.symm
 have hn0 : 0 < (n : Int) := by omega
 have hn1 : (1 : Int) ≤ (n : Int) := by omega
 have HN := Lh hn
 obtain ⟨s, hs⟩ : ∃ s : ByteArray, s = ⟨(b :: t).toArray⟩ := ⟨_, rfl⟩
 have hix : ∀ h : 0 < s.size, ((s[0]'h).toNat : Int) = (b.toNat : Int) := by
  intro h
  subst hs
  rfl
 rw [show sv (b :: t) = .string s by rw [hs]]
 rw [← hs] at hsz
 have HLt := Lh (fun W => isLetter_any b W)
 have HDg := Lh (fun W => isDigit_any b W)
 have HWz : Hid (∀ W, Calls Tryd.prog 46 #[.string s] W fun e w' => e = .returned (nv (wordLen (b :: t))) ∧ W = w') := Lh (by rw [hs]; exact fun W => wordSize_any (b :: t) W (by rw [List.length_cons]; omega))
 have HNz : Hid (∀ W, Calls Tryd.prog 48 #[.string s] W fun e w' => e = .returned (nv (numLen (b :: t))) ∧ W = w') := Lh (by rw [hs]; exact fun W => numeralSize_any (b :: t) W (by rw [List.length_cons]; omega))
 have HLz : Hid (∀ W, Calls Tryd.prog 49 #[.string s] W fun e w' => e = .returned (nv (if wordLen t = 0 then 0 else wordLen t + 1)) ∧ W = w') := Lh (by rw [hs]; exact fun W => localSize_any b t W hl)
 have HPs : Hid (∀ (p : Str) W, Calls Tryd.prog 50 #[.string s, sv p] W fun e w' => e = .returned (.bool (p.isPrefixOf (b :: t))) ∧ W = w') := Lh (by rw [hs]; exact fun p W => HP.out (b :: t) p W)
 have HTk : Hid (∀ k, .string (s.extract 0 k) = sv ((b :: t).take k)) := Lh (fun k => by rw [hs, sv_take])
 have HWN : Hid (∀ k W, Below w.heap.size w W → Calls Tryd.prog 45 #[.string (s.extract 0 k)] W fun e w' => e = .returned (tkv (wkA ((b :: t).take k)) 0) ∧ Below W.heap.size W w') := Lh (fun k W hW => by rw [HTk.out k]; exact wordOrName_any _ W (ht.below hW) (by rw [List.length_take, List.length_cons]; omega))
 have HTab := Lh (fun W (hW : Below w.heap.size w W) => ht.below hW)
 have hw16 : wordLen (b :: t) ≤ n := by have := wc_le (b :: t); rw [wordLen_count]; rw [List.length_cons] at this; split <;> omega
 have hw16' : wordLen t + 1 ≤ n := by have := wc_le t; rw [wordLen_count]; split <;> omega
 have hn3 : numLen (b :: t) ≤ n := by
  have := (List.takeWhile_prefix (l := b :: t) (p := isD)).length_le
  rw [List.length_cons] at this
  unfold numLen; split <;> omega
 have hbk := blank_nat b
 have e32 := nat_beq b.toNat 32
 have e10 := nat_beq b.toNat 10
 have e36 : (((b.toNat : Nat) : Int) == 36) = decide (b = 36) := by
  rw [show (36 : Int) = ((36 : Nat) : Int) from rfl, nat_beq, decide_eq_decide]
  exact ⟨fun h => UInt8.toNat_inj.1 h, fun h => by rw [h]; rfl⟩
 change (((b.toNat : Nat) : Int) == 32) = _ at e32
 change (((b.toNat : Nat) : Int) == 10) = _ at e10
 clear hn hs HP ht
 go_enter Tryd.func37, Tryd.ntmps37
 go_upto_region 1 with fail
 generalize w.alloc (.cells #[.int .i64 0, .string ⟨#[]⟩, .int .i64 0, .int .i64 0, .int .i64 0] 62) = W0 at b0 B0 ⊢
 go_upto_region 2 with fail
 obtain ⟨q32, h32⟩ : ∃ q, q = decide (b.toNat = 32) := ⟨_, rfl⟩
 obtain ⟨q10, h10⟩ : ∃ q, q = decide (b.toNat = 10) := ⟨_, rfl⟩
 obtain ⟨q36, h36⟩ : ∃ q, q = decide (b = 36) := ⟨_, rfl⟩
 rw [← h32, ← h10] at hbk
 rw [← h32] at e32
 rw [← h10] at e10
 rw [← h36] at e36
 have H36 := Lh h36
 clear h32 h10 h36 hix
 cases q32 with
 | true =>
  have HRR := Lh (show R = (1, [b], 0, 0) by rw [← HR.out]; exact tokAt_blank t hbk)
  clear hbk e10 e36 HR HWz HNz HLz HPs HWN HTab HLt HDg hw16 hw16' hn3 H36
  go_wp2_with (first | (with_reducible refine wpList_store_blk rfl 62 5 size62 (.tmp 2) (.tmp 17) rfl w.heap.size [.int .i64 1, .string (s.extract 0 1), .int .i64 0, .int .i64 0, .int .i64 0] rfl rfl Z5 b0.out rfl rfl rfl ?_; intro w1 hb1 hk1))
  refine bodyPost_ret (v := .agg ([.int .i64 1, .string (s.extract 0 1), .int .i64 0, .int .i64 0, .int .i64 0]).toArray) (box_res 5 size62 rfl _ _ w.heap.size _ _ rfl hb1 rfl Tryd.underlying62 rfl) rfl ⟨?_, ?_⟩
  ·
   rw [HRR.out, HTk.out 1]; rfl
  ·
   exact B0.out.trans (hk1.below (by exact B0.out.size) (by intro k hk; omega))
 | false =>
  cases q10 with
  | true =>
   have HRR := Lh (show R = (1, [b], 0, 0) by rw [← HR.out]; exact tokAt_blank t hbk)
   clear hbk e36 HR HWz HNz HLz HPs HWN HTab HLt HDg hw16 hw16' hn3 H36
   go_wp2_with (first | (with_reducible refine wpList_store_blk rfl 62 5 size62 (.tmp 2) (.tmp 17) rfl w.heap.size [.int .i64 1, .string (s.extract 0 1), .int .i64 0, .int .i64 0, .int .i64 0] rfl rfl Z5 b0.out rfl rfl rfl ?_; intro w1 hb1 hk1))
   refine bodyPost_ret (v := .agg ([.int .i64 1, .string (s.extract 0 1), .int .i64 0, .int .i64 0, .int .i64 0]).toArray) (box_res 5 size62 rfl _ _ w.heap.size _ _ rfl hb1 rfl Tryd.underlying62 rfl) rfl ⟨?_, ?_⟩
   ·
    rw [HRR.out, HTk.out 1]; rfl
   ·
    exact B0.out.trans (hk1.below (by exact B0.out.size) (by intro k hk; omega))
  | false =>
   have HBk := Lh hbk
   clear hbk
   obtain ⟨qL, hL⟩ : ∃ q, q = isL b := ⟨_, rfl⟩
   obtain ⟨qD, hD⟩ : ∃ q, q = isD b := ⟨_, rfl⟩
   rw [← hL] at HLt
   rw [← hD] at HDg
   have HqL := Lh hL; have HqD := Lh hD
   clear hL hD
   cases qL with
   | true =>
    have HRR := Lh (show R = wkA ((b :: t).take (wordLen (b :: t))) by rw [← HR.out]; exact tokAt_letter HBk.out HqL.out.symm)
    clear HR HNz HLz HPs HTab HDg hw16' hn3 HqD HqL HBk e36 H36
    obtain ⟨k, hk⟩ : ∃ k, k = wordLen (b :: t) := ⟨_, rfl⟩
    rw [← hk] at HWz hw16 HRR
    have hkI : (k : Int) ≤ (n : Int) := by omega
    have HX := Lh (HWN.out k)
    clear hk hw16 HWN
    go_wp2_with fail
    refine (HLt.out _).mono ?_
    rintro e w1 ⟨rfl, rfl⟩
    go_wp2_with fail
    refine (HWz.out _).mono ?_
    rintro e w1 ⟨rfl, rfl⟩
    go_wp2_with fail
    refine (HX.out _ B0.out).mono ?_
    rintro e w2 ⟨rfl, hb⟩
    have b1 := Lh (b0.out.below hb b0.out.lt)
    have B1 := Lh (below_step B0.out hb)
    clear hb b0 B0
    obtain ⟨x, hx⟩ : ∃ x, x = wkA ((b :: t).take k) := ⟨_, rfl⟩
    rw [← hx] at HRR ⊢
    clear hx
    go_wp2_with (first | (with_reducible refine wpList_store_blk rfl 62 5 size62 (.tmp 2) (.tmp 25) rfl w.heap.size (TKC x.1 x.2.1 0 x.2.2.1 x.2.2.2) rfl rfl Z5 b1.out (TKC_len _ _ _ _ _) rfl (TKC_one _ _ _ _ _) ?_; intro w1 hb1 hk1))
    refine bodyPost_ret (v := .agg ((TKC x.1 x.2.1 0 x.2.2.1 x.2.2.2)).toArray) (box_res 5 size62 rfl _ _ w.heap.size _ _ rfl hb1 rfl Tryd.underlying62 rfl) rfl ⟨?_, ?_⟩
    ·
     rw [HRR.out]
    ·
     exact B1.out.trans (hk1.below (by exact B1.out.size) (by intro k hk; omega))
   | false =>
    cases qD with
    | true =>
     have HRR := Lh (show R = (4, (b :: t).take (numLen (b :: t)), 0, 0) by rw [← HR.out]; exact tokAt_digit HBk.out HqL.out.symm HqD.out.symm)
     clear HR HWz HLz HPs HTab hw16 hw16' HqD HqL HBk e36 H36 HWN
     obtain ⟨k, hk⟩ : ∃ k, k = numLen (b :: t) := ⟨_, rfl⟩
     rw [← hk] at HNz hn3 HRR
     have hkI : (k : Int) ≤ (n : Int) := by omega
     clear hk hn3
     go_wp2_with fail
     refine (HLt.out _).mono ?_
     rintro e w1 ⟨rfl, rfl⟩
     go_wp2_with fail
     refine (HDg.out _).mono ?_
     rintro e w1 ⟨rfl, rfl⟩
     go_wp2_with fail
     refine (HNz.out _).mono ?_
     rintro e w1 ⟨rfl, rfl⟩
     go_wp2_with (first | (with_reducible refine wpList_store_blk rfl 62 5 size62 (.tmp 2) (.tmp 33) rfl w.heap.size [.int .i64 4, .string (s.extract 0 k), .int .i64 0, .int .i64 0, .int .i64 0] rfl rfl Z5 b0.out rfl rfl rfl ?_; intro w1 hb1 hk1))
     refine bodyPost_ret (v := .agg ([.int .i64 4, .string (s.extract 0 k), .int .i64 0, .int .i64 0, .int .i64 0]).toArray) (box_res 5 size62 rfl _ _ w.heap.size _ _ rfl hb1 rfl Tryd.underlying62 rfl) rfl ⟨?_, ?_⟩
     ·
      rw [HRR.out, HTk.out k]; rfl
     ·
      exact B0.out.trans (hk1.below (by exact B0.out.size) (by intro k hk; omega))
    | false =>
     cases q36 with
     | true =>
      have HRR := Lh (show R = (5, (b :: t).take (if wordLen t = 0 then 0 else wordLen t + 1), 0, 0) by rw [← HR.out]; exact tokAt_loc HBk.out HqL.out.symm HqD.out.symm (of_decide_eq_true H36.out.symm))
      clear HR HWz HNz HPs HTab hw16 hn3 HqD HqL HBk H36 HWN
      obtain ⟨k, hk⟩ : ∃ k, k = (if wordLen t = 0 then 0 else wordLen t + 1) := ⟨_, rfl⟩
      have hkn : k ≤ n := by rw [hk]; split <;> omega
      rw [← hk] at HLz HRR
      have hkI : (k : Int) ≤ (n : Int) := by omega
      clear hk hkn hw16'
      go_wp2_with fail
      refine (HLt.out _).mono ?_
      rintro e w1 ⟨rfl, rfl⟩
      go_wp2_with fail
      refine (HDg.out _).mono ?_
      rintro e w1 ⟨rfl, rfl⟩
      go_wp2_with fail
      refine (HLz.out _).mono ?_
      rintro e w1 ⟨rfl, rfl⟩
      go_wp2_with (first | (with_reducible refine wpList_store_blk rfl 62 5 size62 (.tmp 2) (.tmp 41) rfl w.heap.size [.int .i64 5, .string (s.extract 0 k), .int .i64 0, .int .i64 0, .int .i64 0] rfl rfl Z5 b0.out rfl rfl rfl ?_; intro w1 hb1 hk1))
      refine bodyPost_ret (v := .agg ([.int .i64 5, .string (s.extract 0 k), .int .i64 0, .int .i64 0, .int .i64 0]).toArray) (box_res 5 size62 rfl _ _ w.heap.size _ _ rfl hb1 rfl Tryd.underlying62 rfl) rfl ⟨?_, ?_⟩
      ·
       rw [HRR.out, HTk.out k]; rfl
      ·
       exact B0.out.trans (hk1.below (by exact B0.out.size) (by intro k hk; omega))
     | false =>
      have HRS := Lh (show (if sgAt (b :: t) = [] then (0, [], 0, 0) else (6, sgAt (b :: t), (opOf (sgAt (b :: t))).1, (opOf (sgAt (b :: t))).2)) = R by rw [← HR.out]; exact (tokAt_sign HBk.out HqL.out.symm HqD.out.symm (of_decide_eq_false H36.out.symm)).symm)
      clear HR HWz HNz HLz hw16 hw16' hn3 HqD HqL HBk H36 HWN
      obtain ⟨bs, os, cs, bg, og, cg, ht⟩ := HTab.out _ (Below.refl w.heap.size w)
      have HT := Lh ht
      have hbs := ht.cg1
      have v1 := (ht.below B0.out).v0
      clear ht HTab
      go_wp2_with fail
      refine (HLt.out _).mono ?_
      rintro e w1 ⟨rfl, rfl⟩
      go_wp2_with fail
      refine (HDg.out _).mono ?_
      rintro e w1 ⟨rfl, rfl⟩
      clear HLt HDg
      go_wp2_with fail
      go_loopw [44] (fun s wr => ∃ i : Nat, i ≤ 13 ∧ s = .int .i64 (i : Int) ∧ Hid (∀ j, j < i → (sgn j).1.isPrefixOf (b :: t) = false) ∧ Hid (Blk wr w.heap.size 62 Z5) ∧ Hid (Below w.heap.size w wr)) (fun s _ => 13 - (intOf s).toNat)
      case atStart => exact ⟨0, Nat.zero_le _, rfl, Lh (fun j hj => absurd hj (by omega)), b0, B0⟩
      case round =>
       clear b0 B0 v1
       obtain ⟨i, hi, rfl, HJ, b1, B1⟩ := hrel
       rcases Nat.lt_or_ge i 13 with hlt | hge
       ·
        have hiI : (i : Int) < 13 := by omega
        have ht := HT.out.below B1.out
        obtain ⟨c1, c2, c3⟩ := ht.sg i hlt
        clear ht
        obtain ⟨x, hx⟩ : ∃ x, x = sgn i := ⟨_, rfl⟩
        rw [← hx] at c1 c2 c3
        have HX := Lh hx
        clear hx
        obtain ⟨xt, xl, xk⟩ := x
        dsimp only at c1 c2 c3
        have HPi := Lh (HPs.out xt)
        obtain ⟨q, hq⟩ : ∃ q, q = xt.isPrefixOf (b :: t) := ⟨_, rfl⟩
        rw [← hq] at HPi
        have HQ := Lh hq
        clear hq
        cases q with
        | true =>
         have HRR := Lh (show R = (6, xt, xl, xk) by
          have h1 := sg_find (l := b :: t) hlt (by rw [← HX.out]; exact HQ.out.symm) HJ.out
          obtain ⟨h2, h3, h4⟩ := sg_op i hlt
          rw [← HX.out] at h1 h2 h3 h4
          rw [← HRS.out, h1, if_neg h2, h3, h4])
         clear HRS HT hbs HX HPs HQ
         go_wp2_with fail
         obtain ⟨W1, hW1⟩ : ∃ W1, W1 = wr.alloc (.cells #[sv xt, nv xl, iv xk] 75) := ⟨_, rfl⟩
         have b2 := Lh (show Blk W1 w.heap.size 62 Z5 by rw [hW1]; exact b1.out.alloc _)
         have B2 := Lh (show Below w.heap.size w W1 by rw [hW1]; exact B1.out.alloc B1.out.size _)
         have b3 := show Blk W1 wr.heap.size 75 [sv xt, nv xl, iv xk] by rw [hW1]; exact Blk.new wr _ _
         rw [← hW1]
         have d1 := b3.cell 0; have d2 := b3.cell 1; have d3 := b3.cell 2
         clear hW1 b1 B1 c1 c2 c3 b3
         refine (HPi.out _).mono ?_
         rintro e w1 ⟨rfl, rfl⟩
         go_wp2_with (first | (with_reducible refine wpList_store_blk rfl 62 5 size62 (.tmp 2) (.tmp 58) rfl w.heap.size [.int .i64 6, sv xt, .int .i64 0, nv xl, iv xk] rfl rfl Z5 b2.out rfl rfl rfl ?_; intro w1 hb1 hk1))
         refine bodyPost_ret (v := .agg ([.int .i64 6, sv xt, .int .i64 0, nv xl, iv xk]).toArray) (box_res 5 size62 rfl _ _ w.heap.size _ _ rfl hb1 rfl Tryd.underlying62 rfl) rfl ⟨?_, ?_⟩
         ·
          rw [HRR.out]; rfl
         ·
          exact B2.out.trans (hk1.below (by exact B2.out.size) (by intro k hk; omega))
        | false =>
         go_wp2_with fail
         refine (HPi.out _).mono ?_
         rintro e w1 ⟨rfl, rfl⟩
         go_wp2_with fail
         go_roundw
         case rel => exact ⟨i + 1, by omega, by simp, Lh (fun j hj => by rcases Nat.lt_or_ge j i with h | h; exact HJ.out j h; rw [show j = i by omega, ← HX.out]; exact HQ.out.symm), Lh (b1.out.alloc _), Lh (B1.out.alloc B1.out.size _)⟩
         case measure => simp only [intOf]; omega
       ·
        obtain rfl : i = 13 := by omega
        have HRR := Lh (show R = (0, [], 0, 0) by rw [← HRS.out, if_pos (sg_none HJ.out)])
        clear HRS HT hbs HPs
        go_wp2_with (first | (with_reducible refine wpList_store_blk rfl 62 5 size62 (.tmp 2) (.tmp 60) rfl w.heap.size [.int .i64 0, .string ⟨#[]⟩, .int .i64 0, .int .i64 0, .int .i64 0] rfl rfl Z5 b1.out rfl rfl rfl ?_; intro w1 hb1 hk1))
        refine bodyPost_ret (v := .agg ([.int .i64 0, .string ⟨#[]⟩, .int .i64 0, .int .i64 0, .int .i64 0]).toArray) (box_res 5 size62 rfl _ _ w.heap.size _ _ rfl hb1 rfl Tryd.underlying62 rfl) rfl ⟨?_, ?_⟩
        ·
         rw [HRR.out]; rfl
        ·
         exact B1.out.trans (hk1.below (by exact B1.out.size) (by intro k hk; omega))
end Go.Proofs.YtpbhgebblpdmnaaDoor
