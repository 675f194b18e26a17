/-
  The contract of hash.Mac.
  Conditions: key and text have at most 2^38 bytes; the table of the round constants is as the text lays it.
-/
import Derived.Test.YtgonidjajmjniaaDoorMacA
namespace Go.Proofs.YtgonidjajmjniaaDoor
open Go.RowKit Wr Sh
set_option linter.unusedVariables false
set_option maxRecDepth 100000

theorem rd_blk {W : World} {g : Nat} {t : TypeId} {cs : List Value} (h : Blk W g t cs) : Rd W W.heap.size (some ⟨g, 0, none⟩) cs := fun _ => ⟨g, 0, rfl, h.lt, fun j u hu => by rw [Nat.zero_add, h.cell]; exact hu⟩

set_option maxRecDepth 100000 in
set_option maxHeartbeats 4000000 in
theorem mac_go (key text : ByteArray) (w : World) (hk : key.size ≤ 274877906944) (htx : text.size ≤ 274877906944) (ht : Tab 1 w) (R : List UInt8) (hR : Hid (R = mac key.data.toList text.data.toList)) :
    Calls Tryd.prog 50 #[.string key, .string text] w fun e w' => e = .returned (.string ⟨R.toArray⟩) ∧ Below w.heap.size w w' := by
  have HT := Lib.hid ht
  clear ht
  go_enter Tryd.func50, Tryd.ntmps50
  go_upto_if 13 with (fail)
  go_cut [0] (fun s0 wx => ∃ kk : ByteArray, s0 = .string kk ∧ kk.data.toList = hkey key.data.toList ∧ Below w.heap.size w wx)
  case first =>
    by_cases h64 : 64 < key.size
    · have hi64 : (64 : Int) < (key.size : Int) := by omega
      have hkk : hkey key.data.toList = sha key.data.toList := by unfold hkey; rw [size_l, if_pos h64]
      obtain ⟨S, hS⟩ : ∃ S, S = sha key.data.toList := ⟨_, rfl⟩
      have HS0 : Hid (S = sha key.data.toList) := Lib.hid hS
      have hSl : S.length = 32 := by rw [hS]; exact sha_len _
      have HSl := Lib.hid hSl
      have HS24 := Lib.hid (size24' S hSl)
      have HB32 := Lib.hid (show (B8 S).length = 32 by rw [B8_len, hSl])
      have HKK := Lib.hid hkk
      have hcv : ∀ (g : Nat) (W : World), Blk W g 85 (B8 S) → (convert 54 9 (.slice (some ⟨g, 0, none⟩) 32 32)).run Tryd.prog W = .ok (.string ⟨S.toArray⟩) W := by
        intro g W hb
        have := run_convert_bytes_back (P := Tryd.prog) W 54 9 5 ⟨g, 0, none⟩ 32 S Tryd.underlying54 Tryd.underlying5 Tryd.underlying9 (fun j hj => by rw [Addr.add_lit, Nat.zero_add, hb.cell, B8_get _ _ hj])
        rw [hSl] at this; exact this
      have HCV := Lib.hid hcv
      clear hS hSl hkk hcv
      go_wp2_with (first
        | (go_at_call 54; refine (begin_s _).mono ?_; rintro e w1 ⟨rfl, hb1⟩; have HB1 := Lib.hid hb1; clear hb1)
        | (go_at_call 60; refine (add_go [] Z64 key init 0 w1 part_z rfl (by omega) (HT.out.below HB1.out HT.out.1) key.size (Nat.zero_add _).symm key.data.toList (Lib.hid rfl)).mono ?_; rintro e w2 ⟨rest2, v2, rfl, hp2, hb2⟩; have HP2 := Lib.hid hp2; have HB2 := Lib.hid (HB1.out.trans (hb2.mono HB1.out.size)); clear hb2 hp2)
        | (go_at_call 56; refine (ssum_go key.data.toList rest2 v2 key.size w2 HP2.out (size_l key).symm (by omega) (HT.out.below HB2.out HT.out.1) S HS0).mono ?_; rintro e w3 ⟨rfl, hb3⟩; have HB3 := Lib.hid (HB2.out.trans (hb3.mono HB2.out.size)); have hcw := fun old : Array Value => HCV.out w3.heap.size _ (show Blk ((w3.alloc (.cells old 85)).setRow w3.heap.size (B8 S).toArray) w3.heap.size 85 (B8 S) from heap_setRow _ w3.heap.size (B8 S).toArray old 85 (heap_alloc_new w3 (.cells old 85))); clear hb3)
        | (with_reducible refine wpList_store_row rfl 85 (.tmp 5) (.tmp 17) rfl w3.heap.size (B8 S).toArray rfl rfl 85 _ (heap_alloc_new w3 _) HS24.out (by simp [HB32.out]) (one8 _) ?_))
      go_meet
      exact ⟨⟨S.toArray⟩, rfl, by rw [HKK.out, ← HS0.out], belowRow (HB3.out.alloc HB3.out.size _) HB3.out.size _⟩
    · have hi64 : (key.size : Int) ≤ (64 : Int) := by omega
      go_wp2_with fail
      go_meet
      exact ⟨key, rfl, by unfold hkey; rw [size_l, if_neg h64], Below.refl _ _⟩
  case rest =>
    obtain ⟨kk, rfl, hkk, hbw⟩ := hcut
    have hk64 : kk.size ≤ 64 := by rw [← size_l, hkk]; exact hkey_le _
    obtain ⟨E, hE⟩ : ∃ E, E = ext64 (hkey key.data.toList) := ⟨_, rfl⟩
    have HE0 := Lib.hid hE
    have hEl : E.length = 64 := by rw [hE]; exact ext64_len _ (hkey_le _)
    have HEl := Lib.hid hEl
    have HE := Lib.hid (show splice (B8 (List.replicate 64 0)) 0 (B8 (kk.data.toList.take kk.size)) = B8 E by
      rw [List.take_of_length_le (by rw [size_l]; omega), hkk, hE]; exact copy_ext _ (hkey_le _))
    have Hn := Lib.hid (show kk.size = Nat.min kk.size 64 from (Nat.min_eq_left hk64).symm)
    have hfit := Lib.hid (show 0 + kk.size ≤ (B8 (List.replicate 64 0)).length by rw [B8_len, List.length_replicate]; omega)
    have HBW := Lib.hid hbw
    clear hkk hE hEl hbw
    go_upto_region 5 with (fail)
    generalize hW : World.alloc _ _ = W0
    obtain ⟨M, hM⟩ : ∃ M, M = wc.heap.size := ⟨_, rfl⟩
    have f6 : Blk W0 M 78 (B8 (List.replicate 64 0)) := by rw [← hW, hM]; exact (Blk.new wc 78 (B8 (List.replicate 64 0))).alloc _
    have f7 : Blk W0 (M + 1) 78 (B8 (List.replicate 64 0)) := by rw [← hW, hM]; exact Blk.newAt _ _ 78 (B8 (List.replicate 64 0)) (by simp)
    have hB0 : Below w.heap.size w W0 := by
      rw [← hW]; exact (HBW.out.alloc HBW.out.size _).alloc (by have := HBW.out.size; simp; omega) _
    have hMw : w.heap.size ≤ M := by rw [hM]; exact HBW.out.size
    rw [← hM]
    have f6' : Blk (W0.setRow M (B8 E).toArray) M 78 (B8 E) := f6.row _
    have f7' : Blk (W0.setRow M (B8 E).toArray) (M + 1) 78 (B8 (List.replicate 64 0)) := f7.setRow (by omega) _
    have f6'' : Blk ((W0.setRow M (B8 E).toArray).setRow (M + 1) (B8 E).toArray) M 78 (B8 (mixk E 54 0)) := by rw [mixk_zero]; exact f6'.setRow (by omega) _
    have f7'' : Blk ((W0.setRow M (B8 E).toArray).setRow (M + 1) (B8 E).toArray) (M + 1) 78 (B8 (mixk E 92 0)) := by rw [mixk_zero]; exact f7'.row _
    have HB1 := Lib.hid (belowRow (belowRow hB0 hMw (B8 E).toArray) (by omega : w.heap.size ≤ M + 1) (B8 E).toArray)
    have HF6 := Lib.hid (show W0.heap[M]? = some (.cells (B8 (List.replicate 64 0)).toArray 78 (0, 0)) from f6)
    have HF7 := Lib.hid (show (W0.setRow M (B8 E).toArray).heap[M + 1]? = some (.cells (B8 (List.replicate 64 0)).toArray 78 (0, 0)) from f7')
    clear hW hM f6 f7 f6' f7' hB0
    go_wp2_with (first
      | (with_reducible refine wpList_copy_str rfl (.tmp 20) (.tmp 21) 54 9 rfl 5 Tryd.underlying54 size5 M 0 64 64 kk kk.size rfl rfl (B8 (List.replicate 64 0)) 78 HF6.out Hn.out hfit.out ?_; rw [HE.out])
      | (with_reducible refine wpList_copy_str rfl (.tmp 23) (.tmp 24) 54 9 rfl 5 Tryd.underlying54 size5 (M + 1) 0 64 64 kk kk.size rfl rfl (B8 (List.replicate 64 0)) 78 HF7.out Hn.out hfit.out ?_; rw [HE.out]))
    generalize hW : World.setRow _ _ _ = W1
    rw [hW] at f6'' f7'' HB1
    clear hW HF6 HF7 HE Hn hfit hk64
    go_loopw [26] (fun s26 wr => ∃ i : Nat, i ≤ 64 ∧ s26 = .int .i64 i ∧ Blk wr M 78 (B8 (mixk E 54 i)) ∧ Blk wr (M + 1) 78 (B8 (mixk E 92 i)) ∧ Hid (Below w.heap.size w wr))
      (fun s26 _ => 64 - (intOf s26).toNat)
    case atStart => exact ⟨0, by omega, rfl, f6'', f7'', HB1⟩
    case round =>
    clear f6'' f7'' HB1
    obtain ⟨i, hi, rfl, f6, f7, HB⟩ := hrel
    by_cases hi64 : i < 64
    · have hiE : i < E.length := by have := HEl.out; omega
      have c6 : wr.cell? ⟨M, i, none⟩ = some (.int .u8 (E[i].toNat : Int)) := (f6.cell i).trans (mixk_at E 54 i hiE)
      have c7 : wr.cell? ⟨M + 1, i, none⟩ = some (.int .u8 (E[i].toNat : Int)) := (f7.cell i).trans (mixk_at E 92 i hiE)
      have x6 := f6.frozen i
      have x7 := f7.frozen i
      have H6 := Lib.hid (mixk_set E 54 i hiE)
      have H7 := Lib.hid (mixk_set E 92 i hiE)
      have v6 : bits .xor .u8 (E[i].toNat : Int) 54 = ((E[i] ^^^ 54).toNat : Int) := xor_c E[i] 54 54 rfl
      have v7 : bits .xor .u8 (E[i].toNat : Int) 92 = ((E[i] ^^^ 92).toNat : Int) := xor_c E[i] 92 92 rfl
      obtain ⟨y6, hy6⟩ : ∃ y6, y6 = E[i] ^^^ 54 := ⟨_, rfl⟩
      obtain ⟨y7, hy7⟩ : ∃ y7, y7 = E[i] ^^^ 92 := ⟨_, rfl⟩
      rw [← hy6] at v6 H6
      rw [← hy7] at v7 H7
      clear hy6 hy7
      go_wp2
      go_roundw
      case rel =>
        refine ⟨i + 1, by omega, by go_num, ?_, ?_, Lib.hid ((HB.out.setCell hMw _).setCell (by simp; omega) _)⟩
        · have := (f6.put i (.int .u8 (y6.toNat : Int))).far (p := ⟨M + 1, i, none⟩) (show M ≠ M + 1 by omega) (.int .u8 (y7.toNat : Int))
          rw [H6.out] at this; exact this
        · have := (f7.far (p := ⟨M, i, none⟩) (show M + 1 ≠ M by omega) (.int .u8 (y6.toNat : Int))).put i (.int .u8 (y7.toNat : Int))
          rw [H7.out] at this; exact this
      case measure => simp only [intOf]; omega
    · obtain ⟨P6, hP6⟩ : ∃ P6, P6 = padk (hkey key.data.toList) 54 := ⟨_, rfl⟩
      obtain ⟨P7, hP7⟩ : ∃ P7, P7 = padk (hkey key.data.toList) 92 := ⟨_, rfl⟩
      have e6 : mixk E 54 i = P6 := by rw [show i = 64 by omega, mixk_all _ _ HEl.out, hP6, HE0.out]; rfl
      have e7 : mixk E 92 i = P7 := by rw [show i = 64 by omega, mixk_all _ _ HEl.out, hP7, HE0.out]; rfl
      rw [e6] at f6
      rw [e7] at f7
      have l6 : P6.length = 64 := by rw [hP6]; exact padk_len _ _ (hkey_le _)
      have l7 : P7.length = 64 := by rw [hP7]; exact padk_len _ _ (hkey_le _)
      have HP6 := Lib.hid hP6
      have HP7 := Lib.hid hP7
      obtain ⟨R1, hR1⟩ : ∃ R1, R1 = sha (P6 ++ text.data.toList) := ⟨_, rfl⟩
      have HR1 := Lib.hid hR1
      have HR1L : Hid (R1.length = 32) := Lib.hid (by rw [hR1]; exact sha_len _)
      have HRR : Hid (R = sha (P7 ++ R1)) := Lib.hid (by rw [hR.out, hR1, hP6, hP7]; rfl)
      have HRL : Hid (R.length = 32) := Lib.hid (by rw [HRR.out]; exact sha_len _)
      have C1 : Hid (∀ W, Below wr.heap.size wr W → Calls Tryd.prog 53 #[.agg (SC init Z64 0).toArray, .slice (some ⟨M, 0, none⟩) 64 64] W fun e w' => ∃ rest' v', e = .returned (.agg (SC v' rest' 64).toArray) ∧ Part P6 rest' (64 % 64) v' ∧ Below W.heap.size W w') := Lib.hid (fun W hW => by
        have := extB_go [] P6 Z64 init 0 0 (some ⟨M, 0, none⟩) 64 W part_z rfl (rd_blk (f6.below hW f6.lt)) (by omega) (by omega) (HT.out.below (HB.out.trans (hW.mono (Nat.le_trans hMw (Nat.le_of_lt f6.lt)))) HT.out.1) 64 (by omega) P6 (Lib.hid rfl)
        rw [l6] at this; exact this)
      have C2 : Hid (∀ W rest v, Below wr.heap.size wr W → Hid (Part P6 rest (64 % 64) v) → Calls Tryd.prog 60 #[.agg (SC v rest 64).toArray, .string text] W fun e w' => ∃ rest' v', e = .returned (.agg (SC v' rest' (64 + text.size)).toArray) ∧ Part (P6 ++ text.data.toList) rest' ((64 + text.size) % 64) v' ∧ Below W.heap.size W w') := Lib.hid (fun W rest v hW hp =>
        add_go P6 rest text v 64 W hp.out l6.symm (by omega) (HT.out.below (HB.out.trans (hW.mono (Nat.le_trans hMw (Nat.le_of_lt f6.lt)))) HT.out.1) _ rfl _ (Lib.hid rfl))
      have C3 : Hid (∀ W rest v, Below wr.heap.size wr W → Hid (Part (P6 ++ text.data.toList) rest ((64 + text.size) % 64) v) → Calls Tryd.prog 56 #[.agg (SC v rest (64 + text.size)).toArray] W fun e w' => e = .returned (.agg (B8 R1).toArray) ∧ Below W.heap.size W w') := Lib.hid (fun W rest v hW hp =>
        ssum_go _ rest v _ W hp.out (by rw [List.length_append, l6, size_l]) (by omega) (HT.out.below (HB.out.trans (hW.mono (Nat.le_trans hMw (Nat.le_of_lt f6.lt)))) HT.out.1) R1 HR1)
      clear hP6 hP7 e6 e7 hR1
      go_wp2_with fail
      go_upto_region 13 with (fail)
      go_cut [9] (fun s9 wx => ∃ g, s9 = .pointer (some ⟨g, 0, none⟩) ∧ Blk wx g 85 (B8 R1) ∧ Below wr.heap.size wr wx ∧ wr.heap.size ≤ g)
      case first =>
        refine wp_region_any (by kernel_rfl) ?_
        change wpAny _ _ _ _ _ _ _ (World.drew wr)
        have hS0 : Below wr.heap.size wr wr.drew := (Below.refl _ _).drew
        generalize World.drew wr = Wd at hS0 ⊢
        refine wpAny_take (i := 1) (oi := ⟨some 41, .slice 78 (.tmp 6) none none none, 54, "hash.go:84", #[], none⟩) (v := .slice (some ⟨M, 0, none⟩) 64 64) rfl (by kernel_rfl) (by kernel_rfl) (by kernel_rfl) (fun _ _ _ h => h) (Or.inl ⟨by rfl, fun W => ?y1⟩) ?_
        case y1 => go_simp
        try dsimp only [Act.put]
        try simp only [List.setIfInBounds_toArray, List.set_cons_zero, List.set_cons_succ]
        refine wpAny_take (i := 3) (oi := ⟨some 43, .move (.tmp 1), 9, "hash.go:84", #[], none⟩) (v := .string text) rfl (by kernel_rfl) (by kernel_rfl) (by kernel_rfl) (fun _ _ _ h => h) (Or.inl ⟨by rfl, fun W => ?y3⟩) ?_
        case y3 => go_simp
        try dsimp only [Act.put]
        try simp only [List.setIfInBounds_toArray, List.set_cons_zero, List.set_cons_succ]
        refine wpAny_ready (rs := [0, 6]) (by kernel_rfl) (by simp) ?_
        refine AllReady.cons (o := ⟨some 40, .call { callee := .value (.func 54), args := #[], argTypes := #[] }, 81, "hash.go:84", #[], none⟩) rfl (fun K hK => ?_) (AllReady.cons (o := ⟨some 9, .alloc 85, 0, "hash.go:84", #[], none⟩) rfl (fun K hK => ?_) AllReady.nil)
        · rw [if_pos (by rfl)]
          go_simp
          refine (begin_s _).mono ?_
          rintro e wq1 ⟨rfl, hb2⟩
          have hS3 : Below wr.heap.size wr wq1 := hS0.trans (hb2.mono hS0.size)
          go_wp2_with fail
          (try (refine hK _ _ ?_; clear hK K))
          try dsimp only [Act.put]
          try simp only [List.setIfInBounds_toArray, List.set_cons_zero, List.set_cons_succ]
          refine wpAny_ready (rs := [2, 6]) (by kernel_rfl) (by simp) ?_
          refine AllReady.cons (o := ⟨some 42, .call { callee := .value (.func 53), args := #[.tmp 40, .tmp 41], argTypes := #[81, 54] }, 81, "hash.go:84", #[{ on := 0, ground := Ground.data }, { on := 1, ground := Ground.data }, { on := 0, ground := Ground.chain }], none⟩) rfl (fun K hK => ?_) (AllReady.cons (o := ⟨some 9, .alloc 85, 0, "hash.go:84", #[], none⟩) rfl (fun K hK => ?_) AllReady.nil)
          · rw [if_pos (by rfl)]
            go_simp
            refine (C1.out _ hS3).mono ?_
            rintro e wq7 ⟨rs4, vs5, rfl, hp6, hb8⟩
            replace hp6 := Lib.hid hp6
            have hS9 : Below wr.heap.size wr wq7 := hS3.trans (hb8.mono hS3.size)
            go_wp2_with fail
            (try (refine hK _ _ ?_; clear hK K))
            try dsimp only [Act.put]
            try simp only [List.setIfInBounds_toArray, List.set_cons_zero, List.set_cons_succ]
            refine wpAny_ready (rs := [4, 6]) (by kernel_rfl) (by simp) ?_
            refine AllReady.cons (o := ⟨some 44, .call { callee := .value (.func 60), args := #[.tmp 42, .tmp 43], argTypes := #[81, 9] }, 81, "hash.go:84", #[{ on := 2, ground := Ground.data }, { on := 3, ground := Ground.data }, { on := 2, ground := Ground.chain }], none⟩) rfl (fun K hK => ?_) (AllReady.cons (o := ⟨some 9, .alloc 85, 0, "hash.go:84", #[], none⟩) rfl (fun K hK => ?_) AllReady.nil)
            · rw [if_pos (by rfl)]
              go_simp
              refine (C2.out _ _ _ hS9 hp6).mono ?_
              rintro e wq13 ⟨rs10, vs11, rfl, hp12, hb14⟩
              replace hp12 := Lib.hid hp12
              have hS15 : Below wr.heap.size wr wq13 := hS9.trans (hb14.mono hS9.size)
              go_wp2_with fail
              (try (refine hK _ _ ?_; clear hK K))
              try dsimp only [Act.put]
              try simp only [List.setIfInBounds_toArray, List.set_cons_zero, List.set_cons_succ]
              refine wpAny_ready (rs := [5, 6]) (by kernel_rfl) (by simp) ?_
              refine AllReady.cons (o := ⟨some 45, .call { callee := .value (.func 56), args := #[.tmp 44], argTypes := #[81] }, 85, "hash.go:84", #[{ on := 4, ground := Ground.data }, { on := 4, ground := Ground.chain }], none⟩) rfl (fun K hK => ?_) (AllReady.cons (o := ⟨some 9, .alloc 85, 0, "hash.go:84", #[], none⟩) rfl (fun K hK => ?_) AllReady.nil)
              · rw [if_pos (by rfl)]
                go_simp
                refine (C3.out _ _ _ hS15 hp12).mono ?_
                rintro e wq16 ⟨rfl, hb17⟩
                have hS18 : Below wr.heap.size wr wq16 := hS15.trans (hb17.mono hS15.size)
                go_wp2_with fail
                (try (refine hK _ _ ?_; clear hK K))
                try dsimp only [Act.put]
                try simp only [List.setIfInBounds_toArray, List.set_cons_zero, List.set_cons_succ]
                refine wpAny_ready (rs := [6]) (by kernel_rfl) (by simp) ?_
                refine AllReady.cons (o := ⟨some 9, .alloc 85, 0, "hash.go:84", #[], none⟩) rfl (fun K hK => ?_) AllReady.nil
                rw [if_pos (by rfl)]
                go_simp
                generalize hq23 : World.alloc _ _ = wq19
                obtain ⟨gg24, hgt25⟩ : ∃ gg24, gg24 = wq16.heap.size := ⟨_, rfl⟩
                have hS20 : Below wr.heap.size wr wq19 := by rw [← hq23]; exact hS18.alloc hS18.size _
                have hg21 : Blk wq19 gg24 85 (B8 (List.replicate 32 0)) := by rw [← hq23, hgt25]; exact Blk.new wq16 85 (B8 (List.replicate 32 0))
                have hle22 : wr.heap.size ≤ gg24 := by rw [hgt25]; exact hS18.size
                rw [← hgt25]
                clear hq23 hgt25
                refine hK _ _ ?_
                clear hK K
                try dsimp only [Act.put]
                try simp only [List.setIfInBounds_toArray, List.set_cons_zero, List.set_cons_succ]
                refine wpAny_ready (rs := [7]) (by kernel_rfl) (by simp) ?_
                refine AllReady.cons (o := ⟨none, .store 85 (.tmp 9) (.tmp 45), 0, "hash.go:84", #[{ on := 6, ground := Ground.data }, { on := 5, ground := Ground.data }, { on := 5, ground := Ground.chain }, { on := 0, ground := Ground.phase }, { on := 1, ground := Ground.phase }, { on := 2, ground := Ground.phase }, { on := 3, ground := Ground.phase }, { on := 4, ground := Ground.phase }, { on := 5, ground := Ground.phase }, { on := 6, ground := Ground.phase }], none⟩) rfl (fun K hK => ?_) AllReady.nil
                rw [if_pos (by rfl)]
                refine wp_store_row 85 (.tmp 9) (.tmp 45) rfl gg24 (B8 R1).toArray rfl rfl 85 _ hg21 (size24' _ HR1L.out) (by rw [List.size_toArray, List.size_toArray, B8_len, B8_len, HR1L.out]; rfl) (one8 _) ?_
                refine hK _ _ ?_
                clear hK K
                refine wpAny_done (by kernel_rfl) ?_ _
                try dsimp only [Act.put]
                try simp only [List.setIfInBounds_toArray, List.set_cons_zero, List.set_cons_succ]
                go_wp2_with fail
                go_meet
                exact ⟨gg24, rfl, hg21.row _, belowRow hS20 hle22 _, hle22⟩
              · rw [if_pos (by rfl)]
                go_simp
                generalize hq30 : World.alloc _ _ = wq26
                obtain ⟨gg31, hgt32⟩ : ∃ gg31, gg31 = wq13.heap.size := ⟨_, rfl⟩
                have hS27 : Below wr.heap.size wr wq26 := by rw [← hq30]; exact hS15.alloc hS15.size _
                have hg28 : Blk wq26 gg31 85 (B8 (List.replicate 32 0)) := by rw [← hq30, hgt32]; exact Blk.new wq13 85 (B8 (List.replicate 32 0))
                have hle29 : wr.heap.size ≤ gg31 := by rw [hgt32]; exact hS15.size
                rw [← hgt32]
                clear hq30 hgt32
                refine hK _ _ ?_
                clear hK K
                try dsimp only [Act.put]
                try simp only [List.setIfInBounds_toArray, List.set_cons_zero, List.set_cons_succ]
                refine wpAny_ready (rs := [5]) (by kernel_rfl) (by simp) ?_
                refine AllReady.cons (o := ⟨some 45, .call { callee := .value (.func 56), args := #[.tmp 44], argTypes := #[81] }, 85, "hash.go:84", #[{ on := 4, ground := Ground.data }, { on := 4, ground := Ground.chain }], none⟩) rfl (fun K hK => ?_) AllReady.nil
                rw [if_pos (by rfl)]
                go_simp
                refine (C3.out _ _ _ hS27 hp12).mono ?_
                rintro e wq33 ⟨rfl, hb34⟩
                have hS35 : Below wr.heap.size wr wq33 := hS27.trans (hb34.mono hS27.size)
                have hg36 : Blk wq33 gg31 85 (B8 (List.replicate 32 0)) := hg28.below hb34 hg28.lt
                go_wp2_with fail
                (try (refine hK _ _ ?_; clear hK K))
                try dsimp only [Act.put]
                try simp only [List.setIfInBounds_toArray, List.set_cons_zero, List.set_cons_succ]
                refine wpAny_ready (rs := [7]) (by kernel_rfl) (by simp) ?_
                refine AllReady.cons (o := ⟨none, .store 85 (.tmp 9) (.tmp 45), 0, "hash.go:84", #[{ on := 6, ground := Ground.data }, { on := 5, ground := Ground.data }, { on := 5, ground := Ground.chain }, { on := 0, ground := Ground.phase }, { on := 1, ground := Ground.phase }, { on := 2, ground := Ground.phase }, { on := 3, ground := Ground.phase }, { on := 4, ground := Ground.phase }, { on := 5, ground := Ground.phase }, { on := 6, ground := Ground.phase }], none⟩) rfl (fun K hK => ?_) AllReady.nil
                rw [if_pos (by rfl)]
                refine wp_store_row 85 (.tmp 9) (.tmp 45) rfl gg31 (B8 R1).toArray rfl rfl 85 _ hg36 (size24' _ HR1L.out) (by rw [List.size_toArray, List.size_toArray, B8_len, B8_len, HR1L.out]; rfl) (one8 _) ?_
                refine hK _ _ ?_
                clear hK K
                refine wpAny_done (by kernel_rfl) ?_ _
                try dsimp only [Act.put]
                try simp only [List.setIfInBounds_toArray, List.set_cons_zero, List.set_cons_succ]
                go_wp2_with fail
                go_meet
                exact ⟨gg31, rfl, hg36.row _, belowRow hS35 hle29 _, hle29⟩
            · rw [if_pos (by rfl)]
              go_simp
              generalize hq41 : World.alloc _ _ = wq37
              obtain ⟨gg42, hgt43⟩ : ∃ gg42, gg42 = wq7.heap.size := ⟨_, rfl⟩
              have hS38 : Below wr.heap.size wr wq37 := by rw [← hq41]; exact hS9.alloc hS9.size _
              have hg39 : Blk wq37 gg42 85 (B8 (List.replicate 32 0)) := by rw [← hq41, hgt43]; exact Blk.new wq7 85 (B8 (List.replicate 32 0))
              have hle40 : wr.heap.size ≤ gg42 := by rw [hgt43]; exact hS9.size
              rw [← hgt43]
              clear hq41 hgt43
              refine hK _ _ ?_
              clear hK K
              try dsimp only [Act.put]
              try simp only [List.setIfInBounds_toArray, List.set_cons_zero, List.set_cons_succ]
              refine wpAny_ready (rs := [4]) (by kernel_rfl) (by simp) ?_
              refine AllReady.cons (o := ⟨some 44, .call { callee := .value (.func 60), args := #[.tmp 42, .tmp 43], argTypes := #[81, 9] }, 81, "hash.go:84", #[{ on := 2, ground := Ground.data }, { on := 3, ground := Ground.data }, { on := 2, ground := Ground.chain }], none⟩) rfl (fun K hK => ?_) AllReady.nil
              rw [if_pos (by rfl)]
              go_simp
              refine (C2.out _ _ _ hS38 hp6).mono ?_
              rintro e wq47 ⟨rs44, vs45, rfl, hp46, hb48⟩
              replace hp46 := Lib.hid hp46
              have hS49 : Below wr.heap.size wr wq47 := hS38.trans (hb48.mono hS38.size)
              have hg50 : Blk wq47 gg42 85 (B8 (List.replicate 32 0)) := hg39.below hb48 hg39.lt
              go_wp2_with fail
              (try (refine hK _ _ ?_; clear hK K))
              try dsimp only [Act.put]
              try simp only [List.setIfInBounds_toArray, List.set_cons_zero, List.set_cons_succ]
              refine wpAny_ready (rs := [5]) (by kernel_rfl) (by simp) ?_
              refine AllReady.cons (o := ⟨some 45, .call { callee := .value (.func 56), args := #[.tmp 44], argTypes := #[81] }, 85, "hash.go:84", #[{ on := 4, ground := Ground.data }, { on := 4, ground := Ground.chain }], none⟩) rfl (fun K hK => ?_) AllReady.nil
              rw [if_pos (by rfl)]
              go_simp
              refine (C3.out _ _ _ hS49 hp46).mono ?_
              rintro e wq51 ⟨rfl, hb52⟩
              have hS53 : Below wr.heap.size wr wq51 := hS49.trans (hb52.mono hS49.size)
              have hg54 : Blk wq51 gg42 85 (B8 (List.replicate 32 0)) := hg50.below hb52 hg50.lt
              go_wp2_with fail
              (try (refine hK _ _ ?_; clear hK K))
              try dsimp only [Act.put]
              try simp only [List.setIfInBounds_toArray, List.set_cons_zero, List.set_cons_succ]
              refine wpAny_ready (rs := [7]) (by kernel_rfl) (by simp) ?_
              refine AllReady.cons (o := ⟨none, .store 85 (.tmp 9) (.tmp 45), 0, "hash.go:84", #[{ on := 6, ground := Ground.data }, { on := 5, ground := Ground.data }, { on := 5, ground := Ground.chain }, { on := 0, ground := Ground.phase }, { on := 1, ground := Ground.phase }, { on := 2, ground := Ground.phase }, { on := 3, ground := Ground.phase }, { on := 4, ground := Ground.phase }, { on := 5, ground := Ground.phase }, { on := 6, ground := Ground.phase }], none⟩) rfl (fun K hK => ?_) AllReady.nil
              rw [if_pos (by rfl)]
              refine wp_store_row 85 (.tmp 9) (.tmp 45) rfl gg42 (B8 R1).toArray rfl rfl 85 _ hg54 (size24' _ HR1L.out) (by rw [List.size_toArray, List.size_toArray, B8_len, B8_len, HR1L.out]; rfl) (one8 _) ?_
              refine hK _ _ ?_
              clear hK K
              refine wpAny_done (by kernel_rfl) ?_ _
              try dsimp only [Act.put]
              try simp only [List.setIfInBounds_toArray, List.set_cons_zero, List.set_cons_succ]
              go_wp2_with fail
              go_meet
              exact ⟨gg42, rfl, hg54.row _, belowRow hS53 hle40 _, hle40⟩
          · rw [if_pos (by rfl)]
            go_simp
            generalize hq59 : World.alloc _ _ = wq55
            obtain ⟨gg60, hgt61⟩ : ∃ gg60, gg60 = wq1.heap.size := ⟨_, rfl⟩
            have hS56 : Below wr.heap.size wr wq55 := by rw [← hq59]; exact hS3.alloc hS3.size _
            have hg57 : Blk wq55 gg60 85 (B8 (List.replicate 32 0)) := by rw [← hq59, hgt61]; exact Blk.new wq1 85 (B8 (List.replicate 32 0))
            have hle58 : wr.heap.size ≤ gg60 := by rw [hgt61]; exact hS3.size
            rw [← hgt61]
            clear hq59 hgt61
            refine hK _ _ ?_
            clear hK K
            try dsimp only [Act.put]
            try simp only [List.setIfInBounds_toArray, List.set_cons_zero, List.set_cons_succ]
            refine wpAny_ready (rs := [2]) (by kernel_rfl) (by simp) ?_
            refine AllReady.cons (o := ⟨some 42, .call { callee := .value (.func 53), args := #[.tmp 40, .tmp 41], argTypes := #[81, 54] }, 81, "hash.go:84", #[{ on := 0, ground := Ground.data }, { on := 1, ground := Ground.data }, { on := 0, ground := Ground.chain }], none⟩) rfl (fun K hK => ?_) AllReady.nil
            rw [if_pos (by rfl)]
            go_simp
            refine (C1.out _ hS56).mono ?_
            rintro e wq65 ⟨rs62, vs63, rfl, hp64, hb66⟩
            replace hp64 := Lib.hid hp64
            have hS67 : Below wr.heap.size wr wq65 := hS56.trans (hb66.mono hS56.size)
            have hg68 : Blk wq65 gg60 85 (B8 (List.replicate 32 0)) := hg57.below hb66 hg57.lt
            go_wp2_with fail
            (try (refine hK _ _ ?_; clear hK K))
            try dsimp only [Act.put]
            try simp only [List.setIfInBounds_toArray, List.set_cons_zero, List.set_cons_succ]
            refine wpAny_ready (rs := [4]) (by kernel_rfl) (by simp) ?_
            refine AllReady.cons (o := ⟨some 44, .call { callee := .value (.func 60), args := #[.tmp 42, .tmp 43], argTypes := #[81, 9] }, 81, "hash.go:84", #[{ on := 2, ground := Ground.data }, { on := 3, ground := Ground.data }, { on := 2, ground := Ground.chain }], none⟩) rfl (fun K hK => ?_) AllReady.nil
            rw [if_pos (by rfl)]
            go_simp
            refine (C2.out _ _ _ hS67 hp64).mono ?_
            rintro e wq72 ⟨rs69, vs70, rfl, hp71, hb73⟩
            replace hp71 := Lib.hid hp71
            have hS74 : Below wr.heap.size wr wq72 := hS67.trans (hb73.mono hS67.size)
            have hg75 : Blk wq72 gg60 85 (B8 (List.replicate 32 0)) := hg68.below hb73 hg68.lt
            go_wp2_with fail
            (try (refine hK _ _ ?_; clear hK K))
            try dsimp only [Act.put]
            try simp only [List.setIfInBounds_toArray, List.set_cons_zero, List.set_cons_succ]
            refine wpAny_ready (rs := [5]) (by kernel_rfl) (by simp) ?_
            refine AllReady.cons (o := ⟨some 45, .call { callee := .value (.func 56), args := #[.tmp 44], argTypes := #[81] }, 85, "hash.go:84", #[{ on := 4, ground := Ground.data }, { on := 4, ground := Ground.chain }], none⟩) rfl (fun K hK => ?_) AllReady.nil
            rw [if_pos (by rfl)]
            go_simp
            refine (C3.out _ _ _ hS74 hp71).mono ?_
            rintro e wq76 ⟨rfl, hb77⟩
            have hS78 : Below wr.heap.size wr wq76 := hS74.trans (hb77.mono hS74.size)
            have hg79 : Blk wq76 gg60 85 (B8 (List.replicate 32 0)) := hg75.below hb77 hg75.lt
            go_wp2_with fail
            (try (refine hK _ _ ?_; clear hK K))
            try dsimp only [Act.put]
            try simp only [List.setIfInBounds_toArray, List.set_cons_zero, List.set_cons_succ]
            refine wpAny_ready (rs := [7]) (by kernel_rfl) (by simp) ?_
            refine AllReady.cons (o := ⟨none, .store 85 (.tmp 9) (.tmp 45), 0, "hash.go:84", #[{ on := 6, ground := Ground.data }, { on := 5, ground := Ground.data }, { on := 5, ground := Ground.chain }, { on := 0, ground := Ground.phase }, { on := 1, ground := Ground.phase }, { on := 2, ground := Ground.phase }, { on := 3, ground := Ground.phase }, { on := 4, ground := Ground.phase }, { on := 5, ground := Ground.phase }, { on := 6, ground := Ground.phase }], none⟩) rfl (fun K hK => ?_) AllReady.nil
            rw [if_pos (by rfl)]
            refine wp_store_row 85 (.tmp 9) (.tmp 45) rfl gg60 (B8 R1).toArray rfl rfl 85 _ hg79 (size24' _ HR1L.out) (by rw [List.size_toArray, List.size_toArray, B8_len, B8_len, HR1L.out]; rfl) (one8 _) ?_
            refine hK _ _ ?_
            clear hK K
            refine wpAny_done (by kernel_rfl) ?_ _
            try dsimp only [Act.put]
            try simp only [List.setIfInBounds_toArray, List.set_cons_zero, List.set_cons_succ]
            go_wp2_with fail
            go_meet
            exact ⟨gg60, rfl, hg79.row _, belowRow hS78 hle58 _, hle58⟩
        · rw [if_pos (by rfl)]
          go_simp
          generalize hq84 : World.alloc _ _ = wq80
          obtain ⟨gg85, hgt86⟩ : ∃ gg85, gg85 = Wd.heap.size := ⟨_, rfl⟩
          have hS81 : Below wr.heap.size wr wq80 := by rw [← hq84]; exact hS0.alloc hS0.size _
          have hg82 : Blk wq80 gg85 85 (B8 (List.replicate 32 0)) := by rw [← hq84, hgt86]; exact Blk.new Wd 85 (B8 (List.replicate 32 0))
          have hle83 : wr.heap.size ≤ gg85 := by rw [hgt86]; exact hS0.size
          rw [← hgt86]
          clear hq84 hgt86
          refine hK _ _ ?_
          clear hK K
          try dsimp only [Act.put]
          try simp only [List.setIfInBounds_toArray, List.set_cons_zero, List.set_cons_succ]
          refine wpAny_ready (rs := [0]) (by kernel_rfl) (by simp) ?_
          refine AllReady.cons (o := ⟨some 40, .call { callee := .value (.func 54), args := #[], argTypes := #[] }, 81, "hash.go:84", #[], none⟩) rfl (fun K hK => ?_) AllReady.nil
          rw [if_pos (by rfl)]
          go_simp
          refine (begin_s _).mono ?_
          rintro e wq87 ⟨rfl, hb88⟩
          have hS89 : Below wr.heap.size wr wq87 := hS81.trans (hb88.mono hS81.size)
          have hg90 : Blk wq87 gg85 85 (B8 (List.replicate 32 0)) := hg82.below hb88 hg82.lt
          go_wp2_with fail
          (try (refine hK _ _ ?_; clear hK K))
          try dsimp only [Act.put]
          try simp only [List.setIfInBounds_toArray, List.set_cons_zero, List.set_cons_succ]
          refine wpAny_ready (rs := [2]) (by kernel_rfl) (by simp) ?_
          refine AllReady.cons (o := ⟨some 42, .call { callee := .value (.func 53), args := #[.tmp 40, .tmp 41], argTypes := #[81, 54] }, 81, "hash.go:84", #[{ on := 0, ground := Ground.data }, { on := 1, ground := Ground.data }, { on := 0, ground := Ground.chain }], none⟩) rfl (fun K hK => ?_) AllReady.nil
          rw [if_pos (by rfl)]
          go_simp
          refine (C1.out _ hS89).mono ?_
          rintro e wq94 ⟨rs91, vs92, rfl, hp93, hb95⟩
          replace hp93 := Lib.hid hp93
          have hS96 : Below wr.heap.size wr wq94 := hS89.trans (hb95.mono hS89.size)
          have hg97 : Blk wq94 gg85 85 (B8 (List.replicate 32 0)) := hg90.below hb95 hg90.lt
          go_wp2_with fail
          (try (refine hK _ _ ?_; clear hK K))
          try dsimp only [Act.put]
          try simp only [List.setIfInBounds_toArray, List.set_cons_zero, List.set_cons_succ]
          refine wpAny_ready (rs := [4]) (by kernel_rfl) (by simp) ?_
          refine AllReady.cons (o := ⟨some 44, .call { callee := .value (.func 60), args := #[.tmp 42, .tmp 43], argTypes := #[81, 9] }, 81, "hash.go:84", #[{ on := 2, ground := Ground.data }, { on := 3, ground := Ground.data }, { on := 2, ground := Ground.chain }], none⟩) rfl (fun K hK => ?_) AllReady.nil
          rw [if_pos (by rfl)]
          go_simp
          refine (C2.out _ _ _ hS96 hp93).mono ?_
          rintro e wq101 ⟨rs98, vs99, rfl, hp100, hb102⟩
          replace hp100 := Lib.hid hp100
          have hS103 : Below wr.heap.size wr wq101 := hS96.trans (hb102.mono hS96.size)
          have hg104 : Blk wq101 gg85 85 (B8 (List.replicate 32 0)) := hg97.below hb102 hg97.lt
          go_wp2_with fail
          (try (refine hK _ _ ?_; clear hK K))
          try dsimp only [Act.put]
          try simp only [List.setIfInBounds_toArray, List.set_cons_zero, List.set_cons_succ]
          refine wpAny_ready (rs := [5]) (by kernel_rfl) (by simp) ?_
          refine AllReady.cons (o := ⟨some 45, .call { callee := .value (.func 56), args := #[.tmp 44], argTypes := #[81] }, 85, "hash.go:84", #[{ on := 4, ground := Ground.data }, { on := 4, ground := Ground.chain }], none⟩) rfl (fun K hK => ?_) AllReady.nil
          rw [if_pos (by rfl)]
          go_simp
          refine (C3.out _ _ _ hS103 hp100).mono ?_
          rintro e wq105 ⟨rfl, hb106⟩
          have hS107 : Below wr.heap.size wr wq105 := hS103.trans (hb106.mono hS103.size)
          have hg108 : Blk wq105 gg85 85 (B8 (List.replicate 32 0)) := hg104.below hb106 hg104.lt
          go_wp2_with fail
          (try (refine hK _ _ ?_; clear hK K))
          try dsimp only [Act.put]
          try simp only [List.setIfInBounds_toArray, List.set_cons_zero, List.set_cons_succ]
          refine wpAny_ready (rs := [7]) (by kernel_rfl) (by simp) ?_
          refine AllReady.cons (o := ⟨none, .store 85 (.tmp 9) (.tmp 45), 0, "hash.go:84", #[{ on := 6, ground := Ground.data }, { on := 5, ground := Ground.data }, { on := 5, ground := Ground.chain }, { on := 0, ground := Ground.phase }, { on := 1, ground := Ground.phase }, { on := 2, ground := Ground.phase }, { on := 3, ground := Ground.phase }, { on := 4, ground := Ground.phase }, { on := 5, ground := Ground.phase }, { on := 6, ground := Ground.phase }], none⟩) rfl (fun K hK => ?_) AllReady.nil
          rw [if_pos (by rfl)]
          refine wp_store_row 85 (.tmp 9) (.tmp 45) rfl gg85 (B8 R1).toArray rfl rfl 85 _ hg108 (size24' _ HR1L.out) (by rw [List.size_toArray, List.size_toArray, B8_len, B8_len, HR1L.out]; rfl) (one8 _) ?_
          refine hK _ _ ?_
          clear hK K
          refine wpAny_done (by kernel_rfl) ?_ _
          try dsimp only [Act.put]
          try simp only [List.setIfInBounds_toArray, List.set_cons_zero, List.set_cons_succ]
          go_wp2_with fail
          go_meet
          exact ⟨gg85, rfl, hg108.row _, belowRow hS107 hle83 _, hle83⟩
      case rest =>
        obtain ⟨g9, rfl, f9, hbw, hge⟩ := hcut
        have k7 : Blk wc (M + 1) 78 (B8 P7) := f7.below hbw f7.lt
        have hwc : Below w.heap.size w wc := HB.out.trans (hbw.mono (Nat.le_trans hMw (Nat.le_of_lt f6.lt)))
        have HWC := Lib.hid hwc
        have hle : w.heap.size ≤ wc.heap.size := hwc.size
        have D1 : Hid (∀ W, Below wc.heap.size wc W → Calls Tryd.prog 53 #[.agg (SC init Z64 0).toArray, .slice (some ⟨M + 1, 0, none⟩) 64 64] W fun e w' => ∃ rest' v', e = .returned (.agg (SC v' rest' 64).toArray) ∧ Part P7 rest' (64 % 64) v' ∧ Below W.heap.size W w') := Lib.hid (fun W hW => by
          have := extB_go [] P7 Z64 init 0 0 (some ⟨M + 1, 0, none⟩) 64 W part_z rfl (rd_blk (k7.below hW k7.lt)) (by omega) (by omega) (HT.out.below (HWC.out.trans (hW.mono HWC.out.size)) HT.out.1) 64 (by omega) P7 (Lib.hid rfl)
          rw [l7] at this; exact this)
        have D2 : Hid (∀ W rest v, Below wc.heap.size wc W → Hid (Part P7 rest (64 % 64) v) → Calls Tryd.prog 53 #[.agg (SC v rest 64).toArray, .slice (some ⟨g9, 0, none⟩) 32 32] W fun e w' => ∃ rest' v', e = .returned (.agg (SC v' rest' 96).toArray) ∧ Part (P7 ++ R1) rest' (96 % 64) v' ∧ Below W.heap.size W w') := Lib.hid (fun W rest v hW hp => by
          have hl := HR1L.out
          have := extB_go P7 R1 rest v 64 (64 % 64) (some ⟨g9, 0, none⟩) 32 W hp.out l7.symm (rd_blk (f9.below hW f9.lt)) (by omega) (by omega) (HT.out.below (HWC.out.trans (hW.mono HWC.out.size)) HT.out.1) 96 (by omega) (P7 ++ R1) (Lib.hid rfl)
          rw [hl] at this; exact this)
        have D3 : Hid (∀ W rest v, Below wc.heap.size wc W → Hid (Part (P7 ++ R1) rest (96 % 64) v) → Calls Tryd.prog 56 #[.agg (SC v rest 96).toArray] W fun e w' => e = .returned (.agg (B8 R).toArray) ∧ Below W.heap.size W w') := Lib.hid (fun W rest v hW hp =>
          ssum_go _ rest v _ W hp.out (by rw [List.length_append, l7, HR1L.out]) (by omega) (HT.out.below (HWC.out.trans (hW.mono HWC.out.size)) HT.out.1) R HRR)
        clear C1 C2 C3 f6 f7 HB hbw hge hwc
        go_wp2_with fail
        go_upto_region 14 with (fail)
        go_cut [10] (fun s10 wx => ∃ g, s10 = .pointer (some ⟨g, 0, none⟩) ∧ Blk wx g 85 (B8 R) ∧ Below wc.heap.size wc wx ∧ wc.heap.size ≤ g)
        case first =>
          refine wp_region_any (by kernel_rfl) ?_
          change wpAny _ _ _ _ _ _ _ (World.drew wc)
          have hS0 : Below wc.heap.size wc wc.drew := (Below.refl _ _).drew
          generalize World.drew wc = Wd at hS0 ⊢
          refine wpAny_take (i := 1) (oi := ⟨some 47, .slice 78 (.tmp 7) none none none, 54, "hash.go:85", #[], none⟩) (v := .slice (some ⟨M + 1, 0, none⟩) 64 64) rfl (by kernel_rfl) (by kernel_rfl) (by kernel_rfl) (fun _ _ _ h => h) (Or.inl ⟨by rfl, fun W => ?y1⟩) ?_
          case y1 => go_simp
          try dsimp only [Act.put]
          try simp only [List.setIfInBounds_toArray, List.set_cons_zero, List.set_cons_succ]
          refine wpAny_take (i := 3) (oi := ⟨some 49, .slice 85 (.tmp 9) none none none, 54, "hash.go:85", #[], none⟩) (v := .slice (some ⟨g9, 0, none⟩) 32 32) rfl (by kernel_rfl) (by kernel_rfl) (by kernel_rfl) (fun _ _ _ h => h) (Or.inl ⟨by rfl, fun W => ?y3⟩) ?_
          case y3 => go_simp
          try dsimp only [Act.put]
          try simp only [List.setIfInBounds_toArray, List.set_cons_zero, List.set_cons_succ]
          refine wpAny_ready (rs := [0, 6]) (by kernel_rfl) (by simp) ?_
          refine AllReady.cons (o := ⟨some 46, .call { callee := .value (.func 54), args := #[], argTypes := #[] }, 81, "hash.go:85", #[], none⟩) rfl (fun K hK => ?_) (AllReady.cons (o := ⟨some 10, .alloc 85, 0, "hash.go:85", #[], none⟩) rfl (fun K hK => ?_) AllReady.nil)
          · rw [if_pos (by rfl)]
            go_simp
            refine (begin_s _).mono ?_
            rintro e wq1 ⟨rfl, hb2⟩
            have hS3 : Below wc.heap.size wc wq1 := hS0.trans (hb2.mono hS0.size)
            go_wp2_with fail
            (try (refine hK _ _ ?_; clear hK K))
            try dsimp only [Act.put]
            try simp only [List.setIfInBounds_toArray, List.set_cons_zero, List.set_cons_succ]
            refine wpAny_ready (rs := [2, 6]) (by kernel_rfl) (by simp) ?_
            refine AllReady.cons (o := ⟨some 48, .call { callee := .value (.func 53), args := #[.tmp 46, .tmp 47], argTypes := #[81, 54] }, 81, "hash.go:85", #[{ on := 0, ground := Ground.data }, { on := 1, ground := Ground.data }, { on := 0, ground := Ground.chain }], none⟩) rfl (fun K hK => ?_) (AllReady.cons (o := ⟨some 10, .alloc 85, 0, "hash.go:85", #[], none⟩) rfl (fun K hK => ?_) AllReady.nil)
            · rw [if_pos (by rfl)]
              go_simp
              refine (D1.out _ hS3).mono ?_
              rintro e wq7 ⟨rs4, vs5, rfl, hp6, hb8⟩
              replace hp6 := Lib.hid hp6
              have hS9 : Below wc.heap.size wc wq7 := hS3.trans (hb8.mono hS3.size)
              go_wp2_with fail
              (try (refine hK _ _ ?_; clear hK K))
              try dsimp only [Act.put]
              try simp only [List.setIfInBounds_toArray, List.set_cons_zero, List.set_cons_succ]
              refine wpAny_ready (rs := [4, 6]) (by kernel_rfl) (by simp) ?_
              refine AllReady.cons (o := ⟨some 50, .call { callee := .value (.func 53), args := #[.tmp 48, .tmp 49], argTypes := #[81, 54] }, 81, "hash.go:85", #[{ on := 2, ground := Ground.data }, { on := 3, ground := Ground.data }, { on := 2, ground := Ground.chain }], none⟩) rfl (fun K hK => ?_) (AllReady.cons (o := ⟨some 10, .alloc 85, 0, "hash.go:85", #[], none⟩) rfl (fun K hK => ?_) AllReady.nil)
              · rw [if_pos (by rfl)]
                go_simp
                refine (D2.out _ _ _ hS9 hp6).mono ?_
                rintro e wq13 ⟨rs10, vs11, rfl, hp12, hb14⟩
                replace hp12 := Lib.hid hp12
                have hS15 : Below wc.heap.size wc wq13 := hS9.trans (hb14.mono hS9.size)
                go_wp2_with fail
                (try (refine hK _ _ ?_; clear hK K))
                try dsimp only [Act.put]
                try simp only [List.setIfInBounds_toArray, List.set_cons_zero, List.set_cons_succ]
                refine wpAny_ready (rs := [5, 6]) (by kernel_rfl) (by simp) ?_
                refine AllReady.cons (o := ⟨some 51, .call { callee := .value (.func 56), args := #[.tmp 50], argTypes := #[81] }, 85, "hash.go:85", #[{ on := 4, ground := Ground.data }, { on := 4, ground := Ground.chain }], none⟩) rfl (fun K hK => ?_) (AllReady.cons (o := ⟨some 10, .alloc 85, 0, "hash.go:85", #[], none⟩) rfl (fun K hK => ?_) AllReady.nil)
                · rw [if_pos (by rfl)]
                  go_simp
                  refine (D3.out _ _ _ hS15 hp12).mono ?_
                  rintro e wq16 ⟨rfl, hb17⟩
                  have hS18 : Below wc.heap.size wc wq16 := hS15.trans (hb17.mono hS15.size)
                  go_wp2_with fail
                  (try (refine hK _ _ ?_; clear hK K))
                  try dsimp only [Act.put]
                  try simp only [List.setIfInBounds_toArray, List.set_cons_zero, List.set_cons_succ]
                  refine wpAny_ready (rs := [6]) (by kernel_rfl) (by simp) ?_
                  refine AllReady.cons (o := ⟨some 10, .alloc 85, 0, "hash.go:85", #[], none⟩) rfl (fun K hK => ?_) AllReady.nil
                  rw [if_pos (by rfl)]
                  go_simp
                  generalize hq23 : World.alloc _ _ = wq19
                  obtain ⟨gg24, hgt25⟩ : ∃ gg24, gg24 = wq16.heap.size := ⟨_, rfl⟩
                  have hS20 : Below wc.heap.size wc wq19 := by rw [← hq23]; exact hS18.alloc hS18.size _
                  have hg21 : Blk wq19 gg24 85 (B8 (List.replicate 32 0)) := by rw [← hq23, hgt25]; exact Blk.new wq16 85 (B8 (List.replicate 32 0))
                  have hle22 : wc.heap.size ≤ gg24 := by rw [hgt25]; exact hS18.size
                  rw [← hgt25]
                  clear hq23 hgt25
                  refine hK _ _ ?_
                  clear hK K
                  try dsimp only [Act.put]
                  try simp only [List.setIfInBounds_toArray, List.set_cons_zero, List.set_cons_succ]
                  refine wpAny_ready (rs := [7]) (by kernel_rfl) (by simp) ?_
                  refine AllReady.cons (o := ⟨none, .store 85 (.tmp 10) (.tmp 51), 0, "hash.go:85", #[{ on := 6, ground := Ground.data }, { on := 5, ground := Ground.data }, { on := 5, ground := Ground.chain }, { on := 0, ground := Ground.phase }, { on := 1, ground := Ground.phase }, { on := 2, ground := Ground.phase }, { on := 3, ground := Ground.phase }, { on := 4, ground := Ground.phase }, { on := 5, ground := Ground.phase }, { on := 6, ground := Ground.phase }], none⟩) rfl (fun K hK => ?_) AllReady.nil
                  rw [if_pos (by rfl)]
                  refine wp_store_row 85 (.tmp 10) (.tmp 51) rfl gg24 (B8 R).toArray rfl rfl 85 _ hg21 (size24' _ HRL.out) (by rw [List.size_toArray, List.size_toArray, B8_len, B8_len, HRL.out]; rfl) (one8 _) ?_
                  refine hK _ _ ?_
                  clear hK K
                  refine wpAny_done (by kernel_rfl) ?_ _
                  try dsimp only [Act.put]
                  try simp only [List.setIfInBounds_toArray, List.set_cons_zero, List.set_cons_succ]
                  go_wp2_with fail
                  go_meet
                  exact ⟨gg24, rfl, hg21.row _, belowRow hS20 hle22 _, hle22⟩
                · rw [if_pos (by rfl)]
                  go_simp
                  generalize hq30 : World.alloc _ _ = wq26
                  obtain ⟨gg31, hgt32⟩ : ∃ gg31, gg31 = wq13.heap.size := ⟨_, rfl⟩
                  have hS27 : Below wc.heap.size wc wq26 := by rw [← hq30]; exact hS15.alloc hS15.size _
                  have hg28 : Blk wq26 gg31 85 (B8 (List.replicate 32 0)) := by rw [← hq30, hgt32]; exact Blk.new wq13 85 (B8 (List.replicate 32 0))
                  have hle29 : wc.heap.size ≤ gg31 := by rw [hgt32]; exact hS15.size
                  rw [← hgt32]
                  clear hq30 hgt32
                  refine hK _ _ ?_
                  clear hK K
                  try dsimp only [Act.put]
                  try simp only [List.setIfInBounds_toArray, List.set_cons_zero, List.set_cons_succ]
                  refine wpAny_ready (rs := [5]) (by kernel_rfl) (by simp) ?_
                  refine AllReady.cons (o := ⟨some 51, .call { callee := .value (.func 56), args := #[.tmp 50], argTypes := #[81] }, 85, "hash.go:85", #[{ on := 4, ground := Ground.data }, { on := 4, ground := Ground.chain }], none⟩) rfl (fun K hK => ?_) AllReady.nil
                  rw [if_pos (by rfl)]
                  go_simp
                  refine (D3.out _ _ _ hS27 hp12).mono ?_
                  rintro e wq33 ⟨rfl, hb34⟩
                  have hS35 : Below wc.heap.size wc wq33 := hS27.trans (hb34.mono hS27.size)
                  have hg36 : Blk wq33 gg31 85 (B8 (List.replicate 32 0)) := hg28.below hb34 hg28.lt
                  go_wp2_with fail
                  (try (refine hK _ _ ?_; clear hK K))
                  try dsimp only [Act.put]
                  try simp only [List.setIfInBounds_toArray, List.set_cons_zero, List.set_cons_succ]
                  refine wpAny_ready (rs := [7]) (by kernel_rfl) (by simp) ?_
                  refine AllReady.cons (o := ⟨none, .store 85 (.tmp 10) (.tmp 51), 0, "hash.go:85", #[{ on := 6, ground := Ground.data }, { on := 5, ground := Ground.data }, { on := 5, ground := Ground.chain }, { on := 0, ground := Ground.phase }, { on := 1, ground := Ground.phase }, { on := 2, ground := Ground.phase }, { on := 3, ground := Ground.phase }, { on := 4, ground := Ground.phase }, { on := 5, ground := Ground.phase }, { on := 6, ground := Ground.phase }], none⟩) rfl (fun K hK => ?_) AllReady.nil
                  rw [if_pos (by rfl)]
                  refine wp_store_row 85 (.tmp 10) (.tmp 51) rfl gg31 (B8 R).toArray rfl rfl 85 _ hg36 (size24' _ HRL.out) (by rw [List.size_toArray, List.size_toArray, B8_len, B8_len, HRL.out]; rfl) (one8 _) ?_
                  refine hK _ _ ?_
                  clear hK K
                  refine wpAny_done (by kernel_rfl) ?_ _
                  try dsimp only [Act.put]
                  try simp only [List.setIfInBounds_toArray, List.set_cons_zero, List.set_cons_succ]
                  go_wp2_with fail
                  go_meet
                  exact ⟨gg31, rfl, hg36.row _, belowRow hS35 hle29 _, hle29⟩
              · rw [if_pos (by rfl)]
                go_simp
                generalize hq41 : World.alloc _ _ = wq37
                obtain ⟨gg42, hgt43⟩ : ∃ gg42, gg42 = wq7.heap.size := ⟨_, rfl⟩
                have hS38 : Below wc.heap.size wc wq37 := by rw [← hq41]; exact hS9.alloc hS9.size _
                have hg39 : Blk wq37 gg42 85 (B8 (List.replicate 32 0)) := by rw [← hq41, hgt43]; exact Blk.new wq7 85 (B8 (List.replicate 32 0))
                have hle40 : wc.heap.size ≤ gg42 := by rw [hgt43]; exact hS9.size
                rw [← hgt43]
                clear hq41 hgt43
                refine hK _ _ ?_
                clear hK K
                try dsimp only [Act.put]
                try simp only [List.setIfInBounds_toArray, List.set_cons_zero, List.set_cons_succ]
                refine wpAny_ready (rs := [4]) (by kernel_rfl) (by simp) ?_
                refine AllReady.cons (o := ⟨some 50, .call { callee := .value (.func 53), args := #[.tmp 48, .tmp 49], argTypes := #[81, 54] }, 81, "hash.go:85", #[{ on := 2, ground := Ground.data }, { on := 3, ground := Ground.data }, { on := 2, ground := Ground.chain }], none⟩) rfl (fun K hK => ?_) AllReady.nil
                rw [if_pos (by rfl)]
                go_simp
                refine (D2.out _ _ _ hS38 hp6).mono ?_
                rintro e wq47 ⟨rs44, vs45, rfl, hp46, hb48⟩
                replace hp46 := Lib.hid hp46
                have hS49 : Below wc.heap.size wc wq47 := hS38.trans (hb48.mono hS38.size)
                have hg50 : Blk wq47 gg42 85 (B8 (List.replicate 32 0)) := hg39.below hb48 hg39.lt
                go_wp2_with fail
                (try (refine hK _ _ ?_; clear hK K))
                try dsimp only [Act.put]
                try simp only [List.setIfInBounds_toArray, List.set_cons_zero, List.set_cons_succ]
                refine wpAny_ready (rs := [5]) (by kernel_rfl) (by simp) ?_
                refine AllReady.cons (o := ⟨some 51, .call { callee := .value (.func 56), args := #[.tmp 50], argTypes := #[81] }, 85, "hash.go:85", #[{ on := 4, ground := Ground.data }, { on := 4, ground := Ground.chain }], none⟩) rfl (fun K hK => ?_) AllReady.nil
                rw [if_pos (by rfl)]
                go_simp
                refine (D3.out _ _ _ hS49 hp46).mono ?_
                rintro e wq51 ⟨rfl, hb52⟩
                have hS53 : Below wc.heap.size wc wq51 := hS49.trans (hb52.mono hS49.size)
                have hg54 : Blk wq51 gg42 85 (B8 (List.replicate 32 0)) := hg50.below hb52 hg50.lt
                go_wp2_with fail
                (try (refine hK _ _ ?_; clear hK K))
                try dsimp only [Act.put]
                try simp only [List.setIfInBounds_toArray, List.set_cons_zero, List.set_cons_succ]
                refine wpAny_ready (rs := [7]) (by kernel_rfl) (by simp) ?_
                refine AllReady.cons (o := ⟨none, .store 85 (.tmp 10) (.tmp 51), 0, "hash.go:85", #[{ on := 6, ground := Ground.data }, { on := 5, ground := Ground.data }, { on := 5, ground := Ground.chain }, { on := 0, ground := Ground.phase }, { on := 1, ground := Ground.phase }, { on := 2, ground := Ground.phase }, { on := 3, ground := Ground.phase }, { on := 4, ground := Ground.phase }, { on := 5, ground := Ground.phase }, { on := 6, ground := Ground.phase }], none⟩) rfl (fun K hK => ?_) AllReady.nil
                rw [if_pos (by rfl)]
                refine wp_store_row 85 (.tmp 10) (.tmp 51) rfl gg42 (B8 R).toArray rfl rfl 85 _ hg54 (size24' _ HRL.out) (by rw [List.size_toArray, List.size_toArray, B8_len, B8_len, HRL.out]; rfl) (one8 _) ?_
                refine hK _ _ ?_
                clear hK K
                refine wpAny_done (by kernel_rfl) ?_ _
                try dsimp only [Act.put]
                try simp only [List.setIfInBounds_toArray, List.set_cons_zero, List.set_cons_succ]
                go_wp2_with fail
                go_meet
                exact ⟨gg42, rfl, hg54.row _, belowRow hS53 hle40 _, hle40⟩
            · rw [if_pos (by rfl)]
              go_simp
              generalize hq59 : World.alloc _ _ = wq55
              obtain ⟨gg60, hgt61⟩ : ∃ gg60, gg60 = wq1.heap.size := ⟨_, rfl⟩
              have hS56 : Below wc.heap.size wc wq55 := by rw [← hq59]; exact hS3.alloc hS3.size _
              have hg57 : Blk wq55 gg60 85 (B8 (List.replicate 32 0)) := by rw [← hq59, hgt61]; exact Blk.new wq1 85 (B8 (List.replicate 32 0))
              have hle58 : wc.heap.size ≤ gg60 := by rw [hgt61]; exact hS3.size
              rw [← hgt61]
              clear hq59 hgt61
              refine hK _ _ ?_
              clear hK K
              try dsimp only [Act.put]
              try simp only [List.setIfInBounds_toArray, List.set_cons_zero, List.set_cons_succ]
              refine wpAny_ready (rs := [2]) (by kernel_rfl) (by simp) ?_
              refine AllReady.cons (o := ⟨some 48, .call { callee := .value (.func 53), args := #[.tmp 46, .tmp 47], argTypes := #[81, 54] }, 81, "hash.go:85", #[{ on := 0, ground := Ground.data }, { on := 1, ground := Ground.data }, { on := 0, ground := Ground.chain }], none⟩) rfl (fun K hK => ?_) AllReady.nil
              rw [if_pos (by rfl)]
              go_simp
              refine (D1.out _ hS56).mono ?_
              rintro e wq65 ⟨rs62, vs63, rfl, hp64, hb66⟩
              replace hp64 := Lib.hid hp64
              have hS67 : Below wc.heap.size wc wq65 := hS56.trans (hb66.mono hS56.size)
              have hg68 : Blk wq65 gg60 85 (B8 (List.replicate 32 0)) := hg57.below hb66 hg57.lt
              go_wp2_with fail
              (try (refine hK _ _ ?_; clear hK K))
              try dsimp only [Act.put]
              try simp only [List.setIfInBounds_toArray, List.set_cons_zero, List.set_cons_succ]
              refine wpAny_ready (rs := [4]) (by kernel_rfl) (by simp) ?_
              refine AllReady.cons (o := ⟨some 50, .call { callee := .value (.func 53), args := #[.tmp 48, .tmp 49], argTypes := #[81, 54] }, 81, "hash.go:85", #[{ on := 2, ground := Ground.data }, { on := 3, ground := Ground.data }, { on := 2, ground := Ground.chain }], none⟩) rfl (fun K hK => ?_) AllReady.nil
              rw [if_pos (by rfl)]
              go_simp
              refine (D2.out _ _ _ hS67 hp64).mono ?_
              rintro e wq72 ⟨rs69, vs70, rfl, hp71, hb73⟩
              replace hp71 := Lib.hid hp71
              have hS74 : Below wc.heap.size wc wq72 := hS67.trans (hb73.mono hS67.size)
              have hg75 : Blk wq72 gg60 85 (B8 (List.replicate 32 0)) := hg68.below hb73 hg68.lt
              go_wp2_with fail
              (try (refine hK _ _ ?_; clear hK K))
              try dsimp only [Act.put]
              try simp only [List.setIfInBounds_toArray, List.set_cons_zero, List.set_cons_succ]
              refine wpAny_ready (rs := [5]) (by kernel_rfl) (by simp) ?_
              refine AllReady.cons (o := ⟨some 51, .call { callee := .value (.func 56), args := #[.tmp 50], argTypes := #[81] }, 85, "hash.go:85", #[{ on := 4, ground := Ground.data }, { on := 4, ground := Ground.chain }], none⟩) rfl (fun K hK => ?_) AllReady.nil
              rw [if_pos (by rfl)]
              go_simp
              refine (D3.out _ _ _ hS74 hp71).mono ?_
              rintro e wq76 ⟨rfl, hb77⟩
              have hS78 : Below wc.heap.size wc wq76 := hS74.trans (hb77.mono hS74.size)
              have hg79 : Blk wq76 gg60 85 (B8 (List.replicate 32 0)) := hg75.below hb77 hg75.lt
              go_wp2_with fail
              (try (refine hK _ _ ?_; clear hK K))
              try dsimp only [Act.put]
              try simp only [List.setIfInBounds_toArray, List.set_cons_zero, List.set_cons_succ]
              refine wpAny_ready (rs := [7]) (by kernel_rfl) (by simp) ?_
              refine AllReady.cons (o := ⟨none, .store 85 (.tmp 10) (.tmp 51), 0, "hash.go:85", #[{ on := 6, ground := Ground.data }, { on := 5, ground := Ground.data }, { on := 5, ground := Ground.chain }, { on := 0, ground := Ground.phase }, { on := 1, ground := Ground.phase }, { on := 2, ground := Ground.phase }, { on := 3, ground := Ground.phase }, { on := 4, ground := Ground.phase }, { on := 5, ground := Ground.phase }, { on := 6, ground := Ground.phase }], none⟩) rfl (fun K hK => ?_) AllReady.nil
              rw [if_pos (by rfl)]
              refine wp_store_row 85 (.tmp 10) (.tmp 51) rfl gg60 (B8 R).toArray rfl rfl 85 _ hg79 (size24' _ HRL.out) (by rw [List.size_toArray, List.size_toArray, B8_len, B8_len, HRL.out]; rfl) (one8 _) ?_
              refine hK _ _ ?_
              clear hK K
              refine wpAny_done (by kernel_rfl) ?_ _
              try dsimp only [Act.put]
              try simp only [List.setIfInBounds_toArray, List.set_cons_zero, List.set_cons_succ]
              go_wp2_with fail
              go_meet
              exact ⟨gg60, rfl, hg79.row _, belowRow hS78 hle58 _, hle58⟩
          · rw [if_pos (by rfl)]
            go_simp
            generalize hq84 : World.alloc _ _ = wq80
            obtain ⟨gg85, hgt86⟩ : ∃ gg85, gg85 = Wd.heap.size := ⟨_, rfl⟩
            have hS81 : Below wc.heap.size wc wq80 := by rw [← hq84]; exact hS0.alloc hS0.size _
            have hg82 : Blk wq80 gg85 85 (B8 (List.replicate 32 0)) := by rw [← hq84, hgt86]; exact Blk.new Wd 85 (B8 (List.replicate 32 0))
            have hle83 : wc.heap.size ≤ gg85 := by rw [hgt86]; exact hS0.size
            rw [← hgt86]
            clear hq84 hgt86
            refine hK _ _ ?_
            clear hK K
            try dsimp only [Act.put]
            try simp only [List.setIfInBounds_toArray, List.set_cons_zero, List.set_cons_succ]
            refine wpAny_ready (rs := [0]) (by kernel_rfl) (by simp) ?_
            refine AllReady.cons (o := ⟨some 46, .call { callee := .value (.func 54), args := #[], argTypes := #[] }, 81, "hash.go:85", #[], none⟩) rfl (fun K hK => ?_) AllReady.nil
            rw [if_pos (by rfl)]
            go_simp
            refine (begin_s _).mono ?_
            rintro e wq87 ⟨rfl, hb88⟩
            have hS89 : Below wc.heap.size wc wq87 := hS81.trans (hb88.mono hS81.size)
            have hg90 : Blk wq87 gg85 85 (B8 (List.replicate 32 0)) := hg82.below hb88 hg82.lt
            go_wp2_with fail
            (try (refine hK _ _ ?_; clear hK K))
            try dsimp only [Act.put]
            try simp only [List.setIfInBounds_toArray, List.set_cons_zero, List.set_cons_succ]
            refine wpAny_ready (rs := [2]) (by kernel_rfl) (by simp) ?_
            refine AllReady.cons (o := ⟨some 48, .call { callee := .value (.func 53), args := #[.tmp 46, .tmp 47], argTypes := #[81, 54] }, 81, "hash.go:85", #[{ on := 0, ground := Ground.data }, { on := 1, ground := Ground.data }, { on := 0, ground := Ground.chain }], none⟩) rfl (fun K hK => ?_) AllReady.nil
            rw [if_pos (by rfl)]
            go_simp
            refine (D1.out _ hS89).mono ?_
            rintro e wq94 ⟨rs91, vs92, rfl, hp93, hb95⟩
            replace hp93 := Lib.hid hp93
            have hS96 : Below wc.heap.size wc wq94 := hS89.trans (hb95.mono hS89.size)
            have hg97 : Blk wq94 gg85 85 (B8 (List.replicate 32 0)) := hg90.below hb95 hg90.lt
            go_wp2_with fail
            (try (refine hK _ _ ?_; clear hK K))
            try dsimp only [Act.put]
            try simp only [List.setIfInBounds_toArray, List.set_cons_zero, List.set_cons_succ]
            refine wpAny_ready (rs := [4]) (by kernel_rfl) (by simp) ?_
            refine AllReady.cons (o := ⟨some 50, .call { callee := .value (.func 53), args := #[.tmp 48, .tmp 49], argTypes := #[81, 54] }, 81, "hash.go:85", #[{ on := 2, ground := Ground.data }, { on := 3, ground := Ground.data }, { on := 2, ground := Ground.chain }], none⟩) rfl (fun K hK => ?_) AllReady.nil
            rw [if_pos (by rfl)]
            go_simp
            refine (D2.out _ _ _ hS96 hp93).mono ?_
            rintro e wq101 ⟨rs98, vs99, rfl, hp100, hb102⟩
            replace hp100 := Lib.hid hp100
            have hS103 : Below wc.heap.size wc wq101 := hS96.trans (hb102.mono hS96.size)
            have hg104 : Blk wq101 gg85 85 (B8 (List.replicate 32 0)) := hg97.below hb102 hg97.lt
            go_wp2_with fail
            (try (refine hK _ _ ?_; clear hK K))
            try dsimp only [Act.put]
            try simp only [List.setIfInBounds_toArray, List.set_cons_zero, List.set_cons_succ]
            refine wpAny_ready (rs := [5]) (by kernel_rfl) (by simp) ?_
            refine AllReady.cons (o := ⟨some 51, .call { callee := .value (.func 56), args := #[.tmp 50], argTypes := #[81] }, 85, "hash.go:85", #[{ on := 4, ground := Ground.data }, { on := 4, ground := Ground.chain }], none⟩) rfl (fun K hK => ?_) AllReady.nil
            rw [if_pos (by rfl)]
            go_simp
            refine (D3.out _ _ _ hS103 hp100).mono ?_
            rintro e wq105 ⟨rfl, hb106⟩
            have hS107 : Below wc.heap.size wc wq105 := hS103.trans (hb106.mono hS103.size)
            have hg108 : Blk wq105 gg85 85 (B8 (List.replicate 32 0)) := hg104.below hb106 hg104.lt
            go_wp2_with fail
            (try (refine hK _ _ ?_; clear hK K))
            try dsimp only [Act.put]
            try simp only [List.setIfInBounds_toArray, List.set_cons_zero, List.set_cons_succ]
            refine wpAny_ready (rs := [7]) (by kernel_rfl) (by simp) ?_
            refine AllReady.cons (o := ⟨none, .store 85 (.tmp 10) (.tmp 51), 0, "hash.go:85", #[{ on := 6, ground := Ground.data }, { on := 5, ground := Ground.data }, { on := 5, ground := Ground.chain }, { on := 0, ground := Ground.phase }, { on := 1, ground := Ground.phase }, { on := 2, ground := Ground.phase }, { on := 3, ground := Ground.phase }, { on := 4, ground := Ground.phase }, { on := 5, ground := Ground.phase }, { on := 6, ground := Ground.phase }], none⟩) rfl (fun K hK => ?_) AllReady.nil
            rw [if_pos (by rfl)]
            refine wp_store_row 85 (.tmp 10) (.tmp 51) rfl gg85 (B8 R).toArray rfl rfl 85 _ hg108 (size24' _ HRL.out) (by rw [List.size_toArray, List.size_toArray, B8_len, B8_len, HRL.out]; rfl) (one8 _) ?_
            refine hK _ _ ?_
            clear hK K
            refine wpAny_done (by kernel_rfl) ?_ _
            try dsimp only [Act.put]
            try simp only [List.setIfInBounds_toArray, List.set_cons_zero, List.set_cons_succ]
            go_wp2_with fail
            go_meet
            exact ⟨gg85, rfl, hg108.row _, belowRow hS107 hle83 _, hle83⟩
        case rest =>
          obtain ⟨g10, rfl, f10, hbw, hge⟩ := hcut
          have hcv := run_convert_bytes_back (P := Tryd.prog) _ 54 9 5 ⟨g10, 0, none⟩ 32 R Tryd.underlying54 Tryd.underlying5 Tryd.underlying9 (fun j hj => by rw [Addr.add_lit, Nat.zero_add, f10.cell, B8_get _ _ hj])
          rw [HRL.out] at hcv
          have hfin := HWC.out.trans (hbw.mono HWC.out.size)
          clear hbw hge f10
          go_wp2_with fail
          go_ret
          exact ⟨rfl, hfin⟩
end Go.Proofs.YtgonidjajmjniaaDoor
