/-
  The law SignIsAccepted returns true, whatever the bytes and the message, if sanity does.
  Conditions: the length of a machine's string; the table of the round constants is as the text lays it.
-/
import Derived.Test.YtgonidjajmjniaaDoorSane
namespace Go.Proofs.YtgonidjajmjniaaDoor
open Go.RowKit Wr Sh
set_option linter.unusedVariables false
set_option maxRecDepth 100000

theorem dec_more (s : List UInt8) (h ix : Nat) (m : ByteArray) (T : List UInt8) (hix : ix < 64) : decInt (sigOf s h ix m ++ T) = ((ix : Int), (enc (ix : Int)).length, 0) := by
  unfold sigOf; rw [List.append_assoc, List.append_assoc]; exact decInt_enc _ _ (by omega) (by omega)
theorem dec_less (s : List UInt8) (h ix : Nat) (m : ByteArray) (n : Nat) (hix : ix < 64) (hn : (enc (ix : Int)).length ≤ n) : decInt ((sigOf s h ix m).take n) = ((ix : Int), (enc (ix : Int)).length, 0) := by
  unfold sigOf
  rw [List.append_assoc, List.take_append, List.take_of_length_le hn]
  exact decInt_enc _ _ (by omega) (by omega)
def seedL (c : UInt8) : List UInt8 := List.replicate 32 c

set_option maxHeartbeats 4000000 in
theorem accept_walk (c x y : UInt8) (m : ByteArray) (w : World) (hm47 : m.size ≤ 140737488355328) (ht : Tab 1 w) (hs : Sane w) :
    Calls Tryd.prog 6 #[.int .u8 (c.toNat : Int), .int .u8 (x.toNat : Int), .int .u8 (y.toNat : Int), .string m] w fun e w' => e = .returned (.bool true) ∧ Below w.heap.size w w' := by
  have HS := Lib.hid hs
  have HT := Lib.hid ht
  clear hs ht
  by_cases hbig : 200 < m.size
  · have hb' : (200 : Int) < (m.size : Int) := by omega
    go_enter Tryd.func6, Tryd.ntmps6
    go_wp2_with (go_at_call 9; refine (HS.out _ (Below.refl _ _)).mono ?_; rintro e w1 ⟨rfl, hb1⟩; have B1 := Lib.hid hb1; clear hb1)
    go_ret
    exact ⟨rfl, B1.out⟩
  · have hm2 : m.size ≤ 200 := by omega
    have hb' : ¬ (200 : Int) < (m.size : Int) := by omega
    obtain ⟨h, hh0⟩ : ∃ h, h = x.toNat % 3 := ⟨_, rfl⟩
    obtain ⟨ix, hix0⟩ : ∃ ix, ix = y.toNat % 2 ^ h := ⟨_, rfl⟩
    have hh : h ≤ 6 := by omega
    have hh2 : h ≤ 2 := by omega
    have hix : ix < 2 ^ h := by rw [hix0]; exact Nat.mod_lt _ (Nat.two_pow_pos h)
    have hp4 : 2 ^ h ≤ 4 := Nat.le_trans (Nat.pow_le_pow_right (by decide) hh2) (by decide)
    have hix4 : ix < 4 := by omega
    have hxl := x.toNat_lt
    have hyl := y.toNat_lt
    have q0 : wrap64 (x.toNat : Int) = (x.toNat : Int) := by simp only [wrap64]; omega
    have q1 : wrap64 (y.toNat : Int) = (y.toNat : Int) := by simp only [wrap64]; omega
    have q2 : (x.toNat : Int) % 3 = (h : Int) := by omega
    have hin : decide (0 ≤ (ix : Int) ∧ (ix : Int) < ((2 ^ h : Nat) : Int)) = true := by rw [decide_eq_true_eq]; exact ⟨by omega, Int.ofNat_lt.2 hix⟩
    have HIX0 := Lib.hid hix0
    have HIX := Lib.hid hix
    obtain ⟨sd, hsd⟩ : ∃ sd : ByteArray, sd = ⟨(List.replicate 32 c).toArray⟩ := ⟨_, rfl⟩
    have HSd := Lib.hid (show sd.data.toList = seedL c by rw [hsd]; rfl)
    have HSdv := Lib.hid hsd
    have H32 := Lib.hid (show sd.size = 32 by rw [← size_l, HSd.out]; simp [seedL])
    obtain ⟨p, hp⟩ : ∃ p, p = node sd.data.toList h 0 := ⟨_, rfl⟩
    have HP := Lib.hid hp
    have HPl := Lib.hid (show p.length = 16 by rw [hp]; exact node_len _ _ _)
    obtain ⟨R, hR⟩ : ∃ R, R = sigOf sd.data.toList h ix m := ⟨_, rfl⟩
    have HR := Lib.hid hR
    have HRoot := Lib.hid (show p = rootV p h m ix (chainsOf sd.data.toList (ix : Int) (digOf (node sd.data.toList h 0) (ix : Int) m) 68 ++ bes sd.data.toList ix h) by rw [hp]; exact (root_sig _ h ix m hix).symm)
    obtain ⟨U, hU⟩ : ∃ U, U = (enc (ix : Int)).length := ⟨_, rfl⟩
    have hU1 : 1 ≤ U ∧ U ≤ 9 := by rw [hU]; exact enc_le _
    have hRl : R.length = U + (68 + h) * 16 := by rw [hR, hU]; exact sig_len _ _ _ _
    obtain ⟨sg, hsg⟩ : ∃ sg, sg = bs R := ⟨_, rfl⟩
    have HSGv := Lib.hid hsg
    have hsz : sg.size = U + (68 + h) * 16 := by rw [hsg, bs_size, hRl]
    have hsza : sg.size ≤ U + (68 + h) * 16 := by omega
    have hszb : U + (68 + h) * 16 ≤ sg.size := by omega
    have HSG := Lib.hid (show sg.data.toList = sigOf sd.data.toList h ix m by rw [hsg, bs_list, hR])
    obtain ⟨s2, hs2⟩ : ∃ s2 : ByteArray, s2 = sg ++ { data := #[120] } := ⟨_, rfl⟩
    have hl2 : s2.data.toList = R ++ [120] := by rw [hs2, ByteArray.data_append, Array.toList_append, hsg, bs_list]
    have hz2 : s2.size = U + (68 + h) * 16 + 1 := by rw [← size_l, hl2, List.length_append, hRl]; rfl
    have HD2 := Lib.hid (Lib.hid (show decInt s2.data.toList = ((ix : Int), U, 0) by rw [hl2, hR, hU]; exact dec_more _ _ _ _ _ (by omega)))
    have HL2 := Lib.hid (show s2.size - U ≠ (68 + h) * 16 by omega)
    have hz2' := Lib.hid (show U ≤ s2.size ∧ s2.size ≤ 1073741824 by omega)
    have HS2 := Lib.hid hs2
    obtain ⟨s3, hs3⟩ : ∃ s3 : ByteArray, s3 = sg.extract 0 (sg.size - 1) := ⟨_, rfl⟩
    have hl3 : s3.data.toList = R.take (sg.size - 1) := by rw [hs3, Lib.extract_data, List.drop_zero, hsg, bs_list]; rfl
    have hz3e : s3.size = U + (68 + h) * 16 - 1 := by rw [← size_l, hl3, List.length_take, hRl]; omega
    have HD3 := Lib.hid (Lib.hid (show decInt s3.data.toList = ((ix : Int), U, 0) by rw [hl3, hR, hU]; exact dec_less _ _ _ _ _ (by omega) (by omega)))
    have HL3 := Lib.hid (show s3.size - U ≠ (68 + h) * 16 by omega)
    have hz3 : U ≤ s3.size ∧ s3.size ≤ 1073741824 := by omega
    have hsl3 : ∀ W : World, (Instr.sliceAt 9 (.string sg) none (some (.int .i64 ((sg.size : Int) - 1))) none).run Tryd.prog W = .ok (.string s3) W := by
      intro W
      rw [hs3]
      have h1 := run_slice_string_h (P := Tryd.prog) W 9 sg Tryd.underlying9 .i64 ((sg.size : Int) - 1) (by omega) (by omega)
      rw [show ((sg.size : Int) - 1).toNat = sg.size - 1 by omega] at h1
      rw [run_sliceAt_string (P := Tryd.prog) (w := W) 9 _ _ _ _ Tryd.underlying9]
      exact h1
    have q3 : IntKind.i64.wrap ((sg.size : Int) - 1) = (sg.size : Int) - 1 := IntWalk.i64_in _ (by omega)
    have hZ := hZ16
    clear hix0 hh0 hsd hp hR hU hRl hsg hsz hs2 hl2 hz2 hs3 hl3 hz3e
    go_enter Tryd.func6, Tryd.ntmps6
    go_upto_region 5 with (go_at_call 9; refine (HS.out _ (Below.refl _ _)).mono ?_; rintro e w0 ⟨rfl, hb0⟩; have B0 := Lib.hid hb0; clear hb0)
    rw [q2]
    go_cut [11] (fun s11 wx => s11 = .int .i64 (ix : Int) ∧ w0 = wx)
    case first =>
      have hix' := HIX0.out
      have hyz : ∀ k : Nat, h = k → (y.toNat : Int) % ((2 ^ k : Nat) : Int) = (ix : Int) := by intro k hk; subst hk; rw [hix']; omega
      rcases (show h = 0 ∨ h = 1 ∨ h = 2 by omega) with e | e | e
      all_goals
        have hq := hyz _ e
        subst e
        go_wp2_with fail
        go_meet
        exact ⟨by first | (rw [← hq]; rfl) | (rw [← hq]; simp), rfl⟩
    case rest =>
      obtain ⟨rfl, rfl⟩ := hcut
      go_wp2_with fail
      refine (seed_any c w0).mono ?_; rintro e w1 ⟨rfl, hb1⟩
      have B1 := Lib.hid (B0.out.trans (hb1.mono B0.out.size))
      rw [← HSdv.out]
      clear hb1
      go_wp2_with fail
      refine (public_ok sd h _ H32.out hh (HT.out.below B1.out HT.out.1) p HP.out).mono ?_; rintro e w2 ⟨rfl, hb2⟩
      have B2 := Lib.hid (B1.out.trans (hb2.mono B1.out.size))
      clear hb2
      obtain ⟨w3, hw3⟩ : ∃ W, W = (w2.alloc (.cells Z16.toArray 23)).setRow w2.heap.size (B8 p).toArray := ⟨_, rfl⟩
      have B3 := Lib.hid (show Below w.heap.size w w3 by rw [hw3]; exact belowRow (B2.out.alloc B2.out.size _) B2.out.size _)
      have KP := Lib.hid (show Blk w3 w2.heap.size 23 (B8 p) by rw [hw3]; exact (Blk.new w2 23 Z16).row _)
      have HW3 := Lib.hid hw3
      clear hw3
      go_wp2_with (with_reducible refine wpList_store_row rfl 23 (.tmp 12) (.tmp 40) rfl w2.heap.size (B8 p).toArray rfl rfl 23 _ (heap_alloc_new w2 _) (size23' _ HPl.out) (Z16_size _ HPl.out) (one8 _) ?_; rw [← HW3.out])
      refine (seed_any c w3).mono ?_; rintro e w4 ⟨rfl, hb4⟩
      have B4 := Lib.hid (B3.out.trans (hb4.mono B3.out.size))
      have KP4 := Lib.hid (KP.out.below hb4 KP.out.lt)
      rw [← HSdv.out]
      clear hb4
      go_wp2_with fail
      refine (sign_ok sd h ix m w4 H32.out hh HIX.out (by omega) (HT.out.below B4.out HT.out.1) R HR).mono ?_; rintro e w5 ⟨rfl, hb5⟩
      have B5 := Lib.hid (B4.out.trans (hb5.mono B4.out.size))
      have KP5 := Lib.hid (KP4.out.below hb5 KP4.out.lt)
      have A5 := Lib.hid KP5.out.at
      rw [← HSGv.out]
      clear hb5
      go_wp2_with (with_reducible refine wpList_load_at rfl 23 (.tmp 12) rfl ⟨w2.heap.size, 0, none⟩ rfl (B8 p) (.array 16 5) A5.out Tryd.underlying23 rfl (size23 _ HPl.out) ?_)
      refine (verify_sig sd.data.toList p h ix m m w5 HPl.out hh HIX.out (by omega) (HT.out.below B5.out HT.out.1) sg HSG.out p HRoot).mono ?_; rintro e w5b ⟨rfl, hb5⟩
      have B5b := Lib.hid (B5.out.trans (hb5.mono B5.out.size))
      have KP5b := Lib.hid (KP5.out.below hb5 KP5.out.lt)
      have A5b := Lib.hid KP5b.out.at
      rw [show verRes (p == p) ix = .tuple #[.int .i64 (ix : Int), .int .i64 0] by rw [show (p == p) = true by simp]; rfl]
      clear hb5
      go_wp2_with (with_reducible refine wpList_load_at rfl 23 (.tmp 12) rfl ⟨w2.heap.size, 0, none⟩ rfl (B8 p) (.array 16 5) A5b.out Tryd.underlying23 rfl (size23 _ HPl.out) ?_)
      rw [← HS2.out]
      refine (verify_form p h m s2 w5b hh (by omega) hz2'.out.2 (ix : Int) U HD2.out hz2'.out.1 (Or.inr ⟨hin, HL2.out⟩)).mono ?_; rintro e w6 ⟨rfl, hb6⟩
      have B6 := Lib.hid (B5b.out.trans (hb6.mono B5b.out.size))
      have KP6 := Lib.hid (KP5b.out.below hb6 KP5b.out.lt)
      clear hb6
      go_wp2_with fail
      refine wp_region_held (S := fun W => Blk W w2.heap.size 23 (B8 p)) (by kernel_rfl) ?_
      change wpAnyH _ _ _ _ _ _ _ _ (World.drew w6)
      have hS0 : Blk (World.drew w6) w2.heap.size 23 (B8 p) := KP6.out.drew
      have BD := Lib.hid B6.out.drew
      generalize World.drew w6 = Wd at hS0 BD ⊢
      refine wpAnyH_take (i := 0) (oi := { dst := some 84, op := Op.load 23 (Operand.tmp 12), type := 23, pos := "law.go:90", after := #[], guard := none }) (v := .agg (B8 p).toArray) rfl (by kernel_rfl) (by kernel_rfl) (by kernel_rfl) (fun _ _ _ h => h) (Or.inl ⟨by rfl, fun W hW => exec_load_row _ _ 23 (.tmp 12) rfl ⟨w2.heap.size, 0, none⟩ rfl (B8 p) W (run_loadVar_at W _ 23 (B8 p) (.array 16 5) (Blk.at hW) Tryd.underlying23 rfl (size23 _ HPl.out))⟩) hS0 ?_
      try dsimp only [Act.put]
      try simp only [List.setIfInBounds_toArray, List.set_cons_zero, List.set_cons_succ]
      refine wpAnyH_take (i := 1) (oi := { dst := some 85, op := Op.move (Operand.tmp 10), type := 3, pos := "law.go:90", after := #[], guard := none }) (v := .int .i64 (h : Int)) rfl (by kernel_rfl) (by kernel_rfl) (by kernel_rfl) (fun _ _ _ h => h) (Or.inl ⟨by rfl, fun W hW => ?y2⟩) hS0 ?_
      case y2 => go_simp
      try dsimp only [Act.put]
      try simp only [List.setIfInBounds_toArray, List.set_cons_zero, List.set_cons_succ]
      refine wpAnyH_take (i := 2) (oi := { dst := some 86, op := Op.move (Operand.tmp 3), type := 9, pos := "law.go:90", after := #[], guard := none }) (v := .string m) rfl (by kernel_rfl) (by kernel_rfl) (by kernel_rfl) (fun _ _ _ h => h) (Or.inl ⟨by rfl, fun W hW => ?y3⟩) hS0 ?_
      case y3 => go_simp
      try dsimp only [Act.put]
      try simp only [List.setIfInBounds_toArray, List.set_cons_zero, List.set_cons_succ]
      refine wpAnyH_take (i := 3) (oi := { dst := some 87, op := Op.move (Operand.tmp 14), type := 9, pos := "law.go:90", after := #[], guard := none }) (v := .string sg) rfl (by kernel_rfl) (by kernel_rfl) (by kernel_rfl) (fun _ _ _ h => h) (Or.inl ⟨by rfl, fun W hW => ?y4⟩) hS0 ?_
      case y4 => go_simp
      try dsimp only [Act.put]
      try simp only [List.setIfInBounds_toArray, List.set_cons_zero, List.set_cons_succ]
      refine wpAnyH_take (i := 4) (oi := { dst := some 88, op := Op.move (Operand.tmp 14), type := 9, pos := "law.go:90", after := #[], guard := none }) (v := .string sg) rfl (by kernel_rfl) (by kernel_rfl) (by kernel_rfl) (fun _ _ _ h => h) (Or.inl ⟨by rfl, fun W hW => ?y5⟩) hS0 ?_
      case y5 => go_simp
      try dsimp only [Act.put]
      try simp only [List.setIfInBounds_toArray, List.set_cons_zero, List.set_cons_succ]
      refine wpAnyH_take (i := 5) (oi := { dst := some 89, op := Op.call { callee := Callee.builtin Builtin.len, args := #[Operand.tmp 88], argTypes := #[9] }, type := 3, pos := "law.go:90", after := #[{ on := 4, ground := Ground.data }], guard := none }) (v := .int .i64 (sg.size : Int)) rfl (by kernel_rfl) (by kernel_rfl) (by kernel_rfl) (fun _ _ _ h => h) (Or.inl ⟨by rfl, fun W hW => ?y6⟩) hS0 ?_
      case y6 => go_simp
      try dsimp only [Act.put]
      try simp only [List.setIfInBounds_toArray, List.set_cons_zero, List.set_cons_succ]
      refine wpAnyH_take (i := 6) (oi := { dst := some 90, op := Op.binOp BinOp.sub 3 (Operand.tmp 89) (Operand.const (Value.int IntKind.i64 1)) 3, type := 3, pos := "law.go:90", after := #[{ on := 5, ground := Ground.data }], guard := none }) (v := .int .i64 ((sg.size : Int) - 1)) rfl (by kernel_rfl) (by kernel_rfl) (by kernel_rfl) (fun _ _ _ h => h) (Or.inl ⟨by rfl, fun W hW => ?y7⟩) hS0 ?_
      case y7 => go_simp
      try dsimp only [Act.put]
      try simp only [List.setIfInBounds_toArray, List.set_cons_zero, List.set_cons_succ]
      refine wpAnyH_take (i := 7) (oi := { dst := some 91, op := Op.slice 9 (Operand.tmp 87) none (some (Operand.tmp 90)) none, type := 9, pos := "law.go:90", after := #[{ on := 3, ground := Ground.data }, { on := 6, ground := Ground.data }], guard := none }) (v := .string s3) rfl (by kernel_rfl) (by kernel_rfl) (by kernel_rfl) (fun _ _ _ h => h) (Or.inl ⟨by rfl, fun W hW => by have hcl := hsl3 W; go_simp⟩) hS0 ?_
      try dsimp only [Act.put]
      try simp only [List.setIfInBounds_toArray, List.set_cons_zero, List.set_cons_succ]
      refine wpAnyH_ready (rs := [8]) (by kernel_rfl) (by simp) ?_
      refine AllReadyH.cons (o := { dst := some 92, op := Op.call { callee := Callee.value (Operand.func 18), args := #[Operand.tmp 84, Operand.tmp 85, Operand.tmp 86, Operand.tmp 91], argTypes := #[23, 3, 9, 9] }, type := 36, pos := "law.go:90", after := #[{ on := 0, ground := Ground.data }, { on := 1, ground := Ground.data }, { on := 2, ground := Ground.data }, { on := 7, ground := Ground.data }], guard := none }) rfl (fun K hK => ?_) AllReadyH.nil
      rw [if_pos (by rfl)]
      go_simp
      refine (verify_form p h m s3 Wd hh (by omega) hz3.2 (ix : Int) U HD3.out hz3.1 (Or.inr ⟨hin, HL3.out⟩)).mono ?_; rintro e w7 ⟨rfl, hb7⟩
      have B7 := Lib.hid (BD.out.trans (hb7.mono BD.out.size))
      have hS7 := hS0.below hb7 hS0.lt
      clear hb7
      go_wp2_with fail
      refine hK.out _ _ hS7 (fun _ => ?_)
      clear hK K
      try dsimp only [Act.put]
      try simp only [List.setIfInBounds_toArray, List.set_cons_zero, List.set_cons_succ]
      refine wpAnyH_take (i := 9) (oi := { dst := some 83, op := Op.move (Operand.tmp 92), type := 36, pos := "law.go:90", after := #[{ on := 8, ground := Ground.data }], guard := none }) (v := .tuple #[.int .i64 0, .int .i64 2]) rfl (by kernel_rfl) (by kernel_rfl) (by kernel_rfl) (fun _ _ _ h => h) (Or.inl ⟨by rfl, fun W hW => ?y9⟩) hS7 ?_
      case y9 => go_simp
      try dsimp only [Act.put]
      try simp only [List.setIfInBounds_toArray, List.set_cons_zero, List.set_cons_succ]
      refine wpAnyH_take (i := 10) (oi := { dst := some 93, op := Op.extract (Operand.tmp 83) 0, type := 3, pos := "law.go:90", after := #[{ on := 9, ground := Ground.data }], guard := none }) (v := .int .i64 0) rfl (by kernel_rfl) (by kernel_rfl) (by kernel_rfl) (fun _ _ _ h => h) (Or.inl ⟨by rfl, fun W hW => ?y10⟩) hS7 ?_
      case y10 => go_simp
      try dsimp only [Act.put]
      try simp only [List.setIfInBounds_toArray, List.set_cons_zero, List.set_cons_succ]
      refine wpAnyH_take (i := 11) (oi := { dst := some 94, op := Op.extract (Operand.tmp 83) 1, type := 29, pos := "law.go:90", after := #[{ on := 9, ground := Ground.data }, { on := 12, ground := Ground.gcOnly Departure.lateStores }], guard := none }) (v := .int .i64 2) rfl (by kernel_rfl) (by kernel_rfl) (by kernel_rfl) (fun _ _ _ h => h) (Or.inl ⟨by rfl, fun W hW => ?y11⟩) hS7 ?_
      case y11 => go_simp
      try dsimp only [Act.put]
      try simp only [List.setIfInBounds_toArray, List.set_cons_zero, List.set_cons_succ]
      refine wpAnyH_ready (rs := [12]) (by kernel_rfl) (by simp) ?_
      refine AllReadyH.cons (o := { dst := some 20, op := Op.assign (Operand.tmp 93), type := 3, pos := "law.go:90", after := #[{ on := 10, ground := Ground.data }, { on := 8, ground := Ground.chain }, { on := 0, ground := Ground.phase }, { on := 1, ground := Ground.phase }, { on := 2, ground := Ground.phase }, { on := 3, ground := Ground.phase }, { on := 4, ground := Ground.phase }, { on := 5, ground := Ground.phase }, { on := 6, ground := Ground.phase }, { on := 7, ground := Ground.phase }, { on := 8, ground := Ground.phase }, { on := 9, ground := Ground.phase }, { on := 10, ground := Ground.phase }, { on := 11, ground := Ground.textOnly Departure.lateStores }], guard := none }) rfl (fun K hK => ?_) AllReadyH.nil
      rw [if_pos (by rfl)]
      go_simp
      refine hK.out _ _ hS7 (fun _ => ?_)
      clear hK K
      try dsimp only [Act.put]
      try simp only [List.setIfInBounds_toArray, List.set_cons_zero, List.set_cons_succ]
      refine wpAnyH_ready (rs := [13]) (by kernel_rfl) (by simp) ?_
      refine AllReadyH.cons (o := { dst := some 21, op := Op.assign (Operand.tmp 94), type := 29, pos := "law.go:90", after := #[{ on := 11, ground := Ground.data }, { on := 12, ground := Ground.chain }, { on := 0, ground := Ground.phase }, { on := 1, ground := Ground.phase }, { on := 2, ground := Ground.phase }, { on := 3, ground := Ground.phase }, { on := 4, ground := Ground.phase }, { on := 5, ground := Ground.phase }, { on := 6, ground := Ground.phase }, { on := 7, ground := Ground.phase }, { on := 8, ground := Ground.phase }, { on := 9, ground := Ground.phase }, { on := 10, ground := Ground.phase }, { on := 11, ground := Ground.phase }, { on := 12, ground := Ground.phase }], guard := none }) rfl (fun K hK => ?_) AllReadyH.nil
      rw [if_pos (by rfl)]
      go_simp
      refine hK.out _ _ hS7 (fun _ => ?_)
      clear hK K
      try dsimp only [Act.put]
      try simp only [List.setIfInBounds_toArray, List.set_cons_zero, List.set_cons_succ]
      refine wpAnyH_done (by kernel_rfl) ?_ _
      try dsimp only [Act.put]
      try simp only [List.setIfInBounds_toArray, List.set_cons_zero, List.set_cons_succ]
      go_wp2_with fail
      go_ret
      exact ⟨rfl, B7.out⟩
end Go.Proofs.YtgonidjajmjniaaDoor
