/-
  The law HashOfMatchesSpec returns true, whatever the tag and the parts.
  Condition: both tables of the round constants are as the text lays them; strings and lists are no longer than a machine's.
-/
import Derived.Test.YtfagpeacilfaaaaDoorLawC
import Derived.Test.YtfagpeacilfaaaaDoorROf
import Derived.Laws.Bits128
import Derived.Outline
namespace Go.Proofs.YtfagpeacilfaaaaDoor
open Go.RowKit Wr Sh
set_option linter.unusedVariables false

theorem and255 (n : Int) : bits .and .i64 n 255 = n % 256 := by
  have hm : (BitVec.ofInt 64 n &&& BitVec.ofInt 64 255).toNat = (n % 18446744073709551616).toNat % 256 := by
    rw [BitVec.toNat_and, show (BitVec.ofInt 64 255).toNat = 255 by decide, nat_mask8, BitVec.toNat_ofInt]; rfl
  show IntKind.i64.wrap ((BitVec.ofInt 64 n &&& BitVec.ofInt 64 255).toNat : Int) = n % 256
  rw [hm, IntKind.wrap_i64]
  omega

set_option maxRecDepth 100000 in
set_option maxHeartbeats 4000000 in
theorem ofs_go (tag : Int) (t8 : UInt8) (ht8 : IntKind.u8.wrap tag = (t8.toNat : Int)) (A : Option Addr) (l : List ByteArray) (c : Nat) (w : World) (hr : Rd w w.heap.size A (St l)) (hc : l.length ≤ c)
    (hn : l.length ≤ 281474976710656) (hs : ∀ s ∈ l, s.size ≤ 281474976710656) (ht : Tab 1 w) (ht0 : Tab 0 w) (R D : List UInt8) (hR : Hid (R = sha (inp t8 l))) (hD : Hid (D = R.take 16)) :
    Calls Tryd.prog 7 #[.int .i64 tag, .slice A l.length c] w fun e w' => e = .returned (.bool true) ∧ Below w.heap.size w w' := by
  have HT := Lib.hid ht
  have HT1 : ∀ W, Below w.heap.size w W → Tab 1 W := fun W hW => HT.out.below hW HT.out.1
  have HU := Lib.hid ht0
  have HT0 : ∀ W, Below w.heap.size w W → Tab 0 W := fun W hW => HU.out.below hW HU.out.1
  obtain ⟨F, hF⟩ : ∃ F, F = few l := ⟨_, rfl⟩
  obtain ⟨NL, hN⟩ : ∃ N, N = l.length := ⟨_, rfl⟩
  have HFEW := Lib.hid (show ∀ W, Below w.heap.size w W → Calls Tryd.prog 13 #[.slice A NL c] W fun e w' => e = .returned (.bool F) ∧ W = w' from fun W hW => by
    rw [hN]; exact few_any A l c W ((hr.below hW).more hW.size) hn hs F hF)
  cases F with
  | false =>
    rw [← hN] at hn hc ⊢
    clear ht ht0 hr hN hF hs
    go_enter Tryd.func7, Tryd.ntmps7
    go_wp2_with (first
      | (go_at_call 10; refine (sanity_any _ HT.out).mono ?_; rintro e w1 ⟨rfl, hb1⟩)
      | (go_at_call 13; (with_reducible refine (HFEW.out _ hb1).mono ?_); rintro e w2 ⟨rfl, rfl⟩))
    go_ret
    exact ⟨rfl, hb1⟩
  | true =>
    have hil := inp_few t8 hF.symm
    have HOF := Lib.hid (show ∀ W, Below w.heap.size w W → Calls Tryd.prog 21 #[.int .i64 tag, .slice A NL c] W fun e w' => e = .returned (.agg (B8 D).toArray) ∧ Below W.heap.size W w' from fun W hW => by
      rw [hN, hD.out]; exact of_go tag A l c W ((hr.below hW).more hW.size) hc t8 ht8 (by omega) (HT1 W hW) R hR)
    have HOM := Lib.hid (show ∀ W, Below w.heap.size w W → Calls Tryd.prog 21 #[.int .i64 (tag % 256), .slice A NL c] W fun e w' => e = .returned (.agg (B8 D).toArray) ∧ Below W.heap.size W w' from fun W hW => by
      rw [hN, hD.out]; exact of_go (tag % 256) A l c W ((hr.below hW).more hW.size) hc t8 (by rw [← ht8, IntKind.wrap_u8', IntKind.wrap_u8']; omega) (by omega) (HT1 W hW) R hR)
    have HRF := Lib.hid (show ∀ W, Below w.heap.size w W → Calls Tryd.prog 22 #[.int .i64 tag, .slice A NL c] W fun e w' => e = .returned (.agg (B8 D).toArray) ∧ Below W.heap.size W w' from fun W hW => by
      rw [hN, hD.out]; exact rof_go tag A l c W ((hr.below hW).more hW.size) t8 ht8 (by omega) (HT0 W hW) R hR)
    have HDL := Lib.hid (show D.length = 16 by rw [hD.out, List.length_take, hR.out, sha_len]; rfl)
    have HBD := Lib.hid (show (B8 D).length = 16 by rw [B8_len, HDL.out])
    have ha := and255 tag
    have he44 := eql44 D D HDL.out HDL.out
    rw [show (D == D) = true by simp] at he44
    rw [← hN] at hn hc ⊢
    clear ht ht0 hr hN hF hs hil
    go_enter Tryd.func7, Tryd.ntmps7
    go_upto_region 4 with (first
      | (go_at_call 10; refine (sanity_any _ HT.out).mono ?_; rintro e w1 ⟨rfl, hb1⟩)
      | (go_at_call 13; (with_reducible refine (HFEW.out _ hb1).mono ?_); rintro e w2 ⟨rfl, rfl⟩))
    go_cut [6] (fun s6 wx => ∃ g, s6 = .pointer (some ⟨g, 0, none⟩) ∧ Hid (Blk wx g 44 (B8 D)) ∧ Hid (Below w1.heap.size w1 wx))
    case first =>
      go_wp2_with (first
        | (go_at_call 21; (with_reducible refine (HOF.out _ hb1).mono ?_); rintro e w2 ⟨rfl, hb2⟩)
        | (with_reducible refine wpList_store_row rfl 44 (.tmp 6) (.tmp 14) rfl w2.heap.size (B8 D).toArray rfl rfl 44 _ (heap_alloc_new w2 _) (size44' _ HDL.out) (by simp [HBD.out]) (one8 _) ?_))
      go_meet
      exact ⟨w2.heap.size, rfl, Lib.hid (heap_setRow _ w2.heap.size (B8 D).toArray _ 44 (heap_alloc_new w2 _)), Lib.hid (belowRow (hb2.alloc hb2.size _) hb2.size _)⟩
    case rest =>
      obtain ⟨g, rfl, K6, HB2⟩ := hcut
      rename World => wb
      have HB := Lib.hid (hb1.trans (HB2.out.mono hb1.size))
      have HLD := Lib.hid (show ∀ W, Below wb.heap.size wb W → ∀ j x, (B8 D)[j]? = some x → W.cell? ((⟨g, 0, none⟩ : Addr).add j) = some x from fun W hW => (K6.out.below hW K6.out.lt).at)
      have HBW := Lib.hid (show ∀ W, Below wb.heap.size wb W → Below w.heap.size w W from fun W hW => HB.out.trans (hW.mono HB.out.size))
      have hS0 : Below wb.heap.size wb wb.drew := (Below.refl _ _).drew
      go_upto_region 5 with (fail)
      refine wp_region_held (S := fun W => Below wb.heap.size wb W) (by kernel_rfl) ?_
      change wpAnyH _ _ _ _ _ _ _ _ (World.drew wb)
      refine wpAnyH_take (i := 0) (oi := { dst := some 15, op := Op.move (Operand.tmp 5), type := 4, pos := "law.go:95", after := #[], guard := none }) (v := .bool true) rfl (by kernel_rfl) (by kernel_rfl) (by kernel_rfl) (fun _ _ _ h => h) (Or.inl ⟨by rfl, fun W hW => ?y1⟩) hS0 ?_
      case y1 => go_simp
      try dsimp only [Act.put]
      try simp only [List.setIfInBounds_toArray, List.set_cons_zero, List.set_cons_succ]
      refine wpAnyH_take (i := 1) (oi := { dst := some 16, op := Op.move (Operand.tmp 15), type := 4, pos := "law.go:95", after := #[{ on := 0, ground := Ground.data }], guard := none }) (v := .bool true) rfl (by kernel_rfl) (by kernel_rfl) (by kernel_rfl) (fun _ _ _ h => h) (Or.inl ⟨by rfl, fun W hW => ?y2⟩) hS0 ?_
      case y2 => go_simp
      try dsimp only [Act.put]
      try simp only [List.setIfInBounds_toArray, List.set_cons_zero, List.set_cons_succ]
      refine wpAnyH_take (i := 2) (oi := { dst := some 17, op := Op.load 44 (Operand.tmp 6), type := 44, pos := "law.go:95", after := #[{ on := 1, ground := Ground.guard }], guard := some (1, true) }) (v := .agg (B8 D).toArray) rfl (by kernel_rfl) (by kernel_rfl) (by kernel_rfl) (fun _ _ _ h => h) (Or.inl ⟨by rfl, fun W hW => exec_load_at _ _ W 44 (.tmp 6) rfl ⟨g, 0, none⟩ rfl (B8 D) _ (HLD.out W hW) Tryd.underlying44 rfl (size44l _ HDL.out)⟩) hS0 ?_
      try dsimp only [Act.put]
      try simp only [List.setIfInBounds_toArray, List.set_cons_zero, List.set_cons_succ]
      refine wpAnyH_take (i := 3) (oi := { dst := some 18, op := Op.move (Operand.tmp 0), type := 3, pos := "law.go:95", after := #[{ on := 1, ground := Ground.guard }], guard := some (1, true) }) (v := .int .i64 tag) rfl (by kernel_rfl) (by kernel_rfl) (by kernel_rfl) (fun _ _ _ h => h) (Or.inl ⟨by rfl, fun W hW => ?y4⟩) hS0 ?_
      case y4 => go_simp
      try dsimp only [Act.put]
      try simp only [List.setIfInBounds_toArray, List.set_cons_zero, List.set_cons_succ]
      refine wpAnyH_take (i := 4) (oi := { dst := some 19, op := Op.move (Operand.tmp 1), type := 27, pos := "law.go:95", after := #[{ on := 1, ground := Ground.guard }], guard := some (1, true) }) (v := .slice A NL c) rfl (by kernel_rfl) (by kernel_rfl) (by kernel_rfl) (fun _ _ _ h => h) (Or.inl ⟨by rfl, fun W hW => ?y5⟩) hS0 ?_
      case y5 => go_simp
      try dsimp only [Act.put]
      try simp only [List.setIfInBounds_toArray, List.set_cons_zero, List.set_cons_succ]
      refine wpAnyH_ready (rs := [5]) (by kernel_rfl) (by simp) ?_
      refine AllReadyH.cons (o := { dst := some 20, op := Op.call { callee := Callee.value (Operand.func 22), args := #[Operand.tmp 18, Operand.tmp 19], argTypes := #[3, 27] }, type := 44, pos := "law.go:95", after := #[{ on := 3, ground := Ground.data }, { on := 4, ground := Ground.data }, { on := 1, ground := Ground.chain }, { on := 1, ground := Ground.guard }], guard := some (1, true) }) rfl (fun K hK => ?_) AllReadyH.nil
      rw [if_pos (by rfl)]
      go_simp
      refine (HRF.out _ (HBW.out _ hS0)).mono ?_
      rintro e w3 ⟨rfl, hb3⟩
      have hS1 : Below wb.heap.size wb w3 := hS0.trans (hb3.mono hS0.size)
      go_wp2_with fail
      refine hK.out _ _ hS1 (fun _ => ?_)
      clear hK K
      try dsimp only [Act.put]
      try simp only [List.setIfInBounds_toArray, List.set_cons_zero, List.set_cons_succ]
      refine wpAnyH_take (i := 6) (oi := { dst := some 21, op := Op.binOp BinOp.eql 44 (Operand.tmp 17) (Operand.tmp 20) 44, type := 4, pos := "law.go:95", after := #[{ on := 2, ground := Ground.data }, { on := 5, ground := Ground.data }, { on := 1, ground := Ground.guard }], guard := some (1, true) }) (v := .bool true) rfl (by kernel_rfl) (by kernel_rfl) (by kernel_rfl) (fun _ _ _ h => h) (Or.inl ⟨by rfl, fun W hW => ?y6⟩) hS1 ?_
      case y6 => go_simp
      try dsimp only [Act.put]
      try simp only [List.setIfInBounds_toArray, List.set_cons_zero, List.set_cons_succ]
      refine wpAnyH_take (i := 7) (oi := { dst := some 22, op := Op.pick (Operand.tmp 16) (Operand.tmp 21) (Operand.const (Value.bool false)), type := 4, pos := "law.go:95", after := #[{ on := 1, ground := Ground.data }, { on := 6, ground := Ground.data }], guard := none }) (v := .bool true) rfl (by kernel_rfl) (by kernel_rfl) (by kernel_rfl) (fun _ _ _ h => h) (Or.inl ⟨by rfl, fun W hW => ?y7⟩) hS1 ?_
      case y7 => go_simp
      try dsimp only [Act.put]
      try simp only [List.setIfInBounds_toArray, List.set_cons_zero, List.set_cons_succ]
      refine wpAnyH_take (i := 8) (oi := { dst := some 23, op := Op.move (Operand.tmp 22), type := 4, pos := "law.go:95", after := #[{ on := 7, ground := Ground.data }, { on := 5, ground := Ground.chain }], guard := none }) (v := .bool true) rfl (by kernel_rfl) (by kernel_rfl) (by kernel_rfl) (fun _ _ _ h => h) (Or.inl ⟨by rfl, fun W hW => ?y8⟩) hS1 ?_
      case y8 => go_simp
      try dsimp only [Act.put]
      try simp only [List.setIfInBounds_toArray, List.set_cons_zero, List.set_cons_succ]
      refine wpAnyH_take (i := 9) (oi := { dst := some 24, op := Op.load 44 (Operand.tmp 6), type := 44, pos := "law.go:95", after := #[{ on := 8, ground := Ground.guard }], guard := some (8, true) }) (v := .agg (B8 D).toArray) rfl (by kernel_rfl) (by kernel_rfl) (by kernel_rfl) (fun _ _ _ h => h) (Or.inl ⟨by rfl, fun W hW => exec_load_at _ _ W 44 (.tmp 6) rfl ⟨g, 0, none⟩ rfl (B8 D) _ (HLD.out W hW) Tryd.underlying44 rfl (size44l _ HDL.out)⟩) hS1 ?_
      try dsimp only [Act.put]
      try simp only [List.setIfInBounds_toArray, List.set_cons_zero, List.set_cons_succ]
      refine wpAnyH_take (i := 10) (oi := { dst := some 25, op := Op.move (Operand.tmp 0), type := 3, pos := "law.go:95", after := #[{ on := 8, ground := Ground.guard }], guard := some (8, true) }) (v := .int .i64 tag) rfl (by kernel_rfl) (by kernel_rfl) (by kernel_rfl) (fun _ _ _ h => h) (Or.inl ⟨by rfl, fun W hW => ?y10⟩) hS1 ?_
      case y10 => go_simp
      try dsimp only [Act.put]
      try simp only [List.setIfInBounds_toArray, List.set_cons_zero, List.set_cons_succ]
      refine wpAnyH_take (i := 11) (oi := { dst := some 26, op := Op.binOp BinOp.and 3 (Operand.tmp 25) (Operand.const (Value.int IntKind.i64 255)) 3, type := 3, pos := "law.go:95", after := #[{ on := 10, ground := Ground.data }, { on := 8, ground := Ground.guard }], guard := some (8, true) }) (v := .int .i64 (tag % 256)) rfl (by kernel_rfl) (by kernel_rfl) (by kernel_rfl) (fun _ _ _ h => h) (Or.inl ⟨by rfl, fun W hW => ?y11⟩) hS1 ?_
      case y11 => go_simp
      try dsimp only [Act.put]
      try simp only [List.setIfInBounds_toArray, List.set_cons_zero, List.set_cons_succ]
      refine wpAnyH_take (i := 12) (oi := { dst := some 27, op := Op.move (Operand.tmp 1), type := 27, pos := "law.go:95", after := #[{ on := 8, ground := Ground.guard }], guard := some (8, true) }) (v := .slice A NL c) rfl (by kernel_rfl) (by kernel_rfl) (by kernel_rfl) (fun _ _ _ h => h) (Or.inl ⟨by rfl, fun W hW => ?y12⟩) hS1 ?_
      case y12 => go_simp
      try dsimp only [Act.put]
      try simp only [List.setIfInBounds_toArray, List.set_cons_zero, List.set_cons_succ]
      refine wpAnyH_ready (rs := [13]) (by kernel_rfl) (by simp) ?_
      refine AllReadyH.cons (o := { dst := some 28, op := Op.call { callee := Callee.value (Operand.func 21), args := #[Operand.tmp 26, Operand.tmp 27], argTypes := #[3, 27] }, type := 44, pos := "law.go:95", after := #[{ on := 11, ground := Ground.data }, { on := 12, ground := Ground.data }, { on := 8, ground := Ground.chain }, { on := 8, ground := Ground.guard }], guard := some (8, true) }) rfl (fun K hK => ?_) AllReadyH.nil
      rw [if_pos (by rfl)]
      go_simp
      refine (HOM.out _ (HBW.out _ hS1)).mono ?_
      rintro e w4 ⟨rfl, hb4⟩
      have hS2 : Below wb.heap.size wb w4 := hS1.trans (hb4.mono hS1.size)
      go_wp2_with fail
      refine hK.out _ _ hS2 (fun _ => ?_)
      clear hK K
      try dsimp only [Act.put]
      try simp only [List.setIfInBounds_toArray, List.set_cons_zero, List.set_cons_succ]
      refine wpAnyH_take (i := 14) (oi := { dst := some 29, op := Op.binOp BinOp.eql 44 (Operand.tmp 24) (Operand.tmp 28) 44, type := 4, pos := "law.go:95", after := #[{ on := 9, ground := Ground.data }, { on := 13, ground := Ground.data }, { on := 8, ground := Ground.guard }], guard := some (8, true) }) (v := .bool true) rfl (by kernel_rfl) (by kernel_rfl) (by kernel_rfl) (fun _ _ _ h => h) (Or.inl ⟨by rfl, fun W hW => ?y13⟩) hS2 ?_
      case y13 => go_simp
      try dsimp only [Act.put]
      try simp only [List.setIfInBounds_toArray, List.set_cons_zero, List.set_cons_succ]
      refine wpAnyH_take (i := 15) (oi := { dst := some 30, op := Op.pick (Operand.tmp 23) (Operand.tmp 29) (Operand.const (Value.bool false)), type := 4, pos := "law.go:95", after := #[{ on := 8, ground := Ground.data }, { on := 14, ground := Ground.data }], guard := none }) (v := .bool true) rfl (by kernel_rfl) (by kernel_rfl) (by kernel_rfl) (fun _ _ _ h => h) (Or.inl ⟨by rfl, fun W hW => ?y14⟩) hS2 ?_
      case y14 => go_simp
      try dsimp only [Act.put]
      try simp only [List.setIfInBounds_toArray, List.set_cons_zero, List.set_cons_succ]
      refine wpAnyH_take (i := 16) (oi := { dst := some 4, op := Op.assign (Operand.tmp 30), type := 4, pos := "law.go:95", after := #[{ on := 15, ground := Ground.data }, { on := 13, ground := Ground.chain }, { on := 0, ground := Ground.phase }, { on := 1, ground := Ground.phase }, { on := 2, ground := Ground.phase }, { on := 3, ground := Ground.phase }, { on := 4, ground := Ground.phase }, { on := 5, ground := Ground.phase }, { on := 6, ground := Ground.phase }, { on := 7, ground := Ground.phase }, { on := 8, ground := Ground.phase }, { on := 9, ground := Ground.phase }, { on := 10, ground := Ground.phase }, { on := 11, ground := Ground.phase }, { on := 12, ground := Ground.phase }, { on := 13, ground := Ground.phase }, { on := 14, ground := Ground.phase }, { on := 15, ground := Ground.phase }], guard := none }) (v := .bool true) rfl (by kernel_rfl) (by kernel_rfl) (by kernel_rfl) (fun _ _ _ h => h) (Or.inl ⟨by rfl, fun W hW => ?y15⟩) hS2 ?_
      case y15 => go_simp
      try dsimp only [Act.put]
      try simp only [List.setIfInBounds_toArray, List.set_cons_zero, List.set_cons_succ]
      refine wpAnyH_done (by kernel_rfl) ?_ _
      try dsimp only [Act.put]
      try simp only [List.setIfInBounds_toArray, List.set_cons_zero, List.set_cons_succ]
      go_wp2_with fail
      go_ret
      exact ⟨rfl, HBW.out _ hS2⟩
end Go.Proofs.YtfagpeacilfaaaaDoor
