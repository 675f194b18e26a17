/-
  The reference: number.
  No condition but the digits.
-/
import Derived.Test.YtbfhilbagojdnaaGreatPt
namespace Go.Proofs.YtbfhilbagojdnaaGreat
open Go.RowKit Wr Go.Proofs.YtbfhilbagojdnaaGreat.Nm
set_option linter.unusedVariables false
set_option maxRecDepth 100000

theorem bs_ten (w : World) : (Instr.buildSlice 22 1 #[(0, .int .u32 10)]).run Tryz.prog w = .ok (.slice (some ⟨w.heap.size, 0, none⟩) 1 1) (w.alloc (.cells #[.int .u32 10] 66)) := by kernel_rfl
theorem lim_ten : lim 10 = [10] := by decide +kernel
theorem ten_sl (w : World) : Sl (w.alloc (.cells #[.int .u32 10] 66)) (.slice (some ⟨w.heap.size, 0, none⟩) 1 1) (lim 10) := by
  rw [lim_ten]
  exact ⟨_, _, rfl, Nat.le_refl _, (fun e => by cases e), (Rd.of_blk0 (Blk.new w 66 (Lc [10]))).more (by simp)⟩
theorem lim_small (g : Nat) (h : g < 256) : (lim g).length ≤ 1 := lim_len.2 (by omega)
def NuP (w : World) (l : List UInt8) (e : Ending) (w' : World) : Prop := ∃ v, e = .returned (.tuple #[v, .bool (decide ((lim (decV l)).length ≤ 64))]) ∧ Sl w' v (lim (decV l)) ∧ Below w.heap.size w w'
theorem number_long (s : ByteArray) (w : World) (h : 617 < s.size) : Calls Tryz.prog 89 #[.string s] w fun e w' => e = .returned (.tuple #[.slice none 0 0, .bool false]) ∧ w = w' := by
  have hI : (617 : Int) < (s.size : Int) := by omega
  clear h
  go_enter Tryz.func89, Tryz.ntmps89
  go_wp2
  go_ret2
  exact ⟨rfl, rfl⟩
set_option maxHeartbeats 4000000 in
theorem number_any (s : ByteArray) (w : World) (hall : s.data.toList.all digB = true) (hl : s.size ≤ 617) : Calls Tryz.prog 89 #[.string s] w (NuP w s.data.toList) := by
  obtain ⟨l, hL⟩ : ∃ l, l = s.data.toList := ⟨_, rfl⟩
  have hIX := fun k h W => str_ix s k h W
  have hsl : s.size = l.length := by rw [hL]; simp
  rw [← hL] at hall ⊢
  obtain ⟨N, hn⟩ : ∃ n, n = s.size := ⟨_, rfl⟩
  have HN := Lib.hid (show N = l.length by omega)
  have hsz : (s.size : Int) = (N : Int) := by rw [hn]
  have HIX := Lib.hid (show ∀ k (h : k < l.length) W, (Instr.index 9 (.string s) (.int .i64 (k : Int))).run Tryz.prog W = .ok (.int .u8 ((l[k]).toNat : Int)) W by subst hL; exact hIX)
  have HALL := Lib.hid hall
  have hnI : (N : Int) ≤ 617 := by omega
  have hnL : ¬ (617 : Int) < (N : Int) := by omega
  clear hIX hsl hL hall hn hl
  go_enter Tryz.func89, Tryz.ntmps89
  go_wp2
  clear hnL
  go_loopw [4, 5] (fun s4 s5 wr => ∃ k : Nat, k ≤ N ∧ s5 = .int .i64 ((k : Nat) : Int) ∧ Sl wr s4 (lim (decV (l.take k))) ∧ Below w.heap.size w wr) (fun _ s5 _ => N - (intOf s5).toNat)
  case atStart => exact ⟨0, Nat.zero_le _, rfl, by show Sl w (.slice none 0 0) (lim 0); rw [lim_zero]; exact Sl.nil _, Below.refl _ _⟩
  case round =>
    obtain ⟨k, hk, rfl, hs, hbel⟩ := hrel
    have HB := Lib.hid hbel
    rcases Nat.lt_or_ge k N with hlt | hge
    · have hkl : k < l.length := by have := HN.out; omega
      have hix := HIX.out k hkl
      have hkI : (k : Int) < (N : Int) := by omega
      have hd2 := of_decide_eq_true (List.all_eq_true.1 HALL.out _ (List.getElem_mem hkl))
      have hsn := decV_snoc l k hkl
      have hvl := decV_len l HALL.out k (by omega)
      have hvl2 := decV_len l HALL.out (k + 1) (by have := HN.out; omega)
      obtain ⟨y, hy⟩ : ∃ y, y = decV (l.take k) := ⟨_, rfl⟩
      obtain ⟨g, hg⟩ : ∃ g, g = l[k].toNat - 48 := ⟨_, rfl⟩
      rw [← hy] at hs hsn hvl
      rw [← hg] at hsn
      have hgs : IntKind.u8.wrap ((l[k].toNat : Int) - 48) = (g : Int) := by rw [IntKind.wrap_u8']; omega
      have hg10 : g < 10 := by omega
      generalize l[k].toNat = b at *
      have hgi : IntKind.i64.wrap (g : Int) = (g : Int) := IntWalk.i64_in _ (by omega)
      have HSN := Lib.hid (show y * 10 + g = decV (l.take (k + 1)) by omega)
      have HLY := Lib.hid (show (lim y).length ≤ 40000 ∧ (lim (y * 10)).length ≤ 100000 by
        have hm : y * 10 ≤ decV (l.take (k + 1)) := by rw [← HSN.out]; omega
        have := lim_mono hm
        have := HN.out
        omega)
      obtain ⟨A, n, c, rfl⟩ := sl_form hs
      have HS := Lib.hid hs
      clear hd2 hsn hvl hvl2 hy hg hs hbel
      go_upto_region 7 with fail
      refine wp_region_any (by kernel_rfl) ?_
      change wpAny _ _ _ _ _ _ _ (World.drew wr)
      have k0 : Hid (Below w.heap.size w (World.drew wr)) := Lib.hid (below_drewN HB.out 1)
      have S0 : Hid (Sl (World.drew wr) (.slice A n c) (lim y)) := Lib.hid (HS.out.drewN 1)
      clear HB HS
      generalize World.drew wr = Wd at k0 S0 ⊢
      refine wpAny_take (i := 0) (oi := { dst := some 15, op := Op.move (Operand.tmp 4), type := 22, pos := "ref.go:409", after := #[], guard := none }) (v := (.slice A n c)) rfl (by kernel_rfl) (by kernel_rfl) (by kernel_rfl) (fun _ _ _ h => h) (Or.inl ⟨by rfl, fun W => ?y1⟩) ?_
      case y1 => go_simp
      try dsimp only [Act.put]
      try simp only [List.setIfInBounds_toArray, List.set_cons_zero, List.set_cons_succ]
      refine wpAny_take (i := 3) (oi := { dst := some 18, op := Op.move (Operand.tmp 0), type := 9, pos := "ref.go:409", after := #[], guard := none }) (v := (.string s)) rfl (by kernel_rfl) (by kernel_rfl) (by kernel_rfl) (fun _ _ _ h => h) (Or.inl ⟨by rfl, fun W => ?y2⟩) ?_
      case y2 => go_simp
      try dsimp only [Act.put]
      try simp only [List.setIfInBounds_toArray, List.set_cons_zero, List.set_cons_succ]
      refine wpAny_take (i := 4) (oi := { dst := some 19, op := Op.move (Operand.tmp 5), type := 3, pos := "ref.go:409", after := #[], guard := none }) (v := .int .i64 ((k : Nat) : Int)) rfl (by kernel_rfl) (by kernel_rfl) (by kernel_rfl) (fun _ _ _ h => h) (Or.inl ⟨by rfl, fun W => ?y3⟩) ?_
      case y3 => go_simp
      try dsimp only [Act.put]
      try simp only [List.setIfInBounds_toArray, List.set_cons_zero, List.set_cons_succ]
      refine wpAny_take (i := 5) (oi := { dst := some 20, op := Op.index 9 (Operand.tmp 18) (Operand.tmp 19), type := 5, pos := "ref.go:409", after := #[{ on := 3, ground := Ground.data }, { on := 4, ground := Ground.data }], guard := none }) (v := .int .u8 ((b : Nat) : Int)) rfl (by kernel_rfl) (by kernel_rfl) (by kernel_rfl) (fun _ _ _ h => h) (Or.inl ⟨by rfl, fun W => by go_simp⟩) ?_
      try dsimp only [Act.put]
      try simp only [List.setIfInBounds_toArray, List.set_cons_zero, List.set_cons_succ]
      refine wpAny_take (i := 6) (oi := { dst := some 21, op := Op.binOp BinOp.sub 5 (Operand.tmp 20) (Operand.const (Value.int IntKind.u8 48)) 5, type := 5, pos := "ref.go:409", after := #[{ on := 5, ground := Ground.data }], guard := none }) (v := .int .u8 ((g : Nat) : Int)) rfl (by kernel_rfl) (by kernel_rfl) (by kernel_rfl) (fun _ _ _ h => h) (Or.inl ⟨by rfl, fun W => by go_simp⟩) ?_
      try dsimp only [Act.put]
      try simp only [List.setIfInBounds_toArray, List.set_cons_zero, List.set_cons_succ]
      refine wpAny_take (i := 7) (oi := { dst := some 22, op := Op.convert 5 3 (Operand.tmp 21), type := 3, pos := "ref.go:409", after := #[{ on := 6, ground := Ground.data }], guard := none }) (v := .int .i64 ((g : Nat) : Int)) rfl (by kernel_rfl) (by kernel_rfl) (by kernel_rfl) (fun _ _ _ h => h) (Or.inl ⟨by rfl, fun W => by go_simp⟩) ?_
      try dsimp only [Act.put]
      try simp only [List.setIfInBounds_toArray, List.set_cons_zero, List.set_cons_succ]
      refine wpAny_ready (rs := [1]) (by kernel_rfl) (by simp) ?_
      refine AllReady.cons (o := { dst := some 16, op := Op.buildSlice 22 1 #[(0, Operand.const (Value.int IntKind.u32 10))], type := 22, pos := "ref.go:409", after := #[], guard := none }) rfl (fun K hK => ?_) AllReady.nil
      rw [if_pos (by rfl)]
      refine wp_bs rfl (by simp [Act.eval]) (bs_ten Wd) ?_
      have hal := (Below.refl Wd.heap.size Wd).alloc (Nat.le_refl _) (.cells #[.int .u32 10] 66)
      have kA := Lib.hid (below_step k0.out hal)
      have sA := Lib.hid (S0.out.below hal)
      have tA := Lib.hid (ten_sl Wd)
      generalize Wd.alloc (.cells #[.int .u32 10] 66) = WA at kA sA tA ⊢
      generalize (Value.slice (some ⟨Wd.heap.size, 0, none⟩) 1 1) = vT at tA ⊢
      clear hal k0 S0
      (try (refine hK _ _ ?_; clear hK K))
      try dsimp only [Act.put]
      try simp only [List.setIfInBounds_toArray, List.set_cons_zero, List.set_cons_succ]
      refine wpAny_ready (rs := [2]) (by kernel_rfl) (by simp) ?_
      refine AllReady.cons (o := { dst := some 17, op := Op.call { callee := Callee.value (Operand.func 53), args := #[Operand.tmp 15, Operand.tmp 16], argTypes := #[22, 22] }, type := 22, pos := "ref.go:409", after := #[{ on := 0, ground := Ground.data }, { on := 1, ground := Ground.data }], guard := none }) rfl (fun K hK => ?_) AllReady.nil
      rw [if_pos (by rfl)]
      go_simp
      refine (rtimes_lim sA.out tA.out HLY.out.1 (by rw [lim_ten]; decide)).mono ?_; rintro e WB ⟨vP, rfl, hs, hb⟩
      have kB := Lib.hid (below_step kA.out hb)
      have sB := Lib.hid hs
      clear hs hb kA sA tA
      go_wp2_with fail
      (try (refine hK _ _ ?_; clear hK K))
      try dsimp only [Act.put]
      try simp only [List.setIfInBounds_toArray, List.set_cons_zero, List.set_cons_succ]
      refine wpAny_ready (rs := [8]) (by kernel_rfl) (by simp) ?_
      refine AllReady.cons (o := { dst := some 23, op := Op.call { callee := Callee.value (Operand.func 35), args := #[Operand.tmp 22], argTypes := #[3] }, type := 22, pos := "ref.go:409", after := #[{ on := 7, ground := Ground.data }, { on := 2, ground := Ground.chain }], guard := none }) rfl (fun K hK => ?_) AllReady.nil
      rw [if_pos (by rfl)]
      go_simp
      refine (whole_any g WB (by omega)).mono ?_; rintro e WC ⟨vW, rfl, hs, hb⟩
      have kC := Lib.hid (below_step kB.out hb)
      have sC := Lib.hid (sB.out.below hb)
      have tC := Lib.hid hs
      clear hs hb kB sB
      go_wp2_with fail
      (try (refine hK _ _ ?_; clear hK K))
      try dsimp only [Act.put]
      try simp only [List.setIfInBounds_toArray, List.set_cons_zero, List.set_cons_succ]
      refine wpAny_ready (rs := [9]) (by kernel_rfl) (by simp) ?_
      refine AllReady.cons (o := { dst := some 24, op := Op.call { callee := Callee.value (Operand.func 52), args := #[Operand.tmp 17, Operand.tmp 23], argTypes := #[22, 22] }, type := 22, pos := "ref.go:409", after := #[{ on := 2, ground := Ground.data }, { on := 8, ground := Ground.data }, { on := 8, ground := Ground.chain }], guard := none }) rfl (fun K hK => ?_) AllReady.nil
      rw [if_pos (by rfl)]
      go_simp
      refine (rplus_lim sC.out tC.out HLY.out.2 (by have := lim_small g (by omega); omega)).mono ?_; rintro e WD ⟨vS, rfl, hs, hb⟩
      have kD := Lib.hid (below_step kC.out hb)
      have sD := Lib.hid hs
      clear hs hb kC sC tC
      go_wp2_with fail
      (try (refine hK _ _ ?_; clear hK K))
      try dsimp only [Act.put]
      try simp only [List.setIfInBounds_toArray, List.set_cons_zero, List.set_cons_succ]
      refine wpAny_take (i := 10) (oi := { dst := some 4, op := Op.assign (Operand.tmp 24), type := 22, pos := "ref.go:409", after := #[{ on := 9, ground := Ground.data }, { on := 9, ground := Ground.chain }, { on := 0, ground := Ground.phase }, { on := 1, ground := Ground.phase }, { on := 2, ground := Ground.phase }, { on := 3, ground := Ground.phase }, { on := 4, ground := Ground.phase }, { on := 5, ground := Ground.phase }, { on := 6, ground := Ground.phase }, { on := 7, ground := Ground.phase }, { on := 8, ground := Ground.phase }, { on := 9, ground := Ground.phase }], guard := none }) (v := vS) rfl (by kernel_rfl) (by kernel_rfl) (by kernel_rfl) (fun _ _ _ h => h) (Or.inl ⟨by rfl, fun W => ?y7⟩) ?_
      case y7 => go_simp
      try dsimp only [Act.put]
      try simp only [List.setIfInBounds_toArray, List.set_cons_zero, List.set_cons_succ]
      refine wpAny_done (by kernel_rfl) ?_ _
      try dsimp only [Act.put]
      try simp only [List.setIfInBounds_toArray, List.set_cons_zero, List.set_cons_succ]
      go_wp2_with fail
      go_roundw
      case rel => exact ⟨k + 1, by omega, by simp, by rw [← HSN.out]; exact sD.out, kD.out⟩
      case measure => simp only [intOf]; omega
    · have hkn : k = N := by omega
      subst hkn
      rw [HN.out, List.take_length] at hs
      obtain ⟨A, n, c, rfl⟩ := sl_form hs
      have hn := sl_len hs
      have HS := Lib.hid hs
      have HQ := Lib.hid (show decide ((n : Int) ≤ 64) = decide ((lim (decV l)).length ≤ 64) by rw [hn, decide_eq_decide]; omega)
      clear hs hn hbel hk hge
      go_wp2
      go_ret2
      exact ⟨.slice A n c, by rw [← HQ.out]; rfl, HS.out, HB.out⟩
end Go.Proofs.YtbfhilbagojdnaaGreat
