/-
  The reference: Print.
  No condition but the lengths.
-/
import Derived.Test.YtbfhilbagojdnaaGreatDm
namespace Go.Proofs.YtbfhilbagojdnaaGreat
open Go.RowKit Wr Go.Proofs.YtbfhilbagojdnaaGreat.Nm
set_option linter.unusedVariables false
set_option maxRecDepth 100000

theorem rdec_all {v : Value} {x : Nat} {w : World} (h : Sl w v (lim x)) (hl : x < 4294967296 ^ 64) : Calls Tryz.prog 34 #[v] w fun e w' => e = .returned (.string ⟨(decS x).toArray⟩) ∧ Below w.heap.size w w' :=
  rdec_any h (by have := lim_len.2 hl; omega)
set_option maxHeartbeats 4000000 in
theorem rprint_any {v1 v2 : Value} {r : Rt} {w : World} (hr : Rk w v1 v2 r) : Calls Tryz.prog 27 #[.agg #[v1, v2]] w (PrP w (printR r)) := by
  suffices hgen : ∀ Res, Hid (printR r = Res) → Calls Tryz.prog 27 #[.agg #[v1, v2]] w (PrP w Res) from hgen _ (Lib.hid rfl)
  intro Res HRR
  obtain ⟨A1, n1, k1, e1⟩ := sl_form hr.s1
  obtain ⟨A2, n2, k2, e2⟩ := sl_form hr.s2
  subst e1 e2
  have hX0 := box0 w (.slice A1 n1 k1) (.slice A2 n2 k2)
  have hB0 := boxb w (.slice A1 n1 k1) (.slice A2 n2 k2)
  have HX0 := Lib.hid hX0; have HB0 := Lib.hid hB0
  have HV := Lib.hid (hr.below hB0).rvalid
  have HR := Lib.hid hr
  clear hr hX0 hB0
  go_enter Tryz.func27, Tryz.ntmps27
  go_wp2_with fail
  refine HV.out.mono ?_
  rintro e w1 ⟨rfl, hb⟩
  have HX := Lib.hid (HX0.out.below hb HX0.out.lt); have HB := Lib.hid (below_step HB0.out hb)
  clear hb HX0 HB0 HV
  by_cases hz : vld r = 0
  · obtain ⟨x, y, va, e1⟩ := vld_to HR.out.ok hz
    subst e1
    have hre := HRR.out
    unfold printR at hre
    rw [if_neg (by simp [hz])] at hre
    rw [hz]
    clear hz HRR
    have ha1 : Sl w (.slice A1 n1 k1) (lim x) := HR.out.s1
    have ha2 : Sl w (.slice A2 n2 k2) (dl y) := HR.out.s2
    have hn2 := sl_len ha2
    obtain ⟨hc1, hc2, hf1, hf2⟩ := blk_cells2 HX.out
    have HDN := Lib.hid (fun W (h : Below w.heap.size w W) => rdec_all (ha1.below h) va.hx)
    by_cases h1 : y = 1
    · subst h1
      rw [dl_one] at hn2 hre
      rw [if_pos rfl] at hre
      rw [num_lim] at hre
      subst hre
      subst hn2
      have HD := Lib.hid (HDN.out _ HB.out)
      clear va ha1 ha2 HR HDN
      go_wp2_with fail
      refine HD.out.mono ?_
      rintro e w2 ⟨rfl, hb⟩
      have HB2 := Lib.hid (below_step HB.out hb)
      clear hb
      go_wp2_with fail
      go_ret2
      exact ⟨rfl, HB2.out⟩
    · have hdl : dl y = lim y := by unfold dl; rw [if_neg h1]
      rw [hdl] at ha2 hn2 hre
      have hl0 : (lim y).length ≠ 0 := fun e => by
        have := lim_nil.1 (List.length_eq_zero_iff.1 e)
        have := va.pos
        omega
      rw [if_neg (fun e => hl0 (by rw [show lim y = [] from e]; rfl)), num_lim, num_lim] at hre
      subst hre
      have hne : ((n2 : Int) == 0) = false := by rw [beq_eq_false_iff_ne]; omega
      have HDD := Lib.hid (fun W (h : Below w.heap.size w W) => rdec_all (ha2.below h) va.hy)
      have hd1 := decS_len va.hx
      have hd2 := decS_len va.hy
      clear va ha1 ha2 HR hl0 hn2 hdl h1
      go_upto_region 6 with (fail)
      clear hc1 hc2 hf1 hf2 hne
      refine wp_region_held (S := fun W => Blk W w.heap.size 27 [(.slice A1 n1 k1), (.slice A2 n2 k2)]) (by kernel_rfl) ?_
      change wpAnyH _ _ _ _ _ _ _ _ (World.drew w1)
      have hs0 : Blk (World.drew w1) w.heap.size 27 [(.slice A1 n1 k1), (.slice A2 n2 k2)] := HX.out
      have BD : Hid (Below w.heap.size w (World.drew w1)) := Lib.hid (below_drewN HB.out 1)
      generalize World.drew w1 = Wd at hs0 BD ⊢
      refine wpAnyH_take (i := 0) (oi := { dst := some 17, op := Op.fieldAddr 27 (Operand.tmp 1) 0, type := 0, pos := "ref.go:389", after := #[], guard := none }) (v := .pointer (some ⟨w.heap.size, 0, none⟩)) rfl (by kernel_rfl) (by kernel_rfl) (by kernel_rfl) (fun _ _ _ h => h) (Or.inl ⟨by rfl, fun W hW => ?y1⟩) hs0 ?_
      case y1 => go_simp
      try dsimp only [Act.put]
      try simp only [List.setIfInBounds_toArray, List.set_cons_zero, List.set_cons_succ]
      refine wpAnyH_take (i := 1) (oi := { dst := some 18, op := Op.load 22 (Operand.tmp 17), type := 22, pos := "ref.go:389", after := #[{ on := 0, ground := Ground.data }], guard := none }) (v := (.slice A1 n1 k1)) rfl (by kernel_rfl) (by kernel_rfl) (by kernel_rfl) (fun _ _ _ h => h) (Or.inl ⟨by rfl, fun W hW => by have hcl : W.cell? ⟨w.heap.size, 0, none⟩ = some (.slice A1 n1 k1) := (Blk.cell hW 0).trans rfl; go_simp⟩) hs0 ?_
      try dsimp only [Act.put]
      try simp only [List.setIfInBounds_toArray, List.set_cons_zero, List.set_cons_succ]
      refine wpAnyH_take (i := 4) (oi := { dst := some 21, op := Op.fieldAddr 27 (Operand.tmp 1) 1, type := 0, pos := "ref.go:389", after := #[], guard := none }) (v := .pointer (some ⟨w.heap.size, 1, none⟩)) rfl (by kernel_rfl) (by kernel_rfl) (by kernel_rfl) (fun _ _ _ h => h) (Or.inl ⟨by rfl, fun W hW => ?y3⟩) hs0 ?_
      case y3 => go_simp
      try dsimp only [Act.put]
      try simp only [List.setIfInBounds_toArray, List.set_cons_zero, List.set_cons_succ]
      refine wpAnyH_take (i := 5) (oi := { dst := some 22, op := Op.load 22 (Operand.tmp 21), type := 22, pos := "ref.go:389", after := #[{ on := 4, ground := Ground.data }], guard := none }) (v := (.slice A2 n2 k2)) rfl (by kernel_rfl) (by kernel_rfl) (by kernel_rfl) (fun _ _ _ h => h) (Or.inl ⟨by rfl, fun W hW => by have hcl : W.cell? ⟨w.heap.size, 1, none⟩ = some (.slice A2 n2 k2) := (Blk.cell hW 1).trans rfl; go_simp⟩) hs0 ?_
      try dsimp only [Act.put]
      try simp only [List.setIfInBounds_toArray, List.set_cons_zero, List.set_cons_succ]
      refine wpAnyH_ready (rs := [2]) (by kernel_rfl) (by simp) ?_
      refine AllReadyH.cons (o := { dst := some 19, op := Op.call { callee := Callee.value (Operand.func 34), args := #[Operand.tmp 18], argTypes := #[22] }, type := 9, pos := "ref.go:389", after := #[{ on := 1, ground := Ground.data }], guard := none }) rfl (fun K hK => ?_) AllReadyH.nil
      rw [if_pos (by rfl)]
      go_simp
      refine (HDN.out _ BD.out ).mono ?_; rintro e w5 ⟨rfl, hb⟩
      have B6 := Lib.hid (below_step BD.out hb)
      have hs7 := hs0.below hb hs0.lt
      clear hb
      go_wp2_with fail
      refine hK.out _ _ hs7 (fun _ => ?_)
      clear hK K
      try dsimp only [Act.put]
      try simp only [List.setIfInBounds_toArray, List.set_cons_zero, List.set_cons_succ]
      refine wpAnyH_take (i := 3) (oi := { dst := some 20, op := Op.binOp BinOp.add 9 (Operand.tmp 19) (Operand.const (Value.string { data := #[47] })) 9, type := 9, pos := "ref.go:389", after := #[{ on := 2, ground := Ground.data }], guard := none }) (v := .string ((⟨(decS x).toArray⟩ : ByteArray) ++ (⟨#[47]⟩ : ByteArray))) rfl (by kernel_rfl) (by kernel_rfl) (by kernel_rfl) (fun _ _ _ h => h) (Or.inl ⟨by rfl, fun W hW => by go_simp; omega⟩) hs7 ?_
      try dsimp only [Act.put]
      try simp only [List.setIfInBounds_toArray, List.set_cons_zero, List.set_cons_succ]
      refine wpAnyH_ready (rs := [6]) (by kernel_rfl) (by simp) ?_
      refine AllReadyH.cons (o := { dst := some 23, op := Op.call { callee := Callee.value (Operand.func 34), args := #[Operand.tmp 22], argTypes := #[22] }, type := 9, pos := "ref.go:389", after := #[{ on := 5, ground := Ground.data }, { on := 2, ground := Ground.chain }], guard := none }) rfl (fun K hK => ?_) AllReadyH.nil
      rw [if_pos (by rfl)]
      go_simp
      refine (HDD.out _ B6.out ).mono ?_; rintro e w9 ⟨rfl, hb⟩
      have B10 := Lib.hid (below_step B6.out hb)
      have hs11 := hs7.below hb hs7.lt
      clear hb
      go_wp2_with fail
      refine hK.out _ _ hs11 (fun _ => ?_)
      clear hK K
      try dsimp only [Act.put]
      try simp only [List.setIfInBounds_toArray, List.set_cons_zero, List.set_cons_succ]
      refine wpAnyH_take (i := 7) (oi := { dst := some 24, op := Op.binOp BinOp.add 9 (Operand.tmp 20) (Operand.tmp 23) 9, type := 9, pos := "ref.go:389", after := #[{ on := 3, ground := Ground.data }, { on := 6, ground := Ground.data }], guard := none }) (v := .string (((⟨(decS x).toArray⟩ : ByteArray) ++ (⟨#[47]⟩ : ByteArray)) ++ (⟨(decS y).toArray⟩ : ByteArray))) rfl (by kernel_rfl) (by kernel_rfl) (by kernel_rfl) (fun _ _ _ h => h) (Or.inl ⟨by rfl, fun W hW => by go_simp; omega⟩) hs11 ?_
      try dsimp only [Act.put]
      try simp only [List.setIfInBounds_toArray, List.set_cons_zero, List.set_cons_succ]
      refine wpAnyH_take (i := 8) (oi := { dst := some 2, op := Op.assign (Operand.tmp 24), type := 9, pos := "ref.go:389", after := #[{ on := 7, ground := Ground.data }, { on := 6, ground := Ground.chain }, { on := 0, ground := Ground.phase }, { on := 1, ground := Ground.phase }, { on := 2, ground := Ground.phase }, { on := 3, ground := Ground.phase }, { on := 4, ground := Ground.phase }, { on := 5, ground := Ground.phase }, { on := 6, ground := Ground.phase }, { on := 7, ground := Ground.phase }], guard := none }) (v := .string (((⟨(decS x).toArray⟩ : ByteArray) ++ (⟨#[47]⟩ : ByteArray)) ++ (⟨(decS y).toArray⟩ : ByteArray))) rfl (by kernel_rfl) (by kernel_rfl) (by kernel_rfl) (fun _ _ _ h => h) (Or.inl ⟨by rfl, fun W hW => ?y13⟩) hs11 ?_
      case y13 => go_simp
      try dsimp only [Act.put]
      try simp only [List.setIfInBounds_toArray, List.set_cons_zero, List.set_cons_succ]
      refine wpAnyH_take (i := 9) (oi := { dst := some 3, op := Op.assign (Operand.const (Value.int IntKind.i64 0)), type := 28, pos := "ref.go:389", after := #[{ on := 8, ground := Ground.chain }, { on := 0, ground := Ground.phase }, { on := 1, ground := Ground.phase }, { on := 2, ground := Ground.phase }, { on := 3, ground := Ground.phase }, { on := 4, ground := Ground.phase }, { on := 5, ground := Ground.phase }, { on := 6, ground := Ground.phase }, { on := 7, ground := Ground.phase }, { on := 8, ground := Ground.phase }], guard := none }) (v := .int .i64 0) rfl (by kernel_rfl) (by kernel_rfl) (by kernel_rfl) (fun _ _ _ h => h) (Or.inl ⟨by rfl, fun W hW => ?y14⟩) hs11 ?_
      case y14 => go_simp
      try dsimp only [Act.put]
      try simp only [List.setIfInBounds_toArray, List.set_cons_zero, List.set_cons_succ]
      refine wpAnyH_done (by kernel_rfl) ?_ _
      try dsimp only [Act.put]
      try simp only [List.setIfInBounds_toArray, List.set_cons_zero, List.set_cons_succ]
      go_wp2_with fail
      rw [bytes_app]
      go_ret2
      exact ⟨rfl, B10.out⟩
  · have hne : (((vld r : Nat) : Int) != 0) = true := by rw [bne_iff_ne]; omega
    have hre := HRR.out
    rw [show printR r = ([], vld r) by unfold printR; rw [if_pos hz]] at hre
    subst hre
    generalize vld r = E at *
    clear hz HRR
    go_wp2_with fail
    go_ret2
    exact ⟨rfl, HB.out⟩
end Go.Proofs.YtbfhilbagojdnaaGreat
