/-
  The contracts of the reference's Under, Check and CheckRange.
  Conditions: as the package's; the table of the reference's constants is as the text lays it.
-/
import Derived.Test.YtofccgkgjcnfbaaDoorEqT
import Derived.Test.YtofccgkgjcnfbaaDoorApis
import Derived.Test.YtofccgkgjcnfbaaDoorRProve
namespace Go.Proofs.YtofccgkgjcnfbaaDoor
open Go.RowKit Wr Sh
set_option linter.unusedVariables false
set_option maxRecDepth 100000

theorem validE_vals (L : List Lf) : validE L = 0 ∨ validE L = 1 ∨ validE L = 4 := by
  unfold validE; split
  · exact .inr (.inr rfl)
  · split
    · exact .inr (.inr rfl)
    · split
      · exact .inl rfl
      · exact .inr (.inl rfl)
set_option maxHeartbeats 16000000 in
theorem runder_any (root : List UInt8) (p : Pf) (A1 A2 : Option Addr) (n m c1 c2 : Nat) (w : World) (hn : n = p.leaves.length) (hm : m = p.sides.length) (hroot : root.length = 16) (hp : PfAt w w.heap.size p A1 A2 c1 c2) (ht : Tab 0 w) :
    Calls Tryd.prog 61 #[.agg (B8 root).toArray, .agg #[.int .i64 p.first, .int .i64 p.size, .slice A1 n c1, .slice A2 m c2]] w fun e w' => e = .returned (.bool (underB node lf top root p)) ∧ Below w.heap.size w w' := by
  obtain ⟨f, sz, L, S⟩ := p
  obtain ⟨hr1, hr2, hk1, hk2, hokl, hoks, ⟨⟨hf1, hf2⟩, hs1, hs2⟩⟩ := hp
  dsimp only at *
  have hln := hokl.1
  have hlm := hoks.1
  rw [← hn] at hln
  rw [← hm] at hlm
  obtain ⟨W1, hW1⟩ : ∃ W, W = (w.alloc (.cells (B8 root).toArray 29)).alloc (.cells #[.int .i64 f, .int .i64 sz, .slice A1 n c1, .slice A2 m c2] 54) := ⟨_, rfl⟩
  have HB := Lib.hid (((Below.refl w.heap.size w).alloc (Nat.le_refl _) (.cells (B8 root).toArray 29)).alloc (by simp) (.cells #[.int .i64 f, .int .i64 sz, .slice A1 n c1, .slice A2 m c2] 54))
  have HL := Lib.hid hokl
  have HS := Lib.hid hoks
  have HR1 := Lib.hid hr1
  have HR2 := Lib.hid hr2
  have HT := Lib.hid ht
  have HRo := Lib.hid hroot
  have HW := Lib.hid hW1
  have HK := Lib.hid (And.intro hk1 hk2)
  have HNL := Lib.hid hn
  have HML := Lib.hid hm
  clear hr1 hr2 hk1 hk2 hokl hoks ht hroot hW1
  have bad : ∀ (h : formP ⟨f, sz, L, S⟩ = false), underB node lf top root ⟨f, sz, L, S⟩ = false := fun h => by unfold underB; rw [h]; rfl
  by_cases x1 : sz < 0
  · rw [bad (by unfold formP; simp; omega)]
    clear bad hn hm
    go_enter Tryd.func61, Tryd.ntmps61
    go_wp2_with fail
    go_ret
    exact ⟨rfl, HB.out⟩
  by_cases x2 : 4096 < sz
  · rw [bad (by unfold formP; simp; omega)]
    clear bad hn hm
    go_enter Tryd.func61, Tryd.ntmps61
    go_wp2_with fail
    go_ret
    exact ⟨rfl, HB.out⟩
  by_cases x3 : f < 0
  · rw [bad (by unfold formP; simp; omega)]
    clear bad hn hm
    go_enter Tryd.func61, Tryd.ntmps61
    go_wp2_with fail
    go_ret
    exact ⟨rfl, HB.out⟩
  by_cases x4 : sz < f
  · rw [bad (by unfold formP; simp; omega)]
    clear bad hn hm
    go_enter Tryd.func61, Tryd.ntmps61
    go_wp2_with fail
    go_ret
    exact ⟨rfl, HB.out⟩
  by_cases x5 : sz - f < (n : Int)
  · rw [bad (by unfold formP; simp; omega)]
    clear bad hn hm
    go_enter Tryd.func61, Tryd.ntmps61
    go_wp2_with fail
    go_ret
    exact ⟨rfl, HB.out⟩
  have HV := Lib.hid (rvalid_any A1 L c1 W1 HL.out (by rw [HW.out]; exact (HR1.out.below HB.out).more (by simp; omega)))
  obtain ⟨V, hV⟩ : ∃ V, V = validE L := ⟨_, rfl⟩
  rw [← hV, ← hn] at HV
  have hvs := validE_vals L
  rw [← hV] at hvs
  have hbad : V ≠ 0 → underB node lf top root ⟨f, sz, L, S⟩ = false := fun h => bad (by unfold formP; rw [show decide (validE L = 0) = false by rw [decide_eq_false_iff_not, ← hV]; exact h]; simp)
  have hb1 : Below w.heap.size w W1 := by rw [HW.out]; exact HB.out
  have HB1 := Lib.hid hb1
  clear hb1
  rcases hvs with hv0 | hv0 | hv0
  · by_cases x6 : 0 < sz ∧ n = 0
    · obtain ⟨c51, c52⟩ := x6
      rw [bad (by have hL0 : L = [] := List.length_eq_zero_iff.1 (by rw [← hn]; exact c52); unfold formP; simp [hL0, c51])]
      have c53 : ((n : Int) == 0) = true := by rw [beq_iff_eq]; omega
      have P1 := Lib.hid (show Blk W1 (w.heap.size + 1) 54 (PR f sz (.slice A1 n c1) (.slice A2 m c2)) by rw [HW.out]; exact Blk.newAt _ _ 54 (PR f sz (.slice A1 n c1) (.slice A2 m c2)) (by simp))
      subst hv0
      clear bad hbad hV hn hm c52
      go_enter Tryd.func61, Tryd.ntmps61
      go_upto_region 3 with (go_at_call 16; rw [← HW.out]; refine HV.out.mono ?_; rintro e w2 ⟨rfl, hb2⟩; have HB2 := Lib.hid hb2; clear hb2)
      have P2 := Lib.hid (P1.out.below HB2.out P1.out.lt)
      have e1 : w2.cell? ⟨w.heap.size + 1, 1, none⟩ = some (.int .i64 sz) := (P2.out.cell 1).trans rfl
      have e2 : w2.cell? ⟨w.heap.size + 1, 2, none⟩ = some (.slice A1 n c1) := (P2.out.cell 2).trans rfl
      go_wp2_with fail
      go_ret
      exact ⟨rfl, HB1.out.trans (HB2.out.mono HB1.out.size)⟩
    · obtain ⟨F, rfl⟩ : ∃ F : Nat, f = (F : Int) := ⟨f.toNat, by omega⟩
      obtain ⟨Z, rfl⟩ : ∃ Z : Nat, sz = (Z : Int) := ⟨sz.toNat, by omega⟩
      subst hv0
      have hF : formP ⟨(F : Int), (Z : Int), L, S⟩ = true := by
        unfold formP
        simp only [Bool.and_eq_true, decide_eq_true_eq, Bool.not_eq_true', Bool.and_eq_false_iff, decide_eq_false_iff_not]
        exact ⟨⟨⟨by omega, by omega, by omega, by omega⟩, by omega⟩, hV.symm⟩
      have HB1' := HB1
      have P1 := Lib.hid (show Blk W1 (w.heap.size + 1) 54 (PR (F : Int) (Z : Int) (.slice A1 n c1) (.slice A2 m c2)) by rw [HW.out]; exact Blk.newAt _ _ 54 (PR (F : Int) (Z : Int) (.slice A1 n c1) (.slice A2 m c2)) (by simp))
      have R1 := Lib.hid (show Blk W1 w.heap.size 29 (B8 root) by rw [HW.out]; exact (Blk.new w 29 (B8 root)).alloc _)
      obtain ⟨u, hu⟩ : ∃ u, u = (runP node lf top ⟨(F : Int), (Z : Int), L, S⟩).2 := ⟨_, rfl⟩
      obtain ⟨R, s2, hrr⟩ : ∃ R s2, rroot L F S RS.new Z = (R, s2) := ⟨_, _, rfl⟩
      obtain ⟨us, hus⟩ : ∃ u, u = s2.used := ⟨_, rfl⟩
      obtain ⟨sh, hsh⟩ : ∃ u, u = s2.short := ⟨_, rfl⟩
      have hrun := rroot_run L F S Z
      rw [hrr] at hrun
      obtain ⟨b, hb⟩ : ∃ b, b = underB node lf top root ⟨(F : Int), (Z : Int), L, S⟩ := ⟨_, rfl⟩
      rw [← hb]
      have HUB := Lib.hid (show b = (decide (u = m) && decide (R = root)) ∧ us = min u m ∧ sh = decide (m < u) by
        have e1 : (runP node lf top ⟨(F : Int), (Z : Int), L, S⟩).1 = R := hrun.1.symm
        have e2 := hrun.2.used
        have e3 := hrun.2.short
        refine ⟨by rw [hb]; unfold underB; rw [hF, ← hu, e1, Bool.true_and, ← hm], ?_, ?_⟩
        · rw [hus, hm, e2, hu]; rfl
        · rw [hsh, hm, e3, hu]; rfl)
      have HRR := Lib.hid (show R.length = 16 by have := rroot_len L F S RS.new Z; rw [hrr] at this; exact this)
      have HTR := Lib.hid (fun (W : World) (gt : Nat) (hg : gt < W.heap.size) (hgw : w.heap.size ≤ gt) (hb : Below w.heap.size w W) (hst : StT (gt + 1) gt A2 m c2 (.slice none 0 0) RS.new W) =>
        troot_any (gt + 1) gt A1 A2 L S n m c1 c2 F (by omega) (by have := HT.out.1; omega) hn hm HL.out HS.out.2 HS.out.1 (by omega) Z (.slice none 0 0) RS.new W (by omega) (by simp only [RS.new, List.length_nil]; omega) hst
          ⟨(HR1.out.below hb).more hgw, (HR2.out.below hb).more hgw, HT.out.below hb HT.out.1⟩ R s2 (Lib.hid hrr))
      have HSH := Lib.hid (And.intro hus hsh)
      have c8 : ((Z : Int) > 0) → ((n : Int) == 0) = false := fun h => by rw [beq_eq_false_iff_ne]; omega
      have hZ4 : Z ≤ 4096 := by omega
      clear hb bad hbad hV hn hm hF hrun hrr hu hus hsh
      go_enter Tryd.func61, Tryd.ntmps61
      go_upto_region 3 with (go_at_call 16; rw [← HW.out]; refine HV.out.mono ?_; rintro e w2 ⟨rfl, hb2⟩; have HB2 := Lib.hid hb2; clear hb2)
      have P2 := Lib.hid (P1.out.below HB2.out P1.out.lt)
      have R2 := Lib.hid (R1.out.below HB2.out R1.out.lt)
      have B2 := Lib.hid (HB1.out.trans (HB2.out.mono HB1.out.size))
      have e1 : w2.cell? ⟨w.heap.size + 1, 1, none⟩ = some (.int .i64 (Z : Int)) := (P2.out.cell 1).trans rfl
      have e2 : w2.cell? ⟨w.heap.size + 1, 2, none⟩ = some (.slice A1 n c1) := (P2.out.cell 2).trans rfl
      have e3 : w2.cell? ⟨w.heap.size + 1, 3, none⟩ = some (.slice A2 m c2) := (P2.out.cell 3).trans rfl
      obtain ⟨gt, hgt⟩ : ∃ g, g = w2.heap.size := ⟨_, rfl⟩
      obtain ⟨W4, hW4⟩ : ∃ W, W = w2.alloc (.cells #[.slice none 0 0, .slice A2 m c2, .int .i64 0, .bool false] 104) := ⟨_, rfl⟩
      have S4 := Lib.hid (show StT (gt + 1) gt A2 m c2 (.slice none 0 0) RS.new W4 by rw [hW4, hgt]; exact StT.new A2 m c2 w2)
      have hb4 : Below w2.heap.size w2 W4 := by rw [hW4]; exact (Below.refl _ _).alloc (Nat.le_refl _) _
      have P4 := Lib.hid (P2.out.below hb4 P2.out.lt)
      have R4 := Lib.hid (R2.out.below hb4 R2.out.lt)
      have B4 := Lib.hid (B2.out.trans (hb4.mono B2.out.size))
      have HGT := Lib.hid (show w.heap.size + 1 < gt ∧ gt < W4.heap.size from ⟨by have := P2.out.lt; omega, S4.out.blk.lt⟩)
      have HW4 := Lib.hid hW4
      clear hW4 hb4 P2 R2 B2 HB2 HV HB1'
      go_cut [52] (fun s52 wx => s52 = .bool false ∧ w2 = wx)
      case first =>
        rcases Nat.eq_zero_or_pos Z with hz0 | hz0
        · subst hz0
          have hz1 : ¬ ((0 : Nat) : Int) > 0 := by omega
          go_wp2_with fail
          go_meet
          exact ⟨rfl, rfl⟩
        · have hz1 : (Z : Int) > 0 := by omega
          have c9 := c8 hz1
          clear c8
          go_wp2_with fail
          go_meet
          exact ⟨rfl, rfl⟩
      case rest =>
      obtain ⟨rfl, rfl⟩ := hcut
      clear c8
      go_upto_region 6 with fail
      rw [← hgt, ← HW4.out]
      clear hgt e1 e2 e3
      have q0 : W4.cell? ⟨w.heap.size + 1, 0, none⟩ = some (.int .i64 (F : Int)) := (P4.out.cell 0).trans rfl
      have q1 : W4.cell? ⟨w.heap.size + 1, 1, none⟩ = some (.int .i64 (Z : Int)) := (P4.out.cell 1).trans rfl
      have q2 : W4.cell? ⟨w.heap.size + 1, 2, none⟩ = some (.slice A1 n c1) := (P4.out.cell 2).trans rfl
      go_wp2_with fail
      refine (HTR.out W4 gt HGT.out.2 (by have := HGT.out.1; omega) B4.out S4.out).mono ?_; rintro e w6 ⟨rfl, vt, hst6, hfr6⟩
      have hb6 := S4.out.belowT (by omega) hfr6
      have K6 := Lib.hid (B4.out.trans (hb6.mono (by have := HGT.out.1; omega)))
      have P6 := Lib.hid (P4.out.below hb6 (by have := HGT.out.1; omega))
      have R6 := Lib.hid (R4.out.below hb6 (by have := HGT.out.1; omega))
      have X6 := Lib.hid hst6.blk
      clear hst6 hfr6 hb6 HTR q0 q1 q2 P4 R4 B4 S4
      have hgt6 : gt < w6.heap.size := X6.out.lt
      obtain ⟨W7, hW7⟩ : ∃ W, W = (w6.alloc (.cells Z16.toArray 29)).setRow w6.heap.size (B8 R).toArray := ⟨_, rfl⟩
      have hb7 : Below w6.heap.size w6 W7 := by rw [hW7]; exact belowRow ((Below.refl _ _).alloc (Nat.le_refl _) _) (Nat.le_refl _) _
      have K7 := Lib.hid (K6.out.trans (hb7.mono K6.out.size))
      have P7 := Lib.hid (P6.out.below hb7 P6.out.lt)
      have R7 := Lib.hid (R6.out.below hb7 R6.out.lt)
      have X7 := Lib.hid (X6.out.below hb7 hgt6)
      have D7 := Lib.hid (show Blk W7 w6.heap.size 29 (B8 R) by rw [hW7]; exact (Blk.new w6 29 Z16).row _)
      have HE := Lib.hid hW7
      have hZ := hZ16
      clear hW7 hb7 K6 P6 R6 X6
      go_upto_region 7 with (with_reducible refine wpList_store_row rfl 29 (.tmp 6) (.tmp 64) rfl w6.heap.size (B8 R).toArray rfl rfl 29 _ (heap_alloc_new w6 _) (size29' _ HRR.out) (Z16_size _ HRR.out) (one8 _) ?_)
      rw [← HE.out]
      dsimp only [Act.put]
      clear HE hZ
      obtain ⟨gd, hgd⟩ : ∃ g, g = w6.heap.size := ⟨_, rfl⟩
      rw [← hgd] at D7 ⊢
      clear hgd
      rw [← HSH.out.1, ← HSH.out.2] at X7
      have HS7 := Lib.hid (show W7.cell? ⟨gt, 3, none⟩ = some (.bool sh) ∧ W7.cell? ⟨gt, 2, none⟩ = some (.int .i64 (us : Int)) ∧ W7.cell? ⟨w.heap.size + 1, 3, none⟩ = some (.slice A2 m c2) ∧ Blk W7 gd 29 (B8 R) ∧ Blk W7 w.heap.size 29 (B8 root) from ⟨(X7.out.cell 3).trans rfl, (X7.out.cell 2).trans rfl, (P7.out.cell 3).trans rfl, D7.out, R7.out⟩)
      clear X7 P7 D7 R7
      have HBB := Lib.hid HUB.out.1
      go_cut [4] (fun s4 wx => s4 = .bool b ∧ Hid (Below w.heap.size w wx))
      case first =>
        have hU := HUB.out.2
        by_cases hsh : m < u
        · have e1 : sh = true := by rw [hU.2, decide_eq_true hsh]
          obtain rfl : b = false := by rw [HBB.out, decide_eq_false (by omega)]; rfl
          rw [e1] at HS7
          clear e1 hU HUB HSH
          refine wp_region_held (S := fun W => W.cell? ⟨gt, 3, none⟩ = some (.bool true) ∧ W.cell? ⟨gt, 2, none⟩ = some (.int .i64 (us : Int)) ∧ W.cell? ⟨w.heap.size + 1, 3, none⟩ = some (.slice A2 m c2) ∧ Blk W gd 29 (B8 R) ∧ Blk W w.heap.size 29 (B8 root)) (by kernel_rfl) ?_
          change wpAnyH _ _ _ _ _ _ _ _ (World.drew W7)
          have hs0 : (World.drew W7).cell? ⟨gt, 3, none⟩ = some (.bool true) ∧ (World.drew W7).cell? ⟨gt, 2, none⟩ = some (.int .i64 (us : Int)) ∧ (World.drew W7).cell? ⟨w.heap.size + 1, 3, none⟩ = some (.slice A2 m c2) ∧ Blk (World.drew W7) gd 29 (B8 R) ∧ Blk (World.drew W7) w.heap.size 29 (B8 root) := HS7.out
          have KD7 := Lib.hid K7.out.drew
          generalize World.drew W7 = Wd at hs0 KD7 ⊢
          refine wpAnyH_take (i := 0) (oi := { dst := some 65, op := Op.move (Operand.tmp 5), type := 102, pos := "ref.go:170", after := #[], guard := none }) (v := .pointer (some ⟨gt, 0, none⟩)) rfl (by kernel_rfl) (by kernel_rfl) (by kernel_rfl) (fun _ _ _ h => h) (Or.inl ⟨by rfl, fun W hW => ?y1⟩) hs0 ?_
          case y1 => go_simp
          (try dsimp only [Act.put]); try simp only [z1, z2, z3]
          refine wpAnyH_take (i := 1) (oi := { dst := some 66, op := Op.nilCheck (Operand.tmp 65), type := 0, pos := "ref.go:170", after := #[{ on := 0, ground := Ground.data }], guard := none }) (v := .pointer (some ⟨gt, 0, none⟩)) rfl (by kernel_rfl) (by kernel_rfl) (by kernel_rfl) (fun _ _ _ h => h) (Or.inl ⟨by rfl, fun W hW => ?y2⟩) hs0 ?_
          case y2 => go_simp
          (try dsimp only [Act.put]); try simp only [z1, z2, z3]
          refine wpAnyH_take (i := 2) (oi := { dst := some 67, op := Op.fieldAddr 104 (Operand.tmp 66) 3, type := 0, pos := "ref.go:170", after := #[{ on := 1, ground := Ground.data }], guard := none }) (v := .pointer (some ⟨gt, 3, none⟩)) rfl (by kernel_rfl) (by kernel_rfl) (by kernel_rfl) (fun _ _ _ h => h) (Or.inl ⟨by rfl, fun W hW => ?y3⟩) hs0 ?_
          case y3 => go_simp
          (try dsimp only [Act.put]); try simp only [z1, z2, z3]
          refine wpAnyH_take (i := 3) (oi := { dst := some 68, op := Op.load 4 (Operand.tmp 67), type := 4, pos := "ref.go:170", after := #[{ on := 2, ground := Ground.data }], guard := none }) (v := .bool true) rfl (by kernel_rfl) (by kernel_rfl) (by kernel_rfl) (fun _ _ _ h => h) (Or.inl ⟨by rfl, fun W hW => by have hcl := hW.1; go_simp⟩) hs0 ?_
          (try dsimp only [Act.put]); try simp only [z1, z2, z3]
          refine wpAnyH_take (i := 4) (oi := { dst := some 69, op := Op.unOp UnOp.not 4 (Operand.tmp 68), type := 4, pos := "ref.go:170", after := #[{ on := 3, ground := Ground.data }], guard := none }) (v := .bool false) rfl (by kernel_rfl) (by kernel_rfl) (by kernel_rfl) (fun _ _ _ h => h) (Or.inl ⟨by rfl, fun W hW => ?y5⟩) hs0 ?_
          case y5 => go_simp
          (try dsimp only [Act.put]); try simp only [z1, z2, z3]
          refine wpAnyH_take (i := 5) (oi := { dst := some 70, op := Op.move (Operand.tmp 69), type := 4, pos := "ref.go:170", after := #[{ on := 4, ground := Ground.data }], guard := none }) (v := .bool false) rfl (by kernel_rfl) (by kernel_rfl) (by kernel_rfl) (fun _ _ _ h => h) (Or.inl ⟨by rfl, fun W hW => ?y6⟩) hs0 ?_
          case y6 => go_simp
          (try dsimp only [Act.put]); try simp only [z1, z2, z3]
          refine wpAnyH_take (i := 6) (oi := { dst := some 71, op := Op.move (Operand.tmp 5), type := 102, pos := "ref.go:170", after := #[{ on := 5, ground := Ground.guard }], guard := some (5, true) }) (v := undef) rfl (by kernel_rfl) (by kernel_rfl) (by kernel_rfl) (fun _ _ _ h => h) (Or.inr ⟨by rfl, rfl⟩) hs0 ?_
          (try dsimp only [Act.put]); try simp only [z1, z2, z3]
          refine wpAnyH_take (i := 7) (oi := { dst := some 72, op := Op.nilCheck (Operand.tmp 71), type := 0, pos := "ref.go:170", after := #[{ on := 6, ground := Ground.data }, { on := 5, ground := Ground.guard }], guard := some (5, true) }) (v := undef) rfl (by kernel_rfl) (by kernel_rfl) (by kernel_rfl) (fun _ _ _ h => h) (Or.inr ⟨by rfl, rfl⟩) hs0 ?_
          (try dsimp only [Act.put]); try simp only [z1, z2, z3]
          refine wpAnyH_take (i := 8) (oi := { dst := some 73, op := Op.fieldAddr 104 (Operand.tmp 72) 2, type := 0, pos := "ref.go:170", after := #[{ on := 7, ground := Ground.data }, { on := 5, ground := Ground.guard }], guard := some (5, true) }) (v := undef) rfl (by kernel_rfl) (by kernel_rfl) (by kernel_rfl) (fun _ _ _ h => h) (Or.inr ⟨by rfl, rfl⟩) hs0 ?_
          (try dsimp only [Act.put]); try simp only [z1, z2, z3]
          refine wpAnyH_take (i := 9) (oi := { dst := some 74, op := Op.load 3 (Operand.tmp 73), type := 3, pos := "ref.go:170", after := #[{ on := 8, ground := Ground.data }, { on := 5, ground := Ground.guard }], guard := some (5, true) }) (v := undef) rfl (by kernel_rfl) (by kernel_rfl) (by kernel_rfl) (fun _ _ _ h => h) (Or.inr ⟨by rfl, rfl⟩) hs0 ?_
          (try dsimp only [Act.put]); try simp only [z1, z2, z3]
          refine wpAnyH_take (i := 10) (oi := { dst := some 75, op := Op.fieldAddr 54 (Operand.tmp 3) 3, type := 0, pos := "ref.go:170", after := #[{ on := 5, ground := Ground.guard }], guard := some (5, true) }) (v := undef) rfl (by kernel_rfl) (by kernel_rfl) (by kernel_rfl) (fun _ _ _ h => h) (Or.inr ⟨by rfl, rfl⟩) hs0 ?_
          (try dsimp only [Act.put]); try simp only [z1, z2, z3]
          refine wpAnyH_take (i := 11) (oi := { dst := some 76, op := Op.load 48 (Operand.tmp 75), type := 48, pos := "ref.go:170", after := #[{ on := 10, ground := Ground.data }, { on := 5, ground := Ground.guard }], guard := some (5, true) }) (v := undef) rfl (by kernel_rfl) (by kernel_rfl) (by kernel_rfl) (fun _ _ _ h => h) (Or.inr ⟨by rfl, rfl⟩) hs0 ?_
          (try dsimp only [Act.put]); try simp only [z1, z2, z3]
          refine wpAnyH_take (i := 12) (oi := { dst := some 77, op := Op.call { callee := Callee.builtin Builtin.len, args := #[Operand.tmp 76], argTypes := #[48] }, type := 3, pos := "ref.go:170", after := #[{ on := 11, ground := Ground.data }, { on := 5, ground := Ground.guard }], guard := some (5, true) }) (v := undef) rfl (by kernel_rfl) (by kernel_rfl) (by kernel_rfl) (fun _ _ _ h => h) (Or.inr ⟨by rfl, rfl⟩) hs0 ?_
          (try dsimp only [Act.put]); try simp only [z1, z2, z3]
          refine wpAnyH_take (i := 13) (oi := { dst := some 78, op := Op.binOp BinOp.eql 3 (Operand.tmp 74) (Operand.tmp 77) 3, type := 4, pos := "ref.go:170", after := #[{ on := 9, ground := Ground.data }, { on := 12, ground := Ground.data }, { on := 5, ground := Ground.guard }], guard := some (5, true) }) (v := undef) rfl (by kernel_rfl) (by kernel_rfl) (by kernel_rfl) (fun _ _ _ h => h) (Or.inr ⟨by rfl, rfl⟩) hs0 ?_
          (try dsimp only [Act.put]); try simp only [z1, z2, z3]
          refine wpAnyH_take (i := 14) (oi := { dst := some 79, op := Op.pick (Operand.tmp 70) (Operand.tmp 78) (Operand.const (Value.bool false)), type := 4, pos := "ref.go:170", after := #[{ on := 5, ground := Ground.data }, { on := 13, ground := Ground.data }], guard := none }) (v := .bool false) rfl (by kernel_rfl) (by kernel_rfl) (by kernel_rfl) (fun _ _ _ h => h) (Or.inl ⟨by rfl, fun W hW => ?y15⟩) hs0 ?_
          case y15 => go_simp
          (try dsimp only [Act.put]); try simp only [z1, z2, z3]
          refine wpAnyH_take (i := 15) (oi := { dst := some 80, op := Op.move (Operand.tmp 79), type := 4, pos := "ref.go:170", after := #[{ on := 14, ground := Ground.data }, { on := 5, ground := Ground.chain }], guard := none }) (v := .bool false) rfl (by kernel_rfl) (by kernel_rfl) (by kernel_rfl) (fun _ _ _ h => h) (Or.inl ⟨by rfl, fun W hW => ?y16⟩) hs0 ?_
          case y16 => go_simp
          (try dsimp only [Act.put]); try simp only [z1, z2, z3]
          refine wpAnyH_take (i := 16) (oi := { dst := some 81, op := Op.load 29 (Operand.tmp 6), type := 29, pos := "ref.go:170", after := #[{ on := 15, ground := Ground.guard }], guard := some (15, true) }) (v := undef) rfl (by kernel_rfl) (by kernel_rfl) (by kernel_rfl) (fun _ _ _ h => h) (Or.inr ⟨by rfl, rfl⟩) hs0 ?_
          (try dsimp only [Act.put]); try simp only [z1, z2, z3]
          refine wpAnyH_take (i := 17) (oi := { dst := some 82, op := Op.load 29 (Operand.tmp 2), type := 29, pos := "ref.go:170", after := #[{ on := 15, ground := Ground.guard }], guard := some (15, true) }) (v := undef) rfl (by kernel_rfl) (by kernel_rfl) (by kernel_rfl) (fun _ _ _ h => h) (Or.inr ⟨by rfl, rfl⟩) hs0 ?_
          (try dsimp only [Act.put]); try simp only [z1, z2, z3]
          refine wpAnyH_take (i := 18) (oi := { dst := some 83, op := Op.binOp BinOp.eql 29 (Operand.tmp 81) (Operand.tmp 82) 29, type := 4, pos := "ref.go:170", after := #[{ on := 16, ground := Ground.data }, { on := 17, ground := Ground.data }, { on := 15, ground := Ground.guard }], guard := some (15, true) }) (v := undef) rfl (by kernel_rfl) (by kernel_rfl) (by kernel_rfl) (fun _ _ _ h => h) (Or.inr ⟨by rfl, rfl⟩) hs0 ?_
          (try dsimp only [Act.put]); try simp only [z1, z2, z3]
          refine wpAnyH_take (i := 19) (oi := { dst := some 84, op := Op.pick (Operand.tmp 80) (Operand.tmp 83) (Operand.const (Value.bool false)), type := 4, pos := "ref.go:170", after := #[{ on := 15, ground := Ground.data }, { on := 18, ground := Ground.data }], guard := none }) (v := .bool false) rfl (by kernel_rfl) (by kernel_rfl) (by kernel_rfl) (fun _ _ _ h => h) (Or.inl ⟨by rfl, fun W hW => ?y20⟩) hs0 ?_
          case y20 => go_simp
          (try dsimp only [Act.put]); try simp only [z1, z2, z3]
          refine wpAnyH_take (i := 20) (oi := { dst := some 4, op := Op.assign (Operand.tmp 84), type := 4, pos := "ref.go:170", after := #[{ on := 19, ground := Ground.data }, { on := 15, ground := Ground.chain }, { on := 0, ground := Ground.phase }, { on := 1, ground := Ground.phase }, { on := 2, ground := Ground.phase }, { on := 3, ground := Ground.phase }, { on := 4, ground := Ground.phase }, { on := 5, ground := Ground.phase }, { on := 6, ground := Ground.phase }, { on := 7, ground := Ground.phase }, { on := 8, ground := Ground.phase }, { on := 9, ground := Ground.phase }, { on := 10, ground := Ground.phase }, { on := 11, ground := Ground.phase }, { on := 12, ground := Ground.phase }, { on := 13, ground := Ground.phase }, { on := 14, ground := Ground.phase }, { on := 15, ground := Ground.phase }, { on := 16, ground := Ground.phase }, { on := 17, ground := Ground.phase }, { on := 18, ground := Ground.phase }, { on := 19, ground := Ground.phase }], guard := none }) (v := .bool false) rfl (by kernel_rfl) (by kernel_rfl) (by kernel_rfl) (fun _ _ _ h => h) (Or.inl ⟨by rfl, fun W hW => ?y21⟩) hs0 ?_
          case y21 => go_simp
          (try dsimp only [Act.put]); try simp only [z1, z2, z3]
          refine wpAnyH_done (by kernel_rfl) ?_ _
          (try dsimp only [Act.put]); try simp only [z1, z2, z3]
          go_wp2_with fail
          go_meet
          exact ⟨rfl, KD7⟩
        · have e1 : sh = false := by rw [hU.2, decide_eq_false hsh]
          have e2 : us = u := by rw [hU.1]; omega
          rw [e1] at HS7
          by_cases hum : u = m
          · have e3 : us = m := by rw [e2, hum]
            rw [e3] at HS7
            by_cases hR : R = root
            · obtain rfl : b = true := by rw [HBB.out, decide_eq_true hum, decide_eq_true hR]; rfl
              have HEQ := Lib.hid (fun (W : World) => show (Op.equalIn 10000 29 (.agg (B8 R).toArray) (.agg (B8 root).toArray)).run Tryd.prog W = .ok true W from by rw [← hR]; exact eqi29s R HRR.out W)
              clear e1 e2 e3 hU hum hR HUB HSH
              refine wp_region_held (S := fun W => W.cell? ⟨gt, 3, none⟩ = some (.bool false) ∧ W.cell? ⟨gt, 2, none⟩ = some (.int .i64 (m : Int)) ∧ W.cell? ⟨w.heap.size + 1, 3, none⟩ = some (.slice A2 m c2) ∧ Blk W gd 29 (B8 R) ∧ Blk W w.heap.size 29 (B8 root)) (by kernel_rfl) ?_
              change wpAnyH _ _ _ _ _ _ _ _ (World.drew W7)
              have hs0 : (World.drew W7).cell? ⟨gt, 3, none⟩ = some (.bool false) ∧ (World.drew W7).cell? ⟨gt, 2, none⟩ = some (.int .i64 (m : Int)) ∧ (World.drew W7).cell? ⟨w.heap.size + 1, 3, none⟩ = some (.slice A2 m c2) ∧ Blk (World.drew W7) gd 29 (B8 R) ∧ Blk (World.drew W7) w.heap.size 29 (B8 root) := HS7.out
              have KD7 := Lib.hid K7.out.drew
              generalize World.drew W7 = Wd at hs0 KD7 ⊢
              refine wpAnyH_take (i := 0) (oi := { dst := some 65, op := Op.move (Operand.tmp 5), type := 102, pos := "ref.go:170", after := #[], guard := none }) (v := .pointer (some ⟨gt, 0, none⟩)) rfl (by kernel_rfl) (by kernel_rfl) (by kernel_rfl) (fun _ _ _ h => h) (Or.inl ⟨by rfl, fun W hW => ?y1⟩) hs0 ?_
              case y1 => go_simp
              (try dsimp only [Act.put]); try simp only [z1, z2, z3]
              refine wpAnyH_take (i := 1) (oi := { dst := some 66, op := Op.nilCheck (Operand.tmp 65), type := 0, pos := "ref.go:170", after := #[{ on := 0, ground := Ground.data }], guard := none }) (v := .pointer (some ⟨gt, 0, none⟩)) rfl (by kernel_rfl) (by kernel_rfl) (by kernel_rfl) (fun _ _ _ h => h) (Or.inl ⟨by rfl, fun W hW => ?y2⟩) hs0 ?_
              case y2 => go_simp
              (try dsimp only [Act.put]); try simp only [z1, z2, z3]
              refine wpAnyH_take (i := 2) (oi := { dst := some 67, op := Op.fieldAddr 104 (Operand.tmp 66) 3, type := 0, pos := "ref.go:170", after := #[{ on := 1, ground := Ground.data }], guard := none }) (v := .pointer (some ⟨gt, 3, none⟩)) rfl (by kernel_rfl) (by kernel_rfl) (by kernel_rfl) (fun _ _ _ h => h) (Or.inl ⟨by rfl, fun W hW => ?y3⟩) hs0 ?_
              case y3 => go_simp
              (try dsimp only [Act.put]); try simp only [z1, z2, z3]
              refine wpAnyH_take (i := 3) (oi := { dst := some 68, op := Op.load 4 (Operand.tmp 67), type := 4, pos := "ref.go:170", after := #[{ on := 2, ground := Ground.data }], guard := none }) (v := .bool false) rfl (by kernel_rfl) (by kernel_rfl) (by kernel_rfl) (fun _ _ _ h => h) (Or.inl ⟨by rfl, fun W hW => by have hcl := hW.1; go_simp⟩) hs0 ?_
              (try dsimp only [Act.put]); try simp only [z1, z2, z3]
              refine wpAnyH_take (i := 4) (oi := { dst := some 69, op := Op.unOp UnOp.not 4 (Operand.tmp 68), type := 4, pos := "ref.go:170", after := #[{ on := 3, ground := Ground.data }], guard := none }) (v := .bool true) rfl (by kernel_rfl) (by kernel_rfl) (by kernel_rfl) (fun _ _ _ h => h) (Or.inl ⟨by rfl, fun W hW => ?y5⟩) hs0 ?_
              case y5 => go_simp
              (try dsimp only [Act.put]); try simp only [z1, z2, z3]
              refine wpAnyH_take (i := 5) (oi := { dst := some 70, op := Op.move (Operand.tmp 69), type := 4, pos := "ref.go:170", after := #[{ on := 4, ground := Ground.data }], guard := none }) (v := .bool true) rfl (by kernel_rfl) (by kernel_rfl) (by kernel_rfl) (fun _ _ _ h => h) (Or.inl ⟨by rfl, fun W hW => ?y6⟩) hs0 ?_
              case y6 => go_simp
              (try dsimp only [Act.put]); try simp only [z1, z2, z3]
              refine wpAnyH_take (i := 6) (oi := { dst := some 71, op := Op.move (Operand.tmp 5), type := 102, pos := "ref.go:170", after := #[{ on := 5, ground := Ground.guard }], guard := some (5, true) }) (v := .pointer (some ⟨gt, 0, none⟩)) rfl (by kernel_rfl) (by kernel_rfl) (by kernel_rfl) (fun _ _ _ h => h) (Or.inl ⟨by rfl, fun W hW => ?y7⟩) hs0 ?_
              case y7 => go_simp
              (try dsimp only [Act.put]); try simp only [z1, z2, z3]
              refine wpAnyH_take (i := 7) (oi := { dst := some 72, op := Op.nilCheck (Operand.tmp 71), type := 0, pos := "ref.go:170", after := #[{ on := 6, ground := Ground.data }, { on := 5, ground := Ground.guard }], guard := some (5, true) }) (v := .pointer (some ⟨gt, 0, none⟩)) rfl (by kernel_rfl) (by kernel_rfl) (by kernel_rfl) (fun _ _ _ h => h) (Or.inl ⟨by rfl, fun W hW => ?y8⟩) hs0 ?_
              case y8 => go_simp
              (try dsimp only [Act.put]); try simp only [z1, z2, z3]
              refine wpAnyH_take (i := 8) (oi := { dst := some 73, op := Op.fieldAddr 104 (Operand.tmp 72) 2, type := 0, pos := "ref.go:170", after := #[{ on := 7, ground := Ground.data }, { on := 5, ground := Ground.guard }], guard := some (5, true) }) (v := .pointer (some ⟨gt, 2, none⟩)) rfl (by kernel_rfl) (by kernel_rfl) (by kernel_rfl) (fun _ _ _ h => h) (Or.inl ⟨by rfl, fun W hW => ?y9⟩) hs0 ?_
              case y9 => go_simp
              (try dsimp only [Act.put]); try simp only [z1, z2, z3]
              refine wpAnyH_take (i := 9) (oi := { dst := some 74, op := Op.load 3 (Operand.tmp 73), type := 3, pos := "ref.go:170", after := #[{ on := 8, ground := Ground.data }, { on := 5, ground := Ground.guard }], guard := some (5, true) }) (v := .int .i64 (m : Int)) rfl (by kernel_rfl) (by kernel_rfl) (by kernel_rfl) (fun _ _ _ h => h) (Or.inl ⟨by rfl, fun W hW => by have hcl := hW.2.1; go_simp⟩) hs0 ?_
              (try dsimp only [Act.put]); try simp only [z1, z2, z3]
              refine wpAnyH_take (i := 10) (oi := { dst := some 75, op := Op.fieldAddr 54 (Operand.tmp 3) 3, type := 0, pos := "ref.go:170", after := #[{ on := 5, ground := Ground.guard }], guard := some (5, true) }) (v := .pointer (some ⟨w.heap.size + 1, 3, none⟩)) rfl (by kernel_rfl) (by kernel_rfl) (by kernel_rfl) (fun _ _ _ h => h) (Or.inl ⟨by rfl, fun W hW => ?y11⟩) hs0 ?_
              case y11 => go_simp
              (try dsimp only [Act.put]); try simp only [z1, z2, z3]
              refine wpAnyH_take (i := 11) (oi := { dst := some 76, op := Op.load 48 (Operand.tmp 75), type := 48, pos := "ref.go:170", after := #[{ on := 10, ground := Ground.data }, { on := 5, ground := Ground.guard }], guard := some (5, true) }) (v := .slice A2 m c2) rfl (by kernel_rfl) (by kernel_rfl) (by kernel_rfl) (fun _ _ _ h => h) (Or.inl ⟨by rfl, fun W hW => by have hcl := hW.2.2.1; go_simp⟩) hs0 ?_
              (try dsimp only [Act.put]); try simp only [z1, z2, z3]
              refine wpAnyH_take (i := 12) (oi := { dst := some 77, op := Op.call { callee := Callee.builtin Builtin.len, args := #[Operand.tmp 76], argTypes := #[48] }, type := 3, pos := "ref.go:170", after := #[{ on := 11, ground := Ground.data }, { on := 5, ground := Ground.guard }], guard := some (5, true) }) (v := .int .i64 (m : Int)) rfl (by kernel_rfl) (by kernel_rfl) (by kernel_rfl) (fun _ _ _ h => h) (Or.inl ⟨by rfl, fun W hW => ?y13⟩) hs0 ?_
              case y13 => go_simp
              (try dsimp only [Act.put]); try simp only [z1, z2, z3]
              refine wpAnyH_take (i := 13) (oi := { dst := some 78, op := Op.binOp BinOp.eql 3 (Operand.tmp 74) (Operand.tmp 77) 3, type := 4, pos := "ref.go:170", after := #[{ on := 9, ground := Ground.data }, { on := 12, ground := Ground.data }, { on := 5, ground := Ground.guard }], guard := some (5, true) }) (v := .bool true) rfl (by kernel_rfl) (by kernel_rfl) (by kernel_rfl) (fun _ _ _ h => h) (Or.inl ⟨by rfl, fun W hW => ?y14⟩) hs0 ?_
              case y14 => go_simp
              (try dsimp only [Act.put]); try simp only [z1, z2, z3]
              refine wpAnyH_take (i := 14) (oi := { dst := some 79, op := Op.pick (Operand.tmp 70) (Operand.tmp 78) (Operand.const (Value.bool false)), type := 4, pos := "ref.go:170", after := #[{ on := 5, ground := Ground.data }, { on := 13, ground := Ground.data }], guard := none }) (v := .bool true) rfl (by kernel_rfl) (by kernel_rfl) (by kernel_rfl) (fun _ _ _ h => h) (Or.inl ⟨by rfl, fun W hW => ?y15⟩) hs0 ?_
              case y15 => go_simp
              (try dsimp only [Act.put]); try simp only [z1, z2, z3]
              refine wpAnyH_take (i := 15) (oi := { dst := some 80, op := Op.move (Operand.tmp 79), type := 4, pos := "ref.go:170", after := #[{ on := 14, ground := Ground.data }, { on := 5, ground := Ground.chain }], guard := none }) (v := .bool true) rfl (by kernel_rfl) (by kernel_rfl) (by kernel_rfl) (fun _ _ _ h => h) (Or.inl ⟨by rfl, fun W hW => ?y16⟩) hs0 ?_
              case y16 => go_simp
              (try dsimp only [Act.put]); try simp only [z1, z2, z3]
              refine wpAnyH_take (i := 16) (oi := { dst := some 81, op := Op.load 29 (Operand.tmp 6), type := 29, pos := "ref.go:170", after := #[{ on := 15, ground := Ground.guard }], guard := some (15, true) }) (v := .agg (B8 R).toArray) rfl (by kernel_rfl) (by kernel_rfl) (by kernel_rfl) (fun _ _ _ h => h) (Or.inl ⟨by rfl, fun W hW => exec_load_row _ _ 29 (.tmp 6) rfl ⟨gd, 0, none⟩ rfl (B8 R) W (run_loadVar_at W _ 29 (B8 R) (.array 16 5) (Blk.at hW.2.2.2.1) Tryd.underlying29 rfl (size29 _ HRR.out))⟩) hs0 ?_
              (try dsimp only [Act.put]); try simp only [z1, z2, z3]
              refine wpAnyH_take (i := 17) (oi := { dst := some 82, op := Op.load 29 (Operand.tmp 2), type := 29, pos := "ref.go:170", after := #[{ on := 15, ground := Ground.guard }], guard := some (15, true) }) (v := .agg (B8 root).toArray) rfl (by kernel_rfl) (by kernel_rfl) (by kernel_rfl) (fun _ _ _ h => h) (Or.inl ⟨by rfl, fun W hW => exec_load_row _ _ 29 (.tmp 2) rfl ⟨w.heap.size, 0, none⟩ rfl (B8 root) W (run_loadVar_at W _ 29 (B8 root) (.array 16 5) (Blk.at hW.2.2.2.2) Tryd.underlying29 rfl (size29 _ HRo.out))⟩) hs0 ?_
              (try dsimp only [Act.put]); try simp only [z1, z2, z3]
              refine wpAnyH_take (i := 18) (oi := { dst := some 83, op := Op.binOp BinOp.eql 29 (Operand.tmp 81) (Operand.tmp 82) 29, type := 4, pos := "ref.go:170", after := #[{ on := 16, ground := Ground.data }, { on := 17, ground := Ground.data }, { on := 15, ground := Ground.guard }], guard := some (15, true) }) (v := .bool true) rfl (by kernel_rfl) (by kernel_rfl) (by kernel_rfl) (fun _ _ _ h => h) (Or.inl ⟨by rfl, fun W hW => by have heq := HEQ.out W; go_simp⟩) hs0 ?_
              (try dsimp only [Act.put]); try simp only [z1, z2, z3]
              refine wpAnyH_take (i := 19) (oi := { dst := some 84, op := Op.pick (Operand.tmp 80) (Operand.tmp 83) (Operand.const (Value.bool false)), type := 4, pos := "ref.go:170", after := #[{ on := 15, ground := Ground.data }, { on := 18, ground := Ground.data }], guard := none }) (v := .bool true) rfl (by kernel_rfl) (by kernel_rfl) (by kernel_rfl) (fun _ _ _ h => h) (Or.inl ⟨by rfl, fun W hW => ?y20⟩) hs0 ?_
              case y20 => go_simp
              (try dsimp only [Act.put]); try simp only [z1, z2, z3]
              refine wpAnyH_take (i := 20) (oi := { dst := some 4, op := Op.assign (Operand.tmp 84), type := 4, pos := "ref.go:170", after := #[{ on := 19, ground := Ground.data }, { on := 15, ground := Ground.chain }, { on := 0, ground := Ground.phase }, { on := 1, ground := Ground.phase }, { on := 2, ground := Ground.phase }, { on := 3, ground := Ground.phase }, { on := 4, ground := Ground.phase }, { on := 5, ground := Ground.phase }, { on := 6, ground := Ground.phase }, { on := 7, ground := Ground.phase }, { on := 8, ground := Ground.phase }, { on := 9, ground := Ground.phase }, { on := 10, ground := Ground.phase }, { on := 11, ground := Ground.phase }, { on := 12, ground := Ground.phase }, { on := 13, ground := Ground.phase }, { on := 14, ground := Ground.phase }, { on := 15, ground := Ground.phase }, { on := 16, ground := Ground.phase }, { on := 17, ground := Ground.phase }, { on := 18, ground := Ground.phase }, { on := 19, ground := Ground.phase }], guard := none }) (v := .bool true) rfl (by kernel_rfl) (by kernel_rfl) (by kernel_rfl) (fun _ _ _ h => h) (Or.inl ⟨by rfl, fun W hW => ?y21⟩) hs0 ?_
              case y21 => go_simp
              (try dsimp only [Act.put]); try simp only [z1, z2, z3]
              refine wpAnyH_done (by kernel_rfl) ?_ _
              (try dsimp only [Act.put]); try simp only [z1, z2, z3]
              go_wp2_with fail
              go_meet
              exact ⟨rfl, KD7⟩
            · obtain rfl : b = false := by rw [HBB.out, decide_eq_false hR, Bool.and_false]
              have HEQ := Lib.hid (fun (W : World) => show (Op.equalIn 10000 29 (.agg (B8 R).toArray) (.agg (B8 root).toArray)).run Tryd.prog W = .ok false W from by rw [eqi29 R root HRR.out HRo.out W, beq_eq_false_iff_ne.2 hR])
              clear e1 e2 e3 hU hum hR HUB HSH
              refine wp_region_held (S := fun W => W.cell? ⟨gt, 3, none⟩ = some (.bool false) ∧ W.cell? ⟨gt, 2, none⟩ = some (.int .i64 (m : Int)) ∧ W.cell? ⟨w.heap.size + 1, 3, none⟩ = some (.slice A2 m c2) ∧ Blk W gd 29 (B8 R) ∧ Blk W w.heap.size 29 (B8 root)) (by kernel_rfl) ?_
              change wpAnyH _ _ _ _ _ _ _ _ (World.drew W7)
              have hs0 : (World.drew W7).cell? ⟨gt, 3, none⟩ = some (.bool false) ∧ (World.drew W7).cell? ⟨gt, 2, none⟩ = some (.int .i64 (m : Int)) ∧ (World.drew W7).cell? ⟨w.heap.size + 1, 3, none⟩ = some (.slice A2 m c2) ∧ Blk (World.drew W7) gd 29 (B8 R) ∧ Blk (World.drew W7) w.heap.size 29 (B8 root) := HS7.out
              have KD7 := Lib.hid K7.out.drew
              generalize World.drew W7 = Wd at hs0 KD7 ⊢
              refine wpAnyH_take (i := 0) (oi := { dst := some 65, op := Op.move (Operand.tmp 5), type := 102, pos := "ref.go:170", after := #[], guard := none }) (v := .pointer (some ⟨gt, 0, none⟩)) rfl (by kernel_rfl) (by kernel_rfl) (by kernel_rfl) (fun _ _ _ h => h) (Or.inl ⟨by rfl, fun W hW => ?y1⟩) hs0 ?_
              case y1 => go_simp
              (try dsimp only [Act.put]); try simp only [z1, z2, z3]
              refine wpAnyH_take (i := 1) (oi := { dst := some 66, op := Op.nilCheck (Operand.tmp 65), type := 0, pos := "ref.go:170", after := #[{ on := 0, ground := Ground.data }], guard := none }) (v := .pointer (some ⟨gt, 0, none⟩)) rfl (by kernel_rfl) (by kernel_rfl) (by kernel_rfl) (fun _ _ _ h => h) (Or.inl ⟨by rfl, fun W hW => ?y2⟩) hs0 ?_
              case y2 => go_simp
              (try dsimp only [Act.put]); try simp only [z1, z2, z3]
              refine wpAnyH_take (i := 2) (oi := { dst := some 67, op := Op.fieldAddr 104 (Operand.tmp 66) 3, type := 0, pos := "ref.go:170", after := #[{ on := 1, ground := Ground.data }], guard := none }) (v := .pointer (some ⟨gt, 3, none⟩)) rfl (by kernel_rfl) (by kernel_rfl) (by kernel_rfl) (fun _ _ _ h => h) (Or.inl ⟨by rfl, fun W hW => ?y3⟩) hs0 ?_
              case y3 => go_simp
              (try dsimp only [Act.put]); try simp only [z1, z2, z3]
              refine wpAnyH_take (i := 3) (oi := { dst := some 68, op := Op.load 4 (Operand.tmp 67), type := 4, pos := "ref.go:170", after := #[{ on := 2, ground := Ground.data }], guard := none }) (v := .bool false) rfl (by kernel_rfl) (by kernel_rfl) (by kernel_rfl) (fun _ _ _ h => h) (Or.inl ⟨by rfl, fun W hW => by have hcl := hW.1; go_simp⟩) hs0 ?_
              (try dsimp only [Act.put]); try simp only [z1, z2, z3]
              refine wpAnyH_take (i := 4) (oi := { dst := some 69, op := Op.unOp UnOp.not 4 (Operand.tmp 68), type := 4, pos := "ref.go:170", after := #[{ on := 3, ground := Ground.data }], guard := none }) (v := .bool true) rfl (by kernel_rfl) (by kernel_rfl) (by kernel_rfl) (fun _ _ _ h => h) (Or.inl ⟨by rfl, fun W hW => ?y5⟩) hs0 ?_
              case y5 => go_simp
              (try dsimp only [Act.put]); try simp only [z1, z2, z3]
              refine wpAnyH_take (i := 5) (oi := { dst := some 70, op := Op.move (Operand.tmp 69), type := 4, pos := "ref.go:170", after := #[{ on := 4, ground := Ground.data }], guard := none }) (v := .bool true) rfl (by kernel_rfl) (by kernel_rfl) (by kernel_rfl) (fun _ _ _ h => h) (Or.inl ⟨by rfl, fun W hW => ?y6⟩) hs0 ?_
              case y6 => go_simp
              (try dsimp only [Act.put]); try simp only [z1, z2, z3]
              refine wpAnyH_take (i := 6) (oi := { dst := some 71, op := Op.move (Operand.tmp 5), type := 102, pos := "ref.go:170", after := #[{ on := 5, ground := Ground.guard }], guard := some (5, true) }) (v := .pointer (some ⟨gt, 0, none⟩)) rfl (by kernel_rfl) (by kernel_rfl) (by kernel_rfl) (fun _ _ _ h => h) (Or.inl ⟨by rfl, fun W hW => ?y7⟩) hs0 ?_
              case y7 => go_simp
              (try dsimp only [Act.put]); try simp only [z1, z2, z3]
              refine wpAnyH_take (i := 7) (oi := { dst := some 72, op := Op.nilCheck (Operand.tmp 71), type := 0, pos := "ref.go:170", after := #[{ on := 6, ground := Ground.data }, { on := 5, ground := Ground.guard }], guard := some (5, true) }) (v := .pointer (some ⟨gt, 0, none⟩)) rfl (by kernel_rfl) (by kernel_rfl) (by kernel_rfl) (fun _ _ _ h => h) (Or.inl ⟨by rfl, fun W hW => ?y8⟩) hs0 ?_
              case y8 => go_simp
              (try dsimp only [Act.put]); try simp only [z1, z2, z3]
              refine wpAnyH_take (i := 8) (oi := { dst := some 73, op := Op.fieldAddr 104 (Operand.tmp 72) 2, type := 0, pos := "ref.go:170", after := #[{ on := 7, ground := Ground.data }, { on := 5, ground := Ground.guard }], guard := some (5, true) }) (v := .pointer (some ⟨gt, 2, none⟩)) rfl (by kernel_rfl) (by kernel_rfl) (by kernel_rfl) (fun _ _ _ h => h) (Or.inl ⟨by rfl, fun W hW => ?y9⟩) hs0 ?_
              case y9 => go_simp
              (try dsimp only [Act.put]); try simp only [z1, z2, z3]
              refine wpAnyH_take (i := 9) (oi := { dst := some 74, op := Op.load 3 (Operand.tmp 73), type := 3, pos := "ref.go:170", after := #[{ on := 8, ground := Ground.data }, { on := 5, ground := Ground.guard }], guard := some (5, true) }) (v := .int .i64 (m : Int)) rfl (by kernel_rfl) (by kernel_rfl) (by kernel_rfl) (fun _ _ _ h => h) (Or.inl ⟨by rfl, fun W hW => by have hcl := hW.2.1; go_simp⟩) hs0 ?_
              (try dsimp only [Act.put]); try simp only [z1, z2, z3]
              refine wpAnyH_take (i := 10) (oi := { dst := some 75, op := Op.fieldAddr 54 (Operand.tmp 3) 3, type := 0, pos := "ref.go:170", after := #[{ on := 5, ground := Ground.guard }], guard := some (5, true) }) (v := .pointer (some ⟨w.heap.size + 1, 3, none⟩)) rfl (by kernel_rfl) (by kernel_rfl) (by kernel_rfl) (fun _ _ _ h => h) (Or.inl ⟨by rfl, fun W hW => ?y11⟩) hs0 ?_
              case y11 => go_simp
              (try dsimp only [Act.put]); try simp only [z1, z2, z3]
              refine wpAnyH_take (i := 11) (oi := { dst := some 76, op := Op.load 48 (Operand.tmp 75), type := 48, pos := "ref.go:170", after := #[{ on := 10, ground := Ground.data }, { on := 5, ground := Ground.guard }], guard := some (5, true) }) (v := .slice A2 m c2) rfl (by kernel_rfl) (by kernel_rfl) (by kernel_rfl) (fun _ _ _ h => h) (Or.inl ⟨by rfl, fun W hW => by have hcl := hW.2.2.1; go_simp⟩) hs0 ?_
              (try dsimp only [Act.put]); try simp only [z1, z2, z3]
              refine wpAnyH_take (i := 12) (oi := { dst := some 77, op := Op.call { callee := Callee.builtin Builtin.len, args := #[Operand.tmp 76], argTypes := #[48] }, type := 3, pos := "ref.go:170", after := #[{ on := 11, ground := Ground.data }, { on := 5, ground := Ground.guard }], guard := some (5, true) }) (v := .int .i64 (m : Int)) rfl (by kernel_rfl) (by kernel_rfl) (by kernel_rfl) (fun _ _ _ h => h) (Or.inl ⟨by rfl, fun W hW => ?y13⟩) hs0 ?_
              case y13 => go_simp
              (try dsimp only [Act.put]); try simp only [z1, z2, z3]
              refine wpAnyH_take (i := 13) (oi := { dst := some 78, op := Op.binOp BinOp.eql 3 (Operand.tmp 74) (Operand.tmp 77) 3, type := 4, pos := "ref.go:170", after := #[{ on := 9, ground := Ground.data }, { on := 12, ground := Ground.data }, { on := 5, ground := Ground.guard }], guard := some (5, true) }) (v := .bool true) rfl (by kernel_rfl) (by kernel_rfl) (by kernel_rfl) (fun _ _ _ h => h) (Or.inl ⟨by rfl, fun W hW => ?y14⟩) hs0 ?_
              case y14 => go_simp
              (try dsimp only [Act.put]); try simp only [z1, z2, z3]
              refine wpAnyH_take (i := 14) (oi := { dst := some 79, op := Op.pick (Operand.tmp 70) (Operand.tmp 78) (Operand.const (Value.bool false)), type := 4, pos := "ref.go:170", after := #[{ on := 5, ground := Ground.data }, { on := 13, ground := Ground.data }], guard := none }) (v := .bool true) rfl (by kernel_rfl) (by kernel_rfl) (by kernel_rfl) (fun _ _ _ h => h) (Or.inl ⟨by rfl, fun W hW => ?y15⟩) hs0 ?_
              case y15 => go_simp
              (try dsimp only [Act.put]); try simp only [z1, z2, z3]
              refine wpAnyH_take (i := 15) (oi := { dst := some 80, op := Op.move (Operand.tmp 79), type := 4, pos := "ref.go:170", after := #[{ on := 14, ground := Ground.data }, { on := 5, ground := Ground.chain }], guard := none }) (v := .bool true) rfl (by kernel_rfl) (by kernel_rfl) (by kernel_rfl) (fun _ _ _ h => h) (Or.inl ⟨by rfl, fun W hW => ?y16⟩) hs0 ?_
              case y16 => go_simp
              (try dsimp only [Act.put]); try simp only [z1, z2, z3]
              refine wpAnyH_take (i := 16) (oi := { dst := some 81, op := Op.load 29 (Operand.tmp 6), type := 29, pos := "ref.go:170", after := #[{ on := 15, ground := Ground.guard }], guard := some (15, true) }) (v := .agg (B8 R).toArray) rfl (by kernel_rfl) (by kernel_rfl) (by kernel_rfl) (fun _ _ _ h => h) (Or.inl ⟨by rfl, fun W hW => exec_load_row _ _ 29 (.tmp 6) rfl ⟨gd, 0, none⟩ rfl (B8 R) W (run_loadVar_at W _ 29 (B8 R) (.array 16 5) (Blk.at hW.2.2.2.1) Tryd.underlying29 rfl (size29 _ HRR.out))⟩) hs0 ?_
              (try dsimp only [Act.put]); try simp only [z1, z2, z3]
              refine wpAnyH_take (i := 17) (oi := { dst := some 82, op := Op.load 29 (Operand.tmp 2), type := 29, pos := "ref.go:170", after := #[{ on := 15, ground := Ground.guard }], guard := some (15, true) }) (v := .agg (B8 root).toArray) rfl (by kernel_rfl) (by kernel_rfl) (by kernel_rfl) (fun _ _ _ h => h) (Or.inl ⟨by rfl, fun W hW => exec_load_row _ _ 29 (.tmp 2) rfl ⟨w.heap.size, 0, none⟩ rfl (B8 root) W (run_loadVar_at W _ 29 (B8 root) (.array 16 5) (Blk.at hW.2.2.2.2) Tryd.underlying29 rfl (size29 _ HRo.out))⟩) hs0 ?_
              (try dsimp only [Act.put]); try simp only [z1, z2, z3]
              refine wpAnyH_take (i := 18) (oi := { dst := some 83, op := Op.binOp BinOp.eql 29 (Operand.tmp 81) (Operand.tmp 82) 29, type := 4, pos := "ref.go:170", after := #[{ on := 16, ground := Ground.data }, { on := 17, ground := Ground.data }, { on := 15, ground := Ground.guard }], guard := some (15, true) }) (v := .bool false) rfl (by kernel_rfl) (by kernel_rfl) (by kernel_rfl) (fun _ _ _ h => h) (Or.inl ⟨by rfl, fun W hW => by have heq := HEQ.out W; go_simp⟩) hs0 ?_
              (try dsimp only [Act.put]); try simp only [z1, z2, z3]
              refine wpAnyH_take (i := 19) (oi := { dst := some 84, op := Op.pick (Operand.tmp 80) (Operand.tmp 83) (Operand.const (Value.bool false)), type := 4, pos := "ref.go:170", after := #[{ on := 15, ground := Ground.data }, { on := 18, ground := Ground.data }], guard := none }) (v := .bool false) rfl (by kernel_rfl) (by kernel_rfl) (by kernel_rfl) (fun _ _ _ h => h) (Or.inl ⟨by rfl, fun W hW => ?y20⟩) hs0 ?_
              case y20 => go_simp
              (try dsimp only [Act.put]); try simp only [z1, z2, z3]
              refine wpAnyH_take (i := 20) (oi := { dst := some 4, op := Op.assign (Operand.tmp 84), type := 4, pos := "ref.go:170", after := #[{ on := 19, ground := Ground.data }, { on := 15, ground := Ground.chain }, { on := 0, ground := Ground.phase }, { on := 1, ground := Ground.phase }, { on := 2, ground := Ground.phase }, { on := 3, ground := Ground.phase }, { on := 4, ground := Ground.phase }, { on := 5, ground := Ground.phase }, { on := 6, ground := Ground.phase }, { on := 7, ground := Ground.phase }, { on := 8, ground := Ground.phase }, { on := 9, ground := Ground.phase }, { on := 10, ground := Ground.phase }, { on := 11, ground := Ground.phase }, { on := 12, ground := Ground.phase }, { on := 13, ground := Ground.phase }, { on := 14, ground := Ground.phase }, { on := 15, ground := Ground.phase }, { on := 16, ground := Ground.phase }, { on := 17, ground := Ground.phase }, { on := 18, ground := Ground.phase }, { on := 19, ground := Ground.phase }], guard := none }) (v := .bool false) rfl (by kernel_rfl) (by kernel_rfl) (by kernel_rfl) (fun _ _ _ h => h) (Or.inl ⟨by rfl, fun W hW => ?y21⟩) hs0 ?_
              case y21 => go_simp
              (try dsimp only [Act.put]); try simp only [z1, z2, z3]
              refine wpAnyH_done (by kernel_rfl) ?_ _
              (try dsimp only [Act.put]); try simp only [z1, z2, z3]
              go_wp2_with fail
              go_meet
              exact ⟨rfl, KD7⟩
          · obtain rfl : b = false := by rw [HBB.out, decide_eq_false hum]; rfl
            have HUS := Lib.hid (show ((us : Int) == (m : Int)) = false by rw [beq_eq_false_iff_ne, e2]; omega)
            clear e1 e2 hU hum HUB HSH
            refine wp_region_held (S := fun W => W.cell? ⟨gt, 3, none⟩ = some (.bool false) ∧ W.cell? ⟨gt, 2, none⟩ = some (.int .i64 (us : Int)) ∧ W.cell? ⟨w.heap.size + 1, 3, none⟩ = some (.slice A2 m c2) ∧ Blk W gd 29 (B8 R) ∧ Blk W w.heap.size 29 (B8 root)) (by kernel_rfl) ?_
            change wpAnyH _ _ _ _ _ _ _ _ (World.drew W7)
            have hs0 : (World.drew W7).cell? ⟨gt, 3, none⟩ = some (.bool false) ∧ (World.drew W7).cell? ⟨gt, 2, none⟩ = some (.int .i64 (us : Int)) ∧ (World.drew W7).cell? ⟨w.heap.size + 1, 3, none⟩ = some (.slice A2 m c2) ∧ Blk (World.drew W7) gd 29 (B8 R) ∧ Blk (World.drew W7) w.heap.size 29 (B8 root) := HS7.out
            have KD7 := Lib.hid K7.out.drew
            generalize World.drew W7 = Wd at hs0 KD7 ⊢
            refine wpAnyH_take (i := 0) (oi := { dst := some 65, op := Op.move (Operand.tmp 5), type := 102, pos := "ref.go:170", after := #[], guard := none }) (v := .pointer (some ⟨gt, 0, none⟩)) rfl (by kernel_rfl) (by kernel_rfl) (by kernel_rfl) (fun _ _ _ h => h) (Or.inl ⟨by rfl, fun W hW => ?y1⟩) hs0 ?_
            case y1 => go_simp
            (try dsimp only [Act.put]); try simp only [z1, z2, z3]
            refine wpAnyH_take (i := 1) (oi := { dst := some 66, op := Op.nilCheck (Operand.tmp 65), type := 0, pos := "ref.go:170", after := #[{ on := 0, ground := Ground.data }], guard := none }) (v := .pointer (some ⟨gt, 0, none⟩)) rfl (by kernel_rfl) (by kernel_rfl) (by kernel_rfl) (fun _ _ _ h => h) (Or.inl ⟨by rfl, fun W hW => ?y2⟩) hs0 ?_
            case y2 => go_simp
            (try dsimp only [Act.put]); try simp only [z1, z2, z3]
            refine wpAnyH_take (i := 2) (oi := { dst := some 67, op := Op.fieldAddr 104 (Operand.tmp 66) 3, type := 0, pos := "ref.go:170", after := #[{ on := 1, ground := Ground.data }], guard := none }) (v := .pointer (some ⟨gt, 3, none⟩)) rfl (by kernel_rfl) (by kernel_rfl) (by kernel_rfl) (fun _ _ _ h => h) (Or.inl ⟨by rfl, fun W hW => ?y3⟩) hs0 ?_
            case y3 => go_simp
            (try dsimp only [Act.put]); try simp only [z1, z2, z3]
            refine wpAnyH_take (i := 3) (oi := { dst := some 68, op := Op.load 4 (Operand.tmp 67), type := 4, pos := "ref.go:170", after := #[{ on := 2, ground := Ground.data }], guard := none }) (v := .bool false) rfl (by kernel_rfl) (by kernel_rfl) (by kernel_rfl) (fun _ _ _ h => h) (Or.inl ⟨by rfl, fun W hW => by have hcl := hW.1; go_simp⟩) hs0 ?_
            (try dsimp only [Act.put]); try simp only [z1, z2, z3]
            refine wpAnyH_take (i := 4) (oi := { dst := some 69, op := Op.unOp UnOp.not 4 (Operand.tmp 68), type := 4, pos := "ref.go:170", after := #[{ on := 3, ground := Ground.data }], guard := none }) (v := .bool true) rfl (by kernel_rfl) (by kernel_rfl) (by kernel_rfl) (fun _ _ _ h => h) (Or.inl ⟨by rfl, fun W hW => ?y5⟩) hs0 ?_
            case y5 => go_simp
            (try dsimp only [Act.put]); try simp only [z1, z2, z3]
            refine wpAnyH_take (i := 5) (oi := { dst := some 70, op := Op.move (Operand.tmp 69), type := 4, pos := "ref.go:170", after := #[{ on := 4, ground := Ground.data }], guard := none }) (v := .bool true) rfl (by kernel_rfl) (by kernel_rfl) (by kernel_rfl) (fun _ _ _ h => h) (Or.inl ⟨by rfl, fun W hW => ?y6⟩) hs0 ?_
            case y6 => go_simp
            (try dsimp only [Act.put]); try simp only [z1, z2, z3]
            refine wpAnyH_take (i := 6) (oi := { dst := some 71, op := Op.move (Operand.tmp 5), type := 102, pos := "ref.go:170", after := #[{ on := 5, ground := Ground.guard }], guard := some (5, true) }) (v := .pointer (some ⟨gt, 0, none⟩)) rfl (by kernel_rfl) (by kernel_rfl) (by kernel_rfl) (fun _ _ _ h => h) (Or.inl ⟨by rfl, fun W hW => ?y7⟩) hs0 ?_
            case y7 => go_simp
            (try dsimp only [Act.put]); try simp only [z1, z2, z3]
            refine wpAnyH_take (i := 7) (oi := { dst := some 72, op := Op.nilCheck (Operand.tmp 71), type := 0, pos := "ref.go:170", after := #[{ on := 6, ground := Ground.data }, { on := 5, ground := Ground.guard }], guard := some (5, true) }) (v := .pointer (some ⟨gt, 0, none⟩)) rfl (by kernel_rfl) (by kernel_rfl) (by kernel_rfl) (fun _ _ _ h => h) (Or.inl ⟨by rfl, fun W hW => ?y8⟩) hs0 ?_
            case y8 => go_simp
            (try dsimp only [Act.put]); try simp only [z1, z2, z3]
            refine wpAnyH_take (i := 8) (oi := { dst := some 73, op := Op.fieldAddr 104 (Operand.tmp 72) 2, type := 0, pos := "ref.go:170", after := #[{ on := 7, ground := Ground.data }, { on := 5, ground := Ground.guard }], guard := some (5, true) }) (v := .pointer (some ⟨gt, 2, none⟩)) rfl (by kernel_rfl) (by kernel_rfl) (by kernel_rfl) (fun _ _ _ h => h) (Or.inl ⟨by rfl, fun W hW => ?y9⟩) hs0 ?_
            case y9 => go_simp
            (try dsimp only [Act.put]); try simp only [z1, z2, z3]
            refine wpAnyH_take (i := 9) (oi := { dst := some 74, op := Op.load 3 (Operand.tmp 73), type := 3, pos := "ref.go:170", after := #[{ on := 8, ground := Ground.data }, { on := 5, ground := Ground.guard }], guard := some (5, true) }) (v := .int .i64 (us : Int)) rfl (by kernel_rfl) (by kernel_rfl) (by kernel_rfl) (fun _ _ _ h => h) (Or.inl ⟨by rfl, fun W hW => by have hcl := hW.2.1; go_simp⟩) hs0 ?_
            (try dsimp only [Act.put]); try simp only [z1, z2, z3]
            refine wpAnyH_take (i := 10) (oi := { dst := some 75, op := Op.fieldAddr 54 (Operand.tmp 3) 3, type := 0, pos := "ref.go:170", after := #[{ on := 5, ground := Ground.guard }], guard := some (5, true) }) (v := .pointer (some ⟨w.heap.size + 1, 3, none⟩)) rfl (by kernel_rfl) (by kernel_rfl) (by kernel_rfl) (fun _ _ _ h => h) (Or.inl ⟨by rfl, fun W hW => ?y11⟩) hs0 ?_
            case y11 => go_simp
            (try dsimp only [Act.put]); try simp only [z1, z2, z3]
            refine wpAnyH_take (i := 11) (oi := { dst := some 76, op := Op.load 48 (Operand.tmp 75), type := 48, pos := "ref.go:170", after := #[{ on := 10, ground := Ground.data }, { on := 5, ground := Ground.guard }], guard := some (5, true) }) (v := .slice A2 m c2) rfl (by kernel_rfl) (by kernel_rfl) (by kernel_rfl) (fun _ _ _ h => h) (Or.inl ⟨by rfl, fun W hW => by have hcl := hW.2.2.1; go_simp⟩) hs0 ?_
            (try dsimp only [Act.put]); try simp only [z1, z2, z3]
            refine wpAnyH_take (i := 12) (oi := { dst := some 77, op := Op.call { callee := Callee.builtin Builtin.len, args := #[Operand.tmp 76], argTypes := #[48] }, type := 3, pos := "ref.go:170", after := #[{ on := 11, ground := Ground.data }, { on := 5, ground := Ground.guard }], guard := some (5, true) }) (v := .int .i64 (m : Int)) rfl (by kernel_rfl) (by kernel_rfl) (by kernel_rfl) (fun _ _ _ h => h) (Or.inl ⟨by rfl, fun W hW => ?y13⟩) hs0 ?_
            case y13 => go_simp
            (try dsimp only [Act.put]); try simp only [z1, z2, z3]
            refine wpAnyH_take (i := 13) (oi := { dst := some 78, op := Op.binOp BinOp.eql 3 (Operand.tmp 74) (Operand.tmp 77) 3, type := 4, pos := "ref.go:170", after := #[{ on := 9, ground := Ground.data }, { on := 12, ground := Ground.data }, { on := 5, ground := Ground.guard }], guard := some (5, true) }) (v := .bool false) rfl (by kernel_rfl) (by kernel_rfl) (by kernel_rfl) (fun _ _ _ h => h) (Or.inl ⟨by rfl, fun W hW => by have hu := HUS.out; go_simp⟩) hs0 ?_
            (try dsimp only [Act.put]); try simp only [z1, z2, z3]
            refine wpAnyH_take (i := 14) (oi := { dst := some 79, op := Op.pick (Operand.tmp 70) (Operand.tmp 78) (Operand.const (Value.bool false)), type := 4, pos := "ref.go:170", after := #[{ on := 5, ground := Ground.data }, { on := 13, ground := Ground.data }], guard := none }) (v := .bool false) rfl (by kernel_rfl) (by kernel_rfl) (by kernel_rfl) (fun _ _ _ h => h) (Or.inl ⟨by rfl, fun W hW => ?y15⟩) hs0 ?_
            case y15 => go_simp
            (try dsimp only [Act.put]); try simp only [z1, z2, z3]
            refine wpAnyH_take (i := 15) (oi := { dst := some 80, op := Op.move (Operand.tmp 79), type := 4, pos := "ref.go:170", after := #[{ on := 14, ground := Ground.data }, { on := 5, ground := Ground.chain }], guard := none }) (v := .bool false) rfl (by kernel_rfl) (by kernel_rfl) (by kernel_rfl) (fun _ _ _ h => h) (Or.inl ⟨by rfl, fun W hW => ?y16⟩) hs0 ?_
            case y16 => go_simp
            (try dsimp only [Act.put]); try simp only [z1, z2, z3]
            refine wpAnyH_take (i := 16) (oi := { dst := some 81, op := Op.load 29 (Operand.tmp 6), type := 29, pos := "ref.go:170", after := #[{ on := 15, ground := Ground.guard }], guard := some (15, true) }) (v := undef) rfl (by kernel_rfl) (by kernel_rfl) (by kernel_rfl) (fun _ _ _ h => h) (Or.inr ⟨by rfl, rfl⟩) hs0 ?_
            (try dsimp only [Act.put]); try simp only [z1, z2, z3]
            refine wpAnyH_take (i := 17) (oi := { dst := some 82, op := Op.load 29 (Operand.tmp 2), type := 29, pos := "ref.go:170", after := #[{ on := 15, ground := Ground.guard }], guard := some (15, true) }) (v := undef) rfl (by kernel_rfl) (by kernel_rfl) (by kernel_rfl) (fun _ _ _ h => h) (Or.inr ⟨by rfl, rfl⟩) hs0 ?_
            (try dsimp only [Act.put]); try simp only [z1, z2, z3]
            refine wpAnyH_take (i := 18) (oi := { dst := some 83, op := Op.binOp BinOp.eql 29 (Operand.tmp 81) (Operand.tmp 82) 29, type := 4, pos := "ref.go:170", after := #[{ on := 16, ground := Ground.data }, { on := 17, ground := Ground.data }, { on := 15, ground := Ground.guard }], guard := some (15, true) }) (v := undef) rfl (by kernel_rfl) (by kernel_rfl) (by kernel_rfl) (fun _ _ _ h => h) (Or.inr ⟨by rfl, rfl⟩) hs0 ?_
            (try dsimp only [Act.put]); try simp only [z1, z2, z3]
            refine wpAnyH_take (i := 19) (oi := { dst := some 84, op := Op.pick (Operand.tmp 80) (Operand.tmp 83) (Operand.const (Value.bool false)), type := 4, pos := "ref.go:170", after := #[{ on := 15, ground := Ground.data }, { on := 18, ground := Ground.data }], guard := none }) (v := .bool false) rfl (by kernel_rfl) (by kernel_rfl) (by kernel_rfl) (fun _ _ _ h => h) (Or.inl ⟨by rfl, fun W hW => ?y20⟩) hs0 ?_
            case y20 => go_simp
            (try dsimp only [Act.put]); try simp only [z1, z2, z3]
            refine wpAnyH_take (i := 20) (oi := { dst := some 4, op := Op.assign (Operand.tmp 84), type := 4, pos := "ref.go:170", after := #[{ on := 19, ground := Ground.data }, { on := 15, ground := Ground.chain }, { on := 0, ground := Ground.phase }, { on := 1, ground := Ground.phase }, { on := 2, ground := Ground.phase }, { on := 3, ground := Ground.phase }, { on := 4, ground := Ground.phase }, { on := 5, ground := Ground.phase }, { on := 6, ground := Ground.phase }, { on := 7, ground := Ground.phase }, { on := 8, ground := Ground.phase }, { on := 9, ground := Ground.phase }, { on := 10, ground := Ground.phase }, { on := 11, ground := Ground.phase }, { on := 12, ground := Ground.phase }, { on := 13, ground := Ground.phase }, { on := 14, ground := Ground.phase }, { on := 15, ground := Ground.phase }, { on := 16, ground := Ground.phase }, { on := 17, ground := Ground.phase }, { on := 18, ground := Ground.phase }, { on := 19, ground := Ground.phase }], guard := none }) (v := .bool false) rfl (by kernel_rfl) (by kernel_rfl) (by kernel_rfl) (fun _ _ _ h => h) (Or.inl ⟨by rfl, fun W hW => ?y21⟩) hs0 ?_
            case y21 => go_simp
            (try dsimp only [Act.put]); try simp only [z1, z2, z3]
            refine wpAnyH_done (by kernel_rfl) ?_ _
            (try dsimp only [Act.put]); try simp only [z1, z2, z3]
            go_wp2_with fail
            go_meet
            exact ⟨rfl, KD7⟩
      case rest =>
        obtain ⟨rfl, KE⟩ := hcut
        go_wp2_with fail
        go_ret
        exact ⟨rfl, KE.out⟩
  · rw [hbad (by rw [hv0]; decide)]
    subst hv0
    clear bad hbad hV hn hm
    go_enter Tryd.func61, Tryd.ntmps61
    go_wp2_with (go_at_call 16; rw [← HW.out]; refine HV.out.mono ?_; rintro e w2 ⟨rfl, hb2⟩; have HB2 := Lib.hid hb2; clear hb2)
    go_ret
    exact ⟨rfl, HB1.out.trans (HB2.out.mono HB1.out.size)⟩
  · rw [hbad (by rw [hv0]; decide)]
    subst hv0
    clear bad hbad hV hn hm
    go_enter Tryd.func61, Tryd.ntmps61
    go_wp2_with (go_at_call 16; rw [← HW.out]; refine HV.out.mono ?_; rintro e w2 ⟨rfl, hb2⟩; have HB2 := Lib.hid hb2; clear hb2)
    go_ret
    exact ⟨rfl, HB1.out.trans (HB2.out.mono HB1.out.size)⟩
end Go.Proofs.YtofccgkgjcnfbaaDoor

namespace Go.Proofs.YtofccgkgjcnfbaaDoor
open Go.RowKit Wr Sh
set_option linter.unusedVariables false
set_option maxRecDepth 100000

theorem under_ord {R : List UInt8} {p : Pf} (h : underB node lf top R p = true) : 0 ≤ p.size ∧ p.size ≤ 4096 ∧ 0 ≤ p.first ∧ p.first + p.leaves.length ≤ p.size ∧ ord p.leaves ∧ (p.leaves.length = 0 → p.size = 0) := by
  have hf : formP p = true := by unfold underB at h; exact (Bool.and_eq_true_iff.1 h).1
  unfold formP at hf
  simp only [Bool.and_eq_true, decide_eq_true_eq, Bool.not_eq_true', Bool.and_eq_false_iff, decide_eq_false_iff_not] at hf
  obtain ⟨⟨⟨h1, h2, h3, h4⟩, h6⟩, h5⟩ := hf
  exact ⟨h1, h2, h3, by omega, (valid_ok h5).2.2, fun h0 => by omega⟩
set_option maxHeartbeats 8000000 in
theorem rcheck_any (root : List UInt8) (key : ByteArray) (p : Pf) (A1 A2 : Option Addr) (n m c1 c2 : Nat) (w : World) (hn : n = p.leaves.length) (hm : m = p.sides.length) (hroot : root.length = 16) (hp : PfAt w w.heap.size p A1 A2 c1 c2) (ht : Tab 0 w) :
    Calls Tryd.prog 31 #[.agg (B8 root).toArray, .string key, .agg #[.int .i64 p.first, .int .i64 p.size, .slice A1 n c1, .slice A2 m c2]] w fun e w' =>
      e = .returned (.tuple #[.string (checkR node lf top root key p).1, .bool (checkR node lf top root key p).2.1, .int .i64 (checkR node lf top root key p).2.2]) ∧ Below w.heap.size w w' := by
  obtain ⟨r, hr⟩ : ∃ r, r = checkR node lf top root key p := ⟨_, rfl⟩
  rw [← hr]
  have HR := Lib.hid hr
  clear hr
  obtain ⟨W1, hW1⟩ : ∃ W, W = (w.alloc (.cells (B8 root).toArray 29)).alloc (.cells #[.int .i64 p.first, .int .i64 p.size, .slice A1 n c1, .slice A2 m c2] 54) := ⟨_, rfl⟩
  have hb1 : Below w.heap.size w W1 := by rw [hW1]; exact ((Below.refl w.heap.size w).alloc (Nat.le_refl _) _).alloc (by simp) _
  have HB1 := Lib.hid hb1
  have P1 := Lib.hid (show Blk W1 (w.heap.size + 1) 54 (PR p.first p.size (.slice A1 n c1) (.slice A2 m c2)) by rw [hW1]; exact Blk.newAt _ _ 54 (PR p.first p.size (.slice A1 n c1) (.slice A2 m c2)) (by simp))
  have R1 := Lib.hid (show Blk W1 w.heap.size 29 (B8 root) by rw [hW1]; exact (Blk.new w 29 (B8 root)).alloc _)
  have HRl := Lib.hid hroot
  have hp1 : PfAt W1 W1.heap.size p A1 A2 c1 c2 := ⟨(hp.r1.below hb1).more hb1.size, (hp.r2.below hb1).more hb1.size, hp.k1, hp.k2, hp.okl, hp.oks, hp.oki⟩
  have HU := Lib.hid (runder_any root p A1 A2 n m c1 c2 W1 hn hm hroot hp1 (ht.below hb1 ht.1))
  have HW := Lib.hid hW1
  have L1 := Lib.hid P1.out.at
  have L0 := Lib.hid R1.out.at
  have HP := Lib.hid hp
  have HT := Lib.hid ht
  obtain ⟨f, sz, L, S⟩ := p
  dsimp only at *
  have hln := hp.okl.1
  rw [← hn] at hln
  have HNL := Lib.hid hn
  cases hu : underB node lf top root ⟨f, sz, L, S⟩ with
  | false =>
    have HE := Lib.hid (show r = (ByteArray.empty, false, 17) by rw [HR.out]; unfold checkR; rw [if_neg (by rw [hu]; simp)])
    rw [hu] at HU
    clear hu hp hp1 hb1 hW1 ht hroot hn hm
    go_enter Tryd.func31, Tryd.ntmps31
    go_upto_region 1 with fail
    rw [← HW.out]
    go_wp2_with (first
      | (refine wpList_load_at rfl 29 (.tmp 3) rfl ⟨w.heap.size, 0, none⟩ rfl (B8 root) (.array 16 5) L0.out Tryd.underlying29 rfl (size29 _ HRl.out) ?_)
      | (refine wpList_load_at rfl 54 (.tmp 5) rfl ⟨w.heap.size + 1, 0, none⟩ rfl (PR f sz (.slice A1 n c1) (.slice A2 m c2)) _ L1.out Tryd.underlying54 rfl (size54L _ _ _ _) ?_)
      | (go_at_call 61; refine HU.out.mono ?_; rintro e w2 ⟨rfl, hb2⟩; have HB2 := Lib.hid hb2; clear hb2))
    go_ret3
    exact ⟨by rw [HE.out]; rfl, HB1.out.trans (HB2.out.mono HB1.out.size)⟩
  | true =>
    obtain ⟨z0, z1, f0, f1, ho, _⟩ := under_ord hu
    dsimp only at z0 z1 f0 f1 ho
    obtain ⟨q, hq⟩ : ∃ q, q = cb L key := ⟨_, rfl⟩
    have hql : q ≤ n := by rw [hq, hn]; exact cb_le L key
    obtain ⟨ix, hix⟩ : ∃ i, i = hasI L key := ⟨_, rfl⟩
    have HH := Lib.hid (fun (W : World) (hb : Below w.heap.size w W) => show Calls Tryd.prog 43 #[.slice A1 n c1, .string key] W fun e w' => e = .returned (.int .i64 ix) ∧ W = w' from by
      have := has_any A1 L c1 key W (by rw [← hn]; exact hln) ((HP.out.r1.below hb).more hb.size)
      rw [← hix, ← hn] at this
      exact this.mono fun e w' h => ⟨h.1, h.2.symm⟩)
    have HF := Lib.hid (fun (W : World) (hb : Below w.heap.size w W) => show Calls Tryd.prog 56 #[.slice A1 n c1, .string key] W fun e w' => e = .returned (.int .i64 (q : Int)) ∧ W = w' from by
      have := from_any A1 L c1 key W (by rw [← hn]; exact hln) ((HP.out.r1.below hb).more hb.size)
      rw [← hq, ← hn] at this
      exact this.mono fun e w' h => ⟨h.1, h.2.symm⟩)
    rw [hu] at HU
    by_cases hit : hitB L key = true
    · obtain ⟨h1, h2⟩ : q < L.length ∧ (L.getD q (ByteArray.empty, ByteArray.empty)).1 = key := by
        unfold hitB at hit; rw [← hq] at hit; simpa using hit
      obtain ⟨v, hv⟩ : ∃ v, v = (L.getD q (ByteArray.empty, ByteArray.empty)).2 := ⟨_, rfl⟩
      have HE := Lib.hid (show r = (v, true, 0) by rw [HR.out]; unfold checkR; rw [if_pos hu, if_pos hit, ← hq, hv])
      rw [List.getD_eq_getElem?_getD, List.getElem?_eq_getElem h1] at hv
      have hv' : v = L[q].2 := hv
      obtain ⟨g, o, rfl, hg, hc⟩ := leaf_cells HP.out.r1 q h1
      have d2 := (hc q h1).2
      rw [← hv'] at d2
      have CC := Lib.hid d2
      have HG := Lib.hid hg
      have i1 : (q : Int) < (n : Int) := by omega
      have hixq : ix = (q : Int) := by rw [hix, has_hit L key ho hit, hq]
      subst hixq
      clear hu hit h2 hv hv' hc d2 hg hq hix ho hp hp1 hb1 hW1 ht hroot hn hm
      go_enter Tryd.func31, Tryd.ntmps31
      go_upto_region 1 with fail
      rw [← HW.out]
      go_upto_region 3 with (first
        | (refine wpList_load_at rfl 29 (.tmp 3) rfl ⟨w.heap.size, 0, none⟩ rfl (B8 root) (.array 16 5) L0.out Tryd.underlying29 rfl (size29 _ HRl.out) ?_)
        | (refine wpList_load_at rfl 54 (.tmp 5) rfl ⟨w.heap.size + 1, 0, none⟩ rfl (PR f sz (.slice (some ⟨g, o, none⟩) n c1) (.slice A2 m c2)) _ L1.out Tryd.underlying54 rfl (size54L _ _ _ _) ?_)
        | (go_at_call 61; refine HU.out.mono ?_; rintro e w2 ⟨rfl, hb2⟩; have HB2 := Lib.hid hb2; clear hb2))
      have P2 := Lib.hid (P1.out.below HB2.out P1.out.lt)
      have B2 := Lib.hid (HB1.out.trans (HB2.out.mono HB1.out.size))
      have q2 : w2.cell? ⟨w.heap.size + 1, 2, none⟩ = some (.slice (some ⟨g, o, none⟩) n c1) := (P2.out.cell 2).trans rfl
      have q5 : w2.cell? ⟨g, o + q * 2 + 1, none⟩ = some (.string v) := (B2.out.cell (p := ⟨g, o + q * 2 + 1, none⟩) HG.out).trans CC.out
      clear HU HF
      go_wp2_with (go_at_call 43; refine (HH.out w2 B2.out).mono ?_; rintro e wx ⟨rfl, rfl⟩)
      go_ret3
      exact ⟨by rw [HE.out]; rfl, B2.out⟩
    · obtain ⟨b, hb⟩ : ∃ b, b = bounded ⟨f, sz, L, S⟩ q q := ⟨_, rfl⟩
      have HE := Lib.hid (show r = (ByteArray.empty, false, if b = true then 0 else 17) by
        rw [HR.out]; unfold checkR; rw [if_pos hu, if_neg hit, ← hq]
        show (if bounded ⟨f, sz, L, S⟩ q q = true then _ else _) = _
        rw [← hb]
        split <;> rfl)
      have hb' : b = ((decide (0 < q) || decide (f = 0)) && (decide (q < n) || decide (f + (n : Int) = sz))) := by rw [hb, hn]; rfl
      have HBB := Lib.hid hb'
      have hixq : ix = -1 := by rw [hix, has_miss L key ho (by simpa using hit)]
      subst hixq
      clear hu hit hb hb' hq hix ho hp hp1 hb1 hW1 ht hroot hn hm
      go_enter Tryd.func31, Tryd.ntmps31
      go_upto_region 1 with fail
      rw [← HW.out]
      go_upto_region 3 with (first
        | (refine wpList_load_at rfl 29 (.tmp 3) rfl ⟨w.heap.size, 0, none⟩ rfl (B8 root) (.array 16 5) L0.out Tryd.underlying29 rfl (size29 _ HRl.out) ?_)
        | (refine wpList_load_at rfl 54 (.tmp 5) rfl ⟨w.heap.size + 1, 0, none⟩ rfl (PR f sz (.slice A1 n c1) (.slice A2 m c2)) _ L1.out Tryd.underlying54 rfl (size54L _ _ _ _) ?_)
        | (go_at_call 61; refine HU.out.mono ?_; rintro e w2 ⟨rfl, hb2⟩; have HB2 := Lib.hid hb2; clear hb2))
      have P2 := Lib.hid (P1.out.below HB2.out P1.out.lt)
      have B2 := Lib.hid (HB1.out.trans (HB2.out.mono HB1.out.size))
      have q0 : w2.cell? ⟨w.heap.size + 1, 0, none⟩ = some (.int .i64 f) := (P2.out.cell 0).trans rfl
      have q1 : w2.cell? ⟨w.heap.size + 1, 1, none⟩ = some (.int .i64 sz) := (P2.out.cell 1).trans rfl
      have q2 : w2.cell? ⟨w.heap.size + 1, 2, none⟩ = some (.slice A1 n c1) := (P2.out.cell 2).trans rfl
      clear HU
      go_upto_region 7 with (first
        | (go_at_call 43; refine (HH.out w2 B2.out).mono ?_; rintro e wx ⟨rfl, rfl⟩)
        | (go_at_call 56; refine (HF.out w2 B2.out).mono ?_; rintro e wx ⟨rfl, rfl⟩))
      clear HH HF
      have hal : 0 < q ∨ (¬ 0 < q ∧ f = 0) ∨ (¬ 0 < q ∧ ¬ f = 0) := by omega
      have har : q < n ∨ (¬ q < n ∧ f + (n : Int) = sz) ∨ (¬ q < n ∧ ¬ f + (n : Int) = sz) := by omega
      rcases hal with al | al | al
      · rcases har with ar | ar | ar
        · have a1 : (0 : Int) < (q : Int) := by omega
          have b1 : (q : Int) < (n : Int) := by omega
          have hbb : b = true := by
            rw [HBB.out]
            rw [decide_eq_true al, Bool.true_or]
            rw [decide_eq_true ar, Bool.true_or]
            rfl
          have HE2 := Lib.hid (show r = (ByteArray.empty, false, 0) by rw [HE.out, hbb]; rfl)
          clear hbb HBB HE 
          go_wp2_with fail
          go_ret3
          exact ⟨by rw [HE2.out]; rfl, B2.out⟩
        · have a1 : (0 : Int) < (q : Int) := by omega
          obtain ⟨b0, b2⟩ := ar
          have b1 : ¬ (q : Int) < (n : Int) := by omega
          have b3 : (f + (n : Int) == sz) = true := by rw [beq_iff_eq]; exact b2
          have hbb : b = true := by
            rw [HBB.out]
            rw [decide_eq_true al, Bool.true_or]
            rw [decide_eq_true b2, Bool.or_true]
            rfl
          have HE2 := Lib.hid (show r = (ByteArray.empty, false, 0) by rw [HE.out, hbb]; rfl)
          clear hbb HBB HE b2
          go_wp2_with fail
          go_ret3
          exact ⟨by rw [HE2.out]; rfl, B2.out⟩
        · have a1 : (0 : Int) < (q : Int) := by omega
          obtain ⟨b0, b2⟩ := ar
          have b1 : ¬ (q : Int) < (n : Int) := by omega
          have b3 : (f + (n : Int) == sz) = false := by rw [beq_eq_false_iff_ne]; exact b2
          have hbb : b = false := by
            rw [HBB.out]
            rw [decide_eq_true al, Bool.true_or]
            rw [decide_eq_false b0, decide_eq_false b2, Bool.false_or]
            rfl
          have HE2 := Lib.hid (show r = (ByteArray.empty, false, 17) by rw [HE.out, hbb]; rfl)
          clear hbb HBB HE b2
          go_wp2_with fail
          go_ret3
          exact ⟨by rw [HE2.out]; rfl, B2.out⟩
      · rcases har with ar | ar | ar
        · obtain ⟨a0, a2⟩ := al
          have a1 : ¬ (0 : Int) < (q : Int) := by omega
          have a3 : (f == 0) = true := by rw [beq_iff_eq]; exact a2
          have b1 : (q : Int) < (n : Int) := by omega
          have hbb : b = true := by
            rw [HBB.out]
            rw [decide_eq_true a2, Bool.or_true]
            rw [decide_eq_true ar, Bool.true_or]
            rfl
          have HE2 := Lib.hid (show r = (ByteArray.empty, false, 0) by rw [HE.out, hbb]; rfl)
          clear hbb HBB HE a2
          go_wp2_with fail
          go_ret3
          exact ⟨by rw [HE2.out]; rfl, B2.out⟩
        · obtain ⟨a0, a2⟩ := al
          have a1 : ¬ (0 : Int) < (q : Int) := by omega
          have a3 : (f == 0) = true := by rw [beq_iff_eq]; exact a2
          obtain ⟨b0, b2⟩ := ar
          have b1 : ¬ (q : Int) < (n : Int) := by omega
          have b3 : (f + (n : Int) == sz) = true := by rw [beq_iff_eq]; exact b2
          have hbb : b = true := by
            rw [HBB.out]
            rw [decide_eq_true a2, Bool.or_true]
            rw [decide_eq_true b2, Bool.or_true]
            rfl
          have HE2 := Lib.hid (show r = (ByteArray.empty, false, 0) by rw [HE.out, hbb]; rfl)
          clear hbb HBB HE a2 b2
          go_wp2_with fail
          go_ret3
          exact ⟨by rw [HE2.out]; rfl, B2.out⟩
        · obtain ⟨a0, a2⟩ := al
          have a1 : ¬ (0 : Int) < (q : Int) := by omega
          have a3 : (f == 0) = true := by rw [beq_iff_eq]; exact a2
          obtain ⟨b0, b2⟩ := ar
          have b1 : ¬ (q : Int) < (n : Int) := by omega
          have b3 : (f + (n : Int) == sz) = false := by rw [beq_eq_false_iff_ne]; exact b2
          have hbb : b = false := by
            rw [HBB.out]
            rw [decide_eq_true a2, Bool.or_true]
            rw [decide_eq_false b0, decide_eq_false b2, Bool.false_or]
            rfl
          have HE2 := Lib.hid (show r = (ByteArray.empty, false, 17) by rw [HE.out, hbb]; rfl)
          clear hbb HBB HE a2 b2
          go_wp2_with fail
          go_ret3
          exact ⟨by rw [HE2.out]; rfl, B2.out⟩
      · rcases har with ar | ar | ar
        · obtain ⟨a0, a2⟩ := al
          have a1 : ¬ (0 : Int) < (q : Int) := by omega
          have a3 : (f == 0) = false := by rw [beq_eq_false_iff_ne]; exact a2
          have b1 : (q : Int) < (n : Int) := by omega
          have hbb : b = false := by
            rw [HBB.out]
            rw [decide_eq_false a0, decide_eq_false a2, Bool.false_or]
            exact Bool.false_and _
          have HE2 := Lib.hid (show r = (ByteArray.empty, false, 17) by rw [HE.out, hbb]; rfl)
          clear hbb HBB HE a2
          go_wp2_with fail
          go_ret3
          exact ⟨by rw [HE2.out]; rfl, B2.out⟩
        · obtain ⟨a0, a2⟩ := al
          have a1 : ¬ (0 : Int) < (q : Int) := by omega
          have a3 : (f == 0) = false := by rw [beq_eq_false_iff_ne]; exact a2
          obtain ⟨b0, b2⟩ := ar
          have b1 : ¬ (q : Int) < (n : Int) := by omega
          have b3 : (f + (n : Int) == sz) = true := by rw [beq_iff_eq]; exact b2
          have hbb : b = false := by
            rw [HBB.out]
            rw [decide_eq_false a0, decide_eq_false a2, Bool.false_or]
            exact Bool.false_and _
          have HE2 := Lib.hid (show r = (ByteArray.empty, false, 17) by rw [HE.out, hbb]; rfl)
          clear hbb HBB HE a2 b2
          go_wp2_with fail
          go_ret3
          exact ⟨by rw [HE2.out]; rfl, B2.out⟩
        · obtain ⟨a0, a2⟩ := al
          have a1 : ¬ (0 : Int) < (q : Int) := by omega
          have a3 : (f == 0) = false := by rw [beq_eq_false_iff_ne]; exact a2
          obtain ⟨b0, b2⟩ := ar
          have b1 : ¬ (q : Int) < (n : Int) := by omega
          have b3 : (f + (n : Int) == sz) = false := by rw [beq_eq_false_iff_ne]; exact b2
          have hbb : b = false := by
            rw [HBB.out]
            rw [decide_eq_false a0, decide_eq_false a2, Bool.false_or]
            exact Bool.false_and _
          have HE2 := Lib.hid (show r = (ByteArray.empty, false, 17) by rw [HE.out, hbb]; rfl)
          clear hbb HBB HE a2 b2
          go_wp2_with fail
          go_ret3
          exact ⟨by rw [HE2.out]; rfl, B2.out⟩
set_option maxHeartbeats 8000000 in
theorem rcheckRange_any (root : List UInt8) (k t : ByteArray) (p : Pf) (A1 A2 : Option Addr) (n m c1 c2 : Nat) (w : World) (hn : n = p.leaves.length) (hm : m = p.sides.length) (hroot : root.length = 16) (hp : PfAt w w.heap.size p A1 A2 c1 c2) (ht : Tab 0 w) :
    Calls Tryd.prog 33 #[.agg (B8 root).toArray, .string k, .string t, .agg #[.int .i64 p.first, .int .i64 p.size, .slice A1 n c1, .slice A2 m c2]] w fun e w' =>
      ∃ A n' c, e = .returned (.tuple #[.slice A n' c, .int .i64 (checkRangeR node lf top root k t p).2]) ∧ (n' = (checkRangeR node lf top root k t p).1.length ∧ Rd w' w'.heap.size A (LC (checkRangeR node lf top root k t p).1)) ∧ Below w.heap.size w w' := by
  obtain ⟨r, hr⟩ : ∃ r, r = checkRangeR node lf top root k t p := ⟨_, rfl⟩
  rw [← hr]
  have HR := Lib.hid hr
  clear hr
  obtain ⟨W1, hW1⟩ : ∃ W, W = (w.alloc (.cells (B8 root).toArray 29)).alloc (.cells #[.int .i64 p.first, .int .i64 p.size, .slice A1 n c1, .slice A2 m c2] 54) := ⟨_, rfl⟩
  have hb1 : Below w.heap.size w W1 := by rw [hW1]; exact ((Below.refl w.heap.size w).alloc (Nat.le_refl _) _).alloc (by simp) _
  have HB1 := Lib.hid hb1
  have P1 := Lib.hid (show Blk W1 (w.heap.size + 1) 54 (PR p.first p.size (.slice A1 n c1) (.slice A2 m c2)) by rw [hW1]; exact Blk.newAt _ _ 54 (PR p.first p.size (.slice A1 n c1) (.slice A2 m c2)) (by simp))
  have R1 := Lib.hid (show Blk W1 w.heap.size 29 (B8 root) by rw [hW1]; exact (Blk.new w 29 (B8 root)).alloc _)
  have HRl := Lib.hid hroot
  have hp1 : PfAt W1 W1.heap.size p A1 A2 c1 c2 := ⟨(hp.r1.below hb1).more hb1.size, (hp.r2.below hb1).more hb1.size, hp.k1, hp.k2, hp.okl, hp.oks, hp.oki⟩
  have HU := Lib.hid (runder_any root p A1 A2 n m c1 c2 W1 hn hm hroot hp1 (ht.below hb1 ht.1))
  have HW := Lib.hid hW1
  have L1 := Lib.hid P1.out.at
  have L0 := Lib.hid R1.out.at
  have HP := Lib.hid hp
  obtain ⟨f, sz, L, S⟩ := p
  dsimp only at *
  have hln := hp.okl.1
  rw [← hn] at hln
  have HNL := Lib.hid hn
  have hNil : ∀ W : World, (0 : Nat) = ([] : List Lf).length ∧ Rd W W.heap.size none (LC []) := fun W => ⟨rfl, Rd.nil⟩
  have HNil := Lib.hid hNil
  clear hNil
  cases hs : sl t k with
  | true =>
    have HE := Lib.hid (show r = ([], 5) by rw [HR.out]; unfold checkRangeR; rw [if_pos hs])
    have i0 : Op.bytesLess t.toList k.toList = true := by rw [lss_str, hs]
    clear hs hp hp1 hb1 hW1 ht hroot hn hm HU
    go_enter Tryd.func33, Tryd.ntmps33
    go_upto_region 1 with fail
    rw [← HW.out]
    go_wp2_with fail
    go_ret2
    exact ⟨none, 0, 0, by rw [HE.out]; rfl, by rw [HE.out]; exact HNil.out _, HB1.out⟩
  | false =>
    have i0 : Op.bytesLess t.toList k.toList = false := by rw [lss_str, hs]
    cases hu : underB node lf top root ⟨f, sz, L, S⟩ with
    | false =>
      have HE := Lib.hid (show r = ([], 17) by rw [HR.out]; unfold checkRangeR; rw [if_neg (by rw [hs]; simp), if_neg (by rw [hu]; simp)])
      rw [hu] at HU
      clear hs hu hp hp1 hb1 hW1 ht hroot hn hm
      go_enter Tryd.func33, Tryd.ntmps33
      go_upto_region 1 with fail
      rw [← HW.out]
      go_wp2_with (first
        | (refine wpList_load_at rfl 29 (.tmp 4) rfl ⟨w.heap.size, 0, none⟩ rfl (B8 root) (.array 16 5) L0.out Tryd.underlying29 rfl (size29 _ HRl.out) ?_)
        | (refine wpList_load_at rfl 54 (.tmp 7) rfl ⟨w.heap.size + 1, 0, none⟩ rfl (PR f sz (.slice A1 n c1) (.slice A2 m c2)) _ L1.out Tryd.underlying54 rfl (size54L _ _ _ _) ?_)
        | (go_at_call 61; refine HU.out.mono ?_; rintro e w2 ⟨rfl, hb2⟩; have HB2 := Lib.hid hb2; clear hb2))
      go_ret2
      exact ⟨none, 0, 0, by rw [HE.out]; rfl, by rw [HE.out]; exact HNil.out _, HB1.out.trans (HB2.out.mono HB1.out.size)⟩
    | true =>
      obtain ⟨z0, z1, f0, f1, ho, fe⟩ := under_ord hu
      dsimp only at z0 z1 f0 f1 ho fe
      rw [← hn] at f1 fe
      rw [hu] at HU
      obtain ⟨b, hb⟩ : ∃ b, b = bounded ⟨f, sz, L, S⟩ (cb L k) (cb L t) := ⟨_, rfl⟩
      have HE := Lib.hid (show r = if b = true then (insideR L k t, 0) else ([], 17) by
        rw [HR.out]; unfold checkRangeR; rw [if_neg (by rw [hs]; simp), if_pos hu, inside_cut L k t ho hs]
        show (if bounded ⟨f, sz, L, S⟩ (cb L k) (cb L t) = true then _ else _) = _
        rw [← hb])
      have hb' : b = ((decide (0 < cb L k) || decide (f = 0)) && (decide (cb L t < n) || decide (f + (n : Int) = sz))) := by rw [hb, hn]; rfl
      rcases Nat.eq_zero_or_pos n with hn0 | hn0
      · have hL0 : L = [] := List.length_eq_zero_iff.1 (by omega)
        have hz0 := fe hn0
        have HE2 := Lib.hid (show r = ([], 0) by
          rw [HE.out, hb', show f = 0 by omega, hz0, hn0, hL0]; simp [insideR])
        have c53 : ((n : Int) == 0) = true := by rw [beq_iff_eq]; omega
        clear hs hu hp hp1 hb1 hW1 ht hroot hn hm hb hb' HE hL0 hz0 fe hn0
        go_enter Tryd.func33, Tryd.ntmps33
        go_upto_region 1 with fail
        rw [← HW.out]
        go_upto_region 5 with (first
          | (refine wpList_load_at rfl 29 (.tmp 4) rfl ⟨w.heap.size, 0, none⟩ rfl (B8 root) (.array 16 5) L0.out Tryd.underlying29 rfl (size29 _ HRl.out) ?_)
          | (refine wpList_load_at rfl 54 (.tmp 7) rfl ⟨w.heap.size + 1, 0, none⟩ rfl (PR f sz (.slice A1 n c1) (.slice A2 m c2)) _ L1.out Tryd.underlying54 rfl (size54L _ _ _ _) ?_)
          | (go_at_call 61; refine HU.out.mono ?_; rintro e w2 ⟨rfl, hb2⟩; have HB2 := Lib.hid hb2; clear hb2))
        have P2 := Lib.hid (P1.out.below HB2.out P1.out.lt)
        have q2 : w2.cell? ⟨w.heap.size + 1, 2, none⟩ = some (.slice A1 n c1) := (P2.out.cell 2).trans rfl
        go_wp2_with fail
        go_ret2
        exact ⟨none, 0, 0, by rw [HE2.out]; rfl, by rw [HE2.out]; exact HNil.out _, HB1.out.trans (HB2.out.mono HB1.out.size)⟩
      · obtain ⟨z, hz⟩ : ∃ z, z = n - 1 := ⟨_, rfl⟩
        have hzI : (n : Int) - 1 = (z : Int) := by omega
        have hzn : (z : Int) < (n : Int) := by omega
        have hn1 : (0 : Int) < (n : Int) := by omega
        have c53 : ((n : Int) == 0) = false := by rw [beq_eq_false_iff_ne]; omega
        have h0l : 0 < L.length := by omega
        have hzl : z < L.length := by omega
        obtain ⟨ka, hka⟩ : ∃ x, x = L[0].1 := ⟨_, rfl⟩
        obtain ⟨kz, hkz⟩ : ∃ x, x = L[z].1 := ⟨_, rfl⟩
        obtain ⟨g, o, rfl, hg, hc⟩ := leaf_cells HP.out.r1 0 h0l
        have d1 := (hc 0 h0l).1
        have d2 := (hc z hzl).1
        rw [← hka, Nat.zero_mul, Nat.add_zero] at d1
        rw [← hkz] at d2
        have CC := Lib.hid (And.intro d1 d2)
        have HG := Lib.hid hg
        have e1 : (0 < cb L k) = (sl ka k = true) := by rw [hka]; exact propext (cb_iff L k ho 0 h0l).symm
        have e2 : (cb L t < n) = (sl kz t = false) := by
          have h3 := cb_iff L t ho z hzl
          rw [← hkz] at h3
          have h4 := cb_le L t
          refine propext ⟨fun h5 => ?_, fun h5 => ?_⟩
          · cases h6 : sl kz t with
            | false => rfl
            | true => have := h3.1 h6; omega
          · have h6 : ¬ z < cb L t := fun h7 => by rw [h3.2 h7] at h5; cases h5
            omega
        have HIN := Lib.hid (fun (W : World) (hb : Below w.heap.size w W) => show Calls Tryd.prog 44 #[.slice (some ⟨g, o, none⟩) n c1, .string k, .string t] W fun e w' => ∃ A' n' c', e = .returned (.slice A' n' c') ∧ (n' = (insideR L k t).length ∧ Rd w' w'.heap.size A' (LC (insideR L k t))) ∧ Below W.heap.size W w' from by
          have := inside_any (some ⟨g, o, none⟩) L c1 k t W (by rw [← hn]; exact hln) ((HP.out.r1.below hb).more hb.size)
          rw [← hn] at this
          exact this.mono fun e w' ⟨A', c', h1, h2, h3, h4, h5⟩ => ⟨A', _, c', h1, ⟨rfl, h4⟩, h5⟩)
        have HBB := Lib.hid (show b = ((decide (sl ka k = true) || decide (f = 0)) && (decide (sl kz t = false) || decide (f + (n : Int) = sz))) by
          rw [hb']; simp only [e1, e2])
        have la := lss_str ka k
        have lz := lss_str kz t
        clear hs hu hp hp1 hb1 hW1 ht hroot hn hm hb hb' fe hn0 hka hkz hc d1 d2 hg e1 e2 h0l hzl hz
        go_enter Tryd.func33, Tryd.ntmps33
        go_upto_region 1 with fail
        rw [← HW.out]
        go_upto_region 5 with (first
          | (refine wpList_load_at rfl 29 (.tmp 4) rfl ⟨w.heap.size, 0, none⟩ rfl (B8 root) (.array 16 5) L0.out Tryd.underlying29 rfl (size29 _ HRl.out) ?_)
          | (refine wpList_load_at rfl 54 (.tmp 7) rfl ⟨w.heap.size + 1, 0, none⟩ rfl (PR f sz (.slice (some ⟨g, o, none⟩) n c1) (.slice A2 m c2)) _ L1.out Tryd.underlying54 rfl (size54L _ _ _ _) ?_)
          | (go_at_call 61; refine HU.out.mono ?_; rintro e w2 ⟨rfl, hb2⟩; have HB2 := Lib.hid hb2; clear hb2))
        have P2 := Lib.hid (P1.out.below HB2.out P1.out.lt)
        have B2 := Lib.hid (HB1.out.trans (HB2.out.mono HB1.out.size))
        have q0 : w2.cell? ⟨w.heap.size + 1, 0, none⟩ = some (.int .i64 f) := (P2.out.cell 0).trans rfl
        have q1 : w2.cell? ⟨w.heap.size + 1, 1, none⟩ = some (.int .i64 sz) := (P2.out.cell 1).trans rfl
        have q2 : w2.cell? ⟨w.heap.size + 1, 2, none⟩ = some (.slice (some ⟨g, o, none⟩) n c1) := (P2.out.cell 2).trans rfl
        have q3 : w2.cell? ⟨g, o, none⟩ = some (.string ka) := (B2.out.cell (p := ⟨g, o, none⟩) HG.out).trans CC.out.1
        have q4 : w2.cell? ⟨g, o + z * 2, none⟩ = some (.string kz) := (B2.out.cell (p := ⟨g, o + z * 2, none⟩) HG.out).trans CC.out.2
        clear HU
        go_upto_region 8 with fail
        rcases Int.lt_or_le 0 f with x1 | x1
        · cases ha2 : sl ka k with
          | false =>
            rw [ha2] at la
            have x2 : ¬ f = 0 := by omega
            have HE2 := Lib.hid (show r = ([], 17) by rw [HE.out, if_neg (by rw [HBB.out]; simp [ha2, x2])])
            clear HBB HE ha2 x2
            go_wp2_with fail
            go_ret2
            exact ⟨none, 0, 0, by rw [HE2.out]; rfl, by rw [HE2.out]; exact HNil.out _, B2.out⟩
          | true =>
            rw [ha2] at la
            rcases Int.lt_or_le (f + (n : Int)) sz with y1 | y1
            · have y2 : ¬ f + (n : Int) = sz := by omega
              cases hz2 : sl kz t with
              | true =>
                rw [hz2] at lz
                have HE2 := Lib.hid (show r = ([], 17) by rw [HE.out, if_neg (by rw [HBB.out]; simp [ha2, hz2, y2])])
                clear HBB HE hz2 y2
                go_wp2_with fail
                go_ret2
                exact ⟨none, 0, 0, by rw [HE2.out]; rfl, by rw [HE2.out]; exact HNil.out _, B2.out⟩
              | false =>
                rw [hz2] at lz
                have HE2 := Lib.hid (show r = (insideR L k t, 0) by rw [HE.out, if_pos (by rw [HBB.out]; simp [ha2, hz2])])
                clear HBB HE hz2 y2
                go_wp2_with (go_at_call 44; refine (HIN.out w2 B2.out).mono ?_; rintro e w3 ⟨A', n', c', rfl, hrd, hb3⟩; have O3 := Lib.hid hrd; have K3 := Lib.hid hb3; clear hrd hb3)
                go_ret2
                exact ⟨A', n', c', by rw [HE2.out]; rfl, by rw [HE2.out]; exact O3.out, B2.out.trans (K3.out.mono B2.out.size)⟩
            · have y2 : f + (n : Int) = sz := by omega
              have y3 : ¬ f + (n : Int) < sz := by omega
              have HE2 := Lib.hid (show r = (insideR L k t, 0) by rw [HE.out, if_pos (by rw [HBB.out]; simp [ha2, y2])])
              clear HBB HE y2
              go_wp2_with (go_at_call 44; refine (HIN.out w2 B2.out).mono ?_; rintro e w3 ⟨A', n', c', rfl, hrd, hb3⟩; have O3 := Lib.hid hrd; have K3 := Lib.hid hb3; clear hrd hb3)
              go_ret2
              exact ⟨A', n', c', by rw [HE2.out]; rfl, by rw [HE2.out]; exact O3.out, B2.out.trans (K3.out.mono B2.out.size)⟩
        · obtain rfl : f = 0 := by omega
          clear x1
          rcases Int.lt_or_le (0 + (n : Int)) sz with y1 | y1
          · have y2 : ¬ (n : Int) = sz := by omega
            cases hz2 : sl kz t with
            | true =>
              rw [hz2] at lz
              have HE2 := Lib.hid (show r = ([], 17) by rw [HE.out, if_neg (by rw [HBB.out]; simp [decide_true, hz2, y2])])
              clear HBB HE hz2 y2
              go_wp2_with fail
              go_ret2
              exact ⟨none, 0, 0, by rw [HE2.out]; rfl, by rw [HE2.out]; exact HNil.out _, B2.out⟩
            | false =>
              rw [hz2] at lz
              have HE2 := Lib.hid (show r = (insideR L k t, 0) by rw [HE.out, if_pos (by rw [HBB.out]; simp [decide_true, hz2])])
              clear HBB HE hz2 y2
              go_wp2_with (go_at_call 44; refine (HIN.out w2 B2.out).mono ?_; rintro e w3 ⟨A', n', c', rfl, hrd, hb3⟩; have O3 := Lib.hid hrd; have K3 := Lib.hid hb3; clear hrd hb3)
              go_ret2
              exact ⟨A', n', c', by rw [HE2.out]; rfl, by rw [HE2.out]; exact O3.out, B2.out.trans (K3.out.mono B2.out.size)⟩
          · have y2 : (n : Int) = sz := by omega
            have y3 : ¬ 0 + (n : Int) < sz := by omega
            have HE2 := Lib.hid (show r = (insideR L k t, 0) by rw [HE.out, if_pos (by rw [HBB.out]; simp [decide_true, y2])])
            clear HBB HE y2
            go_wp2_with (go_at_call 44; refine (HIN.out w2 B2.out).mono ?_; rintro e w3 ⟨A', n', c', rfl, hrd, hb3⟩; have O3 := Lib.hid hrd; have K3 := Lib.hid hb3; clear hrd hb3)
            go_ret2
            exact ⟨A', n', c', by rw [HE2.out]; rfl, by rw [HE2.out]; exact O3.out, B2.out.trans (K3.out.mono B2.out.size)⟩
end Go.Proofs.YtofccgkgjcnfbaaDoor

