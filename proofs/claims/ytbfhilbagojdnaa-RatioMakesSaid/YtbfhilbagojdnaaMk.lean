/-
  The law RatioMakes returns true for all ratios.
  No condition but that the limbs that came in can be read, and that the library's variable MaxLen is there.
-/
import Derived.Test.YtbfhilbagojdnaaSo
namespace Go.Proofs.Ytbfhilbagojdnaa
open Go.RowKit Wr Go.Proofs.Ytbfhilbagojdnaa.Nm
set_option linter.unusedVariables false
set_option maxRecDepth 100000

def PI (l : List Int) : List Value := l.map fun x => .int .i64 x
theorem bsP (a b c d e f g h : Int) (W : World) : (Instr.buildSlice 31 4 #[(0, .agg #[.int .i64 a, .int .i64 b]), (1, .agg #[.int .i64 c, .int .i64 d]), (2, .agg #[.int .i64 e, .int .i64 f]), (3, .agg #[.int .i64 g, .int .i64 h])]).run Try.prog W = .ok (.slice (some ⟨W.heap.size, 0, none⟩) 4 4) (W.alloc (.cells #[.int .i64 a, .int .i64 b, .int .i64 c, .int .i64 d, .int .i64 e, .int .i64 f, .int .i64 g, .int .i64 h] 29)) := by kernel_rfl
theorem gd_of (n d : Int) : Gd5 (ofR n d) := by
  unfold ofR
  split
  · exact gd_no _
  · rename_i h
    exact gd_low (by omega)
set_option maxHeartbeats 8000000 in
theorem makes_walk {A5 A6 : Option Addr} {n5 k5 n6 k6 : Nat} {lr lm : List Nat} (n m how by_ : Int) (w : World) (hM : MaxL w) (h2 : 2 < w.heap.size) (hn : -9223372036854775808 ≤ n ∧ n ≤ 9223372036854775807) (hm : -9223372036854775808 ≤ m ∧ m ≤ 9223372036854775807) (hh : -9223372036854775808 ≤ how ∧ how ≤ 9223372036854775807) (hb : -9223372036854775808 ≤ by_ ∧ by_ ≤ 9223372036854775807)
    (h5 : Sl w (.slice A5 n5 k5) lr) (h6 : Sl w (.slice A6 n6 k6) lm) (o5 : Ok lr) (o6 : Ok lm) (hl5 : n5 ≤ 9223372036854775807) (hl6 : n6 ≤ 9223372036854775807) : Calls Try.prog 3 #[.int .i64 n, .int .i64 m, .int .i64 how, .int .i64 by_, .slice A5 n5 k5, .slice A6 n6 k6] w (SmP w true) := by
  have HSm := Lib.hid (some_any (w := w) n m how by_ hn hm hh hb h5 h6 o5 o6 hl5 hl6)
  have HAn := Lib.hid (fun W => around_any n 40 W hn (by omega)); have HAm := Lib.hid (fun W => around_any m 40 W hm (by omega))
  have p1 := arI_lo n 40 (by omega); have p2 := arI_hi n 40 (by omega); have p3 := arI_lo m 40 (by omega); have p4 := arI_hi m 40 (by omega)
  obtain ⟨an, han⟩ : ∃ x, x = arI n 40 := ⟨_, rfl⟩
  obtain ⟨am, ham⟩ : ∃ x, x = arI m 40 := ⟨_, rfl⟩
  rw [← han] at HAn p1 p2
  rw [← ham] at HAm p3 p4
  have HPB := Lib.hid (show ∀ x ∈ [n, m, an, am, how, by_, by_, 1099511627776], -9223372036854775808 ≤ x ∧ x ≤ 9223372036854775807 by intro x hx; simp only [List.mem_cons, List.not_mem_nil, or_false] at hx; omega)
  have HM := Lib.hid hM; have H2 := Lib.hid h2
  clear hM h2 hn hm hh hb h5 h6 o5 o6 hl5 hl6 han ham p1 p2 p3 p4
  go_enter Try.func3, Try.ntmps3
  go_wp2_with fail
  refine HSm.out.mono ?_
  rintro e w1 ⟨v, L, rfl, hL, hR, hb⟩
  obtain ⟨A, c, vs, rfl, hc, hnil, hr, hlv, hk⟩ := hR
  have HF := Lib.hid (And.intro hr (And.intro hlv hk)); have BW := Lib.hid hb
  obtain ⟨nn, hN⟩ : ∃ a, a = L.length := ⟨_, rfl⟩
  have HN := Lib.hid hN
  rw [← hN]
  have hlI : (nn : Int) ≤ 7 := by omega
  clear hr hlv hk hb hc hnil hN hL HSm
  go_wp2_with fail
  go_loopw [14] (fun s wr => ∃ i : Nat, i ≤ nn ∧ s = .int .i64 ((i : Nat) : Int) ∧ Below w1.heap.size w1 wr) (fun s _ => nn - (intOf s).toNat)
  case atStart => exact ⟨0, Nat.zero_le _, rfl, Below.refl _ _⟩
  case round =>
    obtain ⟨i, hi, rfl, hbel⟩ := hrel
    rcases Nat.lt_or_ge i nn with hlt | hge
    · have HRI := HF.out
      obtain ⟨r, hri⟩ : ∃ r, L[i]? = some r := ⟨L[i]'(by rw [← HN.out]; exact hlt), List.getElem?_eq_getElem _⟩
      obtain ⟨⟨a, b⟩, hvi, hkr⟩ := HRI.2.2 i r hri
      obtain ⟨g, o, rfl, hgB, hcell⟩ := HRI.1 (by intro e; have h1 := flat_len vs; rw [e] at h1; have h2 := HRI.2.1; have h3 := HN.out; simp at h1; omega)
      obtain ⟨f1, f2⟩ := flat_at vs i _ hvi
      have c1 := (hbel.cell (p := ⟨g, o + i * 2, none⟩) hgB).trans (hcell _ _ f1)
      have c2 := (hbel.cell (p := ⟨g, o + i * 2 + 1, none⟩) hgB).trans (hcell _ _ f2)
      obtain ⟨A1, n1, k1, e1⟩ := sl_form hkr.s1
      obtain ⟨A2, n2, k2, e2⟩ := sl_form hkr.s2
      dsimp only at e1 e2 c1 c2 hkr
      subst e1 e2
      have KR := Lib.hid (hkr.below hbel)
      have hiI : (i : Int) < (nn : Int) := by omega
      have HIN := Lib.hid (show i + 1 ≤ nn by omega)
      clear hri hvi hkr hcell f1 f2 HRI hi hlt
      go_upto_region 5 with (fail)
      refine wp_region_held (S := fun W => W.cell? ⟨g, o + i * 2, none⟩ = some (.slice A1 n1 k1) ∧ W.cell? ⟨g, o + i * 2 + 1, none⟩ = some (.slice A2 n2 k2)) (by kernel_rfl) ?_
      change wpAnyH _ _ _ _ _ _ _ _ (World.drew wr)
      have hs0 : (World.drew wr).cell? ⟨g, o + i * 2, none⟩ = some (.slice A1 n1 k1) ∧ (World.drew wr).cell? ⟨g, o + i * 2 + 1, none⟩ = some (.slice A2 n2 k2) := ⟨c1, c2⟩
      have k0 : Hid (Below w1.heap.size w1 (World.drew wr)) := Lib.hid (below_drewN hbel 1)
      have Ka : Hid (Rk (World.drew wr) (.slice A1 n1 k1) (.slice A2 n2 k2) r) := Lib.hid (KR.out.below (below_drewN (Below.refl _ _) 1))
      have L0 : Hid (g < (World.drew wr).heap.size) := Lib.hid (show g < wr.heap.size by have := hbel.size; omega)
      clear c1 c2 hbel KR
      generalize World.drew wr = Wd at hs0 k0 Ka L0 ⊢
      refine wpAnyH_take (i := 0) (oi := { dst := some 34, op := Op.move (Operand.tmp 13), type := 23, pos := "law.go:57", after := #[], guard := none }) (v := .slice (some ⟨g, o, none⟩) nn c) rfl (by kernel_rfl) (by kernel_rfl) (by kernel_rfl) (fun _ _ _ h => h) (Or.inl ⟨by rfl, fun W hW => ?y1⟩) hs0 ?_
      case y1 => go_simp
      try dsimp only [Act.put]
      try simp only [List.setIfInBounds_toArray, List.set_cons_zero, List.set_cons_succ]
      refine wpAnyH_take (i := 1) (oi := { dst := some 35, op := Op.move (Operand.tmp 14), type := 3, pos := "law.go:57", after := #[], guard := none }) (v := .int .i64 ((i : Nat) : Int)) rfl (by kernel_rfl) (by kernel_rfl) (by kernel_rfl) (fun _ _ _ h => h) (Or.inl ⟨by rfl, fun W hW => ?y2⟩) hs0 ?_
      case y2 => go_simp
      try dsimp only [Act.put]
      try simp only [List.setIfInBounds_toArray, List.set_cons_zero, List.set_cons_succ]
      refine wpAnyH_take (i := 2) (oi := { dst := some 36, op := Op.indexAddr 23 (Operand.tmp 34) (Operand.tmp 35), type := 0, pos := "law.go:57", after := #[{ on := 0, ground := Ground.data }, { on := 1, ground := Ground.data }], guard := none }) (v := .pointer (some ⟨g, o + i * 2, none⟩)) rfl (by kernel_rfl) (by kernel_rfl) (by kernel_rfl) (fun _ _ _ h => h) (Or.inl ⟨by rfl, fun W hW => ?y3⟩) hs0 ?_
      case y3 => go_simp
      try dsimp only [Act.put]
      try simp only [List.setIfInBounds_toArray, List.set_cons_zero, List.set_cons_succ]
      refine wpAnyH_take (i := 3) (oi := { dst := some 37, op := Op.load 28 (Operand.tmp 36), type := 28, pos := "law.go:57", after := #[{ on := 2, ground := Ground.data }], guard := none }) (v := .agg #[.slice A1 n1 k1, .slice A2 n2 k2]) rfl (by kernel_rfl) (by kernel_rfl) (by kernel_rfl) (fun _ _ _ h => h) (Or.inl ⟨by rfl, fun W hW => by have hc1 := hW.1; have hc2 := hW.2; go_simp⟩) hs0 ?_
      try dsimp only [Act.put]
      try simp only [List.setIfInBounds_toArray, List.set_cons_zero, List.set_cons_succ]
      refine wpAnyH_take (i := 5) (oi := { dst := some 39, op := Op.move (Operand.tmp 13), type := 23, pos := "law.go:57", after := #[], guard := none }) (v := .slice (some ⟨g, o, none⟩) nn c) rfl (by kernel_rfl) (by kernel_rfl) (by kernel_rfl) (fun _ _ _ h => h) (Or.inl ⟨by rfl, fun W hW => ?y5⟩) hs0 ?_
      case y5 => go_simp
      try dsimp only [Act.put]
      try simp only [List.setIfInBounds_toArray, List.set_cons_zero, List.set_cons_succ]
      refine wpAnyH_take (i := 6) (oi := { dst := some 40, op := Op.move (Operand.tmp 14), type := 3, pos := "law.go:57", after := #[], guard := none }) (v := .int .i64 ((i : Nat) : Int)) rfl (by kernel_rfl) (by kernel_rfl) (by kernel_rfl) (fun _ _ _ h => h) (Or.inl ⟨by rfl, fun W hW => ?y6⟩) hs0 ?_
      case y6 => go_simp
      try dsimp only [Act.put]
      try simp only [List.setIfInBounds_toArray, List.set_cons_zero, List.set_cons_succ]
      refine wpAnyH_take (i := 7) (oi := { dst := some 41, op := Op.indexAddr 23 (Operand.tmp 39) (Operand.tmp 40), type := 0, pos := "law.go:57", after := #[{ on := 5, ground := Ground.data }, { on := 6, ground := Ground.data }], guard := none }) (v := .pointer (some ⟨g, o + i * 2, none⟩)) rfl (by kernel_rfl) (by kernel_rfl) (by kernel_rfl) (fun _ _ _ h => h) (Or.inl ⟨by rfl, fun W hW => ?y7⟩) hs0 ?_
      case y7 => go_simp
      try dsimp only [Act.put]
      try simp only [List.setIfInBounds_toArray, List.set_cons_zero, List.set_cons_succ]
      refine wpAnyH_take (i := 8) (oi := { dst := some 42, op := Op.load 28 (Operand.tmp 41), type := 28, pos := "law.go:57", after := #[{ on := 7, ground := Ground.data }], guard := none }) (v := .agg #[.slice A1 n1 k1, .slice A2 n2 k2]) rfl (by kernel_rfl) (by kernel_rfl) (by kernel_rfl) (fun _ _ _ h => h) (Or.inl ⟨by rfl, fun W hW => by have hc1 := hW.1; have hc2 := hW.2; go_simp⟩) hs0 ?_
      try dsimp only [Act.put]
      try simp only [List.setIfInBounds_toArray, List.set_cons_zero, List.set_cons_succ]
      refine wpAnyH_ready (rs := [4]) (by kernel_rfl) (by simp) ?_
      refine AllReadyH.cons (o := { dst := some 38, op := Op.call { callee := Callee.value (Operand.func 8), args := #[Operand.tmp 37], argTypes := #[28] }, type := 25, pos := "law.go:57", after := #[{ on := 3, ground := Ground.data }], guard := none }) rfl (fun K hK => ?_) AllReadyH.nil
      rw [if_pos (by rfl)]
      go_simp
      refine (Rk.valid Ka.out).mono ?_
      rintro e w9 ⟨rfl, hb⟩
      have hs11 := And.intro ((hb.cell (p := ⟨g, o + i * 2, none⟩) L0.out).trans hs0.1) ((hb.cell (p := ⟨g, o + i * 2 + 1, none⟩) L0.out).trans hs0.2)
      have k10 := Lib.hid (below_step k0.out hb); have K12 := Lib.hid (Ka.out.below hb); have L13 := Lib.hid (Nat.lt_of_lt_of_le L0.out hb.size)
      clear hb
      go_wp2_with fail
      refine hK.out _ _ hs11 (fun _ => ?_)
      clear hK K
      try dsimp only [Act.put]
      try simp only [List.setIfInBounds_toArray, List.set_cons_zero, List.set_cons_succ]
      refine wpAnyH_ready (rs := [9]) (by kernel_rfl) (by simp) ?_
      refine AllReadyH.cons (o := { dst := some 43, op := Op.call { callee := Callee.value (Operand.func 9), args := #[Operand.tmp 42], argTypes := #[28] }, type := 25, pos := "law.go:57", after := #[{ on := 8, ground := Ground.data }, { on := 4, ground := Ground.chain }], guard := none }) rfl (fun K hK => ?_) AllReadyH.nil
      rw [if_pos (by rfl)]
      go_simp
      refine (Rk.rvalid K12.out).mono ?_
      rintro e w14 ⟨rfl, hb⟩
      have hs16 := And.intro ((hb.cell (p := ⟨g, o + i * 2, none⟩) L13.out).trans hs11.1) ((hb.cell (p := ⟨g, o + i * 2 + 1, none⟩) L13.out).trans hs11.2)
      have k15 := Lib.hid (below_step k10.out hb); have K17 := Lib.hid (K12.out.below hb); have L18 := Lib.hid (Nat.lt_of_lt_of_le L13.out hb.size)
      clear hb
      go_wp2_with fail
      refine hK.out _ _ hs16 (fun _ => ?_)
      clear hK K
      try dsimp only [Act.put]
      try simp only [List.setIfInBounds_toArray, List.set_cons_zero, List.set_cons_succ]
      refine wpAnyH_take (i := 10) (oi := { dst := some 44, op := Op.binOp BinOp.neq 25 (Operand.tmp 38) (Operand.tmp 43) 25, type := 4, pos := "law.go:57", after := #[{ on := 4, ground := Ground.data }, { on := 9, ground := Ground.data }], guard := none }) (v := .bool false) rfl (by kernel_rfl) (by kernel_rfl) (by kernel_rfl) (fun _ _ _ h => h) (Or.inl ⟨by rfl, fun W hW => ?y19⟩) hs16 ?_
      case y19 => go_simp
      try dsimp only [Act.put]
      try simp only [List.setIfInBounds_toArray, List.set_cons_zero, List.set_cons_succ]
      refine wpAnyH_done (by kernel_rfl) ?_ _
      try dsimp only [Act.put]
      try simp only [List.setIfInBounds_toArray, List.set_cons_zero, List.set_cons_succ]
      go_wp2_with fail
      go_roundw
      case rel => exact ⟨i + 1, HIN.out, by simp, k15.out⟩
      case measure => simp only [intOf]; omega
    · have hin : i = nn := by omega
      subst hin
      have B1 := Lib.hid (below_step BW.out hbel)
      clear hbel hi hge HF HN BW
      have hbs := bsP n m an am how by_ by_ 1099511627776 wr
      go_upto_region 8 with (go_at_call 10; first | ((with_reducible refine (HAn.out _).mono ?_); rintro e w' ⟨rfl, rfl⟩) | ((with_reducible refine (HAm.out _).mono ?_); rintro e w' ⟨rfl, rfl⟩))
      clear hbs HAn HAm
      have HP := Lib.hid (Blk.new wr 29 (PI [n, m, an, am, how, by_, by_, 1099511627776]))
      have B2 := Lib.hid (B1.out.alloc B1.out.size (.cells (PI [n, m, an, am, how, by_, by_, 1099511627776]).toArray 29))
      change _
      obtain ⟨W3, hW3⟩ : ∃ W, wr.alloc (.cells #[.int .i64 n, .int .i64 m, .int .i64 an, .int .i64 am, .int .i64 how, .int .i64 by_, .int .i64 by_, .int .i64 1099511627776] 29) = W := ⟨_, rfl⟩
      have e3 : wr.alloc (.cells (PI [n, m, an, am, how, by_, by_, 1099511627776]).toArray 29) = W3 := hW3
      rw [e3] at HP B2
      rw [hW3]
      obtain ⟨g3, hg3⟩ : ∃ g, wr.heap.size = g := ⟨_, rfl⟩
      rw [hg3] at HP ⊢
      obtain ⟨PC, hPC⟩ : ∃ l, l = PI [n, m, an, am, how, by_, by_, 1099511627776] := ⟨_, rfl⟩
      have HPC := Lib.hid hPC
      rw [← hPC] at HP
      obtain ⟨PL, hPL⟩ : ∃ l, l = [n, m, an, am, how, by_, by_, 1099511627776] := ⟨_, rfl⟩
      rw [← hPL] at HPC HPB
      have HLN := Lib.hid (show PL.length = 8 by rw [hPL]; rfl)
      clear hW3 e3 hg3 hPC hPL B1
      go_wp2_with fail
      go_loopw [16] (fun s wr => ∃ i : Nat, i ≤ 4 ∧ s = .int .i64 ((i : Nat) : Int) ∧ Blk wr g3 29 PC ∧ Below w.heap.size w wr) (fun s _ => 4 - (intOf s).toNat)
      case atStart => exact ⟨0, Nat.zero_le _, rfl, HP.out, B2.out⟩
      case round =>
        clear HP B2
        obtain ⟨i, hi, rfl, hp, hbel⟩ := hrel
        have HP := Lib.hid hp; have B3 := Lib.hid hbel
        clear hp hbel
        rcases Nat.lt_or_ge i 4 with hlt | hge
        · have hiI : (i : Int) < 4 := by omega
          obtain ⟨a, ha⟩ : ∃ a, PL[i * 2]? = some a := ⟨PL[i * 2]'(by rw [HLN.out]; omega), List.getElem?_eq_getElem _⟩
          obtain ⟨b, hb⟩ : ∃ a, PL[i * 2 + 1]? = some a := ⟨PL[i * 2 + 1]'(by rw [HLN.out]; omega), List.getElem?_eq_getElem _⟩
          have HCA := Lib.hid (show PC[i * 2]? = some (.int .i64 a) by rw [HPC.out]; unfold PI; rw [List.getElem?_map, ha]; rfl)
          have HCB := Lib.hid (show PC[i * 2 + 1]? = some (.int .i64 b) by rw [HPC.out]; unfold PI; rw [List.getElem?_map, hb]; rfl)
          have hab := HPB.out a (List.mem_of_getElem? ha); have hbb := HPB.out b (List.mem_of_getElem? hb)
          obtain ⟨R, E, hRE⟩ : ∃ r e, ofR a b = (r, e) := ⟨_, _, rfl⟩
          have HGD := Lib.hid (show Gd5 (R, E) by rw [← hRE]; exact gd_of a b)
          have HO := Lib.hid (fun W => show Calls Try.prog 11 #[.int .i64 a, .int .i64 b] W (fun e w' => ∃ v, e = .returned (.tuple #[v, .int .i64 ((E : Nat) : Int)]) ∧ Rv w' v R ∧ Below W.heap.size W w') by have h := of_any a b W hab hbb; rw [hRE] at h; exact h)
          have HQ := Lib.hid (fun W => show Calls Try.prog 12 #[.int .i64 a, .int .i64 b] W (fun e w' => ∃ v, e = .returned (.tuple #[v, .int .i64 ((E : Nat) : Int)]) ∧ Rv w' v R ∧ Below W.heap.size W w') by have h := rof_any a b W hab hbb; rw [hRE] at h; exact h)
          have HIN := Lib.hid (show i + 1 ≤ 4 by omega)
          clear ha hb hab hbb hRE hi hlt
          go_upto_region 11 with (fail)
          go_cut [17, 18] from 65 to 101 (fun s17 s18 wx => ∃ gn C1 m3 j3 C2 m4 j4, s17 = .pointer (some ⟨gn, 0, none⟩) ∧ s18 = .int .i64 ((E : Nat) : Int) ∧ Hid (Blk wx g3 29 PC ∧ Bx wx gn C1 m3 j3 C2 m4 j4 R ∧ Below w.heap.size w wx))
          case first =>
            refine wp_region_held (S := fun W => Blk W g3 29 PC) (by kernel_rfl) ?_
            change wpAnyH _ _ _ _ _ _ _ _ (World.drew wr)
            have hs0 : Blk (World.drew wr) g3 29 PC := HP.out
            have k0 : Hid (Below w.heap.size w (World.drew wr)) := Lib.hid (below_drewN B3.out 1)
            generalize World.drew wr = Wd at hs0 k0 ⊢
            refine wpAnyH_take (i := 0) (oi := { dst := some 66, op := Op.move (Operand.tmp 15), type := 31, pos := "law.go:63", after := #[], guard := none }) (v := .slice (some ⟨g3, 0, none⟩) 4 4) rfl (by kernel_rfl) (by kernel_rfl) (by kernel_rfl) (fun _ _ _ h => h) (Or.inl ⟨by rfl, fun W hW => ?y1⟩) hs0 ?_
            case y1 => go_simp
            try dsimp only [Act.put]
            try simp only [List.setIfInBounds_toArray, List.set_cons_zero, List.set_cons_succ]
            refine wpAnyH_take (i := 1) (oi := { dst := some 67, op := Op.move (Operand.tmp 16), type := 3, pos := "law.go:63", after := #[], guard := none }) (v := .int .i64 ((i : Nat) : Int)) rfl (by kernel_rfl) (by kernel_rfl) (by kernel_rfl) (fun _ _ _ h => h) (Or.inl ⟨by rfl, fun W hW => ?y2⟩) hs0 ?_
            case y2 => go_simp
            try dsimp only [Act.put]
            try simp only [List.setIfInBounds_toArray, List.set_cons_zero, List.set_cons_succ]
            refine wpAnyH_take (i := 2) (oi := { dst := some 68, op := Op.indexAddr 31 (Operand.tmp 66) (Operand.tmp 67), type := 0, pos := "law.go:63", after := #[{ on := 0, ground := Ground.data }, { on := 1, ground := Ground.data }], guard := none }) (v := .pointer (some ⟨g3, i * 2, none⟩)) rfl (by kernel_rfl) (by kernel_rfl) (by kernel_rfl) (fun _ _ _ h => h) (Or.inl ⟨by rfl, fun W hW => ?y3⟩) hs0 ?_
            case y3 => go_simp
            try dsimp only [Act.put]
            try simp only [List.setIfInBounds_toArray, List.set_cons_zero, List.set_cons_succ]
            refine wpAnyH_take (i := 3) (oi := { dst := some 69, op := Op.indexAddr 29 (Operand.tmp 68) (Operand.const (Value.int IntKind.i64 0)), type := 0, pos := "law.go:63", after := #[{ on := 2, ground := Ground.data }], guard := none }) (v := .pointer (some ⟨g3, i * 2, none⟩)) rfl (by kernel_rfl) (by kernel_rfl) (by kernel_rfl) (fun _ _ _ h => h) (Or.inl ⟨by rfl, fun W hW => ?y4⟩) hs0 ?_
            case y4 => go_simp
            try dsimp only [Act.put]
            try simp only [List.setIfInBounds_toArray, List.set_cons_zero, List.set_cons_succ]
            refine wpAnyH_take (i := 4) (oi := { dst := some 70, op := Op.load 3 (Operand.tmp 69), type := 3, pos := "law.go:63", after := #[{ on := 3, ground := Ground.data }], guard := none }) (v := .int .i64 a) rfl (by kernel_rfl) (by kernel_rfl) (by kernel_rfl) (fun _ _ _ h => h) (Or.inl ⟨by rfl, fun W hW => by have hcl : W.cell? ⟨g3, i * 2, none⟩ = some (.int .i64 a) := (Blk.cell hW _).trans HCA.out; go_simp⟩) hs0 ?_
            try dsimp only [Act.put]
            try simp only [List.setIfInBounds_toArray, List.set_cons_zero, List.set_cons_succ]
            refine wpAnyH_take (i := 5) (oi := { dst := some 71, op := Op.move (Operand.tmp 15), type := 31, pos := "law.go:63", after := #[], guard := none }) (v := .slice (some ⟨g3, 0, none⟩) 4 4) rfl (by kernel_rfl) (by kernel_rfl) (by kernel_rfl) (fun _ _ _ h => h) (Or.inl ⟨by rfl, fun W hW => ?y6⟩) hs0 ?_
            case y6 => go_simp
            try dsimp only [Act.put]
            try simp only [List.setIfInBounds_toArray, List.set_cons_zero, List.set_cons_succ]
            refine wpAnyH_take (i := 6) (oi := { dst := some 72, op := Op.move (Operand.tmp 16), type := 3, pos := "law.go:63", after := #[], guard := none }) (v := .int .i64 ((i : Nat) : Int)) rfl (by kernel_rfl) (by kernel_rfl) (by kernel_rfl) (fun _ _ _ h => h) (Or.inl ⟨by rfl, fun W hW => ?y7⟩) hs0 ?_
            case y7 => go_simp
            try dsimp only [Act.put]
            try simp only [List.setIfInBounds_toArray, List.set_cons_zero, List.set_cons_succ]
            refine wpAnyH_take (i := 7) (oi := { dst := some 73, op := Op.indexAddr 31 (Operand.tmp 71) (Operand.tmp 72), type := 0, pos := "law.go:63", after := #[{ on := 5, ground := Ground.data }, { on := 6, ground := Ground.data }], guard := none }) (v := .pointer (some ⟨g3, i * 2, none⟩)) rfl (by kernel_rfl) (by kernel_rfl) (by kernel_rfl) (fun _ _ _ h => h) (Or.inl ⟨by rfl, fun W hW => ?y8⟩) hs0 ?_
            case y8 => go_simp
            try dsimp only [Act.put]
            try simp only [List.setIfInBounds_toArray, List.set_cons_zero, List.set_cons_succ]
            refine wpAnyH_take (i := 8) (oi := { dst := some 74, op := Op.indexAddr 29 (Operand.tmp 73) (Operand.const (Value.int IntKind.i64 1)), type := 0, pos := "law.go:63", after := #[{ on := 7, ground := Ground.data }], guard := none }) (v := .pointer (some ⟨g3, i * 2 + 1, none⟩)) rfl (by kernel_rfl) (by kernel_rfl) (by kernel_rfl) (fun _ _ _ h => h) (Or.inl ⟨by rfl, fun W hW => ?y9⟩) hs0 ?_
            case y9 => go_simp
            try dsimp only [Act.put]
            try simp only [List.setIfInBounds_toArray, List.set_cons_zero, List.set_cons_succ]
            refine wpAnyH_take (i := 9) (oi := { dst := some 75, op := Op.load 3 (Operand.tmp 74), type := 3, pos := "law.go:63", after := #[{ on := 8, ground := Ground.data }], guard := none }) (v := .int .i64 b) rfl (by kernel_rfl) (by kernel_rfl) (by kernel_rfl) (fun _ _ _ h => h) (Or.inl ⟨by rfl, fun W hW => by have hcl : W.cell? ⟨g3, i * 2 + 1, none⟩ = some (.int .i64 b) := (Blk.cell hW _).trans HCB.out; go_simp⟩) hs0 ?_
            try dsimp only [Act.put]
            try simp only [List.setIfInBounds_toArray, List.set_cons_zero, List.set_cons_succ]
            refine wpAnyH_ready (rs := [10, 14]) (by kernel_rfl) (by simp) ?_
            refine AllReadyH.cons (o := { dst := some 76, op := Op.call { callee := Callee.value (Operand.func 11), args := #[Operand.tmp 70, Operand.tmp 75], argTypes := #[3, 3] }, type := 32, pos := "law.go:63", after := #[{ on := 4, ground := Ground.data }, { on := 9, ground := Ground.data }], guard := none }) rfl (fun K hK => ?_) (AllReadyH.cons (o := { dst := some 17, op := Op.alloc 28, type := 0, pos := "law.go:63", after := #[], guard := none }) rfl (fun K hK => ?_) AllReadyH.nil)
            · rw [if_pos (by rfl)]
              go_simp
              refine (HO.out _).mono ?_
              rintro e w11 ⟨v, rfl, hrv, hb⟩
              obtain ⟨u1, u2, rfl, hk⟩ := gd_rk (X := (R, E)) hrv HGD.out
              have k19 := Lib.hid (below_step k0.out hb)
              have hs20 := hs0.below hb hs0.lt
              obtain ⟨C12, m13, j14, e1⟩ := sl_form hk.s1
              obtain ⟨D15, p16, q17, e2⟩ := sl_form hk.s2
              subst e1 e2
              have KR18 := Lib.hid hk
              clear hk hb hrv
              go_wp2_with fail
              refine hK.out _ _ hs20 (fun _ => ?_)
              clear hK K
              try dsimp only [Act.put]
              try simp only [List.setIfInBounds_toArray, List.set_cons_zero, List.set_cons_succ]
              refine wpAnyH_take (i := 11) (oi := { dst := some 65, op := Op.move (Operand.tmp 76), type := 32, pos := "law.go:63", after := #[{ on := 10, ground := Ground.data }], guard := none }) (v := .tuple #[.agg #[.slice C12 m13 j14, .slice D15 p16 q17], .int .i64 ((E : Nat) : Int)]) rfl (by kernel_rfl) (by kernel_rfl) (by kernel_rfl) (fun _ _ _ h => h) (Or.inl ⟨by rfl, fun W hW => ?y21⟩) hs20 ?_
              case y21 => go_simp
              try dsimp only [Act.put]
              try simp only [List.setIfInBounds_toArray, List.set_cons_zero, List.set_cons_succ]
              refine wpAnyH_take (i := 12) (oi := { dst := some 77, op := Op.extract (Operand.tmp 65) 0, type := 28, pos := "law.go:63", after := #[{ on := 11, ground := Ground.data }], guard := none }) (v := .agg #[.slice C12 m13 j14, .slice D15 p16 q17]) rfl (by kernel_rfl) (by kernel_rfl) (by kernel_rfl) (fun _ _ _ h => h) (Or.inl ⟨by rfl, fun W hW => ?y22⟩) hs20 ?_
              case y22 => go_simp
              try dsimp only [Act.put]
              try simp only [List.setIfInBounds_toArray, List.set_cons_zero, List.set_cons_succ]
              refine wpAnyH_take (i := 13) (oi := { dst := some 78, op := Op.extract (Operand.tmp 65) 1, type := 25, pos := "law.go:63", after := #[{ on := 11, ground := Ground.data }, { on := 15, ground := Ground.gcOnly Departure.lateStores }], guard := none }) (v := .int .i64 ((E : Nat) : Int)) rfl (by kernel_rfl) (by kernel_rfl) (by kernel_rfl) (fun _ _ _ h => h) (Or.inl ⟨by rfl, fun W hW => ?y23⟩) hs20 ?_
              case y23 => go_simp
              try dsimp only [Act.put]
              try simp only [List.setIfInBounds_toArray, List.set_cons_zero, List.set_cons_succ]
              refine wpAnyH_ready (rs := [14]) (by kernel_rfl) (by simp) ?_
              refine AllReadyH.cons (o := { dst := some 17, op := Op.alloc 28, type := 0, pos := "law.go:63", after := #[], guard := none }) rfl (fun K hK => ?_) AllReadyH.nil
              rw [if_pos (by rfl)]
              go_simp
              have hbt := bel0 w11
              have k27 := Lib.hid (below_step k19.out hbt)
              have hs28 := hs20.below hbt hs20.lt
              have KR29 := Lib.hid (KR18.out.below hbt)
              have N25 := Lib.hid (Bx.new (rk_none w11))
              have LP30 := Lib.hid (show g3 < w11.heap.size from hs20.lt)
              have LB31 := Lib.hid (show w.heap.size ≤ w11.heap.size from k19.out.size)
              clear hbt
              obtain ⟨u24, hW⟩ : ∃ W', w11.alloc (.cells #[.slice none 0 0, .slice none 0 0] 28) = W' := ⟨_, rfl⟩
              rw [hW] at k27 hs28 N25 KR29 ⊢
              clear hW
              obtain ⟨gn26, hg⟩ : ∃ g, w11.heap.size = g := ⟨_, rfl⟩
              rw [hg] at N25 LP30 LB31 ⊢
              clear hg
              refine hK.out _ _ hs28 (fun _ => ?_)
              clear hK K
              try dsimp only [Act.put]
              try simp only [List.setIfInBounds_toArray, List.set_cons_zero, List.set_cons_succ]
              refine wpAnyH_ready (rs := [15]) (by kernel_rfl) (by simp) ?_
              refine AllReadyH.cons (o := { dst := none, op := Op.store 28 (Operand.tmp 17) (Operand.tmp 77), type := 0, pos := "law.go:63", after := #[{ on := 14, ground := Ground.data }, { on := 12, ground := Ground.data }, { on := 10, ground := Ground.chain }, { on := 0, ground := Ground.phase }, { on := 1, ground := Ground.phase }, { on := 2, ground := Ground.phase }, { on := 3, ground := Ground.phase }, { on := 4, ground := Ground.phase }, { on := 5, ground := Ground.phase }, { on := 6, ground := Ground.phase }, { on := 7, ground := Ground.phase }, { on := 8, ground := Ground.phase }, { on := 9, ground := Ground.phase }, { on := 10, ground := Ground.phase }, { on := 11, ground := Ground.phase }, { on := 12, ground := Ground.phase }, { on := 13, ground := Ground.textOnly Departure.lateStores }, { on := 14, ground := Ground.phase }], guard := none }) rfl (fun K hK => ?_) AllReadyH.nil
              rw [if_pos (by rfl)]
              obtain ⟨hc1, hc2, hf1, hf2⟩ := blk_cells2 N25.out.b
              go_simp
              refine hK.out _ _ ((hs28.far (p := ⟨gn26, 0, none⟩) (by have := LP30.out; show _ ≠ gn26; omega) _).far (p := ⟨gn26, 1, none⟩) (by have := LP30.out; show _ ≠ gn26; omega) _) (fun _ => ?_)
              clear hK K
              try dsimp only [Act.put]
              try simp only [List.setIfInBounds_toArray, List.set_cons_zero, List.set_cons_succ]
              refine wpAnyH_take (i := 16) (oi := { dst := some 18, op := Op.assign (Operand.tmp 78), type := 25, pos := "law.go:63", after := #[{ on := 13, ground := Ground.data }, { on := 15, ground := Ground.chain }, { on := 0, ground := Ground.phase }, { on := 1, ground := Ground.phase }, { on := 2, ground := Ground.phase }, { on := 3, ground := Ground.phase }, { on := 4, ground := Ground.phase }, { on := 5, ground := Ground.phase }, { on := 6, ground := Ground.phase }, { on := 7, ground := Ground.phase }, { on := 8, ground := Ground.phase }, { on := 9, ground := Ground.phase }, { on := 10, ground := Ground.phase }, { on := 11, ground := Ground.phase }, { on := 12, ground := Ground.phase }, { on := 13, ground := Ground.phase }, { on := 14, ground := Ground.phase }, { on := 15, ground := Ground.phase }], guard := none }) (v := .int .i64 ((E : Nat) : Int)) rfl (by kernel_rfl) (by kernel_rfl) (by kernel_rfl) (fun _ _ _ h => h) (Or.inl ⟨by rfl, fun W hW => ?y32⟩) ((hs28.far (p := ⟨gn26, 0, none⟩) (by have := LP30.out; show _ ≠ gn26; omega) _).far (p := ⟨gn26, 1, none⟩) (by have := LP30.out; show _ ≠ gn26; omega) _) ?_
              case y32 => go_simp
              try dsimp only [Act.put]
              try simp only [List.setIfInBounds_toArray, List.set_cons_zero, List.set_cons_succ]
              refine wpAnyH_done (by kernel_rfl) ?_ _
              try dsimp only [Act.put]
              try simp only [List.setIfInBounds_toArray, List.set_cons_zero, List.set_cons_succ]
              go_wp2_with fail
              go_meet
              exact ⟨gn26, C12, m13, j14, D15, p16, q17, rfl, rfl, Lib.hid ⟨((hs28.far (p := ⟨gn26, 0, none⟩) (by have := LP30.out; show _ ≠ gn26; omega) _).far (p := ⟨gn26, 1, none⟩) (by have := LP30.out; show _ ≠ gn26; omega) _), N25.out.put KR29.out, below_put k27.out LB31.out (.slice C12 m13 j14) (.slice D15 p16 q17)⟩⟩
            · rw [if_pos (by rfl)]
              go_simp
              have hbt := bel0 Wd
              have k36 := Lib.hid (below_step k0.out hbt)
              have hs37 := hs0.below hbt hs0.lt
              have N34 := Lib.hid (Bx.new (rk_none Wd))
              have LP38 := Lib.hid (show g3 < Wd.heap.size from hs0.lt)
              have LB39 := Lib.hid (show w.heap.size ≤ Wd.heap.size from k0.out.size)
              clear hbt
              obtain ⟨u33, hW⟩ : ∃ W', Wd.alloc (.cells #[.slice none 0 0, .slice none 0 0] 28) = W' := ⟨_, rfl⟩
              rw [hW] at k36 hs37 N34 ⊢
              clear hW
              obtain ⟨gn35, hg⟩ : ∃ g, Wd.heap.size = g := ⟨_, rfl⟩
              rw [hg] at N34 LP38 LB39 ⊢
              clear hg
              refine hK.out _ _ hs37 (fun _ => ?_)
              clear hK K
              try dsimp only [Act.put]
              try simp only [List.setIfInBounds_toArray, List.set_cons_zero, List.set_cons_succ]
              refine wpAnyH_ready (rs := [10]) (by kernel_rfl) (by simp) ?_
              refine AllReadyH.cons (o := { dst := some 76, op := Op.call { callee := Callee.value (Operand.func 11), args := #[Operand.tmp 70, Operand.tmp 75], argTypes := #[3, 3] }, type := 32, pos := "law.go:63", after := #[{ on := 4, ground := Ground.data }, { on := 9, ground := Ground.data }], guard := none }) rfl (fun K hK => ?_) AllReadyH.nil
              rw [if_pos (by rfl)]
              go_simp
              refine (HO.out _).mono ?_
              rintro e w40 ⟨v, rfl, hrv, hb⟩
              obtain ⟨u1, u2, rfl, hk⟩ := gd_rk (X := (R, E)) hrv HGD.out
              have k48 := Lib.hid (below_step k36.out hb)
              have hs49 := hs37.below hb hs37.lt
              have N50 := Lib.hid (N34.out.below hb)
              obtain ⟨C41, m42, j43, e1⟩ := sl_form hk.s1
              obtain ⟨D44, p45, q46, e2⟩ := sl_form hk.s2
              subst e1 e2
              have KR47 := Lib.hid hk
              clear hk hb hrv
              go_wp2_with fail
              refine hK.out _ _ hs49 (fun _ => ?_)
              clear hK K
              try dsimp only [Act.put]
              try simp only [List.setIfInBounds_toArray, List.set_cons_zero, List.set_cons_succ]
              refine wpAnyH_take (i := 11) (oi := { dst := some 65, op := Op.move (Operand.tmp 76), type := 32, pos := "law.go:63", after := #[{ on := 10, ground := Ground.data }], guard := none }) (v := .tuple #[.agg #[.slice C41 m42 j43, .slice D44 p45 q46], .int .i64 ((E : Nat) : Int)]) rfl (by kernel_rfl) (by kernel_rfl) (by kernel_rfl) (fun _ _ _ h => h) (Or.inl ⟨by rfl, fun W hW => ?y51⟩) hs49 ?_
              case y51 => go_simp
              try dsimp only [Act.put]
              try simp only [List.setIfInBounds_toArray, List.set_cons_zero, List.set_cons_succ]
              refine wpAnyH_take (i := 12) (oi := { dst := some 77, op := Op.extract (Operand.tmp 65) 0, type := 28, pos := "law.go:63", after := #[{ on := 11, ground := Ground.data }], guard := none }) (v := .agg #[.slice C41 m42 j43, .slice D44 p45 q46]) rfl (by kernel_rfl) (by kernel_rfl) (by kernel_rfl) (fun _ _ _ h => h) (Or.inl ⟨by rfl, fun W hW => ?y52⟩) hs49 ?_
              case y52 => go_simp
              try dsimp only [Act.put]
              try simp only [List.setIfInBounds_toArray, List.set_cons_zero, List.set_cons_succ]
              refine wpAnyH_take (i := 13) (oi := { dst := some 78, op := Op.extract (Operand.tmp 65) 1, type := 25, pos := "law.go:63", after := #[{ on := 11, ground := Ground.data }, { on := 15, ground := Ground.gcOnly Departure.lateStores }], guard := none }) (v := .int .i64 ((E : Nat) : Int)) rfl (by kernel_rfl) (by kernel_rfl) (by kernel_rfl) (fun _ _ _ h => h) (Or.inl ⟨by rfl, fun W hW => ?y53⟩) hs49 ?_
              case y53 => go_simp
              try dsimp only [Act.put]
              try simp only [List.setIfInBounds_toArray, List.set_cons_zero, List.set_cons_succ]
              refine wpAnyH_ready (rs := [15]) (by kernel_rfl) (by simp) ?_
              refine AllReadyH.cons (o := { dst := none, op := Op.store 28 (Operand.tmp 17) (Operand.tmp 77), type := 0, pos := "law.go:63", after := #[{ on := 14, ground := Ground.data }, { on := 12, ground := Ground.data }, { on := 10, ground := Ground.chain }, { on := 0, ground := Ground.phase }, { on := 1, ground := Ground.phase }, { on := 2, ground := Ground.phase }, { on := 3, ground := Ground.phase }, { on := 4, ground := Ground.phase }, { on := 5, ground := Ground.phase }, { on := 6, ground := Ground.phase }, { on := 7, ground := Ground.phase }, { on := 8, ground := Ground.phase }, { on := 9, ground := Ground.phase }, { on := 10, ground := Ground.phase }, { on := 11, ground := Ground.phase }, { on := 12, ground := Ground.phase }, { on := 13, ground := Ground.textOnly Departure.lateStores }, { on := 14, ground := Ground.phase }], guard := none }) rfl (fun K hK => ?_) AllReadyH.nil
              rw [if_pos (by rfl)]
              obtain ⟨hc1, hc2, hf1, hf2⟩ := blk_cells2 N50.out.b
              go_simp
              refine hK.out _ _ ((hs49.far (p := ⟨gn35, 0, none⟩) (by have := LP38.out; show _ ≠ gn35; omega) _).far (p := ⟨gn35, 1, none⟩) (by have := LP38.out; show _ ≠ gn35; omega) _) (fun _ => ?_)
              clear hK K
              try dsimp only [Act.put]
              try simp only [List.setIfInBounds_toArray, List.set_cons_zero, List.set_cons_succ]
              refine wpAnyH_take (i := 16) (oi := { dst := some 18, op := Op.assign (Operand.tmp 78), type := 25, pos := "law.go:63", after := #[{ on := 13, ground := Ground.data }, { on := 15, ground := Ground.chain }, { on := 0, ground := Ground.phase }, { on := 1, ground := Ground.phase }, { on := 2, ground := Ground.phase }, { on := 3, ground := Ground.phase }, { on := 4, ground := Ground.phase }, { on := 5, ground := Ground.phase }, { on := 6, ground := Ground.phase }, { on := 7, ground := Ground.phase }, { on := 8, ground := Ground.phase }, { on := 9, ground := Ground.phase }, { on := 10, ground := Ground.phase }, { on := 11, ground := Ground.phase }, { on := 12, ground := Ground.phase }, { on := 13, ground := Ground.phase }, { on := 14, ground := Ground.phase }, { on := 15, ground := Ground.phase }], guard := none }) (v := .int .i64 ((E : Nat) : Int)) rfl (by kernel_rfl) (by kernel_rfl) (by kernel_rfl) (fun _ _ _ h => h) (Or.inl ⟨by rfl, fun W hW => ?y54⟩) ((hs49.far (p := ⟨gn35, 0, none⟩) (by have := LP38.out; show _ ≠ gn35; omega) _).far (p := ⟨gn35, 1, none⟩) (by have := LP38.out; show _ ≠ gn35; omega) _) ?_
              case y54 => go_simp
              try dsimp only [Act.put]
              try simp only [List.setIfInBounds_toArray, List.set_cons_zero, List.set_cons_succ]
              refine wpAnyH_done (by kernel_rfl) ?_ _
              try dsimp only [Act.put]
              try simp only [List.setIfInBounds_toArray, List.set_cons_zero, List.set_cons_succ]
              go_wp2_with fail
              go_meet
              exact ⟨gn35, C41, m42, j43, D44, p45, q46, rfl, rfl, Lib.hid ⟨((hs49.far (p := ⟨gn35, 0, none⟩) (by have := LP38.out; show _ ≠ gn35; omega) _).far (p := ⟨gn35, 1, none⟩) (by have := LP38.out; show _ ≠ gn35; omega) _), N50.out.put KR47.out, below_put k48.out LB39.out (.slice C41 m42 j43) (.slice D44 p45 q46)⟩⟩
          case rest =>
            obtain ⟨ga, C1, m1, j1, C2, m2, j2, rfl, rfl, hall⟩ := hcut
            clear HP B3 HO
            have HP := Lib.hid hall.out.1; have VA := Lib.hid hall.out.2.1; have B3 := Lib.hid hall.out.2.2
            clear hall
            go_upto_region 12 with (fail)
            go_cut [19, 20] from 65 to 101 (fun s19 s20 wx => ∃ gn D1 m3 j3 D2 m4 j4, s19 = .pointer (some ⟨gn, 0, none⟩) ∧ s20 = .int .i64 ((E : Nat) : Int) ∧ Hid (Blk wx g3 29 PC ∧ Bx wx gn D1 m3 j3 D2 m4 j4 R ∧ Bx wx ga C1 m1 j1 C2 m2 j2 R ∧ Below w.heap.size w wx))
            case first =>
              refine wp_region_held (S := fun W => Blk W g3 29 PC) (by kernel_rfl) ?_
              change wpAnyH _ _ _ _ _ _ _ _ (World.drew wc)
              have hs0 : Blk (World.drew wc) g3 29 PC := HP.out
              have k0 : Hid (Below w.heap.size w (World.drew wc)) := Lib.hid (below_drewN B3.out 1)
              have ZVA := Lib.hid (show Bx (World.drew wc) ga C1 m1 j1 C2 m2 j2 R from VA.out.below (below_drewN (Below.refl wc.heap.size wc) 1))
              generalize World.drew wc = Wd at hs0 k0 ZVA ⊢
              refine wpAnyH_take (i := 0) (oi := { dst := some 80, op := Op.move (Operand.tmp 15), type := 31, pos := "law.go:64", after := #[], guard := none }) (v := .slice (some ⟨g3, 0, none⟩) 4 4) rfl (by kernel_rfl) (by kernel_rfl) (by kernel_rfl) (fun _ _ _ h => h) (Or.inl ⟨by rfl, fun W hW => ?y1⟩) hs0 ?_
              case y1 => go_simp
              try dsimp only [Act.put]
              try simp only [List.setIfInBounds_toArray, List.set_cons_zero, List.set_cons_succ]
              refine wpAnyH_take (i := 1) (oi := { dst := some 81, op := Op.move (Operand.tmp 16), type := 3, pos := "law.go:64", after := #[], guard := none }) (v := .int .i64 ((i : Nat) : Int)) rfl (by kernel_rfl) (by kernel_rfl) (by kernel_rfl) (fun _ _ _ h => h) (Or.inl ⟨by rfl, fun W hW => ?y2⟩) hs0 ?_
              case y2 => go_simp
              try dsimp only [Act.put]
              try simp only [List.setIfInBounds_toArray, List.set_cons_zero, List.set_cons_succ]
              refine wpAnyH_take (i := 2) (oi := { dst := some 82, op := Op.indexAddr 31 (Operand.tmp 80) (Operand.tmp 81), type := 0, pos := "law.go:64", after := #[{ on := 0, ground := Ground.data }, { on := 1, ground := Ground.data }], guard := none }) (v := .pointer (some ⟨g3, i * 2, none⟩)) rfl (by kernel_rfl) (by kernel_rfl) (by kernel_rfl) (fun _ _ _ h => h) (Or.inl ⟨by rfl, fun W hW => ?y3⟩) hs0 ?_
              case y3 => go_simp
              try dsimp only [Act.put]
              try simp only [List.setIfInBounds_toArray, List.set_cons_zero, List.set_cons_succ]
              refine wpAnyH_take (i := 3) (oi := { dst := some 83, op := Op.indexAddr 29 (Operand.tmp 82) (Operand.const (Value.int IntKind.i64 0)), type := 0, pos := "law.go:64", after := #[{ on := 2, ground := Ground.data }], guard := none }) (v := .pointer (some ⟨g3, i * 2, none⟩)) rfl (by kernel_rfl) (by kernel_rfl) (by kernel_rfl) (fun _ _ _ h => h) (Or.inl ⟨by rfl, fun W hW => ?y4⟩) hs0 ?_
              case y4 => go_simp
              try dsimp only [Act.put]
              try simp only [List.setIfInBounds_toArray, List.set_cons_zero, List.set_cons_succ]
              refine wpAnyH_take (i := 4) (oi := { dst := some 84, op := Op.load 3 (Operand.tmp 83), type := 3, pos := "law.go:64", after := #[{ on := 3, ground := Ground.data }], guard := none }) (v := .int .i64 a) rfl (by kernel_rfl) (by kernel_rfl) (by kernel_rfl) (fun _ _ _ h => h) (Or.inl ⟨by rfl, fun W hW => by have hcl : W.cell? ⟨g3, i * 2, none⟩ = some (.int .i64 a) := (Blk.cell hW _).trans HCA.out; go_simp⟩) hs0 ?_
              try dsimp only [Act.put]
              try simp only [List.setIfInBounds_toArray, List.set_cons_zero, List.set_cons_succ]
              refine wpAnyH_take (i := 5) (oi := { dst := some 85, op := Op.move (Operand.tmp 15), type := 31, pos := "law.go:64", after := #[], guard := none }) (v := .slice (some ⟨g3, 0, none⟩) 4 4) rfl (by kernel_rfl) (by kernel_rfl) (by kernel_rfl) (fun _ _ _ h => h) (Or.inl ⟨by rfl, fun W hW => ?y6⟩) hs0 ?_
              case y6 => go_simp
              try dsimp only [Act.put]
              try simp only [List.setIfInBounds_toArray, List.set_cons_zero, List.set_cons_succ]
              refine wpAnyH_take (i := 6) (oi := { dst := some 86, op := Op.move (Operand.tmp 16), type := 3, pos := "law.go:64", after := #[], guard := none }) (v := .int .i64 ((i : Nat) : Int)) rfl (by kernel_rfl) (by kernel_rfl) (by kernel_rfl) (fun _ _ _ h => h) (Or.inl ⟨by rfl, fun W hW => ?y7⟩) hs0 ?_
              case y7 => go_simp
              try dsimp only [Act.put]
              try simp only [List.setIfInBounds_toArray, List.set_cons_zero, List.set_cons_succ]
              refine wpAnyH_take (i := 7) (oi := { dst := some 87, op := Op.indexAddr 31 (Operand.tmp 85) (Operand.tmp 86), type := 0, pos := "law.go:64", after := #[{ on := 5, ground := Ground.data }, { on := 6, ground := Ground.data }], guard := none }) (v := .pointer (some ⟨g3, i * 2, none⟩)) rfl (by kernel_rfl) (by kernel_rfl) (by kernel_rfl) (fun _ _ _ h => h) (Or.inl ⟨by rfl, fun W hW => ?y8⟩) hs0 ?_
              case y8 => go_simp
              try dsimp only [Act.put]
              try simp only [List.setIfInBounds_toArray, List.set_cons_zero, List.set_cons_succ]
              refine wpAnyH_take (i := 8) (oi := { dst := some 88, op := Op.indexAddr 29 (Operand.tmp 87) (Operand.const (Value.int IntKind.i64 1)), type := 0, pos := "law.go:64", after := #[{ on := 7, ground := Ground.data }], guard := none }) (v := .pointer (some ⟨g3, i * 2 + 1, none⟩)) rfl (by kernel_rfl) (by kernel_rfl) (by kernel_rfl) (fun _ _ _ h => h) (Or.inl ⟨by rfl, fun W hW => ?y9⟩) hs0 ?_
              case y9 => go_simp
              try dsimp only [Act.put]
              try simp only [List.setIfInBounds_toArray, List.set_cons_zero, List.set_cons_succ]
              refine wpAnyH_take (i := 9) (oi := { dst := some 89, op := Op.load 3 (Operand.tmp 88), type := 3, pos := "law.go:64", after := #[{ on := 8, ground := Ground.data }], guard := none }) (v := .int .i64 b) rfl (by kernel_rfl) (by kernel_rfl) (by kernel_rfl) (fun _ _ _ h => h) (Or.inl ⟨by rfl, fun W hW => by have hcl : W.cell? ⟨g3, i * 2 + 1, none⟩ = some (.int .i64 b) := (Blk.cell hW _).trans HCB.out; go_simp⟩) hs0 ?_
              try dsimp only [Act.put]
              try simp only [List.setIfInBounds_toArray, List.set_cons_zero, List.set_cons_succ]
              refine wpAnyH_ready (rs := [10, 14]) (by kernel_rfl) (by simp) ?_
              refine AllReadyH.cons (o := { dst := some 90, op := Op.call { callee := Callee.value (Operand.func 12), args := #[Operand.tmp 84, Operand.tmp 89], argTypes := #[3, 3] }, type := 32, pos := "law.go:64", after := #[{ on := 4, ground := Ground.data }, { on := 9, ground := Ground.data }], guard := none }) rfl (fun K hK => ?_) (AllReadyH.cons (o := { dst := some 19, op := Op.alloc 28, type := 0, pos := "law.go:64", after := #[], guard := none }) rfl (fun K hK => ?_) AllReadyH.nil)
              · rw [if_pos (by rfl)]
                go_simp
                refine (HQ.out _).mono ?_
                rintro e w11 ⟨v, rfl, hrv, hb⟩
                obtain ⟨u1, u2, rfl, hk⟩ := gd_rk (X := (R, E)) hrv HGD.out
                have k19 := Lib.hid (below_step k0.out hb)
                have hs20 := hs0.below hb hs0.lt
                have VA21 := Lib.hid (ZVA.out.below hb)
                obtain ⟨C12, m13, j14, e1⟩ := sl_form hk.s1
                obtain ⟨D15, p16, q17, e2⟩ := sl_form hk.s2
                subst e1 e2
                have KR18 := Lib.hid hk
                clear hk hb hrv
                go_wp2_with fail
                refine hK.out _ _ hs20 (fun _ => ?_)
                clear hK K
                try dsimp only [Act.put]
                try simp only [List.setIfInBounds_toArray, List.set_cons_zero, List.set_cons_succ]
                refine wpAnyH_take (i := 11) (oi := { dst := some 79, op := Op.move (Operand.tmp 90), type := 32, pos := "law.go:64", after := #[{ on := 10, ground := Ground.data }], guard := none }) (v := .tuple #[.agg #[.slice C12 m13 j14, .slice D15 p16 q17], .int .i64 ((E : Nat) : Int)]) rfl (by kernel_rfl) (by kernel_rfl) (by kernel_rfl) (fun _ _ _ h => h) (Or.inl ⟨by rfl, fun W hW => ?y22⟩) hs20 ?_
                case y22 => go_simp
                try dsimp only [Act.put]
                try simp only [List.setIfInBounds_toArray, List.set_cons_zero, List.set_cons_succ]
                refine wpAnyH_take (i := 12) (oi := { dst := some 91, op := Op.extract (Operand.tmp 79) 0, type := 28, pos := "law.go:64", after := #[{ on := 11, ground := Ground.data }], guard := none }) (v := .agg #[.slice C12 m13 j14, .slice D15 p16 q17]) rfl (by kernel_rfl) (by kernel_rfl) (by kernel_rfl) (fun _ _ _ h => h) (Or.inl ⟨by rfl, fun W hW => ?y23⟩) hs20 ?_
                case y23 => go_simp
                try dsimp only [Act.put]
                try simp only [List.setIfInBounds_toArray, List.set_cons_zero, List.set_cons_succ]
                refine wpAnyH_take (i := 13) (oi := { dst := some 92, op := Op.extract (Operand.tmp 79) 1, type := 25, pos := "law.go:64", after := #[{ on := 11, ground := Ground.data }, { on := 15, ground := Ground.gcOnly Departure.lateStores }], guard := none }) (v := .int .i64 ((E : Nat) : Int)) rfl (by kernel_rfl) (by kernel_rfl) (by kernel_rfl) (fun _ _ _ h => h) (Or.inl ⟨by rfl, fun W hW => ?y24⟩) hs20 ?_
                case y24 => go_simp
                try dsimp only [Act.put]
                try simp only [List.setIfInBounds_toArray, List.set_cons_zero, List.set_cons_succ]
                refine wpAnyH_ready (rs := [14]) (by kernel_rfl) (by simp) ?_
                refine AllReadyH.cons (o := { dst := some 19, op := Op.alloc 28, type := 0, pos := "law.go:64", after := #[], guard := none }) rfl (fun K hK => ?_) AllReadyH.nil
                rw [if_pos (by rfl)]
                go_simp
                have hbt := bel0 w11
                have k28 := Lib.hid (below_step k19.out hbt)
                have hs29 := hs20.below hbt hs20.lt
                have KR30 := Lib.hid (KR18.out.below hbt)
                have VA31 := Lib.hid (VA21.out.below hbt)
                have N26 := Lib.hid (Bx.new (rk_none w11))
                have LP32 := Lib.hid (show g3 < w11.heap.size from hs20.lt)
                have LX33 := Lib.hid (show ga < w11.heap.size from VA21.out.b.lt)
                have LB34 := Lib.hid (show w.heap.size ≤ w11.heap.size from k19.out.size)
                clear hbt
                obtain ⟨u25, hW⟩ : ∃ W', w11.alloc (.cells #[.slice none 0 0, .slice none 0 0] 28) = W' := ⟨_, rfl⟩
                rw [hW] at k28 hs29 N26 KR30 VA31 ⊢
                clear hW
                obtain ⟨gn27, hg⟩ : ∃ g, w11.heap.size = g := ⟨_, rfl⟩
                rw [hg] at N26 LP32 LX33 LB34 ⊢
                clear hg
                refine hK.out _ _ hs29 (fun _ => ?_)
                clear hK K
                try dsimp only [Act.put]
                try simp only [List.setIfInBounds_toArray, List.set_cons_zero, List.set_cons_succ]
                refine wpAnyH_ready (rs := [15]) (by kernel_rfl) (by simp) ?_
                refine AllReadyH.cons (o := { dst := none, op := Op.store 28 (Operand.tmp 19) (Operand.tmp 91), type := 0, pos := "law.go:64", after := #[{ on := 14, ground := Ground.data }, { on := 12, ground := Ground.data }, { on := 10, ground := Ground.chain }, { on := 0, ground := Ground.phase }, { on := 1, ground := Ground.phase }, { on := 2, ground := Ground.phase }, { on := 3, ground := Ground.phase }, { on := 4, ground := Ground.phase }, { on := 5, ground := Ground.phase }, { on := 6, ground := Ground.phase }, { on := 7, ground := Ground.phase }, { on := 8, ground := Ground.phase }, { on := 9, ground := Ground.phase }, { on := 10, ground := Ground.phase }, { on := 11, ground := Ground.phase }, { on := 12, ground := Ground.phase }, { on := 13, ground := Ground.textOnly Departure.lateStores }, { on := 14, ground := Ground.phase }], guard := none }) rfl (fun K hK => ?_) AllReadyH.nil
                rw [if_pos (by rfl)]
                obtain ⟨hc1, hc2, hf1, hf2⟩ := blk_cells2 N26.out.b
                go_simp
                refine hK.out _ _ ((hs29.far (p := ⟨gn27, 0, none⟩) (by have := LP32.out; show _ ≠ gn27; omega) _).far (p := ⟨gn27, 1, none⟩) (by have := LP32.out; show _ ≠ gn27; omega) _) (fun _ => ?_)
                clear hK K
                try dsimp only [Act.put]
                try simp only [List.setIfInBounds_toArray, List.set_cons_zero, List.set_cons_succ]
                refine wpAnyH_take (i := 16) (oi := { dst := some 20, op := Op.assign (Operand.tmp 92), type := 25, pos := "law.go:64", after := #[{ on := 13, ground := Ground.data }, { on := 15, ground := Ground.chain }, { on := 0, ground := Ground.phase }, { on := 1, ground := Ground.phase }, { on := 2, ground := Ground.phase }, { on := 3, ground := Ground.phase }, { on := 4, ground := Ground.phase }, { on := 5, ground := Ground.phase }, { on := 6, ground := Ground.phase }, { on := 7, ground := Ground.phase }, { on := 8, ground := Ground.phase }, { on := 9, ground := Ground.phase }, { on := 10, ground := Ground.phase }, { on := 11, ground := Ground.phase }, { on := 12, ground := Ground.phase }, { on := 13, ground := Ground.phase }, { on := 14, ground := Ground.phase }, { on := 15, ground := Ground.phase }], guard := none }) (v := .int .i64 ((E : Nat) : Int)) rfl (by kernel_rfl) (by kernel_rfl) (by kernel_rfl) (fun _ _ _ h => h) (Or.inl ⟨by rfl, fun W hW => ?y35⟩) ((hs29.far (p := ⟨gn27, 0, none⟩) (by have := LP32.out; show _ ≠ gn27; omega) _).far (p := ⟨gn27, 1, none⟩) (by have := LP32.out; show _ ≠ gn27; omega) _) ?_
                case y35 => go_simp
                try dsimp only [Act.put]
                try simp only [List.setIfInBounds_toArray, List.set_cons_zero, List.set_cons_succ]
                refine wpAnyH_done (by kernel_rfl) ?_ _
                try dsimp only [Act.put]
                try simp only [List.setIfInBounds_toArray, List.set_cons_zero, List.set_cons_succ]
                go_wp2_with fail
                go_meet
                exact ⟨gn27, C12, m13, j14, D15, p16, q17, rfl, rfl, Lib.hid ⟨((hs29.far (p := ⟨gn27, 0, none⟩) (by have := LP32.out; show _ ≠ gn27; omega) _).far (p := ⟨gn27, 1, none⟩) (by have := LP32.out; show _ ≠ gn27; omega) _), N26.out.put KR30.out, VA31.out.far N26.out (by have := LX33.out; omega) C12 m13 j14 D15 p16 q17, below_put k28.out LB34.out (.slice C12 m13 j14) (.slice D15 p16 q17)⟩⟩
              · rw [if_pos (by rfl)]
                go_simp
                have hbt := bel0 Wd
                have k39 := Lib.hid (below_step k0.out hbt)
                have hs40 := hs0.below hbt hs0.lt
                have VA41 := Lib.hid (ZVA.out.below hbt)
                have N37 := Lib.hid (Bx.new (rk_none Wd))
                have LP42 := Lib.hid (show g3 < Wd.heap.size from hs0.lt)
                have LX43 := Lib.hid (show ga < Wd.heap.size from ZVA.out.b.lt)
                have LB44 := Lib.hid (show w.heap.size ≤ Wd.heap.size from k0.out.size)
                clear hbt
                obtain ⟨u36, hW⟩ : ∃ W', Wd.alloc (.cells #[.slice none 0 0, .slice none 0 0] 28) = W' := ⟨_, rfl⟩
                rw [hW] at k39 hs40 N37 VA41 ⊢
                clear hW
                obtain ⟨gn38, hg⟩ : ∃ g, Wd.heap.size = g := ⟨_, rfl⟩
                rw [hg] at N37 LP42 LX43 LB44 ⊢
                clear hg
                refine hK.out _ _ hs40 (fun _ => ?_)
                clear hK K
                try dsimp only [Act.put]
                try simp only [List.setIfInBounds_toArray, List.set_cons_zero, List.set_cons_succ]
                refine wpAnyH_ready (rs := [10]) (by kernel_rfl) (by simp) ?_
                refine AllReadyH.cons (o := { dst := some 90, op := Op.call { callee := Callee.value (Operand.func 12), args := #[Operand.tmp 84, Operand.tmp 89], argTypes := #[3, 3] }, type := 32, pos := "law.go:64", after := #[{ on := 4, ground := Ground.data }, { on := 9, ground := Ground.data }], guard := none }) rfl (fun K hK => ?_) AllReadyH.nil
                rw [if_pos (by rfl)]
                go_simp
                refine (HQ.out _).mono ?_
                rintro e w45 ⟨v, rfl, hrv, hb⟩
                obtain ⟨u1, u2, rfl, hk⟩ := gd_rk (X := (R, E)) hrv HGD.out
                have k53 := Lib.hid (below_step k39.out hb)
                have hs54 := hs40.below hb hs40.lt
                have N55 := Lib.hid (N37.out.below hb)
                have VA56 := Lib.hid (VA41.out.below hb)
                obtain ⟨C46, m47, j48, e1⟩ := sl_form hk.s1
                obtain ⟨D49, p50, q51, e2⟩ := sl_form hk.s2
                subst e1 e2
                have KR52 := Lib.hid hk
                clear hk hb hrv
                go_wp2_with fail
                refine hK.out _ _ hs54 (fun _ => ?_)
                clear hK K
                try dsimp only [Act.put]
                try simp only [List.setIfInBounds_toArray, List.set_cons_zero, List.set_cons_succ]
                refine wpAnyH_take (i := 11) (oi := { dst := some 79, op := Op.move (Operand.tmp 90), type := 32, pos := "law.go:64", after := #[{ on := 10, ground := Ground.data }], guard := none }) (v := .tuple #[.agg #[.slice C46 m47 j48, .slice D49 p50 q51], .int .i64 ((E : Nat) : Int)]) rfl (by kernel_rfl) (by kernel_rfl) (by kernel_rfl) (fun _ _ _ h => h) (Or.inl ⟨by rfl, fun W hW => ?y57⟩) hs54 ?_
                case y57 => go_simp
                try dsimp only [Act.put]
                try simp only [List.setIfInBounds_toArray, List.set_cons_zero, List.set_cons_succ]
                refine wpAnyH_take (i := 12) (oi := { dst := some 91, op := Op.extract (Operand.tmp 79) 0, type := 28, pos := "law.go:64", after := #[{ on := 11, ground := Ground.data }], guard := none }) (v := .agg #[.slice C46 m47 j48, .slice D49 p50 q51]) rfl (by kernel_rfl) (by kernel_rfl) (by kernel_rfl) (fun _ _ _ h => h) (Or.inl ⟨by rfl, fun W hW => ?y58⟩) hs54 ?_
                case y58 => go_simp
                try dsimp only [Act.put]
                try simp only [List.setIfInBounds_toArray, List.set_cons_zero, List.set_cons_succ]
                refine wpAnyH_take (i := 13) (oi := { dst := some 92, op := Op.extract (Operand.tmp 79) 1, type := 25, pos := "law.go:64", after := #[{ on := 11, ground := Ground.data }, { on := 15, ground := Ground.gcOnly Departure.lateStores }], guard := none }) (v := .int .i64 ((E : Nat) : Int)) rfl (by kernel_rfl) (by kernel_rfl) (by kernel_rfl) (fun _ _ _ h => h) (Or.inl ⟨by rfl, fun W hW => ?y59⟩) hs54 ?_
                case y59 => go_simp
                try dsimp only [Act.put]
                try simp only [List.setIfInBounds_toArray, List.set_cons_zero, List.set_cons_succ]
                refine wpAnyH_ready (rs := [15]) (by kernel_rfl) (by simp) ?_
                refine AllReadyH.cons (o := { dst := none, op := Op.store 28 (Operand.tmp 19) (Operand.tmp 91), type := 0, pos := "law.go:64", after := #[{ on := 14, ground := Ground.data }, { on := 12, ground := Ground.data }, { on := 10, ground := Ground.chain }, { on := 0, ground := Ground.phase }, { on := 1, ground := Ground.phase }, { on := 2, ground := Ground.phase }, { on := 3, ground := Ground.phase }, { on := 4, ground := Ground.phase }, { on := 5, ground := Ground.phase }, { on := 6, ground := Ground.phase }, { on := 7, ground := Ground.phase }, { on := 8, ground := Ground.phase }, { on := 9, ground := Ground.phase }, { on := 10, ground := Ground.phase }, { on := 11, ground := Ground.phase }, { on := 12, ground := Ground.phase }, { on := 13, ground := Ground.textOnly Departure.lateStores }, { on := 14, ground := Ground.phase }], guard := none }) rfl (fun K hK => ?_) AllReadyH.nil
                rw [if_pos (by rfl)]
                obtain ⟨hc1, hc2, hf1, hf2⟩ := blk_cells2 N55.out.b
                go_simp
                refine hK.out _ _ ((hs54.far (p := ⟨gn38, 0, none⟩) (by have := LP42.out; show _ ≠ gn38; omega) _).far (p := ⟨gn38, 1, none⟩) (by have := LP42.out; show _ ≠ gn38; omega) _) (fun _ => ?_)
                clear hK K
                try dsimp only [Act.put]
                try simp only [List.setIfInBounds_toArray, List.set_cons_zero, List.set_cons_succ]
                refine wpAnyH_take (i := 16) (oi := { dst := some 20, op := Op.assign (Operand.tmp 92), type := 25, pos := "law.go:64", after := #[{ on := 13, ground := Ground.data }, { on := 15, ground := Ground.chain }, { on := 0, ground := Ground.phase }, { on := 1, ground := Ground.phase }, { on := 2, ground := Ground.phase }, { on := 3, ground := Ground.phase }, { on := 4, ground := Ground.phase }, { on := 5, ground := Ground.phase }, { on := 6, ground := Ground.phase }, { on := 7, ground := Ground.phase }, { on := 8, ground := Ground.phase }, { on := 9, ground := Ground.phase }, { on := 10, ground := Ground.phase }, { on := 11, ground := Ground.phase }, { on := 12, ground := Ground.phase }, { on := 13, ground := Ground.phase }, { on := 14, ground := Ground.phase }, { on := 15, ground := Ground.phase }], guard := none }) (v := .int .i64 ((E : Nat) : Int)) rfl (by kernel_rfl) (by kernel_rfl) (by kernel_rfl) (fun _ _ _ h => h) (Or.inl ⟨by rfl, fun W hW => ?y60⟩) ((hs54.far (p := ⟨gn38, 0, none⟩) (by have := LP42.out; show _ ≠ gn38; omega) _).far (p := ⟨gn38, 1, none⟩) (by have := LP42.out; show _ ≠ gn38; omega) _) ?_
                case y60 => go_simp
                try dsimp only [Act.put]
                try simp only [List.setIfInBounds_toArray, List.set_cons_zero, List.set_cons_succ]
                refine wpAnyH_done (by kernel_rfl) ?_ _
                try dsimp only [Act.put]
                try simp only [List.setIfInBounds_toArray, List.set_cons_zero, List.set_cons_succ]
                go_wp2_with fail
                go_meet
                exact ⟨gn38, C46, m47, j48, D49, p50, q51, rfl, rfl, Lib.hid ⟨((hs54.far (p := ⟨gn38, 0, none⟩) (by have := LP42.out; show _ ≠ gn38; omega) _).far (p := ⟨gn38, 1, none⟩) (by have := LP42.out; show _ ≠ gn38; omega) _), N55.out.put KR52.out, VA56.out.far N55.out (by have := LX43.out; omega) C46 m47 j48 D49 p50 q51, below_put k53.out LB44.out (.slice C46 m47 j48) (.slice D49 p50 q51)⟩⟩
            case rest =>
              obtain ⟨gb, D1, m3, j3, D2, m4, j4, rfl, rfl, hall⟩ := hcut
              clear HP B3 HQ VA
              have HP := Lib.hid hall.out.1; have VB := Lib.hid hall.out.2.1; have VA := Lib.hid hall.out.2.2.1; have B3 := Lib.hid hall.out.2.2.2
              clear hall
              obtain ⟨hc1, hc2, hf1, hf2⟩ := blk_cells2 VA.out.b
              obtain ⟨hc3, hc4, hf3, hf4⟩ := blk_cells2 VB.out.b
              have hne : (((E : Nat) : Int) != ((E : Nat) : Int)) = false := by simp
              have hsm := rsame_any VA.out.k VB.out.k
              rw [decide_eq_true rfl] at hsm
              have HS := Lib.hid hsm
              clear hsm
              go_wp2_with fail
              refine HS.out.mono ?_
              rintro e w9 ⟨rfl, hb⟩
              have HP9 := Lib.hid (HP.out.below hb HP.out.lt); have B9 := Lib.hid (below_step B3.out hb)
              clear hb HS hc1 hc2 hf1 hf2 hc3 hc4 hf3 hf4 VA VB HP B3
              go_wp2_with fail
              go_roundw
              case rel =>
                have hr1 : ∃ k : Nat, k ≤ 4 ∧ (.int .i64 ((i : Int) + 1) : Value) = .int .i64 ((k : Nat) : Int) ∧ Blk w9 g3 29 PC ∧ Below w.heap.size w w9 := ⟨i + 1, HIN.out, by simp, HP9.out, B9.out⟩
                first | exact hr1 | ((repeat apply Exists.intro); exact ⟨hr1, rfl⟩)
              case measure => simp only [intOf]; omega
        · have hin : i = 4 := by omega
          subst hin
          clear hi hge HP
          go_wp2_with fail
          refine (lives_any wr (HM.out.below H2.out B3.out) (by have := H2.out; have := B3.out.size; omega)).mono ?_
          rintro e w9 ⟨rfl, hb⟩
          have BL := Lib.hid (below_step B3.out hb)
          clear hb
          go_wp2_with fail
          go_ret
          exact ⟨rfl, BL.out⟩
end Go.Proofs.Ytbfhilbagojdnaa
