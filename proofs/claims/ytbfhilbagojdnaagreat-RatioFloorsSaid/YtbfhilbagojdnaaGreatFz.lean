/-
  The law RatioFloors returns true for all pairs of ratios.
  No condition but that the limbs that came in can be read, and that the library's variable MaxLen is there.
-/
import Derived.Test.YtbfhilbagojdnaaGreatRbt
import Derived.Deep.CutBlock
namespace Go.Proofs.YtbfhilbagojdnaaGreat
open Go.RowKit Wr Go.Proofs.YtbfhilbagojdnaaGreat.Nm
set_option linter.unusedVariables false
set_option maxRecDepth 100000

theorem gd_made (x y : Nat) : Gd5 (madeR x y) := by
  unfold madeR
  split
  · rename_i h
    exact ⟨⟨lim_ok x, dl_ok y⟩, lim_len.2 h.1, dl_len2 (lim_len.2 h.2)⟩
  · exact gd_no 4
theorem gd_sim (r s : Rt) : Gd5 (simR r s) := by
  unfold simR
  split
  · exact gd_no _
  · split
    · exact gd_no _
    · exact gd_made _ _
theorem below_put0 {B W : World} {g : Nat} (h : Below B.heap.size B W) (hg : B.heap.size ≤ g) (u v : Value) : Below B.heap.size B ((W.setCell ⟨g, 0, none⟩ u).setCell ⟨g, 1, none⟩ v) :=
  (h.setCell (p := ⟨g, 0, none⟩) hg u).setCell (p := ⟨g, 1, none⟩) hg v
theorem fl_v1 : Vr 4611686018427387904 1 := vr_lit 4611686018427387904 1 (by decide) (Nat.gcd_one_right _) (by decide) (by decide)
theorem fl_v2 : Vr 9223372036854775808 1 := ⟨by decide, Nat.gcd_one_right _, by
  have : (4294967296 : Nat) ^ 2 ≤ 4294967296 ^ 64 := Nat.pow_le_pow_right (by omega) (by omega)
  have e : (4294967296 : Nat) ^ 2 = 18446744073709551616 := by decide
  omega, w64 1 (by decide)⟩
theorem fl_of : ofR 4611686018427387904 1 = ((lim 4611686018427387904, dl 1), 0) := of_lit 4611686018427387904 1 4611686018427387904 1 (by decide) (by rw [Nat.gcd_one_right]) (by rw [Nat.gcd_one_right]) (by decide) (by decide)
theorem fl_add : addR (lim 4611686018427387904, dl 1) (lim 4611686018427387904, dl 1) = ((lim 9223372036854775808, dl 1), 0) := by
  rw [add_eq fl_v1 fl_v1, show 4611686018427387904 * 1 + 4611686018427387904 * 1 = 9223372036854775808 by decide, show 1 * 1 = 1 by decide]
  unfold lowR madeR
  rw [Nat.gcd_one_right, Nat.div_one, Nat.div_one, if_pos ⟨fl_v2.hx, fl_v2.hy⟩]
theorem fl_f1 : floorR (lim 4611686018427387904, dl 1) = (4611686018427387904, 0) := by
  rw [floor_eq fl_v1, Nat.div_one, if_pos (by decide)]
  rfl
theorem fl_f2 : floorR (lim 9223372036854775808, dl 1) = (0, 4) := by
  rw [floor_eq fl_v2, Nat.div_one, if_neg (by decide)]
set_option maxHeartbeats 8000000 in
theorem floors_walk {A5 A6 : Option Addr} {n5 k5 n6 k6 : Nat} {lr lm : List Nat} (n m how by_ : Int) (w : World) (hM : MaxL w) (h2 : 2 < w.heap.size) (hn : -9223372036854775808 ≤ n ∧ n ≤ 9223372036854775807) (hm : -9223372036854775808 ≤ m ∧ m ≤ 9223372036854775807) (hh : -9223372036854775808 ≤ how ∧ how ≤ 9223372036854775807) (hb : -9223372036854775808 ≤ by_ ∧ by_ ≤ 9223372036854775807)
    (h5 : Sl w (.slice A5 n5 k5) lr) (h6 : Sl w (.slice A6 n6 k6) lm) (o5 : Ok lr) (o6 : Ok lm) (hl5 : n5 ≤ 9223372036854775807) (hl6 : n6 ≤ 9223372036854775807) : Calls Tryz.prog 4 #[.int .i64 n, .int .i64 m, .int .i64 how, .int .i64 by_, .slice A5 n5 k5, .slice A6 n6 k6] w (SmP w true) := by
  have HS1 := Lib.hid (some_any (w := w) n m how by_ hn hm hh hb h5 h6 o5 o6 hl5 hl6)
  have HM := Lib.hid hM; have H2 := Lib.hid h2
  clear hM h2 hn hm hh hb h5 h6 o5 o6 hl5 hl6
  go_enter Tryz.func4, Tryz.ntmps4
  go_wp2_with fail
  refine HS1.out.mono ?_
  rintro e w1 ⟨v, L, rfl, hL, hR, hb⟩
  have BW := Lib.hid hb
  obtain ⟨g, o, c, rfl, hc7, hgl, hcs⟩ := rls_cells hR hL
  have HG := Lib.hid hgl; have HCS := Lib.hid hcs
  clear hR hb hL hgl hcs hc7 HS1
  go_wp2_with fail
  go_loopw [14] (fun s wr => ∃ i : Nat, i ≤ 7 ∧ s = .int .i64 ((i : Nat) : Int) ∧ Below w1.heap.size w1 wr) (fun s _ => 7 - (intOf s).toNat)
  case atStart => exact ⟨0, Nat.zero_le _, rfl, Below.refl _ _⟩
  case round =>
    obtain ⟨i, hi, rfl, hbel⟩ := hrel
    have BR := Lib.hid hbel
    clear hbel
    rcases Nat.lt_or_ge i 7 with hlt | hge
    · have hiI : (i : Int) < 7 := by omega
      have HI := Lib.hid (show i + 1 ≤ 7 ∧ i < 7 by omega)
      obtain ⟨A1, n1, k1, A2, n2, k2, r, hr, d1, d2, hkr⟩ := HCS.out i hlt
      have HD1 := Lib.hid (fun W (h : Below w1.heap.size w1 W) => And.intro ((h.cell (p := ⟨g, o + i * 2, none⟩) HG.out).trans d1) ((h.cell (p := ⟨g, o + i * 2 + 1, none⟩) HG.out).trans d2))
      have KA := Lib.hid (fun W (h : Below w1.heap.size w1 W) => hkr.below h)
      obtain ⟨F, E0, hF⟩ : ∃ f e, floorR r = (f, e) := ⟨_, _, rfl⟩
      have HF1 := Lib.hid (fun W (h : Below w1.heap.size w1 W) => show Calls Tryz.prog 21 #[.agg #[.slice A1 n1 k1, .slice A2 n2 k2]] W (fun e w' => e = .returned (.tuple #[.int .i64 F, .int .i64 ((E0 : Nat) : Int)]) ∧ Below W.heap.size W w') by have h := floor_any (KA.out W h); rw [hF] at h; exact h)
      have HF2 := Lib.hid (fun W (h : Below w1.heap.size w1 W) => show Calls Tryz.prog 22 #[.agg #[.slice A1 n1 k1, .slice A2 n2 k2]] W (fun e w' => e = .returned (.tuple #[.int .i64 F, .int .i64 ((E0 : Nat) : Int)]) ∧ Below W.heap.size W w') by have h := rfloor_any (KA.out W h); rw [hF] at h; exact h)
      clear hr d1 d2 hkr hF hlt hi
      obtain ⟨c1, c2⟩ := HD1.out _ BR.out
      go_wp2_with fail
      refine (HF1.out _ BR.out).mono ?_
      rintro e w2 ⟨rfl, hb⟩
      have B2 := Lib.hid (below_step BR.out hb)
      clear hb c1 c2 BR HF1
      obtain ⟨c1, c2⟩ := HD1.out _ B2.out
      go_wp2_with fail
      refine (HF2.out _ B2.out).mono ?_
      rintro e w3 ⟨rfl, hb⟩
      have B3 := Lib.hid (below_step B2.out hb)
      clear hb c1 c2 B2 HF2
      have hne : (F != F) = false := by simp
      have hne2 : (((E0 : Nat) : Int) != ((E0 : Nat) : Int)) = false := by simp
      go_wp2_with fail
      clear hne hne2
      go_loopw [19] (fun s wr => ∃ k : Nat, k ≤ 7 ∧ s = .int .i64 ((k : Nat) : Int) ∧ Below w1.heap.size w1 wr) (fun s _ => 7 - (intOf s).toNat)
      case atStart => exact ⟨0, Nat.zero_le _, rfl, B3.out⟩
      case round =>
        clear B3
        obtain ⟨k, hk6, rfl, hbel⟩ := hrel
        have BR := Lib.hid hbel
        clear hbel
        rcases Nat.lt_or_ge k 7 with hlt | hge
        · have hkI : (k : Int) < 7 := by omega
          obtain ⟨A3, n3, k3, A4, n4, k4, s, hs, d3, d4, hks⟩ := HCS.out k hlt
          have HSW := Lib.hid (fun W (h : Below w1.heap.size w1 W) => show (W.cell? ⟨g, o + i * 2, none⟩ = some (.slice A1 n1 k1) ∧ W.cell? ⟨g, o + i * 2 + 1, none⟩ = some (.slice A2 n2 k2)) ∧ (W.cell? ⟨g, o + k * 2, none⟩ = some (.slice A3 n3 k3) ∧ W.cell? ⟨g, o + k * 2 + 1, none⟩ = some (.slice A4 n4 k4)) from
            ⟨HD1.out W h, (h.cell (p := ⟨g, o + k * 2, none⟩) HG.out).trans d3, (h.cell (p := ⟨g, o + k * 2 + 1, none⟩) HG.out).trans d4⟩)
          obtain ⟨R, E, hRE⟩ : ∃ r' e, simR r s = (r', e) := ⟨_, _, rfl⟩
          have HGD := Lib.hid (show Gd5 (R, E) by rw [← hRE]; exact gd_sim r s)
          have HO := Lib.hid (fun W (h : Below w1.heap.size w1 W) => show Calls Tryz.prog 23 #[.agg #[.slice A1 n1 k1, .slice A2 n2 k2], .agg #[.slice A3 n3 k3, .slice A4 n4 k4]] W (fun e w' => ∃ v, e = .returned (.tuple #[v, .int .i64 ((E : Nat) : Int)]) ∧ Rv w' v R ∧ Below W.heap.size W w') by have h := simplest_any (KA.out W h) (hks.below h); rw [hRE] at h; exact h)
          have HQ := Lib.hid (fun W (h : Below w1.heap.size w1 W) => show Calls Tryz.prog 24 #[.agg #[.slice A1 n1 k1, .slice A2 n2 k2], .agg #[.slice A3 n3 k3, .slice A4 n4 k4]] W (fun e w' => ∃ v, e = .returned (.tuple #[v, .int .i64 ((E : Nat) : Int)]) ∧ Rv w' v R ∧ Below W.heap.size W w') by have h := rsimplest_any (KA.out W h) (hks.below h); rw [hRE] at h; exact h)
          have HK := Lib.hid (show k + 1 ≤ 7 by omega)
          clear hs d3 d4 hks hRE hlt hk6
          go_upto_region 12 with (fail)
          go_cut [20, 21] from 75 to 107 (fun s20 s21 wx => ∃ gn C1 m3 j3 C2 m4 j4, s20 = .pointer (some ⟨gn, 0, none⟩) ∧ s21 = .int .i64 ((E : Nat) : Int) ∧ Hid (Bx wx gn C1 m3 j3 C2 m4 j4 R ∧ Below w1.heap.size w1 wx))
          case first =>
            refine wp_region_held (S := fun W => (W.cell? ⟨g, o + i * 2, none⟩ = some (.slice A1 n1 k1) ∧ W.cell? ⟨g, o + i * 2 + 1, none⟩ = some (.slice A2 n2 k2)) ∧ (W.cell? ⟨g, o + k * 2, none⟩ = some (.slice A3 n3 k3) ∧ W.cell? ⟨g, o + k * 2 + 1, none⟩ = some (.slice A4 n4 k4))) (by kernel_rfl) ?_
            change wpAnyH _ _ _ _ _ _ _ _ (World.drew wr)
            have k0 : Hid (Below w1.heap.size w1 (World.drew wr)) := Lib.hid (below_drewN BR.out 1)
            have hs0 := HSW.out _ k0.out
            generalize World.drew wr = Wd at hs0 k0 ⊢
            refine wpAnyH_take (i := 0) (oi := { dst := some 76, op := Op.move (Operand.tmp 13), type := 23, pos := "law.go:146", after := #[], guard := none }) (v := .slice (some ⟨g, o, none⟩) 7 c) rfl (by kernel_rfl) (by kernel_rfl) (by kernel_rfl) (fun _ _ _ h => h) (Or.inl ⟨by rfl, fun W hW => ?y1⟩) hs0 ?_
            case y1 => go_simp
            try dsimp only [Act.put]
            try simp only [List.setIfInBounds_toArray, List.set_cons_zero, List.set_cons_succ]
            refine wpAnyH_take (i := 1) (oi := { dst := some 77, op := Op.move (Operand.tmp 14), type := 3, pos := "law.go:146", after := #[], guard := none }) (v := .int .i64 ((i : Nat) : Int)) rfl (by kernel_rfl) (by kernel_rfl) (by kernel_rfl) (fun _ _ _ h => h) (Or.inl ⟨by rfl, fun W hW => ?y2⟩) hs0 ?_
            case y2 => go_simp
            try dsimp only [Act.put]
            try simp only [List.setIfInBounds_toArray, List.set_cons_zero, List.set_cons_succ]
            refine wpAnyH_take (i := 2) (oi := { dst := some 78, op := Op.indexAddr 23 (Operand.tmp 76) (Operand.tmp 77), type := 0, pos := "law.go:146", after := #[{ on := 0, ground := Ground.data }, { on := 1, ground := Ground.data }], guard := none }) (v := .pointer (some ⟨g, o + i * 2, none⟩)) rfl (by kernel_rfl) (by kernel_rfl) (by kernel_rfl) (fun _ _ _ h => h) (Or.inl ⟨by rfl, fun W hW => ?y3⟩) hs0 ?_
            case y3 => go_simp
            try dsimp only [Act.put]
            try simp only [List.setIfInBounds_toArray, List.set_cons_zero, List.set_cons_succ]
            refine wpAnyH_take (i := 3) (oi := { dst := some 79, op := Op.load 27 (Operand.tmp 78), type := 27, pos := "law.go:146", after := #[{ on := 2, ground := Ground.data }], guard := none }) (v := .agg #[.slice A1 n1 k1, .slice A2 n2 k2]) rfl (by kernel_rfl) (by kernel_rfl) (by kernel_rfl) (fun _ _ _ h => h) (Or.inl ⟨by rfl, fun W hW => by have hc1 := hW.1.1; have hc2 := hW.1.2; go_simp⟩) hs0 ?_
            try dsimp only [Act.put]
            try simp only [List.setIfInBounds_toArray, List.set_cons_zero, List.set_cons_succ]
            refine wpAnyH_take (i := 4) (oi := { dst := some 80, op := Op.move (Operand.tmp 13), type := 23, pos := "law.go:146", after := #[], guard := none }) (v := .slice (some ⟨g, o, none⟩) 7 c) rfl (by kernel_rfl) (by kernel_rfl) (by kernel_rfl) (fun _ _ _ h => h) (Or.inl ⟨by rfl, fun W hW => ?y5⟩) hs0 ?_
            case y5 => go_simp
            try dsimp only [Act.put]
            try simp only [List.setIfInBounds_toArray, List.set_cons_zero, List.set_cons_succ]
            refine wpAnyH_take (i := 5) (oi := { dst := some 81, op := Op.move (Operand.tmp 19), type := 3, pos := "law.go:146", after := #[], guard := none }) (v := .int .i64 ((k : Nat) : Int)) rfl (by kernel_rfl) (by kernel_rfl) (by kernel_rfl) (fun _ _ _ h => h) (Or.inl ⟨by rfl, fun W hW => ?y6⟩) hs0 ?_
            case y6 => go_simp
            try dsimp only [Act.put]
            try simp only [List.setIfInBounds_toArray, List.set_cons_zero, List.set_cons_succ]
            refine wpAnyH_take (i := 6) (oi := { dst := some 82, op := Op.indexAddr 23 (Operand.tmp 80) (Operand.tmp 81), type := 0, pos := "law.go:146", after := #[{ on := 4, ground := Ground.data }, { on := 5, ground := Ground.data }], guard := none }) (v := .pointer (some ⟨g, o + k * 2, none⟩)) rfl (by kernel_rfl) (by kernel_rfl) (by kernel_rfl) (fun _ _ _ h => h) (Or.inl ⟨by rfl, fun W hW => ?y7⟩) hs0 ?_
            case y7 => go_simp
            try dsimp only [Act.put]
            try simp only [List.setIfInBounds_toArray, List.set_cons_zero, List.set_cons_succ]
            refine wpAnyH_take (i := 7) (oi := { dst := some 83, op := Op.load 27 (Operand.tmp 82), type := 27, pos := "law.go:146", after := #[{ on := 6, ground := Ground.data }], guard := none }) (v := .agg #[.slice A3 n3 k3, .slice A4 n4 k4]) rfl (by kernel_rfl) (by kernel_rfl) (by kernel_rfl) (fun _ _ _ h => h) (Or.inl ⟨by rfl, fun W hW => by have hc1 := hW.2.1; have hc2 := hW.2.2; go_simp⟩) hs0 ?_
            try dsimp only [Act.put]
            try simp only [List.setIfInBounds_toArray, List.set_cons_zero, List.set_cons_succ]
            refine wpAnyH_ready (rs := [8, 12]) (by kernel_rfl) (by simp) ?_
            refine AllReadyH.cons (o := { dst := some 84, op := Op.call { callee := Callee.value (Operand.func 23), args := #[Operand.tmp 79, Operand.tmp 83], argTypes := #[27, 27] }, type := 31, pos := "law.go:146", after := #[{ on := 3, ground := Ground.data }, { on := 7, ground := Ground.data }], guard := none }) rfl (fun K hK => ?_) (AllReadyH.cons (o := { dst := some 20, op := Op.alloc 27, type := 0, pos := "law.go:146", after := #[], guard := none }) rfl (fun K hK => ?_) AllReadyH.nil)
            · rw [if_pos (by rfl)]
              go_simp
              refine (HO.out _ k0.out).mono ?_
              rintro e w9 ⟨v, rfl, hrv, hb⟩
              obtain ⟨u1, u2, rfl, hk⟩ := gd_rk (X := (R, E)) hrv HGD.out
              have k17 := Lib.hid (below_step k0.out hb)
              have hs18 := HSW.out _ k17.out
              obtain ⟨C10, m11, j12, e1⟩ := sl_form hk.s1
              obtain ⟨D13, p14, q15, e2⟩ := sl_form hk.s2
              subst e1 e2
              have KR16 := Lib.hid hk
              clear hk hb hrv
              go_wp2_with fail
              refine hK.out _ _ hs18 (fun _ => ?_)
              clear hK K
              try dsimp only [Act.put]
              try simp only [List.setIfInBounds_toArray, List.set_cons_zero, List.set_cons_succ]
              refine wpAnyH_take (i := 9) (oi := { dst := some 75, op := Op.move (Operand.tmp 84), type := 31, pos := "law.go:146", after := #[{ on := 8, ground := Ground.data }], guard := none }) (v := .tuple #[.agg #[.slice C10 m11 j12, .slice D13 p14 q15], .int .i64 ((E : Nat) : Int)]) rfl (by kernel_rfl) (by kernel_rfl) (by kernel_rfl) (fun _ _ _ h => h) (Or.inl ⟨by rfl, fun W hW => ?y19⟩) hs18 ?_
              case y19 => go_simp
              try dsimp only [Act.put]
              try simp only [List.setIfInBounds_toArray, List.set_cons_zero, List.set_cons_succ]
              refine wpAnyH_take (i := 10) (oi := { dst := some 85, op := Op.extract (Operand.tmp 75) 0, type := 27, pos := "law.go:146", after := #[{ on := 9, ground := Ground.data }], guard := none }) (v := .agg #[.slice C10 m11 j12, .slice D13 p14 q15]) rfl (by kernel_rfl) (by kernel_rfl) (by kernel_rfl) (fun _ _ _ h => h) (Or.inl ⟨by rfl, fun W hW => ?y20⟩) hs18 ?_
              case y20 => go_simp
              try dsimp only [Act.put]
              try simp only [List.setIfInBounds_toArray, List.set_cons_zero, List.set_cons_succ]
              refine wpAnyH_take (i := 11) (oi := { dst := some 86, op := Op.extract (Operand.tmp 75) 1, type := 28, pos := "law.go:146", after := #[{ on := 9, ground := Ground.data }, { on := 13, ground := Ground.gcOnly Departure.lateStores }], guard := none }) (v := .int .i64 ((E : Nat) : Int)) rfl (by kernel_rfl) (by kernel_rfl) (by kernel_rfl) (fun _ _ _ h => h) (Or.inl ⟨by rfl, fun W hW => ?y21⟩) hs18 ?_
              case y21 => go_simp
              try dsimp only [Act.put]
              try simp only [List.setIfInBounds_toArray, List.set_cons_zero, List.set_cons_succ]
              refine wpAnyH_ready (rs := [12]) (by kernel_rfl) (by simp) ?_
              refine AllReadyH.cons (o := { dst := some 20, op := Op.alloc 27, type := 0, pos := "law.go:146", after := #[], guard := none }) rfl (fun K hK => ?_) AllReadyH.nil
              rw [if_pos (by rfl)]
              go_simp
              have hbt := bel0 w9
              have k25 := Lib.hid (below_step k17.out hbt)
              have hs26 := HSW.out _ k25.out
              have KR27 := Lib.hid (KR16.out.below hbt)
              have N23 := Lib.hid (Bx.new (rk_none w9))
              have LB28 := Lib.hid (show w1.heap.size ≤ w9.heap.size from k17.out.size)
              clear hbt
              obtain ⟨u22, hW⟩ : ∃ W', w9.alloc (.cells #[.slice none 0 0, .slice none 0 0] 27) = W' := ⟨_, rfl⟩
              rw [hW] at k25 hs26 N23 KR27 ⊢
              clear hW
              obtain ⟨gn24, hg⟩ : ∃ g, w9.heap.size = g := ⟨_, rfl⟩
              rw [hg] at N23 LB28 ⊢
              clear hg
              refine hK.out _ _ hs26 (fun _ => ?_)
              clear hK K
              try dsimp only [Act.put]
              try simp only [List.setIfInBounds_toArray, List.set_cons_zero, List.set_cons_succ]
              refine wpAnyH_ready (rs := [13]) (by kernel_rfl) (by simp) ?_
              refine AllReadyH.cons (o := { dst := none, op := Op.store 27 (Operand.tmp 20) (Operand.tmp 85), type := 0, pos := "law.go:146", after := #[{ on := 12, ground := Ground.data }, { on := 10, ground := Ground.data }, { on := 8, ground := Ground.chain }, { on := 0, ground := Ground.phase }, { on := 1, ground := Ground.phase }, { on := 2, ground := Ground.phase }, { on := 3, ground := Ground.phase }, { on := 4, ground := Ground.phase }, { on := 5, ground := Ground.phase }, { on := 6, ground := Ground.phase }, { on := 7, ground := Ground.phase }, { on := 8, ground := Ground.phase }, { on := 9, ground := Ground.phase }, { on := 10, ground := Ground.phase }, { on := 11, ground := Ground.textOnly Departure.lateStores }, { on := 12, ground := Ground.phase }], guard := none }) rfl (fun K hK => ?_) AllReadyH.nil
              rw [if_pos (by rfl)]
              obtain ⟨hc1, hc2, hf1, hf2⟩ := blk_cells2 N23.out.b
              go_simp
              refine hK.out _ _ (HSW.out _ (below_put0 k25.out LB28.out (.slice C10 m11 j12) (.slice D13 p14 q15))) (fun _ => ?_)
              clear hK K
              try dsimp only [Act.put]
              try simp only [List.setIfInBounds_toArray, List.set_cons_zero, List.set_cons_succ]
              refine wpAnyH_take (i := 14) (oi := { dst := some 21, op := Op.assign (Operand.tmp 86), type := 28, pos := "law.go:146", after := #[{ on := 11, ground := Ground.data }, { on := 13, ground := Ground.chain }, { on := 0, ground := Ground.phase }, { on := 1, ground := Ground.phase }, { on := 2, ground := Ground.phase }, { on := 3, ground := Ground.phase }, { on := 4, ground := Ground.phase }, { on := 5, ground := Ground.phase }, { on := 6, ground := Ground.phase }, { on := 7, ground := Ground.phase }, { on := 8, ground := Ground.phase }, { on := 9, ground := Ground.phase }, { on := 10, ground := Ground.phase }, { on := 11, ground := Ground.phase }, { on := 12, ground := Ground.phase }, { on := 13, ground := Ground.phase }], guard := none }) (v := .int .i64 ((E : Nat) : Int)) rfl (by kernel_rfl) (by kernel_rfl) (by kernel_rfl) (fun _ _ _ h => h) (Or.inl ⟨by rfl, fun W hW => ?y29⟩) (HSW.out _ (below_put0 k25.out LB28.out (.slice C10 m11 j12) (.slice D13 p14 q15))) ?_
              case y29 => go_simp
              try dsimp only [Act.put]
              try simp only [List.setIfInBounds_toArray, List.set_cons_zero, List.set_cons_succ]
              refine wpAnyH_done (by kernel_rfl) ?_ _
              try dsimp only [Act.put]
              try simp only [List.setIfInBounds_toArray, List.set_cons_zero, List.set_cons_succ]
              go_wp2_with fail
              go_meet
              exact ⟨gn24, C10, m11, j12, D13, p14, q15, rfl, rfl, Lib.hid ⟨N23.out.put KR27.out, (below_put0 k25.out LB28.out (.slice C10 m11 j12) (.slice D13 p14 q15))⟩⟩
            · rw [if_pos (by rfl)]
              go_simp
              have hbt := bel0 Wd
              have k33 := Lib.hid (below_step k0.out hbt)
              have hs34 := HSW.out _ k33.out
              have N31 := Lib.hid (Bx.new (rk_none Wd))
              have LB35 := Lib.hid (show w1.heap.size ≤ Wd.heap.size from k0.out.size)
              clear hbt
              obtain ⟨u30, hW⟩ : ∃ W', Wd.alloc (.cells #[.slice none 0 0, .slice none 0 0] 27) = W' := ⟨_, rfl⟩
              rw [hW] at k33 hs34 N31 ⊢
              clear hW
              obtain ⟨gn32, hg⟩ : ∃ g, Wd.heap.size = g := ⟨_, rfl⟩
              rw [hg] at N31 LB35 ⊢
              clear hg
              refine hK.out _ _ hs34 (fun _ => ?_)
              clear hK K
              try dsimp only [Act.put]
              try simp only [List.setIfInBounds_toArray, List.set_cons_zero, List.set_cons_succ]
              refine wpAnyH_ready (rs := [8]) (by kernel_rfl) (by simp) ?_
              refine AllReadyH.cons (o := { dst := some 84, op := Op.call { callee := Callee.value (Operand.func 23), args := #[Operand.tmp 79, Operand.tmp 83], argTypes := #[27, 27] }, type := 31, pos := "law.go:146", after := #[{ on := 3, ground := Ground.data }, { on := 7, ground := Ground.data }], guard := none }) rfl (fun K hK => ?_) AllReadyH.nil
              rw [if_pos (by rfl)]
              go_simp
              refine (HO.out _ k33.out).mono ?_
              rintro e w36 ⟨v, rfl, hrv, hb⟩
              obtain ⟨u1, u2, rfl, hk⟩ := gd_rk (X := (R, E)) hrv HGD.out
              have k44 := Lib.hid (below_step k33.out hb)
              have hs45 := HSW.out _ k44.out
              have N46 := Lib.hid (N31.out.below hb)
              obtain ⟨C37, m38, j39, e1⟩ := sl_form hk.s1
              obtain ⟨D40, p41, q42, e2⟩ := sl_form hk.s2
              subst e1 e2
              have KR43 := Lib.hid hk
              clear hk hb hrv
              go_wp2_with fail
              refine hK.out _ _ hs45 (fun _ => ?_)
              clear hK K
              try dsimp only [Act.put]
              try simp only [List.setIfInBounds_toArray, List.set_cons_zero, List.set_cons_succ]
              refine wpAnyH_take (i := 9) (oi := { dst := some 75, op := Op.move (Operand.tmp 84), type := 31, pos := "law.go:146", after := #[{ on := 8, ground := Ground.data }], guard := none }) (v := .tuple #[.agg #[.slice C37 m38 j39, .slice D40 p41 q42], .int .i64 ((E : Nat) : Int)]) rfl (by kernel_rfl) (by kernel_rfl) (by kernel_rfl) (fun _ _ _ h => h) (Or.inl ⟨by rfl, fun W hW => ?y47⟩) hs45 ?_
              case y47 => go_simp
              try dsimp only [Act.put]
              try simp only [List.setIfInBounds_toArray, List.set_cons_zero, List.set_cons_succ]
              refine wpAnyH_take (i := 10) (oi := { dst := some 85, op := Op.extract (Operand.tmp 75) 0, type := 27, pos := "law.go:146", after := #[{ on := 9, ground := Ground.data }], guard := none }) (v := .agg #[.slice C37 m38 j39, .slice D40 p41 q42]) rfl (by kernel_rfl) (by kernel_rfl) (by kernel_rfl) (fun _ _ _ h => h) (Or.inl ⟨by rfl, fun W hW => ?y48⟩) hs45 ?_
              case y48 => go_simp
              try dsimp only [Act.put]
              try simp only [List.setIfInBounds_toArray, List.set_cons_zero, List.set_cons_succ]
              refine wpAnyH_take (i := 11) (oi := { dst := some 86, op := Op.extract (Operand.tmp 75) 1, type := 28, pos := "law.go:146", after := #[{ on := 9, ground := Ground.data }, { on := 13, ground := Ground.gcOnly Departure.lateStores }], guard := none }) (v := .int .i64 ((E : Nat) : Int)) rfl (by kernel_rfl) (by kernel_rfl) (by kernel_rfl) (fun _ _ _ h => h) (Or.inl ⟨by rfl, fun W hW => ?y49⟩) hs45 ?_
              case y49 => go_simp
              try dsimp only [Act.put]
              try simp only [List.setIfInBounds_toArray, List.set_cons_zero, List.set_cons_succ]
              refine wpAnyH_ready (rs := [13]) (by kernel_rfl) (by simp) ?_
              refine AllReadyH.cons (o := { dst := none, op := Op.store 27 (Operand.tmp 20) (Operand.tmp 85), type := 0, pos := "law.go:146", after := #[{ on := 12, ground := Ground.data }, { on := 10, ground := Ground.data }, { on := 8, ground := Ground.chain }, { on := 0, ground := Ground.phase }, { on := 1, ground := Ground.phase }, { on := 2, ground := Ground.phase }, { on := 3, ground := Ground.phase }, { on := 4, ground := Ground.phase }, { on := 5, ground := Ground.phase }, { on := 6, ground := Ground.phase }, { on := 7, ground := Ground.phase }, { on := 8, ground := Ground.phase }, { on := 9, ground := Ground.phase }, { on := 10, ground := Ground.phase }, { on := 11, ground := Ground.textOnly Departure.lateStores }, { on := 12, ground := Ground.phase }], guard := none }) rfl (fun K hK => ?_) AllReadyH.nil
              rw [if_pos (by rfl)]
              obtain ⟨hc1, hc2, hf1, hf2⟩ := blk_cells2 N46.out.b
              go_simp
              refine hK.out _ _ (HSW.out _ (below_put0 k44.out LB35.out (.slice C37 m38 j39) (.slice D40 p41 q42))) (fun _ => ?_)
              clear hK K
              try dsimp only [Act.put]
              try simp only [List.setIfInBounds_toArray, List.set_cons_zero, List.set_cons_succ]
              refine wpAnyH_take (i := 14) (oi := { dst := some 21, op := Op.assign (Operand.tmp 86), type := 28, pos := "law.go:146", after := #[{ on := 11, ground := Ground.data }, { on := 13, ground := Ground.chain }, { on := 0, ground := Ground.phase }, { on := 1, ground := Ground.phase }, { on := 2, ground := Ground.phase }, { on := 3, ground := Ground.phase }, { on := 4, ground := Ground.phase }, { on := 5, ground := Ground.phase }, { on := 6, ground := Ground.phase }, { on := 7, ground := Ground.phase }, { on := 8, ground := Ground.phase }, { on := 9, ground := Ground.phase }, { on := 10, ground := Ground.phase }, { on := 11, ground := Ground.phase }, { on := 12, ground := Ground.phase }, { on := 13, ground := Ground.phase }], guard := none }) (v := .int .i64 ((E : Nat) : Int)) rfl (by kernel_rfl) (by kernel_rfl) (by kernel_rfl) (fun _ _ _ h => h) (Or.inl ⟨by rfl, fun W hW => ?y50⟩) (HSW.out _ (below_put0 k44.out LB35.out (.slice C37 m38 j39) (.slice D40 p41 q42))) ?_
              case y50 => go_simp
              try dsimp only [Act.put]
              try simp only [List.setIfInBounds_toArray, List.set_cons_zero, List.set_cons_succ]
              refine wpAnyH_done (by kernel_rfl) ?_ _
              try dsimp only [Act.put]
              try simp only [List.setIfInBounds_toArray, List.set_cons_zero, List.set_cons_succ]
              go_wp2_with fail
              go_meet
              exact ⟨gn32, C37, m38, j39, D40, p41, q42, rfl, rfl, Lib.hid ⟨N46.out.put KR43.out, (below_put0 k44.out LB35.out (.slice C37 m38 j39) (.slice D40 p41 q42))⟩⟩
          case rest =>
            obtain ⟨ga, C1, m1, j1, C2, m2, j2, rfl, rfl, hall⟩ := hcut
            clear BR HO
            have VA := Lib.hid hall.out.1; have B3 := Lib.hid hall.out.2
            clear hall
            go_upto_region 13 with (fail)
            go_cut [22, 23] from 75 to 107 (fun s22 s23 wx => ∃ gn D1 m3 j3 D2 m4 j4, s22 = .pointer (some ⟨gn, 0, none⟩) ∧ s23 = .int .i64 ((E : Nat) : Int) ∧ Hid (Bx wx gn D1 m3 j3 D2 m4 j4 R ∧ Bx wx ga C1 m1 j1 C2 m2 j2 R ∧ Below w1.heap.size w1 wx))
            case first =>
              refine wp_region_held (S := fun W => (W.cell? ⟨g, o + i * 2, none⟩ = some (.slice A1 n1 k1) ∧ W.cell? ⟨g, o + i * 2 + 1, none⟩ = some (.slice A2 n2 k2)) ∧ (W.cell? ⟨g, o + k * 2, none⟩ = some (.slice A3 n3 k3) ∧ W.cell? ⟨g, o + k * 2 + 1, none⟩ = some (.slice A4 n4 k4))) (by kernel_rfl) ?_
              change wpAnyH _ _ _ _ _ _ _ _ (World.drew wc)
              have k0 : Hid (Below w1.heap.size w1 (World.drew wc)) := Lib.hid (below_drewN B3.out 1)
              have hs0 := HSW.out _ k0.out
              have ZVA := Lib.hid (show Bx (World.drew wc) ga C1 m1 j1 C2 m2 j2 R from VA.out.below (below_drewN (Below.refl wc.heap.size wc) 1))
              generalize World.drew wc = Wd at hs0 k0 ZVA ⊢
              refine wpAnyH_take (i := 0) (oi := { dst := some 88, op := Op.move (Operand.tmp 13), type := 23, pos := "law.go:147", after := #[], guard := none }) (v := .slice (some ⟨g, o, none⟩) 7 c) rfl (by kernel_rfl) (by kernel_rfl) (by kernel_rfl) (fun _ _ _ h => h) (Or.inl ⟨by rfl, fun W hW => ?y1⟩) hs0 ?_
              case y1 => go_simp
              try dsimp only [Act.put]
              try simp only [List.setIfInBounds_toArray, List.set_cons_zero, List.set_cons_succ]
              refine wpAnyH_take (i := 1) (oi := { dst := some 89, op := Op.move (Operand.tmp 14), type := 3, pos := "law.go:147", after := #[], guard := none }) (v := .int .i64 ((i : Nat) : Int)) rfl (by kernel_rfl) (by kernel_rfl) (by kernel_rfl) (fun _ _ _ h => h) (Or.inl ⟨by rfl, fun W hW => ?y2⟩) hs0 ?_
              case y2 => go_simp
              try dsimp only [Act.put]
              try simp only [List.setIfInBounds_toArray, List.set_cons_zero, List.set_cons_succ]
              refine wpAnyH_take (i := 2) (oi := { dst := some 90, op := Op.indexAddr 23 (Operand.tmp 88) (Operand.tmp 89), type := 0, pos := "law.go:147", after := #[{ on := 0, ground := Ground.data }, { on := 1, ground := Ground.data }], guard := none }) (v := .pointer (some ⟨g, o + i * 2, none⟩)) rfl (by kernel_rfl) (by kernel_rfl) (by kernel_rfl) (fun _ _ _ h => h) (Or.inl ⟨by rfl, fun W hW => ?y3⟩) hs0 ?_
              case y3 => go_simp
              try dsimp only [Act.put]
              try simp only [List.setIfInBounds_toArray, List.set_cons_zero, List.set_cons_succ]
              refine wpAnyH_take (i := 3) (oi := { dst := some 91, op := Op.load 27 (Operand.tmp 90), type := 27, pos := "law.go:147", after := #[{ on := 2, ground := Ground.data }], guard := none }) (v := .agg #[.slice A1 n1 k1, .slice A2 n2 k2]) rfl (by kernel_rfl) (by kernel_rfl) (by kernel_rfl) (fun _ _ _ h => h) (Or.inl ⟨by rfl, fun W hW => by have hc1 := hW.1.1; have hc2 := hW.1.2; go_simp⟩) hs0 ?_
              try dsimp only [Act.put]
              try simp only [List.setIfInBounds_toArray, List.set_cons_zero, List.set_cons_succ]
              refine wpAnyH_take (i := 4) (oi := { dst := some 92, op := Op.move (Operand.tmp 13), type := 23, pos := "law.go:147", after := #[], guard := none }) (v := .slice (some ⟨g, o, none⟩) 7 c) rfl (by kernel_rfl) (by kernel_rfl) (by kernel_rfl) (fun _ _ _ h => h) (Or.inl ⟨by rfl, fun W hW => ?y5⟩) hs0 ?_
              case y5 => go_simp
              try dsimp only [Act.put]
              try simp only [List.setIfInBounds_toArray, List.set_cons_zero, List.set_cons_succ]
              refine wpAnyH_take (i := 5) (oi := { dst := some 93, op := Op.move (Operand.tmp 19), type := 3, pos := "law.go:147", after := #[], guard := none }) (v := .int .i64 ((k : Nat) : Int)) rfl (by kernel_rfl) (by kernel_rfl) (by kernel_rfl) (fun _ _ _ h => h) (Or.inl ⟨by rfl, fun W hW => ?y6⟩) hs0 ?_
              case y6 => go_simp
              try dsimp only [Act.put]
              try simp only [List.setIfInBounds_toArray, List.set_cons_zero, List.set_cons_succ]
              refine wpAnyH_take (i := 6) (oi := { dst := some 94, op := Op.indexAddr 23 (Operand.tmp 92) (Operand.tmp 93), type := 0, pos := "law.go:147", after := #[{ on := 4, ground := Ground.data }, { on := 5, ground := Ground.data }], guard := none }) (v := .pointer (some ⟨g, o + k * 2, none⟩)) rfl (by kernel_rfl) (by kernel_rfl) (by kernel_rfl) (fun _ _ _ h => h) (Or.inl ⟨by rfl, fun W hW => ?y7⟩) hs0 ?_
              case y7 => go_simp
              try dsimp only [Act.put]
              try simp only [List.setIfInBounds_toArray, List.set_cons_zero, List.set_cons_succ]
              refine wpAnyH_take (i := 7) (oi := { dst := some 95, op := Op.load 27 (Operand.tmp 94), type := 27, pos := "law.go:147", after := #[{ on := 6, ground := Ground.data }], guard := none }) (v := .agg #[.slice A3 n3 k3, .slice A4 n4 k4]) rfl (by kernel_rfl) (by kernel_rfl) (by kernel_rfl) (fun _ _ _ h => h) (Or.inl ⟨by rfl, fun W hW => by have hc1 := hW.2.1; have hc2 := hW.2.2; go_simp⟩) hs0 ?_
              try dsimp only [Act.put]
              try simp only [List.setIfInBounds_toArray, List.set_cons_zero, List.set_cons_succ]
              refine wpAnyH_ready (rs := [8, 12]) (by kernel_rfl) (by simp) ?_
              refine AllReadyH.cons (o := { dst := some 96, op := Op.call { callee := Callee.value (Operand.func 24), args := #[Operand.tmp 91, Operand.tmp 95], argTypes := #[27, 27] }, type := 31, pos := "law.go:147", after := #[{ on := 3, ground := Ground.data }, { on := 7, ground := Ground.data }], guard := none }) rfl (fun K hK => ?_) (AllReadyH.cons (o := { dst := some 22, op := Op.alloc 27, type := 0, pos := "law.go:147", after := #[], guard := none }) rfl (fun K hK => ?_) AllReadyH.nil)
              · rw [if_pos (by rfl)]
                go_simp
                refine (HQ.out _ k0.out).mono ?_
                rintro e w9 ⟨v, rfl, hrv, hb⟩
                obtain ⟨u1, u2, rfl, hk⟩ := gd_rk (X := (R, E)) hrv HGD.out
                have k17 := Lib.hid (below_step k0.out hb)
                have hs18 := HSW.out _ k17.out
                have VA19 := Lib.hid (ZVA.out.below hb)
                obtain ⟨C10, m11, j12, e1⟩ := sl_form hk.s1
                obtain ⟨D13, p14, q15, e2⟩ := sl_form hk.s2
                subst e1 e2
                have KR16 := Lib.hid hk
                clear hk hb hrv
                go_wp2_with fail
                refine hK.out _ _ hs18 (fun _ => ?_)
                clear hK K
                try dsimp only [Act.put]
                try simp only [List.setIfInBounds_toArray, List.set_cons_zero, List.set_cons_succ]
                refine wpAnyH_take (i := 9) (oi := { dst := some 87, op := Op.move (Operand.tmp 96), type := 31, pos := "law.go:147", after := #[{ on := 8, ground := Ground.data }], guard := none }) (v := .tuple #[.agg #[.slice C10 m11 j12, .slice D13 p14 q15], .int .i64 ((E : Nat) : Int)]) rfl (by kernel_rfl) (by kernel_rfl) (by kernel_rfl) (fun _ _ _ h => h) (Or.inl ⟨by rfl, fun W hW => ?y20⟩) hs18 ?_
                case y20 => go_simp
                try dsimp only [Act.put]
                try simp only [List.setIfInBounds_toArray, List.set_cons_zero, List.set_cons_succ]
                refine wpAnyH_take (i := 10) (oi := { dst := some 97, op := Op.extract (Operand.tmp 87) 0, type := 27, pos := "law.go:147", after := #[{ on := 9, ground := Ground.data }], guard := none }) (v := .agg #[.slice C10 m11 j12, .slice D13 p14 q15]) rfl (by kernel_rfl) (by kernel_rfl) (by kernel_rfl) (fun _ _ _ h => h) (Or.inl ⟨by rfl, fun W hW => ?y21⟩) hs18 ?_
                case y21 => go_simp
                try dsimp only [Act.put]
                try simp only [List.setIfInBounds_toArray, List.set_cons_zero, List.set_cons_succ]
                refine wpAnyH_take (i := 11) (oi := { dst := some 98, op := Op.extract (Operand.tmp 87) 1, type := 28, pos := "law.go:147", after := #[{ on := 9, ground := Ground.data }, { on := 13, ground := Ground.gcOnly Departure.lateStores }], guard := none }) (v := .int .i64 ((E : Nat) : Int)) rfl (by kernel_rfl) (by kernel_rfl) (by kernel_rfl) (fun _ _ _ h => h) (Or.inl ⟨by rfl, fun W hW => ?y22⟩) hs18 ?_
                case y22 => go_simp
                try dsimp only [Act.put]
                try simp only [List.setIfInBounds_toArray, List.set_cons_zero, List.set_cons_succ]
                refine wpAnyH_ready (rs := [12]) (by kernel_rfl) (by simp) ?_
                refine AllReadyH.cons (o := { dst := some 22, op := Op.alloc 27, type := 0, pos := "law.go:147", after := #[], guard := none }) rfl (fun K hK => ?_) AllReadyH.nil
                rw [if_pos (by rfl)]
                go_simp
                have hbt := bel0 w9
                have k26 := Lib.hid (below_step k17.out hbt)
                have hs27 := HSW.out _ k26.out
                have KR28 := Lib.hid (KR16.out.below hbt)
                have VA29 := Lib.hid (VA19.out.below hbt)
                have N24 := Lib.hid (Bx.new (rk_none w9))
                have LX30 := Lib.hid (show ga < w9.heap.size from VA19.out.b.lt)
                have LB31 := Lib.hid (show w1.heap.size ≤ w9.heap.size from k17.out.size)
                clear hbt
                obtain ⟨u23, hW⟩ : ∃ W', w9.alloc (.cells #[.slice none 0 0, .slice none 0 0] 27) = W' := ⟨_, rfl⟩
                rw [hW] at k26 hs27 N24 KR28 VA29 ⊢
                clear hW
                obtain ⟨gn25, hg⟩ : ∃ g, w9.heap.size = g := ⟨_, rfl⟩
                rw [hg] at N24 LX30 LB31 ⊢
                clear hg
                refine hK.out _ _ hs27 (fun _ => ?_)
                clear hK K
                try dsimp only [Act.put]
                try simp only [List.setIfInBounds_toArray, List.set_cons_zero, List.set_cons_succ]
                refine wpAnyH_ready (rs := [13]) (by kernel_rfl) (by simp) ?_
                refine AllReadyH.cons (o := { dst := none, op := Op.store 27 (Operand.tmp 22) (Operand.tmp 97), type := 0, pos := "law.go:147", after := #[{ on := 12, ground := Ground.data }, { on := 10, ground := Ground.data }, { on := 8, ground := Ground.chain }, { on := 0, ground := Ground.phase }, { on := 1, ground := Ground.phase }, { on := 2, ground := Ground.phase }, { on := 3, ground := Ground.phase }, { on := 4, ground := Ground.phase }, { on := 5, ground := Ground.phase }, { on := 6, ground := Ground.phase }, { on := 7, ground := Ground.phase }, { on := 8, ground := Ground.phase }, { on := 9, ground := Ground.phase }, { on := 10, ground := Ground.phase }, { on := 11, ground := Ground.textOnly Departure.lateStores }, { on := 12, ground := Ground.phase }], guard := none }) rfl (fun K hK => ?_) AllReadyH.nil
                rw [if_pos (by rfl)]
                obtain ⟨hc1, hc2, hf1, hf2⟩ := blk_cells2 N24.out.b
                go_simp
                refine hK.out _ _ (HSW.out _ (below_put0 k26.out LB31.out (.slice C10 m11 j12) (.slice D13 p14 q15))) (fun _ => ?_)
                clear hK K
                try dsimp only [Act.put]
                try simp only [List.setIfInBounds_toArray, List.set_cons_zero, List.set_cons_succ]
                refine wpAnyH_take (i := 14) (oi := { dst := some 23, op := Op.assign (Operand.tmp 98), type := 28, pos := "law.go:147", after := #[{ on := 11, ground := Ground.data }, { on := 13, ground := Ground.chain }, { on := 0, ground := Ground.phase }, { on := 1, ground := Ground.phase }, { on := 2, ground := Ground.phase }, { on := 3, ground := Ground.phase }, { on := 4, ground := Ground.phase }, { on := 5, ground := Ground.phase }, { on := 6, ground := Ground.phase }, { on := 7, ground := Ground.phase }, { on := 8, ground := Ground.phase }, { on := 9, ground := Ground.phase }, { on := 10, ground := Ground.phase }, { on := 11, ground := Ground.phase }, { on := 12, ground := Ground.phase }, { on := 13, ground := Ground.phase }], guard := none }) (v := .int .i64 ((E : Nat) : Int)) rfl (by kernel_rfl) (by kernel_rfl) (by kernel_rfl) (fun _ _ _ h => h) (Or.inl ⟨by rfl, fun W hW => ?y32⟩) (HSW.out _ (below_put0 k26.out LB31.out (.slice C10 m11 j12) (.slice D13 p14 q15))) ?_
                case y32 => go_simp
                try dsimp only [Act.put]
                try simp only [List.setIfInBounds_toArray, List.set_cons_zero, List.set_cons_succ]
                refine wpAnyH_done (by kernel_rfl) ?_ _
                try dsimp only [Act.put]
                try simp only [List.setIfInBounds_toArray, List.set_cons_zero, List.set_cons_succ]
                go_wp2_with fail
                go_meet
                exact ⟨gn25, C10, m11, j12, D13, p14, q15, rfl, rfl, Lib.hid ⟨N24.out.put KR28.out, VA29.out.far N24.out (by have := LX30.out; omega) C10 m11 j12 D13 p14 q15, (below_put0 k26.out LB31.out (.slice C10 m11 j12) (.slice D13 p14 q15))⟩⟩
              · rw [if_pos (by rfl)]
                go_simp
                have hbt := bel0 Wd
                have k36 := Lib.hid (below_step k0.out hbt)
                have hs37 := HSW.out _ k36.out
                have VA38 := Lib.hid (ZVA.out.below hbt)
                have N34 := Lib.hid (Bx.new (rk_none Wd))
                have LX39 := Lib.hid (show ga < Wd.heap.size from ZVA.out.b.lt)
                have LB40 := Lib.hid (show w1.heap.size ≤ Wd.heap.size from k0.out.size)
                clear hbt
                obtain ⟨u33, hW⟩ : ∃ W', Wd.alloc (.cells #[.slice none 0 0, .slice none 0 0] 27) = W' := ⟨_, rfl⟩
                rw [hW] at k36 hs37 N34 VA38 ⊢
                clear hW
                obtain ⟨gn35, hg⟩ : ∃ g, Wd.heap.size = g := ⟨_, rfl⟩
                rw [hg] at N34 LX39 LB40 ⊢
                clear hg
                refine hK.out _ _ hs37 (fun _ => ?_)
                clear hK K
                try dsimp only [Act.put]
                try simp only [List.setIfInBounds_toArray, List.set_cons_zero, List.set_cons_succ]
                refine wpAnyH_ready (rs := [8]) (by kernel_rfl) (by simp) ?_
                refine AllReadyH.cons (o := { dst := some 96, op := Op.call { callee := Callee.value (Operand.func 24), args := #[Operand.tmp 91, Operand.tmp 95], argTypes := #[27, 27] }, type := 31, pos := "law.go:147", after := #[{ on := 3, ground := Ground.data }, { on := 7, ground := Ground.data }], guard := none }) rfl (fun K hK => ?_) AllReadyH.nil
                rw [if_pos (by rfl)]
                go_simp
                refine (HQ.out _ k36.out).mono ?_
                rintro e w41 ⟨v, rfl, hrv, hb⟩
                obtain ⟨u1, u2, rfl, hk⟩ := gd_rk (X := (R, E)) hrv HGD.out
                have k49 := Lib.hid (below_step k36.out hb)
                have hs50 := HSW.out _ k49.out
                have N51 := Lib.hid (N34.out.below hb)
                have VA52 := Lib.hid (VA38.out.below hb)
                obtain ⟨C42, m43, j44, e1⟩ := sl_form hk.s1
                obtain ⟨D45, p46, q47, e2⟩ := sl_form hk.s2
                subst e1 e2
                have KR48 := Lib.hid hk
                clear hk hb hrv
                go_wp2_with fail
                refine hK.out _ _ hs50 (fun _ => ?_)
                clear hK K
                try dsimp only [Act.put]
                try simp only [List.setIfInBounds_toArray, List.set_cons_zero, List.set_cons_succ]
                refine wpAnyH_take (i := 9) (oi := { dst := some 87, op := Op.move (Operand.tmp 96), type := 31, pos := "law.go:147", after := #[{ on := 8, ground := Ground.data }], guard := none }) (v := .tuple #[.agg #[.slice C42 m43 j44, .slice D45 p46 q47], .int .i64 ((E : Nat) : Int)]) rfl (by kernel_rfl) (by kernel_rfl) (by kernel_rfl) (fun _ _ _ h => h) (Or.inl ⟨by rfl, fun W hW => ?y53⟩) hs50 ?_
                case y53 => go_simp
                try dsimp only [Act.put]
                try simp only [List.setIfInBounds_toArray, List.set_cons_zero, List.set_cons_succ]
                refine wpAnyH_take (i := 10) (oi := { dst := some 97, op := Op.extract (Operand.tmp 87) 0, type := 27, pos := "law.go:147", after := #[{ on := 9, ground := Ground.data }], guard := none }) (v := .agg #[.slice C42 m43 j44, .slice D45 p46 q47]) rfl (by kernel_rfl) (by kernel_rfl) (by kernel_rfl) (fun _ _ _ h => h) (Or.inl ⟨by rfl, fun W hW => ?y54⟩) hs50 ?_
                case y54 => go_simp
                try dsimp only [Act.put]
                try simp only [List.setIfInBounds_toArray, List.set_cons_zero, List.set_cons_succ]
                refine wpAnyH_take (i := 11) (oi := { dst := some 98, op := Op.extract (Operand.tmp 87) 1, type := 28, pos := "law.go:147", after := #[{ on := 9, ground := Ground.data }, { on := 13, ground := Ground.gcOnly Departure.lateStores }], guard := none }) (v := .int .i64 ((E : Nat) : Int)) rfl (by kernel_rfl) (by kernel_rfl) (by kernel_rfl) (fun _ _ _ h => h) (Or.inl ⟨by rfl, fun W hW => ?y55⟩) hs50 ?_
                case y55 => go_simp
                try dsimp only [Act.put]
                try simp only [List.setIfInBounds_toArray, List.set_cons_zero, List.set_cons_succ]
                refine wpAnyH_ready (rs := [13]) (by kernel_rfl) (by simp) ?_
                refine AllReadyH.cons (o := { dst := none, op := Op.store 27 (Operand.tmp 22) (Operand.tmp 97), type := 0, pos := "law.go:147", after := #[{ on := 12, ground := Ground.data }, { on := 10, ground := Ground.data }, { on := 8, ground := Ground.chain }, { on := 0, ground := Ground.phase }, { on := 1, ground := Ground.phase }, { on := 2, ground := Ground.phase }, { on := 3, ground := Ground.phase }, { on := 4, ground := Ground.phase }, { on := 5, ground := Ground.phase }, { on := 6, ground := Ground.phase }, { on := 7, ground := Ground.phase }, { on := 8, ground := Ground.phase }, { on := 9, ground := Ground.phase }, { on := 10, ground := Ground.phase }, { on := 11, ground := Ground.textOnly Departure.lateStores }, { on := 12, ground := Ground.phase }], guard := none }) rfl (fun K hK => ?_) AllReadyH.nil
                rw [if_pos (by rfl)]
                obtain ⟨hc1, hc2, hf1, hf2⟩ := blk_cells2 N51.out.b
                go_simp
                refine hK.out _ _ (HSW.out _ (below_put0 k49.out LB40.out (.slice C42 m43 j44) (.slice D45 p46 q47))) (fun _ => ?_)
                clear hK K
                try dsimp only [Act.put]
                try simp only [List.setIfInBounds_toArray, List.set_cons_zero, List.set_cons_succ]
                refine wpAnyH_take (i := 14) (oi := { dst := some 23, op := Op.assign (Operand.tmp 98), type := 28, pos := "law.go:147", after := #[{ on := 11, ground := Ground.data }, { on := 13, ground := Ground.chain }, { on := 0, ground := Ground.phase }, { on := 1, ground := Ground.phase }, { on := 2, ground := Ground.phase }, { on := 3, ground := Ground.phase }, { on := 4, ground := Ground.phase }, { on := 5, ground := Ground.phase }, { on := 6, ground := Ground.phase }, { on := 7, ground := Ground.phase }, { on := 8, ground := Ground.phase }, { on := 9, ground := Ground.phase }, { on := 10, ground := Ground.phase }, { on := 11, ground := Ground.phase }, { on := 12, ground := Ground.phase }, { on := 13, ground := Ground.phase }], guard := none }) (v := .int .i64 ((E : Nat) : Int)) rfl (by kernel_rfl) (by kernel_rfl) (by kernel_rfl) (fun _ _ _ h => h) (Or.inl ⟨by rfl, fun W hW => ?y56⟩) (HSW.out _ (below_put0 k49.out LB40.out (.slice C42 m43 j44) (.slice D45 p46 q47))) ?_
                case y56 => go_simp
                try dsimp only [Act.put]
                try simp only [List.setIfInBounds_toArray, List.set_cons_zero, List.set_cons_succ]
                refine wpAnyH_done (by kernel_rfl) ?_ _
                try dsimp only [Act.put]
                try simp only [List.setIfInBounds_toArray, List.set_cons_zero, List.set_cons_succ]
                go_wp2_with fail
                go_meet
                exact ⟨gn35, C42, m43, j44, D45, p46, q47, rfl, rfl, Lib.hid ⟨N51.out.put KR48.out, VA52.out.far N51.out (by have := LX39.out; omega) C42 m43 j44 D45 p46 q47, (below_put0 k49.out LB40.out (.slice C42 m43 j44) (.slice D45 p46 q47))⟩⟩
            case rest =>
              obtain ⟨gb, D1, m3, j3, D2, m4, j4, rfl, rfl, hall⟩ := hcut
              clear B3 HQ VA HSW
              have VB := Lib.hid hall.out.1; have VA := Lib.hid hall.out.2.1; have B3 := Lib.hid hall.out.2.2
              clear hall
              obtain ⟨hc1, hc2, hf1, hf2⟩ := blk_cells2 VA.out.b
              obtain ⟨hc3, hc4, hf3, hf4⟩ := blk_cells2 VB.out.b
              have hne : (((E : Nat) : Int) != ((E : Nat) : Int)) = false := by simp
              have hsm := rsame_any VA.out.k VB.out.k
              rw [decide_eq_true rfl] at hsm
              have HS := Lib.hid hsm
              clear hsm
              go_wp2_with fail
              refine HS.out.mono ?_
              rintro e w9 ⟨rfl, hb⟩
              have B5 := Lib.hid (below_step B3.out hb)
              clear hb HS hc1 hc2 hf1 hf2 hc3 hc4 hf3 hf4 VA VB B3 hne
              go_wp2_with fail
              go_roundw
              case rel =>
                have hr1 : ∃ q : Nat, q ≤ 7 ∧ (.int .i64 ((k : Int) + 1) : Value) = .int .i64 ((q : Nat) : Int) ∧ Below w1.heap.size w1 w9 := ⟨k + 1, HK.out, by simp, B5.out⟩
                first | exact hr1 | ((repeat apply Exists.intro); exact ⟨hr1, rfl⟩)
              case measure => simp only [intOf]; omega
        · have hin : k = 7 := by omega
          subst hin
          clear hk6 hge
          go_wp2_with fail
          go_roundw
          case rel =>
            have hr1 : ∃ q : Nat, q ≤ 7 ∧ (.int .i64 ((i : Int) + 1) : Value) = .int .i64 ((q : Nat) : Int) ∧ Below w1.heap.size w1 wr := ⟨i + 1, HI.out.1, by simp, BR.out⟩
            first | exact hr1 | ((repeat apply Exists.intro); exact ⟨hr1, rfl⟩)
          case measure => simp only [intOf]; omega
    · have hin : i = 7 := by omega
      subst hin
      clear hi hge
      have BF := Lib.hid (below_step BW.out BR.out)
      have HN := Lib.hid (fun W => show Calls Tryz.prog 25 #[.int .i64 4611686018427387904, .int .i64 1] W (RtP W ((lim 4611686018427387904, dl 1), 0)) by have h := rof_any 4611686018427387904 1 W (by omega) (by omega); rw [fl_of] at h; exact h)
      clear BR BW HCS HG
      go_wp2_with fail
      refine (HN.out _).mono ?_
      rintro e w2 ⟨v, rfl, hrv, hb⟩
      obtain ⟨u1, u2, rfl, hk⟩ := gd_rk (X := ((lim 4611686018427387904, dl 1), 0)) hrv (gd_vr fl_v1)
      obtain ⟨C1, m1, j1, e1⟩ := sl_form hk.s1
      obtain ⟨C2, m2, j2, e2⟩ := sl_form hk.s2
      subst e1 e2
      have B2 := Lib.hid (below_step BF.out hb); have K2 := Lib.hid hk
      clear hb hk hrv BF HN
      go_upto_region 17 with fail
      have VA := Lib.hid (Bx.new K2.out); have B3 := Lib.hid (below_step B2.out (boxb w2 (.slice C1 m1 j1) (.slice C2 m2 j2)))
      clear B2 K2
      obtain ⟨ga, hga⟩ : ∃ g, w2.heap.size = g := ⟨_, rfl⟩
      obtain ⟨w3, hw3⟩ : ∃ W, w2.alloc (.cells #[.slice C1 m1 j1, .slice C2 m2 j2] 27) = W := ⟨_, rfl⟩
      rw [hw3] at VA B3 ⊢
      rw [hga] at VA ⊢
      clear hga hw3
      obtain ⟨hc1, hc2, hf1, hf2⟩ := blk_cells2 VA.out.b
      have HA := Lib.hid (show Calls Tryz.prog 12 #[.agg #[.slice C1 m1 j1, .slice C2 m2 j2], .agg #[.slice C1 m1 j1, .slice C2 m2 j2]] w3 (RtP w3 ((lim 9223372036854775808, dl 1), 0)) by have h := radd_any VA.out.k VA.out.k; rw [fl_add] at h; exact h)
      go_wp2_with fail
      refine HA.out.mono ?_
      rintro e w4 ⟨v, rfl, hrv, hb⟩
      obtain ⟨u1, u2, rfl, hk⟩ := gd_rk (X := ((lim 9223372036854775808, dl 1), 0)) hrv (gd_vr fl_v2)
      obtain ⟨D1, p1, q1, e1⟩ := sl_form hk.s1
      obtain ⟨D2, p2, q2, e2⟩ := sl_form hk.s2
      subst e1 e2
      have B4 := Lib.hid (below_step B3.out hb); have K4 := Lib.hid hk; have VA4 := Lib.hid (VA.out.below hb)
      clear hb hk hrv B3 VA HA hc1 hc2 hf1 hf2
      go_upto_region 18 with fail
      have VB := Lib.hid (Bx.new K4.out); have B5 := Lib.hid (below_step B4.out (boxb w4 (.slice D1 p1 q1) (.slice D2 p2 q2))); have VA := Lib.hid (VA4.out.below (boxb w4 (.slice D1 p1 q1) (.slice D2 p2 q2)))
      clear B4 K4 VA4
      obtain ⟨gb, hgb⟩ : ∃ g, w4.heap.size = g := ⟨_, rfl⟩
      obtain ⟨w5, hw5⟩ : ∃ W, w4.alloc (.cells #[.slice D1 p1 q1, .slice D2 p2 q2] 27) = W := ⟨_, rfl⟩
      rw [hw5] at VA VB B5 ⊢
      rw [hgb] at VB ⊢
      clear hgb hw5
      obtain ⟨hc3, hc4, hf3, hf4⟩ := blk_cells2 VB.out.b
      have HF1 := Lib.hid (show Calls Tryz.prog 21 #[.agg #[.slice D1 p1 q1, .slice D2 p2 q2]] w5 (fun e w' => e = .returned (.tuple #[.int .i64 0, .int .i64 4]) ∧ Below w5.heap.size w5 w') by have h := floor_any VB.out.k; rw [fl_f2] at h; exact h)
      go_wp2_with fail
      refine HF1.out.mono ?_
      rintro e w6 ⟨rfl, hb⟩
      have B6 := Lib.hid (below_step B5.out hb); have VA6 := Lib.hid (VA.out.below hb)
      clear hb HF1 VB VA B5 hc3 hc4 hf3 hf4
      obtain ⟨hc1, hc2, hf1, hf2⟩ := blk_cells2 VA6.out.b
      have HF1 := Lib.hid (show Calls Tryz.prog 21 #[.agg #[.slice C1 m1 j1, .slice C2 m2 j2]] w6 (fun e w' => e = .returned (.tuple #[.int .i64 4611686018427387904, .int .i64 0]) ∧ Below w6.heap.size w6 w') by have h := floor_any VA6.out.k; rw [fl_f1] at h; exact h)
      go_wp2_with fail
      refine HF1.out.mono ?_
      rintro e w7 ⟨rfl, hb⟩
      have B7 := Lib.hid (below_step B6.out hb)
      clear hb HF1 VA6 B6 hc1 hc2 hf1 hf2
      go_wp2_with fail
      refine (lives_any w7 (HM.out.below H2.out B7.out) (by have := H2.out; have := B7.out.size; omega)).mono ?_
      rintro e w9 ⟨rfl, hb⟩
      have BL := Lib.hid (below_step B7.out hb)
      clear hb
      go_wp2_with fail
      go_ret
      exact ⟨rfl, BL.out⟩
end Go.Proofs.YtbfhilbagojdnaaGreat
