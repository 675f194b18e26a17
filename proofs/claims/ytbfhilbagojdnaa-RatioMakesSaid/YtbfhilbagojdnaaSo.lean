/-
  The laws' ratios: some.
  No condition but that the limbs that came in can be read.
-/
import Derived.Test.YtbfhilbagojdnaaSp
namespace Go.Proofs.Ytbfhilbagojdnaa
open Go.RowKit Wr Go.Proofs.Ytbfhilbagojdnaa.Nm
set_option linter.unusedVariables false
set_option maxRecDepth 100000

theorem bs7 (A1 : Option Addr) (n1 k1 : Nat) (D1 : Option Addr) (p1 q1 : Nat) (A2 : Option Addr) (n2 k2 : Nat) (D2 : Option Addr) (p2 q2 : Nat) (A3 : Option Addr) (n3 k3 : Nat) (D3 : Option Addr) (p3 q3 : Nat) (A4 : Option Addr) (n4 k4 : Nat) (D4 : Option Addr) (p4 q4 : Nat) (A5 : Option Addr) (n5 k5 : Nat) (D5 : Option Addr) (p5 q5 : Nat) (A6 : Option Addr) (n6 k6 : Nat) (D6 : Option Addr) (p6 q6 : Nat) (A7 : Option Addr) (n7 k7 : Nat) (D7 : Option Addr) (p7 q7 : Nat) (W : World) :
    (Instr.buildSlice 23 7 #[(0, .agg #[.slice A1 n1 k1, .slice D1 p1 q1]), (1, .agg #[.slice A2 n2 k2, .slice D2 p2 q2]), (2, .agg #[.slice A3 n3 k3, .slice D3 p3 q3]), (3, .agg #[.slice A4 n4 k4, .slice D4 p4 q4]), (4, .agg #[.slice A5 n5 k5, .slice D5 p5 q5]), (5, .agg #[.slice A6 n6 k6, .slice D6 p6 q6]), (6, .agg #[.slice A7 n7 k7, .slice D7 p7 q7])]).run Try.prog W = .ok (.slice (some ⟨W.heap.size, 0, none⟩) 7 7) (W.alloc (.cells #[.slice A1 n1 k1, .slice D1 p1 q1, .slice A2 n2 k2, .slice D2 p2 q2, .slice A3 n3 k3, .slice D3 p3 q3, .slice A4 n4 k4, .slice D4 p4 q4, .slice A5 n5 k5, .slice D5 p5 q5, .slice A6 n6 k6, .slice D6 p6 q6, .slice A7 n7 k7, .slice D7 p7 q7] 28)) := by kernel_rfl
theorem rls7 {W : World} {v1 u1 v2 u2 v3 u3 v4 u4 v5 u5 v6 u6 v7 u7 : Value} {r1 r2 r3 r4 r5 r6 r7 : Rt} (h1 : Rk W v1 u1 r1) (h2 : Rk W v2 u2 r2) (h3 : Rk W v3 u3 r3) (h4 : Rk W v4 u4 r4) (h5 : Rk W v5 u5 r5) (h6 : Rk W v6 u6 r6) (h7 : Rk W v7 u7 r7) : Rls (W.alloc (.cells #[v1, u1, v2, u2, v3, u3, v4, u4, v5, u5, v6, u6, v7, u7] 28)) (.slice (some ⟨W.heap.size, 0, none⟩) 7 7) [r1, r2, r3, r4, r5, r6, r7] := by
  refine ⟨_, 7, [(v1, u1), (v2, u2), (v3, u3), (v4, u4), (v5, u5), (v6, u6), (v7, u7)], rfl, Nat.le_refl _, (fun e => by cases e), (Rd.of_blk0 (Blk.new W 28 [v1, u1, v2, u2, v3, u3, v4, u4, v5, u5, v6, u6, v7, u7])).more (Blk.new W 28 [v1, u1, v2, u2, v3, u3, v4, u4, v5, u5, v6, u6, v7, u7]).lt, rfl, ?_⟩
  intro i r' hi
  match i, hi with
  | 0, hi => simp at hi; subst hi; exact ⟨_, rfl, h1.below (below_al _ _)⟩
  | 1, hi => simp at hi; subst hi; exact ⟨_, rfl, h2.below (below_al _ _)⟩
  | 2, hi => simp at hi; subst hi; exact ⟨_, rfl, h3.below (below_al _ _)⟩
  | 3, hi => simp at hi; subst hi; exact ⟨_, rfl, h4.below (below_al _ _)⟩
  | 4, hi => simp at hi; subst hi; exact ⟨_, rfl, h5.below (below_al _ _)⟩
  | 5, hi => simp at hi; subst hi; exact ⟨_, rfl, h6.below (below_al _ _)⟩
  | 6, hi => simp at hi; subst hi; exact ⟨_, rfl, h7.below (below_al _ _)⟩
  | i + 7, hi => simp at hi
theorem sl_take70 {w : World} {A : Option Addr} {n k m : Nat} {l : List Nat} (h : Sl w (.slice A n k) l) (hm : m = min n 70) : Sl w (.slice A m k) (l.take 70) := by
  obtain ⟨A', k', e, hk, hn, hr⟩ := h
  injection e with e1 e2 e3
  subst e1 e2 e3
  have hl : (l.take 70).length = m := by rw [List.length_take, hm]; omega
  subst hl
  exact ⟨A, k, rfl, by rw [List.length_take]; omega, hn, rd_take hr 70⟩
def SmeP (w : World) (e : Ending) (w' : World) : Prop := ∃ v L, e = .returned v ∧ L.length = 7 ∧ Rls w' v L ∧ Below w.heap.size w w'
set_option maxHeartbeats 8000000 in
theorem some_any {A5 A6 : Option Addr} {n5 k5 n6 k6 : Nat} {lr lm : List Nat} {w : World} (n m how by_ : Int) (hn : -9223372036854775808 ≤ n ∧ n ≤ 9223372036854775807) (hm : -9223372036854775808 ≤ m ∧ m ≤ 9223372036854775807) (hh : -9223372036854775808 ≤ how ∧ how ≤ 9223372036854775807) (hb : -9223372036854775808 ≤ by_ ∧ by_ ≤ 9223372036854775807)
    (h5 : Sl w (.slice A5 n5 k5) lr) (h6 : Sl w (.slice A6 n6 k6) lm) (o5 : Ok lr) (o6 : Ok lm) (hl5 : n5 ≤ 9223372036854775807) (hl6 : n6 ≤ 9223372036854775807) : Calls Try.prog 7 #[.int .i64 n, .int .i64 m, .int .i64 how, .int .i64 by_, .slice A5 n5 k5, .slice A6 n6 k6] w (SmeP w) := by
  have HMa := Lib.hid (fun W => made_ref n m W hn hm); have HLg := Lib.hid (fun W => large_ref m n W hm hn); have HPt := Lib.hid (fun W => part_ref n m W hn hm)
  have HSp := Lib.hid (fun W v1 v2 x y (h : Rk W v1 v2 (lim x, dl y)) (hv : Vr x y) => spoilt_any (w := W) how by_ h hv hh hb); have HSq := Lib.hid (fun W v1 v2 x y (h : Rk W v1 v2 (lim x, dl y)) (hv : Vr x y) => spoilt_any (w := W) by_ how h hv hb hh)
  obtain ⟨m5, hm5⟩ : ∃ a, a = min n5 70 := ⟨_, rfl⟩
  obtain ⟨m6, hm6⟩ : ∃ a, a = min n6 70 := ⟨_, rfl⟩
  have hcap5 : n5 ≤ k5 := by obtain ⟨_, _, e, h, _, _⟩ := h5; cases e; exact h
  have hcap6 : n6 ≤ k6 := by obtain ⟨_, _, e, h, _, _⟩ := h6; cases e; exact h
  have h5I : min (n5 : Int) 70 = (m5 : Int) := by omega
  have h6I : min (n6 : Int) 70 = (m6 : Int) := by omega
  have c5I : (m5 : Int) ≤ (k5 : Int) := by omega
  have c6I : (m6 : Int) ≤ (k6 : Int) := by omega
  have T5 := Lib.hid (show Rk w (.slice A5 m5 k5) (.slice A6 m6 k6) (lr.take 70, lm.take 70) from ⟨sl_take70 h5 hm5, sl_take70 h6 hm6, ⟨o5.take _, o6.take _⟩, by show (lr.take 70).length ≤ 1000; rw [List.length_take]; omega, by show (lm.take 70).length ≤ 1000; rw [List.length_take]; omega⟩)
  have hn5I : (n5 : Int) ≤ 9223372036854775807 := by omega
  have hn6I : (n6 : Int) ≤ 9223372036854775807 := by omega
  have B0 := Lib.hid (Below.refl w.heap.size w)
  clear hn hm hh hb h5 h6 o5 o6 hm5 hm6 hcap5 hcap6 hl5 hl6
  go_enter Try.func7, Try.ntmps7
  go_wp2_with fail
  refine (HMa.out _).mono ?_
  rintro e w1 ⟨x1, y1, u1, u2, rfl, hk, hva, _, hb⟩
  have HV_a := Lib.hid hva; have KN := Lib.hid hk
  clear hva
  obtain ⟨C2, m3, j4, e1⟩ := sl_form hk.s1
  obtain ⟨D5, p6, q7, e2⟩ := sl_form hk.s2
  subst e1 e2
  have B8 := Lib.hid (below_step B0.out hb)
  clear B0
  clear hk hb
  have BS0 := B8
  go_upto_region 2 with fail
  have B9 := Lib.hid (below_step B8.out (boxb w1 (.slice C2 m3 j4) (.slice D5 p6 q7)))
  clear B8
  have V_a := Lib.hid (Bx.new KN.out)
  have G_a := Lib.hid (show w.heap.size ≤ w1.heap.size from BS0.out.size)
  clear KN
  clear BS0
  obtain ⟨g10, hgn⟩ : ∃ g, w1.heap.size = g := ⟨_, rfl⟩
  obtain ⟨w11, hww⟩ : ∃ W, w1.alloc (.cells #[.slice C2 m3 j4, .slice D5 p6 q7] 28) = W := ⟨_, rfl⟩
  rw [hww] at B9 V_a ⊢
  rw [hgn] at V_a G_a  ⊢
  clear hww hgn
  go_wp2_with fail
  refine (HLg.out _).mono ?_
  rintro e w12 ⟨x2, y2, u1, u2, rfl, hk, hvb, _, hb⟩
  have HV_b := Lib.hid hvb; have KN := Lib.hid hk
  clear hvb
  obtain ⟨C13, m14, j15, e1⟩ := sl_form hk.s1
  obtain ⟨D16, p17, q18, e2⟩ := sl_form hk.s2
  subst e1 e2
  have V_a := Lib.hid (V_a.out.below hb)
  have B19 := Lib.hid (below_step B9.out hb)
  clear B9
  clear hk hb
  have BS0 := B19
  go_upto_region 3 with fail
  have L_a_b := Lib.hid (V_a.out.b.lt)
  have V_a := Lib.hid (V_a.out.below (boxb w12 (.slice C13 m14 j15) (.slice D16 p17 q18)))
  have B20 := Lib.hid (below_step B19.out (boxb w12 (.slice C13 m14 j15) (.slice D16 p17 q18)))
  clear B19
  have V_b := Lib.hid (Bx.new KN.out)
  have G_b := Lib.hid (show w.heap.size ≤ w12.heap.size from BS0.out.size)
  clear KN
  clear BS0
  obtain ⟨g21, hgn⟩ : ∃ g, w12.heap.size = g := ⟨_, rfl⟩
  obtain ⟨w22, hww⟩ : ∃ W, w12.alloc (.cells #[.slice C13 m14 j15, .slice D16 p17 q18] 28) = W := ⟨_, rfl⟩
  rw [hww] at B20 V_a V_b ⊢
  rw [hgn] at V_b G_b L_a_b ⊢
  clear hww hgn
  go_upto_region 3 with fail
  have K1 := Lib.hid V_a.out.k; have K2 := Lib.hid V_b.out.k; have K3 := Lib.hid (T5.out.below B20.out)
  refine wp_region_held (S := fun W => Blk W g10 28 [.slice C2 m3 j4, .slice D5 p6 q7] ∧ Blk W g21 28 [.slice C13 m14 j15, .slice D16 p17 q18]) (by kernel_rfl) ?_
  change wpAnyH _ _ _ _ _ _ _ _ (World.drew w22)
  have hs0 : Blk (World.drew w22) g10 28 [.slice C2 m3 j4, .slice D5 p6 q7] ∧ Blk (World.drew w22) g21 28 [.slice C13 m14 j15, .slice D16 p17 q18] := ⟨V_a.out.b, V_b.out.b⟩
  have k0 : Hid (Below w.heap.size w (World.drew w22)) := Lib.hid (below_drewN B20.out 1)
  have Ka : Hid (Rk (World.drew w22) (.slice C2 m3 j4) (.slice D5 p6 q7) (lim x1, dl y1)) := Lib.hid (K1.out.below (below_drewN (Below.refl _ _) 1))
  have Kb : Hid (Rk (World.drew w22) (.slice C13 m14 j15) (.slice D16 p17 q18) (lim x2, dl y2)) := Lib.hid (K2.out.below (below_drewN (Below.refl _ _) 1))
  have Kt : Hid (Rk (World.drew w22) (.slice A5 m5 k5) (.slice A6 m6 k6) (lr.take 70, lm.take 70)) := Lib.hid (K3.out.below (below_drewN (Below.refl _ _) 1))
  clear V_a V_b K1 K2 K3 T5 B20 HMa HLg
  generalize World.drew w22 = Wd at hs0 k0 Ka Kb Kt ⊢
  refine wpAnyH_take (i := 0) (oi := { dst := some 21, op := Op.load 28 (Operand.tmp 13), type := 28, pos := "law.go:50", after := #[], guard := none }) (v := .agg #[.slice C2 m3 j4, .slice D5 p6 q7]) rfl (by kernel_rfl) (by kernel_rfl) (by kernel_rfl) (fun _ _ _ h => h) (Or.inl ⟨by rfl, fun W hW => by obtain ⟨hc1, hc2, _, _⟩ := blk_cells2 hW.1; go_simp⟩) hs0 ?_
  try dsimp only [Act.put]
  try simp only [List.setIfInBounds_toArray, List.set_cons_zero, List.set_cons_succ]
  refine wpAnyH_take (i := 1) (oi := { dst := some 22, op := Op.move (Operand.tmp 0), type := 3, pos := "law.go:50", after := #[], guard := none }) (v := .int .i64 n) rfl (by kernel_rfl) (by kernel_rfl) (by kernel_rfl) (fun _ _ _ h => h) (Or.inl ⟨by rfl, fun W hW => ?y2⟩) hs0 ?_
  case y2 => go_simp
  try dsimp only [Act.put]
  try simp only [List.setIfInBounds_toArray, List.set_cons_zero, List.set_cons_succ]
  refine wpAnyH_take (i := 2) (oi := { dst := some 23, op := Op.move (Operand.tmp 1), type := 3, pos := "law.go:50", after := #[], guard := none }) (v := .int .i64 m) rfl (by kernel_rfl) (by kernel_rfl) (by kernel_rfl) (fun _ _ _ h => h) (Or.inl ⟨by rfl, fun W hW => ?y3⟩) hs0 ?_
  case y3 => go_simp
  try dsimp only [Act.put]
  try simp only [List.setIfInBounds_toArray, List.set_cons_zero, List.set_cons_succ]
  refine wpAnyH_take (i := 4) (oi := { dst := some 25, op := Op.load 28 (Operand.tmp 14), type := 28, pos := "law.go:50", after := #[], guard := none }) (v := .agg #[.slice C13 m14 j15, .slice D16 p17 q18]) rfl (by kernel_rfl) (by kernel_rfl) (by kernel_rfl) (fun _ _ _ h => h) (Or.inl ⟨by rfl, fun W hW => by obtain ⟨hc1, hc2, _, _⟩ := blk_cells2 hW.2; go_simp⟩) hs0 ?_
  try dsimp only [Act.put]
  try simp only [List.setIfInBounds_toArray, List.set_cons_zero, List.set_cons_succ]
  refine wpAnyH_take (i := 5) (oi := { dst := some 26, op := Op.load 28 (Operand.tmp 13), type := 28, pos := "law.go:50", after := #[], guard := none }) (v := .agg #[.slice C2 m3 j4, .slice D5 p6 q7]) rfl (by kernel_rfl) (by kernel_rfl) (by kernel_rfl) (fun _ _ _ h => h) (Or.inl ⟨by rfl, fun W hW => by obtain ⟨hc1, hc2, _, _⟩ := blk_cells2 hW.1; go_simp⟩) hs0 ?_
  try dsimp only [Act.put]
  try simp only [List.setIfInBounds_toArray, List.set_cons_zero, List.set_cons_succ]
  refine wpAnyH_take (i := 6) (oi := { dst := some 27, op := Op.move (Operand.tmp 2), type := 3, pos := "law.go:50", after := #[], guard := none }) (v := .int .i64 how) rfl (by kernel_rfl) (by kernel_rfl) (by kernel_rfl) (fun _ _ _ h => h) (Or.inl ⟨by rfl, fun W hW => ?y6⟩) hs0 ?_
  case y6 => go_simp
  try dsimp only [Act.put]
  try simp only [List.setIfInBounds_toArray, List.set_cons_zero, List.set_cons_succ]
  refine wpAnyH_take (i := 7) (oi := { dst := some 28, op := Op.move (Operand.tmp 3), type := 3, pos := "law.go:50", after := #[], guard := none }) (v := .int .i64 by_) rfl (by kernel_rfl) (by kernel_rfl) (by kernel_rfl) (fun _ _ _ h => h) (Or.inl ⟨by rfl, fun W hW => ?y7⟩) hs0 ?_
  case y7 => go_simp
  try dsimp only [Act.put]
  try simp only [List.setIfInBounds_toArray, List.set_cons_zero, List.set_cons_succ]
  refine wpAnyH_take (i := 9) (oi := { dst := some 30, op := Op.load 28 (Operand.tmp 14), type := 28, pos := "law.go:50", after := #[], guard := none }) (v := .agg #[.slice C13 m14 j15, .slice D16 p17 q18]) rfl (by kernel_rfl) (by kernel_rfl) (by kernel_rfl) (fun _ _ _ h => h) (Or.inl ⟨by rfl, fun W hW => by obtain ⟨hc1, hc2, _, _⟩ := blk_cells2 hW.2; go_simp⟩) hs0 ?_
  try dsimp only [Act.put]
  try simp only [List.setIfInBounds_toArray, List.set_cons_zero, List.set_cons_succ]
  refine wpAnyH_take (i := 10) (oi := { dst := some 31, op := Op.move (Operand.tmp 3), type := 3, pos := "law.go:50", after := #[], guard := none }) (v := .int .i64 by_) rfl (by kernel_rfl) (by kernel_rfl) (by kernel_rfl) (fun _ _ _ h => h) (Or.inl ⟨by rfl, fun W hW => ?y9⟩) hs0 ?_
  case y9 => go_simp
  try dsimp only [Act.put]
  try simp only [List.setIfInBounds_toArray, List.set_cons_zero, List.set_cons_succ]
  refine wpAnyH_take (i := 11) (oi := { dst := some 32, op := Op.move (Operand.tmp 2), type := 3, pos := "law.go:50", after := #[], guard := none }) (v := .int .i64 how) rfl (by kernel_rfl) (by kernel_rfl) (by kernel_rfl) (fun _ _ _ h => h) (Or.inl ⟨by rfl, fun W hW => ?y10⟩) hs0 ?_
  case y10 => go_simp
  try dsimp only [Act.put]
  try simp only [List.setIfInBounds_toArray, List.set_cons_zero, List.set_cons_succ]
  refine wpAnyH_take (i := 13) (oi := { dst := some 34, op := Op.move (Operand.tmp 4), type := 22, pos := "law.go:50", after := #[], guard := none }) (v := .slice A5 n5 k5) rfl (by kernel_rfl) (by kernel_rfl) (by kernel_rfl) (fun _ _ _ h => h) (Or.inl ⟨by rfl, fun W hW => ?y11⟩) hs0 ?_
  case y11 => go_simp
  try dsimp only [Act.put]
  try simp only [List.setIfInBounds_toArray, List.set_cons_zero, List.set_cons_succ]
  refine wpAnyH_take (i := 14) (oi := { dst := some 35, op := Op.move (Operand.tmp 4), type := 22, pos := "law.go:50", after := #[], guard := none }) (v := .slice A5 n5 k5) rfl (by kernel_rfl) (by kernel_rfl) (by kernel_rfl) (fun _ _ _ h => h) (Or.inl ⟨by rfl, fun W hW => ?y12⟩) hs0 ?_
  case y12 => go_simp
  try dsimp only [Act.put]
  try simp only [List.setIfInBounds_toArray, List.set_cons_zero, List.set_cons_succ]
  refine wpAnyH_take (i := 15) (oi := { dst := some 36, op := Op.call { callee := Callee.builtin Builtin.len, args := #[Operand.tmp 35], argTypes := #[22] }, type := 3, pos := "law.go:50", after := #[{ on := 14, ground := Ground.data }], guard := none }) (v := .int .i64 (n5 : Int)) rfl (by kernel_rfl) (by kernel_rfl) (by kernel_rfl) (fun _ _ _ h => h) (Or.inl ⟨by rfl, fun W hW => ?y13⟩) hs0 ?_
  case y13 => go_simp
  try dsimp only [Act.put]
  try simp only [List.setIfInBounds_toArray, List.set_cons_zero, List.set_cons_succ]
  refine wpAnyH_take (i := 16) (oi := { dst := some 37, op := Op.call { callee := Callee.builtin Builtin.min, args := #[Operand.tmp 36, Operand.const (Value.int IntKind.i64 70)], argTypes := #[3, 3] }, type := 3, pos := "law.go:50", after := #[{ on := 15, ground := Ground.data }], guard := none }) (v := .int .i64 (m5 : Int)) rfl (by kernel_rfl) (by kernel_rfl) (by kernel_rfl) (fun _ _ _ h => h) (Or.inl ⟨by rfl, fun W hW => ?y14⟩) hs0 ?_
  case y14 => go_simp
  try dsimp only [Act.put]
  try simp only [List.setIfInBounds_toArray, List.set_cons_zero, List.set_cons_succ]
  refine wpAnyH_take (i := 17) (oi := { dst := some 38, op := Op.slice 22 (Operand.tmp 34) none (some (Operand.tmp 37)) none, type := 22, pos := "law.go:50", after := #[{ on := 13, ground := Ground.data }, { on := 16, ground := Ground.data }], guard := none }) (v := .slice A5 m5 k5) rfl (by kernel_rfl) (by kernel_rfl) (by kernel_rfl) (fun _ _ _ h => h) (Or.inl ⟨by rfl, fun W hW => ?y15⟩) hs0 ?_
  case y15 => go_simp
  try dsimp only [Act.put]
  try simp only [List.setIfInBounds_toArray, List.set_cons_zero, List.set_cons_succ]
  refine wpAnyH_take (i := 18) (oi := { dst := some 39, op := Op.move (Operand.tmp 5), type := 22, pos := "law.go:50", after := #[], guard := none }) (v := .slice A6 n6 k6) rfl (by kernel_rfl) (by kernel_rfl) (by kernel_rfl) (fun _ _ _ h => h) (Or.inl ⟨by rfl, fun W hW => ?y16⟩) hs0 ?_
  case y16 => go_simp
  try dsimp only [Act.put]
  try simp only [List.setIfInBounds_toArray, List.set_cons_zero, List.set_cons_succ]
  refine wpAnyH_take (i := 19) (oi := { dst := some 40, op := Op.move (Operand.tmp 5), type := 22, pos := "law.go:50", after := #[], guard := none }) (v := .slice A6 n6 k6) rfl (by kernel_rfl) (by kernel_rfl) (by kernel_rfl) (fun _ _ _ h => h) (Or.inl ⟨by rfl, fun W hW => ?y17⟩) hs0 ?_
  case y17 => go_simp
  try dsimp only [Act.put]
  try simp only [List.setIfInBounds_toArray, List.set_cons_zero, List.set_cons_succ]
  refine wpAnyH_take (i := 20) (oi := { dst := some 41, op := Op.call { callee := Callee.builtin Builtin.len, args := #[Operand.tmp 40], argTypes := #[22] }, type := 3, pos := "law.go:50", after := #[{ on := 19, ground := Ground.data }], guard := none }) (v := .int .i64 (n6 : Int)) rfl (by kernel_rfl) (by kernel_rfl) (by kernel_rfl) (fun _ _ _ h => h) (Or.inl ⟨by rfl, fun W hW => ?y18⟩) hs0 ?_
  case y18 => go_simp
  try dsimp only [Act.put]
  try simp only [List.setIfInBounds_toArray, List.set_cons_zero, List.set_cons_succ]
  refine wpAnyH_take (i := 21) (oi := { dst := some 42, op := Op.call { callee := Callee.builtin Builtin.min, args := #[Operand.tmp 41, Operand.const (Value.int IntKind.i64 70)], argTypes := #[3, 3] }, type := 3, pos := "law.go:50", after := #[{ on := 20, ground := Ground.data }], guard := none }) (v := .int .i64 (m6 : Int)) rfl (by kernel_rfl) (by kernel_rfl) (by kernel_rfl) (fun _ _ _ h => h) (Or.inl ⟨by rfl, fun W hW => ?y19⟩) hs0 ?_
  case y19 => go_simp
  try dsimp only [Act.put]
  try simp only [List.setIfInBounds_toArray, List.set_cons_zero, List.set_cons_succ]
  refine wpAnyH_take (i := 22) (oi := { dst := some 43, op := Op.slice 22 (Operand.tmp 39) none (some (Operand.tmp 42)) none, type := 22, pos := "law.go:50", after := #[{ on := 18, ground := Ground.data }, { on := 21, ground := Ground.data }], guard := none }) (v := .slice A6 m6 k6) rfl (by kernel_rfl) (by kernel_rfl) (by kernel_rfl) (fun _ _ _ h => h) (Or.inl ⟨by rfl, fun W hW => ?y20⟩) hs0 ?_
  case y20 => go_simp
  try dsimp only [Act.put]
  try simp only [List.setIfInBounds_toArray, List.set_cons_zero, List.set_cons_succ]
  refine wpAnyH_take (i := 23) (oi := { dst := some 44, op := Op.build 28 #[(0, Operand.tmp 38), (1, Operand.tmp 43)], type := 28, pos := "law.go:50", after := #[{ on := 17, ground := Ground.data }, { on := 22, ground := Ground.data }], guard := none }) (v := .agg #[.slice A5 m5 k5, .slice A6 m6 k6]) rfl (by kernel_rfl) (by kernel_rfl) (by kernel_rfl) (fun _ _ _ h => h) (Or.inl ⟨by rfl, fun W hW => ?y21⟩) hs0 ?_
  case y21 => go_simp
  try dsimp only [Act.put]
  try simp only [List.setIfInBounds_toArray, List.set_cons_zero, List.set_cons_succ]
  refine wpAnyH_take (i := 24) (oi := { dst := some 45, op := Op.build 28 #[], type := 28, pos := "law.go:50", after := #[], guard := none }) (v := .agg #[.slice none 0 0, .slice none 0 0]) rfl (by kernel_rfl) (by kernel_rfl) (by kernel_rfl) (fun _ _ _ h => h) (Or.inl ⟨by rfl, fun W hW => ?y22⟩) hs0 ?_
  case y22 => go_simp
  try dsimp only [Act.put]
  try simp only [List.setIfInBounds_toArray, List.set_cons_zero, List.set_cons_succ]
  refine wpAnyH_ready (rs := [3]) (by kernel_rfl) (by simp) ?_
  refine AllReadyH.cons (o := { dst := some 24, op := Op.call { callee := Callee.value (Operand.func 15), args := #[Operand.tmp 22, Operand.tmp 23], argTypes := #[3, 3] }, type := 28, pos := "law.go:50", after := #[{ on := 1, ground := Ground.data }, { on := 2, ground := Ground.data }], guard := none }) rfl (fun K hK => ?_) AllReadyH.nil
  rw [if_pos (by rfl)]
  go_simp
  refine (HPt.out _).mono ?_
  rintro e w23 ⟨x3, y3, u1, u2, rfl, hk, hv3, _, hb⟩
  have k30 := Lib.hid (below_step k0.out hb)
  have hs31 := And.intro (hs0.1.below hb hs0.1.lt) (hs0.2.below hb hs0.2.lt)
  have K32 := Lib.hid (Ka.out.below hb)
  have K33 := Lib.hid (Kb.out.below hb)
  have K34 := Lib.hid (Kt.out.below hb)
  obtain ⟨C24, m25, j26, e1⟩ := sl_form hk.s1
  obtain ⟨D27, p28, q29, e2⟩ := sl_form hk.s2
  subst e1 e2
  have K35 := Lib.hid hk
  clear hk hb
  go_wp2_with fail
  refine hK.out _ _ hs31 (fun _ => ?_)
  clear hK K
  try dsimp only [Act.put]
  try simp only [List.setIfInBounds_toArray, List.set_cons_zero, List.set_cons_succ]
  refine wpAnyH_ready (rs := [8]) (by kernel_rfl) (by simp) ?_
  refine AllReadyH.cons (o := { dst := some 29, op := Op.call { callee := Callee.value (Operand.func 31), args := #[Operand.tmp 26, Operand.tmp 27, Operand.tmp 28], argTypes := #[28, 3, 3] }, type := 28, pos := "law.go:50", after := #[{ on := 5, ground := Ground.data }, { on := 6, ground := Ground.data }, { on := 7, ground := Ground.data }, { on := 3, ground := Ground.chain }], guard := none }) rfl (fun K hK => ?_) AllReadyH.nil
  rw [if_pos (by rfl)]
  go_simp
  refine (HSp.out _ _ _ x1 y1 K32.out HV_a.out).mono ?_
  rintro e w36 ⟨u1, u2, r4, rfl, hk, hb⟩
  have k43 := Lib.hid (below_step k30.out hb)
  have hs44 := And.intro (hs31.1.below hb hs31.1.lt) (hs31.2.below hb hs31.2.lt)
  have K45 := Lib.hid (K32.out.below hb)
  have K46 := Lib.hid (K33.out.below hb)
  have K47 := Lib.hid (K34.out.below hb)
  have K48 := Lib.hid (K35.out.below hb)
  obtain ⟨C37, m38, j39, e1⟩ := sl_form hk.s1
  obtain ⟨D40, p41, q42, e2⟩ := sl_form hk.s2
  subst e1 e2
  have K49 := Lib.hid hk
  clear hk hb
  go_wp2_with fail
  refine hK.out _ _ hs44 (fun _ => ?_)
  clear hK K
  try dsimp only [Act.put]
  try simp only [List.setIfInBounds_toArray, List.set_cons_zero, List.set_cons_succ]
  refine wpAnyH_ready (rs := [12]) (by kernel_rfl) (by simp) ?_
  refine AllReadyH.cons (o := { dst := some 33, op := Op.call { callee := Callee.value (Operand.func 31), args := #[Operand.tmp 30, Operand.tmp 31, Operand.tmp 32], argTypes := #[28, 3, 3] }, type := 28, pos := "law.go:50", after := #[{ on := 9, ground := Ground.data }, { on := 10, ground := Ground.data }, { on := 11, ground := Ground.data }, { on := 8, ground := Ground.chain }], guard := none }) rfl (fun K hK => ?_) AllReadyH.nil
  rw [if_pos (by rfl)]
  go_simp
  refine (HSq.out _ _ _ x2 y2 K46.out HV_b.out).mono ?_
  rintro e w50 ⟨u1, u2, r5, rfl, hk, hb⟩
  have k57 := Lib.hid (below_step k43.out hb)
  have hs58 := And.intro (hs44.1.below hb hs44.1.lt) (hs44.2.below hb hs44.2.lt)
  have K59 := Lib.hid (K45.out.below hb)
  have K60 := Lib.hid (K46.out.below hb)
  have K61 := Lib.hid (K47.out.below hb)
  have K62 := Lib.hid (K48.out.below hb)
  have K63 := Lib.hid (K49.out.below hb)
  obtain ⟨C51, m52, j53, e1⟩ := sl_form hk.s1
  obtain ⟨D54, p55, q56, e2⟩ := sl_form hk.s2
  subst e1 e2
  have K64 := Lib.hid hk
  clear hk hb
  go_wp2_with fail
  refine hK.out _ _ hs58 (fun _ => ?_)
  clear hK K
  try dsimp only [Act.put]
  try simp only [List.setIfInBounds_toArray, List.set_cons_zero, List.set_cons_succ]
  refine wpAnyH_ready (rs := [25]) (by kernel_rfl) (by simp) ?_
  refine AllReadyH.cons (o := { dst := some 46, op := Op.buildSlice 23 7 #[(0, Operand.tmp 21), (1, Operand.tmp 24), (2, Operand.tmp 25), (3, Operand.tmp 29), (4, Operand.tmp 33), (5, Operand.tmp 44), (6, Operand.tmp 45)], type := 23, pos := "law.go:50", after := #[{ on := 0, ground := Ground.data }, { on := 3, ground := Ground.data }, { on := 4, ground := Ground.data }, { on := 8, ground := Ground.data }, { on := 12, ground := Ground.data }, { on := 23, ground := Ground.data }, { on := 24, ground := Ground.data }], guard := none }) rfl (fun K hK => ?_) AllReadyH.nil
  rw [if_pos (by rfl)]
  refine wp_bs rfl (by simp [Act.eval]) (bs7 C2 m3 j4 D5 p6 q7 C24 m25 j26 D27 p28 q29 C13 m14 j15 D16 p17 q18 C37 m38 j39 D40 p41 q42 C51 m52 j53 D54 p55 q56 A5 m5 k5 A6 m6 k6 none 0 0 none 0 0 w50) ?_
  have HR7 := Lib.hid (rls7 K59.out K62.out K60.out K63.out K64.out K61.out (rk_none w50))
  have hbt := below_al w50 (.cells #[.slice C2 m3 j4, .slice D5 p6 q7, .slice C24 m25 j26, .slice D27 p28 q29, .slice C13 m14 j15, .slice D16 p17 q18, .slice C37 m38 j39, .slice D40 p41 q42, .slice C51 m52 j53, .slice D54 p55 q56, .slice A5 m5 k5, .slice A6 m6 k6, .slice none 0 0, .slice none 0 0] 28)
  have k66 := Lib.hid (below_step k57.out hbt)
  have hs67 := And.intro (hs58.1.below hbt hs58.1.lt) (hs58.2.below hbt hs58.2.lt)
  clear hbt
  obtain ⟨u65, hW⟩ : ∃ W', w50.alloc (.cells #[.slice C2 m3 j4, .slice D5 p6 q7, .slice C24 m25 j26, .slice D27 p28 q29, .slice C13 m14 j15, .slice D16 p17 q18, .slice C37 m38 j39, .slice D40 p41 q42, .slice C51 m52 j53, .slice D54 p55 q56, .slice A5 m5 k5, .slice A6 m6 k6, .slice none 0 0, .slice none 0 0] 28) = W' := ⟨_, rfl⟩
  rw [hW] at HR7 k66 hs67 ⊢
  clear hW
  obtain ⟨g9, hg9⟩ : ∃ g, w50.heap.size = g := ⟨_, rfl⟩
  rw [hg9] at HR7 ⊢
  clear hg9
  refine hK.out _ _ hs67 (fun _ => ?_)
  clear hK K
  try dsimp only [Act.put]
  try simp only [List.setIfInBounds_toArray, List.set_cons_zero, List.set_cons_succ]
  refine wpAnyH_take (i := 26) (oi := { dst := some 12, op := Op.assign (Operand.tmp 46), type := 23, pos := "law.go:50", after := #[{ on := 25, ground := Ground.data }, { on := 12, ground := Ground.chain }, { on := 0, ground := Ground.phase }, { on := 1, ground := Ground.phase }, { on := 2, ground := Ground.phase }, { on := 3, ground := Ground.phase }, { on := 4, ground := Ground.phase }, { on := 5, ground := Ground.phase }, { on := 6, ground := Ground.phase }, { on := 7, ground := Ground.phase }, { on := 8, ground := Ground.phase }, { on := 9, ground := Ground.phase }, { on := 10, ground := Ground.phase }, { on := 11, ground := Ground.phase }, { on := 12, ground := Ground.phase }, { on := 13, ground := Ground.phase }, { on := 14, ground := Ground.phase }, { on := 15, ground := Ground.phase }, { on := 16, ground := Ground.phase }, { on := 17, ground := Ground.phase }, { on := 18, ground := Ground.phase }, { on := 19, ground := Ground.phase }, { on := 20, ground := Ground.phase }, { on := 21, ground := Ground.phase }, { on := 22, ground := Ground.phase }, { on := 23, ground := Ground.phase }, { on := 24, ground := Ground.phase }, { on := 25, ground := Ground.phase }], guard := none }) (v := .slice (some ⟨g9, 0, none⟩) 7 7) rfl (by kernel_rfl) (by kernel_rfl) (by kernel_rfl) (fun _ _ _ h => h) (Or.inl ⟨by rfl, fun W hW => ?y68⟩) hs67 ?_
  case y68 => go_simp
  try dsimp only [Act.put]
  try simp only [List.setIfInBounds_toArray, List.set_cons_zero, List.set_cons_succ]
  refine wpAnyH_done (by kernel_rfl) ?_ _
  try dsimp only [Act.put]
  try simp only [List.setIfInBounds_toArray, List.set_cons_zero, List.set_cons_succ]
  go_wp2_with fail
  go_ret
  exact ⟨_, _, rfl, rfl, HR7.out, k66.out⟩
end Go.Proofs.Ytbfhilbagojdnaa
