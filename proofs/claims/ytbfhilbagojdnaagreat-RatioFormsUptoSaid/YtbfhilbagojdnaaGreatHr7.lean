/-
  Texts of the proof, joined: Op, Pw, Ph, Pp.
  No condition: lemmas.
-/
import Derived.Laws.ShiftsVarLaws
import Derived.Test.YtbfhilbagojdnaaGreatHr6
namespace Go.Proofs.YtbfhilbagojdnaaGreat
open Go.RowKit Wr Go.Proofs.YtbfhilbagojdnaaGreat.Nm
set_option linter.unusedVariables false
set_option maxRecDepth 100000

theorem both0 {r s : Rt} (h : bothE r s = 0) : vld r = 0 ∧ vld s = 0 := by
  unfold bothE at h
  by_cases hv : vld r = 0
  · rw [if_neg (by simp [hv])] at h; exact ⟨hv, h⟩
  · rw [if_pos hv] at h; exact absurd h hv
theorem bsR3 (A1 A2 A3 A4 : Option Addr) (n1 n2 n3 n4 k1 k2 k3 k4 : Nat) (w : World) : (Instr.buildSlice 23 2 #[(0, .agg #[.slice A1 n1 k1, .slice A2 n2 k2]), (1, .agg #[.slice A3 n3 k3, .slice A4 n4 k4])]).run Tryz.prog (((w.alloc (.cells #[.slice A1 n1 k1, .slice A2 n2 k2] 27)).alloc (.cells #[.slice A3 n3 k3, .slice A4 n4 k4] 27)).alloc (.cells #[.slice none 0 0, .slice none 0 0] 27)) = .ok (.slice (some ⟨w.heap.size + 3, 0, none⟩) 2 2) ((((w.alloc (.cells #[.slice A1 n1 k1, .slice A2 n2 k2] 27)).alloc (.cells #[.slice A3 n3 k3, .slice A4 n4 k4] 27)).alloc (.cells #[.slice none 0 0, .slice none 0 0] 27)).alloc (.cells #[.slice A1 n1 k1, .slice A2 n2 k2, .slice A3 n3 k3, .slice A4 n4 k4] 27)) :=
  (bsR A1 A2 A3 A4 n1 n2 n3 n4 k1 k2 k3 k4 (((w.alloc (.cells #[.slice A1 n1 k1, .slice A2 n2 k2] 27)).alloc (.cells #[.slice A3 n3 k3, .slice A4 n4 k4] 27)).alloc (.cells #[.slice none 0 0, .slice none 0 0] 27))).trans (by rw [show ((((w.alloc (.cells #[.slice A1 n1 k1, .slice A2 n2 k2] 27)).alloc (.cells #[.slice A3 n3 k3, .slice A4 n4 k4] 27)).alloc (.cells #[.slice none 0 0, .slice none 0 0] 27))).heap.size = w.heap.size + 3 by simp])
theorem bsR2 (A1 A2 A3 A4 : Option Addr) (n1 n2 n3 n4 k1 k2 k3 k4 : Nat) (w : World) : (Instr.buildSlice 23 2 #[(0, .agg #[.slice A1 n1 k1, .slice A2 n2 k2]), (1, .agg #[.slice A3 n3 k3, .slice A4 n4 k4])]).run Tryz.prog ((w.alloc (.cells #[.slice A1 n1 k1, .slice A2 n2 k2] 27)).alloc (.cells #[.slice A3 n3 k3, .slice A4 n4 k4] 27)) = .ok (.slice (some ⟨w.heap.size + 2, 0, none⟩) 2 2) (((w.alloc (.cells #[.slice A1 n1 k1, .slice A2 n2 k2] 27)).alloc (.cells #[.slice A3 n3 k3, .slice A4 n4 k4] 27)).alloc (.cells #[.slice A1 n1 k1, .slice A2 n2 k2, .slice A3 n3 k3, .slice A4 n4 k4] 27)) :=
  (bsR A1 A2 A3 A4 n1 n2 n3 n4 k1 k2 k3 k4 ((w.alloc (.cells #[.slice A1 n1 k1, .slice A2 n2 k2] 27)).alloc (.cells #[.slice A3 n3 k3, .slice A4 n4 k4] 27))).trans (by rw [show (((w.alloc (.cells #[.slice A1 n1 k1, .slice A2 n2 k2] 27)).alloc (.cells #[.slice A3 n3 k3, .slice A4 n4 k4] 27))).heap.size = w.heap.size + 2 by simp])
theorem front3 {A1 A2 A3 A4 : Option Addr} {n1 n2 n3 n4 k1 k2 k3 k4 : Nat} {r s : Rt} {w : World} (hr : Rk w (.slice A1 n1 k1) (.slice A2 n2 k2) r) (hs : Rk w (.slice A3 n3 k3) (.slice A4 n4 k4) s) :
    Calls Tryz.prog 44 #[.slice (some ⟨w.heap.size + 3, 0, none⟩) 2 2] ((((w.alloc (.cells #[.slice A1 n1 k1, .slice A2 n2 k2] 27)).alloc (.cells #[.slice A3 n3 k3, .slice A4 n4 k4] 27)).alloc (.cells #[.slice none 0 0, .slice none 0 0] 27)).alloc (.cells #[.slice A1 n1 k1, .slice A2 n2 k2, .slice A3 n3 k3, .slice A4 n4 k4] 27)) (fun e w1 => e = .returned (.int .i64 ((bothE r s : Nat) : Int)) ∧ (Blk w1 w.heap.size 27 [.slice A1 n1 k1, .slice A2 n2 k2] ∧ Blk w1 (w.heap.size + 1) 27 [.slice A3 n3 k3, .slice A4 n4 k4]) ∧ Blk w1 (w.heap.size + 2) 27 [.slice none 0 0, .slice none 0 0] ∧ Below w.heap.size w w1) := by
  have hb := boxes3 w (.slice A1 n1 k1) (.slice A2 n2 k2) (.slice A3 n3 k3) (.slice A4 n4 k4)
  have hbel : Below w.heap.size w ((((w.alloc (.cells #[.slice A1 n1 k1, .slice A2 n2 k2] 27)).alloc (.cells #[.slice A3 n3 k3, .slice A4 n4 k4] 27)).alloc (.cells #[.slice none 0 0, .slice none 0 0] 27)).alloc (.cells #[.slice A1 n1 k1, .slice A2 n2 k2, .slice A3 n3 k3, .slice A4 n4 k4] 27)) := hb.2.2.alloc hb.2.2.size _
  have hblk : Blk ((((w.alloc (.cells #[.slice A1 n1 k1, .slice A2 n2 k2] 27)).alloc (.cells #[.slice A3 n3 k3, .slice A4 n4 k4] 27)).alloc (.cells #[.slice none 0 0, .slice none 0 0] 27)).alloc (.cells #[.slice A1 n1 k1, .slice A2 n2 k2, .slice A3 n3 k3, .slice A4 n4 k4] 27)) (w.heap.size + 3) 27 [.slice A1 n1 k1, .slice A2 n2 k2, .slice A3 n3 k3, .slice A4 n4 k4] := Blk.newAt (((w.alloc (.cells #[.slice A1 n1 k1, .slice A2 n2 k2] 27)).alloc (.cells #[.slice A3 n3 k3, .slice A4 n4 k4] 27)).alloc (.cells #[.slice none 0 0, .slice none 0 0] 27)) _ 27 [.slice A1 n1 k1, .slice A2 n2 k2, .slice A3 n3 k3, .slice A4 n4 k4] (by simp)
  refine (allValid_any (w.heap.size + 3) A1 A2 A3 A4 n1 n2 n3 n4 k1 k2 k3 k4 r s _ hblk (hr.below hbel) (hs.below hbel)).mono ?_
  rintro e w1 ⟨rfl, h⟩
  have x1 := hb.1.1.alloc (.cells #[.slice A1 n1 k1, .slice A2 n2 k2, .slice A3 n3 k3, .slice A4 n4 k4] 27)
  have x2 := hb.1.2.alloc (.cells #[.slice A1 n1 k1, .slice A2 n2 k2, .slice A3 n3 k3, .slice A4 n4 k4] 27)
  have x3 := hb.2.1.alloc (.cells #[.slice A1 n1 k1, .slice A2 n2 k2, .slice A3 n3 k3, .slice A4 n4 k4] 27)
  exact ⟨rfl, ⟨x1.below h x1.lt, x2.below h x2.lt⟩, x3.below h x3.lt, below_step hbel h⟩
theorem front2 {A1 A2 A3 A4 : Option Addr} {n1 n2 n3 n4 k1 k2 k3 k4 : Nat} {r s : Rt} {w : World} (hr : Rk w (.slice A1 n1 k1) (.slice A2 n2 k2) r) (hs : Rk w (.slice A3 n3 k3) (.slice A4 n4 k4) s) :
    Calls Tryz.prog 44 #[.slice (some ⟨w.heap.size + 2, 0, none⟩) 2 2] (((w.alloc (.cells #[.slice A1 n1 k1, .slice A2 n2 k2] 27)).alloc (.cells #[.slice A3 n3 k3, .slice A4 n4 k4] 27)).alloc (.cells #[.slice A1 n1 k1, .slice A2 n2 k2, .slice A3 n3 k3, .slice A4 n4 k4] 27)) (fun e w1 => e = .returned (.int .i64 ((bothE r s : Nat) : Int)) ∧ (Blk w1 w.heap.size 27 [.slice A1 n1 k1, .slice A2 n2 k2] ∧ Blk w1 (w.heap.size + 1) 27 [.slice A3 n3 k3, .slice A4 n4 k4]) ∧ Below w.heap.size w w1) := by
  have hb := boxes2 w (.slice A1 n1 k1) (.slice A2 n2 k2) (.slice A3 n3 k3) (.slice A4 n4 k4)
  have hbel : Below w.heap.size w (((w.alloc (.cells #[.slice A1 n1 k1, .slice A2 n2 k2] 27)).alloc (.cells #[.slice A3 n3 k3, .slice A4 n4 k4] 27)).alloc (.cells #[.slice A1 n1 k1, .slice A2 n2 k2, .slice A3 n3 k3, .slice A4 n4 k4] 27)) := hb.2.2.alloc hb.2.2.size _
  have hblk : Blk (((w.alloc (.cells #[.slice A1 n1 k1, .slice A2 n2 k2] 27)).alloc (.cells #[.slice A3 n3 k3, .slice A4 n4 k4] 27)).alloc (.cells #[.slice A1 n1 k1, .slice A2 n2 k2, .slice A3 n3 k3, .slice A4 n4 k4] 27)) (w.heap.size + 2) 27 [.slice A1 n1 k1, .slice A2 n2 k2, .slice A3 n3 k3, .slice A4 n4 k4] := Blk.newAt ((w.alloc (.cells #[.slice A1 n1 k1, .slice A2 n2 k2] 27)).alloc (.cells #[.slice A3 n3 k3, .slice A4 n4 k4] 27)) _ 27 [.slice A1 n1 k1, .slice A2 n2 k2, .slice A3 n3 k3, .slice A4 n4 k4] (by simp)
  refine (allValid_any (w.heap.size + 2) A1 A2 A3 A4 n1 n2 n3 n4 k1 k2 k3 k4 r s _ hblk (hr.below hbel) (hs.below hbel)).mono ?_
  rintro e w1 ⟨rfl, h⟩
  have x1 := hb.1.alloc (.cells #[.slice A1 n1 k1, .slice A2 n2 k2, .slice A3 n3 k3, .slice A4 n4 k4] 27)
  have x2 := hb.2.1.alloc (.cells #[.slice A1 n1 k1, .slice A2 n2 k2, .slice A3 n3 k3, .slice A4 n4 k4] 27)
  exact ⟨rfl, ⟨x1.below h x1.lt, x2.below h x2.lt⟩, below_step hbel h⟩
theorem sl_len {w : World} {A : Option Addr} {n c : Nat} {l : List Nat} (h : Sl w (.slice A n c) l) : n = l.length := by
  obtain ⟨B, k, e, _⟩ := h; cases e; rfl
theorem op_eq {x y x2 y2 : Nat} (va : Vr x y) (vb : Vr x2 y2) : num (lim x) = x ∧ num (lim x2) = x2 ∧ denN (dl y) = y ∧ denN (dl y2) = y2 := ⟨num_lim x, num_lim x2, dl_den y va.pos, dl_den y2 vb.pos⟩
theorem both_vr {x y x2 y2 : Nat} (va : Vr x y) (vb : Vr x2 y2) : bothE (lim x, dl y) (lim x2, dl y2) = 0 := by
  unfold bothE
  rw [if_neg (by simp [vld_of va])]; exact vld_of vb
theorem add_eq {x y x2 y2 : Nat} (va : Vr x y) (vb : Vr x2 y2) : addR (lim x, dl y) (lim x2, dl y2) = lowR (x * y2 + x2 * y) (y * y2) := by
  obtain ⟨h1, h2, h3, h4⟩ := op_eq va vb
  unfold addR; rw [if_neg (by simp [both_vr va vb])]; simp only [h1, h2, h3, h4]
theorem sub_eq {x y x2 y2 : Nat} (va : Vr x y) (vb : Vr x2 y2) : subR (lim x, dl y) (lim x2, dl y2) = if x * y2 < x2 * y then (noR, 5) else lowR (x * y2 - x2 * y) (y * y2) := by
  obtain ⟨h1, h2, h3, h4⟩ := op_eq va vb
  unfold subR; rw [if_neg (by simp [both_vr va vb])]; simp only [h1, h2, h3, h4]
theorem div_eq {x y x2 y2 : Nat} (va : Vr x y) (vb : Vr x2 y2) : divR (lim x, dl y) (lim x2, dl y2) = if x2 = 0 then (noR, 5) else lowR (x * y2) (y * x2) := by
  obtain ⟨h1, h2, h3, h4⟩ := op_eq va vb
  unfold divR; rw [if_neg (by simp [both_vr va vb])]; simp only [h1, h2, h3, h4, lim_nil]
theorem cmp_eq {x y x2 y2 : Nat} (va : Vr x y) (vb : Vr x2 y2) : cmpR (lim x, dl y) (lim x2, dl y2) = (ord (x * y2) (x2 * y), 0) := by
  obtain ⟨h1, h2, h3, h4⟩ := op_eq va vb
  unfold cmpR; rw [if_neg (by simp [both_vr va vb])]; simp only [h1, h2, h3, h4]
def CmP (w : World) (x : Int × Nat) (e : Ending) (w' : World) : Prop := e = .returned (.tuple #[.int .i64 x.1, .int .i64 ((x.2 : Nat) : Int)]) ∧ Below w.heap.size w w'
set_option maxHeartbeats 4000000 in
theorem add_any {v1 v2 u1 u2 : Value} {r s : Rt} {w : World} (hr : Rk w v1 v2 r) (hs : Rk w u1 u2 s) : Calls Tryz.prog 11 #[.agg #[v1, v2], .agg #[u1, u2]] w (RtP w (addR r s)) := by
  suffices hgen : ∀ Res, Hid (addR r s = Res) → Calls Tryz.prog 11 #[.agg #[v1, v2], .agg #[u1, u2]] w (RtP w Res) from hgen _ (Lib.hid rfl)
  intro Res HRR
  obtain ⟨A1, n1, k1, e1⟩ := sl_form hr.s1
  obtain ⟨A2, n2, k2, e2⟩ := sl_form hr.s2
  obtain ⟨A3, n3, k3, e3⟩ := sl_form hs.s1
  obtain ⟨A4, n4, k4, e4⟩ := sl_form hs.s2
  subst e1 e2 e3 e4
  have hbs := bsR3 A1 A2 A3 A4 n1 n2 n3 n4 k1 k2 k3 k4 w
  have HV := Lib.hid (front3 hr hs)
  have HR := Lib.hid hr; have HS := Lib.hid hs
  clear hr hs
  go_enter Tryz.func11, Tryz.ntmps11
  go_wp2_with fail
  clear hbs
  refine HV.out.mono ?_
  rintro e w1 ⟨rfl, hx, hR, hB⟩
  clear HV
  have HX := Lib.hid hx; have HB := Lib.hid hB
  clear hx hB
  have HRB := Lib.hid hR
  clear hR
  by_cases hz : bothE r s = 0
  · obtain ⟨x, y, va, e1⟩ := vld_to HR.out.ok (both0 hz).1
    obtain ⟨x2, y2, vb, e2⟩ := vld_to HS.out.ok (both0 hz).2
    subst e1 e2
    rw [hz]
    have hre := HRR.out
    rw [add_eq va vb] at hre
    clear hz HRR
    subst hre
    have HA := Lib.hid (added_sl (HR.out.s1.below HB.out) (HR.out.s2.below HB.out) (HS.out.s1.below HB.out) (HS.out.s2.below HB.out) va vb)
    obtain ⟨hc1, hc2, hf1, hf2⟩ := blk_cells2 HX.out.1
    obtain ⟨hc3, hc4, hf3, hf4⟩ := blk_cells2 HX.out.2
    clear va vb HR HS
    go_wp2_with fail
    clear hc1 hc2 hf1 hf2 hc3 hc4 hf3 hf4
    refine HA.out.mono ?_
    rintro e w2 ⟨v, rfl, ⟨u1, u2, rfl, s1, s2⟩, hb2⟩
    have HRk := HRB.out.below hb2 HRB.out.lt
    obtain ⟨hc1, hc2, hf1, hf2⟩ := blk_cells2 HRk
    have T1 := Lib.hid s1; have T2 := Lib.hid s2; have HRK := Lib.hid HRk; have HBK := Lib.hid (below_step HB.out hb2)
    obtain ⟨C1, m1, j1, e1⟩ := sl_form s1
    obtain ⟨C2, m2, j2, e2⟩ := sl_form s2
    clear hb2 s1 s2 HRk
    subst e1 e2
    go_wp2_with fail
    have hbk := (((HRK.out).put 0 (.slice C1 m1 j1)).put 1 (.slice C2 m2 j2))
    have hbl := (((HBK.out).setCell (p := ⟨w.heap.size + 2, 0, none⟩) (by simp) (.slice C1 m1 j1)).setCell (p := ⟨w.heap.size + 2, 1, none⟩) (by simp) (.slice C2 m2 j2))
    refine bodyPost_ret (v := .tuple #[.agg #[(.slice C1 m1 j1), (.slice C2 m2 j2)], .int .i64 (((lowR (x * y2 + x2 * y) (y * y2)).2 : Nat) : Int)]) ?_ rfl ⟨.agg #[(.slice C1 m1 j1), (.slice C2 m2 j2)], rfl, ⟨_, _, rfl, sl_res T1.out HRK.out _ _ _ _ _ _, sl_res T2.out HRK.out _ _ _ _ _ _⟩, hbl⟩
    have hr := run_loadVar_at (P := Tryz.prog) _ ⟨w.heap.size + 2, 0, none⟩ 27 [(.slice C1 m1 j1), (.slice C2 m2 j2)] _ hbk.at Tryz.underlying27 rfl size28
    simp [results, Tryz.results11, asAddr, hr]
  · have hne : (((bothE r s : Nat) : Int) != 0) = true := by rw [bne_iff_ne]; omega
    have hre := HRR.out
    rw [show addR r s = (noR, bothE r s) by unfold addR; rw [if_pos hz]] at hre
    subst hre
    generalize bothE r s = E at *
    clear hz HRR
    obtain ⟨hc1, hc2, hf1, hf2⟩ := blk_cells2 HRB.out
    go_wp2_with fail
    have hbk := (((HRB.out).put 0 (.slice none 0 0)).put 1 (.slice none 0 0))
    have hbl := (((HB.out).setCell (p := ⟨w.heap.size + 2, 0, none⟩) (by simp) (.slice none 0 0)).setCell (p := ⟨w.heap.size + 2, 1, none⟩) (by simp) (.slice none 0 0))
    refine bodyPost_ret (v := .tuple #[.agg #[(.slice none 0 0), (.slice none 0 0)], .int .i64 ((E : Nat) : Int)]) ?_ rfl ⟨.agg #[(.slice none 0 0), (.slice none 0 0)], rfl, ⟨_, _, rfl, sl_res (Sl.nil _) HRB.out _ _ _ _ _ _, sl_res (Sl.nil _) HRB.out _ _ _ _ _ _⟩, hbl⟩
    have hr := run_loadVar_at (P := Tryz.prog) _ ⟨w.heap.size + 2, 0, none⟩ 27 [(.slice none 0 0), (.slice none 0 0)] _ hbk.at Tryz.underlying27 rfl size28
    simp [results, Tryz.results11, asAddr, hr]
set_option maxHeartbeats 4000000 in
theorem cmp_any {v1 v2 u1 u2 : Value} {r s : Rt} {w : World} (hr : Rk w v1 v2 r) (hs : Rk w u1 u2 s) : Calls Tryz.prog 9 #[.agg #[v1, v2], .agg #[u1, u2]] w (CmP w (cmpR r s)) := by
  suffices hgen : ∀ Res, Hid (cmpR r s = Res) → Calls Tryz.prog 9 #[.agg #[v1, v2], .agg #[u1, u2]] w (CmP w Res) from hgen _ (Lib.hid rfl)
  intro Res HRR
  obtain ⟨A1, n1, k1, e1⟩ := sl_form hr.s1
  obtain ⟨A2, n2, k2, e2⟩ := sl_form hr.s2
  obtain ⟨A3, n3, k3, e3⟩ := sl_form hs.s1
  obtain ⟨A4, n4, k4, e4⟩ := sl_form hs.s2
  subst e1 e2 e3 e4
  have hbs := bsR2 A1 A2 A3 A4 n1 n2 n3 n4 k1 k2 k3 k4 w
  have HV := Lib.hid (front2 hr hs)
  have HR := Lib.hid hr; have HS := Lib.hid hs
  clear hr hs
  go_enter Tryz.func9, Tryz.ntmps9
  go_wp2_with fail
  clear hbs
  refine HV.out.mono ?_
  rintro e w1 ⟨rfl, hx, hB⟩
  clear HV
  have HX := Lib.hid hx; have HB := Lib.hid hB
  clear hx hB
  by_cases hz : bothE r s = 0
  · obtain ⟨x, y, va, e1⟩ := vld_to HR.out.ok (both0 hz).1
    obtain ⟨x2, y2, vb, e2⟩ := vld_to HS.out.ok (both0 hz).2
    subst e1 e2
    rw [hz]
    have hre := HRR.out
    rw [cmp_eq va vb] at hre
    clear hz HRR
    subst hre
    have ha1 : Sl w (.slice A1 n1 k1) (lim x) := HR.out.s1
    have ha2 : Sl w (.slice A2 n2 k2) (dl y) := HR.out.s2
    have hb1 : Sl w (.slice A3 n3 k3) (lim x2) := HS.out.s1
    have hb2 : Sl w (.slice A4 n4 k4) (dl y2) := HS.out.s2
    obtain ⟨la1, la2, la3⟩ := Vr.len va
    obtain ⟨lb1, lb2, lb3⟩ := Vr.len vb
    have hp : 0 < y * y2 := Nat.mul_pos va.pos vb.pos
    have HDA := Lib.hid (fun W (h : Below w.heap.size w W) => denOf_sl (ha1.below h) (ha2.below h) va.pos (by omega))
    have HDB := Lib.hid (fun W (h : Below w.heap.size w W) => denOf_sl (hb1.below h) (hb2.below h) vb.pos (by omega))
    have HTA := Lib.hid (fun W (h : Below w.heap.size w W) (v : Value) (hv : Sl W v (lim y2)) => times_sl (ha1.below h) hv (by omega) (by omega))
    have mA : (lim (x * y2)).length ≤ 128 := lim_mul la1 lb2
    have HTB := Lib.hid (fun W (h : Below w.heap.size w W) (v : Value) (hv : Sl W v (lim y)) => times_sl (hb1.below h) hv (by omega) (by omega))
    have mB : (lim (x2 * y)).length ≤ 128 := lim_mul lb1 la2
    have HCO := Lib.hid (fun W (h : Below w.heap.size w W) (v1 : Value) (hv1 : Sl W v1 (lim (x * y2))) (v2 : Value) (hv2 : Sl W v2 (lim (x2 * y))) => compare_sl hv1 hv2 (by omega) (by omega))
    clear ha1 ha2 hb1 hb2 va vb la1 la2 la3 lb1 lb2 lb3 hp mA mB HR HS
    go_upto_region 4 with (fail)
    refine wp_region_held (S := fun W => Blk W w.heap.size 27 [(.slice A1 n1 k1), (.slice A2 n2 k2)] ∧ Blk W (w.heap.size + 1) 27 [(.slice A3 n3 k3), (.slice A4 n4 k4)]) (by kernel_rfl) ?_
    change wpAnyH _ _ _ _ _ _ _ _ (World.drew w1)
    have hs0 : Blk (World.drew w1) w.heap.size 27 [(.slice A1 n1 k1), (.slice A2 n2 k2)] ∧ Blk (World.drew w1) (w.heap.size + 1) 27 [(.slice A3 n3 k3), (.slice A4 n4 k4)] := HX.out
    have BD : Hid (Below w.heap.size w (World.drew w1)) := Lib.hid (below_drewN HB.out 1)
    generalize World.drew w1 = Wd at hs0 BD ⊢
    refine wpAnyH_take (i := 0) (oi := { dst := some 14, op := Op.fieldAddr 27 (Operand.tmp 2) 0, type := 0, pos := "ratio.go:49", after := #[], guard := none }) (v := .pointer (some ⟨w.heap.size, 0, none⟩)) rfl (by kernel_rfl) (by kernel_rfl) (by kernel_rfl) (fun _ _ _ h => h) (Or.inl ⟨by rfl, fun W hW => ?y1⟩) hs0 ?_
    case y1 => go_simp
    try dsimp only [Act.put]
    try simp only [List.setIfInBounds_toArray, List.set_cons_zero, List.set_cons_succ]
    refine wpAnyH_take (i := 1) (oi := { dst := some 15, op := Op.load 22 (Operand.tmp 14), type := 22, pos := "ratio.go:49", after := #[{ on := 0, ground := Ground.data }], guard := none }) (v := (.slice A1 n1 k1)) rfl (by kernel_rfl) (by kernel_rfl) (by kernel_rfl) (fun _ _ _ h => h) (Or.inl ⟨by rfl, fun W hW => by have hcl : W.cell? ⟨w.heap.size, 0, none⟩ = some (.slice A1 n1 k1) := (Blk.cell hW.1 0).trans rfl; go_simp⟩) hs0 ?_
    try dsimp only [Act.put]
    try simp only [List.setIfInBounds_toArray, List.set_cons_zero, List.set_cons_succ]
    refine wpAnyH_take (i := 2) (oi := { dst := some 16, op := Op.load 27 (Operand.tmp 3), type := 27, pos := "ratio.go:49", after := #[], guard := none }) (v := .agg #[(.slice A3 n3 k3), (.slice A4 n4 k4)]) rfl (by kernel_rfl) (by kernel_rfl) (by kernel_rfl) (fun _ _ _ h => h) (Or.inl ⟨by rfl, fun W hW => by obtain ⟨hc1, hc2, _, _⟩ := blk_cells2 hW.2; go_simp⟩) hs0 ?_
    try dsimp only [Act.put]
    try simp only [List.setIfInBounds_toArray, List.set_cons_zero, List.set_cons_succ]
    refine wpAnyH_take (i := 5) (oi := { dst := some 19, op := Op.fieldAddr 27 (Operand.tmp 3) 0, type := 0, pos := "ratio.go:49", after := #[], guard := none }) (v := .pointer (some ⟨(w.heap.size + 1), 0, none⟩)) rfl (by kernel_rfl) (by kernel_rfl) (by kernel_rfl) (fun _ _ _ h => h) (Or.inl ⟨by rfl, fun W hW => ?y4⟩) hs0 ?_
    case y4 => go_simp
    try dsimp only [Act.put]
    try simp only [List.setIfInBounds_toArray, List.set_cons_zero, List.set_cons_succ]
    refine wpAnyH_take (i := 6) (oi := { dst := some 20, op := Op.load 22 (Operand.tmp 19), type := 22, pos := "ratio.go:49", after := #[{ on := 5, ground := Ground.data }], guard := none }) (v := (.slice A3 n3 k3)) rfl (by kernel_rfl) (by kernel_rfl) (by kernel_rfl) (fun _ _ _ h => h) (Or.inl ⟨by rfl, fun W hW => by have hcl : W.cell? ⟨(w.heap.size + 1), 0, none⟩ = some (.slice A3 n3 k3) := (Blk.cell hW.2 0).trans rfl; go_simp⟩) hs0 ?_
    try dsimp only [Act.put]
    try simp only [List.setIfInBounds_toArray, List.set_cons_zero, List.set_cons_succ]
    refine wpAnyH_take (i := 7) (oi := { dst := some 21, op := Op.load 27 (Operand.tmp 2), type := 27, pos := "ratio.go:49", after := #[], guard := none }) (v := .agg #[(.slice A1 n1 k1), (.slice A2 n2 k2)]) rfl (by kernel_rfl) (by kernel_rfl) (by kernel_rfl) (fun _ _ _ h => h) (Or.inl ⟨by rfl, fun W hW => by obtain ⟨hc1, hc2, _, _⟩ := blk_cells2 hW.1; go_simp⟩) hs0 ?_
    try dsimp only [Act.put]
    try simp only [List.setIfInBounds_toArray, List.set_cons_zero, List.set_cons_succ]
    refine wpAnyH_ready (rs := [3]) (by kernel_rfl) (by simp) ?_
    refine AllReadyH.cons (o := { dst := some 17, op := Op.call { callee := Callee.value (Operand.func 47), args := #[Operand.tmp 16], argTypes := #[27] }, type := 22, pos := "ratio.go:49", after := #[{ on := 2, ground := Ground.data }], guard := none }) rfl (fun K hK => ?_) AllReadyH.nil
    rw [if_pos (by rfl)]
    go_simp
    refine (HDB.out _ BD.out ).mono ?_; rintro e w7 ⟨v8, rfl, hs, hb⟩
    have B10 := Lib.hid (below_step BD.out hb)
    have hs11 := And.intro (hs0.1.below hb hs0.1.lt) (hs0.2.below hb hs0.2.lt)
    have S9 := Lib.hid hs
    clear hs hb
    go_wp2_with fail
    refine hK.out _ _ hs11 (fun _ => ?_)
    clear hK K
    try dsimp only [Act.put]
    try simp only [List.setIfInBounds_toArray, List.set_cons_zero, List.set_cons_succ]
    refine wpAnyH_ready (rs := [4]) (by kernel_rfl) (by simp) ?_
    refine AllReadyH.cons (o := { dst := some 18, op := Op.call { callee := Callee.value (Operand.func 46), args := #[Operand.tmp 15, Operand.tmp 17], argTypes := #[22, 22] }, type := 22, pos := "ratio.go:49", after := #[{ on := 1, ground := Ground.data }, { on := 3, ground := Ground.data }, { on := 3, ground := Ground.chain }], guard := none }) rfl (fun K hK => ?_) AllReadyH.nil
    rw [if_pos (by rfl)]
    go_simp
    refine (HTA.out _ B10.out _ S9.out).mono ?_; rintro e w12 ⟨v13, rfl, hs, hb⟩
    have B15 := Lib.hid (below_step B10.out hb)
    have hs16 := And.intro (hs11.1.below hb hs11.1.lt) (hs11.2.below hb hs11.2.lt)
    have S17 := Lib.hid (S9.out.below hb)
    have S14 := Lib.hid hs
    clear hs hb
    go_wp2_with fail
    refine hK.out _ _ hs16 (fun _ => ?_)
    clear hK K
    try dsimp only [Act.put]
    try simp only [List.setIfInBounds_toArray, List.set_cons_zero, List.set_cons_succ]
    refine wpAnyH_ready (rs := [8]) (by kernel_rfl) (by simp) ?_
    refine AllReadyH.cons (o := { dst := some 22, op := Op.call { callee := Callee.value (Operand.func 47), args := #[Operand.tmp 21], argTypes := #[27] }, type := 22, pos := "ratio.go:49", after := #[{ on := 7, ground := Ground.data }, { on := 4, ground := Ground.chain }], guard := none }) rfl (fun K hK => ?_) AllReadyH.nil
    rw [if_pos (by rfl)]
    go_simp
    refine (HDA.out _ B15.out ).mono ?_; rintro e w18 ⟨v19, rfl, hs, hb⟩
    have B21 := Lib.hid (below_step B15.out hb)
    have hs22 := And.intro (hs16.1.below hb hs16.1.lt) (hs16.2.below hb hs16.2.lt)
    have S23 := Lib.hid (S17.out.below hb)
    have S24 := Lib.hid (S14.out.below hb)
    have S20 := Lib.hid hs
    clear hs hb
    go_wp2_with fail
    refine hK.out _ _ hs22 (fun _ => ?_)
    clear hK K
    try dsimp only [Act.put]
    try simp only [List.setIfInBounds_toArray, List.set_cons_zero, List.set_cons_succ]
    refine wpAnyH_ready (rs := [9]) (by kernel_rfl) (by simp) ?_
    refine AllReadyH.cons (o := { dst := some 23, op := Op.call { callee := Callee.value (Operand.func 46), args := #[Operand.tmp 20, Operand.tmp 22], argTypes := #[22, 22] }, type := 22, pos := "ratio.go:49", after := #[{ on := 6, ground := Ground.data }, { on := 8, ground := Ground.data }, { on := 8, ground := Ground.chain }], guard := none }) rfl (fun K hK => ?_) AllReadyH.nil
    rw [if_pos (by rfl)]
    go_simp
    refine (HTB.out _ B21.out _ S20.out).mono ?_; rintro e w25 ⟨v26, rfl, hs, hb⟩
    have B28 := Lib.hid (below_step B21.out hb)
    have hs29 := And.intro (hs22.1.below hb hs22.1.lt) (hs22.2.below hb hs22.2.lt)
    have S30 := Lib.hid (S23.out.below hb)
    have S31 := Lib.hid (S24.out.below hb)
    have S32 := Lib.hid (S20.out.below hb)
    have S27 := Lib.hid hs
    clear hs hb
    go_wp2_with fail
    refine hK.out _ _ hs29 (fun _ => ?_)
    clear hK K
    try dsimp only [Act.put]
    try simp only [List.setIfInBounds_toArray, List.set_cons_zero, List.set_cons_succ]
    refine wpAnyH_ready (rs := [10]) (by kernel_rfl) (by simp) ?_
    refine AllReadyH.cons (o := { dst := some 24, op := Op.call { callee := Callee.value (Operand.func 45), args := #[Operand.tmp 18, Operand.tmp 23], argTypes := #[22, 22] }, type := 3, pos := "ratio.go:49", after := #[{ on := 4, ground := Ground.data }, { on := 9, ground := Ground.data }, { on := 9, ground := Ground.chain }], guard := none }) rfl (fun K hK => ?_) AllReadyH.nil
    rw [if_pos (by rfl)]
    go_simp
    refine (HCO.out _ B28.out _ S31.out _ S27.out).mono ?_; rintro e w33 ⟨rfl, hb⟩
    have B34 := Lib.hid (below_step B28.out hb)
    have hs35 := And.intro (hs29.1.below hb hs29.1.lt) (hs29.2.below hb hs29.2.lt)
    have S36 := Lib.hid (S30.out.below hb)
    have S37 := Lib.hid (S31.out.below hb)
    have S38 := Lib.hid (S32.out.below hb)
    have S39 := Lib.hid (S27.out.below hb)
    clear hb
    go_wp2_with fail
    refine hK.out _ _ hs35 (fun _ => ?_)
    clear hK K
    try dsimp only [Act.put]
    try simp only [List.setIfInBounds_toArray, List.set_cons_zero, List.set_cons_succ]
    refine wpAnyH_take (i := 11) (oi := { dst := some 4, op := Op.assign (Operand.tmp 24), type := 3, pos := "ratio.go:49", after := #[{ on := 10, ground := Ground.data }, { on := 10, ground := Ground.chain }, { on := 0, ground := Ground.phase }, { on := 1, ground := Ground.phase }, { on := 2, ground := Ground.phase }, { on := 3, ground := Ground.phase }, { on := 4, ground := Ground.phase }, { on := 5, ground := Ground.phase }, { on := 6, ground := Ground.phase }, { on := 7, ground := Ground.phase }, { on := 8, ground := Ground.phase }, { on := 9, ground := Ground.phase }, { on := 10, ground := Ground.phase }], guard := none }) (v := .int .i64 (ord (x * y2) (x2 * y))) rfl (by kernel_rfl) (by kernel_rfl) (by kernel_rfl) (fun _ _ _ h => h) (Or.inl ⟨by rfl, fun W hW => ?y40⟩) hs35 ?_
    case y40 => go_simp
    try dsimp only [Act.put]
    try simp only [List.setIfInBounds_toArray, List.set_cons_zero, List.set_cons_succ]
    refine wpAnyH_take (i := 12) (oi := { dst := some 5, op := Op.assign (Operand.const (Value.int IntKind.i64 0)), type := 28, pos := "ratio.go:49", after := #[{ on := 11, ground := Ground.chain }, { on := 0, ground := Ground.phase }, { on := 1, ground := Ground.phase }, { on := 2, ground := Ground.phase }, { on := 3, ground := Ground.phase }, { on := 4, ground := Ground.phase }, { on := 5, ground := Ground.phase }, { on := 6, ground := Ground.phase }, { on := 7, ground := Ground.phase }, { on := 8, ground := Ground.phase }, { on := 9, ground := Ground.phase }, { on := 10, ground := Ground.phase }, { on := 11, ground := Ground.phase }], guard := none }) (v := .int .i64 0) rfl (by kernel_rfl) (by kernel_rfl) (by kernel_rfl) (fun _ _ _ h => h) (Or.inl ⟨by rfl, fun W hW => ?y41⟩) hs35 ?_
    case y41 => go_simp
    try dsimp only [Act.put]
    try simp only [List.setIfInBounds_toArray, List.set_cons_zero, List.set_cons_succ]
    refine wpAnyH_done (by kernel_rfl) ?_ _
    try dsimp only [Act.put]
    try simp only [List.setIfInBounds_toArray, List.set_cons_zero, List.set_cons_succ]
    go_wp2_with fail
    go_ret2
    exact ⟨rfl, B34.out⟩
  · have hne : (((bothE r s : Nat) : Int) != 0) = true := by rw [bne_iff_ne]; omega
    have hre := HRR.out
    rw [show cmpR r s = (0, bothE r s) by unfold cmpR; rw [if_pos hz]] at hre
    subst hre
    generalize bothE r s = E at *
    clear hz HRR
    go_wp2_with fail
    go_ret2
    exact ⟨rfl, HB.out⟩
set_option maxHeartbeats 4000000 in
theorem div_any {v1 v2 u1 u2 : Value} {r s : Rt} {w : World} (hr : Rk w v1 v2 r) (hs : Rk w u1 u2 s) : Calls Tryz.prog 18 #[.agg #[v1, v2], .agg #[u1, u2]] w (RtP w (divR r s)) := by
  suffices hgen : ∀ Res, Hid (divR r s = Res) → Calls Tryz.prog 18 #[.agg #[v1, v2], .agg #[u1, u2]] w (RtP w Res) from hgen _ (Lib.hid rfl)
  intro Res HRR
  obtain ⟨A1, n1, k1, e1⟩ := sl_form hr.s1
  obtain ⟨A2, n2, k2, e2⟩ := sl_form hr.s2
  obtain ⟨A3, n3, k3, e3⟩ := sl_form hs.s1
  obtain ⟨A4, n4, k4, e4⟩ := sl_form hs.s2
  subst e1 e2 e3 e4
  have hbs := bsR3 A1 A2 A3 A4 n1 n2 n3 n4 k1 k2 k3 k4 w
  have HV := Lib.hid (front3 hr hs)
  have HR := Lib.hid hr; have HS := Lib.hid hs
  clear hr hs
  go_enter Tryz.func18, Tryz.ntmps18
  go_wp2_with fail
  clear hbs
  refine HV.out.mono ?_
  rintro e w1 ⟨rfl, hx, hR, hB⟩
  clear HV
  have HX := Lib.hid hx; have HB := Lib.hid hB
  clear hx hB
  have HRB := Lib.hid hR
  clear hR
  by_cases hz : bothE r s = 0
  · obtain ⟨x, y, va, e1⟩ := vld_to HR.out.ok (both0 hz).1
    obtain ⟨x2, y2, vb, e2⟩ := vld_to HS.out.ok (both0 hz).2
    subst e1 e2
    rw [hz]
    have hre := HRR.out
    rw [div_eq va vb] at hre
    clear hz HRR
    have HRE := Lib.hid hre; clear hre
    have ha1 : Sl w (.slice A1 n1 k1) (lim x) := HR.out.s1
    have ha2 : Sl w (.slice A2 n2 k2) (dl y) := HR.out.s2
    have hb1 : Sl w (.slice A3 n3 k3) (lim x2) := HS.out.s1
    have hb2 : Sl w (.slice A4 n4 k4) (dl y2) := HS.out.s2
    obtain ⟨la1, la2, la3⟩ := Vr.len va
    obtain ⟨lb1, lb2, lb3⟩ := Vr.len vb
    have hp : 0 < y * y2 := Nat.mul_pos va.pos vb.pos
    have HDA := Lib.hid (fun W (h : Below w.heap.size w W) => denOf_sl (ha1.below h) (ha2.below h) va.pos (by omega))
    have HDB := Lib.hid (fun W (h : Below w.heap.size w W) => denOf_sl (hb1.below h) (hb2.below h) vb.pos (by omega))
    have hn3 := sl_len hb1
    obtain ⟨hc3, hc4, hf3, hf4⟩ := blk_cells2 HX.out.2
    by_cases h0 : x2 = 0
    · have hre := HRE.out
      rw [if_pos h0] at hre
      subst hre
      have hn : n3 = 0 := by rw [hn3, h0]; simp [lim_zero]
      subst hn
      obtain ⟨hc1, hc2, hf1, hf2⟩ := blk_cells2 HRB.out
      clear ha1 ha2 hb1 hb2 va vb la1 la2 la3 lb1 lb2 lb3 hp HR HS HDA HDB hn3 h0
      go_wp2_with fail
      have hbk := (((HRB.out).put 0 (.slice none 0 0)).put 1 (.slice none 0 0))
      have hbl := (((HB.out).setCell (p := ⟨w.heap.size + 2, 0, none⟩) (by simp) (.slice none 0 0)).setCell (p := ⟨w.heap.size + 2, 1, none⟩) (by simp) (.slice none 0 0))
      refine bodyPost_ret (v := .tuple #[.agg #[(.slice none 0 0), (.slice none 0 0)], .int .i64 5]) ?_ rfl ⟨.agg #[(.slice none 0 0), (.slice none 0 0)], rfl, ⟨_, _, rfl, sl_res (Sl.nil _) HRB.out _ _ _ _ _ _, sl_res (Sl.nil _) HRB.out _ _ _ _ _ _⟩, hbl⟩
      have hr := run_loadVar_at (P := Tryz.prog) _ ⟨w.heap.size + 2, 0, none⟩ 27 [(.slice none 0 0), (.slice none 0 0)] _ hbk.at Tryz.underlying27 rfl size28
      simp [results, Tryz.results18, asAddr, hr]
    have hre := HRE.out
    rw [if_neg h0] at hre
    subst hre
    clear HRE
    have hq : 0 < y * x2 := Nat.mul_pos va.pos (by omega)
    have hne : ((n3 : Int) == 0) = false := by
      rw [beq_eq_false_iff_ne, hn3]
      intro e
      have : (lim x2).length = 0 := by omega
      exact h0 (lim_nil.1 (List.length_eq_zero_iff.1 this))
    clear hn3
    have HTA := Lib.hid (fun W (h : Below w.heap.size w W) (v : Value) (hv : Sl W v (lim y2)) => times_sl (ha1.below h) hv (by omega) (by omega))
    have mA : (lim (x * y2)).length ≤ 128 := lim_mul la1 lb2
    have HTN := Lib.hid (fun W (h : Below w.heap.size w W) (v : Value) (hv : Sl W v (lim y)) => times_sl hv (hb1.below h) (by omega) (by omega))
    have mN : (lim (y * x2)).length ≤ 128 := lim_mul la2 lb1
    have HLO := Lib.hid (fun W (h : Below w.heap.size w W) (v1 : Value) (hv1 : Sl W v1 (lim (x * y2))) (v2 : Value) (hv2 : Sl W v2 (lim (y * x2))) => lowest_sl hv1 hv2 hq (by omega) (by omega))
    clear ha1 ha2 hb1 hb2 va vb la1 la2 la3 lb1 lb2 lb3 hp mA mN hq h0 HR HS
    go_upto_region 6 with (fail)
    clear hc3 hc4 hf3 hf4
    refine wp_region_held (S := fun W => Blk W w.heap.size 27 [(.slice A1 n1 k1), (.slice A2 n2 k2)] ∧ Blk W (w.heap.size + 1) 27 [(.slice A3 n3 k3), (.slice A4 n4 k4)]) (by kernel_rfl) ?_
    change wpAnyH _ _ _ _ _ _ _ _ (World.drew w1)
    have hs0 : Blk (World.drew w1) w.heap.size 27 [(.slice A1 n1 k1), (.slice A2 n2 k2)] ∧ Blk (World.drew w1) (w.heap.size + 1) 27 [(.slice A3 n3 k3), (.slice A4 n4 k4)] := HX.out
    have BD : Hid (Below w.heap.size w (World.drew w1)) := Lib.hid (below_drewN HB.out 1)
    have RD : Hid (Blk (World.drew w1) (w.heap.size + 2) 27 [.slice none 0 0, .slice none 0 0]) := HRB
    generalize World.drew w1 = Wd at hs0 BD RD ⊢
    refine wpAnyH_take (i := 0) (oi := { dst := some 20, op := Op.fieldAddr 27 (Operand.tmp 2) 0, type := 0, pos := "ratio.go:88", after := #[], guard := none }) (v := .pointer (some ⟨w.heap.size, 0, none⟩)) rfl (by kernel_rfl) (by kernel_rfl) (by kernel_rfl) (fun _ _ _ h => h) (Or.inl ⟨by rfl, fun W hW => ?y1⟩) hs0 ?_
    case y1 => go_simp
    try dsimp only [Act.put]
    try simp only [List.setIfInBounds_toArray, List.set_cons_zero, List.set_cons_succ]
    refine wpAnyH_take (i := 1) (oi := { dst := some 21, op := Op.load 22 (Operand.tmp 20), type := 22, pos := "ratio.go:88", after := #[{ on := 0, ground := Ground.data }], guard := none }) (v := (.slice A1 n1 k1)) rfl (by kernel_rfl) (by kernel_rfl) (by kernel_rfl) (fun _ _ _ h => h) (Or.inl ⟨by rfl, fun W hW => by have hcl : W.cell? ⟨w.heap.size, 0, none⟩ = some (.slice A1 n1 k1) := (Blk.cell hW.1 0).trans rfl; go_simp⟩) hs0 ?_
    try dsimp only [Act.put]
    try simp only [List.setIfInBounds_toArray, List.set_cons_zero, List.set_cons_succ]
    refine wpAnyH_take (i := 2) (oi := { dst := some 22, op := Op.load 27 (Operand.tmp 3), type := 27, pos := "ratio.go:88", after := #[], guard := none }) (v := .agg #[(.slice A3 n3 k3), (.slice A4 n4 k4)]) rfl (by kernel_rfl) (by kernel_rfl) (by kernel_rfl) (fun _ _ _ h => h) (Or.inl ⟨by rfl, fun W hW => by obtain ⟨hc1, hc2, _, _⟩ := blk_cells2 hW.2; go_simp⟩) hs0 ?_
    try dsimp only [Act.put]
    try simp only [List.setIfInBounds_toArray, List.set_cons_zero, List.set_cons_succ]
    refine wpAnyH_take (i := 5) (oi := { dst := some 25, op := Op.load 27 (Operand.tmp 2), type := 27, pos := "ratio.go:88", after := #[], guard := none }) (v := .agg #[(.slice A1 n1 k1), (.slice A2 n2 k2)]) rfl (by kernel_rfl) (by kernel_rfl) (by kernel_rfl) (fun _ _ _ h => h) (Or.inl ⟨by rfl, fun W hW => by obtain ⟨hc1, hc2, _, _⟩ := blk_cells2 hW.1; go_simp⟩) hs0 ?_
    try dsimp only [Act.put]
    try simp only [List.setIfInBounds_toArray, List.set_cons_zero, List.set_cons_succ]
    refine wpAnyH_take (i := 7) (oi := { dst := some 27, op := Op.fieldAddr 27 (Operand.tmp 3) 0, type := 0, pos := "ratio.go:88", after := #[], guard := none }) (v := .pointer (some ⟨(w.heap.size + 1), 0, none⟩)) rfl (by kernel_rfl) (by kernel_rfl) (by kernel_rfl) (fun _ _ _ h => h) (Or.inl ⟨by rfl, fun W hW => ?y5⟩) hs0 ?_
    case y5 => go_simp
    try dsimp only [Act.put]
    try simp only [List.setIfInBounds_toArray, List.set_cons_zero, List.set_cons_succ]
    refine wpAnyH_take (i := 8) (oi := { dst := some 28, op := Op.load 22 (Operand.tmp 27), type := 22, pos := "ratio.go:88", after := #[{ on := 7, ground := Ground.data }], guard := none }) (v := (.slice A3 n3 k3)) rfl (by kernel_rfl) (by kernel_rfl) (by kernel_rfl) (fun _ _ _ h => h) (Or.inl ⟨by rfl, fun W hW => by have hcl : W.cell? ⟨(w.heap.size + 1), 0, none⟩ = some (.slice A3 n3 k3) := (Blk.cell hW.2 0).trans rfl; go_simp⟩) hs0 ?_
    try dsimp only [Act.put]
    try simp only [List.setIfInBounds_toArray, List.set_cons_zero, List.set_cons_succ]
    refine wpAnyH_ready (rs := [3]) (by kernel_rfl) (by simp) ?_
    refine AllReadyH.cons (o := { dst := some 23, op := Op.call { callee := Callee.value (Operand.func 47), args := #[Operand.tmp 22], argTypes := #[27] }, type := 22, pos := "ratio.go:88", after := #[{ on := 2, ground := Ground.data }], guard := none }) rfl (fun K hK => ?_) AllReadyH.nil
    rw [if_pos (by rfl)]
    go_simp
    refine (HDB.out _ BD.out ).mono ?_; rintro e w7 ⟨v8, rfl, hs, hb⟩
    have B10 := Lib.hid (below_step BD.out hb)
    have hs11 := And.intro (hs0.1.below hb hs0.1.lt) (hs0.2.below hb hs0.2.lt)
    have R12 := Lib.hid (RD.out.below hb RD.out.lt)
    have S9 := Lib.hid hs
    clear hs hb
    go_wp2_with fail
    refine hK.out _ _ hs11 (fun _ => ?_)
    clear hK K
    try dsimp only [Act.put]
    try simp only [List.setIfInBounds_toArray, List.set_cons_zero, List.set_cons_succ]
    refine wpAnyH_ready (rs := [4]) (by kernel_rfl) (by simp) ?_
    refine AllReadyH.cons (o := { dst := some 24, op := Op.call { callee := Callee.value (Operand.func 46), args := #[Operand.tmp 21, Operand.tmp 23], argTypes := #[22, 22] }, type := 22, pos := "ratio.go:88", after := #[{ on := 1, ground := Ground.data }, { on := 3, ground := Ground.data }, { on := 3, ground := Ground.chain }], guard := none }) rfl (fun K hK => ?_) AllReadyH.nil
    rw [if_pos (by rfl)]
    go_simp
    refine (HTA.out _ B10.out _ S9.out).mono ?_; rintro e w13 ⟨v14, rfl, hs, hb⟩
    have B16 := Lib.hid (below_step B10.out hb)
    have hs17 := And.intro (hs11.1.below hb hs11.1.lt) (hs11.2.below hb hs11.2.lt)
    have R18 := Lib.hid (R12.out.below hb R12.out.lt)
    have S19 := Lib.hid (S9.out.below hb)
    have S15 := Lib.hid hs
    clear hs hb
    go_wp2_with fail
    refine hK.out _ _ hs17 (fun _ => ?_)
    clear hK K
    try dsimp only [Act.put]
    try simp only [List.setIfInBounds_toArray, List.set_cons_zero, List.set_cons_succ]
    refine wpAnyH_ready (rs := [6]) (by kernel_rfl) (by simp) ?_
    refine AllReadyH.cons (o := { dst := some 26, op := Op.call { callee := Callee.value (Operand.func 47), args := #[Operand.tmp 25], argTypes := #[27] }, type := 22, pos := "ratio.go:88", after := #[{ on := 5, ground := Ground.data }, { on := 4, ground := Ground.chain }], guard := none }) rfl (fun K hK => ?_) AllReadyH.nil
    rw [if_pos (by rfl)]
    go_simp
    refine (HDA.out _ B16.out ).mono ?_; rintro e w20 ⟨v21, rfl, hs, hb⟩
    have B23 := Lib.hid (below_step B16.out hb)
    have hs24 := And.intro (hs17.1.below hb hs17.1.lt) (hs17.2.below hb hs17.2.lt)
    have R25 := Lib.hid (R18.out.below hb R18.out.lt)
    have S26 := Lib.hid (S19.out.below hb)
    have S27 := Lib.hid (S15.out.below hb)
    have S22 := Lib.hid hs
    clear hs hb
    go_wp2_with fail
    refine hK.out _ _ hs24 (fun _ => ?_)
    clear hK K
    try dsimp only [Act.put]
    try simp only [List.setIfInBounds_toArray, List.set_cons_zero, List.set_cons_succ]
    refine wpAnyH_ready (rs := [9]) (by kernel_rfl) (by simp) ?_
    refine AllReadyH.cons (o := { dst := some 29, op := Op.call { callee := Callee.value (Operand.func 46), args := #[Operand.tmp 26, Operand.tmp 28], argTypes := #[22, 22] }, type := 22, pos := "ratio.go:88", after := #[{ on := 6, ground := Ground.data }, { on := 8, ground := Ground.data }, { on := 6, ground := Ground.chain }], guard := none }) rfl (fun K hK => ?_) AllReadyH.nil
    rw [if_pos (by rfl)]
    go_simp
    refine (HTN.out _ B23.out _ S22.out).mono ?_; rintro e w28 ⟨v29, rfl, hs, hb⟩
    have B31 := Lib.hid (below_step B23.out hb)
    have hs32 := And.intro (hs24.1.below hb hs24.1.lt) (hs24.2.below hb hs24.2.lt)
    have R33 := Lib.hid (R25.out.below hb R25.out.lt)
    have S34 := Lib.hid (S26.out.below hb)
    have S35 := Lib.hid (S27.out.below hb)
    have S36 := Lib.hid (S22.out.below hb)
    have S30 := Lib.hid hs
    clear hs hb
    go_wp2_with fail
    refine hK.out _ _ hs32 (fun _ => ?_)
    clear hK K
    try dsimp only [Act.put]
    try simp only [List.setIfInBounds_toArray, List.set_cons_zero, List.set_cons_succ]
    refine wpAnyH_ready (rs := [10]) (by kernel_rfl) (by simp) ?_
    refine AllReadyH.cons (o := { dst := some 30, op := Op.call { callee := Callee.value (Operand.func 55), args := #[Operand.tmp 24, Operand.tmp 29], argTypes := #[22, 22] }, type := 31, pos := "ratio.go:88", after := #[{ on := 4, ground := Ground.data }, { on := 9, ground := Ground.data }, { on := 9, ground := Ground.chain }], guard := none }) rfl (fun K hK => ?_) AllReadyH.nil
    rw [if_pos (by rfl)]
    go_simp
    refine (HLO.out _ B31.out _ S35.out _ S30.out).mono ?_; rintro e w37 ⟨q38, rfl, ⟨u1, u2, rfl, s1, s2⟩, hb⟩
    have B41 := Lib.hid (below_step B31.out hb)
    have hs42 := And.intro (hs32.1.below hb hs32.1.lt) (hs32.2.below hb hs32.2.lt)
    have R43 := Lib.hid (R33.out.below hb R33.out.lt)
    have S44 := Lib.hid (S34.out.below hb)
    have S45 := Lib.hid (S35.out.below hb)
    have S46 := Lib.hid (S36.out.below hb)
    have S47 := Lib.hid (S30.out.below hb)
    have S39 := Lib.hid s1
    have S40 := Lib.hid s2
    obtain ⟨C1, m1, j1, e1⟩ := sl_form s1
    obtain ⟨C2, m2, j2, e2⟩ := sl_form s2
    clear s1 s2 hb
    subst e1 e2
    go_wp2_with fail
    refine hK.out _ _ hs42 (fun _ => ?_)
    clear hK K
    try dsimp only [Act.put]
    try simp only [List.setIfInBounds_toArray, List.set_cons_zero, List.set_cons_succ]
    refine wpAnyH_take (i := 11) (oi := { dst := some 31, op := Op.extract (Operand.tmp 30) 0, type := 27, pos := "ratio.go:88", after := #[{ on := 10, ground := Ground.data }], guard := none }) (v := .agg #[.slice C1 m1 j1, .slice C2 m2 j2]) rfl (by kernel_rfl) (by kernel_rfl) (by kernel_rfl) (fun _ _ _ h => h) (Or.inl ⟨by rfl, fun W hW => ?y48⟩) hs42 ?_
    case y48 => go_simp
    try dsimp only [Act.put]
    try simp only [List.setIfInBounds_toArray, List.set_cons_zero, List.set_cons_succ]
    refine wpAnyH_take (i := 12) (oi := { dst := some 32, op := Op.extract (Operand.tmp 30) 1, type := 28, pos := "ratio.go:88", after := #[{ on := 10, ground := Ground.data }], guard := none }) (v := .int .i64 (((lowR (x * y2) (y * x2)).2 : Nat) : Int)) rfl (by kernel_rfl) (by kernel_rfl) (by kernel_rfl) (fun _ _ _ h => h) (Or.inl ⟨by rfl, fun W hW => ?y49⟩) hs42 ?_
    case y49 => go_simp
    try dsimp only [Act.put]
    try simp only [List.setIfInBounds_toArray, List.set_cons_zero, List.set_cons_succ]
    refine wpAnyH_ready (rs := [13]) (by kernel_rfl) (by simp) ?_
    refine AllReadyH.cons (o := { dst := none, op := Op.store 27 (Operand.tmp 4) (Operand.tmp 31), type := 0, pos := "ratio.go:88", after := #[{ on := 11, ground := Ground.data }, { on := 10, ground := Ground.chain }, { on := 0, ground := Ground.phase }, { on := 1, ground := Ground.phase }, { on := 2, ground := Ground.phase }, { on := 3, ground := Ground.phase }, { on := 4, ground := Ground.phase }, { on := 5, ground := Ground.phase }, { on := 6, ground := Ground.phase }, { on := 7, ground := Ground.phase }, { on := 8, ground := Ground.phase }, { on := 9, ground := Ground.phase }, { on := 10, ground := Ground.phase }, { on := 11, ground := Ground.phase }, { on := 12, ground := Ground.phase }], guard := none }) rfl (fun K hK => ?_) AllReadyH.nil
    rw [if_pos (by rfl)]
    obtain ⟨hc1, hc2, hf1, hf2⟩ := blk_cells2 R43.out
    go_simp
    refine hK.out _ _ (And.intro ((hs42.1.far (p := ⟨w.heap.size + 2, 0, none⟩) (by simp) _).far (p := ⟨w.heap.size + 2, 1, none⟩) (by simp) _) ((hs42.2.far (p := ⟨w.heap.size + 2, 0, none⟩) (by simp) _).far (p := ⟨w.heap.size + 2, 1, none⟩) (by simp) _)) (fun _ => ?_)
    clear hK K
    try dsimp only [Act.put]
    try simp only [List.setIfInBounds_toArray, List.set_cons_zero, List.set_cons_succ]
    refine wpAnyH_take (i := 14) (oi := { dst := some 5, op := Op.assign (Operand.tmp 32), type := 28, pos := "ratio.go:88", after := #[{ on := 12, ground := Ground.data }, { on := 13, ground := Ground.chain }, { on := 0, ground := Ground.phase }, { on := 1, ground := Ground.phase }, { on := 2, ground := Ground.phase }, { on := 3, ground := Ground.phase }, { on := 4, ground := Ground.phase }, { on := 5, ground := Ground.phase }, { on := 6, ground := Ground.phase }, { on := 7, ground := Ground.phase }, { on := 8, ground := Ground.phase }, { on := 9, ground := Ground.phase }, { on := 10, ground := Ground.phase }, { on := 11, ground := Ground.phase }, { on := 12, ground := Ground.phase }, { on := 13, ground := Ground.phase }], guard := none }) (v := .int .i64 (((lowR (x * y2) (y * x2)).2 : Nat) : Int)) rfl (by kernel_rfl) (by kernel_rfl) (by kernel_rfl) (fun _ _ _ h => h) (Or.inl ⟨by rfl, fun W hW => ?y50⟩) (And.intro ((hs42.1.far (p := ⟨w.heap.size + 2, 0, none⟩) (by simp) _).far (p := ⟨w.heap.size + 2, 1, none⟩) (by simp) _) ((hs42.2.far (p := ⟨w.heap.size + 2, 0, none⟩) (by simp) _).far (p := ⟨w.heap.size + 2, 1, none⟩) (by simp) _)) ?_
    case y50 => go_simp
    try dsimp only [Act.put]
    try simp only [List.setIfInBounds_toArray, List.set_cons_zero, List.set_cons_succ]
    refine wpAnyH_done (by kernel_rfl) ?_ _
    try dsimp only [Act.put]
    try simp only [List.setIfInBounds_toArray, List.set_cons_zero, List.set_cons_succ]
    go_wp2_with fail
    have hbk := (((R43.out).put 0 (.slice C1 m1 j1)).put 1 (.slice C2 m2 j2))
    have hbl := (((B41.out).setCell (p := ⟨w.heap.size + 2, 0, none⟩) (by simp) (.slice C1 m1 j1)).setCell (p := ⟨w.heap.size + 2, 1, none⟩) (by simp) (.slice C2 m2 j2))
    refine bodyPost_ret (v := .tuple #[.agg #[(.slice C1 m1 j1), (.slice C2 m2 j2)], .int .i64 (((lowR (x * y2) (y * x2)).2 : Nat) : Int)]) ?_ rfl ⟨.agg #[(.slice C1 m1 j1), (.slice C2 m2 j2)], rfl, ⟨_, _, rfl, sl_res S39.out R43.out _ _ _ _ _ _, sl_res S40.out R43.out _ _ _ _ _ _⟩, hbl⟩
    have hr := run_loadVar_at (P := Tryz.prog) _ ⟨w.heap.size + 2, 0, none⟩ 27 [(.slice C1 m1 j1), (.slice C2 m2 j2)] _ hbk.at Tryz.underlying27 rfl size28
    simp [results, Tryz.results18, asAddr, hr]
  · have hne : (((bothE r s : Nat) : Int) != 0) = true := by rw [bne_iff_ne]; omega
    have hre := HRR.out
    rw [show divR r s = (noR, bothE r s) by unfold divR; rw [if_pos hz]] at hre
    subst hre
    generalize bothE r s = E at *
    clear hz HRR
    obtain ⟨hc1, hc2, hf1, hf2⟩ := blk_cells2 HRB.out
    go_wp2_with fail
    have hbk := (((HRB.out).put 0 (.slice none 0 0)).put 1 (.slice none 0 0))
    have hbl := (((HB.out).setCell (p := ⟨w.heap.size + 2, 0, none⟩) (by simp) (.slice none 0 0)).setCell (p := ⟨w.heap.size + 2, 1, none⟩) (by simp) (.slice none 0 0))
    refine bodyPost_ret (v := .tuple #[.agg #[(.slice none 0 0), (.slice none 0 0)], .int .i64 ((E : Nat) : Int)]) ?_ rfl ⟨.agg #[(.slice none 0 0), (.slice none 0 0)], rfl, ⟨_, _, rfl, sl_res (Sl.nil _) HRB.out _ _ _ _ _ _, sl_res (Sl.nil _) HRB.out _ _ _ _ _ _⟩, hbl⟩
    have hr := run_loadVar_at (P := Tryz.prog) _ ⟨w.heap.size + 2, 0, none⟩ 27 [(.slice none 0 0), (.slice none 0 0)] _ hbk.at Tryz.underlying27 rfl size28
    simp [results, Tryz.results18, asAddr, hr]
set_option maxHeartbeats 4000000 in
theorem sub_any {v1 v2 u1 u2 : Value} {r s : Rt} {w : World} (hr : Rk w v1 v2 r) (hs : Rk w u1 u2 s) : Calls Tryz.prog 13 #[.agg #[v1, v2], .agg #[u1, u2]] w (RtP w (subR r s)) := by
  suffices hgen : ∀ Res, Hid (subR r s = Res) → Calls Tryz.prog 13 #[.agg #[v1, v2], .agg #[u1, u2]] w (RtP w Res) from hgen _ (Lib.hid rfl)
  intro Res HRR
  obtain ⟨A1, n1, k1, e1⟩ := sl_form hr.s1
  obtain ⟨A2, n2, k2, e2⟩ := sl_form hr.s2
  obtain ⟨A3, n3, k3, e3⟩ := sl_form hs.s1
  obtain ⟨A4, n4, k4, e4⟩ := sl_form hs.s2
  subst e1 e2 e3 e4
  have hbs := bsR3 A1 A2 A3 A4 n1 n2 n3 n4 k1 k2 k3 k4 w
  have HV := Lib.hid (front3 hr hs)
  have HR := Lib.hid hr; have HS := Lib.hid hs
  clear hr hs
  go_enter Tryz.func13, Tryz.ntmps13
  go_wp2_with fail
  clear hbs
  refine HV.out.mono ?_
  rintro e w1 ⟨rfl, hx, hR, hB⟩
  clear HV
  have HX := Lib.hid hx; have HB := Lib.hid hB
  clear hx hB
  have HRB := Lib.hid hR
  clear hR
  by_cases hz : bothE r s = 0
  · obtain ⟨x, y, va, e1⟩ := vld_to HR.out.ok (both0 hz).1
    obtain ⟨x2, y2, vb, e2⟩ := vld_to HS.out.ok (both0 hz).2
    subst e1 e2
    rw [hz]
    have hre := HRR.out
    rw [sub_eq va vb] at hre
    clear hz HRR
    have HRE := Lib.hid hre; clear hre
    have ha1 : Sl w (.slice A1 n1 k1) (lim x) := HR.out.s1
    have ha2 : Sl w (.slice A2 n2 k2) (dl y) := HR.out.s2
    have hb1 : Sl w (.slice A3 n3 k3) (lim x2) := HS.out.s1
    have hb2 : Sl w (.slice A4 n4 k4) (dl y2) := HS.out.s2
    obtain ⟨la1, la2, la3⟩ := Vr.len va
    obtain ⟨lb1, lb2, lb3⟩ := Vr.len vb
    have hp : 0 < y * y2 := Nat.mul_pos va.pos vb.pos
    have HDA := Lib.hid (fun W (h : Below w.heap.size w W) => denOf_sl (ha1.below h) (ha2.below h) va.pos (by omega))
    have HDB := Lib.hid (fun W (h : Below w.heap.size w W) => denOf_sl (hb1.below h) (hb2.below h) vb.pos (by omega))
    have HTA := Lib.hid (fun W (h : Below w.heap.size w W) (v : Value) (hv : Sl W v (lim y2)) => times_sl (ha1.below h) hv (by omega) (by omega))
    have mA : (lim (x * y2)).length ≤ 128 := lim_mul la1 lb2
    have HTB := Lib.hid (fun W (h : Below w.heap.size w W) (v : Value) (hv : Sl W v (lim y)) => times_sl (hb1.below h) hv (by omega) (by omega))
    have mB : (lim (x2 * y)).length ≤ 128 := lim_mul lb1 la2
    have HTD := Lib.hid (fun W (h : Below w.heap.size w W) (v1 : Value) (hv1 : Sl W v1 (lim y)) (v2 : Value) (hv2 : Sl W v2 (lim y2)) => times_sl hv1 hv2 (by omega) (by omega))
    have mD : (lim (y * y2)).length ≤ 128 := lim_mul la2 lb2
    have HCO := Lib.hid (fun W (v1 : Value) (hv1 : Sl W v1 (lim (x * y2))) (v2 : Value) (hv2 : Sl W v2 (lim (x2 * y))) => compare_sl hv1 hv2 (by omega) (by omega))
    have mS : (lim (x * y2 - x2 * y)).length ≤ 128 := Nat.le_trans (lim_mono (Nat.sub_le _ _)) mA
    have HMI := Lib.hid (fun (hle : x2 * y ≤ x * y2) W (h : Below w.heap.size w W) (v1 : Value) (hv1 : Sl W v1 (lim (x * y2))) (v2 : Value) (hv2 : Sl W v2 (lim (x2 * y))) => minus_sl hv1 hv2 hle (by omega) (by omega))
    have HLO := Lib.hid (fun W (h : Below w.heap.size w W) (v1 : Value) (hv1 : Sl W v1 (lim (x * y2 - x2 * y))) (v2 : Value) (hv2 : Sl W v2 (lim (y * y2))) => lowest_sl hv1 hv2 hp (by omega) (by omega))
    clear ha1 ha2 hb1 hb2 va vb la1 la2 la3 lb1 lb2 lb3 hp mA mB mD mS HR HS
    go_upto_region 4 with (fail)
    go_cut [7, 8] (fun s7 s8 wx => ∃ vp vq, s7 = vp ∧ s8 = vq ∧ Hid ((Blk wx w.heap.size 27 [(.slice A1 n1 k1), (.slice A2 n2 k2)] ∧ Blk wx (w.heap.size + 1) 27 [(.slice A3 n3 k3), (.slice A4 n4 k4)]) ∧ Blk wx (w.heap.size + 2) 27 [.slice none 0 0, .slice none 0 0] ∧ Below w.heap.size w wx ∧ Sl wx vp (lim (x * y2)) ∧ Sl wx vq (lim (x2 * y))))
    case first =>
      refine wp_region_held (S := fun W => Blk W w.heap.size 27 [(.slice A1 n1 k1), (.slice A2 n2 k2)] ∧ Blk W (w.heap.size + 1) 27 [(.slice A3 n3 k3), (.slice A4 n4 k4)]) (by kernel_rfl) ?_
      change wpAnyH _ _ _ _ _ _ _ _ (World.drew w1)
      have hs0 : Blk (World.drew w1) w.heap.size 27 [(.slice A1 n1 k1), (.slice A2 n2 k2)] ∧ Blk (World.drew w1) (w.heap.size + 1) 27 [(.slice A3 n3 k3), (.slice A4 n4 k4)] := HX.out
      have BD : Hid (Below w.heap.size w (World.drew w1)) := Lib.hid (below_drewN HB.out 1)
      have RD : Hid (Blk (World.drew w1) (w.heap.size + 2) 27 [.slice none 0 0, .slice none 0 0]) := HRB
      generalize World.drew w1 = Wd at hs0 BD RD ⊢
      refine wpAnyH_take (i := 0) (oi := { dst := some 17, op := Op.fieldAddr 27 (Operand.tmp 2) 0, type := 0, pos := "ratio.go:65", after := #[], guard := none }) (v := .pointer (some ⟨w.heap.size, 0, none⟩)) rfl (by kernel_rfl) (by kernel_rfl) (by kernel_rfl) (fun _ _ _ h => h) (Or.inl ⟨by rfl, fun W hW => ?y1⟩) hs0 ?_
      case y1 => go_simp
      try dsimp only [Act.put]
      try simp only [List.setIfInBounds_toArray, List.set_cons_zero, List.set_cons_succ]
      refine wpAnyH_take (i := 1) (oi := { dst := some 18, op := Op.load 22 (Operand.tmp 17), type := 22, pos := "ratio.go:65", after := #[{ on := 0, ground := Ground.data }], guard := none }) (v := (.slice A1 n1 k1)) rfl (by kernel_rfl) (by kernel_rfl) (by kernel_rfl) (fun _ _ _ h => h) (Or.inl ⟨by rfl, fun W hW => by have hcl : W.cell? ⟨w.heap.size, 0, none⟩ = some (.slice A1 n1 k1) := (Blk.cell hW.1 0).trans rfl; go_simp⟩) hs0 ?_
      try dsimp only [Act.put]
      try simp only [List.setIfInBounds_toArray, List.set_cons_zero, List.set_cons_succ]
      refine wpAnyH_take (i := 2) (oi := { dst := some 19, op := Op.load 27 (Operand.tmp 3), type := 27, pos := "ratio.go:65", after := #[], guard := none }) (v := .agg #[(.slice A3 n3 k3), (.slice A4 n4 k4)]) rfl (by kernel_rfl) (by kernel_rfl) (by kernel_rfl) (fun _ _ _ h => h) (Or.inl ⟨by rfl, fun W hW => by obtain ⟨hc1, hc2, _, _⟩ := blk_cells2 hW.2; go_simp⟩) hs0 ?_
      try dsimp only [Act.put]
      try simp only [List.setIfInBounds_toArray, List.set_cons_zero, List.set_cons_succ]
      refine wpAnyH_take (i := 5) (oi := { dst := some 22, op := Op.fieldAddr 27 (Operand.tmp 3) 0, type := 0, pos := "ratio.go:65", after := #[], guard := none }) (v := .pointer (some ⟨(w.heap.size + 1), 0, none⟩)) rfl (by kernel_rfl) (by kernel_rfl) (by kernel_rfl) (fun _ _ _ h => h) (Or.inl ⟨by rfl, fun W hW => ?y4⟩) hs0 ?_
      case y4 => go_simp
      try dsimp only [Act.put]
      try simp only [List.setIfInBounds_toArray, List.set_cons_zero, List.set_cons_succ]
      refine wpAnyH_take (i := 6) (oi := { dst := some 23, op := Op.load 22 (Operand.tmp 22), type := 22, pos := "ratio.go:65", after := #[{ on := 5, ground := Ground.data }], guard := none }) (v := (.slice A3 n3 k3)) rfl (by kernel_rfl) (by kernel_rfl) (by kernel_rfl) (fun _ _ _ h => h) (Or.inl ⟨by rfl, fun W hW => by have hcl : W.cell? ⟨(w.heap.size + 1), 0, none⟩ = some (.slice A3 n3 k3) := (Blk.cell hW.2 0).trans rfl; go_simp⟩) hs0 ?_
      try dsimp only [Act.put]
      try simp only [List.setIfInBounds_toArray, List.set_cons_zero, List.set_cons_succ]
      refine wpAnyH_take (i := 7) (oi := { dst := some 24, op := Op.load 27 (Operand.tmp 2), type := 27, pos := "ratio.go:65", after := #[], guard := none }) (v := .agg #[(.slice A1 n1 k1), (.slice A2 n2 k2)]) rfl (by kernel_rfl) (by kernel_rfl) (by kernel_rfl) (fun _ _ _ h => h) (Or.inl ⟨by rfl, fun W hW => by obtain ⟨hc1, hc2, _, _⟩ := blk_cells2 hW.1; go_simp⟩) hs0 ?_
      try dsimp only [Act.put]
      try simp only [List.setIfInBounds_toArray, List.set_cons_zero, List.set_cons_succ]
      refine wpAnyH_ready (rs := [3]) (by kernel_rfl) (by simp) ?_
      refine AllReadyH.cons (o := { dst := some 20, op := Op.call { callee := Callee.value (Operand.func 47), args := #[Operand.tmp 19], argTypes := #[27] }, type := 22, pos := "ratio.go:65", after := #[{ on := 2, ground := Ground.data }], guard := none }) rfl (fun K hK => ?_) AllReadyH.nil
      rw [if_pos (by rfl)]
      go_simp
      refine (HDB.out _ BD.out ).mono ?_; rintro e w7 ⟨v8, rfl, hs, hb⟩
      have B10 := Lib.hid (below_step BD.out hb)
      have hs11 := And.intro (hs0.1.below hb hs0.1.lt) (hs0.2.below hb hs0.2.lt)
      have R12 := Lib.hid (RD.out.below hb RD.out.lt)
      have S9 := Lib.hid hs
      clear hs hb
      go_wp2_with fail
      refine hK.out _ _ hs11 (fun _ => ?_)
      clear hK K
      try dsimp only [Act.put]
      try simp only [List.setIfInBounds_toArray, List.set_cons_zero, List.set_cons_succ]
      refine wpAnyH_ready (rs := [4]) (by kernel_rfl) (by simp) ?_
      refine AllReadyH.cons (o := { dst := some 21, op := Op.call { callee := Callee.value (Operand.func 46), args := #[Operand.tmp 18, Operand.tmp 20], argTypes := #[22, 22] }, type := 22, pos := "ratio.go:65", after := #[{ on := 1, ground := Ground.data }, { on := 3, ground := Ground.data }, { on := 3, ground := Ground.chain }], guard := none }) rfl (fun K hK => ?_) AllReadyH.nil
      rw [if_pos (by rfl)]
      go_simp
      refine (HTA.out _ B10.out _ S9.out).mono ?_; rintro e w13 ⟨v14, rfl, hs, hb⟩
      have B16 := Lib.hid (below_step B10.out hb)
      have hs17 := And.intro (hs11.1.below hb hs11.1.lt) (hs11.2.below hb hs11.2.lt)
      have R18 := Lib.hid (R12.out.below hb R12.out.lt)
      have S19 := Lib.hid (S9.out.below hb)
      have S15 := Lib.hid hs
      clear hs hb
      go_wp2_with fail
      refine hK.out _ _ hs17 (fun _ => ?_)
      clear hK K
      try dsimp only [Act.put]
      try simp only [List.setIfInBounds_toArray, List.set_cons_zero, List.set_cons_succ]
      refine wpAnyH_ready (rs := [8]) (by kernel_rfl) (by simp) ?_
      refine AllReadyH.cons (o := { dst := some 25, op := Op.call { callee := Callee.value (Operand.func 47), args := #[Operand.tmp 24], argTypes := #[27] }, type := 22, pos := "ratio.go:65", after := #[{ on := 7, ground := Ground.data }, { on := 4, ground := Ground.chain }], guard := none }) rfl (fun K hK => ?_) AllReadyH.nil
      rw [if_pos (by rfl)]
      go_simp
      refine (HDA.out _ B16.out ).mono ?_; rintro e w20 ⟨v21, rfl, hs, hb⟩
      have B23 := Lib.hid (below_step B16.out hb)
      have hs24 := And.intro (hs17.1.below hb hs17.1.lt) (hs17.2.below hb hs17.2.lt)
      have R25 := Lib.hid (R18.out.below hb R18.out.lt)
      have S26 := Lib.hid (S19.out.below hb)
      have S27 := Lib.hid (S15.out.below hb)
      have S22 := Lib.hid hs
      clear hs hb
      go_wp2_with fail
      refine hK.out _ _ hs24 (fun _ => ?_)
      clear hK K
      try dsimp only [Act.put]
      try simp only [List.setIfInBounds_toArray, List.set_cons_zero, List.set_cons_succ]
      refine wpAnyH_ready (rs := [9]) (by kernel_rfl) (by simp) ?_
      refine AllReadyH.cons (o := { dst := some 26, op := Op.call { callee := Callee.value (Operand.func 46), args := #[Operand.tmp 23, Operand.tmp 25], argTypes := #[22, 22] }, type := 22, pos := "ratio.go:65", after := #[{ on := 6, ground := Ground.data }, { on := 8, ground := Ground.data }, { on := 8, ground := Ground.chain }], guard := none }) rfl (fun K hK => ?_) AllReadyH.nil
      rw [if_pos (by rfl)]
      go_simp
      refine (HTB.out _ B23.out _ S22.out).mono ?_; rintro e w28 ⟨v29, rfl, hs, hb⟩
      have B31 := Lib.hid (below_step B23.out hb)
      have hs32 := And.intro (hs24.1.below hb hs24.1.lt) (hs24.2.below hb hs24.2.lt)
      have R33 := Lib.hid (R25.out.below hb R25.out.lt)
      have S34 := Lib.hid (S26.out.below hb)
      have S35 := Lib.hid (S27.out.below hb)
      have S36 := Lib.hid (S22.out.below hb)
      have S30 := Lib.hid hs
      clear hs hb
      go_wp2_with fail
      refine hK.out _ _ hs32 (fun _ => ?_)
      clear hK K
      try dsimp only [Act.put]
      try simp only [List.setIfInBounds_toArray, List.set_cons_zero, List.set_cons_succ]
      refine wpAnyH_take (i := 10) (oi := { dst := some 7, op := Op.assign (Operand.tmp 21), type := 22, pos := "ratio.go:65", after := #[{ on := 4, ground := Ground.data }, { on := 9, ground := Ground.chain }, { on := 0, ground := Ground.phase }, { on := 1, ground := Ground.phase }, { on := 2, ground := Ground.phase }, { on := 3, ground := Ground.phase }, { on := 4, ground := Ground.phase }, { on := 5, ground := Ground.textOnly Departure.lateStores }, { on := 6, ground := Ground.textOnly Departure.lateStores }, { on := 7, ground := Ground.textOnly Departure.lateStores }, { on := 8, ground := Ground.textOnly Departure.lateStoresUnsure }, { on := 9, ground := Ground.textOnly Departure.lateStoresUnsure }], guard := none }) (v := v14) rfl (by kernel_rfl) (by kernel_rfl) (by kernel_rfl) (fun _ _ _ h => h) (Or.inl ⟨by rfl, fun W hW => ?y37⟩) hs32 ?_
      case y37 => go_simp
      try dsimp only [Act.put]
      try simp only [List.setIfInBounds_toArray, List.set_cons_zero, List.set_cons_succ]
      refine wpAnyH_take (i := 11) (oi := { dst := some 8, op := Op.assign (Operand.tmp 26), type := 22, pos := "ratio.go:65", after := #[{ on := 9, ground := Ground.data }, { on := 10, ground := Ground.chain }, { on := 0, ground := Ground.phase }, { on := 1, ground := Ground.phase }, { on := 2, ground := Ground.phase }, { on := 3, ground := Ground.phase }, { on := 4, ground := Ground.phase }, { on := 5, ground := Ground.phase }, { on := 6, ground := Ground.phase }, { on := 7, ground := Ground.phase }, { on := 8, ground := Ground.phase }, { on := 9, ground := Ground.phase }, { on := 10, ground := Ground.phase }], guard := none }) (v := v29) rfl (by kernel_rfl) (by kernel_rfl) (by kernel_rfl) (fun _ _ _ h => h) (Or.inl ⟨by rfl, fun W hW => ?y38⟩) hs32 ?_
      case y38 => go_simp
      try dsimp only [Act.put]
      try simp only [List.setIfInBounds_toArray, List.set_cons_zero, List.set_cons_succ]
      refine wpAnyH_done (by kernel_rfl) ?_ _
      try dsimp only [Act.put]
      try simp only [List.setIfInBounds_toArray, List.set_cons_zero, List.set_cons_succ]
      go_wp2_with fail
      go_meet
      exact ⟨v14, v29, rfl, rfl, Lib.hid (And.intro hs32 (And.intro R33.out (And.intro B31.out (And.intro S35.out S30.out))))⟩
    case rest =>
      obtain ⟨vp, vq, rfl, rfl, hall⟩ := hcut
      have HX1 := Lib.hid hall.out.1; have HR1 := Lib.hid hall.out.2.1; have HB1 := Lib.hid hall.out.2.2.1; have SA1 := Lib.hid hall.out.2.2.2.1; have SB1 := Lib.hid hall.out.2.2.2.2
      clear hall
      go_wp2_with fail
      refine (HCO.out _ _ SA1.out _ SB1.out).mono ?_
      rintro e w3 ⟨rfl, hb⟩
      have HB3 := Lib.hid (below_step HB1.out hb); have HX3 := Lib.hid (And.intro (HX1.out.1.below hb HX1.out.1.lt) (HX1.out.2.below hb HX1.out.2.lt)); have HR3 := Lib.hid (HR1.out.below hb HR1.out.lt)
      have SA3 := Lib.hid (SA1.out.below hb); have SB3 := Lib.hid (SB1.out.below hb)
      clear hb HB1 HX1 HR1 SA1 SB1 HCO
      by_cases hlt : x * y2 < x2 * y
      · have hre := HRE.out
        rw [if_pos hlt] at hre
        subst hre
        clear HRE
        have ho : decide (ord (x * y2) (x2 * y) < 0) = true := by simp [ord, hlt]
        obtain ⟨hc1, hc2, hf1, hf2⟩ := blk_cells2 HR3.out
        clear hlt
        go_wp2_with fail
        have hbk := (((HR3.out).put 0 (.slice none 0 0)).put 1 (.slice none 0 0))
        have hbl := (((HB3.out).setCell (p := ⟨w.heap.size + 2, 0, none⟩) (by simp) (.slice none 0 0)).setCell (p := ⟨w.heap.size + 2, 1, none⟩) (by simp) (.slice none 0 0))
        refine bodyPost_ret (v := .tuple #[.agg #[(.slice none 0 0), (.slice none 0 0)], .int .i64 5]) ?_ rfl ⟨.agg #[(.slice none 0 0), (.slice none 0 0)], rfl, ⟨_, _, rfl, sl_res (Sl.nil _) HR3.out _ _ _ _ _ _, sl_res (Sl.nil _) HR3.out _ _ _ _ _ _⟩, hbl⟩
        have hr := run_loadVar_at (P := Tryz.prog) _ ⟨w.heap.size + 2, 0, none⟩ 27 [(.slice none 0 0), (.slice none 0 0)] _ hbk.at Tryz.underlying27 rfl size28
        simp [results, Tryz.results13, asAddr, hr]
      have hre := HRE.out
      rw [if_neg hlt] at hre
      subst hre
      clear HRE
      have ho : decide (ord (x * y2) (x2 * y) < 0) = false := by unfold ord; rw [if_neg hlt]; by_cases hq : x * y2 = x2 * y <;> simp [hq]
      have HMJ := Lib.hid (HMI.out (Nat.le_of_not_lt hlt))
      clear HMI
      clear hlt
      go_upto_region 7 with (fail)
      refine wp_region_held (S := fun W => Blk W w.heap.size 27 [(.slice A1 n1 k1), (.slice A2 n2 k2)] ∧ Blk W (w.heap.size + 1) 27 [(.slice A3 n3 k3), (.slice A4 n4 k4)]) (by kernel_rfl) ?_
      change wpAnyH _ _ _ _ _ _ _ _ (World.drew w3)
      have hs0 : Blk (World.drew w3) w.heap.size 27 [(.slice A1 n1 k1), (.slice A2 n2 k2)] ∧ Blk (World.drew w3) (w.heap.size + 1) 27 [(.slice A3 n3 k3), (.slice A4 n4 k4)] := HX3.out
      have BD : Hid (Below w.heap.size w (World.drew w3)) := Lib.hid (below_drewN HB3.out 1)
      have S1 : Hid (Sl (World.drew w3) u7 (lim (x * y2))) := SA3
      have S2 : Hid (Sl (World.drew w3) u8 (lim (x2 * y))) := SB3
      have RD : Hid (Blk (World.drew w3) (w.heap.size + 2) 27 [.slice none 0 0, .slice none 0 0]) := HR3
      generalize World.drew w3 = Wd at hs0 BD S1 S2 RD ⊢
      refine wpAnyH_take (i := 0) (oi := { dst := some 32, op := Op.move (Operand.tmp 7), type := 22, pos := "ratio.go:69", after := #[], guard := none }) (v := u7) rfl (by kernel_rfl) (by kernel_rfl) (by kernel_rfl) (fun _ _ _ h => h) (Or.inl ⟨by rfl, fun W hW => ?y3⟩) hs0 ?_
      case y3 => go_simp
      try dsimp only [Act.put]
      try simp only [List.setIfInBounds_toArray, List.set_cons_zero, List.set_cons_succ]
      refine wpAnyH_take (i := 1) (oi := { dst := some 33, op := Op.move (Operand.tmp 8), type := 22, pos := "ratio.go:69", after := #[], guard := none }) (v := u8) rfl (by kernel_rfl) (by kernel_rfl) (by kernel_rfl) (fun _ _ _ h => h) (Or.inl ⟨by rfl, fun W hW => ?y4⟩) hs0 ?_
      case y4 => go_simp
      try dsimp only [Act.put]
      try simp only [List.setIfInBounds_toArray, List.set_cons_zero, List.set_cons_succ]
      refine wpAnyH_take (i := 3) (oi := { dst := some 35, op := Op.load 27 (Operand.tmp 2), type := 27, pos := "ratio.go:69", after := #[], guard := none }) (v := .agg #[(.slice A1 n1 k1), (.slice A2 n2 k2)]) rfl (by kernel_rfl) (by kernel_rfl) (by kernel_rfl) (fun _ _ _ h => h) (Or.inl ⟨by rfl, fun W hW => by obtain ⟨hc1, hc2, _, _⟩ := blk_cells2 hW.1; go_simp⟩) hs0 ?_
      try dsimp only [Act.put]
      try simp only [List.setIfInBounds_toArray, List.set_cons_zero, List.set_cons_succ]
      refine wpAnyH_take (i := 5) (oi := { dst := some 37, op := Op.load 27 (Operand.tmp 3), type := 27, pos := "ratio.go:69", after := #[], guard := none }) (v := .agg #[(.slice A3 n3 k3), (.slice A4 n4 k4)]) rfl (by kernel_rfl) (by kernel_rfl) (by kernel_rfl) (fun _ _ _ h => h) (Or.inl ⟨by rfl, fun W hW => by obtain ⟨hc1, hc2, _, _⟩ := blk_cells2 hW.2; go_simp⟩) hs0 ?_
      try dsimp only [Act.put]
      try simp only [List.setIfInBounds_toArray, List.set_cons_zero, List.set_cons_succ]
      refine wpAnyH_ready (rs := [2]) (by kernel_rfl) (by simp) ?_
      refine AllReadyH.cons (o := { dst := some 34, op := Op.call { callee := Callee.value (Operand.func 56), args := #[Operand.tmp 32, Operand.tmp 33], argTypes := #[22, 22] }, type := 22, pos := "ratio.go:69", after := #[{ on := 0, ground := Ground.data }, { on := 1, ground := Ground.data }], guard := none }) rfl (fun K hK => ?_) AllReadyH.nil
      rw [if_pos (by rfl)]
      go_simp
      refine (HMJ.out _ BD.out _ S1.out _ S2.out).mono ?_; rintro e w7 ⟨v8, rfl, hs, hb⟩
      have B10 := Lib.hid (below_step BD.out hb)
      have hs11 := And.intro (hs0.1.below hb hs0.1.lt) (hs0.2.below hb hs0.2.lt)
      have R12 := Lib.hid (RD.out.below hb RD.out.lt)
      have S13 := Lib.hid (S1.out.below hb)
      have S14 := Lib.hid (S2.out.below hb)
      have S9 := Lib.hid hs
      clear hs hb
      go_wp2_with fail
      refine hK.out _ _ hs11 (fun _ => ?_)
      clear hK K
      try dsimp only [Act.put]
      try simp only [List.setIfInBounds_toArray, List.set_cons_zero, List.set_cons_succ]
      refine wpAnyH_ready (rs := [4]) (by kernel_rfl) (by simp) ?_
      refine AllReadyH.cons (o := { dst := some 36, op := Op.call { callee := Callee.value (Operand.func 47), args := #[Operand.tmp 35], argTypes := #[27] }, type := 22, pos := "ratio.go:69", after := #[{ on := 3, ground := Ground.data }, { on := 2, ground := Ground.chain }], guard := none }) rfl (fun K hK => ?_) AllReadyH.nil
      rw [if_pos (by rfl)]
      go_simp
      refine (HDA.out _ B10.out ).mono ?_; rintro e w15 ⟨v16, rfl, hs, hb⟩
      have B18 := Lib.hid (below_step B10.out hb)
      have hs19 := And.intro (hs11.1.below hb hs11.1.lt) (hs11.2.below hb hs11.2.lt)
      have R20 := Lib.hid (R12.out.below hb R12.out.lt)
      have S21 := Lib.hid (S13.out.below hb)
      have S22 := Lib.hid (S14.out.below hb)
      have S23 := Lib.hid (S9.out.below hb)
      have S17 := Lib.hid hs
      clear hs hb
      go_wp2_with fail
      refine hK.out _ _ hs19 (fun _ => ?_)
      clear hK K
      try dsimp only [Act.put]
      try simp only [List.setIfInBounds_toArray, List.set_cons_zero, List.set_cons_succ]
      refine wpAnyH_ready (rs := [6]) (by kernel_rfl) (by simp) ?_
      refine AllReadyH.cons (o := { dst := some 38, op := Op.call { callee := Callee.value (Operand.func 47), args := #[Operand.tmp 37], argTypes := #[27] }, type := 22, pos := "ratio.go:69", after := #[{ on := 5, ground := Ground.data }, { on := 4, ground := Ground.chain }], guard := none }) rfl (fun K hK => ?_) AllReadyH.nil
      rw [if_pos (by rfl)]
      go_simp
      refine (HDB.out _ B18.out ).mono ?_; rintro e w24 ⟨v25, rfl, hs, hb⟩
      have B27 := Lib.hid (below_step B18.out hb)
      have hs28 := And.intro (hs19.1.below hb hs19.1.lt) (hs19.2.below hb hs19.2.lt)
      have R29 := Lib.hid (R20.out.below hb R20.out.lt)
      have S30 := Lib.hid (S21.out.below hb)
      have S31 := Lib.hid (S22.out.below hb)
      have S32 := Lib.hid (S23.out.below hb)
      have S33 := Lib.hid (S17.out.below hb)
      have S26 := Lib.hid hs
      clear hs hb
      go_wp2_with fail
      refine hK.out _ _ hs28 (fun _ => ?_)
      clear hK K
      try dsimp only [Act.put]
      try simp only [List.setIfInBounds_toArray, List.set_cons_zero, List.set_cons_succ]
      refine wpAnyH_ready (rs := [7]) (by kernel_rfl) (by simp) ?_
      refine AllReadyH.cons (o := { dst := some 39, op := Op.call { callee := Callee.value (Operand.func 46), args := #[Operand.tmp 36, Operand.tmp 38], argTypes := #[22, 22] }, type := 22, pos := "ratio.go:69", after := #[{ on := 4, ground := Ground.data }, { on := 6, ground := Ground.data }, { on := 6, ground := Ground.chain }], guard := none }) rfl (fun K hK => ?_) AllReadyH.nil
      rw [if_pos (by rfl)]
      go_simp
      refine (HTD.out _ B27.out _ S33.out _ S26.out).mono ?_; rintro e w34 ⟨v35, rfl, hs, hb⟩
      have B37 := Lib.hid (below_step B27.out hb)
      have hs38 := And.intro (hs28.1.below hb hs28.1.lt) (hs28.2.below hb hs28.2.lt)
      have R39 := Lib.hid (R29.out.below hb R29.out.lt)
      have S40 := Lib.hid (S30.out.below hb)
      have S41 := Lib.hid (S31.out.below hb)
      have S42 := Lib.hid (S32.out.below hb)
      have S43 := Lib.hid (S33.out.below hb)
      have S44 := Lib.hid (S26.out.below hb)
      have S36 := Lib.hid hs
      clear hs hb
      go_wp2_with fail
      refine hK.out _ _ hs38 (fun _ => ?_)
      clear hK K
      try dsimp only [Act.put]
      try simp only [List.setIfInBounds_toArray, List.set_cons_zero, List.set_cons_succ]
      refine wpAnyH_ready (rs := [8]) (by kernel_rfl) (by simp) ?_
      refine AllReadyH.cons (o := { dst := some 40, op := Op.call { callee := Callee.value (Operand.func 55), args := #[Operand.tmp 34, Operand.tmp 39], argTypes := #[22, 22] }, type := 31, pos := "ratio.go:69", after := #[{ on := 2, ground := Ground.data }, { on := 7, ground := Ground.data }, { on := 7, ground := Ground.chain }], guard := none }) rfl (fun K hK => ?_) AllReadyH.nil
      rw [if_pos (by rfl)]
      go_simp
      refine (HLO.out _ B37.out _ S42.out _ S36.out).mono ?_; rintro e w45 ⟨q46, rfl, ⟨u1, u2, rfl, s1, s2⟩, hb⟩
      have B49 := Lib.hid (below_step B37.out hb)
      have hs50 := And.intro (hs38.1.below hb hs38.1.lt) (hs38.2.below hb hs38.2.lt)
      have R51 := Lib.hid (R39.out.below hb R39.out.lt)
      have S52 := Lib.hid (S40.out.below hb)
      have S53 := Lib.hid (S41.out.below hb)
      have S54 := Lib.hid (S42.out.below hb)
      have S55 := Lib.hid (S43.out.below hb)
      have S56 := Lib.hid (S44.out.below hb)
      have S57 := Lib.hid (S36.out.below hb)
      have S47 := Lib.hid s1
      have S48 := Lib.hid s2
      obtain ⟨C1, m1, j1, e1⟩ := sl_form s1
      obtain ⟨C2, m2, j2, e2⟩ := sl_form s2
      clear s1 s2 hb
      subst e1 e2
      go_wp2_with fail
      refine hK.out _ _ hs50 (fun _ => ?_)
      clear hK K
      try dsimp only [Act.put]
      try simp only [List.setIfInBounds_toArray, List.set_cons_zero, List.set_cons_succ]
      refine wpAnyH_take (i := 9) (oi := { dst := some 41, op := Op.extract (Operand.tmp 40) 0, type := 27, pos := "ratio.go:69", after := #[{ on := 8, ground := Ground.data }], guard := none }) (v := .agg #[.slice C1 m1 j1, .slice C2 m2 j2]) rfl (by kernel_rfl) (by kernel_rfl) (by kernel_rfl) (fun _ _ _ h => h) (Or.inl ⟨by rfl, fun W hW => ?y58⟩) hs50 ?_
      case y58 => go_simp
      try dsimp only [Act.put]
      try simp only [List.setIfInBounds_toArray, List.set_cons_zero, List.set_cons_succ]
      refine wpAnyH_take (i := 10) (oi := { dst := some 42, op := Op.extract (Operand.tmp 40) 1, type := 28, pos := "ratio.go:69", after := #[{ on := 8, ground := Ground.data }], guard := none }) (v := .int .i64 (((lowR (x * y2 - x2 * y) (y * y2)).2 : Nat) : Int)) rfl (by kernel_rfl) (by kernel_rfl) (by kernel_rfl) (fun _ _ _ h => h) (Or.inl ⟨by rfl, fun W hW => ?y59⟩) hs50 ?_
      case y59 => go_simp
      try dsimp only [Act.put]
      try simp only [List.setIfInBounds_toArray, List.set_cons_zero, List.set_cons_succ]
      refine wpAnyH_ready (rs := [11]) (by kernel_rfl) (by simp) ?_
      refine AllReadyH.cons (o := { dst := none, op := Op.store 27 (Operand.tmp 4) (Operand.tmp 41), type := 0, pos := "ratio.go:69", after := #[{ on := 9, ground := Ground.data }, { on := 8, ground := Ground.chain }, { on := 0, ground := Ground.phase }, { on := 1, ground := Ground.phase }, { on := 2, ground := Ground.phase }, { on := 3, ground := Ground.phase }, { on := 4, ground := Ground.phase }, { on := 5, ground := Ground.phase }, { on := 6, ground := Ground.phase }, { on := 7, ground := Ground.phase }, { on := 8, ground := Ground.phase }, { on := 9, ground := Ground.phase }, { on := 10, ground := Ground.phase }], guard := none }) rfl (fun K hK => ?_) AllReadyH.nil
      rw [if_pos (by rfl)]
      obtain ⟨hc1, hc2, hf1, hf2⟩ := blk_cells2 R51.out
      go_simp
      refine hK.out _ _ (And.intro ((hs50.1.far (p := ⟨w.heap.size + 2, 0, none⟩) (by simp) _).far (p := ⟨w.heap.size + 2, 1, none⟩) (by simp) _) ((hs50.2.far (p := ⟨w.heap.size + 2, 0, none⟩) (by simp) _).far (p := ⟨w.heap.size + 2, 1, none⟩) (by simp) _)) (fun _ => ?_)
      clear hK K
      try dsimp only [Act.put]
      try simp only [List.setIfInBounds_toArray, List.set_cons_zero, List.set_cons_succ]
      refine wpAnyH_take (i := 12) (oi := { dst := some 5, op := Op.assign (Operand.tmp 42), type := 28, pos := "ratio.go:69", after := #[{ on := 10, ground := Ground.data }, { on := 11, ground := Ground.chain }, { on := 0, ground := Ground.phase }, { on := 1, ground := Ground.phase }, { on := 2, ground := Ground.phase }, { on := 3, ground := Ground.phase }, { on := 4, ground := Ground.phase }, { on := 5, ground := Ground.phase }, { on := 6, ground := Ground.phase }, { on := 7, ground := Ground.phase }, { on := 8, ground := Ground.phase }, { on := 9, ground := Ground.phase }, { on := 10, ground := Ground.phase }, { on := 11, ground := Ground.phase }], guard := none }) (v := .int .i64 (((lowR (x * y2 - x2 * y) (y * y2)).2 : Nat) : Int)) rfl (by kernel_rfl) (by kernel_rfl) (by kernel_rfl) (fun _ _ _ h => h) (Or.inl ⟨by rfl, fun W hW => ?y60⟩) (And.intro ((hs50.1.far (p := ⟨w.heap.size + 2, 0, none⟩) (by simp) _).far (p := ⟨w.heap.size + 2, 1, none⟩) (by simp) _) ((hs50.2.far (p := ⟨w.heap.size + 2, 0, none⟩) (by simp) _).far (p := ⟨w.heap.size + 2, 1, none⟩) (by simp) _)) ?_
      case y60 => go_simp
      try dsimp only [Act.put]
      try simp only [List.setIfInBounds_toArray, List.set_cons_zero, List.set_cons_succ]
      refine wpAnyH_done (by kernel_rfl) ?_ _
      try dsimp only [Act.put]
      try simp only [List.setIfInBounds_toArray, List.set_cons_zero, List.set_cons_succ]
      go_wp2_with fail
      have hbk := (((R51.out).put 0 (.slice C1 m1 j1)).put 1 (.slice C2 m2 j2))
      have hbl := (((B49.out).setCell (p := ⟨w.heap.size + 2, 0, none⟩) (by simp) (.slice C1 m1 j1)).setCell (p := ⟨w.heap.size + 2, 1, none⟩) (by simp) (.slice C2 m2 j2))
      refine bodyPost_ret (v := .tuple #[.agg #[(.slice C1 m1 j1), (.slice C2 m2 j2)], .int .i64 (((lowR (x * y2 - x2 * y) (y * y2)).2 : Nat) : Int)]) ?_ rfl ⟨.agg #[(.slice C1 m1 j1), (.slice C2 m2 j2)], rfl, ⟨_, _, rfl, sl_res S47.out R51.out _ _ _ _ _ _, sl_res S48.out R51.out _ _ _ _ _ _⟩, hbl⟩
      have hr := run_loadVar_at (P := Tryz.prog) _ ⟨w.heap.size + 2, 0, none⟩ 27 [(.slice C1 m1 j1), (.slice C2 m2 j2)] _ hbk.at Tryz.underlying27 rfl size28
      simp [results, Tryz.results13, asAddr, hr]
  · have hne : (((bothE r s : Nat) : Int) != 0) = true := by rw [bne_iff_ne]; omega
    have hre := HRR.out
    rw [show subR r s = (noR, bothE r s) by unfold subR; rw [if_pos hz]] at hre
    subst hre
    generalize bothE r s = E at *
    clear hz HRR
    obtain ⟨hc1, hc2, hf1, hf2⟩ := blk_cells2 HRB.out
    go_wp2_with fail
    have hbk := (((HRB.out).put 0 (.slice none 0 0)).put 1 (.slice none 0 0))
    have hbl := (((HB.out).setCell (p := ⟨w.heap.size + 2, 0, none⟩) (by simp) (.slice none 0 0)).setCell (p := ⟨w.heap.size + 2, 1, none⟩) (by simp) (.slice none 0 0))
    refine bodyPost_ret (v := .tuple #[.agg #[(.slice none 0 0), (.slice none 0 0)], .int .i64 ((E : Nat) : Int)]) ?_ rfl ⟨.agg #[(.slice none 0 0), (.slice none 0 0)], rfl, ⟨_, _, rfl, sl_res (Sl.nil _) HRB.out _ _ _ _ _ _, sl_res (Sl.nil _) HRB.out _ _ _ _ _ _⟩, hbl⟩
    have hr := run_loadVar_at (P := Tryz.prog) _ ⟨w.heap.size + 2, 0, none⟩ 27 [(.slice none 0 0), (.slice none 0 0)] _ hbk.at Tryz.underlying27 rfl size28
    simp [results, Tryz.results13, asAddr, hr]
end Go.Proofs.YtbfhilbagojdnaaGreat
namespace Go.Proofs.YtbfhilbagojdnaaGreat
open Go.RowKit Wr Go.Proofs.YtbfhilbagojdnaaGreat.Nm
set_option linter.unusedVariables false
set_option maxRecDepth 100000

theorem lim_two {x : Nat} (h : x < 18446744073709551616) : (lim x).length ≤ 2 := lim_len.2 h
set_option maxHeartbeats 2000000 in
theorem of_any (n d : Int) (w : World) (hn : -9223372036854775808 ≤ n ∧ n ≤ 9223372036854775807) (hd : -9223372036854775808 ≤ d ∧ d ≤ 9223372036854775807) : Calls Tryz.prog 59 #[.int .i64 n, .int .i64 d] w (RtP w (ofR n d)) := by
  suffices hgen : ∀ Res, Hid (ofR n d = Res) → Calls Tryz.prog 59 #[.int .i64 n, .int .i64 d] w (RtP w Res) from hgen _ (Lib.hid rfl)
  intro Res HRR
  have hre := HRR.out
  unfold ofR at hre
  have HR0 := Lib.hid (res0 w); have HB0 := Lib.hid (bel0 w)
  by_cases hc : n < 0 ∨ d ≤ 0
  · rw [if_pos hc] at hre
    subst hre
    clear HRR
    by_cases h1 : n < 0
    · clear hc
      go_enter Tryz.func59, Tryz.ntmps59
      go_wp2_with fail
      refine bodyPost_ret (v := .tuple #[.agg #[.slice none 0 0, .slice none 0 0], .int .i64 5]) ?_ rfl ⟨.agg #[.slice none 0 0, .slice none 0 0], rfl, ⟨_, _, rfl, Sl.nil _, Sl.nil _⟩, HB0.out⟩
      have hr := run_loadVar_at (P := Tryz.prog) _ ⟨w.heap.size, 0, none⟩ 27 [.slice none 0 0, .slice none 0 0] _ HR0.out.at Tryz.underlying27 rfl size28
      simp [results, Tryz.results59, asAddr, hr]
    · have h2 : d ≤ 0 := by omega
      clear hc
      go_enter Tryz.func59, Tryz.ntmps59
      go_wp2_with fail
      refine bodyPost_ret (v := .tuple #[.agg #[.slice none 0 0, .slice none 0 0], .int .i64 5]) ?_ rfl ⟨.agg #[.slice none 0 0, .slice none 0 0], rfl, ⟨_, _, rfl, Sl.nil _, Sl.nil _⟩, HB0.out⟩
      have hr := run_loadVar_at (P := Tryz.prog) _ ⟨w.heap.size, 0, none⟩ 27 [.slice none 0 0, .slice none 0 0] _ HR0.out.at Tryz.underlying27 rfl size28
      simp [results, Tryz.results59, asAddr, hr]
  · rw [if_neg hc] at hre
    subst hre
    clear HRR
    obtain ⟨x, rfl⟩ := Int.eq_ofNat_of_zero_le (show 0 ≤ n by omega)
    obtain ⟨y, rfl⟩ := Int.eq_ofNat_of_zero_le (show 0 ≤ d by omega)
    have h1 : ¬ ((x : Int) < 0) := by omega
    have h2 : ¬ ((y : Int) ≤ 0) := by omega
    have h0 : 0 < y := by omega
    rw [Int.toNat_natCast, Int.toNat_natCast]
    have hx : x < 18446744073709551616 := by omega
    have hy : y < 18446744073709551616 := by omega
    have HL1 := Lib.hid (fun W => limbsOf_any x W hx)
    have HL2 := Lib.hid (fun W => limbsOf_any y W hy)
    have hlx := lim_two hx
    have hly := lim_two hy
    have HLO := Lib.hid (fun W (v1 : Value) (hv1 : Sl W v1 (lim x)) (v2 : Value) (hv2 : Sl W v2 (lim y)) => lowest_sl hv1 hv2 h0 (by omega) (by omega))
    clear hc hlx hly h0
    go_enter Tryz.func59, Tryz.ntmps59
    go_wp2_with fail
    refine (HL1.out _).mono ?_
    rintro e w1 ⟨v1, rfl, s1, hb1⟩
    have S1 := Lib.hid s1; have HB1 := Lib.hid (below_step HB0.out hb1); have HR1 := Lib.hid (HR0.out.below hb1 HR0.out.lt)
    clear s1 hb1 HB0 HR0
    go_wp2_with fail
    refine (HL2.out _).mono ?_
    rintro e w2 ⟨v2, rfl, s2, hb2⟩
    have S2 := Lib.hid s2; have S1b := Lib.hid (S1.out.below hb2); have HB2 := Lib.hid (below_step HB1.out hb2); have HR2 := Lib.hid (HR1.out.below hb2 HR1.out.lt)
    clear s2 hb2 HB1 HR1
    go_wp2_with fail
    refine (HLO.out _ _ S1b.out _ S2.out).mono ?_
    rintro e w3 ⟨v, rfl, ⟨u1, u2, rfl, s1, s2⟩, hb2⟩
    have HRk := HR2.out.below hb2 HR2.out.lt
    obtain ⟨hc1, hc2, hf1, hf2⟩ := blk_cells2 HRk
    have T1 := Lib.hid s1; have T2 := Lib.hid s2; have HRK := Lib.hid HRk; have HBK := Lib.hid (below_step HB2.out hb2)
    obtain ⟨C1, m1, j1, e1⟩ := sl_form s1
    obtain ⟨C2, m2, j2, e2⟩ := sl_form s2
    clear hb2 s1 s2 HRk
    subst e1 e2
    go_wp2_with fail
    have hbk := (((HRK.out).put 0 (.slice C1 m1 j1)).put 1 (.slice C2 m2 j2))
    have hbl := (((HBK.out).setCell (p := ⟨w.heap.size, 0, none⟩) (Nat.le_refl _) (.slice C1 m1 j1)).setCell (p := ⟨w.heap.size, 1, none⟩) (Nat.le_refl _) (.slice C2 m2 j2))
    refine bodyPost_ret (v := .tuple #[.agg #[(.slice C1 m1 j1), (.slice C2 m2 j2)], .int .i64 (((lowR x y).2 : Nat) : Int)]) ?_ rfl ⟨.agg #[(.slice C1 m1 j1), (.slice C2 m2 j2)], rfl, ⟨_, _, rfl, sl_res T1.out HRK.out _ _ _ _ _ _, sl_res T2.out HRK.out _ _ _ _ _ _⟩, hbl⟩
    have hr := run_loadVar_at (P := Tryz.prog) _ ⟨w.heap.size, 0, none⟩ 27 [(.slice C1 m1 j1), (.slice C2 m2 j2)] _ hbk.at Tryz.underlying27 rfl size28
    simp [results, Tryz.results59, asAddr, hr]
end Go.Proofs.YtbfhilbagojdnaaGreat
namespace Go.Proofs.YtbfhilbagojdnaaGreat
open Go.RowKit Wr Go.Proofs.YtbfhilbagojdnaaGreat.Nm
set_option linter.unusedVariables false
set_option maxRecDepth 100000

theorem bitLen_sl {v : Value} {l : List Nat} {w : World} (h : Sl w v l) (ho : Ok l) (hp : dropz l = l) (hl : l.length ≤ 100000) : Calls Tryz.prog 64 #[v] w fun e w' => e = .returned (.int .i64 (blen (num l) : Nat)) ∧ w = w' := by
  obtain ⟨A, c, rfl, hc, hn, hr⟩ := h
  exact bitLen_any A c l w.heap.size w ho hp hr (by omega)
def highB (x n : Nat) : Bool := decide (2048 ≤ ((blen x : Int) - 1) * n)
theorem blen_limb (l : List Nat) (ho : Ok l) : blen (num l) ≤ 32 * l.length := blen_le.2 (by rw [← B_two]; exact num_lt l ho)
set_option maxHeartbeats 1000000 in
theorem high_any {v : Value} {l : List Nat} {w : World} (n : Nat) (h : Sl w v l) (ho : Ok l) (hp : dropz l = l) (hl : l.length ≤ 64) (hn : n ≤ 65536) : Calls Tryz.prog 105 #[v, .int .i64 ((n : Nat) : Int)] w fun e w' => e = .returned (.bool (highB (num l) n)) ∧ w = w' := by
  have HB := Lib.hid (bitLen_sl h ho hp (by omega))
  have hb := blen_limb l ho
  obtain ⟨b, hbe⟩ : ∃ b, b = blen (num l) := ⟨_, rfl⟩
  obtain ⟨r, hr⟩ : ∃ r, r = highB (num l) n := ⟨_, rfl⟩
  unfold highB at hr
  rw [← hbe] at HB hb hr
  have hR : r = decide (2048 ≤ ((b : Int) - 1) * (n : Int)) := hr
  have hR2 : (decide (((b : Int) - 1) * (n : Int) ≥ 2048)) = r := by rw [hR]
  have h1 : ((b : Int) - 1) * (n : Int) ≤ 134217728 := by
    rcases Nat.eq_zero_or_pos b with h0 | h0
    · subst h0
      have : ((0 : Nat) : Int) - 1 = -1 := by omega
      rw [this]; omega
    · obtain ⟨c, rfl⟩ : ∃ c, b = c + 1 := ⟨b - 1, by omega⟩
      have e : (((c + 1 : Nat) : Int) - 1) = (c : Int) := by omega
      rw [e]
      have hq : c * n ≤ 134217728 := Nat.le_trans (Nat.mul_le_mul (show c ≤ 2048 by omega) hn) (by decide)
      rw [← Int.natCast_mul]
      generalize c * n = q at hq ⊢
      omega
  have h2 : -65536 ≤ ((b : Int) - 1) * (n : Int) := by
    rcases Nat.eq_zero_or_pos b with h0 | h0
    · subst h0
      have : ((0 : Nat) : Int) - 1 = -1 := by omega
      rw [this]; omega
    · have : 0 ≤ ((b : Int) - 1) * (n : Int) := Int.mul_nonneg (by omega) (by omega)
      omega
  obtain ⟨p, hp2⟩ : ∃ p, p = ((b : Int) - 1) * (n : Int) := ⟨_, rfl⟩
  have hp3 := hp2.symm
  rw [hp3] at h1 h2 hR
  have hR3 := Lib.hid hR
  unfold highB
  rw [← hbe]
  have hbI : (b : Int) ≤ 2048 := by omega
  have HP := Lib.hid hp2
  rw [hp3]
  clear hr hR hR2 hb hbe h ho hp hp2
  go_enter Tryz.func105, Tryz.ntmps105
  go_wp2_with (go_at_call 64; (with_reducible refine (HB.out).mono ?_); rintro e w' ⟨rfl, rfl⟩)
  go_ret
  exact ⟨by simp, rfl⟩
theorem pow_lens {x n M : Nat} (h : (lim (x ^ n)).length ≤ M) (hM : 1 ≤ M) (k : Nat) (hk : k ≤ n) : (lim (x ^ k)).length ≤ M := by
  rcases Nat.eq_zero_or_pos x with h0 | h0
  · subst h0
    rcases Nat.eq_zero_or_pos k with h1 | h1
    · subst h1; rw [Nat.pow_zero, lim_one]; exact hM
    · rw [Nat.zero_pow h1, lim_zero]; exact Nat.zero_le _
  · exact Nat.le_trans (lim_mono (Nat.pow_le_pow_right h0 hk)) h
theorem div_step (n j : Nat) : n / 2 ^ j = 2 * (n / 2 ^ (j + 1)) + n / 2 ^ j % 2 := by
  rw [Nat.pow_succ, ← Nat.div_div_eq_div_mul]; omega
theorem i64_and1 (n : Int) : bits .and .i64 n 1 = n % 2 := by
  have h1 : (BitVec.ofInt 64 1).toNat = 2 ^ 1 - 1 := by decide
  have key : (BitVec.ofInt 64 n &&& BitVec.ofInt 64 1).toNat = (n % ((2 ^ 64 : Nat) : Int)).toNat % 2 ^ 1 := by
    rw [BitVec.toNat_and, BitVec.toNat_ofInt, h1, Nat.and_two_pow_sub_one_eq_mod]
  show IntKind.i64.wrap ((BitVec.ofInt 64 n &&& BitVec.ofInt 64 1).toNat : Nat) = n % 2
  rw [key, IntKind.wrap_i64]
  omega
theorem bit_even (q : Nat) : bits .and .i64 (2 * (q : Int)) 1 = 0 := by rw [i64_and1]; omega
theorem bit_odd (q : Nat) : bits .and .i64 (2 * (q : Int) + 1) 1 = 1 := by rw [i64_and1]; omega
def PwR (w : World) (x n : Nat) (s5 s6 : Value) (wr : World) : Prop := ∃ k : Nat, k ≤ blen n ∧ s6 = .int .i64 ((k : Int) - 1) ∧ Sl wr s5 (lim (x ^ (n / 2 ^ k))) ∧ Below w.heap.size w wr
set_option maxHeartbeats 2000000 in
theorem pow_any {v : Value} {x : Nat} {w : World} (n : Nat) (h : Sl w v (lim x)) (hx : (lim x).length ≤ 20000) (hl : (lim (x ^ n)).length ≤ 20000) (hn : n ≤ 65536) : Calls Tryz.prog 106 #[v, .int .i64 ((n : Nat) : Int)] w (SlP w (x ^ n)) := by
  have HLN := Lib.hid (pow_lens hl (by omega))
  have HT := Lib.hid (fun W (v1 : Value) (k : Nat) (hk : (lim (x ^ k)).length ≤ 20000) (h1 : Sl W v1 (lim (x ^ k))) => times_sl h1 h1 (by omega) (by omega))
  have HT2 := Lib.hid (fun W (hb : Below w.heap.size w W) (v1 : Value) (k : Nat) (hk : (lim (x ^ k)).length ≤ 20000) (h1 : Sl W v1 (lim (x ^ k))) => times_sl h1 (h.below hb) (by omega) (by omega))
  have HLE := Lib.hid (fun W => len_any n W (by omega))
  have hbl : blen n ≤ 17 := blen_le.2 (by omega)
  have hz : n / 2 ^ blen n = 0 := Nat.div_eq_of_lt (blen_lt n)
  obtain ⟨b, hb⟩ : ∃ b, b = blen n := ⟨_, rfl⟩
  rw [← hb] at HLE hbl hz
  have hbI : (b : Int) ≤ 17 := by omega
  have HBE := Lib.hid hb; have HZ := Lib.hid hz
  obtain ⟨A, m, c, e1⟩ := sl_form h
  subst e1
  clear hz hb h hl hx
  go_enter Tryz.func106, Tryz.ntmps106
  go_wp2_with (go_at_call 71; (with_reducible refine (one_any _).mono ?_); rintro e w1 ⟨v1, rfl, hs1, hb1⟩; have S1 := Lib.hid hs1; have B1 := Lib.hid hb1; clear hs1 hb1)
  have hK := 0
  go_wp2_with (go_at_call 65; (with_reducible refine (HLE.out _).mono ?_); rintro e w' ⟨rfl, rfl⟩)
  go_loopw [5, 6] (fun s5 s6 wr => PwR w x n s5 s6 wr) (fun _ s6 _ => (intOf s6 + 1).toNat)
  case atStart => exact ⟨b, by rw [HBE.out]; exact Nat.le_refl _, rfl, by rw [HZ.out, Nat.pow_zero, lim_one]; exact S1.out, B1.out⟩
  case round =>
    obtain ⟨k, hk, rfl, hs, hbel⟩ := hrel
    rw [← HBE.out] at hk
    clear S1 B1 HLE
    rcases Nat.eq_zero_or_pos k with h0 | h0
    · subst h0
      rw [Nat.pow_zero, Nat.div_one] at hs
      have S := Lib.hid hs; have HB := Lib.hid hbel
      clear hs hbel hk
      go_wp2
      go_ret
      exact ⟨_, rfl, S.out, HB.out⟩
    · obtain ⟨j, rfl⟩ : ∃ j, k = j + 1 := ⟨k - 1, by omega⟩
      have hst := div_step n j
      have hle : n / 2 ^ j ≤ n := Nat.div_le_self _ _
      rw [show ((j + 1 : Nat) : Int) - 1 = (j : Int) by omega]
      obtain ⟨q, hq⟩ : ∃ q, q = n / 2 ^ (j + 1) := ⟨_, rfl⟩
      obtain ⟨m2, hm2⟩ : ∃ q, q = n / 2 ^ j := ⟨_, rfl⟩
      rw [← hq] at hs hst
      rw [← hm2] at hst hle
      have hsh : (n : Int) / 2 ^ j = (m2 : Int) := by rw [hm2]; simp
      have hj : j < 17 := by omega
      have hmn : m2 ≤ 65536 := by omega
      have e2 : x ^ q * x ^ q = x ^ (2 * q) := by rw [← Nat.pow_add]; congr 1; omega
      have HT' := Lib.hid (HT.out wr _ q (HLN.out q (by omega)) hs)
      rw [e2] at HT'
      have HQ := Lib.hid (HLN.out (2 * q) (by omega))
      have HM := Lib.hid hm2; have HB := Lib.hid hbel; have HKJ := Lib.hid (show j ≤ blen n by rw [← HBE.out]; omega)
      clear hs hbel hk hm2 h0 e2 hq hle
      rcases (show m2 = 2 * q ∨ m2 = 2 * q + 1 by omega) with hbit | hbit
      · subst hbit
        have hbt := bit_even q
        clear hst
        go_wp2_with fail
        refine HT'.out.mono ?_
        rintro e w2 ⟨v2, rfl, hs2, hb2⟩
        have S2 := Lib.hid hs2; have HB2 := Lib.hid (below_step HB.out hb2)
        clear hs2 hb2
        go_wp2_with fail
        go_roundw
        case rel => exact ⟨j, HKJ.out, rfl, by rw [← HM.out]; exact S2.out, HB2.out⟩
        case measure => simp only [intOf]; omega
      · subst hbit
        have hbt := bit_odd q
        clear hst
        go_wp2_with fail
        refine HT'.out.mono ?_
        rintro e w2 ⟨v2, rfl, hs2, hb2⟩
        have S2 := Lib.hid (HT2.out _ (below_step HB.out hb2) _ _ HQ.out hs2); have HB2 := Lib.hid (below_step HB.out hb2)
        rw [← Nat.pow_succ] at S2
        clear hs2 hb2
        go_wp2_with fail
        refine S2.out.mono ?_
        rintro e w3 ⟨v3, rfl, hs3, hb3⟩
        have S3 := Lib.hid hs3; have HB3 := Lib.hid (below_step HB2.out hb3)
        clear hs3 hb3
        go_wp2_with fail
        go_roundw
        case rel => exact ⟨j, HKJ.out, rfl, by rw [← HM.out]; exact S3.out, HB3.out⟩
        case measure => simp only [intOf]; omega
end Go.Proofs.YtbfhilbagojdnaaGreat
namespace Go.Proofs.YtbfhilbagojdnaaGreat
open Go.RowKit Wr Go.Proofs.YtbfhilbagojdnaaGreat.Nm
set_option linter.unusedVariables false
set_option maxRecDepth 100000

theorem high_big {x n : Nat} (h : highB x n = true) : 4294967296 ^ 64 ≤ x ^ n := by
  have h := of_decide_eq_true h
  have hx : x ≠ 0 := by
    rintro rfl
    rw [blen_zero] at h
    have : ((0 : Nat) : Int) - 1 = -1 := by omega
    rw [this] at h; omega
  have hb := blen_pos hx
  obtain ⟨b, hbe⟩ : ∃ b, blen x = b + 1 := ⟨blen x - 1, by omega⟩
  have hg := blen_ge x hx
  rw [hbe] at h hg
  have e : (((b + 1 : Nat) : Int) - 1) = (b : Int) := by omega
  rw [e, ← Int.natCast_mul] at h
  rw [Nat.add_sub_cancel] at hg
  have h2 : 2048 ≤ b * n := by
    generalize b * n = q at h ⊢; omega
  rw [B_two]
  calc 2 ^ (32 * 64) ≤ 2 ^ (b * n) := Nat.pow_le_pow_right (by omega) (by omega)
    _ = (2 ^ b) ^ n := Nat.pow_mul 2 b n
    _ ≤ x ^ n := Nat.pow_le_pow_left hg n
theorem high_small {x n : Nat} (h : highB x n = false) (hn : n ≤ 65536) : (lim (x ^ n)).length ≤ 20000 := by
  have h := of_decide_eq_false h
  have h2 : blen x * n ≤ 2048 + 65536 := by
    rcases Nat.eq_zero_or_pos (blen x) with h0 | h0
    · rw [h0, Nat.zero_mul]; omega
    · obtain ⟨b, hbe⟩ : ∃ b, blen x = b + 1 := ⟨blen x - 1, by omega⟩
      rw [hbe] at h ⊢
      have e : (((b + 1 : Nat) : Int) - 1) = (b : Int) := by omega
      rw [e, ← Int.natCast_mul] at h
      rw [Nat.add_mul, Nat.one_mul]
      generalize b * n = q at h ⊢; omega
  have h3 : x ^ n < 2 ^ (blen x * n + 1) := by
    calc x ^ n ≤ (2 ^ blen x) ^ n := Nat.pow_le_pow_left (Nat.le_of_lt (blen_lt x)) n
      _ = 2 ^ (blen x * n) := (Nat.pow_mul 2 _ n).symm
      _ < 2 ^ (blen x * n + 1) := Nat.pow_lt_pow_right (by omega) (by omega)
  obtain ⟨k, hk⟩ : ∃ k, k = 2113 := ⟨_, rfl⟩
  refine Nat.le_trans (lim_len (k := k) |>.2 ?_) (by omega)
  rw [B_two]
  exact Nat.lt_of_lt_of_le h3 (Nat.pow_le_pow_right (by omega) (by omega))
theorem den_big {y n : Nat} (h : highB (num (dl y)) n = true) : 4294967296 ^ 64 ≤ y ^ n := by
  by_cases h1 : y = 1
  · subst h1
    have := high_big h
    rw [dl_one] at this
    have hn : n ≠ 0 := by
      rintro rfl
      rw [dl_one] at h
      have h := of_decide_eq_true h
      rw [Int.mul_comm] at h; simp at h
    rw [show num [] = 0 from rfl, Nat.zero_pow (by omega)] at this
    exact absurd this (by have := Nat.pow_pos (n := 64) (show 0 < 4294967296 by omega); omega)
  · unfold dl at h; rw [if_neg h1, num_lim] at h; exact high_big h
theorem den_small {y n : Nat} (h : highB (num (dl y)) n = false) (hn : n ≤ 65536) : (lim (y ^ n)).length ≤ 20000 := by
  by_cases h1 : y = 1
  · subst h1; rw [Nat.one_pow, lim_one]; simp
  · unfold dl at h; rw [if_neg h1, num_lim] at h; exact high_small h hn
theorem dl_prop (y : Nat) : dropz (dl y) = dl y := by
  unfold dl; split
  · rfl
  · exact dropz_lim y
def powR (r : Rt) (n : Int) : Rt × Nat := if vld r ≠ 0 then (noR, vld r) else if n < 0 ∨ 65536 < n then (noR, 5) else madeR (num r.1 ^ n.toNat) (denN r.2 ^ n.toNat)
theorem pow_eq {x y n : Nat} (v : Vr x y) (hn : n ≤ 65536) : powR (lim x, dl y) (n : Int) = madeR (x ^ n) (y ^ n) := by
  unfold powR
  rw [if_neg (by simp [vld_of v]), if_neg (by omega)]
  simp only [num_lim, dl_den y v.pos, Int.toNat_natCast]
theorem made_big {x y : Nat} (h : 4294967296 ^ 64 ≤ x ∨ 4294967296 ^ 64 ≤ y) : madeR x y = (noR, 4) := by
  unfold madeR; rw [if_neg (by omega)]
set_option maxHeartbeats 4000000 in
theorem power_any {v1 v2 : Value} {r : Rt} {w : World} (hr : Rk w v1 v2 r) (n : Int) (hn64 : -9223372036854775808 ≤ n ∧ n ≤ 9223372036854775807) : Calls Tryz.prog 61 #[.agg #[v1, v2], .int .i64 n] w (RtP w (powR r n)) := by
  suffices hgen : ∀ Res, Hid (powR r n = Res) → Calls Tryz.prog 61 #[.agg #[v1, v2], .int .i64 n] w (RtP w Res) from hgen _ (Lib.hid rfl)
  intro Res HRR
  obtain ⟨A1, n1, k1, e1⟩ := sl_form hr.s1
  obtain ⟨A2, n2, k2, e2⟩ := sl_form hr.s2
  subst e1 e2
  have hbx := box0 w (.slice A1 n1 k1) (.slice A2 n2 k2)
  have hX0 := hbx.alloc (.cells #[.slice none 0 0, .slice none 0 0] 27)
  have hR0 := Blk.newAt (w.alloc (.cells #[.slice A1 n1 k1, .slice A2 n2 k2] 27)) (w.heap.size + 1) 27 [.slice none 0 0, .slice none 0 0] (by simp)
  have hB0 := (boxb w (.slice A1 n1 k1) (.slice A2 n2 k2)).alloc (by simp) (.cells #[.slice none 0 0, .slice none 0 0] 27)
  have HX0 := Lib.hid hX0; have HR0 := Lib.hid hR0; have HB0 := Lib.hid hB0
  have HV := Lib.hid (hr.below hB0).valid
  have HR := Lib.hid hr
  clear hr hbx hX0 hR0 hB0
  go_enter Tryz.func61, Tryz.ntmps61
  go_wp2_with fail
  refine HV.out.mono ?_
  rintro e w1 ⟨rfl, hb⟩
  have HX := Lib.hid (HX0.out.below hb HX0.out.lt); have HB := Lib.hid (below_step HB0.out hb); have HRB := Lib.hid (HR0.out.below hb HR0.out.lt)
  clear hb HX0 HB0 HR0 HV
  by_cases hz : vld r = 0
  · obtain ⟨x, y, va, e1⟩ := vld_to HR.out.ok hz
    subst e1
    rw [hz]
    clear hz
    by_cases hc : n < 0 ∨ 65536 < n
    · have hre := HRR.out
      unfold powR at hre
      rw [if_neg (by simp [vld_of va]), if_pos hc] at hre
      subst hre
      clear HRR va HR
      by_cases h1 : n < 0
      · clear hc
        obtain ⟨hd1, hd2, hf3, hf4⟩ := blk_cells2 HRB.out
        go_wp2_with fail
        have hbk := (((HRB.out).put 0 (.slice none 0 0)).put 1 (.slice none 0 0))
        have hbl := (((HB.out).setCell (p := ⟨w.heap.size + 1, 0, none⟩) (by simp) (.slice none 0 0)).setCell (p := ⟨w.heap.size + 1, 1, none⟩) (by simp) (.slice none 0 0))
        refine bodyPost_ret (v := .tuple #[.agg #[(.slice none 0 0), (.slice none 0 0)], .int .i64 5]) ?_ rfl ⟨.agg #[(.slice none 0 0), (.slice none 0 0)], rfl, ⟨_, _, rfl, sl_res (Sl.nil _) HRB.out _ _ _ _ _ _, sl_res (Sl.nil _) HRB.out _ _ _ _ _ _⟩, hbl⟩
        have hr := run_loadVar_at (P := Tryz.prog) _ ⟨w.heap.size + 1, 0, none⟩ 27 [(.slice none 0 0), (.slice none 0 0)] _ hbk.at Tryz.underlying27 rfl size28
        simp [results, Tryz.results61, asAddr, hr]
      · have h2 : 65536 < n := by omega
        clear hc
        obtain ⟨hd1, hd2, hf3, hf4⟩ := blk_cells2 HRB.out
        go_wp2_with fail
        have hbk := (((HRB.out).put 0 (.slice none 0 0)).put 1 (.slice none 0 0))
        have hbl := (((HB.out).setCell (p := ⟨w.heap.size + 1, 0, none⟩) (by simp) (.slice none 0 0)).setCell (p := ⟨w.heap.size + 1, 1, none⟩) (by simp) (.slice none 0 0))
        refine bodyPost_ret (v := .tuple #[.agg #[(.slice none 0 0), (.slice none 0 0)], .int .i64 5]) ?_ rfl ⟨.agg #[(.slice none 0 0), (.slice none 0 0)], rfl, ⟨_, _, rfl, sl_res (Sl.nil _) HRB.out _ _ _ _ _ _, sl_res (Sl.nil _) HRB.out _ _ _ _ _ _⟩, hbl⟩
        have hr := run_loadVar_at (P := Tryz.prog) _ ⟨w.heap.size + 1, 0, none⟩ 27 [(.slice none 0 0), (.slice none 0 0)] _ hbk.at Tryz.underlying27 rfl size28
        simp [results, Tryz.results61, asAddr, hr]
    · obtain ⟨m, rfl⟩ := Int.eq_ofNat_of_zero_le (show 0 ≤ n by omega)
      obtain ⟨n, rfl⟩ : ∃ n, n = m := ⟨m, rfl⟩
      have hn : n ≤ 65536 := by omega
      have h1 : ¬ ((n : Int) < 0) := by omega
      have h2 : ¬ (65536 < (n : Int)) := by omega
      have hre := HRR.out
      rw [pow_eq va hn] at hre
      have ha1 : Sl w (.slice A1 n1 k1) (lim x) := HR.out.s1
      have ha2 : Sl w (.slice A2 n2 k2) (dl y) := HR.out.s2
      obtain ⟨la1, la2, la3⟩ := Vr.len va
      have hp : 0 < y := va.pos
      have HI1 := Lib.hid (high_any n (ha1.below HB.out) (lim_ok x) (dropz_lim x) la1 hn)
      have HI2 := Lib.hid (high_any n (ha2.below HB.out) (dl_ok y) (dl_prop y) la3 hn)
      rw [num_lim] at HI1
      obtain ⟨hc1, hc2, hf1, hf2⟩ := blk_cells2 HX.out
      obtain ⟨b1, hb1⟩ : ∃ b, b = highB x n := ⟨_, rfl⟩
      obtain ⟨b2, hb2⟩ : ∃ b, b = highB (num (dl y)) n := ⟨_, rfl⟩
      rw [← hb1] at HI1
      rw [← hb2] at HI2
      cases b1 with
      | true =>
        rw [made_big (Or.inl (high_big hb1.symm))] at hre
        subst hre
        obtain ⟨hd1, hd2, hf3, hf4⟩ := blk_cells2 HRB.out
        clear va ha1 ha2 la1 la2 la3 hp hb1 hb2 hc HRR HI2
        go_wp2_with (go_at_call 105; (with_reducible refine (HI1.out).mono ?_); rintro e w' ⟨rfl, rfl⟩)
        have hbk := (((HRB.out).put 0 (.slice none 0 0)).put 1 (.slice none 0 0))
        have hbl := (((HB.out).setCell (p := ⟨w.heap.size + 1, 0, none⟩) (by simp) (.slice none 0 0)).setCell (p := ⟨w.heap.size + 1, 1, none⟩) (by simp) (.slice none 0 0))
        refine bodyPost_ret (v := .tuple #[.agg #[(.slice none 0 0), (.slice none 0 0)], .int .i64 4]) ?_ rfl ⟨.agg #[(.slice none 0 0), (.slice none 0 0)], rfl, ⟨_, _, rfl, sl_res (Sl.nil _) HRB.out _ _ _ _ _ _, sl_res (Sl.nil _) HRB.out _ _ _ _ _ _⟩, hbl⟩
        have hr := run_loadVar_at (P := Tryz.prog) _ ⟨w.heap.size + 1, 0, none⟩ 27 [(.slice none 0 0), (.slice none 0 0)] _ hbk.at Tryz.underlying27 rfl size28
        simp [results, Tryz.results61, asAddr, hr]
      | false =>
        cases b2 with
        | true =>
          rw [made_big (Or.inr (den_big hb2.symm))] at hre
          subst hre
          obtain ⟨hd1, hd2, hf3, hf4⟩ := blk_cells2 HRB.out
          clear va ha1 ha2 la1 la2 la3 hp hb1 hb2 hc HRR
          go_wp2_with (go_at_call 105; first | ((with_reducible refine (HI1.out).mono ?_); rintro e w' ⟨rfl, rfl⟩) | ((with_reducible refine (HI2.out).mono ?_); rintro e w' ⟨rfl, rfl⟩))
          have hbk := (((HRB.out).put 0 (.slice none 0 0)).put 1 (.slice none 0 0))
          have hbl := (((HB.out).setCell (p := ⟨w.heap.size + 1, 0, none⟩) (by simp) (.slice none 0 0)).setCell (p := ⟨w.heap.size + 1, 1, none⟩) (by simp) (.slice none 0 0))
          refine bodyPost_ret (v := .tuple #[.agg #[(.slice none 0 0), (.slice none 0 0)], .int .i64 4]) ?_ rfl ⟨.agg #[(.slice none 0 0), (.slice none 0 0)], rfl, ⟨_, _, rfl, sl_res (Sl.nil _) HRB.out _ _ _ _ _ _, sl_res (Sl.nil _) HRB.out _ _ _ _ _ _⟩, hbl⟩
          have hr := run_loadVar_at (P := Tryz.prog) _ ⟨w.heap.size + 1, 0, none⟩ 27 [(.slice none 0 0), (.slice none 0 0)] _ hbk.at Tryz.underlying27 rfl size28
          simp [results, Tryz.results61, asAddr, hr]
        | false =>
          subst hre
          have l1 := high_small hb1.symm hn
          have l2 := den_small hb2.symm hn
          have HDA := Lib.hid (fun W (h : Below w.heap.size w W) => denOf_sl (ha1.below h) (ha2.below h) va.pos (by omega))
          have HPN := Lib.hid (fun W (h : Below w.heap.size w W) => pow_any n (ha1.below h) (by omega) l1 hn)
          have HPD := Lib.hid (fun W (h : Below w.heap.size w W) (v : Value) (hv : Sl W v (lim y)) => pow_any n hv (by omega) l2 hn)
          have HMD := Lib.hid (fun W (h : Below w.heap.size w W) (v1 : Value) (hv1 : Sl W v1 (lim (x ^ n))) (v2 : Value) (hv2 : Sl W v2 (lim (y ^ n))) => made_sl hv1 hv2 (Nat.pow_pos hp) (by omega) (by omega))
          clear va ha1 ha2 la1 la2 la3 hp hb1 hb2 hc HRR l1 l2
          go_upto_region 8 with (go_at_call 105; first | ((with_reducible refine (HI1.out).mono ?_); rintro e w' ⟨rfl, rfl⟩) | ((with_reducible refine (HI2.out).mono ?_); rintro e w' ⟨rfl, rfl⟩))
          clear HI1 HI2 hc1 hc2 hf1 hf2
          refine wp_region_held (S := fun W => Blk W w.heap.size 27 [(.slice A1 n1 k1), (.slice A2 n2 k2)]) (by kernel_rfl) ?_
          change wpAnyH _ _ _ _ _ _ _ _ (World.drew w1)
          have hs0 : Blk (World.drew w1) w.heap.size 27 [(.slice A1 n1 k1), (.slice A2 n2 k2)] := HX.out
          have BD : Hid (Below w.heap.size w (World.drew w1)) := Lib.hid (below_drewN HB.out 1)
          have RD : Hid (Blk (World.drew w1) (w.heap.size + 1) 27 [.slice none 0 0, .slice none 0 0]) := HRB
          generalize World.drew w1 = Wd at hs0 BD RD ⊢
          refine wpAnyH_take (i := 0) (oi := { dst := some 31, op := Op.fieldAddr 27 (Operand.tmp 2) 0, type := 0, pos := "ratio.go:116", after := #[], guard := none }) (v := .pointer (some ⟨w.heap.size, 0, none⟩)) rfl (by kernel_rfl) (by kernel_rfl) (by kernel_rfl) (fun _ _ _ h => h) (Or.inl ⟨by rfl, fun W hW => ?y1⟩) hs0 ?_
          case y1 => go_simp
          try dsimp only [Act.put]
          try simp only [List.setIfInBounds_toArray, List.set_cons_zero, List.set_cons_succ]
          refine wpAnyH_take (i := 1) (oi := { dst := some 32, op := Op.load 22 (Operand.tmp 31), type := 22, pos := "ratio.go:116", after := #[{ on := 0, ground := Ground.data }], guard := none }) (v := (.slice A1 n1 k1)) rfl (by kernel_rfl) (by kernel_rfl) (by kernel_rfl) (fun _ _ _ h => h) (Or.inl ⟨by rfl, fun W hW => by have hcl : W.cell? ⟨w.heap.size, 0, none⟩ = some (.slice A1 n1 k1) := (Blk.cell hW 0).trans rfl; go_simp⟩) hs0 ?_
          try dsimp only [Act.put]
          try simp only [List.setIfInBounds_toArray, List.set_cons_zero, List.set_cons_succ]
          refine wpAnyH_take (i := 2) (oi := { dst := some 33, op := Op.move (Operand.tmp 1), type := 3, pos := "ratio.go:116", after := #[], guard := none }) (v := .int .i64 ((n : Nat) : Int)) rfl (by kernel_rfl) (by kernel_rfl) (by kernel_rfl) (fun _ _ _ h => h) (Or.inl ⟨by rfl, fun W hW => ?y3⟩) hs0 ?_
          case y3 => go_simp
          try dsimp only [Act.put]
          try simp only [List.setIfInBounds_toArray, List.set_cons_zero, List.set_cons_succ]
          refine wpAnyH_take (i := 4) (oi := { dst := some 35, op := Op.load 27 (Operand.tmp 2), type := 27, pos := "ratio.go:116", after := #[], guard := none }) (v := .agg #[(.slice A1 n1 k1), (.slice A2 n2 k2)]) rfl (by kernel_rfl) (by kernel_rfl) (by kernel_rfl) (fun _ _ _ h => h) (Or.inl ⟨by rfl, fun W hW => by obtain ⟨hc1, hc2, _, _⟩ := blk_cells2 hW; go_simp⟩) hs0 ?_
          try dsimp only [Act.put]
          try simp only [List.setIfInBounds_toArray, List.set_cons_zero, List.set_cons_succ]
          refine wpAnyH_take (i := 6) (oi := { dst := some 37, op := Op.move (Operand.tmp 1), type := 3, pos := "ratio.go:116", after := #[], guard := none }) (v := .int .i64 ((n : Nat) : Int)) rfl (by kernel_rfl) (by kernel_rfl) (by kernel_rfl) (fun _ _ _ h => h) (Or.inl ⟨by rfl, fun W hW => ?y5⟩) hs0 ?_
          case y5 => go_simp
          try dsimp only [Act.put]
          try simp only [List.setIfInBounds_toArray, List.set_cons_zero, List.set_cons_succ]
          refine wpAnyH_ready (rs := [3]) (by kernel_rfl) (by simp) ?_
          refine AllReadyH.cons (o := { dst := some 34, op := Op.call { callee := Callee.value (Operand.func 106), args := #[Operand.tmp 32, Operand.tmp 33], argTypes := #[22, 3] }, type := 22, pos := "ratio.go:116", after := #[{ on := 1, ground := Ground.data }, { on := 2, ground := Ground.data }], guard := none }) rfl (fun K hK => ?_) AllReadyH.nil
          rw [if_pos (by rfl)]
          go_simp
          refine (HPN.out _ BD.out ).mono ?_; rintro e w6 ⟨v7, rfl, hs, hb⟩
          have B9 := Lib.hid (below_step BD.out hb)
          have hs10 := hs0.below hb hs0.lt
          have R11 := Lib.hid (RD.out.below hb RD.out.lt)
          have S8 := Lib.hid hs
          clear hs hb
          go_wp2_with fail
          refine hK.out _ _ hs10 (fun _ => ?_)
          clear hK K
          try dsimp only [Act.put]
          try simp only [List.setIfInBounds_toArray, List.set_cons_zero, List.set_cons_succ]
          refine wpAnyH_ready (rs := [5]) (by kernel_rfl) (by simp) ?_
          refine AllReadyH.cons (o := { dst := some 36, op := Op.call { callee := Callee.value (Operand.func 47), args := #[Operand.tmp 35], argTypes := #[27] }, type := 22, pos := "ratio.go:116", after := #[{ on := 4, ground := Ground.data }, { on := 3, ground := Ground.chain }], guard := none }) rfl (fun K hK => ?_) AllReadyH.nil
          rw [if_pos (by rfl)]
          go_simp
          refine (HDA.out _ B9.out ).mono ?_; rintro e w12 ⟨v13, rfl, hs, hb⟩
          have B15 := Lib.hid (below_step B9.out hb)
          have hs16 := hs10.below hb hs10.lt
          have R17 := Lib.hid (R11.out.below hb R11.out.lt)
          have S18 := Lib.hid (S8.out.below hb)
          have S14 := Lib.hid hs
          clear hs hb
          go_wp2_with fail
          refine hK.out _ _ hs16 (fun _ => ?_)
          clear hK K
          try dsimp only [Act.put]
          try simp only [List.setIfInBounds_toArray, List.set_cons_zero, List.set_cons_succ]
          refine wpAnyH_ready (rs := [7]) (by kernel_rfl) (by simp) ?_
          refine AllReadyH.cons (o := { dst := some 38, op := Op.call { callee := Callee.value (Operand.func 106), args := #[Operand.tmp 36, Operand.tmp 37], argTypes := #[22, 3] }, type := 22, pos := "ratio.go:116", after := #[{ on := 5, ground := Ground.data }, { on := 6, ground := Ground.data }, { on := 5, ground := Ground.chain }], guard := none }) rfl (fun K hK => ?_) AllReadyH.nil
          rw [if_pos (by rfl)]
          go_simp
          refine (HPD.out _ B15.out _ S14.out).mono ?_; rintro e w19 ⟨v20, rfl, hs, hb⟩
          have B22 := Lib.hid (below_step B15.out hb)
          have hs23 := hs16.below hb hs16.lt
          have R24 := Lib.hid (R17.out.below hb R17.out.lt)
          have S25 := Lib.hid (S18.out.below hb)
          have S26 := Lib.hid (S14.out.below hb)
          have S21 := Lib.hid hs
          clear hs hb
          go_wp2_with fail
          refine hK.out _ _ hs23 (fun _ => ?_)
          clear hK K
          try dsimp only [Act.put]
          try simp only [List.setIfInBounds_toArray, List.set_cons_zero, List.set_cons_succ]
          refine wpAnyH_ready (rs := [8]) (by kernel_rfl) (by simp) ?_
          refine AllReadyH.cons (o := { dst := some 39, op := Op.call { callee := Callee.value (Operand.func 73), args := #[Operand.tmp 34, Operand.tmp 38], argTypes := #[22, 22] }, type := 31, pos := "ratio.go:116", after := #[{ on := 3, ground := Ground.data }, { on := 7, ground := Ground.data }, { on := 7, ground := Ground.chain }], guard := none }) rfl (fun K hK => ?_) AllReadyH.nil
          rw [if_pos (by rfl)]
          go_simp
          refine (HMD.out _ B22.out _ S25.out _ S21.out).mono ?_; rintro e w27 ⟨q28, rfl, ⟨u1, u2, rfl, s1, s2⟩, hb⟩
          have B31 := Lib.hid (below_step B22.out hb)
          have hs32 := hs23.below hb hs23.lt
          have R33 := Lib.hid (R24.out.below hb R24.out.lt)
          have S34 := Lib.hid (S25.out.below hb)
          have S35 := Lib.hid (S26.out.below hb)
          have S36 := Lib.hid (S21.out.below hb)
          have S29 := Lib.hid s1
          have S30 := Lib.hid s2
          obtain ⟨C1, m1, j1, e1⟩ := sl_form s1
          obtain ⟨C2, m2, j2, e2⟩ := sl_form s2
          clear s1 s2 hb
          subst e1 e2
          go_wp2_with fail
          refine hK.out _ _ hs32 (fun _ => ?_)
          clear hK K
          try dsimp only [Act.put]
          try simp only [List.setIfInBounds_toArray, List.set_cons_zero, List.set_cons_succ]
          refine wpAnyH_take (i := 9) (oi := { dst := some 40, op := Op.extract (Operand.tmp 39) 0, type := 27, pos := "ratio.go:116", after := #[{ on := 8, ground := Ground.data }], guard := none }) (v := .agg #[.slice C1 m1 j1, .slice C2 m2 j2]) rfl (by kernel_rfl) (by kernel_rfl) (by kernel_rfl) (fun _ _ _ h => h) (Or.inl ⟨by rfl, fun W hW => ?y37⟩) hs32 ?_
          case y37 => go_simp
          try dsimp only [Act.put]
          try simp only [List.setIfInBounds_toArray, List.set_cons_zero, List.set_cons_succ]
          refine wpAnyH_take (i := 10) (oi := { dst := some 41, op := Op.extract (Operand.tmp 39) 1, type := 28, pos := "ratio.go:116", after := #[{ on := 8, ground := Ground.data }], guard := none }) (v := .int .i64 (((madeR (x ^ n) (y ^ n)).2 : Nat) : Int)) rfl (by kernel_rfl) (by kernel_rfl) (by kernel_rfl) (fun _ _ _ h => h) (Or.inl ⟨by rfl, fun W hW => ?y38⟩) hs32 ?_
          case y38 => go_simp
          try dsimp only [Act.put]
          try simp only [List.setIfInBounds_toArray, List.set_cons_zero, List.set_cons_succ]
          refine wpAnyH_ready (rs := [11]) (by kernel_rfl) (by simp) ?_
          refine AllReadyH.cons (o := { dst := none, op := Op.store 27 (Operand.tmp 4) (Operand.tmp 40), type := 0, pos := "ratio.go:116", after := #[{ on := 9, ground := Ground.data }, { on := 8, ground := Ground.chain }, { on := 0, ground := Ground.phase }, { on := 1, ground := Ground.phase }, { on := 2, ground := Ground.phase }, { on := 3, ground := Ground.phase }, { on := 4, ground := Ground.phase }, { on := 5, ground := Ground.phase }, { on := 6, ground := Ground.phase }, { on := 7, ground := Ground.phase }, { on := 8, ground := Ground.phase }, { on := 9, ground := Ground.phase }, { on := 10, ground := Ground.phase }], guard := none }) rfl (fun K hK => ?_) AllReadyH.nil
          rw [if_pos (by rfl)]
          obtain ⟨hc1, hc2, hf1, hf2⟩ := blk_cells2 R33.out
          go_simp
          refine hK.out _ _ ((hs32.far (p := ⟨w.heap.size + 1, 0, none⟩) (by simp) _).far (p := ⟨w.heap.size + 1, 1, none⟩) (by simp) _) (fun _ => ?_)
          clear hK K
          try dsimp only [Act.put]
          try simp only [List.setIfInBounds_toArray, List.set_cons_zero, List.set_cons_succ]
          refine wpAnyH_take (i := 12) (oi := { dst := some 5, op := Op.assign (Operand.tmp 41), type := 28, pos := "ratio.go:116", after := #[{ on := 10, ground := Ground.data }, { on := 11, ground := Ground.chain }, { on := 0, ground := Ground.phase }, { on := 1, ground := Ground.phase }, { on := 2, ground := Ground.phase }, { on := 3, ground := Ground.phase }, { on := 4, ground := Ground.phase }, { on := 5, ground := Ground.phase }, { on := 6, ground := Ground.phase }, { on := 7, ground := Ground.phase }, { on := 8, ground := Ground.phase }, { on := 9, ground := Ground.phase }, { on := 10, ground := Ground.phase }, { on := 11, ground := Ground.phase }], guard := none }) (v := .int .i64 (((madeR (x ^ n) (y ^ n)).2 : Nat) : Int)) rfl (by kernel_rfl) (by kernel_rfl) (by kernel_rfl) (fun _ _ _ h => h) (Or.inl ⟨by rfl, fun W hW => ?y39⟩) ((hs32.far (p := ⟨w.heap.size + 1, 0, none⟩) (by simp) _).far (p := ⟨w.heap.size + 1, 1, none⟩) (by simp) _) ?_
          case y39 => go_simp
          try dsimp only [Act.put]
          try simp only [List.setIfInBounds_toArray, List.set_cons_zero, List.set_cons_succ]
          refine wpAnyH_done (by kernel_rfl) ?_ _
          try dsimp only [Act.put]
          try simp only [List.setIfInBounds_toArray, List.set_cons_zero, List.set_cons_succ]
          go_wp2_with fail
          have hbk := (((R33.out).put 0 (.slice C1 m1 j1)).put 1 (.slice C2 m2 j2))
          have hbl := (((B31.out).setCell (p := ⟨w.heap.size + 1, 0, none⟩) (by simp) (.slice C1 m1 j1)).setCell (p := ⟨w.heap.size + 1, 1, none⟩) (by simp) (.slice C2 m2 j2))
          refine bodyPost_ret (v := .tuple #[.agg #[(.slice C1 m1 j1), (.slice C2 m2 j2)], .int .i64 (((madeR (x ^ n) (y ^ n)).2 : Nat) : Int)]) ?_ rfl ⟨.agg #[(.slice C1 m1 j1), (.slice C2 m2 j2)], rfl, ⟨_, _, rfl, sl_res S29.out R33.out _ _ _ _ _ _, sl_res S30.out R33.out _ _ _ _ _ _⟩, hbl⟩
          have hr := run_loadVar_at (P := Tryz.prog) _ ⟨w.heap.size + 1, 0, none⟩ 27 [(.slice C1 m1 j1), (.slice C2 m2 j2)] _ hbk.at Tryz.underlying27 rfl size28
          simp [results, Tryz.results61, asAddr, hr]
  · have hne : (((vld r : Nat) : Int) != 0) = true := by rw [bne_iff_ne]; omega
    have hre := HRR.out
    rw [show powR r n = (noR, vld r) by unfold powR; rw [if_pos hz]] at hre
    subst hre
    generalize vld r = E at *
    clear hz HRR
    obtain ⟨hd1, hd2, hf3, hf4⟩ := blk_cells2 HRB.out
    go_wp2_with fail
    have hbk := (((HRB.out).put 0 (.slice none 0 0)).put 1 (.slice none 0 0))
    have hbl := (((HB.out).setCell (p := ⟨w.heap.size + 1, 0, none⟩) (by simp) (.slice none 0 0)).setCell (p := ⟨w.heap.size + 1, 1, none⟩) (by simp) (.slice none 0 0))
    refine bodyPost_ret (v := .tuple #[.agg #[(.slice none 0 0), (.slice none 0 0)], .int .i64 ((E : Nat) : Int)]) ?_ rfl ⟨.agg #[(.slice none 0 0), (.slice none 0 0)], rfl, ⟨_, _, rfl, sl_res (Sl.nil _) HRB.out _ _ _ _ _ _, sl_res (Sl.nil _) HRB.out _ _ _ _ _ _⟩, hbl⟩
    have hr := run_loadVar_at (P := Tryz.prog) _ ⟨w.heap.size + 1, 0, none⟩ 27 [(.slice none 0 0), (.slice none 0 0)] _ hbk.at Tryz.underlying27 rfl size28
    simp [results, Tryz.results61, asAddr, hr]
end Go.Proofs.YtbfhilbagojdnaaGreat
