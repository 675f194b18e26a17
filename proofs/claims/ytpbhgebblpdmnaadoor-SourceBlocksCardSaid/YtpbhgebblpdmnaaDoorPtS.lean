/-
  The contract of part at a kid (S).
  No condition but the lengths.
-/
import Derived.Test.YtpbhgebblpdmnaaDoorZ
import Derived.Test.YtpbhgebblpdmnaaDoorGPsPu
namespace Go.Proofs.YtpbhgebblpdmnaaDoor
open Go.RowKit Wr Src
set_option linter.unusedVariables false
set_option maxRecDepth 100000
section
variable {B : Nat} {w : World} {g : Nat} {T : Str} {E : Nat} {s : St}
set_option maxHeartbeats 8000000 in
theorem part_S (h : RS B w g T E s) {nb : Nat} {m : Nd} (hp : PN w nb m) (hml : m.kids.length + mu s ≤ 8589934592) (hgn : g < nb) (wd ps : Str) (kd : Nat) (i : Nat) (hi : ps[i]? = some 83) (hl : ps.length ≤ 100)
  (HCC : Hid (∀ W s1, RS B W g T E s1 → mu s1 ≤ mu s → 1 ≤ mu s1 → s1.stmtHere ≠ -1 → Calls Tryd.prog 39 #[pt g, iv s1.stmtHere] W (RdOut B W g T E (fun n s' => Ev (fun k => Src.node k s1.stmtHere.toNat s1) (n, s') ∧ mu s' ≤ mu s1 - 1)))) :
  Calls Tryd.prog 52 #[pt g, pt nb, SV wd ps (Src.shape kd).low (Src.shape kd).high, nv i] w (PtOut B w g T E nb kd 83 m s 0) := by
 obtain ⟨hi1, hix⟩ := byte_ix hi
 have hsz : (⟨ps.toArray⟩ : ByteArray).size = ps.length := rfl
 have hiI : (i : Int) < (ps.length : Int) := by omega
 obtain ⟨lo, hlo⟩ : ∃ lo, lo = (Src.shape kd).low := ⟨_, rfl⟩
 obtain ⟨hi', hhi⟩ : ∃ lo, lo = (Src.shape kd).high := ⟨_, rfl⟩
 rw [← hlo, ← hhi]
 have HW := Lh ((Below.refl w.heap.size w).alloc (Nat.le_refl _) (.cells [sv wd, sv ps, nv lo, nv hi'].toArray 82))
 change Hid (Below w.heap.size w (w.alloc (.cells #[sv wd, sv ps, nv lo, nv hi'] 82))) at HW
 have HX := Lh (Blk.new w 82 [sv wd, sv ps, nv lo, nv hi'])
 change Hid (Blk (w.alloc (.cells #[sv wd, sv ps, nv lo, nv hi'] 82)) w.heap.size 82 [sv wd, sv ps, nv lo, nv hi']) at HX
 have R0 := Lh (h.below HW.out)
 have N0 := Lh (hp.kp (Kp.of_below' (Z := fun _ => False) HW.out) (fun _ h => h.elim))
 have HLT := Lh hp.lt
 have S0 := Lh (show nb + 2 ≤ (w.alloc (.cells #[sv wd, sv ps, nv lo, nv hi'] 82)).heap.size from alloc_two HLT.out _)
 have P0 := Lh (Kp.of_below' (Z := fun k => k = g ∨ k = nb ∨ nb + 2 ≤ k) HW.out)
 have HGN := Lh hgn
 have HML := Lh hml
 have HFin : Hid (∀ W m' s', (∀ v, Ev (fun k => Src.stmts k m' s') v → Ev (fun k => Src.stmts k m s) v) → s'.stmtHere = -1 → RS B W g T E s' → PN W nb m' → Kp (fun k => k = g ∨ k = nb ∨ nb + 2 ≤ k) w W → mu s' ≤ mu s → m'.kids.length + mu s' ≤ m.kids.length + mu s → PtOut B w g T E nb kd 83 m s 0 (.returned (.tuple #[])) W) := Lh (fun W m' s' f1 f2 r pn p h1 h2 => ⟨m', s', rfl, pe_stmts (f1 _ (ev_stmts_end f2)), r, pn, p, by omega, by omega⟩)
 clear hgn hi h hlo hhi hi1 hl hml hp
 go_enter Tryd.func52, Tryd.ntmps52
 go_upto_region 1 with fail
 generalize w.alloc (.cells #[sv wd, sv ps, nv lo, nv hi'] 82) = w0 at HW R0 N0 P0 S0 HX ⊢
 obtain ⟨x0, x1, x2, x3⟩ : w0.cell? ⟨w.heap.size, 0, none⟩ = some (sv wd) ∧ w0.cell? ⟨w.heap.size, 1, none⟩ = some (sv ps) ∧ w0.cell? ⟨w.heap.size, 2, none⟩ = some (nv lo) ∧ w0.cell? ⟨w.heap.size, 3, none⟩ = some (nv hi') := ⟨HX.out.cell 0, HX.out.cell 1, HX.out.cell 2, HX.out.cell 3⟩
 have HSH := Lh (stmtHere_any R0.out)
 go_wp2_with fail
 clear x0 x1 x2 x3
 refine HSH.out.mono ?_
 rintro e w1 ⟨rfl, hb1⟩
 have R1 := Lh (R0.out.below hb1)
 have N1 := Lh (N0.out.kp (Kp.of_below' (Z := fun _ => False) hb1) (fun _ h => h.elim))
 have P1 := Lh (P0.out.trans (Kp.of_below' (Z := fun _ => False) hb1) (fun _ _ h => h.elim))
 have S1 := Lh (Nat.le_trans S0.out hb1.size)
 clear hb1 HSH R0 N0 P0
 go_wp2_with fail
 go_loopg [8] (mu s) (fun k s8 wr => ∃ m' s', s8 = iv s'.stmtHere ∧ Hid (∀ v, Ev (fun k => Src.stmts k m' s') v → Ev (fun k => Src.stmts k m s) v) ∧ Hid (RS B wr g T E s') ∧ Hid (PN wr nb m') ∧ Hid (Kp (fun k => k = g ∨ k = nb ∨ nb + 2 ≤ k) w wr) ∧ Hid (mu s' = k) ∧ Hid (nb + 2 ≤ wr.heap.size) ∧ Hid (mu s' ≤ mu s) ∧ Hid (m'.kids.length + mu s' ≤ m.kids.length + mu s))
 case atStart => exact ⟨m, s, rfl, Lh (fun v h => h), R1, N1, P1, Lh rfl, S1, Lh (Nat.le_refl _), Lh (Nat.le_refl _)⟩
 case round =>
  clear R1 N1 P1 HW HX
  obtain ⟨m1, s1, rfl, HE, R2, N2, P2, HM, S2, HM2, HM3⟩ := hrel
  by_cases hc : s1.stmtHere ≠ -1
  ·
   have hcI : (s1.stmtHere == -1) = false := by rw [beq_eq_false_iff_ne]; exact hc
   have hcJ : (s1.stmtHere != -1) = true := by rw [bne, hcI]; rfl
   have hpos := stmt_pos hc
   have HC := Lh (fun W hW => HCC.out W s1 hW HM2.out hpos hc)
   have HPos := Lh hpos
   have HCc := Lh hc
   obtain ⟨mk, mt, mz, ml⟩ := m1
   obtain ⟨v, xs, hb, hk, hf⟩ := N2.out
   dsimp only [Nd.kind, Nd.text, Nd.num, Nd.kids] at hb hk hf
   obtain ⟨A, c, hv, _⟩ := hk.form
   subst hv
   obtain ⟨L, hL⟩ : ∃ L, L = ml.length := ⟨_, rfl⟩
   rw [← hL] at hb hk
   have HL := Lh hL
   have HLb := Lh (show L + 1 ≤ 8589934592 by have h1 := HM3.out; have h2 := HML.out; have h3 : (Nd.mk mk mt mz ml).kids.length = L := hL.symm; omega)
   have B2 := Lh hb
   have K2 := Lh hk
   have HRel : Hid (∀ W n s' v' xs', (Ev (fun k => Src.node k s1.stmtHere.toNat s1) (n, s') ∧ mu s' ≤ mu s1 - 1) → RS B W g T E s' → Blk W nb 25 (NC mk mt mz v') → KR W nb v' (ml ++ [n]) xs' → Kp (fun k => k = g ∨ k = nb ∨ nb + 2 ≤ k) w W → mu s' < gk ∧ PN W nb (.mk mk mt mz (ml ++ [n])) ∧ (∀ v, Ev (fun k => Src.stmts k (.mk mk mt mz (ml ++ [n])) s') v → Ev (fun k => Src.stmts k m s) v) ∧ mu s' ≤ mu s ∧ (ml ++ [n]).length + mu s' ≤ m.kids.length + mu s) := Lh (fun W n s' v' xs' ⟨f1, f2⟩ r b k p => ⟨by have h1 := HM.out; have h2 := HPos.out; omega, ⟨v', xs', b, k, hf⟩, fun u hu => HE.out u (ev_stmts HCc.out f1 hu), by have h1 := HM2.out; omega, by have h3 := HM3.out; have h4 := HPos.out; have h5 : (Nd.mk mk mt mz ml).kids.length = ml.length := rfl; rw [List.length_append]; simp only [List.length_cons, List.length_nil]; omega⟩)
   clear hb hk hf hL hpos hc N2 
   go_upto_region 29 with fail
   refine wp_region_any (by kernel_rfl) ?_
   change wpAny _ _ _ _ _ _ _ (World.drew wr)
   have Rd := Lh (R2.out.kp (Z := fun _ => False) (Kp.drew _ wr) id (fun _ _ h => h))
   have Bd := Lh (show Blk (World.drew wr) nb 25 _ from B2.out)
   have Kd := Lh (K2.out.kp (Kp.drew (fun _ => False) wr) (fun _ h => h.elim))
   have Pd := Lh (P2.out.trans (Kp.drew (fun _ => False) wr) (fun _ _ h => h.elim))
   have Sd : Hid (nb + 2 ≤ (World.drew wr).heap.size) := Lh S2.out
   generalize World.drew wr = wdr at Rd Bd Kd Pd Sd ⊢
   refine wpAny_held (fun G HG => ?_)
   have HJ : Hid (∀ (W : World) (n : Nd) (s' : St) (k2 : Int) (t2 : Str) (z2 : Int) (A2 : Option Addr) (l2 c2 gz : Nat), Hid ((Ev (fun k => Src.node k s1.stmtHere.toNat s1) (n, s') ∧ mu s' ≤ mu s1 - 1)) → Hid (RS B W g T E s') → Hid (Blk W nb 25 (NC mk mt mz (.slice A L c))) → Hid (KR W nb (.slice A L c) ml xs) → Hid (NV W (fun j => nb < j ∧ some j ≠ (Value.slice A L c).ownBlock) n (NC k2 t2 z2 (.slice A2 l2 c2))) → Hid (Blk W gz 25 Z4) → Hid (Kp (fun k => k = g ∨ k = nb ∨ nb + 2 ≤ k) w W) → Hid (nb + 2 ≤ W.heap.size) → G 6 #[true, true, true, true, true, true, true, true, true, false, false, false, false, false, false] { tmps := #[pt g, pt nb, SV wd ps lo hi', nv i, undef, undef, Value.pointer (some { block := w.heap.size, off := 0 }), undef, iv s1.stmtHere, Value.pointer (some { block := w.heap.size, off := 1 }), sv ps, nv i, Value.int IntKind.u8 83, undef, undef, undef, undef, undef, undef, undef, undef, Value.bool false, Value.bool false, undef, undef, undef, undef, undef, Value.bool false, Value.bool false, undef, undef, undef, undef, undef, Value.bool false, Value.bool false, undef, undef, undef, undef, undef, undef, Value.bool false, Value.bool false, undef, undef, undef, undef, undef, undef, Value.bool false, Value.bool false, undef, undef, undef, undef, undef, undef, undef, undef, undef, undef, undef, undef, Value.bool false, Value.bool false, undef, undef, undef, undef, undef, undef, undef, undef, undef, undef, undef, undef, Value.bool false, Value.bool false, undef, undef, undef, undef, undef, undef, undef, undef, undef, undef, undef, undef, Value.bool false, Value.bool false, undef, undef, undef, undef, undef, undef, undef, undef, undef, undef, undef, undef, Value.bool false, Value.bool false, undef, undef, undef, undef, undef, undef, undef, undef, undef, undef, undef, undef, undef, undef, Value.bool false, Value.bool false, undef, undef, undef, undef, undef, undef, undef, undef, undef, undef, undef, undef, undef, undef, undef, undef, undef, undef, Value.bool true, Value.bool true, pt g, iv s.stmtHere, iv s1.stmtHere, Value.bool true, u149, u150, pt nb, pt nb, .pointer (some ⟨nb, 3, none⟩), .slice A L c, pt g, iv s1.stmtHere, .agg #[.int .i64 k2, .string ⟨t2.toArray⟩, .int .i64 z2, .slice A2 l2 c2], .int .i64 (L : Int), .slice (some ⟨gz, 0, none⟩) 1 1, u160, u161, u162, u163], defers := [] } W) := Lh (by
    intro W n s' k2 t2 z2 A2 l2 c2 gz HF HR HB HK HN HZ HP HS2
    rw [HG.out]
    refine r1 9 (fun K hK => ?_)
    have HOW : W.ownsRow (nb + 2) 25 4 (.slice A L c) L xs := by have h := HK.out.own; rw [← HL.out] at h; exact h
    obtain ⟨i0, hi0, hz0, hz1, hz2⟩ := info_parts25
    refine wp_append_lies W (.tmp 154) (.tmp 159) 23 rfl (nb + 2) 25 i0 ZN 4 56 Tryd.underlying23 hi0 hz0 hz1 hz2 rfl (by decide) (.slice A L c) L xs rfl HOW ⟨gz, 0, none⟩ 1 1 Z4 rfl rfl HZ.out.at Z4_one (by decide) (by have := HLb.out; unfold maxLen; omega) (by have := HLb.out; omega) HS2.out _ rfl ?_
    intro g2 cap W1 hown hgrow hat hlt
    have HPF := Lh (push_final (w := w) HR.out HGN.out HB.out HK.out HN.out (by rw [← HL.out]; exact HLb.out) (by rw [← HL.out]; exact hown) hgrow hat HP.out HP.out.size)
    rw [← HL.out] at HPF
    obtain ⟨u0, hu0⟩ := HPF.out.2.2.2.2.2.1 0 (by decide)
    obtain ⟨u1, hu1⟩ := HPF.out.2.2.2.2.2.1 1 (by decide)
    obtain ⟨u2, hu2⟩ := HPF.out.2.2.2.2.2.1 2 (by decide)
    obtain ⟨u3, hu3⟩ := HPF.out.2.2.2.2.2.1 3 (by decide)
    rw [Nat.add_zero] at hu0
    have fz : ∀ j, W1.frozen? ⟨g2, j, none⟩ = false := HPF.out.2.2.2.2.2.2.1
    have b1 := HPF.out.2.2.2.2.2.2.2
    have hn3 := b1.cell 3; have fn3 := b1.frozen 3
    unfold NC at hn3
    simp only [g0, gs] at hn3
    have hgn2 : nb < g2 := HPF.out.2.2.2.2.1
    have hne1 : ¬ g2 = nb := by omega
    have hne2 : ¬ nb = g2 := by omega
    have HWS := Lh hgrow.size
    clear hown hgrow hat hlt b1 HOW hi0 hz0 hz1 hz2
    try (refine hk hK ?_; clear hK K)
    refine tk 10 ({ dst := some 161, op := Op.indexAddr 23 (Operand.tmp 160) (Operand.tmp 158), type := 0, pos := "read.go:132", after := #[dD 9, dD 7, dP 0, dP 1, dP 2, dP 3, dP 4, dP 5, dP 6, dP 7, dP 8, dP 9, { on := 14, ground := Ground.gcOnly Departure.appendInPlace }], guard := none }) (.pointer (some ⟨g2, L * 4, none⟩)) (fun W => ?y1) ?_
    case y1 => (go_simp; intro hbad; exact absurd hbad (by omega))
    try simp only [zp, zn, zu, zv, zw]
    refine tg 12 (pt nb) ?_
    refine tg 13 (.pointer (some ⟨nb, 3, none⟩)) ?_
    refine rm [11, 14] (ac (fun K hK => ?_) (ac (fun K hK => ?_) AllReady.nil))
    ·
     go_simp
     try (refine hk hK ?_; clear hK K)
     have hn3' : (put4 W1 g2 (L * 4) (iv k2) (sv t2) (iv z2) (.slice A2 l2 c2)).cell? ⟨nb, 3, none⟩ = some (.slice A L c) := ((put4_kp W1 g2 (L * 4) _ _ _ _).blk (HPF.out.2.2.2.2.2.2.2) hne2).cell 3
     have fn3' : (put4 W1 g2 (L * 4) (iv k2) (sv t2) (iv z2) (.slice A2 l2 c2)).frozen? ⟨nb, 3, none⟩ = false := ((put4_kp W1 g2 (L * 4) _ _ _ _).blk (HPF.out.2.2.2.2.2.2.2) hne2).frozen 3
     have hw5s := (put4_kp W1 g2 (L * 4) (iv k2) (sv t2) (iv z2) (.slice A2 l2 c2)).size
     clear hu0 hu1 hu2 hu3 fz hn3 fn3
     change wpAny _ _ _ _ _ _ _ (put4 W1 g2 (L * 4) (iv k2) (sv t2) (iv z2) (.slice A2 l2 c2))
     generalize hW5 : put4 W1 g2 (L * 4) (iv k2) (sv t2) (iv z2) (.slice A2 l2 c2) = W5 at HPF hn3' fn3' hw5s ⊢
     have HSZ := Lh (show nb + 2 ≤ (W5.setCell ⟨nb, 3, none⟩ (.slice (some ⟨g2, 0, none⟩) (L + 1) cap)).heap.size from Nat.le_trans (Nat.le_trans HS2.out (Nat.le_trans HWS.out hw5s)) (Kp.setCell (Z := fun _ => True) _ _ _ trivial).size)
     clear hw5s
     refine r1 14 (fun K hK => ?_)
     go_simp
     try (refine hk hK ?_; clear hK K)
     clear hn3' fn3'
     refine wpAny_done (by kernel_rfl) ?_ _
     try simp only [zp, zn, zu, zv, zw]
     obtain ⟨q1, q2, q3, q4, q5⟩ := HRel.out _ _ _ _ _ HF.out HPF.out.1 HPF.out.2.1 HPF.out.2.2.1 HPF.out.2.2.2.1
     have q6 := Lh HPF.out.1
     have q7 := Lh HPF.out.2.2.2.1
     have Q1 := Lh q1; have Q2 := Lh q2; have Q3 := Lh q3; have Q4 := Lh q4; have Q5 := Lh q5
     have HSH := Lh (stmtHere_any q6.out)
     clear q1 q2 q3 q4 q5 HPF
     go_wp2_with fail
     refine HSH.out.mono ?_
     rintro e w9 ⟨rfl, hb9⟩
     have R9 := Lh (q6.out.below hb9)
     have N9 := Lh (Q2.out.kp (Kp.of_below' (Z := fun _ => False) hb9) (fun _ h => h.elim))
     have P9 := Lh (q7.out.trans (Kp.of_below' (Z := fun _ => False) hb9) (fun _ _ h => h.elim))
     have S9 := Lh (Nat.le_trans HSZ.out hb9.size)
     clear hb9 HSH q6 q7
     go_wp2_with fail
     go_roundg (mu s')
     case measure => exact Q1.out
     case rel => exact ⟨_, s', rfl, Q3, R9, N9, P9, Lh rfl, S9, Q4, Q5⟩
    ·
     go_simp
     try (refine hk hK ?_; clear hK K)
     obtain ⟨W5, hW5⟩ : ∃ W5, W5 = W1.setCell ⟨nb, 3, none⟩ (.slice (some ⟨g2, 0, none⟩) (L + 1) cap) := ⟨_, rfl⟩
     rw [← put4_comm _ _ _ _ _ _ _ _ _ hne2, ← hW5] at HPF
     have hu0' : W5.cell? ⟨g2, L * 4, none⟩ = some u0 := by rw [hW5]; exact (cell_other _ _ _ _ hne2).trans hu0
     have hu1' : W5.cell? ⟨g2, L * 4 + 1, none⟩ = some u1 := by rw [hW5]; exact (cell_other _ _ _ _ hne2).trans hu1
     have hu2' : W5.cell? ⟨g2, L * 4 + 2, none⟩ = some u2 := by rw [hW5]; exact (cell_other _ _ _ _ hne2).trans hu2
     have hu3' : W5.cell? ⟨g2, L * 4 + 3, none⟩ = some u3 := by rw [hW5]; exact (cell_other _ _ _ _ hne2).trans hu3
     have fz' : ∀ j, W5.frozen? ⟨g2, j, none⟩ = false := fun j => by rw [hW5]; exact (frozen_other _ _ _ _ hne2).trans (fz j)
     have HSZ := Lh (show nb + 2 ≤ (put4 W5 g2 (L * 4) (iv k2) (sv t2) (iv z2) (.slice A2 l2 c2)).heap.size from Nat.le_trans (Nat.le_trans HS2.out (Nat.le_trans HWS.out (by rw [hW5]; exact (Kp.setCell (Z := fun _ => True) _ _ _ trivial).size))) (put4_kp W5 _ _ _ _ _ _).size)
     rw [← hW5]
     clear hW5 hu0 hu1 hu2 hu3 fz hn3 fn3
     refine r1 11 (fun K hK => ?_)
     go_simp
     try (refine hk hK ?_; clear hK K)
     clear hu0' hu1' hu2' hu3' fz'
     change wpAny _ _ _ _ _ _ _ (put4 W5 g2 (L * 4) (iv k2) (sv t2) (iv z2) (.slice A2 l2 c2))
     refine wpAny_done (by kernel_rfl) ?_ _
     try simp only [zp, zn, zu, zv, zw]
     obtain ⟨q1, q2, q3, q4, q5⟩ := HRel.out _ _ _ _ _ HF.out HPF.out.1 HPF.out.2.1 HPF.out.2.2.1 HPF.out.2.2.2.1
     have q6 := Lh HPF.out.1
     have q7 := Lh HPF.out.2.2.2.1
     have Q1 := Lh q1; have Q2 := Lh q2; have Q3 := Lh q3; have Q4 := Lh q4; have Q5 := Lh q5
     have HSH := Lh (stmtHere_any q6.out)
     clear q1 q2 q3 q4 q5 HPF
     go_wp2_with fail
     refine HSH.out.mono ?_
     rintro e w9 ⟨rfl, hb9⟩
     have R9 := Lh (q6.out.below hb9)
     have N9 := Lh (Q2.out.kp (Kp.of_below' (Z := fun _ => False) hb9) (fun _ h => h.elim))
     have P9 := Lh (q7.out.trans (Kp.of_below' (Z := fun _ => False) hb9) (fun _ _ h => h.elim))
     have S9 := Lh (Nat.le_trans HSZ.out hb9.size)
     clear hb9 HSH q6 q7
     go_wp2_with fail
     go_roundg (mu s')
     case measure => exact Q1.out
     case rel => exact ⟨_, s', rfl, Q3, R9, N9, P9, Lh rfl, S9, Q4, Q5⟩
    )
   rw [HG.out]
   refine tg 0 (pt nb) ?_
   refine tg 1 (pt nb) ?_
   refine tg 2 (.pointer (some ⟨nb, 3, none⟩)) ?_
   refine tg 4 (pt g) ?_
   refine tg 5 (iv s1.stmtHere) ?_
   refine rm [3, 6, 8] (ac (fun K hK => ?_) (ac (fun K hK => ?_) (ac (fun K hK => ?_) AllReady.nil)))
   ·
    have e3 := Bd.out.cell 3
    unfold NC at e3
    simp only [g0, gs] at e3
    go_simp
    clear e3
    try (refine hk hK ?_; clear hK K)
    refine tg 7 (.int .i64 (L : Int)) ?_
    refine rm [6, 8] (ac (fun K hK => ?_) (ac (fun K hK => ?_) AllReady.nil))
    ·
     go_simp
     refine (HC.out _ Rd.out).mono ?_
     rintro e W10 ⟨n10, s10, cs10, rfl, hf, hr, hv, hk⟩
     obtain ⟨k10, t10, z10, l10⟩ := n10
     obtain ⟨A10, c10, ys10, hcs, hv2⟩ := hv.form
     subst hcs
     have F10 := Lh hf
     have R10 := Lh hr
     have K10 := Lh (Kd.out.kp hk (fun j e => by have := HGN.out; omega))
     have B10 := Lh (hk.blk Bd.out (by have := HGN.out; omega))
     have P10 := Lh (Pd.out.trans hk (fun k _ e => Or.inl e))
     have S10 := Lh (Nat.le_trans Sd.out hk.size)
     have N10 := Lh (kid_far hv Kd.out hk Bd.out.lt)
     clear hf hr hv hv2 hk
     go_wp2_with fail
     try (refine hk hK ?_; clear hK K)
     refine r1 8 (fun K hK => ?_)
     refine wp_bs (vs := #[(0, ZN)]) rfl (by simp [Act.eval, ZN]) (build23 _) ?_
     obtain ⟨W11, hW⟩ : ∃ W', W10.alloc (.cells Z4.toArray 25) = W' := ⟨_, rfl⟩
     obtain ⟨gz11, hgz⟩ : ∃ z, W10.heap.size = z := ⟨_, rfl⟩
     have hb0 : Below W10.heap.size W10 W11 := by rw [← hW]; exact (Below.refl _ _).alloc (Nat.le_refl _) _
     have R11 := Lh (R10.out.below hb0)
     have B11 := Lh (B10.out.below hb0 B10.out.lt)
     have K11 := Lh (K10.out.kp (Kp.of_below' (Z := fun _ => False) hb0) (fun _ h => h.elim))
     have P11 := Lh (P10.out.trans (Kp.of_below' (Z := fun _ => False) hb0) (fun _ _ h => h.elim))
     have Z11 := Lh (show Blk W11 gz11 25 Z4 by rw [← hW, ← hgz]; exact Blk.new _ _ _)
     have S11 := Lh (Nat.le_trans S10.out hb0.size)
     have GZgz11 := Lh (show nb < gz11 by rw [← hgz]; exact B10.out.lt)
     have N11 := Lh ((Kp.of_below' (Z := fun _ => False) hb0).nv N10.out (fun _ _ _ h => h.elim))
     rw [hW, hgz]
     clear hW hb0 hgz
     try (refine hk hK ?_; clear hK K)
     rw [← HG.out]
     exact HJ.out W11 _ _ _ _ _ _ _ _ gz11 F10 R11 B11 K11 N11 Z11 P11 S11
    ·
     refine wp_bs (vs := #[(0, ZN)]) rfl (by simp [Act.eval, ZN]) (build23 _) ?_
     obtain ⟨W12, hW⟩ : ∃ W', wdr.alloc (.cells Z4.toArray 25) = W' := ⟨_, rfl⟩
     obtain ⟨gz12, hgz⟩ : ∃ z, wdr.heap.size = z := ⟨_, rfl⟩
     have hb0 : Below wdr.heap.size wdr W12 := by rw [← hW]; exact (Below.refl _ _).alloc (Nat.le_refl _) _
     have R12 := Lh (Rd.out.below hb0)
     have B12 := Lh (Bd.out.below hb0 Bd.out.lt)
     have K12 := Lh (Kd.out.kp (Kp.of_below' (Z := fun _ => False) hb0) (fun _ h => h.elim))
     have P12 := Lh (Pd.out.trans (Kp.of_below' (Z := fun _ => False) hb0) (fun _ _ h => h.elim))
     have Z12 := Lh (show Blk W12 gz12 25 Z4 by rw [← hW, ← hgz]; exact Blk.new _ _ _)
     have S12 := Lh (Nat.le_trans Sd.out hb0.size)
     have GZgz12 := Lh (show nb < gz12 by rw [← hgz]; exact Bd.out.lt)
     rw [hW, hgz]
     clear hW hb0 hgz
     try (refine hk hK ?_; clear hK K)
     refine r1 6 (fun K hK => ?_)
     go_simp
     refine (HC.out _ R12.out).mono ?_
     rintro e W13 ⟨n13, s13, cs13, rfl, hf, hr, hv, hk⟩
     obtain ⟨k13, t13, z13, l13⟩ := n13
     obtain ⟨A13, c13, ys13, hcs, hv2⟩ := hv.form
     subst hcs
     have F13 := Lh hf
     have R13 := Lh hr
     have K13 := Lh (K12.out.kp hk (fun j e => by have := HGN.out; omega))
     have B13 := Lh (hk.blk B12.out (by have := HGN.out; omega))
     have P13 := Lh (P12.out.trans hk (fun k _ e => Or.inl e))
     have S13 := Lh (Nat.le_trans S12.out hk.size)
     have N13 := Lh (kid_far hv K12.out hk B12.out.lt)
     have Z13 := Lh (hk.blk Z12.out (by have := Z12.out.lt; have := R12.out.lt; have := GZgz12.out; have := HGN.out; omega))
     clear hf hr hv hv2 hk
     go_wp2_with fail
     try (refine hk hK ?_; clear hK K)
     rw [← HG.out]
     exact HJ.out W13 _ _ _ _ _ _ _ _ gz12 F13 R13 B13 K13 N13 Z13 P13 S13
   ·
    go_simp
    refine (HC.out _ Rd.out).mono ?_
    rintro e W14 ⟨n14, s14, cs14, rfl, hf, hr, hv, hk⟩
    obtain ⟨k14, t14, z14, l14⟩ := n14
    obtain ⟨A14, c14, ys14, hcs, hv2⟩ := hv.form
    subst hcs
    have F14 := Lh hf
    have R14 := Lh hr
    have K14 := Lh (Kd.out.kp hk (fun j e => by have := HGN.out; omega))
    have B14 := Lh (hk.blk Bd.out (by have := HGN.out; omega))
    have P14 := Lh (Pd.out.trans hk (fun k _ e => Or.inl e))
    have S14 := Lh (Nat.le_trans Sd.out hk.size)
    have N14 := Lh (kid_far hv Kd.out hk Bd.out.lt)
    clear hf hr hv hv2 hk
    go_wp2_with fail
    try (refine hk hK ?_; clear hK K)
    refine rm [3, 8] (ac (fun K hK => ?_) (ac (fun K hK => ?_) AllReady.nil))
    ·
     have e3 := B14.out.cell 3
     unfold NC at e3
     simp only [g0, gs] at e3
     go_simp
     clear e3
     try (refine hk hK ?_; clear hK K)
     refine tg 7 (.int .i64 (L : Int)) ?_
     refine r1 8 (fun K hK => ?_)
     refine wp_bs (vs := #[(0, ZN)]) rfl (by simp [Act.eval, ZN]) (build23 _) ?_
     obtain ⟨W17, hW⟩ : ∃ W', W14.alloc (.cells Z4.toArray 25) = W' := ⟨_, rfl⟩
     obtain ⟨gz17, hgz⟩ : ∃ z, W14.heap.size = z := ⟨_, rfl⟩
     have hb0 : Below W14.heap.size W14 W17 := by rw [← hW]; exact (Below.refl _ _).alloc (Nat.le_refl _) _
     have R17 := Lh (R14.out.below hb0)
     have B17 := Lh (B14.out.below hb0 B14.out.lt)
     have K17 := Lh (K14.out.kp (Kp.of_below' (Z := fun _ => False) hb0) (fun _ h => h.elim))
     have P17 := Lh (P14.out.trans (Kp.of_below' (Z := fun _ => False) hb0) (fun _ _ h => h.elim))
     have Z17 := Lh (show Blk W17 gz17 25 Z4 by rw [← hW, ← hgz]; exact Blk.new _ _ _)
     have S17 := Lh (Nat.le_trans S14.out hb0.size)
     have GZgz17 := Lh (show nb < gz17 by rw [← hgz]; exact B14.out.lt)
     have N17 := Lh ((Kp.of_below' (Z := fun _ => False) hb0).nv N14.out (fun _ _ _ h => h.elim))
     rw [hW, hgz]
     clear hW hb0 hgz
     try (refine hk hK ?_; clear hK K)
     rw [← HG.out]
     exact HJ.out W17 _ _ _ _ _ _ _ _ gz17 F14 R17 B17 K17 N17 Z17 P17 S17
    ·
     refine wp_bs (vs := #[(0, ZN)]) rfl (by simp [Act.eval, ZN]) (build23 _) ?_
     obtain ⟨W18, hW⟩ : ∃ W', W14.alloc (.cells Z4.toArray 25) = W' := ⟨_, rfl⟩
     obtain ⟨gz18, hgz⟩ : ∃ z, W14.heap.size = z := ⟨_, rfl⟩
     have hb0 : Below W14.heap.size W14 W18 := by rw [← hW]; exact (Below.refl _ _).alloc (Nat.le_refl _) _
     have R18 := Lh (R14.out.below hb0)
     have B18 := Lh (B14.out.below hb0 B14.out.lt)
     have K18 := Lh (K14.out.kp (Kp.of_below' (Z := fun _ => False) hb0) (fun _ h => h.elim))
     have P18 := Lh (P14.out.trans (Kp.of_below' (Z := fun _ => False) hb0) (fun _ _ h => h.elim))
     have Z18 := Lh (show Blk W18 gz18 25 Z4 by rw [← hW, ← hgz]; exact Blk.new _ _ _)
     have S18 := Lh (Nat.le_trans S14.out hb0.size)
     have GZgz18 := Lh (show nb < gz18 by rw [← hgz]; exact B14.out.lt)
     have N18 := Lh ((Kp.of_below' (Z := fun _ => False) hb0).nv N14.out (fun _ _ _ h => h.elim))
     rw [hW, hgz]
     clear hW hb0 hgz
     try (refine hk hK ?_; clear hK K)
     refine r1 3 (fun K hK => ?_)
     have e3 := B18.out.cell 3
     unfold NC at e3
     simp only [g0, gs] at e3
     go_simp
     clear e3
     try (refine hk hK ?_; clear hK K)
     refine tg 7 (.int .i64 (L : Int)) ?_
     rw [← HG.out]
     exact HJ.out W18 _ _ _ _ _ _ _ _ gz18 F14 R18 B18 K18 N18 Z18 P18 S18
   ·
    refine wp_bs (vs := #[(0, ZN)]) rfl (by simp [Act.eval, ZN]) (build23 _) ?_
    obtain ⟨W21, hW⟩ : ∃ W', wdr.alloc (.cells Z4.toArray 25) = W' := ⟨_, rfl⟩
    obtain ⟨gz21, hgz⟩ : ∃ z, wdr.heap.size = z := ⟨_, rfl⟩
    have hb0 : Below wdr.heap.size wdr W21 := by rw [← hW]; exact (Below.refl _ _).alloc (Nat.le_refl _) _
    have R21 := Lh (Rd.out.below hb0)
    have B21 := Lh (Bd.out.below hb0 Bd.out.lt)
    have K21 := Lh (Kd.out.kp (Kp.of_below' (Z := fun _ => False) hb0) (fun _ h => h.elim))
    have P21 := Lh (Pd.out.trans (Kp.of_below' (Z := fun _ => False) hb0) (fun _ _ h => h.elim))
    have Z21 := Lh (show Blk W21 gz21 25 Z4 by rw [← hW, ← hgz]; exact Blk.new _ _ _)
    have S21 := Lh (Nat.le_trans Sd.out hb0.size)
    have GZgz21 := Lh (show nb < gz21 by rw [← hgz]; exact Bd.out.lt)
    rw [hW, hgz]
    clear hW hb0 hgz
    try (refine hk hK ?_; clear hK K)
    refine rm [3, 6] (ac (fun K hK => ?_) (ac (fun K hK => ?_) AllReady.nil))
    ·
     have e3 := B21.out.cell 3
     unfold NC at e3
     simp only [g0, gs] at e3
     go_simp
     clear e3
     try (refine hk hK ?_; clear hK K)
     refine tg 7 (.int .i64 (L : Int)) ?_
     refine r1 6 (fun K hK => ?_)
     go_simp
     refine (HC.out _ R21.out).mono ?_
     rintro e W24 ⟨n24, s24, cs24, rfl, hf, hr, hv, hk⟩
     obtain ⟨k24, t24, z24, l24⟩ := n24
     obtain ⟨A24, c24, ys24, hcs, hv2⟩ := hv.form
     subst hcs
     have F24 := Lh hf
     have R24 := Lh hr
     have K24 := Lh (K21.out.kp hk (fun j e => by have := HGN.out; omega))
     have B24 := Lh (hk.blk B21.out (by have := HGN.out; omega))
     have P24 := Lh (P21.out.trans hk (fun k _ e => Or.inl e))
     have S24 := Lh (Nat.le_trans S21.out hk.size)
     have N24 := Lh (kid_far hv K21.out hk B21.out.lt)
     have Z24 := Lh (hk.blk Z21.out (by have := Z21.out.lt; have := R21.out.lt; have := GZgz21.out; have := HGN.out; omega))
     clear hf hr hv hv2 hk
     go_wp2_with fail
     try (refine hk hK ?_; clear hK K)
     rw [← HG.out]
     exact HJ.out W24 _ _ _ _ _ _ _ _ gz21 F24 R24 B24 K24 N24 Z24 P24 S24
    ·
     go_simp
     refine (HC.out _ R21.out).mono ?_
     rintro e W25 ⟨n25, s25, cs25, rfl, hf, hr, hv, hk⟩
     obtain ⟨k25, t25, z25, l25⟩ := n25
     obtain ⟨A25, c25, ys25, hcs, hv2⟩ := hv.form
     subst hcs
     have F25 := Lh hf
     have R25 := Lh hr
     have K25 := Lh (K21.out.kp hk (fun j e => by have := HGN.out; omega))
     have B25 := Lh (hk.blk B21.out (by have := HGN.out; omega))
     have P25 := Lh (P21.out.trans hk (fun k _ e => Or.inl e))
     have S25 := Lh (Nat.le_trans S21.out hk.size)
     have N25 := Lh (kid_far hv K21.out hk B21.out.lt)
     have Z25 := Lh (hk.blk Z21.out (by have := Z21.out.lt; have := R21.out.lt; have := GZgz21.out; have := HGN.out; omega))
     clear hf hr hv hv2 hk
     go_wp2_with fail
     try (refine hk hK ?_; clear hK K)
     refine r1 3 (fun K hK => ?_)
     have e3 := B25.out.cell 3
     unfold NC at e3
     simp only [g0, gs] at e3
     go_simp
     clear e3
     try (refine hk hK ?_; clear hK K)
     refine tg 7 (.int .i64 (L : Int)) ?_
     rw [← HG.out]
     exact HJ.out W25 _ _ _ _ _ _ _ _ gz21 F25 R25 B25 K25 N25 Z25 P25 S25
  ·
   have hcE : s1.stmtHere = -1 := by omega
   have hcI : (s1.stmtHere == -1) = true := by rw [beq_iff_eq]; exact hcE
   have hcJ : (s1.stmtHere != -1) = false := by rw [bne, hcI]; rfl
   have HCE := Lh hcE
   clear hcE
   have HCc := Lh hc
   clear hc
   go_wp2_with fail
   exact bodyPost_end (v := .tuple #[]) (res_none rfl _ _) rfl (HFin.out _ _ _ HE.out HCE.out R2.out N2.out P2.out HM2.out HM3.out)
end
end Go.Proofs.YtpbhgebblpdmnaaDoor
