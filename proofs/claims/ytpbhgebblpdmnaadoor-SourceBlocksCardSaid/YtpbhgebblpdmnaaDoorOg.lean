/-
  The generator: a statement (if).
  No condition but the lengths.
-/
import Derived.Test.YtpbhgebblpdmnaaDoorZ
import Derived.Test.YtpbhgebblpdmnaaDoorGm
namespace Go.Proofs.YtpbhgebblpdmnaaDoor
open Go.RowKit Wr Src
set_option linter.unusedVariables false
set_option maxRecDepth 100000
section
variable {g : Nat} {v : Value} {L : List Int}
set_option maxHeartbeats 8000000 in
theorem one_if (d : Nat) (hd : d ≤ 3) (HSome : Hid (∀ e : Nat, d = e + 1 → ∀ (W : World) (i : Nat), MS g W v L i → i + (1 + 3 * Ko e) ≤ 10000000 → Calls Tryd.prog 30 #[pt g, nv e] W (GOut g W v L (BG L.length i e)))) {i : Nat} {w : World} (h : MS g w v L i) (hi : i + Ko d ≤ 10000000) (hlt : i < L.length) (hc : tkN L i 17 = 2) : Calls Tryd.prog 15 #[pt g, nv d] w (GOut g w v L (SG L.length i d)) := by
 have z1 := zero25
 obtain ⟨A, c, hv, hcc, _⟩ := h.l.f
 subst hv
 obtain ⟨wb, hwb⟩ : ∃ wb, wb = w.heap.size := ⟨_, rfl⟩
 have HWb := Lh hwb.symm
 obtain ⟨w0, hw0⟩ : ∃ w0, w0 = w.alloc (.cells #[.int .i64 0, .string ⟨#[]⟩, .int .i64 0, .slice none 0 0] 25) := ⟨_, rfl⟩
 have l0 : Below w.heap.size w w0 := by rw [hw0]; exact (Below.refl _ _).alloc (Nat.le_refl _) _
 have Z0 := Lh (show Blk w0 wb 25 Z4 by rw [hw0, hwb]; exact Blk.new w _ _)
 have L0 := Lh l0
 have HG := Lh (show g < wb by have := h.lt; omega)
 have HWB := Lh hwb
 have W0 := Lh hw0
 have HI := Lh (show i + Ko d ≤ 10000000 ∧ 23 ≤ Ko d from ⟨hi, Ko_23 d⟩)
 have HLt := Lh hlt
 have HC0 := Lh hc
 have HD := Lh hd
 have HT := Lh (take_any (h.below l0) (by omega) 17 (by omega) (by omega))
 clear h hwb hw0 l0 hcc hi hlt hc hd
 go_enter Tryd.func15, Tryd.ntmps15
 go_upto_region 1 with fail
 rw [HWb.out]
 rw [← W0.out]
 go_wp2_with fail
 refine HT.out.mono ?_
 rintro e w1 ⟨r, hr, hr0, rfl, m1, k1⟩
 have hrc : r = 2 := hr0.eq.trans HC0.out
 subst hrc
 have HZ1 := Lh (k1.blk Z0.out (by have := HG.out; omega))
 have HK1 := Lh ((Kp.of_below' (Z := fun k => k = g) L0.out).trans k1 (fun _ _ h => h))
 have M1 := Lh m1
 clear hr hr0 m1 k1 Z0 L0 HT
 go_upto_region 2 with fail
 obtain ⟨nb, hnb⟩ : ∃ z, w1.heap.size = z := ⟨_, rfl⟩
 obtain ⟨w2, hw2⟩ : ∃ w', w1.alloc (.cells #[.int .i64 11, .string ⟨#[]⟩, .int .i64 0, .slice none 0 0] 25) = w' := ⟨_, rfl⟩
 have l2 : Below w1.heap.size w1 w2 := by rw [← hw2]; exact (Below.refl _ _).alloc (Nat.le_refl _) _
 have B2 := Lh (show Blk w2 nb 25 [.int .i64 11, .string ⟨#[]⟩, .int .i64 0, .slice none 0 0] by rw [← hw2, ← hnb]; exact Blk.new w1 _ _)
 have G2 := Lh (show GS g wb nb w w2 (.slice A L.length c) L (i + 1) from ⟨M1.out.below l2, HZ1.out.below l2 HZ1.out.lt, HK1.out.trans (Kp.of_below' (Z := fun _ => False) l2) (fun _ _ h => h.elim), HWB.out, HG.out, by have := HZ1.out.lt; omega, B2.out.lt⟩)
 rw [hnb, hw2]
 clear l2 hw2 hnb M1 HZ1 HK1 W0
 by_cases hd0 : d = 0
 ·
  have hdI : (d : Int) ≤ 0 := by omega
  clear hd0
  have b0 := B2.out.cell 0
  simp only [g0, gs] at b0
  have bx1 := B2.out.cell 0; have fbx1 := B2.out.frozen 0
  simp only [g0, gs] at bx1
  go_upto_region 4 with fail
  obtain ⟨Wx2, hW⟩ : ∃ W', w2.setCell ⟨nb, 0, none⟩ (.int .i64 24) = W' := ⟨_, rfl⟩
  have Gx2 := Lh (G2.out.keep (Kp.setCell (Z := fun k => k = nb) w2 ⟨nb, 0, none⟩ (.int .i64 24) rfl) (fun j e => by obtain ⟨q1, q2, q3, q4⟩ := G2.out.h; omega))
  have Bx2 := Lh (show Blk (w2.setCell ⟨nb, 0, none⟩ (.int .i64 24)) nb 25 [.int .i64 24, .string ⟨#[]⟩, .int .i64 0, .slice none 0 0] from B2.out.put 0 _)
  rw [hW] at Gx2 Bx2 ⊢
  clear hW bx1 fbx1
  clear b0
  have b0 := Bx2.out.cell 0
  simp only [g0, gs] at b0
  go_upto_region 40 with fail
  clear b0
  have HCx3 := Lh (value_any 2 (by omega) Gx2.out.m (by have := HI.out; simp only [Kv]; omega))
  go_wp2_with fail
  refine HCx3.out.mono ?_
  rintro e Wx3 ⟨nx3, jx3, csx3, rfl, hf, hm, hv, hk, hs⟩
  have Fx3 := Lh hf
  obtain ⟨kx3, sx3, zx3, lx3⟩ := nx3
  obtain ⟨Ax3, cx3, ysx3, hcs, _⟩ := hv.form
  subst hcs
  have Gx3 := Lh (Gx2.out.call hm hk)
  have Bx3 := Lh (hk.blk Bx2.out (by obtain ⟨q1, q2, q3, q4⟩ := Gx2.out.h; omega))
  have Vx3 := Lh (NV.keep (P' := fun k => nb < k) (fun k h1 h2 => ⟨rfl, by have := Gx2.out.fit; omega⟩) _ _ hv)
  have Sx3 := Lh (show nb + 2 ≤ Wx3.heap.size by have := Gx2.out.fit; omega)
  clear hf hm hv hk hs HCx3
  dsimp only [NC]
  go_upto_region 41 with (first | (with_reducible refine wpList_bs1 rfl rfl rfl ?_; intro gzx4 Wbx4 hgq hXx4 hBx4; have hgzx4 := Lh hgq; clear hgq; have bqx4 := (Blk.below Bx3.out hBx4 Bx3.out.lt).cell 3; have fqx4 := (Blk.below Bx3.out hBx4 Bx3.out.lt).frozen 3; simp only [g0, gs] at bqx4))
  have Gx4 := Lh (Gx3.out.keep (Kp.of_below' (Z := fun _ => False) hBx4) (fun _ h => h.elim))
  have Bx4 := Lh (Bx3.out.below hBx4 Bx3.out.lt)
  have Vx40 := Lh ((Kp.of_below' (Z := fun _ => False) hBx4).nv Vx3.out (fun _ _ _ h => h))
  have Xx4 := Lh hXx4
  have Xx4_g := Lh (show nb < gzx4 by have := Gx3.out.fit; have h9 := hgzx4.out; omega)
  clear hXx4 hBx4 hgzx4
  have bzx4 := bqx4; have fbzx4 := fqx4
  clear bqx4 fqx4
  obtain ⟨Wx5, hW⟩ : ∃ W', Wbx4.setCell ⟨nb, 3, none⟩ (.slice (some ⟨gzx4, 0, none⟩) 1 1) = W' := ⟨_, rfl⟩
  have Gx5 := Lh (Gx4.out.keep (Kp.setCell (Z := fun k => k = nb) Wbx4 ⟨nb, 3, none⟩ (.slice (some ⟨gzx4, 0, none⟩) 1 1) rfl) (fun j e => by obtain ⟨q1, q2, q3, q4⟩ := Gx4.out.h; omega))
  have Bx5 := Lh (show Blk (Wbx4.setCell ⟨nb, 3, none⟩ (.slice (some ⟨gzx4, 0, none⟩) 1 1)) nb 25 [.int .i64 24, .string ⟨#[]⟩, .int .i64 0, .slice (some ⟨gzx4, 0, none⟩) 1 1] from Bx4.out.put 3 _)
  have Vx50 := Lh ((Kp.setCell (Z := fun k => k = nb) Wbx4 ⟨nb, 3, none⟩ (.slice (some ⟨gzx4, 0, none⟩) 1 1) rfl).nv Vx40.out (fun k hk _ e => by omega))
  have Xx50 := Lh ((Kp.setCell (Z := fun k => k = nb) Wbx4 ⟨nb, 3, none⟩ (.slice (some ⟨gzx4, 0, none⟩) 1 1) rfl).blk Xx4.out (by have := Xx4_g.out; omega))
  have Xx50_g := Xx4_g
  rw [hW] at Gx5 Bx5 Vx50 Xx50 ⊢
  clear hW bzx4 fbzx4
  have Z3 : Hid (Blk Wx5 wb 25 [.int .i64 0, .string ⟨#[]⟩, .int .i64 0, .slice none 0 0]) := Lh Gx5.out.z
  have HV := Lh (show NV Wx5 (fun k => wb < k) (.mk 24 [] (0) [.mk kx3 sx3 zx3 lx3]) (NC 24 [] (0) (.slice (some ⟨gzx4, 0, none⟩) 1 1)) from nv_built (l := [_]) Xx50.out (by have := Xx50_g.out; obtain ⟨q1, q2, q3, q4⟩ := Gx5.out.h; omega) (NL.one (NV.keep (fun k h1 h2 => ⟨rfl, by obtain ⟨q1, q2, q3, q4⟩ := Gx5.out.h; omega⟩) _ _ Vx50.out)) (fine_small (by omega) (by omega) (by omega) (by omega) (by simp)) (by simp))
  have HH := Lh Gx5.out.h
  go_wp2_with (first
   | (with_reducible refine wpList_load_cells rfl 25 4 size25 (.tmp 5) rfl ⟨nb, 0, none⟩ rfl [.int .i64 24, .string ⟨#[]⟩, .int .i64 0, .slice (some ⟨gzx4, 0, none⟩) 1 1] rfl _ Tryd.underlying25 rfl Bx5.out.at ?_)
   | (with_reducible refine wpList_store_blk rfl 25 4 size25 (.tmp 4) (.tmp 138) rfl wb [.int .i64 24, .string ⟨#[]⟩, .int .i64 0, .slice (some ⟨gzx4, 0, none⟩) 1 1] rfl rfl _ Z3.out rfl rfl rfl ?_; intro w8 hb8 hk8))
  exact bodyPost_ret (v := .agg (NC 24 [] (0) (.slice (some ⟨gzx4, 0, none⟩) 1 1)).toArray) (box_res 4 size25 rfl _ _ wb (NC 24 [] (0) (.slice (some ⟨gzx4, 0, none⟩) 1 1)) _ rfl hb8 rfl Tryd.underlying25 rfl) rfl ⟨.mk 24 [] (0) [.mk kx3 sx3 zx3 lx3], _, _, rfl, sg_check HLt.out Fx3.out, Gx5.out.m.kp hk8 (fun j e => by have := HH.out; omega), NV.keep (fun k h1 h2 => ⟨hk8.block k h2 (fun e => by have := HH.out; omega), by have := HH.out; omega⟩) _ _ HV.out, Gx5.out.k.trans hk8 (fun k hk e => by have := HH.out; omega), by have h1 := hk8.size; have h2 := HH.out; omega⟩
 ·
  have hdI : ¬ (d : Int) ≤ 0 := by omega
  obtain ⟨e0, he0⟩ : ∃ e, d = e + 1 := ⟨d - 1, by omega⟩
  have HE := Lh he0
  have HKo := Lh (show Ko d = 13 + 6 * Ko e0 by rw [he0]; rfl)
  have q5 : IntKind.i64.wrap ((d : Int) - 1) = (e0 : Int) := by rw [show (d : Int) - 1 = (e0 : Int) by omega]; exact IntWalk.i64_in _ (by have := HD.out; omega)
  clear he0
  have b0 := B2.out.cell 0
  simp only [g0, gs] at b0
  go_upto_region 13 with fail
  clear b0
  have HCx1 := Lh (value_any 1 (by omega) G2.out.m (by have := HI.out; simp only [Kv]; omega))
  go_wp2_with fail
  refine HCx1.out.mono ?_
  rintro e Wx1 ⟨nx1, jx1, csx1, rfl, hf, hm, hv, hk, hs⟩
  have Fx1 := Lh hf
  obtain ⟨kx1, sx1, zx1, lx1⟩ := nx1
  obtain ⟨Ax1, cx1, ysx1, hcs, _⟩ := hv.form
  subst hcs
  have Gx1 := Lh (G2.out.call hm hk)
  have Bx1 := Lh (hk.blk B2.out (by obtain ⟨q1, q2, q3, q4⟩ := G2.out.h; omega))
  have Vx1 := Lh (NV.keep (P' := fun k => nb < k) (fun k h1 h2 => ⟨rfl, by have := G2.out.fit; omega⟩) _ _ hv)
  have Sx1 := Lh (show nb + 2 ≤ Wx1.heap.size by have := G2.out.fit; omega)
  clear hf hm hv hk hs HCx1
  dsimp only [NC]
  go_upto_region 14 with (first | (with_reducible refine wpList_bs1 rfl rfl rfl ?_; intro gzx2 Wbx2 hgq hXx2 hBx2; have hgzx2 := Lh hgq; clear hgq; have bqx2 := (Blk.below Bx1.out hBx2 Bx1.out.lt).cell 3; have fqx2 := (Blk.below Bx1.out hBx2 Bx1.out.lt).frozen 3; simp only [g0, gs] at bqx2))
  have Gx2 := Lh (Gx1.out.keep (Kp.of_below' (Z := fun _ => False) hBx2) (fun _ h => h.elim))
  have Bx2 := Lh (Bx1.out.below hBx2 Bx1.out.lt)
  have Vx20 := Lh (NV.keep (P' := fun k => nb < k ∧ k ≠ gzx2) (fun k h1 h2 => ⟨hBx2.block k h2, h1, by have h9 := hgzx2.out; omega⟩) _ _ Vx1.out)
  have Xx2 := Lh hXx2
  have Xx2_g := Lh (show nb < gzx2 by have := Gx1.out.fit; have h9 := hgzx2.out; omega)
  have Xx2_h := Lh (show nb + 2 ≤ gzx2 by have := Sx1.out; have h9 := hgzx2.out; omega)
  clear hXx2 hBx2 hgzx2
  have bzx2 := bqx2; have fbzx2 := fqx2
  clear bqx2 fqx2
  obtain ⟨Wx3, hW⟩ : ∃ W', Wbx2.setCell ⟨nb, 3, none⟩ (.slice (some ⟨gzx2, 0, none⟩) 1 1) = W' := ⟨_, rfl⟩
  have Gx3 := Lh (Gx2.out.keep (Kp.setCell (Z := fun k => k = nb) Wbx2 ⟨nb, 3, none⟩ (.slice (some ⟨gzx2, 0, none⟩) 1 1) rfl) (fun j e => by obtain ⟨q1, q2, q3, q4⟩ := Gx2.out.h; omega))
  have Bx3 := Lh (show Blk (Wbx2.setCell ⟨nb, 3, none⟩ (.slice (some ⟨gzx2, 0, none⟩) 1 1)) nb 25 [.int .i64 11, .string ⟨#[]⟩, .int .i64 0, .slice (some ⟨gzx2, 0, none⟩) 1 1] from Bx2.out.put 3 _)
  have Vx30 := Lh ((Kp.setCell (Z := fun k => k = nb) Wbx2 ⟨nb, 3, none⟩ (.slice (some ⟨gzx2, 0, none⟩) 1 1) rfl).nv Vx20.out (fun k hk _ e => by omega))
  have Xx30 := Lh ((Kp.setCell (Z := fun k => k = nb) Wbx2 ⟨nb, 3, none⟩ (.slice (some ⟨gzx2, 0, none⟩) 1 1) rfl).blk Xx2.out (by have := Xx2_g.out; omega))
  have Xx30_g := Xx2_g
  rw [hW] at Gx3 Bx3 Vx30 Xx30 ⊢
  clear hW bzx2 fbzx2
  obtain ⟨A0, M0, c0, ml, xs, HL, HKR, HBk, HML⟩ : ∃ (A0 : Option Addr) (M0 c0 : Nat) (ml : List Nd) (xs : List Value), Hid (M0 = ml.length) ∧ Hid (KR Wx3 nb (.slice A0 M0 c0) ml xs) ∧ Hid (Blk Wx3 nb 25 (NC 11 [] 0 (.slice A0 M0 c0))) ∧ Hid (ml = [.mk kx1 sx1 zx1 lx1]) := ⟨some ⟨gzx2, 0, none⟩, 1, 1, _, _, Lh rfl, Lh (KR.built Xx30.out Xx2_h.out Vx30.out), Bx3, Lh rfl⟩
  have HLb := Lh (show M0 + 1 ≤ 8589934592 by have h1 := HL.out; rw [HML.out] at h1; simp at h1; omega)
  have HC := Lh (fun W (hW : MS g W (.slice A L.length c) L jx1) => HSome.out e0 HE.out W jx1 hW (by have h1 := Fx1.out.hi; have h2 := HI.out; have h3 := HKo.out; simp only [Kv] at h1; omega))
  refine wp_region_any (by kernel_rfl) ?_
  change wpAny _ _ _ _ _ _ _ (World.drew Wx3)
  have Gd := Lh (Gx3.out.keep (Kp.drew (fun _ => False) Wx3) (fun _ h => h.elim))
  have Bd := Lh (HBk.out.drew)
  have Kd := Lh (HKR.out.kp (Kp.drew (fun _ => False) Wx3) (fun _ h => h.elim))
  generalize World.drew Wx3 = wdp at Gd Bd Kd ⊢
  refine tg 0 (.pointer (some ⟨nb, 3, none⟩)) ?_
  refine tg 2 (pt g) ?_
  refine tg 3 (nv d) ?_
  refine tg 4 (nv e0) ?_
  refine rm [1, 5] (ac (fun K hK => ?_) (ac (fun K hK => ?_) AllReady.nil))
  ·
   have e3 := Bd.out.cell 3
   unfold NC at e3
   simp only [g0, gs] at e3
   go_simp
   clear e3
   try (refine hk hK ?_; clear hK K)
   refine r1 5 (fun K hK => ?_)
   go_simp
   refine (HC.out _ Gd.out.m).mono ?_
   rintro e Wp5 ⟨np5, jp5, csp5, rfl, hf, hm, hv, hk, hs⟩
   obtain ⟨kp5, tp5, zp5, lp5⟩ := np5
   obtain ⟨Ap5, cp5, ysp5, hcs, _⟩ := hv.form
   subst hcs
   have Fp5 := Lh hf
   have Gp5 := Lh (Gd.out.call hm hk)
   have Kp5 := Lh (Kd.out.kp hk (fun j e => by obtain ⟨q1, q2, q3, q4⟩ := Gd.out.h; omega))
   have Bp5 := Lh (hk.blk Bd.out (by obtain ⟨q1, q2, q3, q4⟩ := Gd.out.h; omega))
   have Vp5 := Lh (kid_far hv Kd.out hk Gd.out.fit)
   clear hf hm hv hk hs
   dsimp only [NC]
   go_wp2_with fail
   try (refine hk hK ?_; clear hK K)
   refine r1 6 (fun K hK => ?_)
   refine wp_bs (vs := #[(0, .agg #[.int .i64 kp5, .string ⟨tp5.toArray⟩, .int .i64 zp5, .slice Ap5 lp5.length cp5])]) rfl (by simp [Act.eval]) (bs1 _ _ _ _ _ _ _) ?_
   obtain ⟨Wp6, hW⟩ : ∃ W', Wp5.alloc (.cells #[.int .i64 kp5, .string ⟨tp5.toArray⟩, .int .i64 zp5, .slice Ap5 lp5.length cp5] 25) = W' := ⟨_, rfl⟩
   obtain ⟨gzp6, hgz⟩ : ∃ z, Wp5.heap.size = z := ⟨_, rfl⟩
   have hb0 : Below Wp5.heap.size Wp5 Wp6 := by rw [← hW]; exact (Below.refl _ _).alloc (Nat.le_refl _) _
   have Zp6 := Lh (show Blk Wp6 gzp6 25 (NC kp5 tp5 zp5 (.slice Ap5 lp5.length cp5)) by rw [← hW, ← hgz]; exact Blk.new _ _ _)
   have Gp6 := Lh (Gp5.out.keep (Kp.of_below' (Z := fun _ => False) hb0) (fun _ h => h.elim))
   have Bp6 := Lh (Bp5.out.below hb0 Bp5.out.lt)
   have Kp6 := Lh (Kp5.out.kp (Kp.of_below' (Z := fun _ => False) hb0) (fun _ h => h.elim))
   have Vp6 := Lh ((Kp.of_below' (Z := fun _ => False) hb0).nv Vp5.out (fun _ _ _ h => h))
   have Sp6 := Lh (show nb + 2 ≤ Wp6.heap.size by have h1 := Zp6.out.lt; have h2 := Gp5.out.fit; omega)
   rw [hW, hgz]
   clear hW hb0 hgz
   try (refine hk hK ?_; clear hK K)
   refine r1 7 (fun K hK => ?_)
   have HOW : Wp6.ownsRow (nb + 2) 25 4 (.slice A0 M0 c0) M0 xs := by have h := Kp6.out.own; rw [← HL.out] at h; exact h
   obtain ⟨i0, hi0, hz0, hz1, hz2⟩ := info_parts25
   refine wp_append_lies Wp6 (.tmp 52) (.tmp 57) 23 rfl (nb + 2) 25 i0 ZN 4 56 Tryd.underlying23 hi0 hz0 hz1 hz2 rfl (by decide) (.slice A0 M0 c0) M0 xs rfl HOW ⟨gzp6, 0, none⟩ 1 1 (NC kp5 tp5 zp5 (.slice Ap5 lp5.length cp5)) rfl rfl Zp6.out.at (nc_one _ _ _ _ _ _) (by decide) (by have := HLb.out; unfold maxLen; omega) (by have := HLb.out; omega) Sp6.out _ rfl ?_
   intro g2p7 capp7 Wp7 hown hgrow hat hlt
   have Pp7 := Lh (push_one Gp6.out Bp6.out Kp6.out Vp6.out (by rw [← HL.out]; exact HLb.out) (by rw [← HL.out]; exact hown) hgrow hat)
   rw [← HL.out] at Pp7
   have hn3 := Pp7.out.2.2.2.cell 3; have fn3 := Pp7.out.2.2.2.frozen 3
   unfold NC at hn3
   simp only [g0, gs] at hn3
   clear hown hgrow hat hlt HOW hi0 hz0 hz1 hz2
   try (refine hk hK ?_; clear hK K)
   refine tg 8 (.pointer (some ⟨nb, 3, none⟩)) ?_
   refine r1 9 (fun K hK => ?_)
   go_simp
   clear hn3 fn3
   obtain ⟨wq, hwq⟩ : ∃ W', Wp7.setCell ⟨nb, 3, none⟩ (.slice (some ⟨g2p7, 0, none⟩) (M0 + 1) capp7) = W' := ⟨_, rfl⟩
   rw [hwq] at Pp7 ⊢
   have HP := Lh (And.intro Pp7.out.1 (And.intro Pp7.out.2.1 Pp7.out.2.2.1))
   have HF := Fp5
   clear hwq Pp7
   try (refine hk hK ?_; clear hK K)
   refine wpAny_done (by kernel_rfl) ?_ _
   try simp only [zp, zn, zu, zv, zw]
   have Gq := Lh HP.out.1
   have Bq := Lh HP.out.2.1
   have Kq := Lh HP.out.2.2
   clear HP
   have b0 := Bq.out.cell 0
   unfold NC at b0
   simp only [g0, gs] at b0
   have HCt := Lh (take_any Gq.out.m (by have h1 := Fx1.out.hi; have h2 := HI.out; have h3 := HKo.out; have h4 := Fp5.out.hi; simp only [Kv] at h1; omega) 2 (by omega) (by omega))
   go_wp2_with fail
   refine HCt.out.mono ?_
   rintro e wt ⟨rt, hrt, _, rfl, hm, hk⟩
   have Gt := Lh (Gq.out.call hm hk)
   have Bt0 := Lh (hk.blk Bq.out (by obtain ⟨q1, q2, q3, q4⟩ := Gq.out.h; omega))
   have Kt := Lh (Kq.out.kp hk (fun j e => by obtain ⟨q1, q2, q3, q4⟩ := Gq.out.h; omega))
   clear hm hk b0 HCt
   obtain hrt0 | hrt0 : rt = 0 ∨ rt = 1 := by omega
   ·
    subst hrt0
    clear hrt
    go_upto_region 16 with fail
    obtain ⟨A9, M9, c9, m9, x9, HL9, HKR9, HBk9, HML9⟩ : ∃ (A0 : Option Addr) (M0 c0 : Nat) (ml : List Nd) (xs : List Value), Hid (M0 = ml.length) ∧ Hid (KR wt nb (.slice A0 M0 c0) ml xs) ∧ Hid (Blk wt nb 25 (NC 11 [] 0 (.slice A0 M0 c0))) ∧ Hid (ml = [.mk kx1 sx1 zx1 lx1, .mk kp5 tp5 zp5 lp5]) := ⟨some ⟨g2p7, 0, none⟩, M0 + 1, capp7, _, _, Lh (by rw [HL.out]; simp), Kt, Bt0, Lh (by rw [HML.out]; rfl)⟩
    have HL9b := Lh (show M9 + 1 ≤ 8589934592 by have h1 := HL9.out; rw [HML9.out] at h1; simp at h1; omega)
    have HC9 := Lh (fun W (hW : MS g W (.slice A L.length c) L (jp5 + 1)) => HSome.out e0 HE.out W (jp5 + 1) hW (by have h1 := Fx1.out.hi; have h2 := HI.out; have h3 := HKo.out; have h4 := Fp5.out.hi; simp only [Kv] at h1; omega))
    clear Gq Bq Kq Kt Bt0 HF HC HKR HBk
    refine wp_region_any (by kernel_rfl) ?_
    change wpAny _ _ _ _ _ _ _ (World.drew wt)
    have Gd := Lh (Gt.out.keep (Kp.drew (fun _ => False) wt) (fun _ h => h.elim))
    have Bd := Lh (HBk9.out.drew)
    have Kd := Lh (HKR9.out.kp (Kp.drew (fun _ => False) wt) (fun _ h => h.elim))
    generalize World.drew wt = wdp at Gd Bd Kd ⊢
    refine tg 0 (.pointer (some ⟨nb, 3, none⟩)) ?_
    refine tg 2 (pt g) ?_
    refine tg 3 (nv d) ?_
    refine tg 4 (nv e0) ?_
    refine rm [1, 5] (ac (fun K hK => ?_) (ac (fun K hK => ?_) AllReady.nil))
    ·
     have e3 := Bd.out.cell 3
     unfold NC at e3
     simp only [g0, gs] at e3
     go_simp
     clear e3
     try (refine hk hK ?_; clear hK K)
     refine r1 5 (fun K hK => ?_)
     go_simp
     refine (HC9.out _ Gd.out.m).mono ?_
     rintro e Wq5 ⟨nq5, jq5, csq5, rfl, hf, hm, hv, hk, hs⟩
     obtain ⟨kq5, tq5, zq5, lq5⟩ := nq5
     obtain ⟨Aq5, cq5, ysq5, hcs, _⟩ := hv.form
     subst hcs
     have Fq5 := Lh hf
     have Gq5 := Lh (Gd.out.call hm hk)
     have Kq5 := Lh (Kd.out.kp hk (fun j e => by obtain ⟨q1, q2, q3, q4⟩ := Gd.out.h; omega))
     have Bq5 := Lh (hk.blk Bd.out (by obtain ⟨q1, q2, q3, q4⟩ := Gd.out.h; omega))
     have Vq5 := Lh (kid_far hv Kd.out hk Gd.out.fit)
     clear hf hm hv hk hs
     dsimp only [NC]
     go_wp2_with fail
     try (refine hk hK ?_; clear hK K)
     refine r1 6 (fun K hK => ?_)
     refine wp_bs (vs := #[(0, .agg #[.int .i64 kq5, .string ⟨tq5.toArray⟩, .int .i64 zq5, .slice Aq5 lq5.length cq5])]) rfl (by simp [Act.eval]) (bs1 _ _ _ _ _ _ _) ?_
     obtain ⟨Wq6, hW⟩ : ∃ W', Wq5.alloc (.cells #[.int .i64 kq5, .string ⟨tq5.toArray⟩, .int .i64 zq5, .slice Aq5 lq5.length cq5] 25) = W' := ⟨_, rfl⟩
     obtain ⟨gzq6, hgz⟩ : ∃ z, Wq5.heap.size = z := ⟨_, rfl⟩
     have hb0 : Below Wq5.heap.size Wq5 Wq6 := by rw [← hW]; exact (Below.refl _ _).alloc (Nat.le_refl _) _
     have Zq6 := Lh (show Blk Wq6 gzq6 25 (NC kq5 tq5 zq5 (.slice Aq5 lq5.length cq5)) by rw [← hW, ← hgz]; exact Blk.new _ _ _)
     have Gq6 := Lh (Gq5.out.keep (Kp.of_below' (Z := fun _ => False) hb0) (fun _ h => h.elim))
     have Bq6 := Lh (Bq5.out.below hb0 Bq5.out.lt)
     have Kq6 := Lh (Kq5.out.kp (Kp.of_below' (Z := fun _ => False) hb0) (fun _ h => h.elim))
     have Vq6 := Lh ((Kp.of_below' (Z := fun _ => False) hb0).nv Vq5.out (fun _ _ _ h => h))
     have Sq6 := Lh (show nb + 2 ≤ Wq6.heap.size by have h1 := Zq6.out.lt; have h2 := Gq5.out.fit; omega)
     rw [hW, hgz]
     clear hW hb0 hgz
     try (refine hk hK ?_; clear hK K)
     refine r1 7 (fun K hK => ?_)
     have HOW : Wq6.ownsRow (nb + 2) 25 4 (.slice A9 M9 c9) M9 x9 := by have h := Kq6.out.own; rw [← HL9.out] at h; exact h
     obtain ⟨i0, hi0, hz0, hz1, hz2⟩ := info_parts25
     refine wp_append_lies Wq6 (.tmp 69) (.tmp 74) 23 rfl (nb + 2) 25 i0 ZN 4 56 Tryd.underlying23 hi0 hz0 hz1 hz2 rfl (by decide) (.slice A9 M9 c9) M9 x9 rfl HOW ⟨gzq6, 0, none⟩ 1 1 (NC kq5 tq5 zq5 (.slice Aq5 lq5.length cq5)) rfl rfl Zq6.out.at (nc_one _ _ _ _ _ _) (by decide) (by have := HL9b.out; unfold maxLen; omega) (by have := HL9b.out; omega) Sq6.out _ rfl ?_
     intro g2q7 capq7 Wq7 hown hgrow hat hlt
     have Pq7 := Lh (push_one Gq6.out Bq6.out Kq6.out Vq6.out (by rw [← HL9.out]; exact HL9b.out) (by rw [← HL9.out]; exact hown) hgrow hat)
     rw [← HL9.out] at Pq7
     have hn3 := Pq7.out.2.2.2.cell 3; have fn3 := Pq7.out.2.2.2.frozen 3
     unfold NC at hn3
     simp only [g0, gs] at hn3
     clear hown hgrow hat hlt HOW hi0 hz0 hz1 hz2
     try (refine hk hK ?_; clear hK K)
     refine tg 8 (.pointer (some ⟨nb, 3, none⟩)) ?_
     refine r1 9 (fun K hK => ?_)
     go_simp
     clear hn3 fn3
     obtain ⟨wq, hwq⟩ : ∃ W', Wq7.setCell ⟨nb, 3, none⟩ (.slice (some ⟨g2q7, 0, none⟩) (M9 + 1) capq7) = W' := ⟨_, rfl⟩
     rw [hwq] at Pq7 ⊢
     have HP := Lh (And.intro Pq7.out.1 (And.intro Pq7.out.2.1 Pq7.out.2.2.1))
     have HF := Fq5
     clear hwq Pq7
     try (refine hk hK ?_; clear hK K)
     refine wpAny_done (by kernel_rfl) ?_ _
     try simp only [zp, zn, zu, zv, zw]
     have Gq := Lh HP.out.1
     have Bq := Lh HP.out.2.1
     have Kq := Lh HP.out.2.2
     clear HP
     go_upto_region 41 with fail
     have HFF := Lh (show SG L.length i d (.mk 11 [] 0 (m9 ++ [.mk kq5 tq5 zq5 lq5])) jq5 by rw [HML9.out, HE.out]; exact sg_ifelse HLt.out Fx1.out Fp5.out Fq5.out)
     have Bt : Hid (Blk wq nb 25 [.int .i64 11, .string ⟨#[]⟩, .int .i64 0, .slice (some ⟨g2q7, 0, none⟩) (M9 + 1) capq7]) := Bq
     have Z3 : Hid (Blk wq wb 25 [.int .i64 0, .string ⟨#[]⟩, .int .i64 0, .slice none 0 0]) := Lh Gq.out.z
     have HV := Lh (show NV wq (fun k => wb < k) (.mk 11 [] (0) (m9 ++ [.mk kq5 tq5 zq5 lq5])) (NC 11 [] (0) (.slice (some ⟨g2q7, 0, none⟩) ((M9 + 1)) capq7)) from NV.keep (fun k h1 h2 => ⟨rfl, by obtain ⟨q1, q2, q3, q4⟩ := Gq.out.h; omega⟩) _ _ (Kq.out.nv (k := 11) (t := []) (z := 0) (fine_small (by omega) (by omega) (by omega) (by omega) (by simp))))
     have HH := Lh Gq.out.h
     go_wp2_with (first
      | (with_reducible refine wpList_load_cells rfl 25 4 size25 (.tmp 5) rfl ⟨nb, 0, none⟩ rfl [.int .i64 11, .string ⟨#[]⟩, .int .i64 0, .slice (some ⟨g2q7, 0, none⟩) (M9 + 1) capq7] rfl _ Tryd.underlying25 rfl Bt.out.at ?_)
      | (with_reducible refine wpList_store_blk rfl 25 4 size25 (.tmp 4) (.tmp 138) rfl wb [.int .i64 11, .string ⟨#[]⟩, .int .i64 0, .slice (some ⟨g2q7, 0, none⟩) (M9 + 1) capq7] rfl rfl _ Z3.out rfl rfl rfl ?_; intro w8 hb8 hk8))
     exact bodyPost_ret (v := .agg (NC 11 [] (0) (.slice (some ⟨g2q7, 0, none⟩) ((M9 + 1)) capq7)).toArray) (box_res 4 size25 rfl _ _ wb (NC 11 [] (0) (.slice (some ⟨g2q7, 0, none⟩) ((M9 + 1)) capq7)) _ rfl hb8 rfl Tryd.underlying25 rfl) rfl ⟨.mk 11 [] (0) (m9 ++ [.mk kq5 tq5 zq5 lq5]), _, _, rfl, HFF.out, Gq.out.m.kp hk8 (fun j e => by have := HH.out; omega), NV.keep (fun k h1 h2 => ⟨hk8.block k h2 (fun e => by have := HH.out; omega), by have := HH.out; omega⟩) _ _ HV.out, Gq.out.k.trans hk8 (fun k hk e => by have := HH.out; omega), by have h1 := hk8.size; have h2 := HH.out; omega⟩
    ·
     go_simp
     refine (HC9.out _ Gd.out.m).mono ?_
     rintro e Wq9 ⟨nq9, jq9, csq9, rfl, hf, hm, hv, hk, hs⟩
     obtain ⟨kq9, tq9, zq9, lq9⟩ := nq9
     obtain ⟨Aq9, cq9, ysq9, hcs, _⟩ := hv.form
     subst hcs
     have Fq9 := Lh hf
     have Gq9 := Lh (Gd.out.call hm hk)
     have Kq9 := Lh (Kd.out.kp hk (fun j e => by obtain ⟨q1, q2, q3, q4⟩ := Gd.out.h; omega))
     have Bq9 := Lh (hk.blk Bd.out (by obtain ⟨q1, q2, q3, q4⟩ := Gd.out.h; omega))
     have Vq9 := Lh (kid_far hv Kd.out hk Gd.out.fit)
     clear hf hm hv hk hs
     dsimp only [NC]
     go_wp2_with fail
     try (refine hk hK ?_; clear hK K)
     refine rm [1, 6] (ac (fun K hK => ?_) (ac (fun K hK => ?_) AllReady.nil))
     ·
      have e3 := Bq9.out.cell 3
      unfold NC at e3
      simp only [g0, gs] at e3
      go_simp
      clear e3
      try (refine hk hK ?_; clear hK K)
      refine r1 6 (fun K hK => ?_)
      refine wp_bs (vs := #[(0, .agg #[.int .i64 kq9, .string ⟨tq9.toArray⟩, .int .i64 zq9, .slice Aq9 lq9.length cq9])]) rfl (by simp [Act.eval]) (bs1 _ _ _ _ _ _ _) ?_
      obtain ⟨Wq10, hW⟩ : ∃ W', Wq9.alloc (.cells #[.int .i64 kq9, .string ⟨tq9.toArray⟩, .int .i64 zq9, .slice Aq9 lq9.length cq9] 25) = W' := ⟨_, rfl⟩
      obtain ⟨gzq10, hgz⟩ : ∃ z, Wq9.heap.size = z := ⟨_, rfl⟩
      have hb0 : Below Wq9.heap.size Wq9 Wq10 := by rw [← hW]; exact (Below.refl _ _).alloc (Nat.le_refl _) _
      have Zq10 := Lh (show Blk Wq10 gzq10 25 (NC kq9 tq9 zq9 (.slice Aq9 lq9.length cq9)) by rw [← hW, ← hgz]; exact Blk.new _ _ _)
      have Gq10 := Lh (Gq9.out.keep (Kp.of_below' (Z := fun _ => False) hb0) (fun _ h => h.elim))
      have Bq10 := Lh (Bq9.out.below hb0 Bq9.out.lt)
      have Kq10 := Lh (Kq9.out.kp (Kp.of_below' (Z := fun _ => False) hb0) (fun _ h => h.elim))
      have Vq10 := Lh ((Kp.of_below' (Z := fun _ => False) hb0).nv Vq9.out (fun _ _ _ h => h))
      have Sq10 := Lh (show nb + 2 ≤ Wq10.heap.size by have h1 := Zq10.out.lt; have h2 := Gq9.out.fit; omega)
      rw [hW, hgz]
      clear hW hb0 hgz
      try (refine hk hK ?_; clear hK K)
      refine r1 7 (fun K hK => ?_)
      have HOW : Wq10.ownsRow (nb + 2) 25 4 (.slice A9 M9 c9) M9 x9 := by have h := Kq10.out.own; rw [← HL9.out] at h; exact h
      obtain ⟨i0, hi0, hz0, hz1, hz2⟩ := info_parts25
      refine wp_append_lies Wq10 (.tmp 69) (.tmp 74) 23 rfl (nb + 2) 25 i0 ZN 4 56 Tryd.underlying23 hi0 hz0 hz1 hz2 rfl (by decide) (.slice A9 M9 c9) M9 x9 rfl HOW ⟨gzq10, 0, none⟩ 1 1 (NC kq9 tq9 zq9 (.slice Aq9 lq9.length cq9)) rfl rfl Zq10.out.at (nc_one _ _ _ _ _ _) (by decide) (by have := HL9b.out; unfold maxLen; omega) (by have := HL9b.out; omega) Sq10.out _ rfl ?_
      intro g2q11 capq11 Wq11 hown hgrow hat hlt
      have Pq11 := Lh (push_one Gq10.out Bq10.out Kq10.out Vq10.out (by rw [← HL9.out]; exact HL9b.out) (by rw [← HL9.out]; exact hown) hgrow hat)
      rw [← HL9.out] at Pq11
      have hn3 := Pq11.out.2.2.2.cell 3; have fn3 := Pq11.out.2.2.2.frozen 3
      unfold NC at hn3
      simp only [g0, gs] at hn3
      clear hown hgrow hat hlt HOW hi0 hz0 hz1 hz2
      try (refine hk hK ?_; clear hK K)
      refine tg 8 (.pointer (some ⟨nb, 3, none⟩)) ?_
      refine r1 9 (fun K hK => ?_)
      go_simp
      clear hn3 fn3
      obtain ⟨wq, hwq⟩ : ∃ W', Wq11.setCell ⟨nb, 3, none⟩ (.slice (some ⟨g2q11, 0, none⟩) (M9 + 1) capq11) = W' := ⟨_, rfl⟩
      rw [hwq] at Pq11 ⊢
      have HP := Lh (And.intro Pq11.out.1 (And.intro Pq11.out.2.1 Pq11.out.2.2.1))
      have HF := Fq9
      clear hwq Pq11
      try (refine hk hK ?_; clear hK K)
      refine wpAny_done (by kernel_rfl) ?_ _
      try simp only [zp, zn, zu, zv, zw]
      have Gq := Lh HP.out.1
      have Bq := Lh HP.out.2.1
      have Kq := Lh HP.out.2.2
      clear HP
      go_upto_region 41 with fail
      have HFF := Lh (show SG L.length i d (.mk 11 [] 0 (m9 ++ [.mk kq9 tq9 zq9 lq9])) jq9 by rw [HML9.out, HE.out]; exact sg_ifelse HLt.out Fx1.out Fp5.out Fq9.out)
      have Bt : Hid (Blk wq nb 25 [.int .i64 11, .string ⟨#[]⟩, .int .i64 0, .slice (some ⟨g2q11, 0, none⟩) (M9 + 1) capq11]) := Bq
      have Z3 : Hid (Blk wq wb 25 [.int .i64 0, .string ⟨#[]⟩, .int .i64 0, .slice none 0 0]) := Lh Gq.out.z
      have HV := Lh (show NV wq (fun k => wb < k) (.mk 11 [] (0) (m9 ++ [.mk kq9 tq9 zq9 lq9])) (NC 11 [] (0) (.slice (some ⟨g2q11, 0, none⟩) ((M9 + 1)) capq11)) from NV.keep (fun k h1 h2 => ⟨rfl, by obtain ⟨q1, q2, q3, q4⟩ := Gq.out.h; omega⟩) _ _ (Kq.out.nv (k := 11) (t := []) (z := 0) (fine_small (by omega) (by omega) (by omega) (by omega) (by simp))))
      have HH := Lh Gq.out.h
      go_wp2_with (first
       | (with_reducible refine wpList_load_cells rfl 25 4 size25 (.tmp 5) rfl ⟨nb, 0, none⟩ rfl [.int .i64 11, .string ⟨#[]⟩, .int .i64 0, .slice (some ⟨g2q11, 0, none⟩) (M9 + 1) capq11] rfl _ Tryd.underlying25 rfl Bt.out.at ?_)
       | (with_reducible refine wpList_store_blk rfl 25 4 size25 (.tmp 4) (.tmp 138) rfl wb [.int .i64 11, .string ⟨#[]⟩, .int .i64 0, .slice (some ⟨g2q11, 0, none⟩) (M9 + 1) capq11] rfl rfl _ Z3.out rfl rfl rfl ?_; intro w8 hb8 hk8))
      exact bodyPost_ret (v := .agg (NC 11 [] (0) (.slice (some ⟨g2q11, 0, none⟩) ((M9 + 1)) capq11)).toArray) (box_res 4 size25 rfl _ _ wb (NC 11 [] (0) (.slice (some ⟨g2q11, 0, none⟩) ((M9 + 1)) capq11)) _ rfl hb8 rfl Tryd.underlying25 rfl) rfl ⟨.mk 11 [] (0) (m9 ++ [.mk kq9 tq9 zq9 lq9]), _, _, rfl, HFF.out, Gq.out.m.kp hk8 (fun j e => by have := HH.out; omega), NV.keep (fun k h1 h2 => ⟨hk8.block k h2 (fun e => by have := HH.out; omega), by have := HH.out; omega⟩) _ _ HV.out, Gq.out.k.trans hk8 (fun k hk e => by have := HH.out; omega), by have h1 := hk8.size; have h2 := HH.out; omega⟩
     ·
      refine wp_bs (vs := #[(0, .agg #[.int .i64 kq9, .string ⟨tq9.toArray⟩, .int .i64 zq9, .slice Aq9 lq9.length cq9])]) rfl (by simp [Act.eval]) (bs1 _ _ _ _ _ _ _) ?_
      obtain ⟨Wq13, hW⟩ : ∃ W', Wq9.alloc (.cells #[.int .i64 kq9, .string ⟨tq9.toArray⟩, .int .i64 zq9, .slice Aq9 lq9.length cq9] 25) = W' := ⟨_, rfl⟩
      obtain ⟨gzq13, hgz⟩ : ∃ z, Wq9.heap.size = z := ⟨_, rfl⟩
      have hb0 : Below Wq9.heap.size Wq9 Wq13 := by rw [← hW]; exact (Below.refl _ _).alloc (Nat.le_refl _) _
      have Zq13 := Lh (show Blk Wq13 gzq13 25 (NC kq9 tq9 zq9 (.slice Aq9 lq9.length cq9)) by rw [← hW, ← hgz]; exact Blk.new _ _ _)
      have Gq13 := Lh (Gq9.out.keep (Kp.of_below' (Z := fun _ => False) hb0) (fun _ h => h.elim))
      have Bq13 := Lh (Bq9.out.below hb0 Bq9.out.lt)
      have Kq13 := Lh (Kq9.out.kp (Kp.of_below' (Z := fun _ => False) hb0) (fun _ h => h.elim))
      have Vq13 := Lh ((Kp.of_below' (Z := fun _ => False) hb0).nv Vq9.out (fun _ _ _ h => h))
      have Sq13 := Lh (show nb + 2 ≤ Wq13.heap.size by have h1 := Zq13.out.lt; have h2 := Gq9.out.fit; omega)
      rw [hW, hgz]
      clear hW hb0 hgz
      try (refine hk hK ?_; clear hK K)
      refine r1 1 (fun K hK => ?_)
      have e3 := Bq13.out.cell 3
      unfold NC at e3
      simp only [g0, gs] at e3
      go_simp
      clear e3
      try (refine hk hK ?_; clear hK K)
      refine r1 7 (fun K hK => ?_)
      have HOW : Wq13.ownsRow (nb + 2) 25 4 (.slice A9 M9 c9) M9 x9 := by have h := Kq13.out.own; rw [← HL9.out] at h; exact h
      obtain ⟨i0, hi0, hz0, hz1, hz2⟩ := info_parts25
      refine wp_append_lies Wq13 (.tmp 69) (.tmp 74) 23 rfl (nb + 2) 25 i0 ZN 4 56 Tryd.underlying23 hi0 hz0 hz1 hz2 rfl (by decide) (.slice A9 M9 c9) M9 x9 rfl HOW ⟨gzq13, 0, none⟩ 1 1 (NC kq9 tq9 zq9 (.slice Aq9 lq9.length cq9)) rfl rfl Zq13.out.at (nc_one _ _ _ _ _ _) (by decide) (by have := HL9b.out; unfold maxLen; omega) (by have := HL9b.out; omega) Sq13.out _ rfl ?_
      intro g2q14 capq14 Wq14 hown hgrow hat hlt
      have Pq14 := Lh (push_one Gq13.out Bq13.out Kq13.out Vq13.out (by rw [← HL9.out]; exact HL9b.out) (by rw [← HL9.out]; exact hown) hgrow hat)
      rw [← HL9.out] at Pq14
      have hn3 := Pq14.out.2.2.2.cell 3; have fn3 := Pq14.out.2.2.2.frozen 3
      unfold NC at hn3
      simp only [g0, gs] at hn3
      clear hown hgrow hat hlt HOW hi0 hz0 hz1 hz2
      try (refine hk hK ?_; clear hK K)
      refine tg 8 (.pointer (some ⟨nb, 3, none⟩)) ?_
      refine r1 9 (fun K hK => ?_)
      go_simp
      clear hn3 fn3
      obtain ⟨wq, hwq⟩ : ∃ W', Wq14.setCell ⟨nb, 3, none⟩ (.slice (some ⟨g2q14, 0, none⟩) (M9 + 1) capq14) = W' := ⟨_, rfl⟩
      rw [hwq] at Pq14 ⊢
      have HP := Lh (And.intro Pq14.out.1 (And.intro Pq14.out.2.1 Pq14.out.2.2.1))
      have HF := Fq9
      clear hwq Pq14
      try (refine hk hK ?_; clear hK K)
      refine wpAny_done (by kernel_rfl) ?_ _
      try simp only [zp, zn, zu, zv, zw]
      have Gq := Lh HP.out.1
      have Bq := Lh HP.out.2.1
      have Kq := Lh HP.out.2.2
      clear HP
      go_upto_region 41 with fail
      have HFF := Lh (show SG L.length i d (.mk 11 [] 0 (m9 ++ [.mk kq9 tq9 zq9 lq9])) jq9 by rw [HML9.out, HE.out]; exact sg_ifelse HLt.out Fx1.out Fp5.out Fq9.out)
      have Bt : Hid (Blk wq nb 25 [.int .i64 11, .string ⟨#[]⟩, .int .i64 0, .slice (some ⟨g2q14, 0, none⟩) (M9 + 1) capq14]) := Bq
      have Z3 : Hid (Blk wq wb 25 [.int .i64 0, .string ⟨#[]⟩, .int .i64 0, .slice none 0 0]) := Lh Gq.out.z
      have HV := Lh (show NV wq (fun k => wb < k) (.mk 11 [] (0) (m9 ++ [.mk kq9 tq9 zq9 lq9])) (NC 11 [] (0) (.slice (some ⟨g2q14, 0, none⟩) ((M9 + 1)) capq14)) from NV.keep (fun k h1 h2 => ⟨rfl, by obtain ⟨q1, q2, q3, q4⟩ := Gq.out.h; omega⟩) _ _ (Kq.out.nv (k := 11) (t := []) (z := 0) (fine_small (by omega) (by omega) (by omega) (by omega) (by simp))))
      have HH := Lh Gq.out.h
      go_wp2_with (first
       | (with_reducible refine wpList_load_cells rfl 25 4 size25 (.tmp 5) rfl ⟨nb, 0, none⟩ rfl [.int .i64 11, .string ⟨#[]⟩, .int .i64 0, .slice (some ⟨g2q14, 0, none⟩) (M9 + 1) capq14] rfl _ Tryd.underlying25 rfl Bt.out.at ?_)
       | (with_reducible refine wpList_store_blk rfl 25 4 size25 (.tmp 4) (.tmp 138) rfl wb [.int .i64 11, .string ⟨#[]⟩, .int .i64 0, .slice (some ⟨g2q14, 0, none⟩) (M9 + 1) capq14] rfl rfl _ Z3.out rfl rfl rfl ?_; intro w8 hb8 hk8))
      exact bodyPost_ret (v := .agg (NC 11 [] (0) (.slice (some ⟨g2q14, 0, none⟩) ((M9 + 1)) capq14)).toArray) (box_res 4 size25 rfl _ _ wb (NC 11 [] (0) (.slice (some ⟨g2q14, 0, none⟩) ((M9 + 1)) capq14)) _ rfl hb8 rfl Tryd.underlying25 rfl) rfl ⟨.mk 11 [] (0) (m9 ++ [.mk kq9 tq9 zq9 lq9]), _, _, rfl, HFF.out, Gq.out.m.kp hk8 (fun j e => by have := HH.out; omega), NV.keep (fun k h1 h2 => ⟨hk8.block k h2 (fun e => by have := HH.out; omega), by have := HH.out; omega⟩) _ _ HV.out, Gq.out.k.trans hk8 (fun k hk e => by have := HH.out; omega), by have h1 := hk8.size; have h2 := HH.out; omega⟩
   ·
    subst hrt0
    clear hrt
    go_upto_region 41 with fail
    have HFF := Lh (show SG L.length i d (.mk 11 [] 0 (ml ++ [.mk kp5 tp5 zp5 lp5])) (jp5 + 1) by rw [HML.out, HE.out]; exact sg_if HLt.out Fx1.out Fp5.out)
    have Bt : Hid (Blk wt nb 25 [.int .i64 11, .string ⟨#[]⟩, .int .i64 0, .slice (some ⟨g2p7, 0, none⟩) (M0 + 1) capp7]) := Bt0
    have Z3 : Hid (Blk wt wb 25 [.int .i64 0, .string ⟨#[]⟩, .int .i64 0, .slice none 0 0]) := Lh Gt.out.z
    have HV := Lh (show NV wt (fun k => wb < k) (.mk 11 [] (0) (ml ++ [.mk kp5 tp5 zp5 lp5])) (NC 11 [] (0) (.slice (some ⟨g2p7, 0, none⟩) ((M0 + 1)) capp7)) from NV.keep (fun k h1 h2 => ⟨rfl, by obtain ⟨q1, q2, q3, q4⟩ := Gt.out.h; omega⟩) _ _ (Kt.out.nv (k := 11) (t := []) (z := 0) (fine_small (by omega) (by omega) (by omega) (by omega) (by simp))))
    have HH := Lh Gt.out.h
    go_wp2_with (first
     | (with_reducible refine wpList_load_cells rfl 25 4 size25 (.tmp 5) rfl ⟨nb, 0, none⟩ rfl [.int .i64 11, .string ⟨#[]⟩, .int .i64 0, .slice (some ⟨g2p7, 0, none⟩) (M0 + 1) capp7] rfl _ Tryd.underlying25 rfl Bt.out.at ?_)
     | (with_reducible refine wpList_store_blk rfl 25 4 size25 (.tmp 4) (.tmp 138) rfl wb [.int .i64 11, .string ⟨#[]⟩, .int .i64 0, .slice (some ⟨g2p7, 0, none⟩) (M0 + 1) capp7] rfl rfl _ Z3.out rfl rfl rfl ?_; intro w8 hb8 hk8))
    exact bodyPost_ret (v := .agg (NC 11 [] (0) (.slice (some ⟨g2p7, 0, none⟩) ((M0 + 1)) capp7)).toArray) (box_res 4 size25 rfl _ _ wb (NC 11 [] (0) (.slice (some ⟨g2p7, 0, none⟩) ((M0 + 1)) capp7)) _ rfl hb8 rfl Tryd.underlying25 rfl) rfl ⟨.mk 11 [] (0) (ml ++ [.mk kp5 tp5 zp5 lp5]), _, _, rfl, HFF.out, Gt.out.m.kp hk8 (fun j e => by have := HH.out; omega), NV.keep (fun k h1 h2 => ⟨hk8.block k h2 (fun e => by have := HH.out; omega), by have := HH.out; omega⟩) _ _ HV.out, Gt.out.k.trans hk8 (fun k hk e => by have := HH.out; omega), by have h1 := hk8.size; have h2 := HH.out; omega⟩
  ·
   go_simp
   refine (HC.out _ Gd.out.m).mono ?_
   rintro e Wp9 ⟨np9, jp9, csp9, rfl, hf, hm, hv, hk, hs⟩
   obtain ⟨kp9, tp9, zp9, lp9⟩ := np9
   obtain ⟨Ap9, cp9, ysp9, hcs, _⟩ := hv.form
   subst hcs
   have Fp9 := Lh hf
   have Gp9 := Lh (Gd.out.call hm hk)
   have Kp9 := Lh (Kd.out.kp hk (fun j e => by obtain ⟨q1, q2, q3, q4⟩ := Gd.out.h; omega))
   have Bp9 := Lh (hk.blk Bd.out (by obtain ⟨q1, q2, q3, q4⟩ := Gd.out.h; omega))
   have Vp9 := Lh (kid_far hv Kd.out hk Gd.out.fit)
   clear hf hm hv hk hs
   dsimp only [NC]
   go_wp2_with fail
   try (refine hk hK ?_; clear hK K)
   refine rm [1, 6] (ac (fun K hK => ?_) (ac (fun K hK => ?_) AllReady.nil))
   ·
    have e3 := Bp9.out.cell 3
    unfold NC at e3
    simp only [g0, gs] at e3
    go_simp
    clear e3
    try (refine hk hK ?_; clear hK K)
    refine r1 6 (fun K hK => ?_)
    refine wp_bs (vs := #[(0, .agg #[.int .i64 kp9, .string ⟨tp9.toArray⟩, .int .i64 zp9, .slice Ap9 lp9.length cp9])]) rfl (by simp [Act.eval]) (bs1 _ _ _ _ _ _ _) ?_
    obtain ⟨Wp10, hW⟩ : ∃ W', Wp9.alloc (.cells #[.int .i64 kp9, .string ⟨tp9.toArray⟩, .int .i64 zp9, .slice Ap9 lp9.length cp9] 25) = W' := ⟨_, rfl⟩
    obtain ⟨gzp10, hgz⟩ : ∃ z, Wp9.heap.size = z := ⟨_, rfl⟩
    have hb0 : Below Wp9.heap.size Wp9 Wp10 := by rw [← hW]; exact (Below.refl _ _).alloc (Nat.le_refl _) _
    have Zp10 := Lh (show Blk Wp10 gzp10 25 (NC kp9 tp9 zp9 (.slice Ap9 lp9.length cp9)) by rw [← hW, ← hgz]; exact Blk.new _ _ _)
    have Gp10 := Lh (Gp9.out.keep (Kp.of_below' (Z := fun _ => False) hb0) (fun _ h => h.elim))
    have Bp10 := Lh (Bp9.out.below hb0 Bp9.out.lt)
    have Kp10 := Lh (Kp9.out.kp (Kp.of_below' (Z := fun _ => False) hb0) (fun _ h => h.elim))
    have Vp10 := Lh ((Kp.of_below' (Z := fun _ => False) hb0).nv Vp9.out (fun _ _ _ h => h))
    have Sp10 := Lh (show nb + 2 ≤ Wp10.heap.size by have h1 := Zp10.out.lt; have h2 := Gp9.out.fit; omega)
    rw [hW, hgz]
    clear hW hb0 hgz
    try (refine hk hK ?_; clear hK K)
    refine r1 7 (fun K hK => ?_)
    have HOW : Wp10.ownsRow (nb + 2) 25 4 (.slice A0 M0 c0) M0 xs := by have h := Kp10.out.own; rw [← HL.out] at h; exact h
    obtain ⟨i0, hi0, hz0, hz1, hz2⟩ := info_parts25
    refine wp_append_lies Wp10 (.tmp 52) (.tmp 57) 23 rfl (nb + 2) 25 i0 ZN 4 56 Tryd.underlying23 hi0 hz0 hz1 hz2 rfl (by decide) (.slice A0 M0 c0) M0 xs rfl HOW ⟨gzp10, 0, none⟩ 1 1 (NC kp9 tp9 zp9 (.slice Ap9 lp9.length cp9)) rfl rfl Zp10.out.at (nc_one _ _ _ _ _ _) (by decide) (by have := HLb.out; unfold maxLen; omega) (by have := HLb.out; omega) Sp10.out _ rfl ?_
    intro g2p11 capp11 Wp11 hown hgrow hat hlt
    have Pp11 := Lh (push_one Gp10.out Bp10.out Kp10.out Vp10.out (by rw [← HL.out]; exact HLb.out) (by rw [← HL.out]; exact hown) hgrow hat)
    rw [← HL.out] at Pp11
    have hn3 := Pp11.out.2.2.2.cell 3; have fn3 := Pp11.out.2.2.2.frozen 3
    unfold NC at hn3
    simp only [g0, gs] at hn3
    clear hown hgrow hat hlt HOW hi0 hz0 hz1 hz2
    try (refine hk hK ?_; clear hK K)
    refine tg 8 (.pointer (some ⟨nb, 3, none⟩)) ?_
    refine r1 9 (fun K hK => ?_)
    go_simp
    clear hn3 fn3
    obtain ⟨wq, hwq⟩ : ∃ W', Wp11.setCell ⟨nb, 3, none⟩ (.slice (some ⟨g2p11, 0, none⟩) (M0 + 1) capp11) = W' := ⟨_, rfl⟩
    rw [hwq] at Pp11 ⊢
    have HP := Lh (And.intro Pp11.out.1 (And.intro Pp11.out.2.1 Pp11.out.2.2.1))
    have HF := Fp9
    clear hwq Pp11
    try (refine hk hK ?_; clear hK K)
    refine wpAny_done (by kernel_rfl) ?_ _
    try simp only [zp, zn, zu, zv, zw]
    have Gq := Lh HP.out.1
    have Bq := Lh HP.out.2.1
    have Kq := Lh HP.out.2.2
    clear HP
    have b0 := Bq.out.cell 0
    unfold NC at b0
    simp only [g0, gs] at b0
    have HCt := Lh (take_any Gq.out.m (by have h1 := Fx1.out.hi; have h2 := HI.out; have h3 := HKo.out; have h4 := Fp9.out.hi; simp only [Kv] at h1; omega) 2 (by omega) (by omega))
    go_wp2_with fail
    refine HCt.out.mono ?_
    rintro e wt ⟨rt, hrt, _, rfl, hm, hk⟩
    have Gt := Lh (Gq.out.call hm hk)
    have Bt0 := Lh (hk.blk Bq.out (by obtain ⟨q1, q2, q3, q4⟩ := Gq.out.h; omega))
    have Kt := Lh (Kq.out.kp hk (fun j e => by obtain ⟨q1, q2, q3, q4⟩ := Gq.out.h; omega))
    clear hm hk b0 HCt
    obtain hrt0 | hrt0 : rt = 0 ∨ rt = 1 := by omega
    ·
     subst hrt0
     clear hrt
     go_upto_region 16 with fail
     obtain ⟨A9, M9, c9, m9, x9, HL9, HKR9, HBk9, HML9⟩ : ∃ (A0 : Option Addr) (M0 c0 : Nat) (ml : List Nd) (xs : List Value), Hid (M0 = ml.length) ∧ Hid (KR wt nb (.slice A0 M0 c0) ml xs) ∧ Hid (Blk wt nb 25 (NC 11 [] 0 (.slice A0 M0 c0))) ∧ Hid (ml = [.mk kx1 sx1 zx1 lx1, .mk kp9 tp9 zp9 lp9]) := ⟨some ⟨g2p11, 0, none⟩, M0 + 1, capp11, _, _, Lh (by rw [HL.out]; simp), Kt, Bt0, Lh (by rw [HML.out]; rfl)⟩
     have HL9b := Lh (show M9 + 1 ≤ 8589934592 by have h1 := HL9.out; rw [HML9.out] at h1; simp at h1; omega)
     have HC9 := Lh (fun W (hW : MS g W (.slice A L.length c) L (jp9 + 1)) => HSome.out e0 HE.out W (jp9 + 1) hW (by have h1 := Fx1.out.hi; have h2 := HI.out; have h3 := HKo.out; have h4 := Fp9.out.hi; simp only [Kv] at h1; omega))
     clear Gq Bq Kq Kt Bt0 HF HC HKR HBk
     refine wp_region_any (by kernel_rfl) ?_
     change wpAny _ _ _ _ _ _ _ (World.drew wt)
     have Gd := Lh (Gt.out.keep (Kp.drew (fun _ => False) wt) (fun _ h => h.elim))
     have Bd := Lh (HBk9.out.drew)
     have Kd := Lh (HKR9.out.kp (Kp.drew (fun _ => False) wt) (fun _ h => h.elim))
     generalize World.drew wt = wdp at Gd Bd Kd ⊢
     refine tg 0 (.pointer (some ⟨nb, 3, none⟩)) ?_
     refine tg 2 (pt g) ?_
     refine tg 3 (nv d) ?_
     refine tg 4 (nv e0) ?_
     refine rm [1, 5] (ac (fun K hK => ?_) (ac (fun K hK => ?_) AllReady.nil))
     ·
      have e3 := Bd.out.cell 3
      unfold NC at e3
      simp only [g0, gs] at e3
      go_simp
      clear e3
      try (refine hk hK ?_; clear hK K)
      refine r1 5 (fun K hK => ?_)
      go_simp
      refine (HC9.out _ Gd.out.m).mono ?_
      rintro e Wq5 ⟨nq5, jq5, csq5, rfl, hf, hm, hv, hk, hs⟩
      obtain ⟨kq5, tq5, zq5, lq5⟩ := nq5
      obtain ⟨Aq5, cq5, ysq5, hcs, _⟩ := hv.form
      subst hcs
      have Fq5 := Lh hf
      have Gq5 := Lh (Gd.out.call hm hk)
      have Kq5 := Lh (Kd.out.kp hk (fun j e => by obtain ⟨q1, q2, q3, q4⟩ := Gd.out.h; omega))
      have Bq5 := Lh (hk.blk Bd.out (by obtain ⟨q1, q2, q3, q4⟩ := Gd.out.h; omega))
      have Vq5 := Lh (kid_far hv Kd.out hk Gd.out.fit)
      clear hf hm hv hk hs
      dsimp only [NC]
      go_wp2_with fail
      try (refine hk hK ?_; clear hK K)
      refine r1 6 (fun K hK => ?_)
      refine wp_bs (vs := #[(0, .agg #[.int .i64 kq5, .string ⟨tq5.toArray⟩, .int .i64 zq5, .slice Aq5 lq5.length cq5])]) rfl (by simp [Act.eval]) (bs1 _ _ _ _ _ _ _) ?_
      obtain ⟨Wq6, hW⟩ : ∃ W', Wq5.alloc (.cells #[.int .i64 kq5, .string ⟨tq5.toArray⟩, .int .i64 zq5, .slice Aq5 lq5.length cq5] 25) = W' := ⟨_, rfl⟩
      obtain ⟨gzq6, hgz⟩ : ∃ z, Wq5.heap.size = z := ⟨_, rfl⟩
      have hb0 : Below Wq5.heap.size Wq5 Wq6 := by rw [← hW]; exact (Below.refl _ _).alloc (Nat.le_refl _) _
      have Zq6 := Lh (show Blk Wq6 gzq6 25 (NC kq5 tq5 zq5 (.slice Aq5 lq5.length cq5)) by rw [← hW, ← hgz]; exact Blk.new _ _ _)
      have Gq6 := Lh (Gq5.out.keep (Kp.of_below' (Z := fun _ => False) hb0) (fun _ h => h.elim))
      have Bq6 := Lh (Bq5.out.below hb0 Bq5.out.lt)
      have Kq6 := Lh (Kq5.out.kp (Kp.of_below' (Z := fun _ => False) hb0) (fun _ h => h.elim))
      have Vq6 := Lh ((Kp.of_below' (Z := fun _ => False) hb0).nv Vq5.out (fun _ _ _ h => h))
      have Sq6 := Lh (show nb + 2 ≤ Wq6.heap.size by have h1 := Zq6.out.lt; have h2 := Gq5.out.fit; omega)
      rw [hW, hgz]
      clear hW hb0 hgz
      try (refine hk hK ?_; clear hK K)
      refine r1 7 (fun K hK => ?_)
      have HOW : Wq6.ownsRow (nb + 2) 25 4 (.slice A9 M9 c9) M9 x9 := by have h := Kq6.out.own; rw [← HL9.out] at h; exact h
      obtain ⟨i0, hi0, hz0, hz1, hz2⟩ := info_parts25
      refine wp_append_lies Wq6 (.tmp 69) (.tmp 74) 23 rfl (nb + 2) 25 i0 ZN 4 56 Tryd.underlying23 hi0 hz0 hz1 hz2 rfl (by decide) (.slice A9 M9 c9) M9 x9 rfl HOW ⟨gzq6, 0, none⟩ 1 1 (NC kq5 tq5 zq5 (.slice Aq5 lq5.length cq5)) rfl rfl Zq6.out.at (nc_one _ _ _ _ _ _) (by decide) (by have := HL9b.out; unfold maxLen; omega) (by have := HL9b.out; omega) Sq6.out _ rfl ?_
      intro g2q7 capq7 Wq7 hown hgrow hat hlt
      have Pq7 := Lh (push_one Gq6.out Bq6.out Kq6.out Vq6.out (by rw [← HL9.out]; exact HL9b.out) (by rw [← HL9.out]; exact hown) hgrow hat)
      rw [← HL9.out] at Pq7
      have hn3 := Pq7.out.2.2.2.cell 3; have fn3 := Pq7.out.2.2.2.frozen 3
      unfold NC at hn3
      simp only [g0, gs] at hn3
      clear hown hgrow hat hlt HOW hi0 hz0 hz1 hz2
      try (refine hk hK ?_; clear hK K)
      refine tg 8 (.pointer (some ⟨nb, 3, none⟩)) ?_
      refine r1 9 (fun K hK => ?_)
      go_simp
      clear hn3 fn3
      obtain ⟨wq, hwq⟩ : ∃ W', Wq7.setCell ⟨nb, 3, none⟩ (.slice (some ⟨g2q7, 0, none⟩) (M9 + 1) capq7) = W' := ⟨_, rfl⟩
      rw [hwq] at Pq7 ⊢
      have HP := Lh (And.intro Pq7.out.1 (And.intro Pq7.out.2.1 Pq7.out.2.2.1))
      have HF := Fq5
      clear hwq Pq7
      try (refine hk hK ?_; clear hK K)
      refine wpAny_done (by kernel_rfl) ?_ _
      try simp only [zp, zn, zu, zv, zw]
      have Gq := Lh HP.out.1
      have Bq := Lh HP.out.2.1
      have Kq := Lh HP.out.2.2
      clear HP
      go_upto_region 41 with fail
      have HFF := Lh (show SG L.length i d (.mk 11 [] 0 (m9 ++ [.mk kq5 tq5 zq5 lq5])) jq5 by rw [HML9.out, HE.out]; exact sg_ifelse HLt.out Fx1.out Fp9.out Fq5.out)
      have Bt : Hid (Blk wq nb 25 [.int .i64 11, .string ⟨#[]⟩, .int .i64 0, .slice (some ⟨g2q7, 0, none⟩) (M9 + 1) capq7]) := Bq
      have Z3 : Hid (Blk wq wb 25 [.int .i64 0, .string ⟨#[]⟩, .int .i64 0, .slice none 0 0]) := Lh Gq.out.z
      have HV := Lh (show NV wq (fun k => wb < k) (.mk 11 [] (0) (m9 ++ [.mk kq5 tq5 zq5 lq5])) (NC 11 [] (0) (.slice (some ⟨g2q7, 0, none⟩) ((M9 + 1)) capq7)) from NV.keep (fun k h1 h2 => ⟨rfl, by obtain ⟨q1, q2, q3, q4⟩ := Gq.out.h; omega⟩) _ _ (Kq.out.nv (k := 11) (t := []) (z := 0) (fine_small (by omega) (by omega) (by omega) (by omega) (by simp))))
      have HH := Lh Gq.out.h
      go_wp2_with (first
       | (with_reducible refine wpList_load_cells rfl 25 4 size25 (.tmp 5) rfl ⟨nb, 0, none⟩ rfl [.int .i64 11, .string ⟨#[]⟩, .int .i64 0, .slice (some ⟨g2q7, 0, none⟩) (M9 + 1) capq7] rfl _ Tryd.underlying25 rfl Bt.out.at ?_)
       | (with_reducible refine wpList_store_blk rfl 25 4 size25 (.tmp 4) (.tmp 138) rfl wb [.int .i64 11, .string ⟨#[]⟩, .int .i64 0, .slice (some ⟨g2q7, 0, none⟩) (M9 + 1) capq7] rfl rfl _ Z3.out rfl rfl rfl ?_; intro w8 hb8 hk8))
      exact bodyPost_ret (v := .agg (NC 11 [] (0) (.slice (some ⟨g2q7, 0, none⟩) ((M9 + 1)) capq7)).toArray) (box_res 4 size25 rfl _ _ wb (NC 11 [] (0) (.slice (some ⟨g2q7, 0, none⟩) ((M9 + 1)) capq7)) _ rfl hb8 rfl Tryd.underlying25 rfl) rfl ⟨.mk 11 [] (0) (m9 ++ [.mk kq5 tq5 zq5 lq5]), _, _, rfl, HFF.out, Gq.out.m.kp hk8 (fun j e => by have := HH.out; omega), NV.keep (fun k h1 h2 => ⟨hk8.block k h2 (fun e => by have := HH.out; omega), by have := HH.out; omega⟩) _ _ HV.out, Gq.out.k.trans hk8 (fun k hk e => by have := HH.out; omega), by have h1 := hk8.size; have h2 := HH.out; omega⟩
     ·
      go_simp
      refine (HC9.out _ Gd.out.m).mono ?_
      rintro e Wq9 ⟨nq9, jq9, csq9, rfl, hf, hm, hv, hk, hs⟩
      obtain ⟨kq9, tq9, zq9, lq9⟩ := nq9
      obtain ⟨Aq9, cq9, ysq9, hcs, _⟩ := hv.form
      subst hcs
      have Fq9 := Lh hf
      have Gq9 := Lh (Gd.out.call hm hk)
      have Kq9 := Lh (Kd.out.kp hk (fun j e => by obtain ⟨q1, q2, q3, q4⟩ := Gd.out.h; omega))
      have Bq9 := Lh (hk.blk Bd.out (by obtain ⟨q1, q2, q3, q4⟩ := Gd.out.h; omega))
      have Vq9 := Lh (kid_far hv Kd.out hk Gd.out.fit)
      clear hf hm hv hk hs
      dsimp only [NC]
      go_wp2_with fail
      try (refine hk hK ?_; clear hK K)
      refine rm [1, 6] (ac (fun K hK => ?_) (ac (fun K hK => ?_) AllReady.nil))
      ·
       have e3 := Bq9.out.cell 3
       unfold NC at e3
       simp only [g0, gs] at e3
       go_simp
       clear e3
       try (refine hk hK ?_; clear hK K)
       refine r1 6 (fun K hK => ?_)
       refine wp_bs (vs := #[(0, .agg #[.int .i64 kq9, .string ⟨tq9.toArray⟩, .int .i64 zq9, .slice Aq9 lq9.length cq9])]) rfl (by simp [Act.eval]) (bs1 _ _ _ _ _ _ _) ?_
       obtain ⟨Wq10, hW⟩ : ∃ W', Wq9.alloc (.cells #[.int .i64 kq9, .string ⟨tq9.toArray⟩, .int .i64 zq9, .slice Aq9 lq9.length cq9] 25) = W' := ⟨_, rfl⟩
       obtain ⟨gzq10, hgz⟩ : ∃ z, Wq9.heap.size = z := ⟨_, rfl⟩
       have hb0 : Below Wq9.heap.size Wq9 Wq10 := by rw [← hW]; exact (Below.refl _ _).alloc (Nat.le_refl _) _
       have Zq10 := Lh (show Blk Wq10 gzq10 25 (NC kq9 tq9 zq9 (.slice Aq9 lq9.length cq9)) by rw [← hW, ← hgz]; exact Blk.new _ _ _)
       have Gq10 := Lh (Gq9.out.keep (Kp.of_below' (Z := fun _ => False) hb0) (fun _ h => h.elim))
       have Bq10 := Lh (Bq9.out.below hb0 Bq9.out.lt)
       have Kq10 := Lh (Kq9.out.kp (Kp.of_below' (Z := fun _ => False) hb0) (fun _ h => h.elim))
       have Vq10 := Lh ((Kp.of_below' (Z := fun _ => False) hb0).nv Vq9.out (fun _ _ _ h => h))
       have Sq10 := Lh (show nb + 2 ≤ Wq10.heap.size by have h1 := Zq10.out.lt; have h2 := Gq9.out.fit; omega)
       rw [hW, hgz]
       clear hW hb0 hgz
       try (refine hk hK ?_; clear hK K)
       refine r1 7 (fun K hK => ?_)
       have HOW : Wq10.ownsRow (nb + 2) 25 4 (.slice A9 M9 c9) M9 x9 := by have h := Kq10.out.own; rw [← HL9.out] at h; exact h
       obtain ⟨i0, hi0, hz0, hz1, hz2⟩ := info_parts25
       refine wp_append_lies Wq10 (.tmp 69) (.tmp 74) 23 rfl (nb + 2) 25 i0 ZN 4 56 Tryd.underlying23 hi0 hz0 hz1 hz2 rfl (by decide) (.slice A9 M9 c9) M9 x9 rfl HOW ⟨gzq10, 0, none⟩ 1 1 (NC kq9 tq9 zq9 (.slice Aq9 lq9.length cq9)) rfl rfl Zq10.out.at (nc_one _ _ _ _ _ _) (by decide) (by have := HL9b.out; unfold maxLen; omega) (by have := HL9b.out; omega) Sq10.out _ rfl ?_
       intro g2q11 capq11 Wq11 hown hgrow hat hlt
       have Pq11 := Lh (push_one Gq10.out Bq10.out Kq10.out Vq10.out (by rw [← HL9.out]; exact HL9b.out) (by rw [← HL9.out]; exact hown) hgrow hat)
       rw [← HL9.out] at Pq11
       have hn3 := Pq11.out.2.2.2.cell 3; have fn3 := Pq11.out.2.2.2.frozen 3
       unfold NC at hn3
       simp only [g0, gs] at hn3
       clear hown hgrow hat hlt HOW hi0 hz0 hz1 hz2
       try (refine hk hK ?_; clear hK K)
       refine tg 8 (.pointer (some ⟨nb, 3, none⟩)) ?_
       refine r1 9 (fun K hK => ?_)
       go_simp
       clear hn3 fn3
       obtain ⟨wq, hwq⟩ : ∃ W', Wq11.setCell ⟨nb, 3, none⟩ (.slice (some ⟨g2q11, 0, none⟩) (M9 + 1) capq11) = W' := ⟨_, rfl⟩
       rw [hwq] at Pq11 ⊢
       have HP := Lh (And.intro Pq11.out.1 (And.intro Pq11.out.2.1 Pq11.out.2.2.1))
       have HF := Fq9
       clear hwq Pq11
       try (refine hk hK ?_; clear hK K)
       refine wpAny_done (by kernel_rfl) ?_ _
       try simp only [zp, zn, zu, zv, zw]
       have Gq := Lh HP.out.1
       have Bq := Lh HP.out.2.1
       have Kq := Lh HP.out.2.2
       clear HP
       go_upto_region 41 with fail
       have HFF := Lh (show SG L.length i d (.mk 11 [] 0 (m9 ++ [.mk kq9 tq9 zq9 lq9])) jq9 by rw [HML9.out, HE.out]; exact sg_ifelse HLt.out Fx1.out Fp9.out Fq9.out)
       have Bt : Hid (Blk wq nb 25 [.int .i64 11, .string ⟨#[]⟩, .int .i64 0, .slice (some ⟨g2q11, 0, none⟩) (M9 + 1) capq11]) := Bq
       have Z3 : Hid (Blk wq wb 25 [.int .i64 0, .string ⟨#[]⟩, .int .i64 0, .slice none 0 0]) := Lh Gq.out.z
       have HV := Lh (show NV wq (fun k => wb < k) (.mk 11 [] (0) (m9 ++ [.mk kq9 tq9 zq9 lq9])) (NC 11 [] (0) (.slice (some ⟨g2q11, 0, none⟩) ((M9 + 1)) capq11)) from NV.keep (fun k h1 h2 => ⟨rfl, by obtain ⟨q1, q2, q3, q4⟩ := Gq.out.h; omega⟩) _ _ (Kq.out.nv (k := 11) (t := []) (z := 0) (fine_small (by omega) (by omega) (by omega) (by omega) (by simp))))
       have HH := Lh Gq.out.h
       go_wp2_with (first
        | (with_reducible refine wpList_load_cells rfl 25 4 size25 (.tmp 5) rfl ⟨nb, 0, none⟩ rfl [.int .i64 11, .string ⟨#[]⟩, .int .i64 0, .slice (some ⟨g2q11, 0, none⟩) (M9 + 1) capq11] rfl _ Tryd.underlying25 rfl Bt.out.at ?_)
        | (with_reducible refine wpList_store_blk rfl 25 4 size25 (.tmp 4) (.tmp 138) rfl wb [.int .i64 11, .string ⟨#[]⟩, .int .i64 0, .slice (some ⟨g2q11, 0, none⟩) (M9 + 1) capq11] rfl rfl _ Z3.out rfl rfl rfl ?_; intro w8 hb8 hk8))
       exact bodyPost_ret (v := .agg (NC 11 [] (0) (.slice (some ⟨g2q11, 0, none⟩) ((M9 + 1)) capq11)).toArray) (box_res 4 size25 rfl _ _ wb (NC 11 [] (0) (.slice (some ⟨g2q11, 0, none⟩) ((M9 + 1)) capq11)) _ rfl hb8 rfl Tryd.underlying25 rfl) rfl ⟨.mk 11 [] (0) (m9 ++ [.mk kq9 tq9 zq9 lq9]), _, _, rfl, HFF.out, Gq.out.m.kp hk8 (fun j e => by have := HH.out; omega), NV.keep (fun k h1 h2 => ⟨hk8.block k h2 (fun e => by have := HH.out; omega), by have := HH.out; omega⟩) _ _ HV.out, Gq.out.k.trans hk8 (fun k hk e => by have := HH.out; omega), by have h1 := hk8.size; have h2 := HH.out; omega⟩
      ·
       refine wp_bs (vs := #[(0, .agg #[.int .i64 kq9, .string ⟨tq9.toArray⟩, .int .i64 zq9, .slice Aq9 lq9.length cq9])]) rfl (by simp [Act.eval]) (bs1 _ _ _ _ _ _ _) ?_
       obtain ⟨Wq13, hW⟩ : ∃ W', Wq9.alloc (.cells #[.int .i64 kq9, .string ⟨tq9.toArray⟩, .int .i64 zq9, .slice Aq9 lq9.length cq9] 25) = W' := ⟨_, rfl⟩
       obtain ⟨gzq13, hgz⟩ : ∃ z, Wq9.heap.size = z := ⟨_, rfl⟩
       have hb0 : Below Wq9.heap.size Wq9 Wq13 := by rw [← hW]; exact (Below.refl _ _).alloc (Nat.le_refl _) _
       have Zq13 := Lh (show Blk Wq13 gzq13 25 (NC kq9 tq9 zq9 (.slice Aq9 lq9.length cq9)) by rw [← hW, ← hgz]; exact Blk.new _ _ _)
       have Gq13 := Lh (Gq9.out.keep (Kp.of_below' (Z := fun _ => False) hb0) (fun _ h => h.elim))
       have Bq13 := Lh (Bq9.out.below hb0 Bq9.out.lt)
       have Kq13 := Lh (Kq9.out.kp (Kp.of_below' (Z := fun _ => False) hb0) (fun _ h => h.elim))
       have Vq13 := Lh ((Kp.of_below' (Z := fun _ => False) hb0).nv Vq9.out (fun _ _ _ h => h))
       have Sq13 := Lh (show nb + 2 ≤ Wq13.heap.size by have h1 := Zq13.out.lt; have h2 := Gq9.out.fit; omega)
       rw [hW, hgz]
       clear hW hb0 hgz
       try (refine hk hK ?_; clear hK K)
       refine r1 1 (fun K hK => ?_)
       have e3 := Bq13.out.cell 3
       unfold NC at e3
       simp only [g0, gs] at e3
       go_simp
       clear e3
       try (refine hk hK ?_; clear hK K)
       refine r1 7 (fun K hK => ?_)
       have HOW : Wq13.ownsRow (nb + 2) 25 4 (.slice A9 M9 c9) M9 x9 := by have h := Kq13.out.own; rw [← HL9.out] at h; exact h
       obtain ⟨i0, hi0, hz0, hz1, hz2⟩ := info_parts25
       refine wp_append_lies Wq13 (.tmp 69) (.tmp 74) 23 rfl (nb + 2) 25 i0 ZN 4 56 Tryd.underlying23 hi0 hz0 hz1 hz2 rfl (by decide) (.slice A9 M9 c9) M9 x9 rfl HOW ⟨gzq13, 0, none⟩ 1 1 (NC kq9 tq9 zq9 (.slice Aq9 lq9.length cq9)) rfl rfl Zq13.out.at (nc_one _ _ _ _ _ _) (by decide) (by have := HL9b.out; unfold maxLen; omega) (by have := HL9b.out; omega) Sq13.out _ rfl ?_
       intro g2q14 capq14 Wq14 hown hgrow hat hlt
       have Pq14 := Lh (push_one Gq13.out Bq13.out Kq13.out Vq13.out (by rw [← HL9.out]; exact HL9b.out) (by rw [← HL9.out]; exact hown) hgrow hat)
       rw [← HL9.out] at Pq14
       have hn3 := Pq14.out.2.2.2.cell 3; have fn3 := Pq14.out.2.2.2.frozen 3
       unfold NC at hn3
       simp only [g0, gs] at hn3
       clear hown hgrow hat hlt HOW hi0 hz0 hz1 hz2
       try (refine hk hK ?_; clear hK K)
       refine tg 8 (.pointer (some ⟨nb, 3, none⟩)) ?_
       refine r1 9 (fun K hK => ?_)
       go_simp
       clear hn3 fn3
       obtain ⟨wq, hwq⟩ : ∃ W', Wq14.setCell ⟨nb, 3, none⟩ (.slice (some ⟨g2q14, 0, none⟩) (M9 + 1) capq14) = W' := ⟨_, rfl⟩
       rw [hwq] at Pq14 ⊢
       have HP := Lh (And.intro Pq14.out.1 (And.intro Pq14.out.2.1 Pq14.out.2.2.1))
       have HF := Fq9
       clear hwq Pq14
       try (refine hk hK ?_; clear hK K)
       refine wpAny_done (by kernel_rfl) ?_ _
       try simp only [zp, zn, zu, zv, zw]
       have Gq := Lh HP.out.1
       have Bq := Lh HP.out.2.1
       have Kq := Lh HP.out.2.2
       clear HP
       go_upto_region 41 with fail
       have HFF := Lh (show SG L.length i d (.mk 11 [] 0 (m9 ++ [.mk kq9 tq9 zq9 lq9])) jq9 by rw [HML9.out, HE.out]; exact sg_ifelse HLt.out Fx1.out Fp9.out Fq9.out)
       have Bt : Hid (Blk wq nb 25 [.int .i64 11, .string ⟨#[]⟩, .int .i64 0, .slice (some ⟨g2q14, 0, none⟩) (M9 + 1) capq14]) := Bq
       have Z3 : Hid (Blk wq wb 25 [.int .i64 0, .string ⟨#[]⟩, .int .i64 0, .slice none 0 0]) := Lh Gq.out.z
       have HV := Lh (show NV wq (fun k => wb < k) (.mk 11 [] (0) (m9 ++ [.mk kq9 tq9 zq9 lq9])) (NC 11 [] (0) (.slice (some ⟨g2q14, 0, none⟩) ((M9 + 1)) capq14)) from NV.keep (fun k h1 h2 => ⟨rfl, by obtain ⟨q1, q2, q3, q4⟩ := Gq.out.h; omega⟩) _ _ (Kq.out.nv (k := 11) (t := []) (z := 0) (fine_small (by omega) (by omega) (by omega) (by omega) (by simp))))
       have HH := Lh Gq.out.h
       go_wp2_with (first
        | (with_reducible refine wpList_load_cells rfl 25 4 size25 (.tmp 5) rfl ⟨nb, 0, none⟩ rfl [.int .i64 11, .string ⟨#[]⟩, .int .i64 0, .slice (some ⟨g2q14, 0, none⟩) (M9 + 1) capq14] rfl _ Tryd.underlying25 rfl Bt.out.at ?_)
        | (with_reducible refine wpList_store_blk rfl 25 4 size25 (.tmp 4) (.tmp 138) rfl wb [.int .i64 11, .string ⟨#[]⟩, .int .i64 0, .slice (some ⟨g2q14, 0, none⟩) (M9 + 1) capq14] rfl rfl _ Z3.out rfl rfl rfl ?_; intro w8 hb8 hk8))
       exact bodyPost_ret (v := .agg (NC 11 [] (0) (.slice (some ⟨g2q14, 0, none⟩) ((M9 + 1)) capq14)).toArray) (box_res 4 size25 rfl _ _ wb (NC 11 [] (0) (.slice (some ⟨g2q14, 0, none⟩) ((M9 + 1)) capq14)) _ rfl hb8 rfl Tryd.underlying25 rfl) rfl ⟨.mk 11 [] (0) (m9 ++ [.mk kq9 tq9 zq9 lq9]), _, _, rfl, HFF.out, Gq.out.m.kp hk8 (fun j e => by have := HH.out; omega), NV.keep (fun k h1 h2 => ⟨hk8.block k h2 (fun e => by have := HH.out; omega), by have := HH.out; omega⟩) _ _ HV.out, Gq.out.k.trans hk8 (fun k hk e => by have := HH.out; omega), by have h1 := hk8.size; have h2 := HH.out; omega⟩
    ·
     subst hrt0
     clear hrt
     go_upto_region 41 with fail
     have HFF := Lh (show SG L.length i d (.mk 11 [] 0 (ml ++ [.mk kp9 tp9 zp9 lp9])) (jp9 + 1) by rw [HML.out, HE.out]; exact sg_if HLt.out Fx1.out Fp9.out)
     have Bt : Hid (Blk wt nb 25 [.int .i64 11, .string ⟨#[]⟩, .int .i64 0, .slice (some ⟨g2p11, 0, none⟩) (M0 + 1) capp11]) := Bt0
     have Z3 : Hid (Blk wt wb 25 [.int .i64 0, .string ⟨#[]⟩, .int .i64 0, .slice none 0 0]) := Lh Gt.out.z
     have HV := Lh (show NV wt (fun k => wb < k) (.mk 11 [] (0) (ml ++ [.mk kp9 tp9 zp9 lp9])) (NC 11 [] (0) (.slice (some ⟨g2p11, 0, none⟩) ((M0 + 1)) capp11)) from NV.keep (fun k h1 h2 => ⟨rfl, by obtain ⟨q1, q2, q3, q4⟩ := Gt.out.h; omega⟩) _ _ (Kt.out.nv (k := 11) (t := []) (z := 0) (fine_small (by omega) (by omega) (by omega) (by omega) (by simp))))
     have HH := Lh Gt.out.h
     go_wp2_with (first
      | (with_reducible refine wpList_load_cells rfl 25 4 size25 (.tmp 5) rfl ⟨nb, 0, none⟩ rfl [.int .i64 11, .string ⟨#[]⟩, .int .i64 0, .slice (some ⟨g2p11, 0, none⟩) (M0 + 1) capp11] rfl _ Tryd.underlying25 rfl Bt.out.at ?_)
      | (with_reducible refine wpList_store_blk rfl 25 4 size25 (.tmp 4) (.tmp 138) rfl wb [.int .i64 11, .string ⟨#[]⟩, .int .i64 0, .slice (some ⟨g2p11, 0, none⟩) (M0 + 1) capp11] rfl rfl _ Z3.out rfl rfl rfl ?_; intro w8 hb8 hk8))
     exact bodyPost_ret (v := .agg (NC 11 [] (0) (.slice (some ⟨g2p11, 0, none⟩) ((M0 + 1)) capp11)).toArray) (box_res 4 size25 rfl _ _ wb (NC 11 [] (0) (.slice (some ⟨g2p11, 0, none⟩) ((M0 + 1)) capp11)) _ rfl hb8 rfl Tryd.underlying25 rfl) rfl ⟨.mk 11 [] (0) (ml ++ [.mk kp9 tp9 zp9 lp9]), _, _, rfl, HFF.out, Gt.out.m.kp hk8 (fun j e => by have := HH.out; omega), NV.keep (fun k h1 h2 => ⟨hk8.block k h2 (fun e => by have := HH.out; omega), by have := HH.out; omega⟩) _ _ HV.out, Gt.out.k.trans hk8 (fun k hk e => by have := HH.out; omega), by have h1 := hk8.size; have h2 := HH.out; omega⟩
   ·
    refine wp_bs (vs := #[(0, .agg #[.int .i64 kp9, .string ⟨tp9.toArray⟩, .int .i64 zp9, .slice Ap9 lp9.length cp9])]) rfl (by simp [Act.eval]) (bs1 _ _ _ _ _ _ _) ?_
    obtain ⟨Wp13, hW⟩ : ∃ W', Wp9.alloc (.cells #[.int .i64 kp9, .string ⟨tp9.toArray⟩, .int .i64 zp9, .slice Ap9 lp9.length cp9] 25) = W' := ⟨_, rfl⟩
    obtain ⟨gzp13, hgz⟩ : ∃ z, Wp9.heap.size = z := ⟨_, rfl⟩
    have hb0 : Below Wp9.heap.size Wp9 Wp13 := by rw [← hW]; exact (Below.refl _ _).alloc (Nat.le_refl _) _
    have Zp13 := Lh (show Blk Wp13 gzp13 25 (NC kp9 tp9 zp9 (.slice Ap9 lp9.length cp9)) by rw [← hW, ← hgz]; exact Blk.new _ _ _)
    have Gp13 := Lh (Gp9.out.keep (Kp.of_below' (Z := fun _ => False) hb0) (fun _ h => h.elim))
    have Bp13 := Lh (Bp9.out.below hb0 Bp9.out.lt)
    have Kp13 := Lh (Kp9.out.kp (Kp.of_below' (Z := fun _ => False) hb0) (fun _ h => h.elim))
    have Vp13 := Lh ((Kp.of_below' (Z := fun _ => False) hb0).nv Vp9.out (fun _ _ _ h => h))
    have Sp13 := Lh (show nb + 2 ≤ Wp13.heap.size by have h1 := Zp13.out.lt; have h2 := Gp9.out.fit; omega)
    rw [hW, hgz]
    clear hW hb0 hgz
    try (refine hk hK ?_; clear hK K)
    refine r1 1 (fun K hK => ?_)
    have e3 := Bp13.out.cell 3
    unfold NC at e3
    simp only [g0, gs] at e3
    go_simp
    clear e3
    try (refine hk hK ?_; clear hK K)
    refine r1 7 (fun K hK => ?_)
    have HOW : Wp13.ownsRow (nb + 2) 25 4 (.slice A0 M0 c0) M0 xs := by have h := Kp13.out.own; rw [← HL.out] at h; exact h
    obtain ⟨i0, hi0, hz0, hz1, hz2⟩ := info_parts25
    refine wp_append_lies Wp13 (.tmp 52) (.tmp 57) 23 rfl (nb + 2) 25 i0 ZN 4 56 Tryd.underlying23 hi0 hz0 hz1 hz2 rfl (by decide) (.slice A0 M0 c0) M0 xs rfl HOW ⟨gzp13, 0, none⟩ 1 1 (NC kp9 tp9 zp9 (.slice Ap9 lp9.length cp9)) rfl rfl Zp13.out.at (nc_one _ _ _ _ _ _) (by decide) (by have := HLb.out; unfold maxLen; omega) (by have := HLb.out; omega) Sp13.out _ rfl ?_
    intro g2p14 capp14 Wp14 hown hgrow hat hlt
    have Pp14 := Lh (push_one Gp13.out Bp13.out Kp13.out Vp13.out (by rw [← HL.out]; exact HLb.out) (by rw [← HL.out]; exact hown) hgrow hat)
    rw [← HL.out] at Pp14
    have hn3 := Pp14.out.2.2.2.cell 3; have fn3 := Pp14.out.2.2.2.frozen 3
    unfold NC at hn3
    simp only [g0, gs] at hn3
    clear hown hgrow hat hlt HOW hi0 hz0 hz1 hz2
    try (refine hk hK ?_; clear hK K)
    refine tg 8 (.pointer (some ⟨nb, 3, none⟩)) ?_
    refine r1 9 (fun K hK => ?_)
    go_simp
    clear hn3 fn3
    obtain ⟨wq, hwq⟩ : ∃ W', Wp14.setCell ⟨nb, 3, none⟩ (.slice (some ⟨g2p14, 0, none⟩) (M0 + 1) capp14) = W' := ⟨_, rfl⟩
    rw [hwq] at Pp14 ⊢
    have HP := Lh (And.intro Pp14.out.1 (And.intro Pp14.out.2.1 Pp14.out.2.2.1))
    have HF := Fp9
    clear hwq Pp14
    try (refine hk hK ?_; clear hK K)
    refine wpAny_done (by kernel_rfl) ?_ _
    try simp only [zp, zn, zu, zv, zw]
    have Gq := Lh HP.out.1
    have Bq := Lh HP.out.2.1
    have Kq := Lh HP.out.2.2
    clear HP
    have b0 := Bq.out.cell 0
    unfold NC at b0
    simp only [g0, gs] at b0
    have HCt := Lh (take_any Gq.out.m (by have h1 := Fx1.out.hi; have h2 := HI.out; have h3 := HKo.out; have h4 := Fp9.out.hi; simp only [Kv] at h1; omega) 2 (by omega) (by omega))
    go_wp2_with fail
    refine HCt.out.mono ?_
    rintro e wt ⟨rt, hrt, _, rfl, hm, hk⟩
    have Gt := Lh (Gq.out.call hm hk)
    have Bt0 := Lh (hk.blk Bq.out (by obtain ⟨q1, q2, q3, q4⟩ := Gq.out.h; omega))
    have Kt := Lh (Kq.out.kp hk (fun j e => by obtain ⟨q1, q2, q3, q4⟩ := Gq.out.h; omega))
    clear hm hk b0 HCt
    obtain hrt0 | hrt0 : rt = 0 ∨ rt = 1 := by omega
    ·
     subst hrt0
     clear hrt
     go_upto_region 16 with fail
     obtain ⟨A9, M9, c9, m9, x9, HL9, HKR9, HBk9, HML9⟩ : ∃ (A0 : Option Addr) (M0 c0 : Nat) (ml : List Nd) (xs : List Value), Hid (M0 = ml.length) ∧ Hid (KR wt nb (.slice A0 M0 c0) ml xs) ∧ Hid (Blk wt nb 25 (NC 11 [] 0 (.slice A0 M0 c0))) ∧ Hid (ml = [.mk kx1 sx1 zx1 lx1, .mk kp9 tp9 zp9 lp9]) := ⟨some ⟨g2p14, 0, none⟩, M0 + 1, capp14, _, _, Lh (by rw [HL.out]; simp), Kt, Bt0, Lh (by rw [HML.out]; rfl)⟩
     have HL9b := Lh (show M9 + 1 ≤ 8589934592 by have h1 := HL9.out; rw [HML9.out] at h1; simp at h1; omega)
     have HC9 := Lh (fun W (hW : MS g W (.slice A L.length c) L (jp9 + 1)) => HSome.out e0 HE.out W (jp9 + 1) hW (by have h1 := Fx1.out.hi; have h2 := HI.out; have h3 := HKo.out; have h4 := Fp9.out.hi; simp only [Kv] at h1; omega))
     clear Gq Bq Kq Kt Bt0 HF HC HKR HBk
     refine wp_region_any (by kernel_rfl) ?_
     change wpAny _ _ _ _ _ _ _ (World.drew wt)
     have Gd := Lh (Gt.out.keep (Kp.drew (fun _ => False) wt) (fun _ h => h.elim))
     have Bd := Lh (HBk9.out.drew)
     have Kd := Lh (HKR9.out.kp (Kp.drew (fun _ => False) wt) (fun _ h => h.elim))
     generalize World.drew wt = wdp at Gd Bd Kd ⊢
     refine tg 0 (.pointer (some ⟨nb, 3, none⟩)) ?_
     refine tg 2 (pt g) ?_
     refine tg 3 (nv d) ?_
     refine tg 4 (nv e0) ?_
     refine rm [1, 5] (ac (fun K hK => ?_) (ac (fun K hK => ?_) AllReady.nil))
     ·
      have e3 := Bd.out.cell 3
      unfold NC at e3
      simp only [g0, gs] at e3
      go_simp
      clear e3
      try (refine hk hK ?_; clear hK K)
      refine r1 5 (fun K hK => ?_)
      go_simp
      refine (HC9.out _ Gd.out.m).mono ?_
      rintro e Wq5 ⟨nq5, jq5, csq5, rfl, hf, hm, hv, hk, hs⟩
      obtain ⟨kq5, tq5, zq5, lq5⟩ := nq5
      obtain ⟨Aq5, cq5, ysq5, hcs, _⟩ := hv.form
      subst hcs
      have Fq5 := Lh hf
      have Gq5 := Lh (Gd.out.call hm hk)
      have Kq5 := Lh (Kd.out.kp hk (fun j e => by obtain ⟨q1, q2, q3, q4⟩ := Gd.out.h; omega))
      have Bq5 := Lh (hk.blk Bd.out (by obtain ⟨q1, q2, q3, q4⟩ := Gd.out.h; omega))
      have Vq5 := Lh (kid_far hv Kd.out hk Gd.out.fit)
      clear hf hm hv hk hs
      dsimp only [NC]
      go_wp2_with fail
      try (refine hk hK ?_; clear hK K)
      refine r1 6 (fun K hK => ?_)
      refine wp_bs (vs := #[(0, .agg #[.int .i64 kq5, .string ⟨tq5.toArray⟩, .int .i64 zq5, .slice Aq5 lq5.length cq5])]) rfl (by simp [Act.eval]) (bs1 _ _ _ _ _ _ _) ?_
      obtain ⟨Wq6, hW⟩ : ∃ W', Wq5.alloc (.cells #[.int .i64 kq5, .string ⟨tq5.toArray⟩, .int .i64 zq5, .slice Aq5 lq5.length cq5] 25) = W' := ⟨_, rfl⟩
      obtain ⟨gzq6, hgz⟩ : ∃ z, Wq5.heap.size = z := ⟨_, rfl⟩
      have hb0 : Below Wq5.heap.size Wq5 Wq6 := by rw [← hW]; exact (Below.refl _ _).alloc (Nat.le_refl _) _
      have Zq6 := Lh (show Blk Wq6 gzq6 25 (NC kq5 tq5 zq5 (.slice Aq5 lq5.length cq5)) by rw [← hW, ← hgz]; exact Blk.new _ _ _)
      have Gq6 := Lh (Gq5.out.keep (Kp.of_below' (Z := fun _ => False) hb0) (fun _ h => h.elim))
      have Bq6 := Lh (Bq5.out.below hb0 Bq5.out.lt)
      have Kq6 := Lh (Kq5.out.kp (Kp.of_below' (Z := fun _ => False) hb0) (fun _ h => h.elim))
      have Vq6 := Lh ((Kp.of_below' (Z := fun _ => False) hb0).nv Vq5.out (fun _ _ _ h => h))
      have Sq6 := Lh (show nb + 2 ≤ Wq6.heap.size by have h1 := Zq6.out.lt; have h2 := Gq5.out.fit; omega)
      rw [hW, hgz]
      clear hW hb0 hgz
      try (refine hk hK ?_; clear hK K)
      refine r1 7 (fun K hK => ?_)
      have HOW : Wq6.ownsRow (nb + 2) 25 4 (.slice A9 M9 c9) M9 x9 := by have h := Kq6.out.own; rw [← HL9.out] at h; exact h
      obtain ⟨i0, hi0, hz0, hz1, hz2⟩ := info_parts25
      refine wp_append_lies Wq6 (.tmp 69) (.tmp 74) 23 rfl (nb + 2) 25 i0 ZN 4 56 Tryd.underlying23 hi0 hz0 hz1 hz2 rfl (by decide) (.slice A9 M9 c9) M9 x9 rfl HOW ⟨gzq6, 0, none⟩ 1 1 (NC kq5 tq5 zq5 (.slice Aq5 lq5.length cq5)) rfl rfl Zq6.out.at (nc_one _ _ _ _ _ _) (by decide) (by have := HL9b.out; unfold maxLen; omega) (by have := HL9b.out; omega) Sq6.out _ rfl ?_
      intro g2q7 capq7 Wq7 hown hgrow hat hlt
      have Pq7 := Lh (push_one Gq6.out Bq6.out Kq6.out Vq6.out (by rw [← HL9.out]; exact HL9b.out) (by rw [← HL9.out]; exact hown) hgrow hat)
      rw [← HL9.out] at Pq7
      have hn3 := Pq7.out.2.2.2.cell 3; have fn3 := Pq7.out.2.2.2.frozen 3
      unfold NC at hn3
      simp only [g0, gs] at hn3
      clear hown hgrow hat hlt HOW hi0 hz0 hz1 hz2
      try (refine hk hK ?_; clear hK K)
      refine tg 8 (.pointer (some ⟨nb, 3, none⟩)) ?_
      refine r1 9 (fun K hK => ?_)
      go_simp
      clear hn3 fn3
      obtain ⟨wq, hwq⟩ : ∃ W', Wq7.setCell ⟨nb, 3, none⟩ (.slice (some ⟨g2q7, 0, none⟩) (M9 + 1) capq7) = W' := ⟨_, rfl⟩
      rw [hwq] at Pq7 ⊢
      have HP := Lh (And.intro Pq7.out.1 (And.intro Pq7.out.2.1 Pq7.out.2.2.1))
      have HF := Fq5
      clear hwq Pq7
      try (refine hk hK ?_; clear hK K)
      refine wpAny_done (by kernel_rfl) ?_ _
      try simp only [zp, zn, zu, zv, zw]
      have Gq := Lh HP.out.1
      have Bq := Lh HP.out.2.1
      have Kq := Lh HP.out.2.2
      clear HP
      go_upto_region 41 with fail
      have HFF := Lh (show SG L.length i d (.mk 11 [] 0 (m9 ++ [.mk kq5 tq5 zq5 lq5])) jq5 by rw [HML9.out, HE.out]; exact sg_ifelse HLt.out Fx1.out Fp9.out Fq5.out)
      have Bt : Hid (Blk wq nb 25 [.int .i64 11, .string ⟨#[]⟩, .int .i64 0, .slice (some ⟨g2q7, 0, none⟩) (M9 + 1) capq7]) := Bq
      have Z3 : Hid (Blk wq wb 25 [.int .i64 0, .string ⟨#[]⟩, .int .i64 0, .slice none 0 0]) := Lh Gq.out.z
      have HV := Lh (show NV wq (fun k => wb < k) (.mk 11 [] (0) (m9 ++ [.mk kq5 tq5 zq5 lq5])) (NC 11 [] (0) (.slice (some ⟨g2q7, 0, none⟩) ((M9 + 1)) capq7)) from NV.keep (fun k h1 h2 => ⟨rfl, by obtain ⟨q1, q2, q3, q4⟩ := Gq.out.h; omega⟩) _ _ (Kq.out.nv (k := 11) (t := []) (z := 0) (fine_small (by omega) (by omega) (by omega) (by omega) (by simp))))
      have HH := Lh Gq.out.h
      go_wp2_with (first
       | (with_reducible refine wpList_load_cells rfl 25 4 size25 (.tmp 5) rfl ⟨nb, 0, none⟩ rfl [.int .i64 11, .string ⟨#[]⟩, .int .i64 0, .slice (some ⟨g2q7, 0, none⟩) (M9 + 1) capq7] rfl _ Tryd.underlying25 rfl Bt.out.at ?_)
       | (with_reducible refine wpList_store_blk rfl 25 4 size25 (.tmp 4) (.tmp 138) rfl wb [.int .i64 11, .string ⟨#[]⟩, .int .i64 0, .slice (some ⟨g2q7, 0, none⟩) (M9 + 1) capq7] rfl rfl _ Z3.out rfl rfl rfl ?_; intro w8 hb8 hk8))
      exact bodyPost_ret (v := .agg (NC 11 [] (0) (.slice (some ⟨g2q7, 0, none⟩) ((M9 + 1)) capq7)).toArray) (box_res 4 size25 rfl _ _ wb (NC 11 [] (0) (.slice (some ⟨g2q7, 0, none⟩) ((M9 + 1)) capq7)) _ rfl hb8 rfl Tryd.underlying25 rfl) rfl ⟨.mk 11 [] (0) (m9 ++ [.mk kq5 tq5 zq5 lq5]), _, _, rfl, HFF.out, Gq.out.m.kp hk8 (fun j e => by have := HH.out; omega), NV.keep (fun k h1 h2 => ⟨hk8.block k h2 (fun e => by have := HH.out; omega), by have := HH.out; omega⟩) _ _ HV.out, Gq.out.k.trans hk8 (fun k hk e => by have := HH.out; omega), by have h1 := hk8.size; have h2 := HH.out; omega⟩
     ·
      go_simp
      refine (HC9.out _ Gd.out.m).mono ?_
      rintro e Wq9 ⟨nq9, jq9, csq9, rfl, hf, hm, hv, hk, hs⟩
      obtain ⟨kq9, tq9, zq9, lq9⟩ := nq9
      obtain ⟨Aq9, cq9, ysq9, hcs, _⟩ := hv.form
      subst hcs
      have Fq9 := Lh hf
      have Gq9 := Lh (Gd.out.call hm hk)
      have Kq9 := Lh (Kd.out.kp hk (fun j e => by obtain ⟨q1, q2, q3, q4⟩ := Gd.out.h; omega))
      have Bq9 := Lh (hk.blk Bd.out (by obtain ⟨q1, q2, q3, q4⟩ := Gd.out.h; omega))
      have Vq9 := Lh (kid_far hv Kd.out hk Gd.out.fit)
      clear hf hm hv hk hs
      dsimp only [NC]
      go_wp2_with fail
      try (refine hk hK ?_; clear hK K)
      refine rm [1, 6] (ac (fun K hK => ?_) (ac (fun K hK => ?_) AllReady.nil))
      ·
       have e3 := Bq9.out.cell 3
       unfold NC at e3
       simp only [g0, gs] at e3
       go_simp
       clear e3
       try (refine hk hK ?_; clear hK K)
       refine r1 6 (fun K hK => ?_)
       refine wp_bs (vs := #[(0, .agg #[.int .i64 kq9, .string ⟨tq9.toArray⟩, .int .i64 zq9, .slice Aq9 lq9.length cq9])]) rfl (by simp [Act.eval]) (bs1 _ _ _ _ _ _ _) ?_
       obtain ⟨Wq10, hW⟩ : ∃ W', Wq9.alloc (.cells #[.int .i64 kq9, .string ⟨tq9.toArray⟩, .int .i64 zq9, .slice Aq9 lq9.length cq9] 25) = W' := ⟨_, rfl⟩
       obtain ⟨gzq10, hgz⟩ : ∃ z, Wq9.heap.size = z := ⟨_, rfl⟩
       have hb0 : Below Wq9.heap.size Wq9 Wq10 := by rw [← hW]; exact (Below.refl _ _).alloc (Nat.le_refl _) _
       have Zq10 := Lh (show Blk Wq10 gzq10 25 (NC kq9 tq9 zq9 (.slice Aq9 lq9.length cq9)) by rw [← hW, ← hgz]; exact Blk.new _ _ _)
       have Gq10 := Lh (Gq9.out.keep (Kp.of_below' (Z := fun _ => False) hb0) (fun _ h => h.elim))
       have Bq10 := Lh (Bq9.out.below hb0 Bq9.out.lt)
       have Kq10 := Lh (Kq9.out.kp (Kp.of_below' (Z := fun _ => False) hb0) (fun _ h => h.elim))
       have Vq10 := Lh ((Kp.of_below' (Z := fun _ => False) hb0).nv Vq9.out (fun _ _ _ h => h))
       have Sq10 := Lh (show nb + 2 ≤ Wq10.heap.size by have h1 := Zq10.out.lt; have h2 := Gq9.out.fit; omega)
       rw [hW, hgz]
       clear hW hb0 hgz
       try (refine hk hK ?_; clear hK K)
       refine r1 7 (fun K hK => ?_)
       have HOW : Wq10.ownsRow (nb + 2) 25 4 (.slice A9 M9 c9) M9 x9 := by have h := Kq10.out.own; rw [← HL9.out] at h; exact h
       obtain ⟨i0, hi0, hz0, hz1, hz2⟩ := info_parts25
       refine wp_append_lies Wq10 (.tmp 69) (.tmp 74) 23 rfl (nb + 2) 25 i0 ZN 4 56 Tryd.underlying23 hi0 hz0 hz1 hz2 rfl (by decide) (.slice A9 M9 c9) M9 x9 rfl HOW ⟨gzq10, 0, none⟩ 1 1 (NC kq9 tq9 zq9 (.slice Aq9 lq9.length cq9)) rfl rfl Zq10.out.at (nc_one _ _ _ _ _ _) (by decide) (by have := HL9b.out; unfold maxLen; omega) (by have := HL9b.out; omega) Sq10.out _ rfl ?_
       intro g2q11 capq11 Wq11 hown hgrow hat hlt
       have Pq11 := Lh (push_one Gq10.out Bq10.out Kq10.out Vq10.out (by rw [← HL9.out]; exact HL9b.out) (by rw [← HL9.out]; exact hown) hgrow hat)
       rw [← HL9.out] at Pq11
       have hn3 := Pq11.out.2.2.2.cell 3; have fn3 := Pq11.out.2.2.2.frozen 3
       unfold NC at hn3
       simp only [g0, gs] at hn3
       clear hown hgrow hat hlt HOW hi0 hz0 hz1 hz2
       try (refine hk hK ?_; clear hK K)
       refine tg 8 (.pointer (some ⟨nb, 3, none⟩)) ?_
       refine r1 9 (fun K hK => ?_)
       go_simp
       clear hn3 fn3
       obtain ⟨wq, hwq⟩ : ∃ W', Wq11.setCell ⟨nb, 3, none⟩ (.slice (some ⟨g2q11, 0, none⟩) (M9 + 1) capq11) = W' := ⟨_, rfl⟩
       rw [hwq] at Pq11 ⊢
       have HP := Lh (And.intro Pq11.out.1 (And.intro Pq11.out.2.1 Pq11.out.2.2.1))
       have HF := Fq9
       clear hwq Pq11
       try (refine hk hK ?_; clear hK K)
       refine wpAny_done (by kernel_rfl) ?_ _
       try simp only [zp, zn, zu, zv, zw]
       have Gq := Lh HP.out.1
       have Bq := Lh HP.out.2.1
       have Kq := Lh HP.out.2.2
       clear HP
       go_upto_region 41 with fail
       have HFF := Lh (show SG L.length i d (.mk 11 [] 0 (m9 ++ [.mk kq9 tq9 zq9 lq9])) jq9 by rw [HML9.out, HE.out]; exact sg_ifelse HLt.out Fx1.out Fp9.out Fq9.out)
       have Bt : Hid (Blk wq nb 25 [.int .i64 11, .string ⟨#[]⟩, .int .i64 0, .slice (some ⟨g2q11, 0, none⟩) (M9 + 1) capq11]) := Bq
       have Z3 : Hid (Blk wq wb 25 [.int .i64 0, .string ⟨#[]⟩, .int .i64 0, .slice none 0 0]) := Lh Gq.out.z
       have HV := Lh (show NV wq (fun k => wb < k) (.mk 11 [] (0) (m9 ++ [.mk kq9 tq9 zq9 lq9])) (NC 11 [] (0) (.slice (some ⟨g2q11, 0, none⟩) ((M9 + 1)) capq11)) from NV.keep (fun k h1 h2 => ⟨rfl, by obtain ⟨q1, q2, q3, q4⟩ := Gq.out.h; omega⟩) _ _ (Kq.out.nv (k := 11) (t := []) (z := 0) (fine_small (by omega) (by omega) (by omega) (by omega) (by simp))))
       have HH := Lh Gq.out.h
       go_wp2_with (first
        | (with_reducible refine wpList_load_cells rfl 25 4 size25 (.tmp 5) rfl ⟨nb, 0, none⟩ rfl [.int .i64 11, .string ⟨#[]⟩, .int .i64 0, .slice (some ⟨g2q11, 0, none⟩) (M9 + 1) capq11] rfl _ Tryd.underlying25 rfl Bt.out.at ?_)
        | (with_reducible refine wpList_store_blk rfl 25 4 size25 (.tmp 4) (.tmp 138) rfl wb [.int .i64 11, .string ⟨#[]⟩, .int .i64 0, .slice (some ⟨g2q11, 0, none⟩) (M9 + 1) capq11] rfl rfl _ Z3.out rfl rfl rfl ?_; intro w8 hb8 hk8))
       exact bodyPost_ret (v := .agg (NC 11 [] (0) (.slice (some ⟨g2q11, 0, none⟩) ((M9 + 1)) capq11)).toArray) (box_res 4 size25 rfl _ _ wb (NC 11 [] (0) (.slice (some ⟨g2q11, 0, none⟩) ((M9 + 1)) capq11)) _ rfl hb8 rfl Tryd.underlying25 rfl) rfl ⟨.mk 11 [] (0) (m9 ++ [.mk kq9 tq9 zq9 lq9]), _, _, rfl, HFF.out, Gq.out.m.kp hk8 (fun j e => by have := HH.out; omega), NV.keep (fun k h1 h2 => ⟨hk8.block k h2 (fun e => by have := HH.out; omega), by have := HH.out; omega⟩) _ _ HV.out, Gq.out.k.trans hk8 (fun k hk e => by have := HH.out; omega), by have h1 := hk8.size; have h2 := HH.out; omega⟩
      ·
       refine wp_bs (vs := #[(0, .agg #[.int .i64 kq9, .string ⟨tq9.toArray⟩, .int .i64 zq9, .slice Aq9 lq9.length cq9])]) rfl (by simp [Act.eval]) (bs1 _ _ _ _ _ _ _) ?_
       obtain ⟨Wq13, hW⟩ : ∃ W', Wq9.alloc (.cells #[.int .i64 kq9, .string ⟨tq9.toArray⟩, .int .i64 zq9, .slice Aq9 lq9.length cq9] 25) = W' := ⟨_, rfl⟩
       obtain ⟨gzq13, hgz⟩ : ∃ z, Wq9.heap.size = z := ⟨_, rfl⟩
       have hb0 : Below Wq9.heap.size Wq9 Wq13 := by rw [← hW]; exact (Below.refl _ _).alloc (Nat.le_refl _) _
       have Zq13 := Lh (show Blk Wq13 gzq13 25 (NC kq9 tq9 zq9 (.slice Aq9 lq9.length cq9)) by rw [← hW, ← hgz]; exact Blk.new _ _ _)
       have Gq13 := Lh (Gq9.out.keep (Kp.of_below' (Z := fun _ => False) hb0) (fun _ h => h.elim))
       have Bq13 := Lh (Bq9.out.below hb0 Bq9.out.lt)
       have Kq13 := Lh (Kq9.out.kp (Kp.of_below' (Z := fun _ => False) hb0) (fun _ h => h.elim))
       have Vq13 := Lh ((Kp.of_below' (Z := fun _ => False) hb0).nv Vq9.out (fun _ _ _ h => h))
       have Sq13 := Lh (show nb + 2 ≤ Wq13.heap.size by have h1 := Zq13.out.lt; have h2 := Gq9.out.fit; omega)
       rw [hW, hgz]
       clear hW hb0 hgz
       try (refine hk hK ?_; clear hK K)
       refine r1 1 (fun K hK => ?_)
       have e3 := Bq13.out.cell 3
       unfold NC at e3
       simp only [g0, gs] at e3
       go_simp
       clear e3
       try (refine hk hK ?_; clear hK K)
       refine r1 7 (fun K hK => ?_)
       have HOW : Wq13.ownsRow (nb + 2) 25 4 (.slice A9 M9 c9) M9 x9 := by have h := Kq13.out.own; rw [← HL9.out] at h; exact h
       obtain ⟨i0, hi0, hz0, hz1, hz2⟩ := info_parts25
       refine wp_append_lies Wq13 (.tmp 69) (.tmp 74) 23 rfl (nb + 2) 25 i0 ZN 4 56 Tryd.underlying23 hi0 hz0 hz1 hz2 rfl (by decide) (.slice A9 M9 c9) M9 x9 rfl HOW ⟨gzq13, 0, none⟩ 1 1 (NC kq9 tq9 zq9 (.slice Aq9 lq9.length cq9)) rfl rfl Zq13.out.at (nc_one _ _ _ _ _ _) (by decide) (by have := HL9b.out; unfold maxLen; omega) (by have := HL9b.out; omega) Sq13.out _ rfl ?_
       intro g2q14 capq14 Wq14 hown hgrow hat hlt
       have Pq14 := Lh (push_one Gq13.out Bq13.out Kq13.out Vq13.out (by rw [← HL9.out]; exact HL9b.out) (by rw [← HL9.out]; exact hown) hgrow hat)
       rw [← HL9.out] at Pq14
       have hn3 := Pq14.out.2.2.2.cell 3; have fn3 := Pq14.out.2.2.2.frozen 3
       unfold NC at hn3
       simp only [g0, gs] at hn3
       clear hown hgrow hat hlt HOW hi0 hz0 hz1 hz2
       try (refine hk hK ?_; clear hK K)
       refine tg 8 (.pointer (some ⟨nb, 3, none⟩)) ?_
       refine r1 9 (fun K hK => ?_)
       go_simp
       clear hn3 fn3
       obtain ⟨wq, hwq⟩ : ∃ W', Wq14.setCell ⟨nb, 3, none⟩ (.slice (some ⟨g2q14, 0, none⟩) (M9 + 1) capq14) = W' := ⟨_, rfl⟩
       rw [hwq] at Pq14 ⊢
       have HP := Lh (And.intro Pq14.out.1 (And.intro Pq14.out.2.1 Pq14.out.2.2.1))
       have HF := Fq9
       clear hwq Pq14
       try (refine hk hK ?_; clear hK K)
       refine wpAny_done (by kernel_rfl) ?_ _
       try simp only [zp, zn, zu, zv, zw]
       have Gq := Lh HP.out.1
       have Bq := Lh HP.out.2.1
       have Kq := Lh HP.out.2.2
       clear HP
       go_upto_region 41 with fail
       have HFF := Lh (show SG L.length i d (.mk 11 [] 0 (m9 ++ [.mk kq9 tq9 zq9 lq9])) jq9 by rw [HML9.out, HE.out]; exact sg_ifelse HLt.out Fx1.out Fp9.out Fq9.out)
       have Bt : Hid (Blk wq nb 25 [.int .i64 11, .string ⟨#[]⟩, .int .i64 0, .slice (some ⟨g2q14, 0, none⟩) (M9 + 1) capq14]) := Bq
       have Z3 : Hid (Blk wq wb 25 [.int .i64 0, .string ⟨#[]⟩, .int .i64 0, .slice none 0 0]) := Lh Gq.out.z
       have HV := Lh (show NV wq (fun k => wb < k) (.mk 11 [] (0) (m9 ++ [.mk kq9 tq9 zq9 lq9])) (NC 11 [] (0) (.slice (some ⟨g2q14, 0, none⟩) ((M9 + 1)) capq14)) from NV.keep (fun k h1 h2 => ⟨rfl, by obtain ⟨q1, q2, q3, q4⟩ := Gq.out.h; omega⟩) _ _ (Kq.out.nv (k := 11) (t := []) (z := 0) (fine_small (by omega) (by omega) (by omega) (by omega) (by simp))))
       have HH := Lh Gq.out.h
       go_wp2_with (first
        | (with_reducible refine wpList_load_cells rfl 25 4 size25 (.tmp 5) rfl ⟨nb, 0, none⟩ rfl [.int .i64 11, .string ⟨#[]⟩, .int .i64 0, .slice (some ⟨g2q14, 0, none⟩) (M9 + 1) capq14] rfl _ Tryd.underlying25 rfl Bt.out.at ?_)
        | (with_reducible refine wpList_store_blk rfl 25 4 size25 (.tmp 4) (.tmp 138) rfl wb [.int .i64 11, .string ⟨#[]⟩, .int .i64 0, .slice (some ⟨g2q14, 0, none⟩) (M9 + 1) capq14] rfl rfl _ Z3.out rfl rfl rfl ?_; intro w8 hb8 hk8))
       exact bodyPost_ret (v := .agg (NC 11 [] (0) (.slice (some ⟨g2q14, 0, none⟩) ((M9 + 1)) capq14)).toArray) (box_res 4 size25 rfl _ _ wb (NC 11 [] (0) (.slice (some ⟨g2q14, 0, none⟩) ((M9 + 1)) capq14)) _ rfl hb8 rfl Tryd.underlying25 rfl) rfl ⟨.mk 11 [] (0) (m9 ++ [.mk kq9 tq9 zq9 lq9]), _, _, rfl, HFF.out, Gq.out.m.kp hk8 (fun j e => by have := HH.out; omega), NV.keep (fun k h1 h2 => ⟨hk8.block k h2 (fun e => by have := HH.out; omega), by have := HH.out; omega⟩) _ _ HV.out, Gq.out.k.trans hk8 (fun k hk e => by have := HH.out; omega), by have h1 := hk8.size; have h2 := HH.out; omega⟩
    ·
     subst hrt0
     clear hrt
     go_upto_region 41 with fail
     have HFF := Lh (show SG L.length i d (.mk 11 [] 0 (ml ++ [.mk kp9 tp9 zp9 lp9])) (jp9 + 1) by rw [HML.out, HE.out]; exact sg_if HLt.out Fx1.out Fp9.out)
     have Bt : Hid (Blk wt nb 25 [.int .i64 11, .string ⟨#[]⟩, .int .i64 0, .slice (some ⟨g2p14, 0, none⟩) (M0 + 1) capp14]) := Bt0
     have Z3 : Hid (Blk wt wb 25 [.int .i64 0, .string ⟨#[]⟩, .int .i64 0, .slice none 0 0]) := Lh Gt.out.z
     have HV := Lh (show NV wt (fun k => wb < k) (.mk 11 [] (0) (ml ++ [.mk kp9 tp9 zp9 lp9])) (NC 11 [] (0) (.slice (some ⟨g2p14, 0, none⟩) ((M0 + 1)) capp14)) from NV.keep (fun k h1 h2 => ⟨rfl, by obtain ⟨q1, q2, q3, q4⟩ := Gt.out.h; omega⟩) _ _ (Kt.out.nv (k := 11) (t := []) (z := 0) (fine_small (by omega) (by omega) (by omega) (by omega) (by simp))))
     have HH := Lh Gt.out.h
     go_wp2_with (first
      | (with_reducible refine wpList_load_cells rfl 25 4 size25 (.tmp 5) rfl ⟨nb, 0, none⟩ rfl [.int .i64 11, .string ⟨#[]⟩, .int .i64 0, .slice (some ⟨g2p14, 0, none⟩) (M0 + 1) capp14] rfl _ Tryd.underlying25 rfl Bt.out.at ?_)
      | (with_reducible refine wpList_store_blk rfl 25 4 size25 (.tmp 4) (.tmp 138) rfl wb [.int .i64 11, .string ⟨#[]⟩, .int .i64 0, .slice (some ⟨g2p14, 0, none⟩) (M0 + 1) capp14] rfl rfl _ Z3.out rfl rfl rfl ?_; intro w8 hb8 hk8))
     exact bodyPost_ret (v := .agg (NC 11 [] (0) (.slice (some ⟨g2p14, 0, none⟩) ((M0 + 1)) capp14)).toArray) (box_res 4 size25 rfl _ _ wb (NC 11 [] (0) (.slice (some ⟨g2p14, 0, none⟩) ((M0 + 1)) capp14)) _ rfl hb8 rfl Tryd.underlying25 rfl) rfl ⟨.mk 11 [] (0) (ml ++ [.mk kp9 tp9 zp9 lp9]), _, _, rfl, HFF.out, Gt.out.m.kp hk8 (fun j e => by have := HH.out; omega), NV.keep (fun k h1 h2 => ⟨hk8.block k h2 (fun e => by have := HH.out; omega), by have := HH.out; omega⟩) _ _ HV.out, Gt.out.k.trans hk8 (fun k hk e => by have := HH.out; omega), by have h1 := hk8.size; have h2 := HH.out; omega⟩
end
end Go.Proofs.YtpbhgebblpdmnaaDoor
