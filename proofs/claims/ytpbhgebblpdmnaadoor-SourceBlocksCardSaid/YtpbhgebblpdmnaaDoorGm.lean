/-
  The generator: a block, given its statements' contract.
  No condition but the lengths.
-/
import Derived.Test.YtpbhgebblpdmnaaDoorZ
import Derived.Test.YtpbhgebblpdmnaaDoorGv
namespace Go.Proofs.YtpbhgebblpdmnaaDoor
open Go.RowKit Wr Src
set_option linter.unusedVariables false
set_option maxRecDepth 100000
section
variable {g : Nat} {v : Value} {L : List Int}
set_option maxHeartbeats 8000000 in
theorem some_step (d : Nat) (hd : d ≤ 3) (HOne : Hid (∀ (W : World) (i : Nat), MS g W v L i → i < L.length → i + Ko d ≤ 10000000 → Calls Tryd.prog 15 #[pt g, nv d] W (GOut g W v L (SG L.length i d)))) {i : Nat} {w : World} (h : MS g w v L i) (hi : i + (1 + 3 * Ko d) ≤ 10000000) : Calls Tryd.prog 30 #[pt g, nv d] w (GOut g w v L (BG L.length i d)) := by
 have z1 := zero25
 obtain ⟨A, c, hv, hc, _⟩ := h.l.f
 subst hv
 obtain ⟨wb, hwb⟩ : ∃ wb, wb = w.heap.size := ⟨_, rfl⟩
 obtain ⟨nb, hnb⟩ : ∃ nb, nb = wb + 1 := ⟨_, rfl⟩
 have HWb := Lh hwb.symm
 have HNb := Lh hnb.symm
 obtain ⟨wa, hwa⟩ : ∃ w0, w0 = w.alloc (.cells #[.int .i64 0, .string ⟨#[]⟩, .int .i64 0, .slice none 0 0] 25) := ⟨_, rfl⟩
 have la : Below w.heap.size w wa := by rw [hwa]; exact (Below.refl _ _).alloc (Nat.le_refl _) _
 have Za : Blk wa wb 25 [.int .i64 0, .string ⟨#[]⟩, .int .i64 0, .slice none 0 0] := by rw [hwa, hwb]; exact Blk.new w _ _
 have HSa := Lh (show wa.heap.size = nb by rw [hwa, hnb, hwb]; simp)
 obtain ⟨w0, hw0⟩ : ∃ w0, w0 = wa.alloc (.cells #[.int .i64 8, .string ⟨#[]⟩, .int .i64 0, .slice none 0 0] 25) := ⟨_, rfl⟩
 have l0 : Below wa.heap.size wa w0 := by rw [hw0]; exact (Below.refl _ _).alloc (Nat.le_refl _) _
 have HWa := Lh hwa
 have HW0 := Lh hw0
 have B0 := Lh (show Blk w0 nb 25 (NC 8 [] 0 (.slice none 0 0)) by rw [hw0, ← HSa.out]; exact Blk.new wa _ _)
 have l1 : Below w.heap.size w w0 := below_step la l0
 have G0 := Lh (show GS g wb nb w w0 (.slice A L.length c) L i from ⟨h.below l1, Za.below l0 Za.lt, Kp.of_below' l1, hwb, by have := h.lt; omega, by omega, B0.out.lt⟩)
 have HI := Lh hi
 have HT := Lh (take_any (h.below l1) (by omega) 4 (by omega) (by omega))
 clear h hwb hwa la Za hw0 l0 l1 hc hi hnb
 go_enter Tryd.func30, Tryd.ntmps30
 go_upto_region 2 with fail
 rw [HWb.out, HNb.out, ← HWa.out, ← HW0.out]
 go_wp2_with fail
 refine HT.out.mono ?_
 rintro e w1 ⟨r, hr, hr0, rfl, m1, k1⟩
 have HR := Lh hr
 have hrI : (r : Int) < 4 := by omega
 have G1 := Lh (G0.out.call m1 k1)
 have B1 := Lh (k1.blk B0.out (by obtain ⟨q1, q2, q3, q4⟩ := G0.out.h; omega))
 clear hr hr0 m1 k1 G0 B0 HT
 go_wp2_with fail
 go_loopw [7] (fun s7 wr => ∃ (m j : Nat) (A0 : Option Addr) (M0 c0 : Nat) (ml : List Nd) (xs : List Value), s7 = .int .i64 (m : Int) ∧ Hid (m = ml.length) ∧ Hid (M0 = ml.length) ∧ Hid (m ≤ r) ∧ Hid (GS g wb nb w wr (.slice A L.length c) L j) ∧ Hid (Blk wr nb 25 (NC 8 [] 0 (.slice A0 M0 c0))) ∧ Hid (KR wr nb (.slice A0 M0 c0) ml xs) ∧ Hid (BP L.length i d ml j)) (fun s7 _ => r - (intOf s7).toNat)
 case atStart => exact ⟨0, i + 1, none, 0, 0, [], [], rfl, Lh rfl, Lh rfl, Lh (Nat.zero_le _), G1, B1, Lh (KR.nil _ _), Lh (bp_start _ _ _)⟩
 case round =>
  clear G1 B1
  obtain ⟨m, j, A0, M0, c0, ml, xs, rfl, HM1, HL, HM3, GR, BR, KRr, HBP⟩ := hrel
  have hmI : (m : Int) < 1000 := by have h1 := HM3.out; omega
  by_cases hm : m < r
  ·
   have hmr : (m : Int) < (r : Int) := by omega
   by_cases hj : j < L.length
   ·
    have hjI : (j : Int) < (L.length : Int) := by omega
    have HJ := Lh hj
    have HLb := Lh (show M0 + 1 ≤ 8589934592 by have h1 := HL.out; have h2 := HM1.out; omega)
    have HC := Lh (fun W (hW : MS g W (.slice A L.length c) L j) => HOne.out W j hW HJ.out (by
     have h1 := HBP.out.hi; have h2 := HI.out; have h4 := HR.out; have h5 := HM1.out
     have h3 : ml.length * Ko d ≤ 2 * Ko d := Nat.mul_le_mul_right _ (by omega)
     omega))
    clear hj
    go_upto_region 4 with fail
    refine wp_region_held (S := fun W => Blk W g 41 [.slice A L.length c, nv j]) (by kernel_rfl) ?_
    change wpAnyH _ _ _ _ _ _ _ _ (World.drew wr)
    have hs0 : Blk (World.drew wr) g 41 [.slice A L.length c, nv j] := GR.out.m.b
    have G2 := Lh (GR.out.keep (Kp.drew (fun _ => False) wr) (fun _ h => h.elim))
    have B2 := Lh (BR.out.drew)
    have K2 := Lh (KRr.out.kp (Kp.drew (fun _ => False) wr) (fun _ h => h.elim))
    generalize World.drew wr = w2 at G2 B2 K2 hs0 ⊢
    clear GR BR KRr
    refine tgH 0 (.int .i64 (m : Int)) hs0 ?_
    refine tgH 1 (nv r) hs0 ?_
    refine tgH 2 (.bool true) hs0 ?_
    refine tgH 3 (.bool true) hs0 ?_
    refine tgH 4 (pt g) hs0 ?_
    refine tgH 5 (pt g) hs0 ?_
    refine tgH 6 (.pointer (some ⟨g, 1, none⟩)) hs0 ?_
    refine tfH 7 (nv j) hs0 ?_ ?_
    exact fun W hW => by have hcl : W.cell? ⟨g, 1, none⟩ = some (nv j) := (Blk.cell hW 1).trans rfl; go_simp
    refine tgH 8 (pt g) hs0 ?_
    refine tgH 9 (pt g) hs0 ?_
    refine tgH 10 (.pointer (some ⟨g, 0, none⟩)) hs0 ?_
    refine tfH 11 (.slice A L.length c) hs0 ?_ ?_
    exact fun W hW => by have hcl : W.cell? ⟨g, 0, none⟩ = some (.slice A L.length c) := (Blk.cell hW 0).trans rfl; go_simp
    refine tgH 12 (.int .i64 (L.length : Int)) hs0 ?_
    refine tgH 13 (.bool true) hs0 ?_
    refine tgH 14 (.bool true) hs0 ?_
    refine wpAnyH_done (by kernel_rfl) ?_ _
    try simp only [zp, zn, zu, zv, zw]
    go_upto_region 6 with fail
    clear hs0
    refine wp_region_any (by kernel_rfl) ?_
    change wpAny _ _ _ _ _ _ _ (World.drew w2)
    have Gd := Lh (G2.out.keep (Kp.drew (fun _ => False) w2) (fun _ h => h.elim))
    have Bd := Lh (B2.out.drew)
    have Kd := Lh (K2.out.kp (Kp.drew (fun _ => False) w2) (fun _ h => h.elim))
    generalize World.drew w2 = wdp at Gd Bd Kd ⊢
    refine tg 0 (.pointer (some ⟨nb, 3, none⟩)) ?_
    refine tg 2 (pt g) ?_
    refine tg 3 (nv d) ?_
    refine rm [1, 4] (ac (fun K hK => ?_) (ac (fun K hK => ?_) AllReady.nil))
    ·
     have e3 := Bd.out.cell 3
     unfold NC at e3
     simp only [g0, gs] at e3
     go_simp
     clear e3
     try (refine hk hK ?_; clear hK K)
     refine r1 4 (fun K hK => ?_)
     go_simp
     refine (HC.out _ Gd.out.m).mono ?_
     rintro e Wp4 ⟨np4, jp4, csp4, rfl, hf, hm, hv, hk, hs⟩
     obtain ⟨kp4, tp4, zp4, lp4⟩ := np4
     obtain ⟨Ap4, cp4, ysp4, hcs, _⟩ := hv.form
     subst hcs
     have Fp4 := Lh hf
     have Gp4 := Lh (Gd.out.call hm hk)
     have Kp4 := Lh (Kd.out.kp hk (fun j e => by obtain ⟨q1, q2, q3, q4⟩ := Gd.out.h; omega))
     have Bp4 := Lh (hk.blk Bd.out (by obtain ⟨q1, q2, q3, q4⟩ := Gd.out.h; omega))
     have Vp4 := Lh (kid_far hv Kd.out hk Gd.out.fit)
     clear hf hm hv hk hs
     dsimp only [NC]
     go_wp2_with fail
     try (refine hk hK ?_; clear hK K)
     refine r1 5 (fun K hK => ?_)
     refine wp_bs (vs := #[(0, .agg #[.int .i64 kp4, .string ⟨tp4.toArray⟩, .int .i64 zp4, .slice Ap4 lp4.length cp4])]) rfl (by simp [Act.eval]) (bs1 _ _ _ _ _ _ _) ?_
     obtain ⟨Wp5, hW⟩ : ∃ W', Wp4.alloc (.cells #[.int .i64 kp4, .string ⟨tp4.toArray⟩, .int .i64 zp4, .slice Ap4 lp4.length cp4] 25) = W' := ⟨_, rfl⟩
     obtain ⟨gzp5, hgz⟩ : ∃ z, Wp4.heap.size = z := ⟨_, rfl⟩
     have hb0 : Below Wp4.heap.size Wp4 Wp5 := by rw [← hW]; exact (Below.refl _ _).alloc (Nat.le_refl _) _
     have Zp5 := Lh (show Blk Wp5 gzp5 25 (NC kp4 tp4 zp4 (.slice Ap4 lp4.length cp4)) by rw [← hW, ← hgz]; exact Blk.new _ _ _)
     have Gp5 := Lh (Gp4.out.keep (Kp.of_below' (Z := fun _ => False) hb0) (fun _ h => h.elim))
     have Bp5 := Lh (Bp4.out.below hb0 Bp4.out.lt)
     have Kp5 := Lh (Kp4.out.kp (Kp.of_below' (Z := fun _ => False) hb0) (fun _ h => h.elim))
     have Vp5 := Lh ((Kp.of_below' (Z := fun _ => False) hb0).nv Vp4.out (fun _ _ _ h => h))
     have Sp5 := Lh (show nb + 2 ≤ Wp5.heap.size by have h1 := Zp5.out.lt; have h2 := Gp4.out.fit; omega)
     rw [hW, hgz]
     clear hW hb0 hgz
     try (refine hk hK ?_; clear hK K)
     refine r1 6 (fun K hK => ?_)
     have HOW : Wp5.ownsRow (nb + 2) 25 4 (.slice A0 M0 c0) M0 xs := by have h := Kp5.out.own; rw [← HL.out] at h; exact h
     obtain ⟨i0, hi0, hz0, hz1, hz2⟩ := info_parts25
     refine wp_append_lies Wp5 (.tmp 29) (.tmp 33) 23 rfl (nb + 2) 25 i0 ZN 4 56 Tryd.underlying23 hi0 hz0 hz1 hz2 rfl (by decide) (.slice A0 M0 c0) M0 xs rfl HOW ⟨gzp5, 0, none⟩ 1 1 (NC kp4 tp4 zp4 (.slice Ap4 lp4.length cp4)) rfl rfl Zp5.out.at (nc_one _ _ _ _ _ _) (by decide) (by have := HLb.out; unfold maxLen; omega) (by have := HLb.out; omega) Sp5.out _ rfl ?_
     intro g2p6 capp6 Wp6 hown hgrow hat hlt
     have Pp6 := Lh (push_one Gp5.out Bp5.out Kp5.out Vp5.out (by rw [← HL.out]; exact HLb.out) (by rw [← HL.out]; exact hown) hgrow hat)
     rw [← HL.out] at Pp6
     have hn3 := Pp6.out.2.2.2.cell 3; have fn3 := Pp6.out.2.2.2.frozen 3
     unfold NC at hn3
     simp only [g0, gs] at hn3
     clear hown hgrow hat hlt HOW hi0 hz0 hz1 hz2
     try (refine hk hK ?_; clear hK K)
     refine tg 7 (.pointer (some ⟨nb, 3, none⟩)) ?_
     refine r1 8 (fun K hK => ?_)
     go_simp
     clear hn3 fn3
     obtain ⟨wq, hwq⟩ : ∃ W', Wp6.setCell ⟨nb, 3, none⟩ (.slice (some ⟨g2p6, 0, none⟩) (M0 + 1) capp6) = W' := ⟨_, rfl⟩
     rw [hwq] at Pp6 ⊢
     have HP := Lh (And.intro Pp6.out.1 (And.intro Pp6.out.2.1 Pp6.out.2.2.1))
     have HF := Fp4
     clear hwq Pp6
     try (refine hk hK ?_; clear hK K)
     refine wpAny_done (by kernel_rfl) ?_ _
     try simp only [zp, zn, zu, zv, zw]
     go_wp2_with fail
     go_roundw
     case rel =>
      first
       | exact ⟨m + 1, jp4, some ⟨g2p6, 0, none⟩, M0 + 1, capp6, ml ++ [.mk kp4 tp4 zp4 lp4], _, by first | rfl | exact congrArg (Value.int .i64) (by omega), Lh (by rw [HM1.out]; simp), Lh (by rw [HL.out]; simp), Lh (by omega), Lh HP.out.1, Lh HP.out.2.1, Lh HP.out.2.2, Lh (bp_step HBP.out HJ.out HF.out)⟩
       | ((repeat apply Exists.intro); exact ⟨⟨m + 1, jp4, some ⟨g2p6, 0, none⟩, M0 + 1, capp6, ml ++ [.mk kp4 tp4 zp4 lp4], _, by first | rfl | exact congrArg (Value.int .i64) (by omega), Lh (by rw [HM1.out]; simp), Lh (by rw [HL.out]; simp), Lh (by omega), Lh HP.out.1, Lh HP.out.2.1, Lh HP.out.2.2, Lh (bp_step HBP.out HJ.out HF.out)⟩, rfl⟩)
     case measure => simp only [intOf]; omega
    ·
     go_simp
     refine (HC.out _ Gd.out.m).mono ?_
     rintro e Wp8 ⟨np8, jp8, csp8, rfl, hf, hm, hv, hk, hs⟩
     obtain ⟨kp8, tp8, zp8, lp8⟩ := np8
     obtain ⟨Ap8, cp8, ysp8, hcs, _⟩ := hv.form
     subst hcs
     have Fp8 := Lh hf
     have Gp8 := Lh (Gd.out.call hm hk)
     have Kp8 := Lh (Kd.out.kp hk (fun j e => by obtain ⟨q1, q2, q3, q4⟩ := Gd.out.h; omega))
     have Bp8 := Lh (hk.blk Bd.out (by obtain ⟨q1, q2, q3, q4⟩ := Gd.out.h; omega))
     have Vp8 := Lh (kid_far hv Kd.out hk Gd.out.fit)
     clear hf hm hv hk hs
     dsimp only [NC]
     go_wp2_with fail
     try (refine hk hK ?_; clear hK K)
     refine rm [1, 5] (ac (fun K hK => ?_) (ac (fun K hK => ?_) AllReady.nil))
     ·
      have e3 := Bp8.out.cell 3
      unfold NC at e3
      simp only [g0, gs] at e3
      go_simp
      clear e3
      try (refine hk hK ?_; clear hK K)
      refine r1 5 (fun K hK => ?_)
      refine wp_bs (vs := #[(0, .agg #[.int .i64 kp8, .string ⟨tp8.toArray⟩, .int .i64 zp8, .slice Ap8 lp8.length cp8])]) rfl (by simp [Act.eval]) (bs1 _ _ _ _ _ _ _) ?_
      obtain ⟨Wp9, hW⟩ : ∃ W', Wp8.alloc (.cells #[.int .i64 kp8, .string ⟨tp8.toArray⟩, .int .i64 zp8, .slice Ap8 lp8.length cp8] 25) = W' := ⟨_, rfl⟩
      obtain ⟨gzp9, hgz⟩ : ∃ z, Wp8.heap.size = z := ⟨_, rfl⟩
      have hb0 : Below Wp8.heap.size Wp8 Wp9 := by rw [← hW]; exact (Below.refl _ _).alloc (Nat.le_refl _) _
      have Zp9 := Lh (show Blk Wp9 gzp9 25 (NC kp8 tp8 zp8 (.slice Ap8 lp8.length cp8)) by rw [← hW, ← hgz]; exact Blk.new _ _ _)
      have Gp9 := Lh (Gp8.out.keep (Kp.of_below' (Z := fun _ => False) hb0) (fun _ h => h.elim))
      have Bp9 := Lh (Bp8.out.below hb0 Bp8.out.lt)
      have Kp9 := Lh (Kp8.out.kp (Kp.of_below' (Z := fun _ => False) hb0) (fun _ h => h.elim))
      have Vp9 := Lh ((Kp.of_below' (Z := fun _ => False) hb0).nv Vp8.out (fun _ _ _ h => h))
      have Sp9 := Lh (show nb + 2 ≤ Wp9.heap.size by have h1 := Zp9.out.lt; have h2 := Gp8.out.fit; omega)
      rw [hW, hgz]
      clear hW hb0 hgz
      try (refine hk hK ?_; clear hK K)
      refine r1 6 (fun K hK => ?_)
      have HOW : Wp9.ownsRow (nb + 2) 25 4 (.slice A0 M0 c0) M0 xs := by have h := Kp9.out.own; rw [← HL.out] at h; exact h
      obtain ⟨i0, hi0, hz0, hz1, hz2⟩ := info_parts25
      refine wp_append_lies Wp9 (.tmp 29) (.tmp 33) 23 rfl (nb + 2) 25 i0 ZN 4 56 Tryd.underlying23 hi0 hz0 hz1 hz2 rfl (by decide) (.slice A0 M0 c0) M0 xs rfl HOW ⟨gzp9, 0, none⟩ 1 1 (NC kp8 tp8 zp8 (.slice Ap8 lp8.length cp8)) rfl rfl Zp9.out.at (nc_one _ _ _ _ _ _) (by decide) (by have := HLb.out; unfold maxLen; omega) (by have := HLb.out; omega) Sp9.out _ rfl ?_
      intro g2p10 capp10 Wp10 hown hgrow hat hlt
      have Pp10 := Lh (push_one Gp9.out Bp9.out Kp9.out Vp9.out (by rw [← HL.out]; exact HLb.out) (by rw [← HL.out]; exact hown) hgrow hat)
      rw [← HL.out] at Pp10
      have hn3 := Pp10.out.2.2.2.cell 3; have fn3 := Pp10.out.2.2.2.frozen 3
      unfold NC at hn3
      simp only [g0, gs] at hn3
      clear hown hgrow hat hlt HOW hi0 hz0 hz1 hz2
      try (refine hk hK ?_; clear hK K)
      refine tg 7 (.pointer (some ⟨nb, 3, none⟩)) ?_
      refine r1 8 (fun K hK => ?_)
      go_simp
      clear hn3 fn3
      obtain ⟨wq, hwq⟩ : ∃ W', Wp10.setCell ⟨nb, 3, none⟩ (.slice (some ⟨g2p10, 0, none⟩) (M0 + 1) capp10) = W' := ⟨_, rfl⟩
      rw [hwq] at Pp10 ⊢
      have HP := Lh (And.intro Pp10.out.1 (And.intro Pp10.out.2.1 Pp10.out.2.2.1))
      have HF := Fp8
      clear hwq Pp10
      try (refine hk hK ?_; clear hK K)
      refine wpAny_done (by kernel_rfl) ?_ _
      try simp only [zp, zn, zu, zv, zw]
      go_wp2_with fail
      go_roundw
      case rel =>
       first
        | exact ⟨m + 1, jp8, some ⟨g2p10, 0, none⟩, M0 + 1, capp10, ml ++ [.mk kp8 tp8 zp8 lp8], _, by first | rfl | exact congrArg (Value.int .i64) (by omega), Lh (by rw [HM1.out]; simp), Lh (by rw [HL.out]; simp), Lh (by omega), Lh HP.out.1, Lh HP.out.2.1, Lh HP.out.2.2, Lh (bp_step HBP.out HJ.out HF.out)⟩
        | ((repeat apply Exists.intro); exact ⟨⟨m + 1, jp8, some ⟨g2p10, 0, none⟩, M0 + 1, capp10, ml ++ [.mk kp8 tp8 zp8 lp8], _, by first | rfl | exact congrArg (Value.int .i64) (by omega), Lh (by rw [HM1.out]; simp), Lh (by rw [HL.out]; simp), Lh (by omega), Lh HP.out.1, Lh HP.out.2.1, Lh HP.out.2.2, Lh (bp_step HBP.out HJ.out HF.out)⟩, rfl⟩)
      case measure => simp only [intOf]; omega
     ·
      refine wp_bs (vs := #[(0, .agg #[.int .i64 kp8, .string ⟨tp8.toArray⟩, .int .i64 zp8, .slice Ap8 lp8.length cp8])]) rfl (by simp [Act.eval]) (bs1 _ _ _ _ _ _ _) ?_
      obtain ⟨Wp12, hW⟩ : ∃ W', Wp8.alloc (.cells #[.int .i64 kp8, .string ⟨tp8.toArray⟩, .int .i64 zp8, .slice Ap8 lp8.length cp8] 25) = W' := ⟨_, rfl⟩
      obtain ⟨gzp12, hgz⟩ : ∃ z, Wp8.heap.size = z := ⟨_, rfl⟩
      have hb0 : Below Wp8.heap.size Wp8 Wp12 := by rw [← hW]; exact (Below.refl _ _).alloc (Nat.le_refl _) _
      have Zp12 := Lh (show Blk Wp12 gzp12 25 (NC kp8 tp8 zp8 (.slice Ap8 lp8.length cp8)) by rw [← hW, ← hgz]; exact Blk.new _ _ _)
      have Gp12 := Lh (Gp8.out.keep (Kp.of_below' (Z := fun _ => False) hb0) (fun _ h => h.elim))
      have Bp12 := Lh (Bp8.out.below hb0 Bp8.out.lt)
      have Kp12 := Lh (Kp8.out.kp (Kp.of_below' (Z := fun _ => False) hb0) (fun _ h => h.elim))
      have Vp12 := Lh ((Kp.of_below' (Z := fun _ => False) hb0).nv Vp8.out (fun _ _ _ h => h))
      have Sp12 := Lh (show nb + 2 ≤ Wp12.heap.size by have h1 := Zp12.out.lt; have h2 := Gp8.out.fit; omega)
      rw [hW, hgz]
      clear hW hb0 hgz
      try (refine hk hK ?_; clear hK K)
      refine r1 1 (fun K hK => ?_)
      have e3 := Bp12.out.cell 3
      unfold NC at e3
      simp only [g0, gs] at e3
      go_simp
      clear e3
      try (refine hk hK ?_; clear hK K)
      refine r1 6 (fun K hK => ?_)
      have HOW : Wp12.ownsRow (nb + 2) 25 4 (.slice A0 M0 c0) M0 xs := by have h := Kp12.out.own; rw [← HL.out] at h; exact h
      obtain ⟨i0, hi0, hz0, hz1, hz2⟩ := info_parts25
      refine wp_append_lies Wp12 (.tmp 29) (.tmp 33) 23 rfl (nb + 2) 25 i0 ZN 4 56 Tryd.underlying23 hi0 hz0 hz1 hz2 rfl (by decide) (.slice A0 M0 c0) M0 xs rfl HOW ⟨gzp12, 0, none⟩ 1 1 (NC kp8 tp8 zp8 (.slice Ap8 lp8.length cp8)) rfl rfl Zp12.out.at (nc_one _ _ _ _ _ _) (by decide) (by have := HLb.out; unfold maxLen; omega) (by have := HLb.out; omega) Sp12.out _ rfl ?_
      intro g2p13 capp13 Wp13 hown hgrow hat hlt
      have Pp13 := Lh (push_one Gp12.out Bp12.out Kp12.out Vp12.out (by rw [← HL.out]; exact HLb.out) (by rw [← HL.out]; exact hown) hgrow hat)
      rw [← HL.out] at Pp13
      have hn3 := Pp13.out.2.2.2.cell 3; have fn3 := Pp13.out.2.2.2.frozen 3
      unfold NC at hn3
      simp only [g0, gs] at hn3
      clear hown hgrow hat hlt HOW hi0 hz0 hz1 hz2
      try (refine hk hK ?_; clear hK K)
      refine tg 7 (.pointer (some ⟨nb, 3, none⟩)) ?_
      refine r1 8 (fun K hK => ?_)
      go_simp
      clear hn3 fn3
      obtain ⟨wq, hwq⟩ : ∃ W', Wp13.setCell ⟨nb, 3, none⟩ (.slice (some ⟨g2p13, 0, none⟩) (M0 + 1) capp13) = W' := ⟨_, rfl⟩
      rw [hwq] at Pp13 ⊢
      have HP := Lh (And.intro Pp13.out.1 (And.intro Pp13.out.2.1 Pp13.out.2.2.1))
      have HF := Fp8
      clear hwq Pp13
      try (refine hk hK ?_; clear hK K)
      refine wpAny_done (by kernel_rfl) ?_ _
      try simp only [zp, zn, zu, zv, zw]
      go_wp2_with fail
      go_roundw
      case rel =>
       first
        | exact ⟨m + 1, jp8, some ⟨g2p13, 0, none⟩, M0 + 1, capp13, ml ++ [.mk kp8 tp8 zp8 lp8], _, by first | rfl | exact congrArg (Value.int .i64) (by omega), Lh (by rw [HM1.out]; simp), Lh (by rw [HL.out]; simp), Lh (by omega), Lh HP.out.1, Lh HP.out.2.1, Lh HP.out.2.2, Lh (bp_step HBP.out HJ.out HF.out)⟩
        | ((repeat apply Exists.intro); exact ⟨⟨m + 1, jp8, some ⟨g2p13, 0, none⟩, M0 + 1, capp13, ml ++ [.mk kp8 tp8 zp8 lp8], _, by first | rfl | exact congrArg (Value.int .i64) (by omega), Lh (by rw [HM1.out]; simp), Lh (by rw [HL.out]; simp), Lh (by omega), Lh HP.out.1, Lh HP.out.2.1, Lh HP.out.2.2, Lh (bp_step HBP.out HJ.out HF.out)⟩, rfl⟩)
      case measure => simp only [intOf]; omega
   ·
    have hjI : ¬ (j : Int) < (L.length : Int) := by omega
    clear hj
    go_upto_region 4 with fail
    refine wp_region_held (S := fun W => Blk W g 41 [.slice A L.length c, nv j]) (by kernel_rfl) ?_
    change wpAnyH _ _ _ _ _ _ _ _ (World.drew wr)
    have hs0 : Blk (World.drew wr) g 41 [.slice A L.length c, nv j] := GR.out.m.b
    have G2 := Lh (GR.out.keep (Kp.drew (fun _ => False) wr) (fun _ h => h.elim))
    have B2 := Lh (BR.out.drew)
    have K2 := Lh (KRr.out.kp (Kp.drew (fun _ => False) wr) (fun _ h => h.elim))
    generalize World.drew wr = w2 at G2 B2 K2 hs0 ⊢
    clear GR BR KRr
    refine tgH 0 (.int .i64 (m : Int)) hs0 ?_
    refine tgH 1 (nv r) hs0 ?_
    refine tgH 2 (.bool true) hs0 ?_
    refine tgH 3 (.bool true) hs0 ?_
    refine tgH 4 (pt g) hs0 ?_
    refine tgH 5 (pt g) hs0 ?_
    refine tgH 6 (.pointer (some ⟨g, 1, none⟩)) hs0 ?_
    refine tfH 7 (nv j) hs0 ?_ ?_
    exact fun W hW => by have hcl : W.cell? ⟨g, 1, none⟩ = some (nv j) := (Blk.cell hW 1).trans rfl; go_simp
    refine tgH 8 (pt g) hs0 ?_
    refine tgH 9 (pt g) hs0 ?_
    refine tgH 10 (.pointer (some ⟨g, 0, none⟩)) hs0 ?_
    refine tfH 11 (.slice A L.length c) hs0 ?_ ?_
    exact fun W hW => by have hcl : W.cell? ⟨g, 0, none⟩ = some (.slice A L.length c) := (Blk.cell hW 0).trans rfl; go_simp
    refine tgH 12 (.int .i64 (L.length : Int)) hs0 ?_
    refine tgH 13 (.bool false) hs0 ?_
    refine tgH 14 (.bool false) hs0 ?_
    refine wpAnyH_done (by kernel_rfl) ?_ _
    try simp only [zp, zn, zu, zv, zw]
    clear hs0
    have B3 : Hid (Blk w2 nb 25 [.int .i64 8, .string ⟨#[]⟩, .int .i64 0, .slice A0 M0 c0]) := B2
    have Z3 : Hid (Blk w2 wb 25 [.int .i64 0, .string ⟨#[]⟩, .int .i64 0, .slice none 0 0]) := Lh G2.out.z
    go_wp2_with (first
     | (with_reducible refine wpList_load_cells rfl 25 4 size25 (.tmp 5) rfl ⟨nb, 0, none⟩ rfl [.int .i64 8, .string ⟨#[]⟩, .int .i64 0, .slice A0 M0 c0] rfl _ Tryd.underlying25 rfl B3.out.at ?_)
     | (with_reducible refine wpList_store_blk rfl 25 4 size25 (.tmp 4) (.tmp 36) rfl wb [.int .i64 8, .string ⟨#[]⟩, .int .i64 0, .slice A0 M0 c0] rfl rfl _ Z3.out rfl rfl rfl ?_; intro w8 hb8 hk8))
    have HV := Lh (K2.out.nv (k := 8) (t := []) (z := 0) (fine_small (by omega) (by omega) (by omega) (by omega) (by simp)))
    have HH := Lh G2.out.h
    exact bodyPost_ret (v := .agg (NC 8 [] 0 (.slice A0 M0 c0)).toArray) (box_res 4 size25 rfl _ _ wb (NC 8 [] 0 (.slice A0 M0 c0)) _ rfl hb8 rfl Tryd.underlying25 rfl) rfl ⟨.mk 8 [] 0 ml, j, _, rfl, bp_block HBP.out (by have h1 := HM1.out; have h2 := HM3.out; have h3 := HR.out; omega), G2.out.m.kp hk8 (fun j e => by have := HH.out; omega), NV.keep (fun k h1 h2 => ⟨hk8.block k h2 (fun e => by have := HH.out; omega), by have := HH.out; omega⟩) _ _ HV.out, G2.out.k.trans hk8 (fun k hk e => by have := HH.out; omega), by have h1 := hk8.size; have h2 := HH.out; omega⟩
  ·
   have hmr : ¬ (m : Int) < (r : Int) := by omega
   go_upto_region 4 with fail
   refine wp_region_any (by kernel_rfl) ?_
   change wpAny _ _ _ _ _ _ _ (World.drew wr)
   have G2 := Lh (GR.out.keep (Kp.drew (fun _ => False) wr) (fun _ h => h.elim))
   have B2 := Lh (BR.out.drew)
   have K2 := Lh (KRr.out.kp (Kp.drew (fun _ => False) wr) (fun _ h => h.elim))
   generalize World.drew wr = w2 at G2 B2 K2 ⊢
   clear GR BR KRr
   refine tg 0 (.int .i64 (m : Int)) ?_
   refine tg 1 (nv r) ?_
   refine tg 2 (.bool false) ?_
   refine tg 3 (.bool false) ?_
   refine tn 4 ?_
   refine tn 5 ?_
   refine tn 6 ?_
   refine tn 7 ?_
   refine tn 8 ?_
   refine tn 9 ?_
   refine tn 10 ?_
   refine tn 11 ?_
   refine tn 12 ?_
   refine tn 13 ?_
   refine tg 14 (.bool false) ?_
   refine wpAny_done (by kernel_rfl) ?_ _
   try simp only [zp, zn, zu, zv, zw]
   have B3 : Hid (Blk w2 nb 25 [.int .i64 8, .string ⟨#[]⟩, .int .i64 0, .slice A0 M0 c0]) := B2
   have Z3 : Hid (Blk w2 wb 25 [.int .i64 0, .string ⟨#[]⟩, .int .i64 0, .slice none 0 0]) := Lh G2.out.z
   go_wp2_with (first
    | (with_reducible refine wpList_load_cells rfl 25 4 size25 (.tmp 5) rfl ⟨nb, 0, none⟩ rfl [.int .i64 8, .string ⟨#[]⟩, .int .i64 0, .slice A0 M0 c0] rfl _ Tryd.underlying25 rfl B3.out.at ?_)
    | (with_reducible refine wpList_store_blk rfl 25 4 size25 (.tmp 4) (.tmp 36) rfl wb [.int .i64 8, .string ⟨#[]⟩, .int .i64 0, .slice A0 M0 c0] rfl rfl _ Z3.out rfl rfl rfl ?_; intro w8 hb8 hk8))
   have HV := Lh (K2.out.nv (k := 8) (t := []) (z := 0) (fine_small (by omega) (by omega) (by omega) (by omega) (by simp)))
   have HH := Lh G2.out.h
   exact bodyPost_ret (v := .agg (NC 8 [] 0 (.slice A0 M0 c0)).toArray) (box_res 4 size25 rfl _ _ wb (NC 8 [] 0 (.slice A0 M0 c0)) _ rfl hb8 rfl Tryd.underlying25 rfl) rfl ⟨.mk 8 [] 0 ml, j, _, rfl, bp_block HBP.out (by have h1 := HM1.out; have h2 := HM3.out; have h3 := HR.out; omega), G2.out.m.kp hk8 (fun j e => by have := HH.out; omega), NV.keep (fun k h1 h2 => ⟨hk8.block k h2 (fun e => by have := HH.out; omega), by have := HH.out; omega⟩) _ _ HV.out, G2.out.k.trans hk8 (fun k hk e => by have := HH.out; omega), by have h1 := hk8.size; have h2 := HH.out; omega⟩
end
end Go.Proofs.YtpbhgebblpdmnaaDoor
