/-
  The law of two blocks, walked.
  No condition but the tables and the lengths.
-/
import Derived.Test.YtpbhgebblpdmnaaDoorZ
import Derived.Test.YtpbhgebblpdmnaaDoorBk
import Derived.OrdersHeld
import Derived.Deep.RegionHeld
namespace Go.Proofs.YtpbhgebblpdmnaaDoor
open Go.RowKit Wr Src
set_option linter.unusedVariables false
set_option maxRecDepth 100000
section
variable {B : Nat} {w : World}
set_option maxHeartbeats 16000000 in
theorem blocks_walk {v0 v1 : Value} {L0 L1 : List Int} (h0 : IL w Any v0 L0) (h1 : IL w Any v1 L1) (n0 : ∀ A n c, v0 = .slice A n c → A = none → c = 0) (n1 : ∀ A n c, v1 = .slice A n c → A = none → c = 0) (l0 : L0.length + 1 ≤ 17592186044416) (l1 : L1.length + 1 ≤ 17592186044416) (ht : Tab B w) :
  Calls Tryd.prog 4 #[v0, v1] w fun en w' => en = .returned (.bool true) ∧ Below w.heap.size w w' := by
 have z1 := zero25
 have HT := Lh ht
 have IL1 := Lh h1
 have N0 := Lh n0; have N1 := Lh n1; have HL0 := Lh l0; have HL1 := Lh l1
 have i0 : Hid (IL (w.alloc (.cells #[.int .i64 0] 3)) Any v0 L0) := Lh (h0.kp (Kp.alloc (fun _ => False) w _) (fun _ _ h => h))
 have X0 : Hid (Blk (w.alloc (.cells #[.int .i64 0] 3)) w.heap.size 3 [.int .i64 0]) := Lh (Blk.new w _ _)
 have bq0 : ∀ W : World, (Instr.buildSlice 22 1 #[(0, .int .i64 0)]).run Tryd.prog W = .ok (.slice (some ⟨W.heap.size, 0, none⟩) 1 1) (W.alloc (.cells #[.int .i64 0] 3)) := fun _ => by kernel_rfl
 have bq1 : ∀ W : World, (Instr.buildSlice 22 1 #[(0, .int .i64 1)]).run Tryd.prog W = .ok (.slice (some ⟨W.heap.size, 0, none⟩) 1 1) (W.alloc (.cells #[.int .i64 1] 3)) := fun _ => by kernel_rfl
 clear h0 h1 n0 n1 l0 l1 ht
 go_enter Tryd.func4, Tryd.ntmps4
 go_wp2_with (first | (at_builtin; refine wpList_append_ints rfl (.tmp 13) (.tmp 14) rfl 0 ⟨by omega, by omega⟩ w.heap.size rfl X0.out v0 L0 rfl i0.out N0.out HL0.out ?_; intro v5 w5 hv5 hg5))
 refine (tree_any hv5).mono ?_
 rintro e w6 ⟨nx, cx, rfl, hF, hV, hB⟩
 obtain ⟨tx, l1, rfl, hk1, hn1, hp1⟩ := blk_of (kd := 5) (Or.inl ⟨rfl, rfl⟩) hF
 obtain ⟨A1, c1, xs1, rfl, f1, _, hc1, _, hr1, hl1⟩ := hV.form
 have VX6 := Lh (hV.any)
 have HK1 := Lh (And.intro hk1 (And.intro hn1 hp1))
 have bg5 : Below w.heap.size w w5 := ((Below.refl w.heap.size w).alloc (Nat.le_refl _) (.cells #[.int .i64 0] 3)).grown hg5 (by simp) (fun g hg => by injection hg with hg; omega)
 have LB6 := Lh (bg5.trans (hB.mono bg5.size))
 have IL6 := Lh (IL1.out.kp (Kp.of_below' (Z := fun _ => False) LB6.out) (fun _ _ h => h))
 clear hF hV hB hk1 hn1 hp1 f1 hc1 hr1 hl1 hv5 hg5 bg5 i0 X0 bq0 IL1
 dsimp only [NC]
 go_upto_region 2 with fail
 obtain ⟨xb, hxb⟩ : ∃ z, w6.heap.size = z := ⟨_, rfl⟩
 obtain ⟨w7, hw7⟩ : ∃ w', w6.alloc (.cells #[.int .i64 5, .string ⟨tx.toArray⟩, .int .i64 0, .slice A1 1 c1] 25) = w' := ⟨_, rfl⟩
 have l7 : Below w6.heap.size w6 w7 := by rw [← hw7]; exact (Below.refl _ _).alloc (Nat.le_refl _) _
 have BX7 := Lh (show Blk w7 xb 25 (NC 5 tx 0 (.slice A1 1 c1)) by rw [← hw7, ← hxb]; exact Blk.new w6 _ _)
 have VX7 := Lh (VX6.out.anyBelow l7)
 have LB7 := Lh (below_step LB6.out l7)
 have IL7 := Lh (IL6.out.kp (Kp.of_below' (Z := fun _ => False) l7) (fun _ _ h => h))
 have i1 : Hid (IL (w7.alloc (.cells #[.int .i64 1] 3)) Any v1 L1) := Lh (IL7.out.kp (Kp.alloc (fun _ => False) w7 _) (fun _ _ h => h))
 have X1 : Hid (Blk (w7.alloc (.cells #[.int .i64 1] 3)) w7.heap.size 3 [.int .i64 1]) := Lh (Blk.new w7 _ _)
 rw [hxb, hw7]
 clear l7 hw7 hxb VX6 LB6 IL6
 go_wp2_with (first | (at_builtin; refine wpList_append_ints rfl (.tmp 17) (.tmp 18) rfl 1 ⟨by omega, by omega⟩ w7.heap.size rfl X1.out v1 L1 rfl i1.out N1.out HL1.out ?_; intro v8 w8 hv8 hg8))
 refine (tree_any hv8).mono ?_
 rintro e w9 ⟨ny, cy, rfl, hF, hV, hB⟩
 obtain ⟨ty, l2, rfl, hk2, hn2, hp2⟩ := blk_of (kd := 6) (Or.inr ⟨rfl, rfl⟩) hF
 obtain ⟨A2, c2, xs2, rfl, f2, _, hc2, _, hr2, hl2⟩ := hV.form
 have VY9 := Lh (hV.any)
 have HK2 := Lh (And.intro hk2 (And.intro hn2 hp2))
 have bg8 : Below w7.heap.size w7 w8 := ((Below.refl w7.heap.size w7).alloc (Nat.le_refl _) (.cells #[.int .i64 1] 3)).grown hg8 (by simp) (fun g hg => by injection hg with hg; omega)
 have b9 : Below w7.heap.size w7 w9 := bg8.trans (hB.mono bg8.size)
 have LB9 := Lh (below_step LB7.out b9)
 have BX9 := Lh (BX7.out.below b9 BX7.out.lt)
 have VX9 := Lh (VX7.out.anyBelow b9)
 clear hF hV hB hk2 hn2 hp2 f2 hc2 hr2 hl2 hv8 hg8 bg8 b9 i1 X1 bq1 IL7 BX7 VX7 LB7
 dsimp only [NC]
 go_upto_region 3 with fail
 obtain ⟨yb, hyb⟩ : ∃ z, w9.heap.size = z := ⟨_, rfl⟩
 obtain ⟨wa, hwa⟩ : ∃ w', w9.alloc (.cells #[.int .i64 6, .string ⟨ty.toArray⟩, .int .i64 0, .slice A2 1 c2] 25) = w' := ⟨_, rfl⟩
 have la : Below w9.heap.size w9 wa := by rw [← hwa]; exact (Below.refl _ _).alloc (Nat.le_refl _) _
 have BYa := Lh (show Blk wa yb 25 (NC 6 ty 0 (.slice A2 1 c2)) by rw [← hwa, ← hyb]; exact Blk.new w9 _ _)
 have VYa := Lh (VY9.out.anyBelow la)
 have BXa := Lh (BX9.out.below la BX9.out.lt)
 have VXa := Lh (VX9.out.anyBelow la)
 have LBa := Lh (below_step LB9.out la)
 have Ta := Lh (HT.out.below LBa.out)
 rw [hyb, hwa]
 clear la hwa hyb LB9 BX9 VX9 VY9 HT N0 N1 HL0 HL1
 obtain ⟨x3, y3⟩ : wa.cell? ⟨xb, 3, none⟩ = some (.slice A1 1 c1) ∧ wa.cell? ⟨yb, 3, none⟩ = some (.slice A2 1 c2) := ⟨BXa.out.cell 3, BYa.out.cell 3⟩
 go_upto_region 5 with fail
 clear x3 y3
 obtain ⟨g1, o1, D1, d1, xs1, hA1, hc1, hg1, hk1, hd1, hD1, hr1, hl1⟩ := kid_of VXa.out
 obtain ⟨g2, o2, D2, d2, xs2, hA2, hc2, hg2, hk2, hd2, hD2, hr2, hl2⟩ := kid_of VYa.out
 subst hA1 hA2
 obtain ⟨bs, hbs⟩ : ∃ z, z = wa.heap.size := ⟨_, rfl⟩
 obtain ⟨wd, hwd⟩ : ∃ w', w' = World.drew wa := ⟨_, rfl⟩
 have HWD := Lh hwd
 have kd := Kp.drew (fun _ => False) wa
 rw [← hwd] at kd
 have HBS := Lh (show bs ≤ wd.heap.size by rw [hbs]; exact kd.size)
 have HBS2 := Lh (show wd.heap.size ≤ bs by rw [hbs, hwd]; exact Nat.le_refl _)
 have CX := Lh (show wd.cell? ⟨xb, 3, none⟩ = some (.slice (some ⟨g1, o1, none⟩) 1 c1) by rw [hwd]; exact BXa.out.cell 3)
 have CX_lt := Lh (show (⟨xb, 3, none⟩ : Addr).block < bs by rw [hbs]; exact BXa.out.lt)
 have CY := Lh (show wd.cell? ⟨yb, 3, none⟩ = some (.slice (some ⟨g2, o2, none⟩) 1 c2) by rw [hwd]; exact BYa.out.cell 3)
 have CY_lt := Lh (show (⟨yb, 3, none⟩ : Addr).block < bs by rw [hbs]; exact BYa.out.lt)
 have CK1 := Lh (show wd.cell? ⟨g1, o1 + 3, none⟩ = some (.slice D1 l1.length d1) by rw [hwd]; exact hk1)
 have CK1_lt := Lh (show (⟨g1, o1 + 3, none⟩ : Addr).block < bs by rw [hbs]; exact hg1)
 have CK2 := Lh (show wd.cell? ⟨g2, o2 + 3, none⟩ = some (.slice D2 l2.length d2) by rw [hwd]; exact hk2)
 have CK2_lt := Lh (show (⟨g2, o2 + 3, none⟩ : Addr).block < bs by rw [hbs]; exact hg2)
 have RD1 := Lh (show l1.length ≤ d1 ∧ (D1 = none → d1 = 0) ∧ RdP wd Any D1 xs1 ∧ NL wd Any l1 xs1 from ⟨hd1, hD1, by rw [hwd]; exact hr1, kd.nl hl1 (fun _ _ _ h => h)⟩)
 have RD2 := Lh (show l2.length ≤ d2 ∧ (D2 = none → d2 = 0) ∧ RdP wd Any D2 xs2 ∧ NL wd Any l2 xs2 from ⟨hd2, hD2, by rw [hwd]; exact hr2, kd.nl hl2 (fun _ _ _ h => h)⟩)
 have HBW := Lh (show Below wa.heap.size wa wd by rw [hwd]; exact (Below.refl _ _).drew)
 have HBs := Lh (show bs = wa.heap.size from hbs)
 have hc1I : (1 : Int) ≤ (c1 : Int) := by omega
 have hc2I : (1 : Int) ≤ (c2 : Int) := by omega
 clear hk1 hd1 hD1 hr1 hl1 hk2 hd2 hD2 hr2 hl2 hg1 hg2 kd hwd hbs
 go_cut [7] (fun s7 wx => ∃ (n7 : Nat) (A9 : Option Addr) (n9 c9 : Nat), s7 = pt n7 ∧ Hid (Blk wx n7 25 [.int .i64 8, .string ⟨#[]⟩, .int .i64 0, .slice A9 n9 c9]) ∧ Hid (NV wx Any (.mk 8 [] 0 (l1 ++ l2)) (NC 8 [] 0 (.slice A9 n9 c9))) ∧ Hid (Below bs wd wx))
 case first =>
  refine wp_region_held (S := fun W => Below bs wd W) (by kernel_rfl) ?_
  change wpAnyH _ _ _ _ _ _ _ _ (World.drew wa)
  rw [← HWD.out]
  have hs0 : Below bs wd wd := Below.refl _ _
  refine tgH 1 (.pointer (some ⟨xb, 3, none⟩)) hs0 ?_
  refine tfH 2 (.slice (some ⟨g1, o1, none⟩) 1 c1) hs0 ?_ ?_
  exact fun W hW => by have hcl : W.cell? ⟨xb, 3, none⟩ = some (.slice (some ⟨g1, o1, none⟩) 1 c1) := (hW.cell (p := ⟨xb, 3, none⟩) CX_lt.out).trans CX.out; go_simp
  refine tgH 3 (.pointer (some ⟨g1, o1, none⟩)) hs0 ?_
  refine tgH 4 (.pointer (some ⟨g1, o1 + 3, none⟩)) hs0 ?_
  refine tfH 5 (.slice D1 l1.length d1) hs0 ?_ ?_
  exact fun W hW => by have hcl : W.cell? ⟨g1, o1 + 3, none⟩ = some (.slice D1 l1.length d1) := (hW.cell (p := ⟨g1, o1 + 3, none⟩) CK1_lt.out).trans CK1.out; go_simp
  refine tgH 7 (.pointer (some ⟨yb, 3, none⟩)) hs0 ?_
  refine tfH 8 (.slice (some ⟨g2, o2, none⟩) 1 c2) hs0 ?_ ?_
  exact fun W hW => by have hcl : W.cell? ⟨yb, 3, none⟩ = some (.slice (some ⟨g2, o2, none⟩) 1 c2) := (hW.cell (p := ⟨yb, 3, none⟩) CY_lt.out).trans CY.out; go_simp
  refine tgH 9 (.pointer (some ⟨g2, o2, none⟩)) hs0 ?_
  refine tgH 10 (.pointer (some ⟨g2, o2 + 3, none⟩)) hs0 ?_
  refine tfH 11 (.slice D2 l2.length d2) hs0 ?_ ?_
  exact fun W hW => by have hcl : W.cell? ⟨g2, o2 + 3, none⟩ = some (.slice D2 l2.length d2) := (hW.cell (p := ⟨g2, o2 + 3, none⟩) CK2_lt.out).trans CK2.out; go_simp
  refine rmH [0, 14] (acH (fun K hK => ?_) (acH (fun K hK => ?_) AllReadyH.nil))
  ·
   refine wp_bs (vs := #[]) rfl (by simp) (bs0 _) ?_
   obtain ⟨Wb11, hW⟩ : ∃ W', wd.alloc (.cells #[] 25) = W' := ⟨_, rfl⟩
   obtain ⟨gz, hgz⟩ : ∃ z, wd.heap.size = z := ⟨_, rfl⟩
   have hb0 : Below wd.heap.size wd Wb11 := by rw [← hW]; exact (Below.refl _ _).alloc (Nat.le_refl _) _
   have Sb11 : Below bs wd Wb11 := hs0.trans (hb0.mono (Nat.le_trans HBS.out hs0.size))
   have Ob11 := Lh (own_zero (show Blk Wb11 gz 25 [] by rw [← hW, ← hgz]; exact Blk.new _ _ _) (show bs ≤ gz by rw [← hgz]; exact Nat.le_trans HBS.out hs0.size))
   rw [hW, hgz]
   clear hW hb0 hgz
   refine hK.out _ _ Sb11 (fun _ => ?_)
   clear hK K
   try simp only [zp, zn, zu, zv, zw]
   refine rmH [6, 14] (acH (fun K hK => ?_) (acH (fun K hK => ?_) AllReadyH.nil))
   ·
    obtain ⟨i0, hi0, hz0, hz1, hz2⟩ := info_parts25
    refine wp_append_rd (.tmp 31) (.tmp 36) 23 rfl bs 25 i0 ZN 4 56 Tryd.underlying23 hi0 hz0 hz1 hz2 rfl (by decide) (.slice (some ⟨gz, 0, none⟩) (0) 0) (0) [] rfl Ob11.out D1 l1.length d1 xs1 rfl RD1.out.2.1 RD1.out.1 (NL.len _ _ RD1.out.2.2.2) (RD1.out.2.2.1.keep (fun k _ hk => ⟨Sb11.block k (Nat.lt_of_lt_of_le hk HBS2.out), trivial⟩)) (NL.oneCell _ _ RD1.out.2.2.2) (by have := HK1.out.2.1; have := HK2.out.2.1; unfold maxLen; omega) (by have := HK1.out.2.1; have := HK2.out.2.1; omega) (Nat.le_trans HBS.out Sb11.size) ?_
    intro vb12 Wb12 hown hgrow hat
    obtain ⟨mb12, hmb12⟩ : ∃ z, 0 + l1.length = z := ⟨_, rfl⟩
    rw [hmb12] at hown
    have HMb12 := Lh hmb12
    clear hmb12
    have Sb12 : Below bs wd Wb12 := Sb11.grown hgrow (Nat.le_trans HBS.out Sb11.size) (fun q hq => (Ob11.out.lt q hq).1)
    have Ob12' := Lh hown
    obtain ⟨Ab12, cb12, hvb12⟩ := own_slice hown
    subst hvb12
    have Ob12 := Ob12'
    clear hown hgrow hat hi0 hz0 hz1 hz2
    refine hK.out _ _ Sb12 (fun _ => ?_)
    clear hK K
    try simp only [zp, zn, zu, zv, zw]
    refine rmH [12, 14] (acH (fun K hK => ?_) (acH (fun K hK => ?_) AllReadyH.nil))
    ·
     obtain ⟨i0, hi0, hz0, hz1, hz2⟩ := info_parts25
     refine wp_append_rd (.tmp 37) (.tmp 42) 23 rfl bs 25 i0 ZN 4 56 Tryd.underlying23 hi0 hz0 hz1 hz2 rfl (by decide) (.slice Ab12 (mb12) cb12) (mb12) ([] ++ xs1) rfl Ob12.out D2 l2.length d2 xs2 rfl RD2.out.2.1 RD2.out.1 (NL.len _ _ RD2.out.2.2.2) (RD2.out.2.2.1.keep (fun k _ hk => ⟨Sb12.block k (Nat.lt_of_lt_of_le hk HBS2.out), trivial⟩)) (NL.oneCell _ _ RD2.out.2.2.2) (by have := HK1.out.2.1; have := HK2.out.2.1; have := HMb12.out; unfold maxLen; omega) (by have := HK1.out.2.1; have := HK2.out.2.1; have := HMb12.out; omega) (Nat.le_trans HBS.out Sb12.size) ?_
     intro vb13 Wb13 hown hgrow hat
     obtain ⟨mb13, hmb13⟩ : ∃ z, mb12 + l2.length = z := ⟨_, rfl⟩
     rw [hmb13] at hown
     have HMb13 := Lh hmb13
     clear hmb13
     have Sb13 : Below bs wd Wb13 := Sb12.grown hgrow (Nat.le_trans HBS.out Sb12.size) (fun q hq => (Ob12.out.lt q hq).1)
     have Ob13' := Lh hown
     obtain ⟨Ab13, cb13, hvb13⟩ := own_slice hown
     subst hvb13
     have Ob13 := Ob13'
     clear hown hgrow hat hi0 hz0 hz1 hz2
     refine hK.out _ _ Sb13 (fun _ => ?_)
     clear hK K
     try simp only [zp, zn, zu, zv, zw]
     refine tgH 13 (.agg #[.int .i64 8, .string ⟨#[]⟩, .int .i64 0, .slice Ab13 (mb13) cb13]) Sb13 ?_
     refine r1H 14 (fun K hK => ?_)
     go_simp
     obtain ⟨Wb15, hW⟩ : ∃ W', Wb13.alloc (.cells #[.int .i64 0, .string ⟨#[]⟩, .int .i64 0, .slice none 0 0] 25) = W' := ⟨_, rfl⟩
     obtain ⟨n7, hn7⟩ : ∃ z, Wb13.heap.size = z := ⟨_, rfl⟩
     have hb0 : Below Wb13.heap.size Wb13 Wb15 := by rw [← hW]; exact (Below.refl _ _).alloc (Nat.le_refl _) _
     have Sb15 : Below bs wd Wb15 := Sb13.trans (hb0.mono (Nat.le_trans HBS.out Sb13.size))
     have Nb15 := Lh (show Blk Wb15 n7 25 Z4 by rw [← hW, ← hn7]; exact Blk.new _ _ _)
     have HN7 := Lh (show bs ≤ n7 by rw [← hn7]; exact Nat.le_trans HBS.out Sb13.size)
     have Ob15 := Lh (own_below Ob13.out hb0)
     have Eb15 := Lh (show ∀ g, (Value.slice Ab13 (mb13) cb13).ownBlock = some g → g ≠ n7 from fun g e => by have := (Ob13.out.lt g e).2; omega)
     rw [hW, hn7]
     clear hW hn7 hb0
     refine hK.out _ _ Sb15 (fun _ => ?_)
     clear hK K
     try simp only [zp, zn, zu, zv, zw]
     refine r1H 15 (fun K hK => ?_)
     refine wp_store_row 25 (.tmp 7) (.tmp 44) rfl n7 #[.int .i64 8, .string ⟨#[]⟩, .int .i64 0, .slice Ab13 mb13 cb13] rfl rfl _ _ Nb15.out (by rw [size25]; rfl) rfl (by simp [Value.oneCell']) ?_
     have hb8 := Lh (Blk.row Nb15.out [.int .i64 8, .string ⟨#[]⟩, .int .i64 0, .slice Ab13 mb13 cb13])
     have hk8 := Lh (Blk.kpRow (w := Wb15) (g := n7) #[.int .i64 8, .string ⟨#[]⟩, .int .i64 0, .slice Ab13 mb13 cb13])
     change Hid (Blk (Wb15.setRow n7 #[.int .i64 8, .string ⟨#[]⟩, .int .i64 0, .slice Ab13 mb13 cb13]) n7 _ _) at hb8
     have VB := Lh (show NV Wb15 (fun k => k ≠ n7) (.mk 8 [] 0 (l1 ++ l2)) (NC 8 [] 0 (.slice Ab13 mb13 cb13)) by
      obtain ⟨A, c, e, hv⟩ := both_nv (n := mb13) Ob15.out (by have h1 := HMb12.out; have h2 := HMb13.out; omega) Eb15.out HN7.out HBS2.out Sb15 RD1.out.2.2.2 RD2.out.2.2.2 HK1.out.2.1 HK2.out.2.1
      injection e with e1 _ e3
      subst e1 e3
      exact hv)
     generalize Wb15.setRow n7 #[.int .i64 8, .string ⟨#[]⟩, .int .i64 0, .slice Ab13 mb13 cb13] = Wb16 at hb8 hk8 ⊢
     have Sb16 : Below bs wd Wb16 := Sb15.trans (hk8.out.below (Nat.le_trans HBS.out Sb15.size) (fun k hk e => by have := HN7.out; omega))
     refine hK.out _ _ Sb16 (fun _ => ?_)
     clear hK K
     try simp only [zp, zn, zu, zv, zw]
     refine wpAnyH_done (by kernel_rfl) ?_ _
     try simp only [zp, zn, zu, zv, zw]
     go_wp2_with fail
     go_meet
     exact ⟨n7, Ab13, mb13, cb13, rfl, hb8, Lh (NV.keep (fun k h1 h2 => ⟨hk8.out.block k h2 h1, trivial⟩) _ _ VB.out), Lh Sb16⟩
    ·
     go_simp
     obtain ⟨Wb17, hW⟩ : ∃ W', Wb12.alloc (.cells #[.int .i64 0, .string ⟨#[]⟩, .int .i64 0, .slice none 0 0] 25) = W' := ⟨_, rfl⟩
     obtain ⟨n7, hn7⟩ : ∃ z, Wb12.heap.size = z := ⟨_, rfl⟩
     have hb0 : Below Wb12.heap.size Wb12 Wb17 := by rw [← hW]; exact (Below.refl _ _).alloc (Nat.le_refl _) _
     have Sb17 : Below bs wd Wb17 := Sb12.trans (hb0.mono (Nat.le_trans HBS.out Sb12.size))
     have Nb17 := Lh (show Blk Wb17 n7 25 Z4 by rw [← hW, ← hn7]; exact Blk.new _ _ _)
     have HN7 := Lh (show bs ≤ n7 by rw [← hn7]; exact Nat.le_trans HBS.out Sb12.size)
     have Ob17 := Lh (own_below Ob12.out hb0)
     have Eb17 := Lh (show ∀ g, (Value.slice Ab12 (mb12) cb12).ownBlock = some g → g ≠ n7 from fun g e => by have := (Ob12.out.lt g e).2; omega)
     rw [hW, hn7]
     clear hW hn7 hb0
     refine hK.out _ _ Sb17 (fun _ => ?_)
     clear hK K
     try simp only [zp, zn, zu, zv, zw]
     refine r1H 12 (fun K hK => ?_)
     obtain ⟨i0, hi0, hz0, hz1, hz2⟩ := info_parts25
     refine wp_append_rd (.tmp 37) (.tmp 42) 23 rfl bs 25 i0 ZN 4 56 Tryd.underlying23 hi0 hz0 hz1 hz2 rfl (by decide) (.slice Ab12 (mb12) cb12) (mb12) ([] ++ xs1) rfl Ob17.out D2 l2.length d2 xs2 rfl RD2.out.2.1 RD2.out.1 (NL.len _ _ RD2.out.2.2.2) (RD2.out.2.2.1.keep (fun k _ hk => ⟨Sb17.block k (Nat.lt_of_lt_of_le hk HBS2.out), trivial⟩)) (NL.oneCell _ _ RD2.out.2.2.2) (by have := HK1.out.2.1; have := HK2.out.2.1; have := HMb12.out; unfold maxLen; omega) (by have := HK1.out.2.1; have := HK2.out.2.1; have := HMb12.out; omega) (Nat.le_trans HBS.out Sb17.size) ?_
     intro vb18 Wb18 hown hgrow hat
     obtain ⟨mb18, hmb18⟩ : ∃ z, mb12 + l2.length = z := ⟨_, rfl⟩
     rw [hmb18] at hown
     have HMb18 := Lh hmb18
     clear hmb18
     have Sb18 : Below bs wd Wb18 := Sb17.grown hgrow (Nat.le_trans HBS.out Sb17.size) (fun q hq => (Ob17.out.lt q hq).1)
     have Ob18' := Lh hown
     have Nb18 := Lh ((Kp.grown (Z := fun k => some k = (Value.slice Ab12 (mb12) cb12).ownBlock) hgrow (fun _ _ e => e)).blk Nb17.out (fun e => Eb17.out _ e.symm rfl))
     have Eb18' := Lh (show ∀ g, vb18.ownBlock = some g → g ≠ n7 from fun g e => by
      rcases hat with h | h
      ·
       exact Eb17.out g (h ▸ e)
      ·
       rw [h] at e; injection e with e; have := Nb17.out.lt; omega)
     obtain ⟨Ab18, cb18, hvb18⟩ := own_slice hown
     subst hvb18
     have Ob18 := Ob18'
     have Eb18 := Eb18'
     clear hown hgrow hat hi0 hz0 hz1 hz2
     refine hK.out _ _ Sb18 (fun _ => ?_)
     clear hK K
     try simp only [zp, zn, zu, zv, zw]
     refine tgH 13 (.agg #[.int .i64 8, .string ⟨#[]⟩, .int .i64 0, .slice Ab18 (mb18) cb18]) Sb18 ?_
     refine r1H 15 (fun K hK => ?_)
     refine wp_store_row 25 (.tmp 7) (.tmp 44) rfl n7 #[.int .i64 8, .string ⟨#[]⟩, .int .i64 0, .slice Ab18 mb18 cb18] rfl rfl _ _ Nb18.out (by rw [size25]; rfl) rfl (by simp [Value.oneCell']) ?_
     have hb8 := Lh (Blk.row Nb18.out [.int .i64 8, .string ⟨#[]⟩, .int .i64 0, .slice Ab18 mb18 cb18])
     have hk8 := Lh (Blk.kpRow (w := Wb18) (g := n7) #[.int .i64 8, .string ⟨#[]⟩, .int .i64 0, .slice Ab18 mb18 cb18])
     change Hid (Blk (Wb18.setRow n7 #[.int .i64 8, .string ⟨#[]⟩, .int .i64 0, .slice Ab18 mb18 cb18]) n7 _ _) at hb8
     have VB := Lh (show NV Wb18 (fun k => k ≠ n7) (.mk 8 [] 0 (l1 ++ l2)) (NC 8 [] 0 (.slice Ab18 mb18 cb18)) by
      obtain ⟨A, c, e, hv⟩ := both_nv (n := mb18) Ob18.out (by have h1 := HMb12.out; have h2 := HMb18.out; omega) Eb18.out HN7.out HBS2.out Sb18 RD1.out.2.2.2 RD2.out.2.2.2 HK1.out.2.1 HK2.out.2.1
      injection e with e1 _ e3
      subst e1 e3
      exact hv)
     generalize Wb18.setRow n7 #[.int .i64 8, .string ⟨#[]⟩, .int .i64 0, .slice Ab18 mb18 cb18] = Wb20 at hb8 hk8 ⊢
     have Sb20 : Below bs wd Wb20 := Sb18.trans (hk8.out.below (Nat.le_trans HBS.out Sb18.size) (fun k hk e => by have := HN7.out; omega))
     refine hK.out _ _ Sb20 (fun _ => ?_)
     clear hK K
     try simp only [zp, zn, zu, zv, zw]
     refine wpAnyH_done (by kernel_rfl) ?_ _
     try simp only [zp, zn, zu, zv, zw]
     go_wp2_with fail
     go_meet
     exact ⟨n7, Ab18, mb18, cb18, rfl, hb8, Lh (NV.keep (fun k h1 h2 => ⟨hk8.out.block k h2 h1, trivial⟩) _ _ VB.out), Lh Sb20⟩
   ·
    go_simp
    obtain ⟨Wb21, hW⟩ : ∃ W', Wb11.alloc (.cells #[.int .i64 0, .string ⟨#[]⟩, .int .i64 0, .slice none 0 0] 25) = W' := ⟨_, rfl⟩
    obtain ⟨n7, hn7⟩ : ∃ z, Wb11.heap.size = z := ⟨_, rfl⟩
    have hb0 : Below Wb11.heap.size Wb11 Wb21 := by rw [← hW]; exact (Below.refl _ _).alloc (Nat.le_refl _) _
    have Sb21 : Below bs wd Wb21 := Sb11.trans (hb0.mono (Nat.le_trans HBS.out Sb11.size))
    have Nb21 := Lh (show Blk Wb21 n7 25 Z4 by rw [← hW, ← hn7]; exact Blk.new _ _ _)
    have HN7 := Lh (show bs ≤ n7 by rw [← hn7]; exact Nat.le_trans HBS.out Sb11.size)
    have Ob21 := Lh (own_below Ob11.out hb0)
    have Eb21 := Lh (show ∀ g, (Value.slice (some ⟨gz, 0, none⟩) (0) 0).ownBlock = some g → g ≠ n7 from fun g e => by have := (Ob11.out.lt g e).2; omega)
    rw [hW, hn7]
    clear hW hn7 hb0
    refine hK.out _ _ Sb21 (fun _ => ?_)
    clear hK K
    try simp only [zp, zn, zu, zv, zw]
    refine r1H 6 (fun K hK => ?_)
    obtain ⟨i0, hi0, hz0, hz1, hz2⟩ := info_parts25
    refine wp_append_rd (.tmp 31) (.tmp 36) 23 rfl bs 25 i0 ZN 4 56 Tryd.underlying23 hi0 hz0 hz1 hz2 rfl (by decide) (.slice (some ⟨gz, 0, none⟩) (0) 0) (0) [] rfl Ob21.out D1 l1.length d1 xs1 rfl RD1.out.2.1 RD1.out.1 (NL.len _ _ RD1.out.2.2.2) (RD1.out.2.2.1.keep (fun k _ hk => ⟨Sb21.block k (Nat.lt_of_lt_of_le hk HBS2.out), trivial⟩)) (NL.oneCell _ _ RD1.out.2.2.2) (by have := HK1.out.2.1; have := HK2.out.2.1; unfold maxLen; omega) (by have := HK1.out.2.1; have := HK2.out.2.1; omega) (Nat.le_trans HBS.out Sb21.size) ?_
    intro vb22 Wb22 hown hgrow hat
    obtain ⟨mb22, hmb22⟩ : ∃ z, 0 + l1.length = z := ⟨_, rfl⟩
    rw [hmb22] at hown
    have HMb22 := Lh hmb22
    clear hmb22
    have Sb22 : Below bs wd Wb22 := Sb21.grown hgrow (Nat.le_trans HBS.out Sb21.size) (fun q hq => (Ob21.out.lt q hq).1)
    have Ob22' := Lh hown
    have Nb22 := Lh ((Kp.grown (Z := fun k => some k = (Value.slice (some ⟨gz, 0, none⟩) (0) 0).ownBlock) hgrow (fun _ _ e => e)).blk Nb21.out (fun e => Eb21.out _ e.symm rfl))
    have Eb22' := Lh (show ∀ g, vb22.ownBlock = some g → g ≠ n7 from fun g e => by
     rcases hat with h | h
     ·
      exact Eb21.out g (h ▸ e)
     ·
      rw [h] at e; injection e with e; have := Nb21.out.lt; omega)
    obtain ⟨Ab22, cb22, hvb22⟩ := own_slice hown
    subst hvb22
    have Ob22 := Ob22'
    have Eb22 := Eb22'
    clear hown hgrow hat hi0 hz0 hz1 hz2
    refine hK.out _ _ Sb22 (fun _ => ?_)
    clear hK K
    try simp only [zp, zn, zu, zv, zw]
    refine r1H 12 (fun K hK => ?_)
    obtain ⟨i0, hi0, hz0, hz1, hz2⟩ := info_parts25
    refine wp_append_rd (.tmp 37) (.tmp 42) 23 rfl bs 25 i0 ZN 4 56 Tryd.underlying23 hi0 hz0 hz1 hz2 rfl (by decide) (.slice Ab22 (mb22) cb22) (mb22) ([] ++ xs1) rfl Ob22.out D2 l2.length d2 xs2 rfl RD2.out.2.1 RD2.out.1 (NL.len _ _ RD2.out.2.2.2) (RD2.out.2.2.1.keep (fun k _ hk => ⟨Sb22.block k (Nat.lt_of_lt_of_le hk HBS2.out), trivial⟩)) (NL.oneCell _ _ RD2.out.2.2.2) (by have := HK1.out.2.1; have := HK2.out.2.1; have := HMb22.out; unfold maxLen; omega) (by have := HK1.out.2.1; have := HK2.out.2.1; have := HMb22.out; omega) (Nat.le_trans HBS.out Sb22.size) ?_
    intro vb23 Wb23 hown hgrow hat
    obtain ⟨mb23, hmb23⟩ : ∃ z, mb22 + l2.length = z := ⟨_, rfl⟩
    rw [hmb23] at hown
    have HMb23 := Lh hmb23
    clear hmb23
    have Sb23 : Below bs wd Wb23 := Sb22.grown hgrow (Nat.le_trans HBS.out Sb22.size) (fun q hq => (Ob22.out.lt q hq).1)
    have Ob23' := Lh hown
    have Nb23 := Lh ((Kp.grown (Z := fun k => some k = (Value.slice Ab22 (mb22) cb22).ownBlock) hgrow (fun _ _ e => e)).blk Nb22.out (fun e => Eb22.out _ e.symm rfl))
    have Eb23' := Lh (show ∀ g, vb23.ownBlock = some g → g ≠ n7 from fun g e => by
     rcases hat with h | h
     ·
      exact Eb22.out g (h ▸ e)
     ·
      rw [h] at e; injection e with e; have := Nb22.out.lt; omega)
    obtain ⟨Ab23, cb23, hvb23⟩ := own_slice hown
    subst hvb23
    have Ob23 := Ob23'
    have Eb23 := Eb23'
    clear hown hgrow hat hi0 hz0 hz1 hz2
    refine hK.out _ _ Sb23 (fun _ => ?_)
    clear hK K
    try simp only [zp, zn, zu, zv, zw]
    refine tgH 13 (.agg #[.int .i64 8, .string ⟨#[]⟩, .int .i64 0, .slice Ab23 (mb23) cb23]) Sb23 ?_
    refine r1H 15 (fun K hK => ?_)
    refine wp_store_row 25 (.tmp 7) (.tmp 44) rfl n7 #[.int .i64 8, .string ⟨#[]⟩, .int .i64 0, .slice Ab23 mb23 cb23] rfl rfl _ _ Nb23.out (by rw [size25]; rfl) rfl (by simp [Value.oneCell']) ?_
    have hb8 := Lh (Blk.row Nb23.out [.int .i64 8, .string ⟨#[]⟩, .int .i64 0, .slice Ab23 mb23 cb23])
    have hk8 := Lh (Blk.kpRow (w := Wb23) (g := n7) #[.int .i64 8, .string ⟨#[]⟩, .int .i64 0, .slice Ab23 mb23 cb23])
    change Hid (Blk (Wb23.setRow n7 #[.int .i64 8, .string ⟨#[]⟩, .int .i64 0, .slice Ab23 mb23 cb23]) n7 _ _) at hb8
    have VB := Lh (show NV Wb23 (fun k => k ≠ n7) (.mk 8 [] 0 (l1 ++ l2)) (NC 8 [] 0 (.slice Ab23 mb23 cb23)) by
     obtain ⟨A, c, e, hv⟩ := both_nv (n := mb23) Ob23.out (by have h1 := HMb22.out; have h2 := HMb23.out; omega) Eb23.out HN7.out HBS2.out Sb23 RD1.out.2.2.2 RD2.out.2.2.2 HK1.out.2.1 HK2.out.2.1
     injection e with e1 _ e3
     subst e1 e3
     exact hv)
    generalize Wb23.setRow n7 #[.int .i64 8, .string ⟨#[]⟩, .int .i64 0, .slice Ab23 mb23 cb23] = Wb25 at hb8 hk8 ⊢
    have Sb25 : Below bs wd Wb25 := Sb23.trans (hk8.out.below (Nat.le_trans HBS.out Sb23.size) (fun k hk e => by have := HN7.out; omega))
    refine hK.out _ _ Sb25 (fun _ => ?_)
    clear hK K
    try simp only [zp, zn, zu, zv, zw]
    refine wpAnyH_done (by kernel_rfl) ?_ _
    try simp only [zp, zn, zu, zv, zw]
    go_wp2_with fail
    go_meet
    exact ⟨n7, Ab23, mb23, cb23, rfl, hb8, Lh (NV.keep (fun k h1 h2 => ⟨hk8.out.block k h2 h1, trivial⟩) _ _ VB.out), Lh Sb25⟩
  ·
   go_simp
   obtain ⟨Wb26, hW⟩ : ∃ W', wd.alloc (.cells #[.int .i64 0, .string ⟨#[]⟩, .int .i64 0, .slice none 0 0] 25) = W' := ⟨_, rfl⟩
   obtain ⟨n7, hn7⟩ : ∃ z, wd.heap.size = z := ⟨_, rfl⟩
   have hb0 : Below wd.heap.size wd Wb26 := by rw [← hW]; exact (Below.refl _ _).alloc (Nat.le_refl _) _
   have Sb26 : Below bs wd Wb26 := hs0.trans (hb0.mono (Nat.le_trans HBS.out hs0.size))
   have Nb26 := Lh (show Blk Wb26 n7 25 Z4 by rw [← hW, ← hn7]; exact Blk.new _ _ _)
   have HN7 := Lh (show bs ≤ n7 by rw [← hn7]; exact Nat.le_trans HBS.out hs0.size)
   rw [hW, hn7]
   clear hW hn7 hb0
   refine hK.out _ _ Sb26 (fun _ => ?_)
   clear hK K
   try simp only [zp, zn, zu, zv, zw]
   refine r1H 0 (fun K hK => ?_)
   refine wp_bs (vs := #[]) rfl (by simp) (bs0 _) ?_
   obtain ⟨Wb27, hW⟩ : ∃ W', Wb26.alloc (.cells #[] 25) = W' := ⟨_, rfl⟩
   obtain ⟨gz, hgz⟩ : ∃ z, Wb26.heap.size = z := ⟨_, rfl⟩
   have hb0 : Below Wb26.heap.size Wb26 Wb27 := by rw [← hW]; exact (Below.refl _ _).alloc (Nat.le_refl _) _
   have Sb27 : Below bs wd Wb27 := Sb26.trans (hb0.mono (Nat.le_trans HBS.out Sb26.size))
   have Ob27 := Lh (own_zero (show Blk Wb27 gz 25 [] by rw [← hW, ← hgz]; exact Blk.new _ _ _) (show bs ≤ gz by rw [← hgz]; exact Nat.le_trans HBS.out Sb26.size))
   have Nb27 := Lh (Nb26.out.below hb0 Nb26.out.lt)
   have Eb27 := Lh (show ∀ g, (Value.slice (some ⟨gz, 0, none⟩) 0 0).ownBlock = some g → g ≠ n7 from fun g e => by injection e with e; have := Nb26.out.lt; change gz = g at e; omega)
   rw [hW, hgz]
   clear hW hb0 hgz
   refine hK.out _ _ Sb27 (fun _ => ?_)
   clear hK K
   try simp only [zp, zn, zu, zv, zw]
   refine r1H 6 (fun K hK => ?_)
   obtain ⟨i0, hi0, hz0, hz1, hz2⟩ := info_parts25
   refine wp_append_rd (.tmp 31) (.tmp 36) 23 rfl bs 25 i0 ZN 4 56 Tryd.underlying23 hi0 hz0 hz1 hz2 rfl (by decide) (.slice (some ⟨gz, 0, none⟩) (0) 0) (0) [] rfl Ob27.out D1 l1.length d1 xs1 rfl RD1.out.2.1 RD1.out.1 (NL.len _ _ RD1.out.2.2.2) (RD1.out.2.2.1.keep (fun k _ hk => ⟨Sb27.block k (Nat.lt_of_lt_of_le hk HBS2.out), trivial⟩)) (NL.oneCell _ _ RD1.out.2.2.2) (by have := HK1.out.2.1; have := HK2.out.2.1; unfold maxLen; omega) (by have := HK1.out.2.1; have := HK2.out.2.1; omega) (Nat.le_trans HBS.out Sb27.size) ?_
   intro vb28 Wb28 hown hgrow hat
   obtain ⟨mb28, hmb28⟩ : ∃ z, 0 + l1.length = z := ⟨_, rfl⟩
   rw [hmb28] at hown
   have HMb28 := Lh hmb28
   clear hmb28
   have Sb28 : Below bs wd Wb28 := Sb27.grown hgrow (Nat.le_trans HBS.out Sb27.size) (fun q hq => (Ob27.out.lt q hq).1)
   have Ob28' := Lh hown
   have Nb28 := Lh ((Kp.grown (Z := fun k => some k = (Value.slice (some ⟨gz, 0, none⟩) (0) 0).ownBlock) hgrow (fun _ _ e => e)).blk Nb27.out (fun e => Eb27.out _ e.symm rfl))
   have Eb28' := Lh (show ∀ g, vb28.ownBlock = some g → g ≠ n7 from fun g e => by
    rcases hat with h | h
    ·
     exact Eb27.out g (h ▸ e)
    ·
     rw [h] at e; injection e with e; have := Nb27.out.lt; omega)
   obtain ⟨Ab28, cb28, hvb28⟩ := own_slice hown
   subst hvb28
   have Ob28 := Ob28'
   have Eb28 := Eb28'
   clear hown hgrow hat hi0 hz0 hz1 hz2
   refine hK.out _ _ Sb28 (fun _ => ?_)
   clear hK K
   try simp only [zp, zn, zu, zv, zw]
   refine r1H 12 (fun K hK => ?_)
   obtain ⟨i0, hi0, hz0, hz1, hz2⟩ := info_parts25
   refine wp_append_rd (.tmp 37) (.tmp 42) 23 rfl bs 25 i0 ZN 4 56 Tryd.underlying23 hi0 hz0 hz1 hz2 rfl (by decide) (.slice Ab28 (mb28) cb28) (mb28) ([] ++ xs1) rfl Ob28.out D2 l2.length d2 xs2 rfl RD2.out.2.1 RD2.out.1 (NL.len _ _ RD2.out.2.2.2) (RD2.out.2.2.1.keep (fun k _ hk => ⟨Sb28.block k (Nat.lt_of_lt_of_le hk HBS2.out), trivial⟩)) (NL.oneCell _ _ RD2.out.2.2.2) (by have := HK1.out.2.1; have := HK2.out.2.1; have := HMb28.out; unfold maxLen; omega) (by have := HK1.out.2.1; have := HK2.out.2.1; have := HMb28.out; omega) (Nat.le_trans HBS.out Sb28.size) ?_
   intro vb29 Wb29 hown hgrow hat
   obtain ⟨mb29, hmb29⟩ : ∃ z, mb28 + l2.length = z := ⟨_, rfl⟩
   rw [hmb29] at hown
   have HMb29 := Lh hmb29
   clear hmb29
   have Sb29 : Below bs wd Wb29 := Sb28.grown hgrow (Nat.le_trans HBS.out Sb28.size) (fun q hq => (Ob28.out.lt q hq).1)
   have Ob29' := Lh hown
   have Nb29 := Lh ((Kp.grown (Z := fun k => some k = (Value.slice Ab28 (mb28) cb28).ownBlock) hgrow (fun _ _ e => e)).blk Nb28.out (fun e => Eb28.out _ e.symm rfl))
   have Eb29' := Lh (show ∀ g, vb29.ownBlock = some g → g ≠ n7 from fun g e => by
    rcases hat with h | h
    ·
     exact Eb28.out g (h ▸ e)
    ·
     rw [h] at e; injection e with e; have := Nb28.out.lt; omega)
   obtain ⟨Ab29, cb29, hvb29⟩ := own_slice hown
   subst hvb29
   have Ob29 := Ob29'
   have Eb29 := Eb29'
   clear hown hgrow hat hi0 hz0 hz1 hz2
   refine hK.out _ _ Sb29 (fun _ => ?_)
   clear hK K
   try simp only [zp, zn, zu, zv, zw]
   refine tgH 13 (.agg #[.int .i64 8, .string ⟨#[]⟩, .int .i64 0, .slice Ab29 (mb29) cb29]) Sb29 ?_
   refine r1H 15 (fun K hK => ?_)
   refine wp_store_row 25 (.tmp 7) (.tmp 44) rfl n7 #[.int .i64 8, .string ⟨#[]⟩, .int .i64 0, .slice Ab29 mb29 cb29] rfl rfl _ _ Nb29.out (by rw [size25]; rfl) rfl (by simp [Value.oneCell']) ?_
   have hb8 := Lh (Blk.row Nb29.out [.int .i64 8, .string ⟨#[]⟩, .int .i64 0, .slice Ab29 mb29 cb29])
   have hk8 := Lh (Blk.kpRow (w := Wb29) (g := n7) #[.int .i64 8, .string ⟨#[]⟩, .int .i64 0, .slice Ab29 mb29 cb29])
   change Hid (Blk (Wb29.setRow n7 #[.int .i64 8, .string ⟨#[]⟩, .int .i64 0, .slice Ab29 mb29 cb29]) n7 _ _) at hb8
   have VB := Lh (show NV Wb29 (fun k => k ≠ n7) (.mk 8 [] 0 (l1 ++ l2)) (NC 8 [] 0 (.slice Ab29 mb29 cb29)) by
    obtain ⟨A, c, e, hv⟩ := both_nv (n := mb29) Ob29.out (by have h1 := HMb28.out; have h2 := HMb29.out; omega) Eb29.out HN7.out HBS2.out Sb29 RD1.out.2.2.2 RD2.out.2.2.2 HK1.out.2.1 HK2.out.2.1
    injection e with e1 _ e3
    subst e1 e3
    exact hv)
   generalize Wb29.setRow n7 #[.int .i64 8, .string ⟨#[]⟩, .int .i64 0, .slice Ab29 mb29 cb29] = Wb31 at hb8 hk8 ⊢
   have Sb31 : Below bs wd Wb31 := Sb29.trans (hk8.out.below (Nat.le_trans HBS.out Sb29.size) (fun k hk e => by have := HN7.out; omega))
   refine hK.out _ _ Sb31 (fun _ => ?_)
   clear hK K
   try simp only [zp, zn, zu, zv, zw]
   refine wpAnyH_done (by kernel_rfl) ?_ _
   try simp only [zp, zn, zu, zv, zw]
   go_wp2_with fail
   go_meet
   exact ⟨n7, Ab29, mb29, cb29, rfl, hb8, Lh (NV.keep (fun k h1 h2 => ⟨hk8.out.block k h2 h1, trivial⟩) _ _ VB.out), Lh Sb31⟩
 case rest =>
  obtain ⟨n7, A9, n9, c9, rfl, B7c, VBc, hS⟩ := hcut
  have bc : Below wa.heap.size wa wc := HBW.out.trans (HBs.out ▸ hS.out)
  have BXc := Lh (BXa.out.below bc BXa.out.lt); have BYc := Lh (BYa.out.below bc BYa.out.lt)
  have VXc := Lh (VXa.out.anyBelow bc); have VYc := Lh (VYa.out.anyBelow bc)
  have LBc := Lh (below_step LBa.out bc); have Tc := Lh (Ta.out.below bc)
  clear bc hS BXa BYa VXa VYa LBa Ta HBW HBs CX CX_lt CY CY_lt CK1 CK1_lt CK2 CK2_lt RD1 RD2 HBS HBS2 HWD hc1I hc2I
  go_upto_region 7 with (first
   | (with_reducible refine wpList_load_cells rfl 25 4 size25 (.tmp 7) rfl ⟨n7, 0, none⟩ rfl [.int .i64 8, .string ⟨#[]⟩, .int .i64 0, .slice A9 n9 c9] rfl _ Tryd.underlying25 rfl B7c.out.at ?_)
   | (with_reducible refine wpList_bs1 rfl rfl rfl ?_; intro gzc Wbc hgq hX hB; have hgzc := Lh hgq; clear hgq))
  have XG := Lh hX
  have BXh := Lh (BXc.out.below hB BXc.out.lt)
  have BYh := Lh (BYc.out.below hB BYc.out.lt)
  have VXh := Lh (VXc.out.anyBelow hB)
  have VYh := Lh (VYc.out.anyBelow hB)
  have VBh := Lh (VBc.out.anyBelow hB)
  have B7h := Lh (B7c.out.below hB B7c.out.lt)
  have LBh := Lh (below_step LBc.out hB)
  have Th := Lh (Tc.out.below hB)
  clear BXc BYc VXc VYc VBc B7c LBc Tc
  obtain ⟨ob, hob⟩ : ∃ z, Wbc.heap.size = z := ⟨_, rfl⟩
  obtain ⟨w7, hwo⟩ : ∃ w', Wbc.alloc (.cells #[.int .i64 5, .string ⟨#[112]⟩, .int .i64 0, .slice (some ⟨gzc, 0, none⟩) 1 1] 25) = w' := ⟨_, rfl⟩
  have lo : Below Wbc.heap.size Wbc w7 := by rw [← hwo]; exact (Below.refl _ _).alloc (Nat.le_refl _) _
  have BO7 := Lh (show Blk w7 ob 25 [.int .i64 5, .string ⟨#[112]⟩, .int .i64 0, .slice (some ⟨gzc, 0, none⟩) 1 1] by rw [← hwo, ← hob]; exact Blk.new _ _ _)
  have VO7 := Lh (show NV w7 Any (pr 5 [112] (l1 ++ l2)) (NC 5 [112] 0 (.slice (some ⟨gzc, 0, none⟩) 1 1)) from nv_built (l := [_]) (XG.out.below lo XG.out.lt) trivial (NL.one (VBh.out.anyBelow lo)) (fine_small (by omega) (by omega) (by omega) (by omega) (by simp)) (by simp))
  have BX7 := Lh (BXh.out.below lo BXh.out.lt)
  have BY7 := Lh (BYh.out.below lo BYh.out.lt)
  have VX7 := Lh (VXh.out.anyBelow lo)
  have VY7 := Lh (VYh.out.anyBelow lo)
  have VB7 := Lh (VBh.out.anyBelow lo)
  have B77 := Lh (B7h.out.below lo B7h.out.lt)
  have LB7 := Lh (below_step LBh.out lo)
  have T7 := Lh (Th.out.below lo)
  clear BXh BYh VXh VYh VBh B7h LBh Th
  rw [hob, hwo]
  clear lo hob hwo XG hX hB
  go_upto_region 8 with (first
   | (with_reducible refine wpList_load_cells rfl 25 4 size25 (.tmp 7) rfl ⟨n7, 0, none⟩ rfl [.int .i64 8, .string ⟨#[]⟩, .int .i64 0, .slice A9 n9 c9] rfl _ Tryd.underlying25 rfl B77.out.at ?_)
   | (with_reducible refine wpList_bs1 rfl rfl rfl ?_; intro gz7 Wb7 hgq hX hB; have hgz7 := Lh hgq; clear hgq))
  have XG := Lh hX
  have BXh := Lh (BX7.out.below hB BX7.out.lt)
  have BYh := Lh (BY7.out.below hB BY7.out.lt)
  have VXh := Lh (VX7.out.anyBelow hB)
  have VYh := Lh (VY7.out.anyBelow hB)
  have VBh := Lh (VB7.out.anyBelow hB)
  have B7h := Lh (B77.out.below hB B77.out.lt)
  have LBh := Lh (below_step LB7.out hB)
  have Th := Lh (T7.out.below hB)
  have BOh := Lh (BO7.out.below hB BO7.out.lt)
  have VOh := Lh (VO7.out.anyBelow hB)
  clear BX7 BY7 VX7 VY7 VB7 B77 LB7 T7 BO7 VO7
  obtain ⟨tb, hob⟩ : ∃ z, Wb7.heap.size = z := ⟨_, rfl⟩
  obtain ⟨w8, hwo⟩ : ∃ w', Wb7.alloc (.cells #[.int .i64 6, .string ⟨#[112]⟩, .int .i64 0, .slice (some ⟨gz7, 0, none⟩) 1 1] 25) = w' := ⟨_, rfl⟩
  have lo : Below Wb7.heap.size Wb7 w8 := by rw [← hwo]; exact (Below.refl _ _).alloc (Nat.le_refl _) _
  have BT8 := Lh (show Blk w8 tb 25 [.int .i64 6, .string ⟨#[112]⟩, .int .i64 0, .slice (some ⟨gz7, 0, none⟩) 1 1] by rw [← hwo, ← hob]; exact Blk.new _ _ _)
  have VT8 := Lh (show NV w8 Any (pr 6 [112] (l1 ++ l2)) (NC 6 [112] 0 (.slice (some ⟨gz7, 0, none⟩) 1 1)) from nv_built (l := [_]) (XG.out.below lo XG.out.lt) trivial (NL.one (VBh.out.anyBelow lo)) (fine_small (by omega) (by omega) (by omega) (by omega) (by simp)) (by simp))
  have BX8 := Lh (BXh.out.below lo BXh.out.lt)
  have BY8 := Lh (BYh.out.below lo BYh.out.lt)
  have VX8 := Lh (VXh.out.anyBelow lo)
  have VY8 := Lh (VYh.out.anyBelow lo)
  have VB8 := Lh (VBh.out.anyBelow lo)
  have B78 := Lh (B7h.out.below lo B7h.out.lt)
  have LB8 := Lh (below_step LBh.out lo)
  have T8 := Lh (Th.out.below lo)
  have BO8 := Lh (BOh.out.below lo BOh.out.lt)
  have VO8 := Lh (VOh.out.anyBelow lo)
  clear BXh BYh VXh VYh VBh B7h LBh Th BOh VOh
  rw [hob, hwo]
  clear lo hob hwo XG hX hB
  clear B78 VB8
  obtain ⟨SA, SB, SW, ST, hTx⟩ := texts_of HK1.out.1 HK2.out.1
  have HTx := Lh hTx
  have hVA := HK1.out.2.2 5 [112] (Or.inl rfl) pP.1 (by simp)
  have hVB := HK2.out.2.2 6 [113] (Or.inr rfl) pP.2 (by simp)
  have HSA := Lh (show 10 ≤ SA.length ∧ SA.length ≤ 1024 from ⟨hTx.la, by rw [← hTx.a]; exact hVA.2.2.2⟩)
  have HSB := Lh (show 10 ≤ SB.length ∧ SB.length ≤ 1024 from ⟨hTx.lb, by rw [← hTx.b]; exact hVB.2.2.2⟩)
  have HPa := Lh (print_pr (k := 5) (u := [112]) (l := l1) T8.out (nv_again VX8.out (fine_small (by omega) (by omega) (by omega) (by omega) (by simp))) hVA)
  rw [hTx.a] at HPa
  dsimp only [NC] at HPa
  have x3 := BX8.out.cell 3
  unfold NC at x3
  simp only [g0, gs] at x3
  have HVB := Lh hVB
  clear hTx hVA hVB
  go_wp2_with fail
  refine HPa.out.mono ?_
  rintro e w9 ⟨rfl, b9⟩
  have BX9 := Lh (BX8.out.below b9 BX8.out.lt)
  have BY9 := Lh (BY8.out.below b9 BY8.out.lt)
  have VX9 := Lh (VX8.out.anyBelow b9)
  have VY9 := Lh (VY8.out.anyBelow b9)
  have LB9 := Lh (below_step LB8.out b9)
  have T9 := Lh (T8.out.below b9)
  have BO9 := Lh (BO8.out.below b9 BO8.out.lt)
  have VO9 := Lh (VO8.out.anyBelow b9)
  have BT9 := Lh (BT8.out.below b9 BT8.out.lt)
  have VT9 := Lh (VT8.out.anyBelow b9)
  clear BX8 BY8 VX8 VY8 LB8 T8 BO8 VO8 BT8 VT8
  have HPb := Lh (print_pr (k := 6) (u := [113]) (l := l2) T9.out (nv_again VY9.out (fine_small (by omega) (by omega) (by omega) (by omega) (by simp))) HVB.out)
  rw [HTx.out.b] at HPb
  dsimp only [NC] at HPb
  have y3 := BY9.out.cell 3
  unfold NC at y3
  simp only [g0, gs] at y3
  clear b9 HPa x3
  go_wp2_with fail
  refine HPb.out.mono ?_
  rintro e w10 ⟨rfl, b10⟩
  have BX10 := Lh (BX9.out.below b10 BX9.out.lt)
  have BY10 := Lh (BY9.out.below b10 BY9.out.lt)
  have VX10 := Lh (VX9.out.anyBelow b10)
  have VY10 := Lh (VY9.out.anyBelow b10)
  have LB10 := Lh (below_step LB9.out b10)
  have T10 := Lh (T9.out.below b10)
  have BO10 := Lh (BO9.out.below b10 BO9.out.lt)
  have VO10 := Lh (VO9.out.anyBelow b10)
  have BT10 := Lh (BT9.out.below b10 BT9.out.lt)
  have VT10 := Lh (VT9.out.anyBelow b10)
  clear BX9 BY9 VX9 VY9 LB9 T9 BO9 VO9 BT9 VT9
  clear b10 HPb y3
  have hSAs : (⟨SA.toArray⟩ : ByteArray).size = SA.length := rfl
  have hSBs : (⟨SB.toArray⟩ : ByteArray).size = SB.length := rfl
  have hA10 : (10 : Int) ≤ (SA.length : Int) := by have := HSA.out; omega
  have hB10 : (10 : Int) ≤ (SB.length : Int) := by have := HSB.out; omega
  have hA2 : (SA.length : Int) ≤ 1024 := by have := HSA.out; omega
  have hB2 : (SB.length : Int) ≤ 1024 := by have := HSB.out; omega
  go_upto_region 12 with fail
  have HCt := Lh (show (⟨SA.toArray⟩ : ByteArray).extract 0 (SA.length - 1) ++ (⟨SB.toArray⟩ : ByteArray).extract 9 SB.length = ⟨SW.toArray⟩ by rw [ext_sv, ext_sv, cat_sv, ← HTx.out.cut, List.drop_zero, Nat.sub_zero, List.take_of_length_le (l := SB.drop 9) (by rw [List.length_drop]; omega)])
  have qa1 : IntKind.i64.wrap ((SA.length : Int) - 1) = (SA.length : Int) - 1 := IntWalk.i64_in _ (by omega)
  have qx1 : ((SA.length : Int) - 1).toNat = SA.length - 1 := by omega
  have qx2 : (0 : Int) ≤ (SA.length : Int) - 1 := by omega
  have qx3 : (SA.length : Int) - 1 ≤ (SA.length : Int) := by omega
  have qx4 : (9 : Int) ≤ (SB.length : Int) := by omega
  have qx5 : (SA.length - 1) + (SB.length - 9) ≤ 9000 := by omega
  refine wp_region_any (by kernel_rfl) ?_
  change wpAny _ _ _ _ _ _ _ (World.drew w10)
  have BX11 := Lh (BX10.out.below ((Below.refl w10.heap.size w10).drew) BX10.out.lt)
  have BY11 := Lh (BY10.out.below ((Below.refl w10.heap.size w10).drew) BY10.out.lt)
  have VX11 := Lh (VX10.out.anyBelow ((Below.refl w10.heap.size w10).drew))
  have VY11 := Lh (VY10.out.anyBelow ((Below.refl w10.heap.size w10).drew))
  have LB11 := Lh (below_step LB10.out ((Below.refl w10.heap.size w10).drew))
  have T11 := Lh (T10.out.below ((Below.refl w10.heap.size w10).drew))
  have BO11 := Lh (BO10.out.below ((Below.refl w10.heap.size w10).drew) BO10.out.lt)
  have VO11 := Lh (VO10.out.anyBelow ((Below.refl w10.heap.size w10).drew))
  have BT11 := Lh (BT10.out.below ((Below.refl w10.heap.size w10).drew) BT10.out.lt)
  have VT11 := Lh (VT10.out.anyBelow ((Below.refl w10.heap.size w10).drew))
  clear BX10 BY10 VX10 VY10 LB10 T10 BO10 VO10 BT10 VT10
  generalize World.drew w10 = w11 at BX11 BY11 VX11 VY11 LB11 T11 BO11 VO11 BT11 VT11 ⊢
  refine tg 0 (sv SA) ?_
  refine tg 1 (sv SA) ?_
  refine tg 2 (.int .i64 (SA.length : Int)) ?_
  refine tg 3 (.int .i64 ((SA.length : Int) - 1)) ?_
  refine tf 4 (.string ((⟨SA.toArray⟩ : ByteArray).extract 0 (SA.length - 1))) ?_ ?_
  exact fun W => (by go_simp; intro h; omega)
  refine tg 5 (sv SB) ?_
  refine tg 6 (.string ((⟨SB.toArray⟩ : ByteArray).extract 9 SB.length)) ?_
  refine tf 7 (sv SW) ?_ ?_
  exact fun W => (by go_simp; rw [if_neg (by omega), HCt.out])
  refine tg 8 (sv SW) ?_
  refine wpAny_done (by kernel_rfl) ?_ _
  try simp only [zp, zn, zu, zv, zw]
  go_upto_region 13 with fail
  clear BX11 BY11 VX11 VY11 qa1 qx1 qx2 qx3 qx4 qx5 hA10 hB10 hA2 hB2 HCt
  have hSWs : (⟨SW.toArray⟩ : ByteArray).size = SW.length := rfl
  by_cases hlong : 1024 < SW.length
  ·
   have hWI : (1024 : Int) < (SW.length : Int) := by omega
   have hnO : ¬ vDef (pr 5 [112] (l1 ++ l2)) := fun h => by have h2 := h.2.2.2; rw [HTx.out.w] at h2; omega
   have hnT : ¬ vDef (pr 6 [112] (l1 ++ l2)) := fun h => by have h2 := h.2.2.2; rw [HTx.out.t, HTx.out.lt] at h2; omega
   have HVo := Lh (invalid_pr (k := 5) (u := [112]) T11.out VO11.out hnO)
   have HnT := Lh hnT
   clear hnO hnT hlong
   dsimp only [NC] at HVo
   have o0 := BO11.out.cell 0; have o1 := BO11.out.cell 1; have o2 := BO11.out.cell 2; have o3 := BO11.out.cell 3
   simp only [g0, gs] at o0 o1 o2 o3
   go_wp2_with fail
   refine HVo.out.mono ?_
   rintro e w12 ⟨rfl, b12⟩
   clear o0 o1 o2 o3 HVo
   have LB12 := Lh (below_step LB11.out b12)
   have T12 := Lh (T11.out.below b12)
   have BT12 := Lh (BT11.out.below b12 BT11.out.lt)
   have VT12 := Lh (VT11.out.anyBelow b12)
   clear LB11 T11 BT11 VT11
   clear b12
   have HVt := Lh (invalid_pr (k := 6) (u := [112]) T12.out VT12.out HnT.out)
   dsimp only [NC] at HVt
   have q0 := BT12.out.cell 0; have q1 := BT12.out.cell 1; have q2 := BT12.out.cell 2; have q3 := BT12.out.cell 3
   simp only [g0, gs] at q0 q1 q2 q3
   go_wp2_with fail
   refine HVt.out.mono ?_
   rintro e w13 ⟨rfl, b13⟩
   clear q0 q1 q2 q3 HVt
   have LB13 := Lh (below_step LB12.out b13)
   have T13 := Lh (T12.out.below b13)
   clear LB12 T12
   clear b13
   have HLv := Lh (lives_any T13.out)
   go_wp2_with fail
   refine HLv.out.mono ?_
   rintro e w14 ⟨rfl, b14⟩
   have LB14 := Lh (below_step LB13.out b14)
   clear b14 HLv
   go_wp2_with fail
   exact bodyPost_ret (v := .bool true) (by simp [results]) rfl ⟨rfl, LB14.out⟩
  ·
   have hWI : ¬ (1024 : Int) < (SW.length : Int) := by omega
   have hvO : vDef (pr 5 [112] (l1 ++ l2)) := (vd_pr (Or.inl rfl) pP.1 (fun x hx => (List.mem_append.1 hx).elim (HK1.out.1 x) (HK2.out.1 x))).2 (by rw [HTx.out.w]; omega)
   have hvT : vDef (pr 6 [112] (l1 ++ l2)) := (vd_pr (Or.inr rfl) pP.1 (fun x hx => (List.mem_append.1 hx).elim (HK1.out.1 x) (HK2.out.1 x))).2 (by rw [HTx.out.t, HTx.out.lt]; omega)
   have HVO := Lh hvO
   have HVT := Lh hvT
   have hW4 : (4 : Int) ≤ (SW.length : Int) := by have := HTx.out.l4; omega
   have HSWl := Lh (show SW.length ≤ 1024 by omega)
   have hW5 : 4 + (SW.length - 4) ≤ 9000 := by omega
   have HCu := Lh (show (⟨#[116, 101, 115, 116]⟩ : ByteArray) ++ (⟨SW.toArray⟩ : ByteArray).extract 4 SW.length = ⟨ST.toArray⟩ by
    rw [ext_sv, ← HTx.out.two, List.take_of_length_le (l := SW.drop 4) (by rw [List.length_drop]; omega)]
    exact cat_sv [116, 101, 115, 116] _)
   clear hvO hvT hlong
   go_upto_region 15 with fail
   obtain ⟨wx, hwx⟩ : ∃ w', w' = World.drew w11 := ⟨_, rfl⟩
   have kx : Below w11.heap.size w11 wx := by rw [hwx]; exact (Below.refl _ _).drew
   have LBx := Lh (below_step LB11.out kx)
   have Tx := Lh (T11.out.below kx)
   have BOx := Lh (BO11.out.below kx BO11.out.lt)
   have VOx := Lh (VO11.out.anyBelow kx)
   have BTx := Lh (BT11.out.below kx BT11.out.lt)
   have VTx := Lh (VT11.out.anyBelow kx)
   clear LB11 T11 BO11 VO11 BT11 VT11
   have HPo : Hid (∀ W, Below wx.heap.size wx W → Calls Tryd.prog 6 #[.agg #[.int .i64 5, .string ⟨#[112]⟩, .int .i64 0, .slice (some ⟨gzc, 0, none⟩) 1 1]] W fun en w' => en = .returned (sv SW) ∧ Below W.heap.size W w') := Lh (fun W hW => by
    have h := print_pr (k := 5) (u := [112]) (Tx.out.below hW) (VOx.out.anyBelow hW) HVO.out
    rw [HTx.out.w] at h; exact h)
   have HPt : Hid (∀ W, Below wx.heap.size wx W → Calls Tryd.prog 6 #[.agg #[.int .i64 6, .string ⟨#[112]⟩, .int .i64 0, .slice (some ⟨gz7, 0, none⟩) 1 1]] W fun en w' => en = .returned (sv ST) ∧ Below W.heap.size W w') := Lh (fun W hW => by
    have h := print_pr (k := 6) (u := [112]) (Tx.out.below hW) (VTx.out.anyBelow hW) HVT.out
    rw [HTx.out.t] at h; exact h)
   have HLv : Hid (∀ W, Below wx.heap.size wx W → Calls Tryd.prog 12 #[] W fun en w' => en = .returned (.bool true) ∧ Below W.heap.size W w') := Lh (fun W hW => lives_any (Tx.out.below hW))
   refine wp_region_held (S := fun W => Below wx.heap.size wx W) (by kernel_rfl) ?_
   change wpAnyH _ _ _ _ _ _ _ _ (World.drew w11)
   rw [← hwx]
   clear kx hwx
   have hs0 : Below wx.heap.size wx wx := Below.refl _ _
   refine tfH 0 (.agg #[.int .i64 5, .string ⟨#[112]⟩, .int .i64 0, .slice (some ⟨gzc, 0, none⟩) 1 1]) hs0 ?_ ?_
   exact fun W hW => by have hb := BOx.out.below hW BOx.out.lt; have c0 := hb.cell 0; have c1 := hb.cell 1; have c2 := hb.cell 2; have c3 := hb.cell 3; simp only [g0, gs] at c0 c1 c2 c3; go_simp
   refine tgH 2 (sv SW) hs0 ?_
   refine r1H 1 (fun K hK => ?_)
   go_simp
   refine (HPo.out wx hs0).mono ?_
   rintro e Wc3 ⟨rfl, hbc⟩
   have Sc3 : Below wx.heap.size wx Wc3 := below_step hs0 hbc
   clear hbc
   go_wp2_with fail
   refine hK.out _ _ Sc3 (fun _ => ?_)
   clear hK K
   try simp only [zp, zn, zu, zv, zw]
   refine tfH 3 (.bool true) Sc3 ?_ ?_
   exact fun W hW => by have hq := same_sv SW; go_simp
   refine tgH 4 (.bool true) Sc3 ?_
   refine tfH 5 (.agg #[.int .i64 6, .string ⟨#[112]⟩, .int .i64 0, .slice (some ⟨gz7, 0, none⟩) 1 1]) Sc3 ?_ ?_
   exact fun W hW => by have hb := BTx.out.below hW BTx.out.lt; have c0 := hb.cell 0; have c1 := hb.cell 1; have c2 := hb.cell 2; have c3 := hb.cell 3; simp only [g0, gs] at c0 c1 c2 c3; go_simp
   refine tgH 7 (sv SW) Sc3 ?_
   refine tgH 8 (.string ((⟨SW.toArray⟩ : ByteArray).extract 4 SW.length)) Sc3 ?_
   refine tfH 9 (sv ST) Sc3 ?_ ?_
   exact fun W hW => by go_simp; rw [if_neg (by omega), HCu.out]
   refine r1H 6 (fun K hK => ?_)
   go_simp
   refine (HPt.out Wc3 Sc3).mono ?_
   rintro e Wc10 ⟨rfl, hbc⟩
   have Sc10 : Below wx.heap.size wx Wc10 := below_step Sc3 hbc
   clear hbc
   go_wp2_with fail
   refine hK.out _ _ Sc10 (fun _ => ?_)
   clear hK K
   try simp only [zp, zn, zu, zv, zw]
   refine tfH 10 (.bool true) Sc10 ?_ ?_
   exact fun W hW => by have hq := same_sv ST; go_simp
   refine tgH 11 (.bool true) Sc10 ?_
   refine tgH 12 (.bool true) Sc10 ?_
   refine r1H 13 (fun K hK => ?_)
   go_simp
   refine (HLv.out Wc10 Sc10).mono ?_
   rintro e Wc14 ⟨rfl, hbc⟩
   have Sc14 : Below wx.heap.size wx Wc14 := below_step Sc10 hbc
   clear hbc
   go_wp2_with fail
   refine hK.out _ _ Sc14 (fun _ => ?_)
   clear hK K
   try simp only [zp, zn, zu, zv, zw]
   refine tgH 14 (.bool true) Sc14 ?_
   refine tgH 15 (.bool true) Sc14 ?_
   refine wpAnyH_done (by kernel_rfl) ?_ _
   try simp only [zp, zn, zu, zv, zw]
   go_wp2_with fail
   exact bodyPost_ret (v := .bool true) (by simp [results]) rfl ⟨rfl, below_step LBx.out Sc14⟩
end
end Go.Proofs.YtpbhgebblpdmnaaDoor
