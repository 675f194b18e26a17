/-
  Contracts and words of several parts of the program (Od, Oe), one after the other.
  Conditions: those that each says.
-/
import Derived.Test.YtpbhgebblpdmnaaDoorZ
import Derived.Test.YtpbhgebblpdmnaaDoorGm
namespace Go.Proofs.YtpbhgebblpdmnaaDoor
open Go.RowKit Wr Src
set_option linter.unusedVariables false
set_option maxRecDepth 100000
section
variable {g : Nat} {v : Value} {L : List Int}
set_option maxHeartbeats 8000000 in
theorem one_recv (d : Nat) (hd : d ≤ 3) {i : Nat} {w : World} (h : MS g w v L i) (hi : i + Ko d ≤ 10000000) (hlt : i < L.length) (hc : tkN L i 17 = 7) : Calls Tryd.prog 15 #[pt g, nv d] w (GOut g w v L (SG L.length i d)) := by
 have z1 := zero25
 obtain ⟨A, c, hv, hcc, _⟩ := h.l.f
 subst hv
 obtain ⟨wb, hwb⟩ : ∃ wb, wb = w.heap.size := ⟨_, rfl⟩
 have HWb := Lh hwb.symm
 obtain ⟨w0, hw0⟩ : ∃ w0, w0 = w.alloc (.cells #[.int .i64 0, .string ⟨#[]⟩, .int .i64 0, .slice none 0 0] 25) := ⟨_, rfl⟩
 have l0 : Below w.heap.size w w0 := by rw [hw0]; exact (Below.refl _ _).alloc (Nat.le_refl _) _
 have Z0 := Lh (show Blk w0 wb 25 Z4 by rw [hw0, hwb]; exact Blk.new w _ _)
 have L0 := Lh l0
 have HG := Lh (show g < wb by have := h.lt; omega)
 have HWB := Lh hwb
 have W0 := Lh hw0
 have HI := Lh (show i + Ko d ≤ 10000000 ∧ 23 ≤ Ko d from ⟨hi, Ko_23 d⟩)
 have HLt := Lh hlt
 have HC0 := Lh hc
 have HD := Lh hd
 have HT := Lh (take_any (h.below l0) (by omega) 17 (by omega) (by omega))
 clear h hwb hw0 l0 hcc hi hlt hc hd
 go_enter Tryd.func15, Tryd.ntmps15
 go_upto_region 1 with fail
 rw [HWb.out]
 rw [← W0.out]
 go_wp2_with fail
 refine HT.out.mono ?_
 rintro e w1 ⟨r, hr, hr0, rfl, m1, k1⟩
 have hrc : r = 7 := hr0.eq.trans HC0.out
 subst hrc
 have HZ1 := Lh (k1.blk Z0.out (by have := HG.out; omega))
 have HK1 := Lh ((Kp.of_below' (Z := fun k => k = g) L0.out).trans k1 (fun _ _ h => h))
 have M1 := Lh m1
 clear hr hr0 m1 k1 Z0 L0 HT
 go_upto_region 2 with fail
 obtain ⟨nb, hnb⟩ : ∃ z, w1.heap.size = z := ⟨_, rfl⟩
 obtain ⟨w2, hw2⟩ : ∃ w', w1.alloc (.cells #[.int .i64 16, .string ⟨#[]⟩, .int .i64 0, .slice none 0 0] 25) = w' := ⟨_, rfl⟩
 have l2 : Below w1.heap.size w1 w2 := by rw [← hw2]; exact (Below.refl _ _).alloc (Nat.le_refl _) _
 have B2 := Lh (show Blk w2 nb 25 [.int .i64 16, .string ⟨#[]⟩, .int .i64 0, .slice none 0 0] by rw [← hw2, ← hnb]; exact Blk.new w1 _ _)
 have G2 := Lh (show GS g wb nb w w2 (.slice A L.length c) L (i + 1) from ⟨M1.out.below l2, HZ1.out.below l2 HZ1.out.lt, HK1.out.trans (Kp.of_below' (Z := fun _ => False) l2) (fun _ _ h => h.elim), HWB.out, HG.out, by have := HZ1.out.lt; omega, B2.out.lt⟩)
 rw [hnb, hw2]
 clear l2 hw2 hnb M1 HZ1 HK1 W0
 go_cut [22] (fun s22 wx => s22 = .bool false ∧ w2 = wx)
 case first =>
  have b0 := B2.out.cell 0
  simp only [g0, gs] at b0
  by_cases hd0 : d = 0
  ·
   subst hd0
   have hdI : ((0 : Nat) : Int) ≤ 0 := by omega
   go_wp2_with fail
   go_meet
   exact ⟨rfl, rfl⟩
  ·
   have hdI : ¬ (d : Int) ≤ 0 := by omega
   clear hd0
   go_wp2_with fail
   go_meet
   exact ⟨rfl, rfl⟩
 case rest =>
  obtain ⟨rfl, rfl⟩ := hcut
  have b0 := B2.out.cell 0
  simp only [g0, gs] at b0
  go_upto_region 28 with fail
  clear b0
  have HCx1 := Lh (called_any G2.out.m (by have := HI.out; omega))
  go_wp2_with fail
  refine HCx1.out.mono ?_
  rintro e Wx1 ⟨tx1, rfl, ht, hta, hm, hk⟩
  have Gx1 := Lh (G2.out.call hm hk)
  have Bx1 := Lh (hk.blk B2.out (by obtain ⟨q1, q2, q3, q4⟩ := G2.out.h; omega))
  have Tx1 := Lh (And.intro ht hta)
  have htlx1 : tx1.length ≤ 16 := (called_ok tx1 ht).2
  clear hm hk ht hta HCx1
  have bx2 := Bx1.out.cell 1; have fbx2 := Bx1.out.frozen 1
  simp only [g0, gs] at bx2
  go_upto_region 29 with fail
  obtain ⟨Wx3, hW⟩ : ∃ W', Wx1.setCell ⟨nb, 1, none⟩ (.string ⟨tx1.toArray⟩) = W' := ⟨_, rfl⟩
  have Gx3 := Lh (Gx1.out.keep (Kp.setCell (Z := fun k => k = nb) Wx1 ⟨nb, 1, none⟩ (.string ⟨tx1.toArray⟩) rfl) (fun j e => by obtain ⟨q1, q2, q3, q4⟩ := Gx1.out.h; omega))
  have Bx3 := Lh (show Blk (Wx1.setCell ⟨nb, 1, none⟩ (.string ⟨tx1.toArray⟩)) nb 25 [.int .i64 16, .string ⟨tx1.toArray⟩, .int .i64 0, .slice none 0 0] from Bx1.out.put 1 _)
  rw [hW] at Gx3 Bx3 ⊢
  clear hW bx2 fbx2
  have HCx4 := Lh (own_any Gx3.out.m (by have := HI.out; omega))
  go_wp2_with fail
  refine HCx4.out.mono ?_
  rintro e Wx4 ⟨tx4, rfl, ht, hta, hm, hk⟩
  have Gx4 := Lh (Gx3.out.call hm hk)
  have Bx4 := Lh (hk.blk Bx3.out (by obtain ⟨q1, q2, q3, q4⟩ := Gx3.out.h; omega))
  have Tx4 := Lh (And.intro ht hta)
  have htlx4 : tx4.length ≤ 16 := (own_ok tx4 ht).2
  clear hm hk ht hta HCx4
  go_upto_region 41 with (first | (with_reducible refine wpList_bs1 rfl rfl rfl ?_; intro gzx5 Wbx5 hgq hXx5 hBx5; have hgzx5 := Lh hgq; clear hgq; have bqx5 := (Blk.below Bx4.out hBx5 Bx4.out.lt).cell 3; have fqx5 := (Blk.below Bx4.out hBx5 Bx4.out.lt).frozen 3; simp only [g0, gs] at bqx5))
  have Gx5 := Lh (Gx4.out.keep (Kp.of_below' (Z := fun _ => False) hBx5) (fun _ h => h.elim))
  have Bx5 := Lh (Bx4.out.below hBx5 Bx4.out.lt)
  have Xx5 := Lh hXx5
  have Xx5_g := Lh (show nb < gzx5 by have := Gx4.out.fit; have h9 := hgzx5.out; omega)
  clear hXx5 hBx5 hgzx5
  have bzx5 := bqx5; have fbzx5 := fqx5
  clear bqx5 fqx5
  obtain ⟨Wx6, hW⟩ : ∃ W', Wbx5.setCell ⟨nb, 3, none⟩ (.slice (some ⟨gzx5, 0, none⟩) 1 1) = W' := ⟨_, rfl⟩
  have Gx6 := Lh (Gx5.out.keep (Kp.setCell (Z := fun k => k = nb) Wbx5 ⟨nb, 3, none⟩ (.slice (some ⟨gzx5, 0, none⟩) 1 1) rfl) (fun j e => by obtain ⟨q1, q2, q3, q4⟩ := Gx5.out.h; omega))
  have Bx6 := Lh (show Blk (Wbx5.setCell ⟨nb, 3, none⟩ (.slice (some ⟨gzx5, 0, none⟩) 1 1)) nb 25 [.int .i64 16, .string ⟨tx1.toArray⟩, .int .i64 0, .slice (some ⟨gzx5, 0, none⟩) 1 1] from Bx5.out.put 3 _)
  have Xx60 := Lh ((Kp.setCell (Z := fun k => k = nb) Wbx5 ⟨nb, 3, none⟩ (.slice (some ⟨gzx5, 0, none⟩) 1 1) rfl).blk Xx5.out (by have := Xx5_g.out; omega))
  have Xx60_g := Xx5_g
  rw [hW] at Gx6 Bx6 Xx60 ⊢
  clear hW bzx5 fbzx5
  have Z3 : Hid (Blk Wx6 wb 25 [.int .i64 0, .string ⟨#[]⟩, .int .i64 0, .slice none 0 0]) := Lh Gx6.out.z
  have HV := Lh (show NV Wx6 (fun k => wb < k) (.mk 16 tx1 (0) [.mk 33 tx4 0 []]) (NC 16 tx1 (0) (.slice (some ⟨gzx5, 0, none⟩) 1 1)) from nv_built (l := [_]) (xs := NC 33 tx4 0 (.slice none 0 0)) Xx60.out (by have := Xx60_g.out; obtain ⟨q1, q2, q3, q4⟩ := Gx6.out.h; omega) (NL.one (NV.leaf (fine_small (by omega) (by omega) (by omega) (by omega) (by omega)))) (fine_small (by omega) (by omega) (by omega) (by omega) (by omega)) (by simp))
  have HH := Lh Gx6.out.h
  go_wp2_with (first
   | (with_reducible refine wpList_load_cells rfl 25 4 size25 (.tmp 5) rfl ⟨nb, 0, none⟩ rfl [.int .i64 16, .string ⟨tx1.toArray⟩, .int .i64 0, .slice (some ⟨gzx5, 0, none⟩) 1 1] rfl _ Tryd.underlying25 rfl Bx6.out.at ?_)
   | (with_reducible refine wpList_store_blk rfl 25 4 size25 (.tmp 4) (.tmp 138) rfl wb [.int .i64 16, .string ⟨tx1.toArray⟩, .int .i64 0, .slice (some ⟨gzx5, 0, none⟩) 1 1] rfl rfl _ Z3.out rfl rfl rfl ?_; intro w8 hb8 hk8))
  exact bodyPost_ret (v := .agg (NC 16 tx1 (0) (.slice (some ⟨gzx5, 0, none⟩) 1 1)).toArray) (box_res 4 size25 rfl _ _ wb (NC 16 tx1 (0) (.slice (some ⟨gzx5, 0, none⟩) 1 1)) _ rfl hb8 rfl Tryd.underlying25 rfl) rfl ⟨.mk 16 tx1 (0) [.mk 33 tx4 0 []], _, _, rfl, sg_recv (k := 16) (by omega) HLt.out Tx1.out.1 Tx1.out.2 Tx4.out.1 Tx4.out.2, Gx6.out.m.kp hk8 (fun j e => by have := HH.out; omega), NV.keep (fun k h1 h2 => ⟨hk8.block k h2 (fun e => by have := HH.out; omega), by have := HH.out; omega⟩) _ _ HV.out, Gx6.out.k.trans hk8 (fun k hk e => by have := HH.out; omega), by have h1 := hk8.size; have h2 := HH.out; omega⟩
set_option maxHeartbeats 8000000 in
theorem one_read (d : Nat) (hd : d ≤ 3) {i : Nat} {w : World} (h : MS g w v L i) (hi : i + Ko d ≤ 10000000) (hlt : i < L.length) (hc : tkN L i 17 = 14) : Calls Tryd.prog 15 #[pt g, nv d] w (GOut g w v L (SG L.length i d)) := by
 have z1 := zero25
 obtain ⟨A, c, hv, hcc, _⟩ := h.l.f
 subst hv
 obtain ⟨wb, hwb⟩ : ∃ wb, wb = w.heap.size := ⟨_, rfl⟩
 have HWb := Lh hwb.symm
 obtain ⟨w0, hw0⟩ : ∃ w0, w0 = w.alloc (.cells #[.int .i64 0, .string ⟨#[]⟩, .int .i64 0, .slice none 0 0] 25) := ⟨_, rfl⟩
 have l0 : Below w.heap.size w w0 := by rw [hw0]; exact (Below.refl _ _).alloc (Nat.le_refl _) _
 have Z0 := Lh (show Blk w0 wb 25 Z4 by rw [hw0, hwb]; exact Blk.new w _ _)
 have L0 := Lh l0
 have HG := Lh (show g < wb by have := h.lt; omega)
 have HWB := Lh hwb
 have W0 := Lh hw0
 have HI := Lh (show i + Ko d ≤ 10000000 ∧ 23 ≤ Ko d from ⟨hi, Ko_23 d⟩)
 have HLt := Lh hlt
 have HC0 := Lh hc
 have HD := Lh hd
 have HT := Lh (take_any (h.below l0) (by omega) 17 (by omega) (by omega))
 clear h hwb hw0 l0 hcc hi hlt hc hd
 go_enter Tryd.func15, Tryd.ntmps15
 go_upto_region 1 with fail
 rw [HWb.out]
 rw [← W0.out]
 go_wp2_with fail
 refine HT.out.mono ?_
 rintro e w1 ⟨r, hr, hr0, rfl, m1, k1⟩
 have hrc : r = 14 := hr0.eq.trans HC0.out
 subst hrc
 have HZ1 := Lh (k1.blk Z0.out (by have := HG.out; omega))
 have HK1 := Lh ((Kp.of_below' (Z := fun k => k = g) L0.out).trans k1 (fun _ _ h => h))
 have M1 := Lh m1
 clear hr hr0 m1 k1 Z0 L0 HT
 go_upto_region 2 with fail
 obtain ⟨nb, hnb⟩ : ∃ z, w1.heap.size = z := ⟨_, rfl⟩
 obtain ⟨w2, hw2⟩ : ∃ w', w1.alloc (.cells #[.int .i64 23, .string ⟨#[]⟩, .int .i64 0, .slice none 0 0] 25) = w' := ⟨_, rfl⟩
 have l2 : Below w1.heap.size w1 w2 := by rw [← hw2]; exact (Below.refl _ _).alloc (Nat.le_refl _) _
 have B2 := Lh (show Blk w2 nb 25 [.int .i64 23, .string ⟨#[]⟩, .int .i64 0, .slice none 0 0] by rw [← hw2, ← hnb]; exact Blk.new w1 _ _)
 have G2 := Lh (show GS g wb nb w w2 (.slice A L.length c) L (i + 1) from ⟨M1.out.below l2, HZ1.out.below l2 HZ1.out.lt, HK1.out.trans (Kp.of_below' (Z := fun _ => False) l2) (fun _ _ h => h.elim), HWB.out, HG.out, by have := HZ1.out.lt; omega, B2.out.lt⟩)
 rw [hnb, hw2]
 clear l2 hw2 hnb M1 HZ1 HK1 W0
 go_cut [22] (fun s22 wx => s22 = .bool false ∧ w2 = wx)
 case first =>
  have b0 := B2.out.cell 0
  simp only [g0, gs] at b0
  by_cases hd0 : d = 0
  ·
   subst hd0
   have hdI : ((0 : Nat) : Int) ≤ 0 := by omega
   go_wp2_with fail
   go_meet
   exact ⟨rfl, rfl⟩
  ·
   have hdI : ¬ (d : Int) ≤ 0 := by omega
   clear hd0
   go_wp2_with fail
   go_meet
   exact ⟨rfl, rfl⟩
 case rest =>
  obtain ⟨rfl, rfl⟩ := hcut
  have b0 := B2.out.cell 0
  simp only [g0, gs] at b0
  go_upto_region 28 with fail
  clear b0
  have HCx1 := Lh (called_any G2.out.m (by have := HI.out; omega))
  go_wp2_with fail
  refine HCx1.out.mono ?_
  rintro e Wx1 ⟨tx1, rfl, ht, hta, hm, hk⟩
  have Gx1 := Lh (G2.out.call hm hk)
  have Bx1 := Lh (hk.blk B2.out (by obtain ⟨q1, q2, q3, q4⟩ := G2.out.h; omega))
  have Tx1 := Lh (And.intro ht hta)
  have htlx1 : tx1.length ≤ 16 := (called_ok tx1 ht).2
  clear hm hk ht hta HCx1
  have bx2 := Bx1.out.cell 1; have fbx2 := Bx1.out.frozen 1
  simp only [g0, gs] at bx2
  go_upto_region 29 with fail
  obtain ⟨Wx3, hW⟩ : ∃ W', Wx1.setCell ⟨nb, 1, none⟩ (.string ⟨tx1.toArray⟩) = W' := ⟨_, rfl⟩
  have Gx3 := Lh (Gx1.out.keep (Kp.setCell (Z := fun k => k = nb) Wx1 ⟨nb, 1, none⟩ (.string ⟨tx1.toArray⟩) rfl) (fun j e => by obtain ⟨q1, q2, q3, q4⟩ := Gx1.out.h; omega))
  have Bx3 := Lh (show Blk (Wx1.setCell ⟨nb, 1, none⟩ (.string ⟨tx1.toArray⟩)) nb 25 [.int .i64 23, .string ⟨tx1.toArray⟩, .int .i64 0, .slice none 0 0] from Bx1.out.put 1 _)
  rw [hW] at Gx3 Bx3 ⊢
  clear hW bx2 fbx2
  have HCx4 := Lh (own_any Gx3.out.m (by have := HI.out; omega))
  go_wp2_with fail
  refine HCx4.out.mono ?_
  rintro e Wx4 ⟨tx4, rfl, ht, hta, hm, hk⟩
  have Gx4 := Lh (Gx3.out.call hm hk)
  have Bx4 := Lh (hk.blk Bx3.out (by obtain ⟨q1, q2, q3, q4⟩ := Gx3.out.h; omega))
  have Tx4 := Lh (And.intro ht hta)
  have htlx4 : tx4.length ≤ 16 := (own_ok tx4 ht).2
  clear hm hk ht hta HCx4
  go_upto_region 41 with (first | (with_reducible refine wpList_bs1 rfl rfl rfl ?_; intro gzx5 Wbx5 hgq hXx5 hBx5; have hgzx5 := Lh hgq; clear hgq; have bqx5 := (Blk.below Bx4.out hBx5 Bx4.out.lt).cell 3; have fqx5 := (Blk.below Bx4.out hBx5 Bx4.out.lt).frozen 3; simp only [g0, gs] at bqx5))
  have Gx5 := Lh (Gx4.out.keep (Kp.of_below' (Z := fun _ => False) hBx5) (fun _ h => h.elim))
  have Bx5 := Lh (Bx4.out.below hBx5 Bx4.out.lt)
  have Xx5 := Lh hXx5
  have Xx5_g := Lh (show nb < gzx5 by have := Gx4.out.fit; have h9 := hgzx5.out; omega)
  clear hXx5 hBx5 hgzx5
  have bzx5 := bqx5; have fbzx5 := fqx5
  clear bqx5 fqx5
  obtain ⟨Wx6, hW⟩ : ∃ W', Wbx5.setCell ⟨nb, 3, none⟩ (.slice (some ⟨gzx5, 0, none⟩) 1 1) = W' := ⟨_, rfl⟩
  have Gx6 := Lh (Gx5.out.keep (Kp.setCell (Z := fun k => k = nb) Wbx5 ⟨nb, 3, none⟩ (.slice (some ⟨gzx5, 0, none⟩) 1 1) rfl) (fun j e => by obtain ⟨q1, q2, q3, q4⟩ := Gx5.out.h; omega))
  have Bx6 := Lh (show Blk (Wbx5.setCell ⟨nb, 3, none⟩ (.slice (some ⟨gzx5, 0, none⟩) 1 1)) nb 25 [.int .i64 23, .string ⟨tx1.toArray⟩, .int .i64 0, .slice (some ⟨gzx5, 0, none⟩) 1 1] from Bx5.out.put 3 _)
  have Xx60 := Lh ((Kp.setCell (Z := fun k => k = nb) Wbx5 ⟨nb, 3, none⟩ (.slice (some ⟨gzx5, 0, none⟩) 1 1) rfl).blk Xx5.out (by have := Xx5_g.out; omega))
  have Xx60_g := Xx5_g
  rw [hW] at Gx6 Bx6 Xx60 ⊢
  clear hW bzx5 fbzx5
  have Z3 : Hid (Blk Wx6 wb 25 [.int .i64 0, .string ⟨#[]⟩, .int .i64 0, .slice none 0 0]) := Lh Gx6.out.z
  have HV := Lh (show NV Wx6 (fun k => wb < k) (.mk 23 tx1 (0) [.mk 33 tx4 0 []]) (NC 23 tx1 (0) (.slice (some ⟨gzx5, 0, none⟩) 1 1)) from nv_built (l := [_]) (xs := NC 33 tx4 0 (.slice none 0 0)) Xx60.out (by have := Xx60_g.out; obtain ⟨q1, q2, q3, q4⟩ := Gx6.out.h; omega) (NL.one (NV.leaf (fine_small (by omega) (by omega) (by omega) (by omega) (by omega)))) (fine_small (by omega) (by omega) (by omega) (by omega) (by omega)) (by simp))
  have HH := Lh Gx6.out.h
  go_wp2_with (first
   | (with_reducible refine wpList_load_cells rfl 25 4 size25 (.tmp 5) rfl ⟨nb, 0, none⟩ rfl [.int .i64 23, .string ⟨tx1.toArray⟩, .int .i64 0, .slice (some ⟨gzx5, 0, none⟩) 1 1] rfl _ Tryd.underlying25 rfl Bx6.out.at ?_)
   | (with_reducible refine wpList_store_blk rfl 25 4 size25 (.tmp 4) (.tmp 138) rfl wb [.int .i64 23, .string ⟨tx1.toArray⟩, .int .i64 0, .slice (some ⟨gzx5, 0, none⟩) 1 1] rfl rfl _ Z3.out rfl rfl rfl ?_; intro w8 hb8 hk8))
  exact bodyPost_ret (v := .agg (NC 23 tx1 (0) (.slice (some ⟨gzx5, 0, none⟩) 1 1)).toArray) (box_res 4 size25 rfl _ _ wb (NC 23 tx1 (0) (.slice (some ⟨gzx5, 0, none⟩) 1 1)) _ rfl hb8 rfl Tryd.underlying25 rfl) rfl ⟨.mk 23 tx1 (0) [.mk 33 tx4 0 []], _, _, rfl, sg_recv (k := 23) (by omega) HLt.out Tx1.out.1 Tx1.out.2 Tx4.out.1 Tx4.out.2, Gx6.out.m.kp hk8 (fun j e => by have := HH.out; omega), NV.keep (fun k h1 h2 => ⟨hk8.block k h2 (fun e => by have := HH.out; omega), by have := HH.out; omega⟩) _ _ HV.out, Gx6.out.k.trans hk8 (fun k hk e => by have := HH.out; omega), by have h1 := hk8.size; have h2 := HH.out; omega⟩
end
end Go.Proofs.YtpbhgebblpdmnaaDoor
namespace Go.Proofs.YtpbhgebblpdmnaaDoor
open Go.RowKit Wr Src
set_option linter.unusedVariables false
set_option maxRecDepth 100000
section
variable {g : Nat} {v : Value} {L : List Int}
set_option maxHeartbeats 8000000 in
theorem one_set (d : Nat) (hd : d ≤ 3) {i : Nat} {w : World} (h : MS g w v L i) (hi : i + Ko d ≤ 10000000) (hlt : i < L.length) (hc : tkN L i 17 = 1) : Calls Tryd.prog 15 #[pt g, nv d] w (GOut g w v L (SG L.length i d)) := by
 have z1 := zero25
 obtain ⟨A, c, hv, hcc, _⟩ := h.l.f
 subst hv
 obtain ⟨wb, hwb⟩ : ∃ wb, wb = w.heap.size := ⟨_, rfl⟩
 have HWb := Lh hwb.symm
 obtain ⟨w0, hw0⟩ : ∃ w0, w0 = w.alloc (.cells #[.int .i64 0, .string ⟨#[]⟩, .int .i64 0, .slice none 0 0] 25) := ⟨_, rfl⟩
 have l0 : Below w.heap.size w w0 := by rw [hw0]; exact (Below.refl _ _).alloc (Nat.le_refl _) _
 have Z0 := Lh (show Blk w0 wb 25 Z4 by rw [hw0, hwb]; exact Blk.new w _ _)
 have L0 := Lh l0
 have HG := Lh (show g < wb by have := h.lt; omega)
 have HWB := Lh hwb
 have W0 := Lh hw0
 have HI := Lh (show i + Ko d ≤ 10000000 ∧ 23 ≤ Ko d from ⟨hi, Ko_23 d⟩)
 have HLt := Lh hlt
 have HC0 := Lh hc
 have HD := Lh hd
 have HT := Lh (take_any (h.below l0) (by omega) 17 (by omega) (by omega))
 clear h hwb hw0 l0 hcc hi hlt hc hd
 go_enter Tryd.func15, Tryd.ntmps15
 go_upto_region 1 with fail
 rw [HWb.out]
 rw [← W0.out]
 go_wp2_with fail
 refine HT.out.mono ?_
 rintro e w1 ⟨r, hr, hr0, rfl, m1, k1⟩
 have hrc : r = 1 := hr0.eq.trans HC0.out
 subst hrc
 have HZ1 := Lh (k1.blk Z0.out (by have := HG.out; omega))
 have HK1 := Lh ((Kp.of_below' (Z := fun k => k = g) L0.out).trans k1 (fun _ _ h => h))
 have M1 := Lh m1
 clear hr hr0 m1 k1 Z0 L0 HT
 go_upto_region 2 with fail
 obtain ⟨nb, hnb⟩ : ∃ z, w1.heap.size = z := ⟨_, rfl⟩
 obtain ⟨w2, hw2⟩ : ∃ w', w1.alloc (.cells #[.int .i64 10, .string ⟨#[]⟩, .int .i64 0, .slice none 0 0] 25) = w' := ⟨_, rfl⟩
 have l2 : Below w1.heap.size w1 w2 := by rw [← hw2]; exact (Below.refl _ _).alloc (Nat.le_refl _) _
 have B2 := Lh (show Blk w2 nb 25 [.int .i64 10, .string ⟨#[]⟩, .int .i64 0, .slice none 0 0] by rw [← hw2, ← hnb]; exact Blk.new w1 _ _)
 have G2 := Lh (show GS g wb nb w w2 (.slice A L.length c) L (i + 1) from ⟨M1.out.below l2, HZ1.out.below l2 HZ1.out.lt, HK1.out.trans (Kp.of_below' (Z := fun _ => False) l2) (fun _ _ h => h.elim), HWB.out, HG.out, by have := HZ1.out.lt; omega, B2.out.lt⟩)
 rw [hnb, hw2]
 clear l2 hw2 hnb M1 HZ1 HK1 W0
 go_cut [22] (fun s22 wx => s22 = .bool false ∧ w2 = wx)
 case first =>
  have b0 := B2.out.cell 0
  simp only [g0, gs] at b0
  by_cases hd0 : d = 0
  ·
   subst hd0
   have hdI : ((0 : Nat) : Int) ≤ 0 := by omega
   go_wp2_with fail
   go_meet
   exact ⟨rfl, rfl⟩
  ·
   have hdI : ¬ (d : Int) ≤ 0 := by omega
   clear hd0
   go_wp2_with fail
   go_meet
   exact ⟨rfl, rfl⟩
 case rest =>
  obtain ⟨rfl, rfl⟩ := hcut
  have b0 := B2.out.cell 0
  simp only [g0, gs] at b0
  go_upto_region 9 with fail
  clear b0
  have HCa := Lh (gat_any G2.out.m (by have := HI.out; omega))
  go_wp2_with fail
  refine HCa.out.mono ?_
  rintro e W1 ⟨n1, j1, cs1, rfl, hf, hm, hv, hk, hs⟩
  have HAt := Lh hf
  have HAj := Lh (atf_pg hf)
  obtain ⟨ak, at', az, al⟩ := n1
  obtain ⟨A1, c1, ys1, hcs, _⟩ := hv.form
  subst hcs
  have G3 := Lh (G2.out.call hm hk)
  have B3 := Lh (hk.blk B2.out (by obtain ⟨q1, q2, q3, q4⟩ := G2.out.h; omega))
  have V3 := Lh (NV.keep (P' := fun k => nb < k) (fun k h1 h2 => ⟨rfl, by have := G2.out.fit; omega⟩) _ _ hv)
  clear hf hm hv hk hs HCa
  dsimp only [NC]
  go_upto_region 10 with fail
  obtain ⟨pb, hpb⟩ : ∃ g, W1.heap.size = g := ⟨_, rfl⟩
  obtain ⟨W2, hW2⟩ : ∃ w6, W1.alloc (.cells #[.int .i64 ak, .string ⟨at'.toArray⟩, .int .i64 az, .slice A1 al.length c1] 25) = w6 := ⟨_, rfl⟩
  have l6 : Below W1.heap.size W1 W2 := by rw [← hW2]; exact (Below.refl _ _).alloc (Nat.le_refl _) _
  have Y4 := Lh (show Blk W2 pb 25 [iv ak, sv at', iv az, .slice A1 al.length c1] by rw [← hW2, ← hpb]; exact Blk.new W1 _ _)
  have G4 := Lh (G3.out.keep (Kp.of_below' (Z := fun _ => False) l6) (fun _ h => h.elim))
  have B4 := Lh (B3.out.below l6 B3.out.lt)
  have V4 := Lh ((Kp.of_below' (Z := fun _ => False) l6).nv V3.out (fun _ _ _ h => h))
  have HPb := Lh (show nb < pb by have := G3.out.fit; omega)
  rw [hpb, hW2]
  clear l6 hW2 hpb G3 B3 V3 G2 B2
  refine wp_region_any (by kernel_rfl) ?_
  change wpAny _ _ _ _ _ _ _ (World.drew W2)
  have Yd := Lh (Y4.out.drew)
  have Gd := Lh (G4.out.keep (Kp.drew (fun _ => False) W2) (fun _ h => h.elim))
  have Bd := Lh (B4.out.drew)
  have Vd := Lh ((Kp.drew (fun _ => False) W2).nv V4.out (fun _ _ _ h => h))
  generalize World.drew W2 = wd at Yd Gd Bd Vd ⊢
  have HCv := Lh (value_any 2 (by omega) Gd.out.m (by have := HI.out; have := HAj.out.hi; simp only [Kv]; omega))
  have hgp : Hid (g < nb ∧ nb < pb) := Lh (by have := HPb.out; obtain ⟨q1, q2, q3, q4⟩ := Gd.out.h; omega)
  clear Y4 G4 B4 V4
  refine tg 1 (pt g) ?_
  refine rm [0, 2] (ac (fun K hK => ?_) (ac (fun K hK => ?_) AllReady.nil))
  ·
   refine wp_load_at 25 (.tmp 6) rfl ⟨pb, 0, none⟩ rfl [iv ak, sv at', iv az, .slice A1 al.length c1] _ Yd.out.at Tryd.underlying25 rfl size25 (hK _ _ ?_)
   clear hK K
   try simp only [zp, zn, zu, zv, zw]
   refine r1 2 (fun K hK => ?_)
   go_simp
   refine HCv.out.mono ?_
   rintro e W7 ⟨n7, j7, cs7, rfl, hf, hm, hv, hk, hs⟩
   have F7 := Lh hf
   obtain ⟨bk, bt, bz, bl⟩ := n7
   obtain ⟨A7, c7, ys7, hcs7, _⟩ := hv.form
   subst hcs7
   have G7 := Lh (Gd.out.call hm hk)
   have B7 := Lh (hk.blk Bd.out (by have := hgp.out; omega))
   have Y7 := Lh (hk.blk Yd.out (by have := hgp.out; omega))
   have VA7 := Lh (hk.nv Vd.out (fun k hk _ e => by have := hgp.out; omega))
   have VB7 := Lh (NV.keep (P' := fun k => nb < k) (fun k h1 h2 => ⟨rfl, by have := Gd.out.fit; omega⟩) _ _ hv)
   clear hf hm hv hk hs
   dsimp only [NC]
   go_wp2_with fail
   try (refine hk hK ?_; clear hK K)
   refine r1 3 (fun K hK => ?_)
   refine wp_bs (vs := #[(0, .agg #[.int .i64 ak, .string ⟨at'.toArray⟩, .int .i64 az, .slice A1 al.length c1]), (1, .agg #[.int .i64 bk, .string ⟨bt.toArray⟩, .int .i64 bz, .slice A7 bl.length c7])]) rfl (by simp [Act.eval]) (bs2 _ _ _ _ _ _ _ _ _ _ _ _ _) ?_
   obtain ⟨W8, hw8⟩ : ∃ w', W7.alloc (.cells #[.int .i64 ak, .string ⟨at'.toArray⟩, .int .i64 az, .slice A1 al.length c1, .int .i64 bk, .string ⟨bt.toArray⟩, .int .i64 bz, .slice A7 bl.length c7] 25) = w' := ⟨_, rfl⟩
   obtain ⟨gz, hgz⟩ : ∃ z, W7.heap.size = z := ⟨_, rfl⟩
   have l8 : Below W7.heap.size W7 W8 := by rw [← hw8]; exact (Below.refl _ _).alloc (Nat.le_refl _) _
   have X8 := Lh (show Blk W8 gz 25 (NC ak at' az (.slice A1 al.length c1) ++ NC bk bt bz (.slice A7 bl.length c7)) by rw [← hw8, ← hgz]; exact Blk.new _ _ _)
   have G8 := Lh (G7.out.keep (Kp.of_below' (Z := fun _ => False) l8) (fun _ h => h.elim))
   have B8' := Lh (B7.out.below l8 B7.out.lt)
   have V8 := Lh (nl_two ((Kp.of_below' (Z := fun _ => False) l8).nv VA7.out (fun _ _ _ h => h)) ((Kp.of_below' (Z := fun _ => False) l8).nv VB7.out (fun _ _ _ h => h)))
   have HGZ := Lh (show nb < gz by have := G7.out.fit; omega)
   rw [hw8, hgz]
   have hn3 := B8'.out.cell 3; have fn3 := B8'.out.frozen 3
   simp only [g0, gs] at hn3
   clear l8 hw8 hgz G7 B7 VA7 VB7 Y7
   try (refine hk hK ?_; clear hK K)
   refine tg 4 (.pointer (some ⟨nb, 3, none⟩)) ?_
   refine r1 5 (fun K hK => ?_)
   go_simp
   clear hn3 fn3
   obtain ⟨W9, hw9⟩ : ∃ W', W8.setCell ⟨nb, 3, none⟩ (.slice (some ⟨gz, 0, none⟩) 2 2) = W' := ⟨_, rfl⟩
   have G9 := Lh (G8.out.keep (Kp.setCell (Z := fun k => k = nb) W8 ⟨nb, 3, none⟩ (.slice (some ⟨gz, 0, none⟩) 2 2) rfl) (fun j e => by obtain ⟨q1, q2, q3, q4⟩ := G8.out.h; omega))
   have B9 := Lh (show Blk (W8.setCell ⟨nb, 3, none⟩ (.slice (some ⟨gz, 0, none⟩) 2 2)) nb 25 [.int .i64 10, .string ⟨#[]⟩, .int .i64 0, .slice (some ⟨gz, 0, none⟩) 2 2] from B8'.out.put 3 _)
   have X9 := Lh ((Kp.setCell (Z := fun k => k = nb) W8 ⟨nb, 3, none⟩ (.slice (some ⟨gz, 0, none⟩) 2 2) rfl).blk X8.out (by have := HGZ.out; omega))
   have V9 := Lh ((Kp.setCell (Z := fun k => k = nb) W8 ⟨nb, 3, none⟩ (.slice (some ⟨gz, 0, none⟩) 2 2) rfl).nl V8.out (fun k hk _ e => by omega))
   rw [hw9] at G9 B9 X9 V9 ⊢
   clear hw9 G8 B8' X8 V8
   try (refine hk hK ?_; clear hK K)
   refine wpAny_done (by kernel_rfl) ?_ _
   try simp only [zp, zn, zu, zv, zw]
   go_upto_region 41 with fail
   have Z3 : Hid (Blk W9 wb 25 [.int .i64 0, .string ⟨#[]⟩, .int .i64 0, .slice none 0 0]) := Lh G9.out.z
   have HV := Lh (show NV W9 (fun k => wb < k) (.mk 10 [] (0) [.mk ak at' az al, .mk bk bt bz bl]) (NC 10 [] (0) (.slice (some ⟨gz, 0, none⟩) 2 2)) from nv_built (l := [_, _]) X9.out (by have := HGZ.out; obtain ⟨q1, q2, q3, q4⟩ := G9.out.h; omega) (NL.keep (fun k h1 h2 => ⟨rfl, by obtain ⟨q1, q2, q3, q4⟩ := G9.out.h; omega⟩) _ _ V9.out) (fine_small (by omega) (by omega) (by omega) (by omega) (by simp)) (by simp))
   have HH := Lh G9.out.h
   go_wp2_with (first
    | (with_reducible refine wpList_load_cells rfl 25 4 size25 (.tmp 5) rfl ⟨nb, 0, none⟩ rfl [.int .i64 10, .string ⟨#[]⟩, .int .i64 0, .slice (some ⟨gz, 0, none⟩) 2 2] rfl _ Tryd.underlying25 rfl B9.out.at ?_)
    | (with_reducible refine wpList_store_blk rfl 25 4 size25 (.tmp 4) (.tmp 138) rfl wb [.int .i64 10, .string ⟨#[]⟩, .int .i64 0, .slice (some ⟨gz, 0, none⟩) 2 2] rfl rfl _ Z3.out rfl rfl rfl ?_; intro w8 hb8 hk8))
   exact bodyPost_ret (v := .agg (NC 10 [] (0) (.slice (some ⟨gz, 0, none⟩) 2 2)).toArray) (box_res 4 size25 rfl _ _ wb (NC 10 [] (0) (.slice (some ⟨gz, 0, none⟩) 2 2)) _ rfl hb8 rfl Tryd.underlying25 rfl) rfl ⟨.mk 10 [] (0) [.mk ak at' az al, .mk bk bt bz bl], _, _, rfl, sg_set HLt.out HAt.out F7.out, G9.out.m.kp hk8 (fun j e => by have := HH.out; omega), NV.keep (fun k h1 h2 => ⟨hk8.block k h2 (fun e => by have := HH.out; omega), by have := HH.out; omega⟩) _ _ HV.out, G9.out.k.trans hk8 (fun k hk e => by have := HH.out; omega), by have h1 := hk8.size; have h2 := HH.out; omega⟩
  ·
   go_simp
   refine HCv.out.mono ?_
   rintro e W7 ⟨n7, j7, cs7, rfl, hf, hm, hv, hk, hs⟩
   have F7 := Lh hf
   obtain ⟨bk, bt, bz, bl⟩ := n7
   obtain ⟨A7, c7, ys7, hcs7, _⟩ := hv.form
   subst hcs7
   have G7 := Lh (Gd.out.call hm hk)
   have B7 := Lh (hk.blk Bd.out (by have := hgp.out; omega))
   have Y7 := Lh (hk.blk Yd.out (by have := hgp.out; omega))
   have VA7 := Lh (hk.nv Vd.out (fun k hk _ e => by have := hgp.out; omega))
   have VB7 := Lh (NV.keep (P' := fun k => nb < k) (fun k h1 h2 => ⟨rfl, by have := Gd.out.fit; omega⟩) _ _ hv)
   clear hf hm hv hk hs
   dsimp only [NC]
   go_wp2_with fail
   try (refine hk hK ?_; clear hK K)
   refine r1 0 (fun K hK => ?_)
   refine wp_load_at 25 (.tmp 6) rfl ⟨pb, 0, none⟩ rfl [iv ak, sv at', iv az, .slice A1 al.length c1] _ Y7.out.at Tryd.underlying25 rfl size25 (hK _ _ ?_)
   clear hK K
   try simp only [zp, zn, zu, zv, zw]
   refine r1 3 (fun K hK => ?_)
   refine wp_bs (vs := #[(0, .agg #[.int .i64 ak, .string ⟨at'.toArray⟩, .int .i64 az, .slice A1 al.length c1]), (1, .agg #[.int .i64 bk, .string ⟨bt.toArray⟩, .int .i64 bz, .slice A7 bl.length c7])]) rfl (by simp [Act.eval]) (bs2 _ _ _ _ _ _ _ _ _ _ _ _ _) ?_
   obtain ⟨W8, hw8⟩ : ∃ w', W7.alloc (.cells #[.int .i64 ak, .string ⟨at'.toArray⟩, .int .i64 az, .slice A1 al.length c1, .int .i64 bk, .string ⟨bt.toArray⟩, .int .i64 bz, .slice A7 bl.length c7] 25) = w' := ⟨_, rfl⟩
   obtain ⟨gz, hgz⟩ : ∃ z, W7.heap.size = z := ⟨_, rfl⟩
   have l8 : Below W7.heap.size W7 W8 := by rw [← hw8]; exact (Below.refl _ _).alloc (Nat.le_refl _) _
   have X8 := Lh (show Blk W8 gz 25 (NC ak at' az (.slice A1 al.length c1) ++ NC bk bt bz (.slice A7 bl.length c7)) by rw [← hw8, ← hgz]; exact Blk.new _ _ _)
   have G8 := Lh (G7.out.keep (Kp.of_below' (Z := fun _ => False) l8) (fun _ h => h.elim))
   have B8' := Lh (B7.out.below l8 B7.out.lt)
   have V8 := Lh (nl_two ((Kp.of_below' (Z := fun _ => False) l8).nv VA7.out (fun _ _ _ h => h)) ((Kp.of_below' (Z := fun _ => False) l8).nv VB7.out (fun _ _ _ h => h)))
   have HGZ := Lh (show nb < gz by have := G7.out.fit; omega)
   rw [hw8, hgz]
   have hn3 := B8'.out.cell 3; have fn3 := B8'.out.frozen 3
   simp only [g0, gs] at hn3
   clear l8 hw8 hgz G7 B7 VA7 VB7 Y7
   try (refine hk hK ?_; clear hK K)
   refine tg 4 (.pointer (some ⟨nb, 3, none⟩)) ?_
   refine r1 5 (fun K hK => ?_)
   go_simp
   clear hn3 fn3
   obtain ⟨W9, hw9⟩ : ∃ W', W8.setCell ⟨nb, 3, none⟩ (.slice (some ⟨gz, 0, none⟩) 2 2) = W' := ⟨_, rfl⟩
   have G9 := Lh (G8.out.keep (Kp.setCell (Z := fun k => k = nb) W8 ⟨nb, 3, none⟩ (.slice (some ⟨gz, 0, none⟩) 2 2) rfl) (fun j e => by obtain ⟨q1, q2, q3, q4⟩ := G8.out.h; omega))
   have B9 := Lh (show Blk (W8.setCell ⟨nb, 3, none⟩ (.slice (some ⟨gz, 0, none⟩) 2 2)) nb 25 [.int .i64 10, .string ⟨#[]⟩, .int .i64 0, .slice (some ⟨gz, 0, none⟩) 2 2] from B8'.out.put 3 _)
   have X9 := Lh ((Kp.setCell (Z := fun k => k = nb) W8 ⟨nb, 3, none⟩ (.slice (some ⟨gz, 0, none⟩) 2 2) rfl).blk X8.out (by have := HGZ.out; omega))
   have V9 := Lh ((Kp.setCell (Z := fun k => k = nb) W8 ⟨nb, 3, none⟩ (.slice (some ⟨gz, 0, none⟩) 2 2) rfl).nl V8.out (fun k hk _ e => by omega))
   rw [hw9] at G9 B9 X9 V9 ⊢
   clear hw9 G8 B8' X8 V8
   try (refine hk hK ?_; clear hK K)
   refine wpAny_done (by kernel_rfl) ?_ _
   try simp only [zp, zn, zu, zv, zw]
   go_upto_region 41 with fail
   have Z3 : Hid (Blk W9 wb 25 [.int .i64 0, .string ⟨#[]⟩, .int .i64 0, .slice none 0 0]) := Lh G9.out.z
   have HV := Lh (show NV W9 (fun k => wb < k) (.mk 10 [] (0) [.mk ak at' az al, .mk bk bt bz bl]) (NC 10 [] (0) (.slice (some ⟨gz, 0, none⟩) 2 2)) from nv_built (l := [_, _]) X9.out (by have := HGZ.out; obtain ⟨q1, q2, q3, q4⟩ := G9.out.h; omega) (NL.keep (fun k h1 h2 => ⟨rfl, by obtain ⟨q1, q2, q3, q4⟩ := G9.out.h; omega⟩) _ _ V9.out) (fine_small (by omega) (by omega) (by omega) (by omega) (by simp)) (by simp))
   have HH := Lh G9.out.h
   go_wp2_with (first
    | (with_reducible refine wpList_load_cells rfl 25 4 size25 (.tmp 5) rfl ⟨nb, 0, none⟩ rfl [.int .i64 10, .string ⟨#[]⟩, .int .i64 0, .slice (some ⟨gz, 0, none⟩) 2 2] rfl _ Tryd.underlying25 rfl B9.out.at ?_)
    | (with_reducible refine wpList_store_blk rfl 25 4 size25 (.tmp 4) (.tmp 138) rfl wb [.int .i64 10, .string ⟨#[]⟩, .int .i64 0, .slice (some ⟨gz, 0, none⟩) 2 2] rfl rfl _ Z3.out rfl rfl rfl ?_; intro w8 hb8 hk8))
   exact bodyPost_ret (v := .agg (NC 10 [] (0) (.slice (some ⟨gz, 0, none⟩) 2 2)).toArray) (box_res 4 size25 rfl _ _ wb (NC 10 [] (0) (.slice (some ⟨gz, 0, none⟩) 2 2)) _ rfl hb8 rfl Tryd.underlying25 rfl) rfl ⟨.mk 10 [] (0) [.mk ak at' az al, .mk bk bt bz bl], _, _, rfl, sg_set HLt.out HAt.out F7.out, G9.out.m.kp hk8 (fun j e => by have := HH.out; omega), NV.keep (fun k h1 h2 => ⟨hk8.block k h2 (fun e => by have := HH.out; omega), by have := HH.out; omega⟩) _ _ HV.out, G9.out.k.trans hk8 (fun k hk e => by have := HH.out; omega), by have h1 := hk8.size; have h2 := HH.out; omega⟩
end
end Go.Proofs.YtpbhgebblpdmnaaDoor
