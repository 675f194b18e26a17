/-
  The generator: a statement (draw, sleep, alloc).
  No condition but the lengths.
-/
import Derived.Test.YtpbhgebblpdmnaaDoorZ
import Derived.Test.YtpbhgebblpdmnaaDoorGm
namespace Go.Proofs.YtpbhgebblpdmnaaDoor
open Go.RowKit Wr Src
set_option linter.unusedVariables false
set_option maxRecDepth 100000
section
variable {g : Nat} {v : Value} {L : List Int}
set_option maxHeartbeats 8000000 in
theorem one_draw (d : Nat) (hd : d ≤ 3) {i : Nat} {w : World} (h : MS g w v L i) (hi : i + Ko d ≤ 10000000) (hlt : i < L.length) (hc : tkN L i 17 = 10) : Calls Tryd.prog 15 #[pt g, nv d] w (GOut g w v L (SG L.length i d)) := by
 have z1 := zero25
 obtain ⟨A, c, hv, hcc, _⟩ := h.l.f
 subst hv
 obtain ⟨wb, hwb⟩ : ∃ wb, wb = w.heap.size := ⟨_, rfl⟩
 have HWb := Lh hwb.symm
 obtain ⟨w0, hw0⟩ : ∃ w0, w0 = w.alloc (.cells #[.int .i64 0, .string ⟨#[]⟩, .int .i64 0, .slice none 0 0] 25) := ⟨_, rfl⟩
 have l0 : Below w.heap.size w w0 := by rw [hw0]; exact (Below.refl _ _).alloc (Nat.le_refl _) _
 have Z0 := Lh (show Blk w0 wb 25 Z4 by rw [hw0, hwb]; exact Blk.new w _ _)
 have L0 := Lh l0
 have HG := Lh (show g < wb by have := h.lt; omega)
 have HWB := Lh hwb
 have W0 := Lh hw0
 have HI := Lh (show i + Ko d ≤ 10000000 ∧ 23 ≤ Ko d from ⟨hi, Ko_23 d⟩)
 have HLt := Lh hlt
 have HC0 := Lh hc
 have HD := Lh hd
 have HT := Lh (take_any (h.below l0) (by omega) 17 (by omega) (by omega))
 clear h hwb hw0 l0 hcc hi hlt hc hd
 go_enter Tryd.func15, Tryd.ntmps15
 go_upto_region 1 with fail
 rw [HWb.out]
 rw [← W0.out]
 go_wp2_with fail
 refine HT.out.mono ?_
 rintro e w1 ⟨r, hr, hr0, rfl, m1, k1⟩
 have hrc : r = 10 := hr0.eq.trans HC0.out
 subst hrc
 have HZ1 := Lh (k1.blk Z0.out (by have := HG.out; omega))
 have HK1 := Lh ((Kp.of_below' (Z := fun k => k = g) L0.out).trans k1 (fun _ _ h => h))
 have M1 := Lh m1
 clear hr hr0 m1 k1 Z0 L0 HT
 go_upto_region 2 with fail
 obtain ⟨nb, hnb⟩ : ∃ z, w1.heap.size = z := ⟨_, rfl⟩
 obtain ⟨w2, hw2⟩ : ∃ w', w1.alloc (.cells #[.int .i64 19, .string ⟨#[]⟩, .int .i64 0, .slice none 0 0] 25) = w' := ⟨_, rfl⟩
 have l2 : Below w1.heap.size w1 w2 := by rw [← hw2]; exact (Below.refl _ _).alloc (Nat.le_refl _) _
 have B2 := Lh (show Blk w2 nb 25 [.int .i64 19, .string ⟨#[]⟩, .int .i64 0, .slice none 0 0] by rw [← hw2, ← hnb]; exact Blk.new w1 _ _)
 have G2 := Lh (show GS g wb nb w w2 (.slice A L.length c) L (i + 1) from ⟨M1.out.below l2, HZ1.out.below l2 HZ1.out.lt, HK1.out.trans (Kp.of_below' (Z := fun _ => False) l2) (fun _ _ h => h.elim), HWB.out, HG.out, by have := HZ1.out.lt; omega, B2.out.lt⟩)
 rw [hnb, hw2]
 clear l2 hw2 hnb M1 HZ1 HK1 W0
 go_cut [22] (fun s22 wx => s22 = .bool false ∧ w2 = wx)
 case first =>
  have b0 := B2.out.cell 0
  simp only [g0, gs] at b0
  by_cases hd0 : d = 0
  ·
   subst hd0
   have hdI : ((0 : Nat) : Int) ≤ 0 := by omega
   go_wp2_with fail
   go_meet
   exact ⟨rfl, rfl⟩
  ·
   have hdI : ¬ (d : Int) ≤ 0 := by omega
   clear hd0
   go_wp2_with fail
   go_meet
   exact ⟨rfl, rfl⟩
 case rest =>
  obtain ⟨rfl, rfl⟩ := hcut
  have b0 := B2.out.cell 0
  simp only [g0, gs] at b0
  go_upto_region 31 with fail
  clear b0
  have HCx1 := Lh (own_any G2.out.m (by have := HI.out; omega))
  go_wp2_with fail
  refine HCx1.out.mono ?_
  rintro e Wx1 ⟨tx1, rfl, ht, hta, hm, hk⟩
  have Gx1 := Lh (G2.out.call hm hk)
  have Bx1 := Lh (hk.blk B2.out (by obtain ⟨q1, q2, q3, q4⟩ := G2.out.h; omega))
  have Tx1 := Lh (And.intro ht hta)
  have htlx1 : tx1.length ≤ 16 := (own_ok tx1 ht).2
  clear hm hk ht hta HCx1
  have bx2 := Bx1.out.cell 1; have fbx2 := Bx1.out.frozen 1
  simp only [g0, gs] at bx2
  go_upto_region 32 with fail
  obtain ⟨Wx3, hW⟩ : ∃ W', Wx1.setCell ⟨nb, 1, none⟩ (.string ⟨tx1.toArray⟩) = W' := ⟨_, rfl⟩
  have Gx3 := Lh (Gx1.out.keep (Kp.setCell (Z := fun k => k = nb) Wx1 ⟨nb, 1, none⟩ (.string ⟨tx1.toArray⟩) rfl) (fun j e => by obtain ⟨q1, q2, q3, q4⟩ := Gx1.out.h; omega))
  have Bx3 := Lh (show Blk (Wx1.setCell ⟨nb, 1, none⟩ (.string ⟨tx1.toArray⟩)) nb 25 [.int .i64 19, .string ⟨tx1.toArray⟩, .int .i64 0, .slice none 0 0] from Bx1.out.put 1 _)
  rw [hW] at Gx3 Bx3 ⊢
  clear hW bx2 fbx2
  have HCx4 := Lh (take_any Gx3.out.m (by have := HI.out; omega) 5 (by omega) (by omega))
  go_wp2_with fail
  refine HCx4.out.mono ?_
  rintro e Wx4 ⟨rx4, hrx4, hfx4, rfl, hm, hk⟩
  have Gx4 := Lh (Gx3.out.call hm hk)
  have Bx4 := Lh (hk.blk Bx3.out (by obtain ⟨q1, q2, q3, q4⟩ := Gx3.out.h; omega))
  have Rx4 := Lh (And.intro hrx4 hfx4)
  have hrIx4 : (rx4 : Int) < 5 := by omega
  clear hm hk hrx4 hfx4 HCx4
  have qw : IntKind.i64.wrap (2 + (rx4 : Int)) = 2 + (rx4 : Int) := IntWalk.i64_in _ (by omega)
  have bx5 := Bx4.out.cell 2; have fbx5 := Bx4.out.frozen 2
  simp only [g0, gs] at bx5
  go_upto_region 41 with fail
  obtain ⟨Wx6, hW⟩ : ∃ W', Wx4.setCell ⟨nb, 2, none⟩ (.int .i64 (2 + (rx4 : Int))) = W' := ⟨_, rfl⟩
  have Gx6 := Lh (Gx4.out.keep (Kp.setCell (Z := fun k => k = nb) Wx4 ⟨nb, 2, none⟩ (.int .i64 (2 + (rx4 : Int))) rfl) (fun j e => by obtain ⟨q1, q2, q3, q4⟩ := Gx4.out.h; omega))
  have Bx6 := Lh (show Blk (Wx4.setCell ⟨nb, 2, none⟩ (.int .i64 (2 + (rx4 : Int)))) nb 25 [.int .i64 19, .string ⟨tx1.toArray⟩, .int .i64 (2 + (rx4 : Int)), .slice none 0 0] from Bx4.out.put 2 _)
  rw [hW] at Gx6 Bx6 ⊢
  clear hW bx5 fbx5
  have Z3 : Hid (Blk Wx6 wb 25 [.int .i64 0, .string ⟨#[]⟩, .int .i64 0, .slice none 0 0]) := Lh Gx6.out.z
  have HV := Lh (show NV Wx6 (fun k => wb < k) (.mk 19 tx1 (2 + (rx4 : Int)) []) (NC 19 tx1 (2 + (rx4 : Int)) (.slice none 0 0)) from NV.leaf (fine_small (by omega) (by omega) (by omega) (by omega) (by omega)))
  have HH := Lh Gx6.out.h
  go_wp2_with (first
   | (with_reducible refine wpList_load_cells rfl 25 4 size25 (.tmp 5) rfl ⟨nb, 0, none⟩ rfl [.int .i64 19, .string ⟨tx1.toArray⟩, .int .i64 (2 + (rx4 : Int)), .slice none 0 0] rfl _ Tryd.underlying25 rfl Bx6.out.at ?_)
   | (with_reducible refine wpList_store_blk rfl 25 4 size25 (.tmp 4) (.tmp 138) rfl wb [.int .i64 19, .string ⟨tx1.toArray⟩, .int .i64 (2 + (rx4 : Int)), .slice none 0 0] rfl rfl _ Z3.out rfl rfl rfl ?_; intro w8 hb8 hk8))
  exact bodyPost_ret (v := .agg (NC 19 tx1 (2 + (rx4 : Int)) (.slice none 0 0)).toArray) (box_res 4 size25 rfl _ _ wb (NC 19 tx1 (2 + (rx4 : Int)) (.slice none 0 0)) _ rfl hb8 rfl Tryd.underlying25 rfl) rfl ⟨.mk 19 tx1 (2 + (rx4 : Int)) [], _, _, rfl, sg_draw Rx4.out.1 HLt.out Tx1.out.1 Tx1.out.2, Gx6.out.m.kp hk8 (fun j e => by have := HH.out; omega), NV.keep (fun k h1 h2 => ⟨hk8.block k h2 (fun e => by have := HH.out; omega), by have := HH.out; omega⟩) _ _ HV.out, Gx6.out.k.trans hk8 (fun k hk e => by have := HH.out; omega), by have h1 := hk8.size; have h2 := HH.out; omega⟩
set_option maxHeartbeats 8000000 in
theorem one_sleep (d : Nat) (hd : d ≤ 3) {i : Nat} {w : World} (h : MS g w v L i) (hi : i + Ko d ≤ 10000000) (hlt : i < L.length) (hc : tkN L i 17 = 12) : Calls Tryd.prog 15 #[pt g, nv d] w (GOut g w v L (SG L.length i d)) := by
 have z1 := zero25
 obtain ⟨A, c, hv, hcc, _⟩ := h.l.f
 subst hv
 obtain ⟨wb, hwb⟩ : ∃ wb, wb = w.heap.size := ⟨_, rfl⟩
 have HWb := Lh hwb.symm
 obtain ⟨w0, hw0⟩ : ∃ w0, w0 = w.alloc (.cells #[.int .i64 0, .string ⟨#[]⟩, .int .i64 0, .slice none 0 0] 25) := ⟨_, rfl⟩
 have l0 : Below w.heap.size w w0 := by rw [hw0]; exact (Below.refl _ _).alloc (Nat.le_refl _) _
 have Z0 := Lh (show Blk w0 wb 25 Z4 by rw [hw0, hwb]; exact Blk.new w _ _)
 have L0 := Lh l0
 have HG := Lh (show g < wb by have := h.lt; omega)
 have HWB := Lh hwb
 have W0 := Lh hw0
 have HI := Lh (show i + Ko d ≤ 10000000 ∧ 23 ≤ Ko d from ⟨hi, Ko_23 d⟩)
 have HLt := Lh hlt
 have HC0 := Lh hc
 have HD := Lh hd
 have HT := Lh (take_any (h.below l0) (by omega) 17 (by omega) (by omega))
 clear h hwb hw0 l0 hcc hi hlt hc hd
 go_enter Tryd.func15, Tryd.ntmps15
 go_upto_region 1 with fail
 rw [HWb.out]
 rw [← W0.out]
 go_wp2_with fail
 refine HT.out.mono ?_
 rintro e w1 ⟨r, hr, hr0, rfl, m1, k1⟩
 have hrc : r = 12 := hr0.eq.trans HC0.out
 subst hrc
 have HZ1 := Lh (k1.blk Z0.out (by have := HG.out; omega))
 have HK1 := Lh ((Kp.of_below' (Z := fun k => k = g) L0.out).trans k1 (fun _ _ h => h))
 have M1 := Lh m1
 clear hr hr0 m1 k1 Z0 L0 HT
 go_upto_region 2 with fail
 obtain ⟨nb, hnb⟩ : ∃ z, w1.heap.size = z := ⟨_, rfl⟩
 obtain ⟨w2, hw2⟩ : ∃ w', w1.alloc (.cells #[.int .i64 21, .string ⟨#[]⟩, .int .i64 0, .slice none 0 0] 25) = w' := ⟨_, rfl⟩
 have l2 : Below w1.heap.size w1 w2 := by rw [← hw2]; exact (Below.refl _ _).alloc (Nat.le_refl _) _
 have B2 := Lh (show Blk w2 nb 25 [.int .i64 21, .string ⟨#[]⟩, .int .i64 0, .slice none 0 0] by rw [← hw2, ← hnb]; exact Blk.new w1 _ _)
 have G2 := Lh (show GS g wb nb w w2 (.slice A L.length c) L (i + 1) from ⟨M1.out.below l2, HZ1.out.below l2 HZ1.out.lt, HK1.out.trans (Kp.of_below' (Z := fun _ => False) l2) (fun _ _ h => h.elim), HWB.out, HG.out, by have := HZ1.out.lt; omega, B2.out.lt⟩)
 rw [hnb, hw2]
 clear l2 hw2 hnb M1 HZ1 HK1 W0
 go_cut [22] (fun s22 wx => s22 = .bool false ∧ w2 = wx)
 case first =>
  have b0 := B2.out.cell 0
  simp only [g0, gs] at b0
  by_cases hd0 : d = 0
  ·
   subst hd0
   have hdI : ((0 : Nat) : Int) ≤ 0 := by omega
   go_wp2_with fail
   go_meet
   exact ⟨rfl, rfl⟩
  ·
   have hdI : ¬ (d : Int) ≤ 0 := by omega
   clear hd0
   go_wp2_with fail
   go_meet
   exact ⟨rfl, rfl⟩
 case rest =>
  obtain ⟨rfl, rfl⟩ := hcut
  have b0 := B2.out.cell 0
  simp only [g0, gs] at b0
  go_upto_region 36 with fail
  clear b0
  have HCx1 := Lh (take_any G2.out.m (by have := HI.out; omega) 9 (by omega) (by omega))
  go_wp2_with fail
  refine HCx1.out.mono ?_
  rintro e Wx1 ⟨rx1, hrx1, hfx1, rfl, hm, hk⟩
  have Gx1 := Lh (G2.out.call hm hk)
  have Bx1 := Lh (hk.blk B2.out (by obtain ⟨q1, q2, q3, q4⟩ := G2.out.h; omega))
  have Rx1 := Lh (And.intro hrx1 hfx1)
  have hrIx1 : (rx1 : Int) < 9 := by omega
  clear hm hk hrx1 hfx1 HCx1
  have qw : IntKind.i64.wrap (1 + (rx1 : Int)) = 1 + (rx1 : Int) := IntWalk.i64_in _ (by omega)
  have bx2 := Bx1.out.cell 2; have fbx2 := Bx1.out.frozen 2
  simp only [g0, gs] at bx2
  go_upto_region 41 with fail
  obtain ⟨Wx3, hW⟩ : ∃ W', Wx1.setCell ⟨nb, 2, none⟩ (.int .i64 (1 + (rx1 : Int))) = W' := ⟨_, rfl⟩
  have Gx3 := Lh (Gx1.out.keep (Kp.setCell (Z := fun k => k = nb) Wx1 ⟨nb, 2, none⟩ (.int .i64 (1 + (rx1 : Int))) rfl) (fun j e => by obtain ⟨q1, q2, q3, q4⟩ := Gx1.out.h; omega))
  have Bx3 := Lh (show Blk (Wx1.setCell ⟨nb, 2, none⟩ (.int .i64 (1 + (rx1 : Int)))) nb 25 [.int .i64 21, .string ⟨#[]⟩, .int .i64 (1 + (rx1 : Int)), .slice none 0 0] from Bx1.out.put 2 _)
  rw [hW] at Gx3 Bx3 ⊢
  clear hW bx2 fbx2
  have Z3 : Hid (Blk Wx3 wb 25 [.int .i64 0, .string ⟨#[]⟩, .int .i64 0, .slice none 0 0]) := Lh Gx3.out.z
  have HV := Lh (show NV Wx3 (fun k => wb < k) (.mk 21 [] (1 + (rx1 : Int)) []) (NC 21 [] (1 + (rx1 : Int)) (.slice none 0 0)) from NV.leaf (fine_small (by omega) (by omega) (by omega) (by omega) (by simp)))
  have HH := Lh Gx3.out.h
  go_wp2_with (first
   | (with_reducible refine wpList_load_cells rfl 25 4 size25 (.tmp 5) rfl ⟨nb, 0, none⟩ rfl [.int .i64 21, .string ⟨#[]⟩, .int .i64 (1 + (rx1 : Int)), .slice none 0 0] rfl _ Tryd.underlying25 rfl Bx3.out.at ?_)
   | (with_reducible refine wpList_store_blk rfl 25 4 size25 (.tmp 4) (.tmp 138) rfl wb [.int .i64 21, .string ⟨#[]⟩, .int .i64 (1 + (rx1 : Int)), .slice none 0 0] rfl rfl _ Z3.out rfl rfl rfl ?_; intro w8 hb8 hk8))
  exact bodyPost_ret (v := .agg (NC 21 [] (1 + (rx1 : Int)) (.slice none 0 0)).toArray) (box_res 4 size25 rfl _ _ wb (NC 21 [] (1 + (rx1 : Int)) (.slice none 0 0)) _ rfl hb8 rfl Tryd.underlying25 rfl) rfl ⟨.mk 21 [] (1 + (rx1 : Int)) [], _, _, rfl, sg_num (k := 21) (by omega) (by omega) HLt.out, Gx3.out.m.kp hk8 (fun j e => by have := HH.out; omega), NV.keep (fun k h1 h2 => ⟨hk8.block k h2 (fun e => by have := HH.out; omega), by have := HH.out; omega⟩) _ _ HV.out, Gx3.out.k.trans hk8 (fun k hk e => by have := HH.out; omega), by have h1 := hk8.size; have h2 := HH.out; omega⟩
set_option maxHeartbeats 8000000 in
theorem one_alloc (d : Nat) (hd : d ≤ 3) {i : Nat} {w : World} (h : MS g w v L i) (hi : i + Ko d ≤ 10000000) (hlt : i < L.length) (hc : tkN L i 17 = 16) : Calls Tryd.prog 15 #[pt g, nv d] w (GOut g w v L (SG L.length i d)) := by
 have z1 := zero25
 obtain ⟨A, c, hv, hcc, _⟩ := h.l.f
 subst hv
 obtain ⟨wb, hwb⟩ : ∃ wb, wb = w.heap.size := ⟨_, rfl⟩
 have HWb := Lh hwb.symm
 obtain ⟨w0, hw0⟩ : ∃ w0, w0 = w.alloc (.cells #[.int .i64 0, .string ⟨#[]⟩, .int .i64 0, .slice none 0 0] 25) := ⟨_, rfl⟩
 have l0 : Below w.heap.size w w0 := by rw [hw0]; exact (Below.refl _ _).alloc (Nat.le_refl _) _
 have Z0 := Lh (show Blk w0 wb 25 Z4 by rw [hw0, hwb]; exact Blk.new w _ _)
 have L0 := Lh l0
 have HG := Lh (show g < wb by have := h.lt; omega)
 have HWB := Lh hwb
 have W0 := Lh hw0
 have HI := Lh (show i + Ko d ≤ 10000000 ∧ 23 ≤ Ko d from ⟨hi, Ko_23 d⟩)
 have HLt := Lh hlt
 have HC0 := Lh hc
 have HD := Lh hd
 have HT := Lh (take_any (h.below l0) (by omega) 17 (by omega) (by omega))
 clear h hwb hw0 l0 hcc hi hlt hc hd
 go_enter Tryd.func15, Tryd.ntmps15
 go_upto_region 1 with fail
 rw [HWb.out]
 rw [← W0.out]
 go_wp2_with fail
 refine HT.out.mono ?_
 rintro e w1 ⟨r, hr, hr0, rfl, m1, k1⟩
 have hrc : r = 16 := hr0.eq.trans HC0.out
 subst hrc
 have HZ1 := Lh (k1.blk Z0.out (by have := HG.out; omega))
 have HK1 := Lh ((Kp.of_below' (Z := fun k => k = g) L0.out).trans k1 (fun _ _ h => h))
 have M1 := Lh m1
 clear hr hr0 m1 k1 Z0 L0 HT
 go_upto_region 2 with fail
 obtain ⟨nb, hnb⟩ : ∃ z, w1.heap.size = z := ⟨_, rfl⟩
 obtain ⟨w2, hw2⟩ : ∃ w', w1.alloc (.cells #[.int .i64 25, .string ⟨#[]⟩, .int .i64 0, .slice none 0 0] 25) = w' := ⟨_, rfl⟩
 have l2 : Below w1.heap.size w1 w2 := by rw [← hw2]; exact (Below.refl _ _).alloc (Nat.le_refl _) _
 have B2 := Lh (show Blk w2 nb 25 [.int .i64 25, .string ⟨#[]⟩, .int .i64 0, .slice none 0 0] by rw [← hw2, ← hnb]; exact Blk.new w1 _ _)
 have G2 := Lh (show GS g wb nb w w2 (.slice A L.length c) L (i + 1) from ⟨M1.out.below l2, HZ1.out.below l2 HZ1.out.lt, HK1.out.trans (Kp.of_below' (Z := fun _ => False) l2) (fun _ _ h => h.elim), HWB.out, HG.out, by have := HZ1.out.lt; omega, B2.out.lt⟩)
 rw [hnb, hw2]
 clear l2 hw2 hnb M1 HZ1 HK1 W0
 go_cut [22] (fun s22 wx => s22 = .bool false ∧ w2 = wx)
 case first =>
  have b0 := B2.out.cell 0
  simp only [g0, gs] at b0
  by_cases hd0 : d = 0
  ·
   subst hd0
   have hdI : ((0 : Nat) : Int) ≤ 0 := by omega
   go_wp2_with fail
   go_meet
   exact ⟨rfl, rfl⟩
  ·
   have hdI : ¬ (d : Int) ≤ 0 := by omega
   clear hd0
   go_wp2_with fail
   go_meet
   exact ⟨rfl, rfl⟩
 case rest =>
  obtain ⟨rfl, rfl⟩ := hcut
  have b0 := B2.out.cell 0
  simp only [g0, gs] at b0
  go_upto_region 38 with fail
  clear b0
  have HCx1 := Lh (take_any G2.out.m (by have := HI.out; omega) 99 (by omega) (by omega))
  go_wp2_with fail
  refine HCx1.out.mono ?_
  rintro e Wx1 ⟨rx1, hrx1, hfx1, rfl, hm, hk⟩
  have Gx1 := Lh (G2.out.call hm hk)
  have Bx1 := Lh (hk.blk B2.out (by obtain ⟨q1, q2, q3, q4⟩ := G2.out.h; omega))
  have Rx1 := Lh (And.intro hrx1 hfx1)
  have hrIx1 : (rx1 : Int) < 99 := by omega
  clear hm hk hrx1 hfx1 HCx1
  have qw : IntKind.i64.wrap (1 + (rx1 : Int)) = 1 + (rx1 : Int) := IntWalk.i64_in _ (by omega)
  have bx2 := Bx1.out.cell 2; have fbx2 := Bx1.out.frozen 2
  simp only [g0, gs] at bx2
  go_upto_region 41 with fail
  obtain ⟨Wx3, hW⟩ : ∃ W', Wx1.setCell ⟨nb, 2, none⟩ (.int .i64 (1 + (rx1 : Int))) = W' := ⟨_, rfl⟩
  have Gx3 := Lh (Gx1.out.keep (Kp.setCell (Z := fun k => k = nb) Wx1 ⟨nb, 2, none⟩ (.int .i64 (1 + (rx1 : Int))) rfl) (fun j e => by obtain ⟨q1, q2, q3, q4⟩ := Gx1.out.h; omega))
  have Bx3 := Lh (show Blk (Wx1.setCell ⟨nb, 2, none⟩ (.int .i64 (1 + (rx1 : Int)))) nb 25 [.int .i64 25, .string ⟨#[]⟩, .int .i64 (1 + (rx1 : Int)), .slice none 0 0] from Bx1.out.put 2 _)
  rw [hW] at Gx3 Bx3 ⊢
  clear hW bx2 fbx2
  have Z3 : Hid (Blk Wx3 wb 25 [.int .i64 0, .string ⟨#[]⟩, .int .i64 0, .slice none 0 0]) := Lh Gx3.out.z
  have HV := Lh (show NV Wx3 (fun k => wb < k) (.mk 25 [] (1 + (rx1 : Int)) []) (NC 25 [] (1 + (rx1 : Int)) (.slice none 0 0)) from NV.leaf (fine_small (by omega) (by omega) (by omega) (by omega) (by simp)))
  have HH := Lh Gx3.out.h
  go_wp2_with (first
   | (with_reducible refine wpList_load_cells rfl 25 4 size25 (.tmp 5) rfl ⟨nb, 0, none⟩ rfl [.int .i64 25, .string ⟨#[]⟩, .int .i64 (1 + (rx1 : Int)), .slice none 0 0] rfl _ Tryd.underlying25 rfl Bx3.out.at ?_)
   | (with_reducible refine wpList_store_blk rfl 25 4 size25 (.tmp 4) (.tmp 138) rfl wb [.int .i64 25, .string ⟨#[]⟩, .int .i64 (1 + (rx1 : Int)), .slice none 0 0] rfl rfl _ Z3.out rfl rfl rfl ?_; intro w8 hb8 hk8))
  exact bodyPost_ret (v := .agg (NC 25 [] (1 + (rx1 : Int)) (.slice none 0 0)).toArray) (box_res 4 size25 rfl _ _ wb (NC 25 [] (1 + (rx1 : Int)) (.slice none 0 0)) _ rfl hb8 rfl Tryd.underlying25 rfl) rfl ⟨.mk 25 [] (1 + (rx1 : Int)) [], _, _, rfl, sg_num (k := 25) (by omega) (by omega) HLt.out, Gx3.out.m.kp hk8 (fun j e => by have := HH.out; omega), NV.keep (fun k h1 h2 => ⟨hk8.block k h2 (fun e => by have := HH.out; omega), by have := HH.out; omega⟩) _ _ HV.out, Gx3.out.k.trans hk8 (fun k hk e => by have := HH.out; omega), by have h1 := hk8.size; have h2 := HH.out; omega⟩
end
end Go.Proofs.YtpbhgebblpdmnaaDoor
