/-
  Contracts and words of several parts of the program (Oh, Oi, On, Gx), one after the other.
  Conditions: those that each says.
-/
import Derived.Test.YtpbhgebblpdmnaaDoorZ
import Derived.Test.YtpbhgebblpdmnaaDoorGm
import Derived.Test.YtpbhgebblpdmnaaDoorGOaOb
import Derived.Test.YtpbhgebblpdmnaaDoorOc
import Derived.Test.YtpbhgebblpdmnaaDoorGOdOe
import Derived.Test.YtpbhgebblpdmnaaDoorOf
import Derived.Test.YtpbhgebblpdmnaaDoorOg
namespace Go.Proofs.YtpbhgebblpdmnaaDoor
open Go.RowKit Wr Src
set_option linter.unusedVariables false
set_option maxRecDepth 100000
section
variable {g : Nat} {v : Value} {L : List Int}
set_option maxHeartbeats 8000000 in
theorem one_call (d : Nat) (hd : d ≤ 3) {i : Nat} {w : World} (h : MS g w v L i) (hi : i + Ko d ≤ 10000000) (hlt : i < L.length) (hc : tkN L i 17 = 5) : Calls Tryd.prog 15 #[pt g, nv d] w (GOut g w v L (SG L.length i d)) := by
 have z1 := zero25
 obtain ⟨A, c, hv, hcc, _⟩ := h.l.f
 subst hv
 obtain ⟨wb, hwb⟩ : ∃ wb, wb = w.heap.size := ⟨_, rfl⟩
 have HWb := Lh hwb.symm
 obtain ⟨w0, hw0⟩ : ∃ w0, w0 = w.alloc (.cells #[.int .i64 0, .string ⟨#[]⟩, .int .i64 0, .slice none 0 0] 25) := ⟨_, rfl⟩
 have l0 : Below w.heap.size w w0 := by rw [hw0]; exact (Below.refl _ _).alloc (Nat.le_refl _) _
 have Z0 := Lh (show Blk w0 wb 25 Z4 by rw [hw0, hwb]; exact Blk.new w _ _)
 have L0 := Lh l0
 have HG := Lh (show g < wb by have := h.lt; omega)
 have HWB := Lh hwb
 have W0 := Lh hw0
 have HI := Lh (show i + Ko d ≤ 10000000 ∧ 23 ≤ Ko d from ⟨hi, Ko_23 d⟩)
 have HLt := Lh hlt
 have HC0 := Lh hc
 have HD := Lh hd
 have HT := Lh (take_any (h.below l0) (by omega) 17 (by omega) (by omega))
 clear h hwb hw0 l0 hcc hi hlt hc hd
 go_enter Tryd.func15, Tryd.ntmps15
 go_upto_region 1 with fail
 rw [HWb.out]
 rw [← W0.out]
 go_wp2_with fail
 refine HT.out.mono ?_
 rintro e w1 ⟨r, hr, hr0, rfl, m1, k1⟩
 have hrc : r = 5 := hr0.eq.trans HC0.out
 subst hrc
 have HZ1 := Lh (k1.blk Z0.out (by have := HG.out; omega))
 have HK1 := Lh ((Kp.of_below' (Z := fun k => k = g) L0.out).trans k1 (fun _ _ h => h))
 have M1 := Lh m1
 clear hr hr0 m1 k1 Z0 L0 HT
 go_upto_region 2 with fail
 obtain ⟨nb, hnb⟩ : ∃ z, w1.heap.size = z := ⟨_, rfl⟩
 obtain ⟨w2, hw2⟩ : ∃ w', w1.alloc (.cells #[.int .i64 14, .string ⟨#[]⟩, .int .i64 0, .slice none 0 0] 25) = w' := ⟨_, rfl⟩
 have l2 : Below w1.heap.size w1 w2 := by rw [← hw2]; exact (Below.refl _ _).alloc (Nat.le_refl _) _
 have B2 := Lh (show Blk w2 nb 25 [.int .i64 14, .string ⟨#[]⟩, .int .i64 0, .slice none 0 0] by rw [← hw2, ← hnb]; exact Blk.new w1 _ _)
 have G2 := Lh (show GS g wb nb w w2 (.slice A L.length c) L (i + 1) from ⟨M1.out.below l2, HZ1.out.below l2 HZ1.out.lt, HK1.out.trans (Kp.of_below' (Z := fun _ => False) l2) (fun _ _ h => h.elim), HWB.out, HG.out, by have := HZ1.out.lt; omega, B2.out.lt⟩)
 rw [hnb, hw2]
 clear l2 hw2 hnb M1 HZ1 HK1 W0
 go_cut [22] (fun s22 wx => s22 = .bool false ∧ w2 = wx)
 case first =>
  have b0 := B2.out.cell 0
  simp only [g0, gs] at b0
  by_cases hd0 : d = 0
  ·
   subst hd0
   have hdI : ((0 : Nat) : Int) ≤ 0 := by omega
   go_wp2_with fail
   go_meet
   exact ⟨rfl, rfl⟩
  ·
   have hdI : ¬ (d : Int) ≤ 0 := by omega
   clear hd0
   go_wp2_with fail
   go_meet
   exact ⟨rfl, rfl⟩
 case rest =>
  obtain ⟨rfl, rfl⟩ := hcut
  have b0 := B2.out.cell 0
  simp only [g0, gs] at b0
  go_upto_region 21 with fail
  clear b0
  have HCx1 := Lh (called_any G2.out.m (by have := HI.out; omega))
  go_wp2_with fail
  refine HCx1.out.mono ?_
  rintro e Wx1 ⟨tx1, rfl, ht, hta, hm, hk⟩
  have Gx1 := Lh (G2.out.call hm hk)
  have Bx1 := Lh (hk.blk B2.out (by obtain ⟨q1, q2, q3, q4⟩ := G2.out.h; omega))
  have Tx1 := Lh (And.intro ht hta)
  have htlx1 : tx1.length ≤ 16 := (called_ok tx1 ht).2
  clear hm hk ht hta HCx1
  have bx2 := Bx1.out.cell 1; have fbx2 := Bx1.out.frozen 1
  simp only [g0, gs] at bx2
  go_upto_region 41 with fail
  obtain ⟨Wx3, hW⟩ : ∃ W', Wx1.setCell ⟨nb, 1, none⟩ (.string ⟨tx1.toArray⟩) = W' := ⟨_, rfl⟩
  have Gx3 := Lh (Gx1.out.keep (Kp.setCell (Z := fun k => k = nb) Wx1 ⟨nb, 1, none⟩ (.string ⟨tx1.toArray⟩) rfl) (fun j e => by obtain ⟨q1, q2, q3, q4⟩ := Gx1.out.h; omega))
  have Bx3 := Lh (show Blk (Wx1.setCell ⟨nb, 1, none⟩ (.string ⟨tx1.toArray⟩)) nb 25 [.int .i64 14, .string ⟨tx1.toArray⟩, .int .i64 0, .slice none 0 0] from Bx1.out.put 1 _)
  rw [hW] at Gx3 Bx3 ⊢
  clear hW bx2 fbx2
  have Z3 : Hid (Blk Wx3 wb 25 [.int .i64 0, .string ⟨#[]⟩, .int .i64 0, .slice none 0 0]) := Lh Gx3.out.z
  have HV := Lh (show NV Wx3 (fun k => wb < k) (.mk 14 tx1 (0) []) (NC 14 tx1 (0) (.slice none 0 0)) from NV.leaf (fine_small (by omega) (by omega) (by omega) (by omega) (by omega)))
  have HH := Lh Gx3.out.h
  go_wp2_with (first
   | (with_reducible refine wpList_load_cells rfl 25 4 size25 (.tmp 5) rfl ⟨nb, 0, none⟩ rfl [.int .i64 14, .string ⟨tx1.toArray⟩, .int .i64 0, .slice none 0 0] rfl _ Tryd.underlying25 rfl Bx3.out.at ?_)
   | (with_reducible refine wpList_store_blk rfl 25 4 size25 (.tmp 4) (.tmp 138) rfl wb [.int .i64 14, .string ⟨tx1.toArray⟩, .int .i64 0, .slice none 0 0] rfl rfl _ Z3.out rfl rfl rfl ?_; intro w8 hb8 hk8))
  exact bodyPost_ret (v := .agg (NC 14 tx1 (0) (.slice none 0 0)).toArray) (box_res 4 size25 rfl _ _ wb (NC 14 tx1 (0) (.slice none 0 0)) _ rfl hb8 rfl Tryd.underlying25 rfl) rfl ⟨.mk 14 tx1 (0) [], _, _, rfl, sg_name (k := 14) (by omega) HLt.out Tx1.out.1 Tx1.out.2, Gx3.out.m.kp hk8 (fun j e => by have := HH.out; omega), NV.keep (fun k h1 h2 => ⟨hk8.block k h2 (fun e => by have := HH.out; omega), by have := HH.out; omega⟩) _ _ HV.out, Gx3.out.k.trans hk8 (fun k hk e => by have := HH.out; omega), by have h1 := hk8.size; have h2 := HH.out; omega⟩
set_option maxHeartbeats 8000000 in
theorem one_acquire (d : Nat) (hd : d ≤ 3) {i : Nat} {w : World} (h : MS g w v L i) (hi : i + Ko d ≤ 10000000) (hlt : i < L.length) (hc : tkN L i 17 = 8) : Calls Tryd.prog 15 #[pt g, nv d] w (GOut g w v L (SG L.length i d)) := by
 have z1 := zero25
 obtain ⟨A, c, hv, hcc, _⟩ := h.l.f
 subst hv
 obtain ⟨wb, hwb⟩ : ∃ wb, wb = w.heap.size := ⟨_, rfl⟩
 have HWb := Lh hwb.symm
 obtain ⟨w0, hw0⟩ : ∃ w0, w0 = w.alloc (.cells #[.int .i64 0, .string ⟨#[]⟩, .int .i64 0, .slice none 0 0] 25) := ⟨_, rfl⟩
 have l0 : Below w.heap.size w w0 := by rw [hw0]; exact (Below.refl _ _).alloc (Nat.le_refl _) _
 have Z0 := Lh (show Blk w0 wb 25 Z4 by rw [hw0, hwb]; exact Blk.new w _ _)
 have L0 := Lh l0
 have HG := Lh (show g < wb by have := h.lt; omega)
 have HWB := Lh hwb
 have W0 := Lh hw0
 have HI := Lh (show i + Ko d ≤ 10000000 ∧ 23 ≤ Ko d from ⟨hi, Ko_23 d⟩)
 have HLt := Lh hlt
 have HC0 := Lh hc
 have HD := Lh hd
 have HT := Lh (take_any (h.below l0) (by omega) 17 (by omega) (by omega))
 clear h hwb hw0 l0 hcc hi hlt hc hd
 go_enter Tryd.func15, Tryd.ntmps15
 go_upto_region 1 with fail
 rw [HWb.out]
 rw [← W0.out]
 go_wp2_with fail
 refine HT.out.mono ?_
 rintro e w1 ⟨r, hr, hr0, rfl, m1, k1⟩
 have hrc : r = 8 := hr0.eq.trans HC0.out
 subst hrc
 have HZ1 := Lh (k1.blk Z0.out (by have := HG.out; omega))
 have HK1 := Lh ((Kp.of_below' (Z := fun k => k = g) L0.out).trans k1 (fun _ _ h => h))
 have M1 := Lh m1
 clear hr hr0 m1 k1 Z0 L0 HT
 go_upto_region 2 with fail
 obtain ⟨nb, hnb⟩ : ∃ z, w1.heap.size = z := ⟨_, rfl⟩
 obtain ⟨w2, hw2⟩ : ∃ w', w1.alloc (.cells #[.int .i64 17, .string ⟨#[]⟩, .int .i64 0, .slice none 0 0] 25) = w' := ⟨_, rfl⟩
 have l2 : Below w1.heap.size w1 w2 := by rw [← hw2]; exact (Below.refl _ _).alloc (Nat.le_refl _) _
 have B2 := Lh (show Blk w2 nb 25 [.int .i64 17, .string ⟨#[]⟩, .int .i64 0, .slice none 0 0] by rw [← hw2, ← hnb]; exact Blk.new w1 _ _)
 have G2 := Lh (show GS g wb nb w w2 (.slice A L.length c) L (i + 1) from ⟨M1.out.below l2, HZ1.out.below l2 HZ1.out.lt, HK1.out.trans (Kp.of_below' (Z := fun _ => False) l2) (fun _ _ h => h.elim), HWB.out, HG.out, by have := HZ1.out.lt; omega, B2.out.lt⟩)
 rw [hnb, hw2]
 clear l2 hw2 hnb M1 HZ1 HK1 W0
 go_cut [22] (fun s22 wx => s22 = .bool false ∧ w2 = wx)
 case first =>
  have b0 := B2.out.cell 0
  simp only [g0, gs] at b0
  by_cases hd0 : d = 0
  ·
   subst hd0
   have hdI : ((0 : Nat) : Int) ≤ 0 := by omega
   go_wp2_with fail
   go_meet
   exact ⟨rfl, rfl⟩
  ·
   have hdI : ¬ (d : Int) ≤ 0 := by omega
   clear hd0
   go_wp2_with fail
   go_meet
   exact ⟨rfl, rfl⟩
 case rest =>
  obtain ⟨rfl, rfl⟩ := hcut
  have b0 := B2.out.cell 0
  simp only [g0, gs] at b0
  go_upto_region 21 with fail
  clear b0
  have HCx1 := Lh (called_any G2.out.m (by have := HI.out; omega))
  go_wp2_with fail
  refine HCx1.out.mono ?_
  rintro e Wx1 ⟨tx1, rfl, ht, hta, hm, hk⟩
  have Gx1 := Lh (G2.out.call hm hk)
  have Bx1 := Lh (hk.blk B2.out (by obtain ⟨q1, q2, q3, q4⟩ := G2.out.h; omega))
  have Tx1 := Lh (And.intro ht hta)
  have htlx1 : tx1.length ≤ 16 := (called_ok tx1 ht).2
  clear hm hk ht hta HCx1
  have bx2 := Bx1.out.cell 1; have fbx2 := Bx1.out.frozen 1
  simp only [g0, gs] at bx2
  go_upto_region 41 with fail
  obtain ⟨Wx3, hW⟩ : ∃ W', Wx1.setCell ⟨nb, 1, none⟩ (.string ⟨tx1.toArray⟩) = W' := ⟨_, rfl⟩
  have Gx3 := Lh (Gx1.out.keep (Kp.setCell (Z := fun k => k = nb) Wx1 ⟨nb, 1, none⟩ (.string ⟨tx1.toArray⟩) rfl) (fun j e => by obtain ⟨q1, q2, q3, q4⟩ := Gx1.out.h; omega))
  have Bx3 := Lh (show Blk (Wx1.setCell ⟨nb, 1, none⟩ (.string ⟨tx1.toArray⟩)) nb 25 [.int .i64 17, .string ⟨tx1.toArray⟩, .int .i64 0, .slice none 0 0] from Bx1.out.put 1 _)
  rw [hW] at Gx3 Bx3 ⊢
  clear hW bx2 fbx2
  have Z3 : Hid (Blk Wx3 wb 25 [.int .i64 0, .string ⟨#[]⟩, .int .i64 0, .slice none 0 0]) := Lh Gx3.out.z
  have HV := Lh (show NV Wx3 (fun k => wb < k) (.mk 17 tx1 (0) []) (NC 17 tx1 (0) (.slice none 0 0)) from NV.leaf (fine_small (by omega) (by omega) (by omega) (by omega) (by omega)))
  have HH := Lh Gx3.out.h
  go_wp2_with (first
   | (with_reducible refine wpList_load_cells rfl 25 4 size25 (.tmp 5) rfl ⟨nb, 0, none⟩ rfl [.int .i64 17, .string ⟨tx1.toArray⟩, .int .i64 0, .slice none 0 0] rfl _ Tryd.underlying25 rfl Bx3.out.at ?_)
   | (with_reducible refine wpList_store_blk rfl 25 4 size25 (.tmp 4) (.tmp 138) rfl wb [.int .i64 17, .string ⟨tx1.toArray⟩, .int .i64 0, .slice none 0 0] rfl rfl _ Z3.out rfl rfl rfl ?_; intro w8 hb8 hk8))
  exact bodyPost_ret (v := .agg (NC 17 tx1 (0) (.slice none 0 0)).toArray) (box_res 4 size25 rfl _ _ wb (NC 17 tx1 (0) (.slice none 0 0)) _ rfl hb8 rfl Tryd.underlying25 rfl) rfl ⟨.mk 17 tx1 (0) [], _, _, rfl, sg_name (k := 17) (by omega) HLt.out Tx1.out.1 Tx1.out.2, Gx3.out.m.kp hk8 (fun j e => by have := HH.out; omega), NV.keep (fun k h1 h2 => ⟨hk8.block k h2 (fun e => by have := HH.out; omega), by have := HH.out; omega⟩) _ _ HV.out, Gx3.out.k.trans hk8 (fun k hk e => by have := HH.out; omega), by have h1 := hk8.size; have h2 := HH.out; omega⟩
set_option maxHeartbeats 8000000 in
theorem one_release (d : Nat) (hd : d ≤ 3) {i : Nat} {w : World} (h : MS g w v L i) (hi : i + Ko d ≤ 10000000) (hlt : i < L.length) (hc : tkN L i 17 = 9) : Calls Tryd.prog 15 #[pt g, nv d] w (GOut g w v L (SG L.length i d)) := by
 have z1 := zero25
 obtain ⟨A, c, hv, hcc, _⟩ := h.l.f
 subst hv
 obtain ⟨wb, hwb⟩ : ∃ wb, wb = w.heap.size := ⟨_, rfl⟩
 have HWb := Lh hwb.symm
 obtain ⟨w0, hw0⟩ : ∃ w0, w0 = w.alloc (.cells #[.int .i64 0, .string ⟨#[]⟩, .int .i64 0, .slice none 0 0] 25) := ⟨_, rfl⟩
 have l0 : Below w.heap.size w w0 := by rw [hw0]; exact (Below.refl _ _).alloc (Nat.le_refl _) _
 have Z0 := Lh (show Blk w0 wb 25 Z4 by rw [hw0, hwb]; exact Blk.new w _ _)
 have L0 := Lh l0
 have HG := Lh (show g < wb by have := h.lt; omega)
 have HWB := Lh hwb
 have W0 := Lh hw0
 have HI := Lh (show i + Ko d ≤ 10000000 ∧ 23 ≤ Ko d from ⟨hi, Ko_23 d⟩)
 have HLt := Lh hlt
 have HC0 := Lh hc
 have HD := Lh hd
 have HT := Lh (take_any (h.below l0) (by omega) 17 (by omega) (by omega))
 clear h hwb hw0 l0 hcc hi hlt hc hd
 go_enter Tryd.func15, Tryd.ntmps15
 go_upto_region 1 with fail
 rw [HWb.out]
 rw [← W0.out]
 go_wp2_with fail
 refine HT.out.mono ?_
 rintro e w1 ⟨r, hr, hr0, rfl, m1, k1⟩
 have hrc : r = 9 := hr0.eq.trans HC0.out
 subst hrc
 have HZ1 := Lh (k1.blk Z0.out (by have := HG.out; omega))
 have HK1 := Lh ((Kp.of_below' (Z := fun k => k = g) L0.out).trans k1 (fun _ _ h => h))
 have M1 := Lh m1
 clear hr hr0 m1 k1 Z0 L0 HT
 go_upto_region 2 with fail
 obtain ⟨nb, hnb⟩ : ∃ z, w1.heap.size = z := ⟨_, rfl⟩
 obtain ⟨w2, hw2⟩ : ∃ w', w1.alloc (.cells #[.int .i64 18, .string ⟨#[]⟩, .int .i64 0, .slice none 0 0] 25) = w' := ⟨_, rfl⟩
 have l2 : Below w1.heap.size w1 w2 := by rw [← hw2]; exact (Below.refl _ _).alloc (Nat.le_refl _) _
 have B2 := Lh (show Blk w2 nb 25 [.int .i64 18, .string ⟨#[]⟩, .int .i64 0, .slice none 0 0] by rw [← hw2, ← hnb]; exact Blk.new w1 _ _)
 have G2 := Lh (show GS g wb nb w w2 (.slice A L.length c) L (i + 1) from ⟨M1.out.below l2, HZ1.out.below l2 HZ1.out.lt, HK1.out.trans (Kp.of_below' (Z := fun _ => False) l2) (fun _ _ h => h.elim), HWB.out, HG.out, by have := HZ1.out.lt; omega, B2.out.lt⟩)
 rw [hnb, hw2]
 clear l2 hw2 hnb M1 HZ1 HK1 W0
 go_cut [22] (fun s22 wx => s22 = .bool false ∧ w2 = wx)
 case first =>
  have b0 := B2.out.cell 0
  simp only [g0, gs] at b0
  by_cases hd0 : d = 0
  ·
   subst hd0
   have hdI : ((0 : Nat) : Int) ≤ 0 := by omega
   go_wp2_with fail
   go_meet
   exact ⟨rfl, rfl⟩
  ·
   have hdI : ¬ (d : Int) ≤ 0 := by omega
   clear hd0
   go_wp2_with fail
   go_meet
   exact ⟨rfl, rfl⟩
 case rest =>
  obtain ⟨rfl, rfl⟩ := hcut
  have b0 := B2.out.cell 0
  simp only [g0, gs] at b0
  go_upto_region 21 with fail
  clear b0
  have HCx1 := Lh (called_any G2.out.m (by have := HI.out; omega))
  go_wp2_with fail
  refine HCx1.out.mono ?_
  rintro e Wx1 ⟨tx1, rfl, ht, hta, hm, hk⟩
  have Gx1 := Lh (G2.out.call hm hk)
  have Bx1 := Lh (hk.blk B2.out (by obtain ⟨q1, q2, q3, q4⟩ := G2.out.h; omega))
  have Tx1 := Lh (And.intro ht hta)
  have htlx1 : tx1.length ≤ 16 := (called_ok tx1 ht).2
  clear hm hk ht hta HCx1
  have bx2 := Bx1.out.cell 1; have fbx2 := Bx1.out.frozen 1
  simp only [g0, gs] at bx2
  go_upto_region 41 with fail
  obtain ⟨Wx3, hW⟩ : ∃ W', Wx1.setCell ⟨nb, 1, none⟩ (.string ⟨tx1.toArray⟩) = W' := ⟨_, rfl⟩
  have Gx3 := Lh (Gx1.out.keep (Kp.setCell (Z := fun k => k = nb) Wx1 ⟨nb, 1, none⟩ (.string ⟨tx1.toArray⟩) rfl) (fun j e => by obtain ⟨q1, q2, q3, q4⟩ := Gx1.out.h; omega))
  have Bx3 := Lh (show Blk (Wx1.setCell ⟨nb, 1, none⟩ (.string ⟨tx1.toArray⟩)) nb 25 [.int .i64 18, .string ⟨tx1.toArray⟩, .int .i64 0, .slice none 0 0] from Bx1.out.put 1 _)
  rw [hW] at Gx3 Bx3 ⊢
  clear hW bx2 fbx2
  have Z3 : Hid (Blk Wx3 wb 25 [.int .i64 0, .string ⟨#[]⟩, .int .i64 0, .slice none 0 0]) := Lh Gx3.out.z
  have HV := Lh (show NV Wx3 (fun k => wb < k) (.mk 18 tx1 (0) []) (NC 18 tx1 (0) (.slice none 0 0)) from NV.leaf (fine_small (by omega) (by omega) (by omega) (by omega) (by omega)))
  have HH := Lh Gx3.out.h
  go_wp2_with (first
   | (with_reducible refine wpList_load_cells rfl 25 4 size25 (.tmp 5) rfl ⟨nb, 0, none⟩ rfl [.int .i64 18, .string ⟨tx1.toArray⟩, .int .i64 0, .slice none 0 0] rfl _ Tryd.underlying25 rfl Bx3.out.at ?_)
   | (with_reducible refine wpList_store_blk rfl 25 4 size25 (.tmp 4) (.tmp 138) rfl wb [.int .i64 18, .string ⟨tx1.toArray⟩, .int .i64 0, .slice none 0 0] rfl rfl _ Z3.out rfl rfl rfl ?_; intro w8 hb8 hk8))
  exact bodyPost_ret (v := .agg (NC 18 tx1 (0) (.slice none 0 0)).toArray) (box_res 4 size25 rfl _ _ wb (NC 18 tx1 (0) (.slice none 0 0)) _ rfl hb8 rfl Tryd.underlying25 rfl) rfl ⟨.mk 18 tx1 (0) [], _, _, rfl, sg_name (k := 18) (by omega) HLt.out Tx1.out.1 Tx1.out.2, Gx3.out.m.kp hk8 (fun j e => by have := HH.out; omega), NV.keep (fun k h1 h2 => ⟨hk8.block k h2 (fun e => by have := HH.out; omega), by have := HH.out; omega⟩) _ _ HV.out, Gx3.out.k.trans hk8 (fun k hk e => by have := HH.out; omega), by have h1 := hk8.size; have h2 := HH.out; omega⟩
end
end Go.Proofs.YtpbhgebblpdmnaaDoor
namespace Go.Proofs.YtpbhgebblpdmnaaDoor
open Go.RowKit Wr Src
set_option linter.unusedVariables false
set_option maxRecDepth 100000
section
variable {g : Nat} {v : Value} {L : List Int}
set_option maxHeartbeats 8000000 in
theorem one_send (d : Nat) (hd : d ≤ 3) {i : Nat} {w : World} (h : MS g w v L i) (hi : i + Ko d ≤ 10000000) (hlt : i < L.length) (hc : tkN L i 17 = 6) : Calls Tryd.prog 15 #[pt g, nv d] w (GOut g w v L (SG L.length i d)) := by
 have z1 := zero25
 obtain ⟨A, c, hv, hcc, _⟩ := h.l.f
 subst hv
 obtain ⟨wb, hwb⟩ : ∃ wb, wb = w.heap.size := ⟨_, rfl⟩
 have HWb := Lh hwb.symm
 obtain ⟨w0, hw0⟩ : ∃ w0, w0 = w.alloc (.cells #[.int .i64 0, .string ⟨#[]⟩, .int .i64 0, .slice none 0 0] 25) := ⟨_, rfl⟩
 have l0 : Below w.heap.size w w0 := by rw [hw0]; exact (Below.refl _ _).alloc (Nat.le_refl _) _
 have Z0 := Lh (show Blk w0 wb 25 Z4 by rw [hw0, hwb]; exact Blk.new w _ _)
 have L0 := Lh l0
 have HG := Lh (show g < wb by have := h.lt; omega)
 have HWB := Lh hwb
 have W0 := Lh hw0
 have HI := Lh (show i + Ko d ≤ 10000000 ∧ 23 ≤ Ko d from ⟨hi, Ko_23 d⟩)
 have HLt := Lh hlt
 have HC0 := Lh hc
 have HD := Lh hd
 have HT := Lh (take_any (h.below l0) (by omega) 17 (by omega) (by omega))
 clear h hwb hw0 l0 hcc hi hlt hc hd
 go_enter Tryd.func15, Tryd.ntmps15
 go_upto_region 1 with fail
 rw [HWb.out]
 rw [← W0.out]
 go_wp2_with fail
 refine HT.out.mono ?_
 rintro e w1 ⟨r, hr, hr0, rfl, m1, k1⟩
 have hrc : r = 6 := hr0.eq.trans HC0.out
 subst hrc
 have HZ1 := Lh (k1.blk Z0.out (by have := HG.out; omega))
 have HK1 := Lh ((Kp.of_below' (Z := fun k => k = g) L0.out).trans k1 (fun _ _ h => h))
 have M1 := Lh m1
 clear hr hr0 m1 k1 Z0 L0 HT
 go_upto_region 2 with fail
 obtain ⟨nb, hnb⟩ : ∃ z, w1.heap.size = z := ⟨_, rfl⟩
 obtain ⟨w2, hw2⟩ : ∃ w', w1.alloc (.cells #[.int .i64 15, .string ⟨#[]⟩, .int .i64 0, .slice none 0 0] 25) = w' := ⟨_, rfl⟩
 have l2 : Below w1.heap.size w1 w2 := by rw [← hw2]; exact (Below.refl _ _).alloc (Nat.le_refl _) _
 have B2 := Lh (show Blk w2 nb 25 [.int .i64 15, .string ⟨#[]⟩, .int .i64 0, .slice none 0 0] by rw [← hw2, ← hnb]; exact Blk.new w1 _ _)
 have G2 := Lh (show GS g wb nb w w2 (.slice A L.length c) L (i + 1) from ⟨M1.out.below l2, HZ1.out.below l2 HZ1.out.lt, HK1.out.trans (Kp.of_below' (Z := fun _ => False) l2) (fun _ _ h => h.elim), HWB.out, HG.out, by have := HZ1.out.lt; omega, B2.out.lt⟩)
 rw [hnb, hw2]
 clear l2 hw2 hnb M1 HZ1 HK1 W0
 go_cut [22] (fun s22 wx => s22 = .bool false ∧ w2 = wx)
 case first =>
  have b0 := B2.out.cell 0
  simp only [g0, gs] at b0
  by_cases hd0 : d = 0
  ·
   subst hd0
   have hdI : ((0 : Nat) : Int) ≤ 0 := by omega
   go_wp2_with fail
   go_meet
   exact ⟨rfl, rfl⟩
  ·
   have hdI : ¬ (d : Int) ≤ 0 := by omega
   clear hd0
   go_wp2_with fail
   go_meet
   exact ⟨rfl, rfl⟩
 case rest =>
  obtain ⟨rfl, rfl⟩ := hcut
  have b0 := B2.out.cell 0
  simp only [g0, gs] at b0
  go_upto_region 24 with fail
  clear b0
  have HCx1 := Lh (called_any G2.out.m (by have := HI.out; omega))
  go_wp2_with fail
  refine HCx1.out.mono ?_
  rintro e Wx1 ⟨tx1, rfl, ht, hta, hm, hk⟩
  have Gx1 := Lh (G2.out.call hm hk)
  have Bx1 := Lh (hk.blk B2.out (by obtain ⟨q1, q2, q3, q4⟩ := G2.out.h; omega))
  have Tx1 := Lh (And.intro ht hta)
  have htlx1 : tx1.length ≤ 16 := (called_ok tx1 ht).2
  clear hm hk ht hta HCx1
  have bx2 := Bx1.out.cell 1; have fbx2 := Bx1.out.frozen 1
  simp only [g0, gs] at bx2
  go_upto_region 25 with fail
  obtain ⟨Wx3, hW⟩ : ∃ W', Wx1.setCell ⟨nb, 1, none⟩ (.string ⟨tx1.toArray⟩) = W' := ⟨_, rfl⟩
  have Gx3 := Lh (Gx1.out.keep (Kp.setCell (Z := fun k => k = nb) Wx1 ⟨nb, 1, none⟩ (.string ⟨tx1.toArray⟩) rfl) (fun j e => by obtain ⟨q1, q2, q3, q4⟩ := Gx1.out.h; omega))
  have Bx3 := Lh (show Blk (Wx1.setCell ⟨nb, 1, none⟩ (.string ⟨tx1.toArray⟩)) nb 25 [.int .i64 15, .string ⟨tx1.toArray⟩, .int .i64 0, .slice none 0 0] from Bx1.out.put 1 _)
  rw [hW] at Gx3 Bx3 ⊢
  clear hW bx2 fbx2
  have HCx4 := Lh (value_any 1 (by omega) Gx3.out.m (by have := HI.out; simp only [Kv]; omega))
  go_wp2_with fail
  refine HCx4.out.mono ?_
  rintro e Wx4 ⟨nx4, jx4, csx4, rfl, hf, hm, hv, hk, hs⟩
  have Fx4 := Lh hf
  obtain ⟨kx4, sx4, zx4, lx4⟩ := nx4
  obtain ⟨Ax4, cx4, ysx4, hcs, _⟩ := hv.form
  subst hcs
  have Gx4 := Lh (Gx3.out.call hm hk)
  have Bx4 := Lh (hk.blk Bx3.out (by obtain ⟨q1, q2, q3, q4⟩ := Gx3.out.h; omega))
  have Vx4 := Lh (NV.keep (P' := fun k => nb < k) (fun k h1 h2 => ⟨rfl, by have := Gx3.out.fit; omega⟩) _ _ hv)
  have Sx4 := Lh (show nb + 2 ≤ Wx4.heap.size by have := Gx3.out.fit; omega)
  clear hf hm hv hk hs HCx4
  dsimp only [NC]
  go_upto_region 41 with (first | (with_reducible refine wpList_bs1 rfl rfl rfl ?_; intro gzx5 Wbx5 hgq hXx5 hBx5; have hgzx5 := Lh hgq; clear hgq; have bqx5 := (Blk.below Bx4.out hBx5 Bx4.out.lt).cell 3; have fqx5 := (Blk.below Bx4.out hBx5 Bx4.out.lt).frozen 3; simp only [g0, gs] at bqx5))
  have Gx5 := Lh (Gx4.out.keep (Kp.of_below' (Z := fun _ => False) hBx5) (fun _ h => h.elim))
  have Bx5 := Lh (Bx4.out.below hBx5 Bx4.out.lt)
  have Vx50 := Lh ((Kp.of_below' (Z := fun _ => False) hBx5).nv Vx4.out (fun _ _ _ h => h))
  have Xx5 := Lh hXx5
  have Xx5_g := Lh (show nb < gzx5 by have := Gx4.out.fit; have h9 := hgzx5.out; omega)
  clear hXx5 hBx5 hgzx5
  have bzx5 := bqx5; have fbzx5 := fqx5
  clear bqx5 fqx5
  obtain ⟨Wx6, hW⟩ : ∃ W', Wbx5.setCell ⟨nb, 3, none⟩ (.slice (some ⟨gzx5, 0, none⟩) 1 1) = W' := ⟨_, rfl⟩
  have Gx6 := Lh (Gx5.out.keep (Kp.setCell (Z := fun k => k = nb) Wbx5 ⟨nb, 3, none⟩ (.slice (some ⟨gzx5, 0, none⟩) 1 1) rfl) (fun j e => by obtain ⟨q1, q2, q3, q4⟩ := Gx5.out.h; omega))
  have Bx6 := Lh (show Blk (Wbx5.setCell ⟨nb, 3, none⟩ (.slice (some ⟨gzx5, 0, none⟩) 1 1)) nb 25 [.int .i64 15, .string ⟨tx1.toArray⟩, .int .i64 0, .slice (some ⟨gzx5, 0, none⟩) 1 1] from Bx5.out.put 3 _)
  have Vx60 := Lh ((Kp.setCell (Z := fun k => k = nb) Wbx5 ⟨nb, 3, none⟩ (.slice (some ⟨gzx5, 0, none⟩) 1 1) rfl).nv Vx50.out (fun k hk _ e => by omega))
  have Xx60 := Lh ((Kp.setCell (Z := fun k => k = nb) Wbx5 ⟨nb, 3, none⟩ (.slice (some ⟨gzx5, 0, none⟩) 1 1) rfl).blk Xx5.out (by have := Xx5_g.out; omega))
  have Xx60_g := Xx5_g
  rw [hW] at Gx6 Bx6 Vx60 Xx60 ⊢
  clear hW bzx5 fbzx5
  have Z3 : Hid (Blk Wx6 wb 25 [.int .i64 0, .string ⟨#[]⟩, .int .i64 0, .slice none 0 0]) := Lh Gx6.out.z
  have HV := Lh (show NV Wx6 (fun k => wb < k) (.mk 15 tx1 (0) [.mk kx4 sx4 zx4 lx4]) (NC 15 tx1 (0) (.slice (some ⟨gzx5, 0, none⟩) 1 1)) from nv_built (l := [_]) Xx60.out (by have := Xx60_g.out; obtain ⟨q1, q2, q3, q4⟩ := Gx6.out.h; omega) (NL.one (NV.keep (fun k h1 h2 => ⟨rfl, by obtain ⟨q1, q2, q3, q4⟩ := Gx6.out.h; omega⟩) _ _ Vx60.out)) (fine_small (by omega) (by omega) (by omega) (by omega) (by omega)) (by simp))
  have HH := Lh Gx6.out.h
  go_wp2_with (first
   | (with_reducible refine wpList_load_cells rfl 25 4 size25 (.tmp 5) rfl ⟨nb, 0, none⟩ rfl [.int .i64 15, .string ⟨tx1.toArray⟩, .int .i64 0, .slice (some ⟨gzx5, 0, none⟩) 1 1] rfl _ Tryd.underlying25 rfl Bx6.out.at ?_)
   | (with_reducible refine wpList_store_blk rfl 25 4 size25 (.tmp 4) (.tmp 138) rfl wb [.int .i64 15, .string ⟨tx1.toArray⟩, .int .i64 0, .slice (some ⟨gzx5, 0, none⟩) 1 1] rfl rfl _ Z3.out rfl rfl rfl ?_; intro w8 hb8 hk8))
  exact bodyPost_ret (v := .agg (NC 15 tx1 (0) (.slice (some ⟨gzx5, 0, none⟩) 1 1)).toArray) (box_res 4 size25 rfl _ _ wb (NC 15 tx1 (0) (.slice (some ⟨gzx5, 0, none⟩) 1 1)) _ rfl hb8 rfl Tryd.underlying25 rfl) rfl ⟨.mk 15 tx1 (0) [.mk kx4 sx4 zx4 lx4], _, _, rfl, sg_send (k := 15) (by omega) HLt.out Tx1.out.1 Tx1.out.2 Fx4.out, Gx6.out.m.kp hk8 (fun j e => by have := HH.out; omega), NV.keep (fun k h1 h2 => ⟨hk8.block k h2 (fun e => by have := HH.out; omega), by have := HH.out; omega⟩) _ _ HV.out, Gx6.out.k.trans hk8 (fun k hk e => by have := HH.out; omega), by have h1 := hk8.size; have h2 := HH.out; omega⟩
set_option maxHeartbeats 8000000 in
theorem one_write (d : Nat) (hd : d ≤ 3) {i : Nat} {w : World} (h : MS g w v L i) (hi : i + Ko d ≤ 10000000) (hlt : i < L.length) (hc : tkN L i 17 = 13) : Calls Tryd.prog 15 #[pt g, nv d] w (GOut g w v L (SG L.length i d)) := by
 have z1 := zero25
 obtain ⟨A, c, hv, hcc, _⟩ := h.l.f
 subst hv
 obtain ⟨wb, hwb⟩ : ∃ wb, wb = w.heap.size := ⟨_, rfl⟩
 have HWb := Lh hwb.symm
 obtain ⟨w0, hw0⟩ : ∃ w0, w0 = w.alloc (.cells #[.int .i64 0, .string ⟨#[]⟩, .int .i64 0, .slice none 0 0] 25) := ⟨_, rfl⟩
 have l0 : Below w.heap.size w w0 := by rw [hw0]; exact (Below.refl _ _).alloc (Nat.le_refl _) _
 have Z0 := Lh (show Blk w0 wb 25 Z4 by rw [hw0, hwb]; exact Blk.new w _ _)
 have L0 := Lh l0
 have HG := Lh (show g < wb by have := h.lt; omega)
 have HWB := Lh hwb
 have W0 := Lh hw0
 have HI := Lh (show i + Ko d ≤ 10000000 ∧ 23 ≤ Ko d from ⟨hi, Ko_23 d⟩)
 have HLt := Lh hlt
 have HC0 := Lh hc
 have HD := Lh hd
 have HT := Lh (take_any (h.below l0) (by omega) 17 (by omega) (by omega))
 clear h hwb hw0 l0 hcc hi hlt hc hd
 go_enter Tryd.func15, Tryd.ntmps15
 go_upto_region 1 with fail
 rw [HWb.out]
 rw [← W0.out]
 go_wp2_with fail
 refine HT.out.mono ?_
 rintro e w1 ⟨r, hr, hr0, rfl, m1, k1⟩
 have hrc : r = 13 := hr0.eq.trans HC0.out
 subst hrc
 have HZ1 := Lh (k1.blk Z0.out (by have := HG.out; omega))
 have HK1 := Lh ((Kp.of_below' (Z := fun k => k = g) L0.out).trans k1 (fun _ _ h => h))
 have M1 := Lh m1
 clear hr hr0 m1 k1 Z0 L0 HT
 go_upto_region 2 with fail
 obtain ⟨nb, hnb⟩ : ∃ z, w1.heap.size = z := ⟨_, rfl⟩
 obtain ⟨w2, hw2⟩ : ∃ w', w1.alloc (.cells #[.int .i64 22, .string ⟨#[]⟩, .int .i64 0, .slice none 0 0] 25) = w' := ⟨_, rfl⟩
 have l2 : Below w1.heap.size w1 w2 := by rw [← hw2]; exact (Below.refl _ _).alloc (Nat.le_refl _) _
 have B2 := Lh (show Blk w2 nb 25 [.int .i64 22, .string ⟨#[]⟩, .int .i64 0, .slice none 0 0] by rw [← hw2, ← hnb]; exact Blk.new w1 _ _)
 have G2 := Lh (show GS g wb nb w w2 (.slice A L.length c) L (i + 1) from ⟨M1.out.below l2, HZ1.out.below l2 HZ1.out.lt, HK1.out.trans (Kp.of_below' (Z := fun _ => False) l2) (fun _ _ h => h.elim), HWB.out, HG.out, by have := HZ1.out.lt; omega, B2.out.lt⟩)
 rw [hnb, hw2]
 clear l2 hw2 hnb M1 HZ1 HK1 W0
 go_cut [22] (fun s22 wx => s22 = .bool false ∧ w2 = wx)
 case first =>
  have b0 := B2.out.cell 0
  simp only [g0, gs] at b0
  by_cases hd0 : d = 0
  ·
   subst hd0
   have hdI : ((0 : Nat) : Int) ≤ 0 := by omega
   go_wp2_with fail
   go_meet
   exact ⟨rfl, rfl⟩
  ·
   have hdI : ¬ (d : Int) ≤ 0 := by omega
   clear hd0
   go_wp2_with fail
   go_meet
   exact ⟨rfl, rfl⟩
 case rest =>
  obtain ⟨rfl, rfl⟩ := hcut
  have b0 := B2.out.cell 0
  simp only [g0, gs] at b0
  go_upto_region 24 with fail
  clear b0
  have HCx1 := Lh (called_any G2.out.m (by have := HI.out; omega))
  go_wp2_with fail
  refine HCx1.out.mono ?_
  rintro e Wx1 ⟨tx1, rfl, ht, hta, hm, hk⟩
  have Gx1 := Lh (G2.out.call hm hk)
  have Bx1 := Lh (hk.blk B2.out (by obtain ⟨q1, q2, q3, q4⟩ := G2.out.h; omega))
  have Tx1 := Lh (And.intro ht hta)
  have htlx1 : tx1.length ≤ 16 := (called_ok tx1 ht).2
  clear hm hk ht hta HCx1
  have bx2 := Bx1.out.cell 1; have fbx2 := Bx1.out.frozen 1
  simp only [g0, gs] at bx2
  go_upto_region 25 with fail
  obtain ⟨Wx3, hW⟩ : ∃ W', Wx1.setCell ⟨nb, 1, none⟩ (.string ⟨tx1.toArray⟩) = W' := ⟨_, rfl⟩
  have Gx3 := Lh (Gx1.out.keep (Kp.setCell (Z := fun k => k = nb) Wx1 ⟨nb, 1, none⟩ (.string ⟨tx1.toArray⟩) rfl) (fun j e => by obtain ⟨q1, q2, q3, q4⟩ := Gx1.out.h; omega))
  have Bx3 := Lh (show Blk (Wx1.setCell ⟨nb, 1, none⟩ (.string ⟨tx1.toArray⟩)) nb 25 [.int .i64 22, .string ⟨tx1.toArray⟩, .int .i64 0, .slice none 0 0] from Bx1.out.put 1 _)
  rw [hW] at Gx3 Bx3 ⊢
  clear hW bx2 fbx2
  have HCx4 := Lh (value_any 1 (by omega) Gx3.out.m (by have := HI.out; simp only [Kv]; omega))
  go_wp2_with fail
  refine HCx4.out.mono ?_
  rintro e Wx4 ⟨nx4, jx4, csx4, rfl, hf, hm, hv, hk, hs⟩
  have Fx4 := Lh hf
  obtain ⟨kx4, sx4, zx4, lx4⟩ := nx4
  obtain ⟨Ax4, cx4, ysx4, hcs, _⟩ := hv.form
  subst hcs
  have Gx4 := Lh (Gx3.out.call hm hk)
  have Bx4 := Lh (hk.blk Bx3.out (by obtain ⟨q1, q2, q3, q4⟩ := Gx3.out.h; omega))
  have Vx4 := Lh (NV.keep (P' := fun k => nb < k) (fun k h1 h2 => ⟨rfl, by have := Gx3.out.fit; omega⟩) _ _ hv)
  have Sx4 := Lh (show nb + 2 ≤ Wx4.heap.size by have := Gx3.out.fit; omega)
  clear hf hm hv hk hs HCx4
  dsimp only [NC]
  go_upto_region 41 with (first | (with_reducible refine wpList_bs1 rfl rfl rfl ?_; intro gzx5 Wbx5 hgq hXx5 hBx5; have hgzx5 := Lh hgq; clear hgq; have bqx5 := (Blk.below Bx4.out hBx5 Bx4.out.lt).cell 3; have fqx5 := (Blk.below Bx4.out hBx5 Bx4.out.lt).frozen 3; simp only [g0, gs] at bqx5))
  have Gx5 := Lh (Gx4.out.keep (Kp.of_below' (Z := fun _ => False) hBx5) (fun _ h => h.elim))
  have Bx5 := Lh (Bx4.out.below hBx5 Bx4.out.lt)
  have Vx50 := Lh ((Kp.of_below' (Z := fun _ => False) hBx5).nv Vx4.out (fun _ _ _ h => h))
  have Xx5 := Lh hXx5
  have Xx5_g := Lh (show nb < gzx5 by have := Gx4.out.fit; have h9 := hgzx5.out; omega)
  clear hXx5 hBx5 hgzx5
  have bzx5 := bqx5; have fbzx5 := fqx5
  clear bqx5 fqx5
  obtain ⟨Wx6, hW⟩ : ∃ W', Wbx5.setCell ⟨nb, 3, none⟩ (.slice (some ⟨gzx5, 0, none⟩) 1 1) = W' := ⟨_, rfl⟩
  have Gx6 := Lh (Gx5.out.keep (Kp.setCell (Z := fun k => k = nb) Wbx5 ⟨nb, 3, none⟩ (.slice (some ⟨gzx5, 0, none⟩) 1 1) rfl) (fun j e => by obtain ⟨q1, q2, q3, q4⟩ := Gx5.out.h; omega))
  have Bx6 := Lh (show Blk (Wbx5.setCell ⟨nb, 3, none⟩ (.slice (some ⟨gzx5, 0, none⟩) 1 1)) nb 25 [.int .i64 22, .string ⟨tx1.toArray⟩, .int .i64 0, .slice (some ⟨gzx5, 0, none⟩) 1 1] from Bx5.out.put 3 _)
  have Vx60 := Lh ((Kp.setCell (Z := fun k => k = nb) Wbx5 ⟨nb, 3, none⟩ (.slice (some ⟨gzx5, 0, none⟩) 1 1) rfl).nv Vx50.out (fun k hk _ e => by omega))
  have Xx60 := Lh ((Kp.setCell (Z := fun k => k = nb) Wbx5 ⟨nb, 3, none⟩ (.slice (some ⟨gzx5, 0, none⟩) 1 1) rfl).blk Xx5.out (by have := Xx5_g.out; omega))
  have Xx60_g := Xx5_g
  rw [hW] at Gx6 Bx6 Vx60 Xx60 ⊢
  clear hW bzx5 fbzx5
  have Z3 : Hid (Blk Wx6 wb 25 [.int .i64 0, .string ⟨#[]⟩, .int .i64 0, .slice none 0 0]) := Lh Gx6.out.z
  have HV := Lh (show NV Wx6 (fun k => wb < k) (.mk 22 tx1 (0) [.mk kx4 sx4 zx4 lx4]) (NC 22 tx1 (0) (.slice (some ⟨gzx5, 0, none⟩) 1 1)) from nv_built (l := [_]) Xx60.out (by have := Xx60_g.out; obtain ⟨q1, q2, q3, q4⟩ := Gx6.out.h; omega) (NL.one (NV.keep (fun k h1 h2 => ⟨rfl, by obtain ⟨q1, q2, q3, q4⟩ := Gx6.out.h; omega⟩) _ _ Vx60.out)) (fine_small (by omega) (by omega) (by omega) (by omega) (by omega)) (by simp))
  have HH := Lh Gx6.out.h
  go_wp2_with (first
   | (with_reducible refine wpList_load_cells rfl 25 4 size25 (.tmp 5) rfl ⟨nb, 0, none⟩ rfl [.int .i64 22, .string ⟨tx1.toArray⟩, .int .i64 0, .slice (some ⟨gzx5, 0, none⟩) 1 1] rfl _ Tryd.underlying25 rfl Bx6.out.at ?_)
   | (with_reducible refine wpList_store_blk rfl 25 4 size25 (.tmp 4) (.tmp 138) rfl wb [.int .i64 22, .string ⟨tx1.toArray⟩, .int .i64 0, .slice (some ⟨gzx5, 0, none⟩) 1 1] rfl rfl _ Z3.out rfl rfl rfl ?_; intro w8 hb8 hk8))
  exact bodyPost_ret (v := .agg (NC 22 tx1 (0) (.slice (some ⟨gzx5, 0, none⟩) 1 1)).toArray) (box_res 4 size25 rfl _ _ wb (NC 22 tx1 (0) (.slice (some ⟨gzx5, 0, none⟩) 1 1)) _ rfl hb8 rfl Tryd.underlying25 rfl) rfl ⟨.mk 22 tx1 (0) [.mk kx4 sx4 zx4 lx4], _, _, rfl, sg_send (k := 22) (by omega) HLt.out Tx1.out.1 Tx1.out.2 Fx4.out, Gx6.out.m.kp hk8 (fun j e => by have := HH.out; omega), NV.keep (fun k h1 h2 => ⟨hk8.block k h2 (fun e => by have := HH.out; omega), by have := HH.out; omega⟩) _ _ HV.out, Gx6.out.k.trans hk8 (fun k hk e => by have := HH.out; omega), by have h1 := hk8.size; have h2 := HH.out; omega⟩
end
end Go.Proofs.YtpbhgebblpdmnaaDoor
namespace Go.Proofs.YtpbhgebblpdmnaaDoor
open Go.RowKit Wr Src
set_option linter.unusedVariables false
set_option maxRecDepth 100000
section
variable {g : Nat} {v : Value} {L : List Int}
theorem one_step (d : Nat) (hd : d ≤ 3) (HSome : Hid (∀ e : Nat, d = e + 1 → ∀ (W : World) (i : Nat), MS g W v L i → i + (1 + 3 * Ko e) ≤ 10000000 → Calls Tryd.prog 30 #[pt g, nv e] W (GOut g W v L (BG L.length i e)))) {i : Nat} {w : World} (h : MS g w v L i) (hi : i + Ko d ≤ 10000000) (hlt : i < L.length) : Calls Tryd.prog 15 #[pt g, nv d] w (GOut g w v L (SG L.length i d)) := by
 have h17 := tkN_lt L i (m := 17) (by omega)
 obtain ⟨c, hc⟩ : ∃ c, tkN L i 17 = c := ⟨_, rfl⟩
 rw [hc] at h17
 have hcc : c = 0 ∨ c = 1 ∨ c = 2 ∨ c = 3 ∨ c = 4 ∨ c = 5 ∨ c = 6 ∨ c = 7 ∨ c = 8 ∨ c = 9 ∨ c = 10 ∨ c = 11 ∨ c = 12 ∨ c = 13 ∨ c = 14 ∨ c = 15 ∨ c = 16 := by omega
 rcases hcc with h0 | h0 | h0 | h0 | h0 | h0 | h0 | h0 | h0 | h0 | h0 | h0 | h0 | h0 | h0 | h0 | h0 <;> rw [h0] at hc
 ·
  exact one_let d hd h hi hlt hc
 ·
  exact one_set d hd h hi hlt hc
 ·
  exact one_if d hd HSome h hi hlt hc
 ·
  exact one_while d hd HSome h hi hlt hc
 ·
  exact one_go d hd h hi hlt hc
 ·
  exact one_call d hd h hi hlt hc
 ·
  exact one_send d hd h hi hlt hc
 ·
  exact one_recv d hd h hi hlt hc
 ·
  exact one_acquire d hd h hi hlt hc
 ·
  exact one_release d hd h hi hlt hc
 ·
  exact one_draw d hd h hi hlt hc
 ·
  exact one_now d hd h hi hlt hc
 ·
  exact one_sleep d hd h hi hlt hc
 ·
  exact one_write d hd h hi hlt hc
 ·
  exact one_read d hd h hi hlt hc
 ·
  exact one_check d hd h hi hlt hc
 ·
  exact one_alloc d hd h hi hlt hc
theorem one_some : ∀ (d : Nat), d ≤ 3 → (∀ (W : World) (i : Nat), MS g W v L i → i < L.length → i + Ko d ≤ 10000000 → Calls Tryd.prog 15 #[pt g, nv d] W (GOut g W v L (SG L.length i d))) ∧ (∀ (W : World) (i : Nat), MS g W v L i → i + (1 + 3 * Ko d) ≤ 10000000 → Calls Tryd.prog 30 #[pt g, nv d] W (GOut g W v L (BG L.length i d)))
 | 0, hd => by
  have h1 : ∀ (W : World) (i : Nat), MS g W v L i → i < L.length → i + Ko 0 ≤ 10000000 → Calls Tryd.prog 15 #[pt g, nv 0] W (GOut g W v L (SG L.length i 0)) :=
   fun W i h hlt hi => one_step 0 hd (Lib.hid (fun e he => by omega)) h hi hlt
  exact ⟨h1, fun W i h hi => some_step 0 hd (Lib.hid h1) h hi⟩
 | d + 1, hd => by
  have ih := one_some d (by omega)
  have h1 : ∀ (W : World) (i : Nat), MS g W v L i → i < L.length → i + Ko (d + 1) ≤ 10000000 → Calls Tryd.prog 15 #[pt g, nv (d + 1)] W (GOut g W v L (SG L.length i (d + 1))) :=
   fun W i h hlt hi => one_step (d + 1) hd (Lib.hid (fun e he => by obtain rfl : d = e := (by omega); exact ih.2)) h hi hlt
  exact ⟨h1, fun W i h hi => some_step (d + 1) hd (Lib.hid h1) h hi⟩
theorem one_any (d : Nat) (hd : d ≤ 3) {i : Nat} {w : World} (h : MS g w v L i) (hlt : i < L.length) (hi : i + Ko d ≤ 10000000) : Calls Tryd.prog 15 #[pt g, nv d] w (GOut g w v L (SG L.length i d)) := (one_some d hd).1 w i h hlt hi
end
end Go.Proofs.YtpbhgebblpdmnaaDoor
namespace Go.Proofs.YtpbhgebblpdmnaaDoor
open Go.RowKit Wr Src
set_option linter.unusedVariables false
set_option maxRecDepth 100000
structure TS (g rb n1 nb : Nat) (kd : Int) (t : Str) (w W : World) (vv : Value) (LL : List Int) (j : Nat) : Prop where
 m : MS g W vv LL j
 z : Blk W rb 25 Z4
 n : Blk W n1 25 (NC kd t 0 (.slice none 0 0))
 k : Below w.heap.size w W
 h : rb = w.heap.size ∧ rb < g ∧ g < n1 ∧ n1 < nb ∧ nb < W.heap.size
section
variable {g rb n1 nb : Nat} {kd : Int} {t : Str} {w W W' : World} {vv : Value} {LL : List Int} {j j' : Nat} {Z : Nat → Prop}
theorem TS.call (h : TS g rb n1 nb kd t w W vv LL j) (hm : MS g W' vv LL j') (hk : Kp (fun k => k = g) W W') : TS g rb n1 nb kd t w W' vv LL j' := by
 obtain ⟨h1, h2, h3, h4, h5⟩ := h.h
 exact ⟨hm, hk.blk h.z (by omega), hk.blk h.n (by omega), h.k.trans (hk.below h.k.size (fun k hk e => by omega)), h1, h2, h3, h4, Nat.lt_of_lt_of_le h5 hk.size⟩
theorem TS.keep (h : TS g rb n1 nb kd t w W vv LL j) (hk : Kp Z W W') (hz : ∀ j, Z j → n1 < j) : TS g rb n1 nb kd t w W' vv LL j := by
 obtain ⟨h1, h2, h3, h4, h5⟩ := h.h
 exact ⟨h.m.kp hk (fun j hj => by have := hz j hj; omega), hk.blk h.z (fun e => by have := hz rb e; omega), hk.blk h.n (fun e => by have := hz n1 e; omega), h.k.trans (hk.below h.k.size (fun k hk e => by have := hz k e; omega)), h1, h2, h3, h4, Nat.lt_of_lt_of_le h5 hk.size⟩
theorem TS.fit (h : TS g rb n1 nb kd t w W vv LL j) : nb < W.heap.size := h.h.2.2.2.2
end
theorem push_t {w W W1 : World} {g rb n1 nb g2 cap j : Nat} {kd : Int} {tt : Str} {vv : Value} {LL : List Int} {mk mz : Int} {mt : Str} {v : Value} {l : List Nd} {xs : List Value} {n : Nd} {cs : List Value}
  (hR : TS g rb n1 nb kd tt w W vv LL j) (hb : Blk W nb 25 (NC mk mt mz v)) (hk : KR W nb v l xs) (hn : NV W (fun j => nb < j ∧ some j ≠ v.ownBlock) n cs) (hl : l.length + 1 ≤ 8589934592)
  (hown : W1.ownsRow (nb + 2) 25 4 (.slice (some ⟨g2, 0, none⟩) (l.length + 1) cap) (l.length + 1) (xs ++ cs)) (hgr : W.grownBy W1 v.ownBlock) (hat : v.ownBlock = some g2 ∨ g2 = W.heap.size) :
  TS g rb n1 nb kd tt w (W1.setCell ⟨nb, 3, none⟩ (.slice (some ⟨g2, 0, none⟩) (l.length + 1) cap)) vv LL j ∧
  Blk (W1.setCell ⟨nb, 3, none⟩ (.slice (some ⟨g2, 0, none⟩) (l.length + 1) cap)) nb 25 (NC mk mt mz (.slice (some ⟨g2, 0, none⟩) (l.length + 1) cap)) ∧
  KR (W1.setCell ⟨nb, 3, none⟩ (.slice (some ⟨g2, 0, none⟩) (l.length + 1) cap)) nb (.slice (some ⟨g2, 0, none⟩) (l.length + 1) cap) (l ++ [n]) (xs ++ cs) ∧
  Blk W1 nb 25 (NC mk mt mz v) := by
 have h1 := hk.push1 hn hl hown hgr hat
 have hvb : ∀ j, some j = v.ownBlock → nb + 2 ≤ j := by
  intro j hj
  have := (hk.own.lt j hj.symm).1
  omega
 have k1 : Kp (fun k => nb + 2 ≤ k) W W1 := Kp.grown hgr (fun j _ e => hvb j e)
 have k3 := Kp.setCell (Z := fun k => k = nb) W1 ⟨nb, 3, none⟩ (.slice (some ⟨g2, 0, none⟩) (l.length + 1) cap) rfl
 have k13 : Kp (fun k => k = nb ∨ nb + 2 ≤ k) W _ := (k1.mono (fun k _ e => Or.inr e)).trans k3 (fun k _ e => Or.inl e)
 obtain ⟨q1, q2, q3, q4, q5⟩ := hR.h
 refine ⟨hR.keep k13 (fun j e => by omega), (k1.blk hb (by omega)).put 3 _, h1.kp k3 (fun j e => by omega), k1.blk hb (by omega)⟩
structure US (g rb nb : Nat) (w W : World) (vv : Value) (LL : List Int) (j : Nat) : Prop where
 m : MS g W vv LL j
 z : Blk W rb 25 Z4
 k : Below w.heap.size w W
 h : rb = w.heap.size ∧ rb < g ∧ g < nb ∧ nb < W.heap.size
section
variable {g rb nb : Nat} {w W W' : World} {vv : Value} {LL : List Int} {j j' : Nat} {Z : Nat → Prop}
theorem US.call (h : US g rb nb w W vv LL j) (hm : MS g W' vv LL j') (hk : Kp (fun k => k = g) W W') : US g rb nb w W' vv LL j' := by
 obtain ⟨h1, h2, h3, h5⟩ := h.h
 exact ⟨hm, hk.blk h.z (by omega), h.k.trans (hk.below h.k.size (fun k hk e => by omega)), h1, h2, h3, Nat.lt_of_lt_of_le h5 hk.size⟩
theorem US.keep (h : US g rb nb w W vv LL j) (hk : Kp Z W W') (hz : ∀ j, Z j → g < j) : US g rb nb w W' vv LL j := by
 obtain ⟨h1, h2, h3, h5⟩ := h.h
 exact ⟨h.m.kp hk hz, hk.blk h.z (fun e => by have := hz rb e; omega), h.k.trans (hk.below h.k.size (fun k hk e => by have := hz k e; omega)), h1, h2, h3, Nat.lt_of_lt_of_le h5 hk.size⟩
theorem US.fit (h : US g rb nb w W vv LL j) : nb < W.heap.size := h.h.2.2.2
end
theorem push_u {w W W1 : World} {g rb nb g2 cap j : Nat} {vv : Value} {LL : List Int} {mk mz : Int} {mt : Str} {v : Value} {l : List Nd} {xs : List Value} {n : Nd} {cs : List Value}
  (hR : US g rb nb w W vv LL j) (hb : Blk W nb 25 (NC mk mt mz v)) (hk : KR W nb v l xs) (hn : NV W (fun j => nb < j ∧ some j ≠ v.ownBlock) n cs) (hl : l.length + 1 ≤ 8589934592)
  (hown : W1.ownsRow (nb + 2) 25 4 (.slice (some ⟨g2, 0, none⟩) (l.length + 1) cap) (l.length + 1) (xs ++ cs)) (hgr : W.grownBy W1 v.ownBlock) (hat : v.ownBlock = some g2 ∨ g2 = W.heap.size) :
  US g rb nb w (W1.setCell ⟨nb, 3, none⟩ (.slice (some ⟨g2, 0, none⟩) (l.length + 1) cap)) vv LL j ∧
  Blk (W1.setCell ⟨nb, 3, none⟩ (.slice (some ⟨g2, 0, none⟩) (l.length + 1) cap)) nb 25 (NC mk mt mz (.slice (some ⟨g2, 0, none⟩) (l.length + 1) cap)) ∧
  KR (W1.setCell ⟨nb, 3, none⟩ (.slice (some ⟨g2, 0, none⟩) (l.length + 1) cap)) nb (.slice (some ⟨g2, 0, none⟩) (l.length + 1) cap) (l ++ [n]) (xs ++ cs) ∧
  Blk W1 nb 25 (NC mk mt mz v) := by
 have h1 := hk.push1 hn hl hown hgr hat
 have hvb : ∀ j, some j = v.ownBlock → nb + 2 ≤ j := by
  intro j hj
  have := (hk.own.lt j hj.symm).1
  omega
 have k1 : Kp (fun k => nb + 2 ≤ k) W W1 := Kp.grown hgr (fun j _ e => hvb j e)
 have k3 := Kp.setCell (Z := fun k => k = nb) W1 ⟨nb, 3, none⟩ (.slice (some ⟨g2, 0, none⟩) (l.length + 1) cap) rfl
 have k13 : Kp (fun k => k = nb ∨ nb + 2 ≤ k) W _ := (k1.mono (fun k _ e => Or.inr e)).trans k3 (fun k _ e => Or.inl e)
 obtain ⟨q1, q2, q3, q4⟩ := hR.h
 refine ⟨hR.keep k13 (fun j e => by omega), (k1.blk hb (by omega)).put 3 _, h1.kp k3 (fun j e => by omega), k1.blk hb (by omega)⟩
def kindL : List Int := [5, 6, 5, 6, 5, 0, 1, 2, 3, 4]
def TOut (w : World) (F : Nd → Prop) (en : Ending) (w' : World) : Prop :=
 ∃ n cs, en = .returned (.agg cs.toArray) ∧ F n ∧ NV w' (fun k => w.heap.size ≤ k) n cs ∧ Below w.heap.size w w'
structure TF (L : List Int) (n : Nd) : Prop where
 k : kindL[tkN L 0 10]? = some n.kind
 t : n.text ∈ calledL
 pt : n.kind = 5 ∨ n.kind = 6 → ∃ l j, n = pr n.kind.toNat n.text l ∧ TP L.length l j
 z : n.kind = 0 → n.kids = [] ∧ -999 ≤ n.num ∧ n.num ≤ 999
 c : n.kind = 2 → n.kids = [] ∧ 0 ≤ n.num ∧ n.num ≤ 3
 e : n.kind = 3 ∨ n.kind = 4 → n.kids = [] ∧ n.num = 0
 r : n.kind = 1 → n.num = 0 ∧ n.kids.length ≤ 3 ∧ ∀ x ∈ n.kids, ∃ t z, t ∈ calledL ∧ -999 ≤ z ∧ z ≤ 999 ∧ x = .mk 7 t z []
def intsT : List Value := [.int .i64 5, .int .i64 6, .int .i64 5, .int .i64 6, .int .i64 5, .int .i64 0, .int .i64 1, .int .i64 2, .int .i64 3, .int .i64 4]
theorem build10 (W : World) : (Instr.buildSlice 22 10 #[(0, .int .i64 5), (1, .int .i64 6), (2, .int .i64 5), (3, .int .i64 6), (4, .int .i64 5), (5, .int .i64 0), (6, .int .i64 1), (7, .int .i64 2), (8, .int .i64 3), (9, .int .i64 4)]).run Tryd.prog W = .ok (.slice (some ⟨W.heap.size, 0, none⟩) 10 10) (W.alloc (.cells intsT.toArray 3)) := by kernel_rfl
structure DS (g rb : Nat) (w W : World) (vv : Value) (LL : List Int) (i : Nat) (ox on : Option Nat) : Prop where
 m : MS g W vv LL i
 r : Blk W rb 25 Z4
 k : Below w.heap.size w W
 x : ∀ b, ox = some b → Blk W b 3 intsT ∧ g < b
 n : ∀ b, on = some b → Blk W b 25 Z4 ∧ g < b
 h : rb = w.heap.size ∧ rb < g
section
variable {g rb : Nat} {w W W' : World} {vv : Value} {LL : List Int} {i j : Nat} {ox on : Option Nat}
theorem DS.call (h : DS g rb w W vv LL i ox on) (hm : MS g W' vv LL j) (hk : Kp (fun k => k = g) W W') : DS g rb w W' vv LL j ox on :=
 ⟨hm, hk.blk h.r (by have := h.h; omega), h.k.trans (hk.below h.k.size (fun k hk e => by have := h.h; omega)), fun b e => ⟨hk.blk (h.x b e).1 (by have := (h.x b e).2; omega), (h.x b e).2⟩, fun b e => ⟨hk.blk (h.n b e).1 (by have := (h.n b e).2; omega), (h.n b e).2⟩, h.h⟩
theorem DS.below (h : DS g rb w W vv LL i ox on) (hb : Below W.heap.size W W') : DS g rb w W' vv LL i ox on :=
 ⟨h.m.below hb, h.r.below hb h.r.lt, below_step h.k hb, fun b e => ⟨(h.x b e).1.below hb (h.x b e).1.lt, (h.x b e).2⟩, fun b e => ⟨(h.n b e).1.below hb (h.n b e).1.lt, (h.n b e).2⟩, h.h⟩
theorem DS.ints (h : DS g rb w W vv LL i none on) : ∃ W' b, W.alloc (.cells intsT.toArray 3) = W' ∧ W.heap.size = b ∧ DS g rb w W' vv LL i (some b) on :=
 have hb : Below W.heap.size W (W.alloc (.cells intsT.toArray 3)) := (Below.refl _ _).alloc (Nat.le_refl _) _
 have h2 := h.below hb
 ⟨_, _, rfl, rfl, h2.m, h2.r, h2.k, fun b e => by injection e with e; subst e; exact ⟨Blk.new _ _ _, h.m.lt⟩, h2.n, h2.h⟩
theorem DS.node (h : DS g rb w W vv LL i ox none) : ∃ W' b, W.alloc (.cells #[.int .i64 0, .string ⟨#[]⟩, .int .i64 0, .slice none 0 0] 25) = W' ∧ W.heap.size = b ∧ DS g rb w W' vv LL i ox (some b) :=
 have hb : Below W.heap.size W (W.alloc (.cells #[.int .i64 0, .string ⟨#[]⟩, .int .i64 0, .slice none 0 0] 25)) := (Below.refl _ _).alloc (Nat.le_refl _) _
 have h2 := h.below hb
 ⟨_, _, rfl, rfl, h2.m, h2.r, h2.k, h2.x, fun b e => by injection e with e; subst e; exact ⟨Blk.new _ _ _, h.m.lt⟩, h2.h⟩
theorem DS.cell {b r : Nat} {kd : Int} (h : DS g rb w W vv LL i (some b) on) (hk : kindL[r]? = some kd) : W.cell? ⟨b, r, none⟩ = some (iv kd) := by
 refine ((h.x b rfl).1.cell r).trans ?_
 show (kindL.map (fun z => iv z))[r]? = _
 rw [List.getElem?_map, hk]; rfl
theorem DS.last {n1 : Nat} {kd : Int} {t : Str} (h : DS g rb w W vv LL i ox (some n1)) : MS g (W.setRow n1 #[iv kd, sv t, .int .i64 0, .slice none 0 0]) vv LL i ∧ Blk (W.setRow n1 #[iv kd, sv t, .int .i64 0, .slice none 0 0]) rb 25 Z4 ∧ Blk (W.setRow n1 #[iv kd, sv t, .int .i64 0, .slice none 0 0]) n1 25 (NC kd t 0 (.slice none 0 0)) ∧ Below w.heap.size w (W.setRow n1 #[iv kd, sv t, .int .i64 0, .slice none 0 0]) ∧ g < n1 := by
 obtain ⟨hn, hg⟩ := h.n n1 rfl
 have hk := Blk.kpRow (w := W) (g := n1) #[iv kd, sv t, .int .i64 0, .slice none 0 0]
 exact ⟨h.m.kp hk (fun j e => by omega), hk.blk h.r (by have := h.h; omega), Blk.row hn (NC kd t 0 (.slice none 0 0)), h.k.trans (hk.below h.k.size (fun k hk e => by have := h.h; omega)), hg⟩
end
end Go.Proofs.YtpbhgebblpdmnaaDoor
