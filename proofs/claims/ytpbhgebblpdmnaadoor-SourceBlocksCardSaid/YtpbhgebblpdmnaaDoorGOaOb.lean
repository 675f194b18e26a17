/-
  Contracts and words of several parts of the program (Oa, Ob), one after the other.
  Conditions: those that each says.
-/
import Derived.Test.YtpbhgebblpdmnaaDoorZ
import Derived.Test.YtpbhgebblpdmnaaDoorGm
namespace Go.Proofs.YtpbhgebblpdmnaaDoor
open Go.RowKit Wr Src
set_option linter.unusedVariables false
set_option maxRecDepth 100000
section
variable {g : Nat} {v : Value} {L : List Int}
set_option maxHeartbeats 8000000 in
theorem one_now (d : Nat) (hd : d ≤ 3) {i : Nat} {w : World} (h : MS g w v L i) (hi : i + Ko d ≤ 10000000) (hlt : i < L.length) (hc : tkN L i 17 = 11) : Calls Tryd.prog 15 #[pt g, nv d] w (GOut g w v L (SG L.length i d)) := by
 have z1 := zero25
 obtain ⟨A, c, hv, hcc, _⟩ := h.l.f
 subst hv
 obtain ⟨wb, hwb⟩ : ∃ wb, wb = w.heap.size := ⟨_, rfl⟩
 have HWb := Lh hwb.symm
 obtain ⟨w0, hw0⟩ : ∃ w0, w0 = w.alloc (.cells #[.int .i64 0, .string ⟨#[]⟩, .int .i64 0, .slice none 0 0] 25) := ⟨_, rfl⟩
 have l0 : Below w.heap.size w w0 := by rw [hw0]; exact (Below.refl _ _).alloc (Nat.le_refl _) _
 have Z0 := Lh (show Blk w0 wb 25 Z4 by rw [hw0, hwb]; exact Blk.new w _ _)
 have L0 := Lh l0
 have HG := Lh (show g < wb by have := h.lt; omega)
 have HWB := Lh hwb
 have W0 := Lh hw0
 have HI := Lh (show i + Ko d ≤ 10000000 ∧ 23 ≤ Ko d from ⟨hi, Ko_23 d⟩)
 have HLt := Lh hlt
 have HC0 := Lh hc
 have HD := Lh hd
 have HT := Lh (take_any (h.below l0) (by omega) 17 (by omega) (by omega))
 clear h hwb hw0 l0 hcc hi hlt hc hd
 go_enter Tryd.func15, Tryd.ntmps15
 go_upto_region 1 with fail
 rw [HWb.out]
 rw [← W0.out]
 go_wp2_with fail
 refine HT.out.mono ?_
 rintro e w1 ⟨r, hr, hr0, rfl, m1, k1⟩
 have hrc : r = 11 := hr0.eq.trans HC0.out
 subst hrc
 have HZ1 := Lh (k1.blk Z0.out (by have := HG.out; omega))
 have HK1 := Lh ((Kp.of_below' (Z := fun k => k = g) L0.out).trans k1 (fun _ _ h => h))
 have M1 := Lh m1
 clear hr hr0 m1 k1 Z0 L0 HT
 go_upto_region 2 with fail
 obtain ⟨nb, hnb⟩ : ∃ z, w1.heap.size = z := ⟨_, rfl⟩
 obtain ⟨w2, hw2⟩ : ∃ w', w1.alloc (.cells #[.int .i64 20, .string ⟨#[]⟩, .int .i64 0, .slice none 0 0] 25) = w' := ⟨_, rfl⟩
 have l2 : Below w1.heap.size w1 w2 := by rw [← hw2]; exact (Below.refl _ _).alloc (Nat.le_refl _) _
 have B2 := Lh (show Blk w2 nb 25 [.int .i64 20, .string ⟨#[]⟩, .int .i64 0, .slice none 0 0] by rw [← hw2, ← hnb]; exact Blk.new w1 _ _)
 have G2 := Lh (show GS g wb nb w w2 (.slice A L.length c) L (i + 1) from ⟨M1.out.below l2, HZ1.out.below l2 HZ1.out.lt, HK1.out.trans (Kp.of_below' (Z := fun _ => False) l2) (fun _ _ h => h.elim), HWB.out, HG.out, by have := HZ1.out.lt; omega, B2.out.lt⟩)
 rw [hnb, hw2]
 clear l2 hw2 hnb M1 HZ1 HK1 W0
 go_cut [22] (fun s22 wx => s22 = .bool false ∧ w2 = wx)
 case first =>
  have b0 := B2.out.cell 0
  simp only [g0, gs] at b0
  by_cases hd0 : d = 0
  ·
   subst hd0
   have hdI : ((0 : Nat) : Int) ≤ 0 := by omega
   go_wp2_with fail
   go_meet
   exact ⟨rfl, rfl⟩
  ·
   have hdI : ¬ (d : Int) ≤ 0 := by omega
   clear hd0
   go_wp2_with fail
   go_meet
   exact ⟨rfl, rfl⟩
 case rest =>
  obtain ⟨rfl, rfl⟩ := hcut
  have b0 := B2.out.cell 0
  simp only [g0, gs] at b0
  go_upto_region 34 with fail
  clear b0
  have HCx1 := Lh (own_any G2.out.m (by have := HI.out; omega))
  go_wp2_with fail
  refine HCx1.out.mono ?_
  rintro e Wx1 ⟨tx1, rfl, ht, hta, hm, hk⟩
  have Gx1 := Lh (G2.out.call hm hk)
  have Bx1 := Lh (hk.blk B2.out (by obtain ⟨q1, q2, q3, q4⟩ := G2.out.h; omega))
  have Tx1 := Lh (And.intro ht hta)
  have htlx1 : tx1.length ≤ 16 := (own_ok tx1 ht).2
  clear hm hk ht hta HCx1
  have bx2 := Bx1.out.cell 1; have fbx2 := Bx1.out.frozen 1
  simp only [g0, gs] at bx2
  go_upto_region 41 with fail
  obtain ⟨Wx3, hW⟩ : ∃ W', Wx1.setCell ⟨nb, 1, none⟩ (.string ⟨tx1.toArray⟩) = W' := ⟨_, rfl⟩
  have Gx3 := Lh (Gx1.out.keep (Kp.setCell (Z := fun k => k = nb) Wx1 ⟨nb, 1, none⟩ (.string ⟨tx1.toArray⟩) rfl) (fun j e => by obtain ⟨q1, q2, q3, q4⟩ := Gx1.out.h; omega))
  have Bx3 := Lh (show Blk (Wx1.setCell ⟨nb, 1, none⟩ (.string ⟨tx1.toArray⟩)) nb 25 [.int .i64 20, .string ⟨tx1.toArray⟩, .int .i64 0, .slice none 0 0] from Bx1.out.put 1 _)
  rw [hW] at Gx3 Bx3 ⊢
  clear hW bx2 fbx2
  have Z3 : Hid (Blk Wx3 wb 25 [.int .i64 0, .string ⟨#[]⟩, .int .i64 0, .slice none 0 0]) := Lh Gx3.out.z
  have HV := Lh (show NV Wx3 (fun k => wb < k) (.mk 20 tx1 (0) []) (NC 20 tx1 (0) (.slice none 0 0)) from NV.leaf (fine_small (by omega) (by omega) (by omega) (by omega) (by omega)))
  have HH := Lh Gx3.out.h
  go_wp2_with (first
   | (with_reducible refine wpList_load_cells rfl 25 4 size25 (.tmp 5) rfl ⟨nb, 0, none⟩ rfl [.int .i64 20, .string ⟨tx1.toArray⟩, .int .i64 0, .slice none 0 0] rfl _ Tryd.underlying25 rfl Bx3.out.at ?_)
   | (with_reducible refine wpList_store_blk rfl 25 4 size25 (.tmp 4) (.tmp 138) rfl wb [.int .i64 20, .string ⟨tx1.toArray⟩, .int .i64 0, .slice none 0 0] rfl rfl _ Z3.out rfl rfl rfl ?_; intro w8 hb8 hk8))
  exact bodyPost_ret (v := .agg (NC 20 tx1 (0) (.slice none 0 0)).toArray) (box_res 4 size25 rfl _ _ wb (NC 20 tx1 (0) (.slice none 0 0)) _ rfl hb8 rfl Tryd.underlying25 rfl) rfl ⟨.mk 20 tx1 (0) [], _, _, rfl, sg_now HLt.out Tx1.out.1 Tx1.out.2, Gx3.out.m.kp hk8 (fun j e => by have := HH.out; omega), NV.keep (fun k h1 h2 => ⟨hk8.block k h2 (fun e => by have := HH.out; omega), by have := HH.out; omega⟩) _ _ HV.out, Gx3.out.k.trans hk8 (fun k hk e => by have := HH.out; omega), by have h1 := hk8.size; have h2 := HH.out; omega⟩
set_option maxHeartbeats 8000000 in
theorem one_go (d : Nat) (hd : d ≤ 3) {i : Nat} {w : World} (h : MS g w v L i) (hi : i + Ko d ≤ 10000000) (hlt : i < L.length) (hc : tkN L i 17 = 4) : Calls Tryd.prog 15 #[pt g, nv d] w (GOut g w v L (SG L.length i d)) := by
 have z1 := zero25
 obtain ⟨A, c, hv, hcc, _⟩ := h.l.f
 subst hv
 obtain ⟨wb, hwb⟩ : ∃ wb, wb = w.heap.size := ⟨_, rfl⟩
 have HWb := Lh hwb.symm
 obtain ⟨w0, hw0⟩ : ∃ w0, w0 = w.alloc (.cells #[.int .i64 0, .string ⟨#[]⟩, .int .i64 0, .slice none 0 0] 25) := ⟨_, rfl⟩
 have l0 : Below w.heap.size w w0 := by rw [hw0]; exact (Below.refl _ _).alloc (Nat.le_refl _) _
 have Z0 := Lh (show Blk w0 wb 25 Z4 by rw [hw0, hwb]; exact Blk.new w _ _)
 have L0 := Lh l0
 have HG := Lh (show g < wb by have := h.lt; omega)
 have HWB := Lh hwb
 have W0 := Lh hw0
 have HI := Lh (show i + Ko d ≤ 10000000 ∧ 23 ≤ Ko d from ⟨hi, Ko_23 d⟩)
 have HLt := Lh hlt
 have HC0 := Lh hc
 have HD := Lh hd
 have HT := Lh (take_any (h.below l0) (by omega) 17 (by omega) (by omega))
 clear h hwb hw0 l0 hcc hi hlt hc hd
 go_enter Tryd.func15, Tryd.ntmps15
 go_upto_region 1 with fail
 rw [HWb.out]
 rw [← W0.out]
 go_wp2_with fail
 refine HT.out.mono ?_
 rintro e w1 ⟨r, hr, hr0, rfl, m1, k1⟩
 have hrc : r = 4 := hr0.eq.trans HC0.out
 subst hrc
 have HZ1 := Lh (k1.blk Z0.out (by have := HG.out; omega))
 have HK1 := Lh ((Kp.of_below' (Z := fun k => k = g) L0.out).trans k1 (fun _ _ h => h))
 have M1 := Lh m1
 clear hr hr0 m1 k1 Z0 L0 HT
 go_upto_region 2 with fail
 obtain ⟨nb, hnb⟩ : ∃ z, w1.heap.size = z := ⟨_, rfl⟩
 obtain ⟨w2, hw2⟩ : ∃ w', w1.alloc (.cells #[.int .i64 13, .string ⟨#[]⟩, .int .i64 0, .slice none 0 0] 25) = w' := ⟨_, rfl⟩
 have l2 : Below w1.heap.size w1 w2 := by rw [← hw2]; exact (Below.refl _ _).alloc (Nat.le_refl _) _
 have B2 := Lh (show Blk w2 nb 25 [.int .i64 13, .string ⟨#[]⟩, .int .i64 0, .slice none 0 0] by rw [← hw2, ← hnb]; exact Blk.new w1 _ _)
 have G2 := Lh (show GS g wb nb w w2 (.slice A L.length c) L (i + 1) from ⟨M1.out.below l2, HZ1.out.below l2 HZ1.out.lt, HK1.out.trans (Kp.of_below' (Z := fun _ => False) l2) (fun _ _ h => h.elim), HWB.out, HG.out, by have := HZ1.out.lt; omega, B2.out.lt⟩)
 rw [hnb, hw2]
 clear l2 hw2 hnb M1 HZ1 HK1 W0
 go_cut [22] (fun s22 wx => s22 = .bool false ∧ w2 = wx)
 case first =>
  have b0 := B2.out.cell 0
  simp only [g0, gs] at b0
  by_cases hd0 : d = 0
  ·
   subst hd0
   have hdI : ((0 : Nat) : Int) ≤ 0 := by omega
   go_wp2_with fail
   go_meet
   exact ⟨rfl, rfl⟩
  ·
   have hdI : ¬ (d : Int) ≤ 0 := by omega
   clear hd0
   go_wp2_with fail
   go_meet
   exact ⟨rfl, rfl⟩
 case rest =>
  obtain ⟨rfl, rfl⟩ := hcut
  have b0 := B2.out.cell 0
  simp only [g0, gs] at b0
  go_upto_region 21 with fail
  clear b0
  have HCx1 := Lh (called_any G2.out.m (by have := HI.out; omega))
  go_wp2_with fail
  refine HCx1.out.mono ?_
  rintro e Wx1 ⟨tx1, rfl, ht, hta, hm, hk⟩
  have Gx1 := Lh (G2.out.call hm hk)
  have Bx1 := Lh (hk.blk B2.out (by obtain ⟨q1, q2, q3, q4⟩ := G2.out.h; omega))
  have Tx1 := Lh (And.intro ht hta)
  have htlx1 : tx1.length ≤ 16 := (called_ok tx1 ht).2
  clear hm hk ht hta HCx1
  have bx2 := Bx1.out.cell 1; have fbx2 := Bx1.out.frozen 1
  simp only [g0, gs] at bx2
  go_upto_region 41 with fail
  obtain ⟨Wx3, hW⟩ : ∃ W', Wx1.setCell ⟨nb, 1, none⟩ (.string ⟨tx1.toArray⟩) = W' := ⟨_, rfl⟩
  have Gx3 := Lh (Gx1.out.keep (Kp.setCell (Z := fun k => k = nb) Wx1 ⟨nb, 1, none⟩ (.string ⟨tx1.toArray⟩) rfl) (fun j e => by obtain ⟨q1, q2, q3, q4⟩ := Gx1.out.h; omega))
  have Bx3 := Lh (show Blk (Wx1.setCell ⟨nb, 1, none⟩ (.string ⟨tx1.toArray⟩)) nb 25 [.int .i64 13, .string ⟨tx1.toArray⟩, .int .i64 0, .slice none 0 0] from Bx1.out.put 1 _)
  rw [hW] at Gx3 Bx3 ⊢
  clear hW bx2 fbx2
  have Z3 : Hid (Blk Wx3 wb 25 [.int .i64 0, .string ⟨#[]⟩, .int .i64 0, .slice none 0 0]) := Lh Gx3.out.z
  have HV := Lh (show NV Wx3 (fun k => wb < k) (.mk 13 tx1 (0) []) (NC 13 tx1 (0) (.slice none 0 0)) from NV.leaf (fine_small (by omega) (by omega) (by omega) (by omega) (by omega)))
  have HH := Lh Gx3.out.h
  go_wp2_with (first
   | (with_reducible refine wpList_load_cells rfl 25 4 size25 (.tmp 5) rfl ⟨nb, 0, none⟩ rfl [.int .i64 13, .string ⟨tx1.toArray⟩, .int .i64 0, .slice none 0 0] rfl _ Tryd.underlying25 rfl Bx3.out.at ?_)
   | (with_reducible refine wpList_store_blk rfl 25 4 size25 (.tmp 4) (.tmp 138) rfl wb [.int .i64 13, .string ⟨tx1.toArray⟩, .int .i64 0, .slice none 0 0] rfl rfl _ Z3.out rfl rfl rfl ?_; intro w8 hb8 hk8))
  exact bodyPost_ret (v := .agg (NC 13 tx1 (0) (.slice none 0 0)).toArray) (box_res 4 size25 rfl _ _ wb (NC 13 tx1 (0) (.slice none 0 0)) _ rfl hb8 rfl Tryd.underlying25 rfl) rfl ⟨.mk 13 tx1 (0) [], _, _, rfl, sg_name (k := 13) (by omega) HLt.out Tx1.out.1 Tx1.out.2, Gx3.out.m.kp hk8 (fun j e => by have := HH.out; omega), NV.keep (fun k h1 h2 => ⟨hk8.block k h2 (fun e => by have := HH.out; omega), by have := HH.out; omega⟩) _ _ HV.out, Gx3.out.k.trans hk8 (fun k hk e => by have := HH.out; omega), by have h1 := hk8.size; have h2 := HH.out; omega⟩
end
end Go.Proofs.YtpbhgebblpdmnaaDoor
namespace Go.Proofs.YtpbhgebblpdmnaaDoor
open Go.RowKit Wr Src
set_option linter.unusedVariables false
set_option maxRecDepth 100000
section
variable {g : Nat} {v : Value} {L : List Int}
set_option maxHeartbeats 8000000 in
theorem one_let (d : Nat) (hd : d ≤ 3) {i : Nat} {w : World} (h : MS g w v L i) (hi : i + Ko d ≤ 10000000) (hlt : i < L.length) (hc : tkN L i 17 = 0) : Calls Tryd.prog 15 #[pt g, nv d] w (GOut g w v L (SG L.length i d)) := by
 have z1 := zero25
 obtain ⟨A, c, hv, hcc, _⟩ := h.l.f
 subst hv
 obtain ⟨wb, hwb⟩ : ∃ wb, wb = w.heap.size := ⟨_, rfl⟩
 have HWb := Lh hwb.symm
 obtain ⟨w0, hw0⟩ : ∃ w0, w0 = w.alloc (.cells #[.int .i64 0, .string ⟨#[]⟩, .int .i64 0, .slice none 0 0] 25) := ⟨_, rfl⟩
 have l0 : Below w.heap.size w w0 := by rw [hw0]; exact (Below.refl _ _).alloc (Nat.le_refl _) _
 have Z0 := Lh (show Blk w0 wb 25 Z4 by rw [hw0, hwb]; exact Blk.new w _ _)
 have L0 := Lh l0
 have HG := Lh (show g < wb by have := h.lt; omega)
 have HWB := Lh hwb
 have W0 := Lh hw0
 have HI := Lh (show i + Ko d ≤ 10000000 ∧ 23 ≤ Ko d from ⟨hi, Ko_23 d⟩)
 have HLt := Lh hlt
 have HC0 := Lh hc
 have HD := Lh hd
 have HT := Lh (take_any (h.below l0) (by omega) 17 (by omega) (by omega))
 clear h hwb hw0 l0 hcc hi hlt hc hd
 go_enter Tryd.func15, Tryd.ntmps15
 go_upto_region 1 with fail
 rw [HWb.out]
 rw [← W0.out]
 go_wp2_with fail
 refine HT.out.mono ?_
 rintro e w1 ⟨r, hr, hr0, rfl, m1, k1⟩
 have hrc : r = 0 := hr0.eq.trans HC0.out
 subst hrc
 have HZ1 := Lh (k1.blk Z0.out (by have := HG.out; omega))
 have HK1 := Lh ((Kp.of_below' (Z := fun k => k = g) L0.out).trans k1 (fun _ _ h => h))
 have M1 := Lh m1
 clear hr hr0 m1 k1 Z0 L0 HT
 go_upto_region 2 with fail
 obtain ⟨nb, hnb⟩ : ∃ z, w1.heap.size = z := ⟨_, rfl⟩
 obtain ⟨w2, hw2⟩ : ∃ w', w1.alloc (.cells #[.int .i64 9, .string ⟨#[]⟩, .int .i64 0, .slice none 0 0] 25) = w' := ⟨_, rfl⟩
 have l2 : Below w1.heap.size w1 w2 := by rw [← hw2]; exact (Below.refl _ _).alloc (Nat.le_refl _) _
 have B2 := Lh (show Blk w2 nb 25 [.int .i64 9, .string ⟨#[]⟩, .int .i64 0, .slice none 0 0] by rw [← hw2, ← hnb]; exact Blk.new w1 _ _)
 have G2 := Lh (show GS g wb nb w w2 (.slice A L.length c) L (i + 1) from ⟨M1.out.below l2, HZ1.out.below l2 HZ1.out.lt, HK1.out.trans (Kp.of_below' (Z := fun _ => False) l2) (fun _ _ h => h.elim), HWB.out, HG.out, by have := HZ1.out.lt; omega, B2.out.lt⟩)
 rw [hnb, hw2]
 clear l2 hw2 hnb M1 HZ1 HK1 W0
 go_cut [22] (fun s22 wx => s22 = .bool false ∧ w2 = wx)
 case first =>
  have b0 := B2.out.cell 0
  simp only [g0, gs] at b0
  by_cases hd0 : d = 0
  ·
   subst hd0
   have hdI : ((0 : Nat) : Int) ≤ 0 := by omega
   go_wp2_with fail
   go_meet
   exact ⟨rfl, rfl⟩
  ·
   have hdI : ¬ (d : Int) ≤ 0 := by omega
   clear hd0
   go_wp2_with fail
   go_meet
   exact ⟨rfl, rfl⟩
 case rest =>
  obtain ⟨rfl, rfl⟩ := hcut
  have b0 := B2.out.cell 0
  simp only [g0, gs] at b0
  go_upto_region 6 with fail
  clear b0
  have HCx1 := Lh (own_any G2.out.m (by have := HI.out; omega))
  go_wp2_with fail
  refine HCx1.out.mono ?_
  rintro e Wx1 ⟨tx1, rfl, ht, hta, hm, hk⟩
  have Gx1 := Lh (G2.out.call hm hk)
  have Bx1 := Lh (hk.blk B2.out (by obtain ⟨q1, q2, q3, q4⟩ := G2.out.h; omega))
  have Tx1 := Lh (And.intro ht hta)
  have htlx1 : tx1.length ≤ 16 := (own_ok tx1 ht).2
  clear hm hk ht hta HCx1
  have bx2 := Bx1.out.cell 1; have fbx2 := Bx1.out.frozen 1
  simp only [g0, gs] at bx2
  go_upto_region 7 with fail
  obtain ⟨Wx3, hW⟩ : ∃ W', Wx1.setCell ⟨nb, 1, none⟩ (.string ⟨tx1.toArray⟩) = W' := ⟨_, rfl⟩
  have Gx3 := Lh (Gx1.out.keep (Kp.setCell (Z := fun k => k = nb) Wx1 ⟨nb, 1, none⟩ (.string ⟨tx1.toArray⟩) rfl) (fun j e => by obtain ⟨q1, q2, q3, q4⟩ := Gx1.out.h; omega))
  have Bx3 := Lh (show Blk (Wx1.setCell ⟨nb, 1, none⟩ (.string ⟨tx1.toArray⟩)) nb 25 [.int .i64 9, .string ⟨tx1.toArray⟩, .int .i64 0, .slice none 0 0] from Bx1.out.put 1 _)
  rw [hW] at Gx3 Bx3 ⊢
  clear hW bx2 fbx2
  have HCx4 := Lh (value_any 2 (by omega) Gx3.out.m (by have := HI.out; simp only [Kv]; omega))
  go_wp2_with fail
  refine HCx4.out.mono ?_
  rintro e Wx4 ⟨nx4, jx4, csx4, rfl, hf, hm, hv, hk, hs⟩
  have Fx4 := Lh hf
  obtain ⟨kx4, sx4, zx4, lx4⟩ := nx4
  obtain ⟨Ax4, cx4, ysx4, hcs, _⟩ := hv.form
  subst hcs
  have Gx4 := Lh (Gx3.out.call hm hk)
  have Bx4 := Lh (hk.blk Bx3.out (by obtain ⟨q1, q2, q3, q4⟩ := Gx3.out.h; omega))
  have Vx4 := Lh (NV.keep (P' := fun k => nb < k) (fun k h1 h2 => ⟨rfl, by have := Gx3.out.fit; omega⟩) _ _ hv)
  have Sx4 := Lh (show nb + 2 ≤ Wx4.heap.size by have := Gx3.out.fit; omega)
  clear hf hm hv hk hs HCx4
  dsimp only [NC]
  go_upto_region 41 with (first | (with_reducible refine wpList_bs1 rfl rfl rfl ?_; intro gzx5 Wbx5 hgq hXx5 hBx5; have hgzx5 := Lh hgq; clear hgq; have bqx5 := (Blk.below Bx4.out hBx5 Bx4.out.lt).cell 3; have fqx5 := (Blk.below Bx4.out hBx5 Bx4.out.lt).frozen 3; simp only [g0, gs] at bqx5))
  have Gx5 := Lh (Gx4.out.keep (Kp.of_below' (Z := fun _ => False) hBx5) (fun _ h => h.elim))
  have Bx5 := Lh (Bx4.out.below hBx5 Bx4.out.lt)
  have Vx50 := Lh ((Kp.of_below' (Z := fun _ => False) hBx5).nv Vx4.out (fun _ _ _ h => h))
  have Xx5 := Lh hXx5
  have Xx5_g := Lh (show nb < gzx5 by have := Gx4.out.fit; have h9 := hgzx5.out; omega)
  clear hXx5 hBx5 hgzx5
  have bzx5 := bqx5; have fbzx5 := fqx5
  clear bqx5 fqx5
  obtain ⟨Wx6, hW⟩ : ∃ W', Wbx5.setCell ⟨nb, 3, none⟩ (.slice (some ⟨gzx5, 0, none⟩) 1 1) = W' := ⟨_, rfl⟩
  have Gx6 := Lh (Gx5.out.keep (Kp.setCell (Z := fun k => k = nb) Wbx5 ⟨nb, 3, none⟩ (.slice (some ⟨gzx5, 0, none⟩) 1 1) rfl) (fun j e => by obtain ⟨q1, q2, q3, q4⟩ := Gx5.out.h; omega))
  have Bx6 := Lh (show Blk (Wbx5.setCell ⟨nb, 3, none⟩ (.slice (some ⟨gzx5, 0, none⟩) 1 1)) nb 25 [.int .i64 9, .string ⟨tx1.toArray⟩, .int .i64 0, .slice (some ⟨gzx5, 0, none⟩) 1 1] from Bx5.out.put 3 _)
  have Vx60 := Lh ((Kp.setCell (Z := fun k => k = nb) Wbx5 ⟨nb, 3, none⟩ (.slice (some ⟨gzx5, 0, none⟩) 1 1) rfl).nv Vx50.out (fun k hk _ e => by omega))
  have Xx60 := Lh ((Kp.setCell (Z := fun k => k = nb) Wbx5 ⟨nb, 3, none⟩ (.slice (some ⟨gzx5, 0, none⟩) 1 1) rfl).blk Xx5.out (by have := Xx5_g.out; omega))
  have Xx60_g := Xx5_g
  rw [hW] at Gx6 Bx6 Vx60 Xx60 ⊢
  clear hW bzx5 fbzx5
  have Z3 : Hid (Blk Wx6 wb 25 [.int .i64 0, .string ⟨#[]⟩, .int .i64 0, .slice none 0 0]) := Lh Gx6.out.z
  have HV := Lh (show NV Wx6 (fun k => wb < k) (.mk 9 tx1 (0) [.mk kx4 sx4 zx4 lx4]) (NC 9 tx1 (0) (.slice (some ⟨gzx5, 0, none⟩) 1 1)) from nv_built (l := [_]) Xx60.out (by have := Xx60_g.out; obtain ⟨q1, q2, q3, q4⟩ := Gx6.out.h; omega) (NL.one (NV.keep (fun k h1 h2 => ⟨rfl, by obtain ⟨q1, q2, q3, q4⟩ := Gx6.out.h; omega⟩) _ _ Vx60.out)) (fine_small (by omega) (by omega) (by omega) (by omega) (by omega)) (by simp))
  have HH := Lh Gx6.out.h
  go_wp2_with (first
   | (with_reducible refine wpList_load_cells rfl 25 4 size25 (.tmp 5) rfl ⟨nb, 0, none⟩ rfl [.int .i64 9, .string ⟨tx1.toArray⟩, .int .i64 0, .slice (some ⟨gzx5, 0, none⟩) 1 1] rfl _ Tryd.underlying25 rfl Bx6.out.at ?_)
   | (with_reducible refine wpList_store_blk rfl 25 4 size25 (.tmp 4) (.tmp 138) rfl wb [.int .i64 9, .string ⟨tx1.toArray⟩, .int .i64 0, .slice (some ⟨gzx5, 0, none⟩) 1 1] rfl rfl _ Z3.out rfl rfl rfl ?_; intro w8 hb8 hk8))
  exact bodyPost_ret (v := .agg (NC 9 tx1 (0) (.slice (some ⟨gzx5, 0, none⟩) 1 1)).toArray) (box_res 4 size25 rfl _ _ wb (NC 9 tx1 (0) (.slice (some ⟨gzx5, 0, none⟩) 1 1)) _ rfl hb8 rfl Tryd.underlying25 rfl) rfl ⟨.mk 9 tx1 (0) [.mk kx4 sx4 zx4 lx4], _, _, rfl, sg_let HLt.out Tx1.out.1 Tx1.out.2 Fx4.out, Gx6.out.m.kp hk8 (fun j e => by have := HH.out; omega), NV.keep (fun k h1 h2 => ⟨hk8.block k h2 (fun e => by have := HH.out; omega), by have := HH.out; omega⟩) _ _ HV.out, Gx6.out.k.trans hk8 (fun k hk e => by have := HH.out; omega), by have h1 := hk8.size; have h2 := HH.out; omega⟩
set_option maxHeartbeats 8000000 in
theorem one_check (d : Nat) (hd : d ≤ 3) {i : Nat} {w : World} (h : MS g w v L i) (hi : i + Ko d ≤ 10000000) (hlt : i < L.length) (hc : tkN L i 17 = 15) : Calls Tryd.prog 15 #[pt g, nv d] w (GOut g w v L (SG L.length i d)) := by
 have z1 := zero25
 obtain ⟨A, c, hv, hcc, _⟩ := h.l.f
 subst hv
 obtain ⟨wb, hwb⟩ : ∃ wb, wb = w.heap.size := ⟨_, rfl⟩
 have HWb := Lh hwb.symm
 obtain ⟨w0, hw0⟩ : ∃ w0, w0 = w.alloc (.cells #[.int .i64 0, .string ⟨#[]⟩, .int .i64 0, .slice none 0 0] 25) := ⟨_, rfl⟩
 have l0 : Below w.heap.size w w0 := by rw [hw0]; exact (Below.refl _ _).alloc (Nat.le_refl _) _
 have Z0 := Lh (show Blk w0 wb 25 Z4 by rw [hw0, hwb]; exact Blk.new w _ _)
 have L0 := Lh l0
 have HG := Lh (show g < wb by have := h.lt; omega)
 have HWB := Lh hwb
 have W0 := Lh hw0
 have HI := Lh (show i + Ko d ≤ 10000000 ∧ 23 ≤ Ko d from ⟨hi, Ko_23 d⟩)
 have HLt := Lh hlt
 have HC0 := Lh hc
 have HD := Lh hd
 have HT := Lh (take_any (h.below l0) (by omega) 17 (by omega) (by omega))
 clear h hwb hw0 l0 hcc hi hlt hc hd
 go_enter Tryd.func15, Tryd.ntmps15
 go_upto_region 1 with fail
 rw [HWb.out]
 rw [← W0.out]
 go_wp2_with fail
 refine HT.out.mono ?_
 rintro e w1 ⟨r, hr, hr0, rfl, m1, k1⟩
 have hrc : r = 15 := hr0.eq.trans HC0.out
 subst hrc
 have HZ1 := Lh (k1.blk Z0.out (by have := HG.out; omega))
 have HK1 := Lh ((Kp.of_below' (Z := fun k => k = g) L0.out).trans k1 (fun _ _ h => h))
 have M1 := Lh m1
 clear hr hr0 m1 k1 Z0 L0 HT
 go_upto_region 2 with fail
 obtain ⟨nb, hnb⟩ : ∃ z, w1.heap.size = z := ⟨_, rfl⟩
 obtain ⟨w2, hw2⟩ : ∃ w', w1.alloc (.cells #[.int .i64 24, .string ⟨#[]⟩, .int .i64 0, .slice none 0 0] 25) = w' := ⟨_, rfl⟩
 have l2 : Below w1.heap.size w1 w2 := by rw [← hw2]; exact (Below.refl _ _).alloc (Nat.le_refl _) _
 have B2 := Lh (show Blk w2 nb 25 [.int .i64 24, .string ⟨#[]⟩, .int .i64 0, .slice none 0 0] by rw [← hw2, ← hnb]; exact Blk.new w1 _ _)
 have G2 := Lh (show GS g wb nb w w2 (.slice A L.length c) L (i + 1) from ⟨M1.out.below l2, HZ1.out.below l2 HZ1.out.lt, HK1.out.trans (Kp.of_below' (Z := fun _ => False) l2) (fun _ _ h => h.elim), HWB.out, HG.out, by have := HZ1.out.lt; omega, B2.out.lt⟩)
 rw [hnb, hw2]
 clear l2 hw2 hnb M1 HZ1 HK1 W0
 go_cut [22] (fun s22 wx => s22 = .bool false ∧ w2 = wx)
 case first =>
  have b0 := B2.out.cell 0
  simp only [g0, gs] at b0
  by_cases hd0 : d = 0
  ·
   subst hd0
   have hdI : ((0 : Nat) : Int) ≤ 0 := by omega
   go_wp2_with fail
   go_meet
   exact ⟨rfl, rfl⟩
  ·
   have hdI : ¬ (d : Int) ≤ 0 := by omega
   clear hd0
   go_wp2_with fail
   go_meet
   exact ⟨rfl, rfl⟩
 case rest =>
  obtain ⟨rfl, rfl⟩ := hcut
  have b0 := B2.out.cell 0
  simp only [g0, gs] at b0
  go_upto_region 40 with fail
  clear b0
  have HCx1 := Lh (value_any 2 (by omega) G2.out.m (by have := HI.out; simp only [Kv]; omega))
  go_wp2_with fail
  refine HCx1.out.mono ?_
  rintro e Wx1 ⟨nx1, jx1, csx1, rfl, hf, hm, hv, hk, hs⟩
  have Fx1 := Lh hf
  obtain ⟨kx1, sx1, zx1, lx1⟩ := nx1
  obtain ⟨Ax1, cx1, ysx1, hcs, _⟩ := hv.form
  subst hcs
  have Gx1 := Lh (G2.out.call hm hk)
  have Bx1 := Lh (hk.blk B2.out (by obtain ⟨q1, q2, q3, q4⟩ := G2.out.h; omega))
  have Vx1 := Lh (NV.keep (P' := fun k => nb < k) (fun k h1 h2 => ⟨rfl, by have := G2.out.fit; omega⟩) _ _ hv)
  have Sx1 := Lh (show nb + 2 ≤ Wx1.heap.size by have := G2.out.fit; omega)
  clear hf hm hv hk hs HCx1
  dsimp only [NC]
  go_upto_region 41 with (first | (with_reducible refine wpList_bs1 rfl rfl rfl ?_; intro gzx2 Wbx2 hgq hXx2 hBx2; have hgzx2 := Lh hgq; clear hgq; have bqx2 := (Blk.below Bx1.out hBx2 Bx1.out.lt).cell 3; have fqx2 := (Blk.below Bx1.out hBx2 Bx1.out.lt).frozen 3; simp only [g0, gs] at bqx2))
  have Gx2 := Lh (Gx1.out.keep (Kp.of_below' (Z := fun _ => False) hBx2) (fun _ h => h.elim))
  have Bx2 := Lh (Bx1.out.below hBx2 Bx1.out.lt)
  have Vx20 := Lh ((Kp.of_below' (Z := fun _ => False) hBx2).nv Vx1.out (fun _ _ _ h => h))
  have Xx2 := Lh hXx2
  have Xx2_g := Lh (show nb < gzx2 by have := Gx1.out.fit; have h9 := hgzx2.out; omega)
  clear hXx2 hBx2 hgzx2
  have bzx2 := bqx2; have fbzx2 := fqx2
  clear bqx2 fqx2
  obtain ⟨Wx3, hW⟩ : ∃ W', Wbx2.setCell ⟨nb, 3, none⟩ (.slice (some ⟨gzx2, 0, none⟩) 1 1) = W' := ⟨_, rfl⟩
  have Gx3 := Lh (Gx2.out.keep (Kp.setCell (Z := fun k => k = nb) Wbx2 ⟨nb, 3, none⟩ (.slice (some ⟨gzx2, 0, none⟩) 1 1) rfl) (fun j e => by obtain ⟨q1, q2, q3, q4⟩ := Gx2.out.h; omega))
  have Bx3 := Lh (show Blk (Wbx2.setCell ⟨nb, 3, none⟩ (.slice (some ⟨gzx2, 0, none⟩) 1 1)) nb 25 [.int .i64 24, .string ⟨#[]⟩, .int .i64 0, .slice (some ⟨gzx2, 0, none⟩) 1 1] from Bx2.out.put 3 _)
  have Vx30 := Lh ((Kp.setCell (Z := fun k => k = nb) Wbx2 ⟨nb, 3, none⟩ (.slice (some ⟨gzx2, 0, none⟩) 1 1) rfl).nv Vx20.out (fun k hk _ e => by omega))
  have Xx30 := Lh ((Kp.setCell (Z := fun k => k = nb) Wbx2 ⟨nb, 3, none⟩ (.slice (some ⟨gzx2, 0, none⟩) 1 1) rfl).blk Xx2.out (by have := Xx2_g.out; omega))
  have Xx30_g := Xx2_g
  rw [hW] at Gx3 Bx3 Vx30 Xx30 ⊢
  clear hW bzx2 fbzx2
  have Z3 : Hid (Blk Wx3 wb 25 [.int .i64 0, .string ⟨#[]⟩, .int .i64 0, .slice none 0 0]) := Lh Gx3.out.z
  have HV := Lh (show NV Wx3 (fun k => wb < k) (.mk 24 [] (0) [.mk kx1 sx1 zx1 lx1]) (NC 24 [] (0) (.slice (some ⟨gzx2, 0, none⟩) 1 1)) from nv_built (l := [_]) Xx30.out (by have := Xx30_g.out; obtain ⟨q1, q2, q3, q4⟩ := Gx3.out.h; omega) (NL.one (NV.keep (fun k h1 h2 => ⟨rfl, by obtain ⟨q1, q2, q3, q4⟩ := Gx3.out.h; omega⟩) _ _ Vx30.out)) (fine_small (by omega) (by omega) (by omega) (by omega) (by simp)) (by simp))
  have HH := Lh Gx3.out.h
  go_wp2_with (first
   | (with_reducible refine wpList_load_cells rfl 25 4 size25 (.tmp 5) rfl ⟨nb, 0, none⟩ rfl [.int .i64 24, .string ⟨#[]⟩, .int .i64 0, .slice (some ⟨gzx2, 0, none⟩) 1 1] rfl _ Tryd.underlying25 rfl Bx3.out.at ?_)
   | (with_reducible refine wpList_store_blk rfl 25 4 size25 (.tmp 4) (.tmp 138) rfl wb [.int .i64 24, .string ⟨#[]⟩, .int .i64 0, .slice (some ⟨gzx2, 0, none⟩) 1 1] rfl rfl _ Z3.out rfl rfl rfl ?_; intro w8 hb8 hk8))
  exact bodyPost_ret (v := .agg (NC 24 [] (0) (.slice (some ⟨gzx2, 0, none⟩) 1 1)).toArray) (box_res 4 size25 rfl _ _ wb (NC 24 [] (0) (.slice (some ⟨gzx2, 0, none⟩) 1 1)) _ rfl hb8 rfl Tryd.underlying25 rfl) rfl ⟨.mk 24 [] (0) [.mk kx1 sx1 zx1 lx1], _, _, rfl, sg_check HLt.out Fx1.out, Gx3.out.m.kp hk8 (fun j e => by have := HH.out; omega), NV.keep (fun k h1 h2 => ⟨hk8.block k h2 (fun e => by have := HH.out; omega), by have := HH.out; omega⟩) _ _ HV.out, Gx3.out.k.trans hk8 (fun k hk e => by have := HH.out; omega), by have h1 := hk8.size; have h2 := HH.out; omega⟩
end
end Go.Proofs.YtpbhgebblpdmnaaDoor
