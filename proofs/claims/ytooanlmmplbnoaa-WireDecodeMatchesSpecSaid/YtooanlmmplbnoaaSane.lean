/-
  The contract of the laws' sanity: it returns true, and nothing that was there changes.
  No condition.
-/
import Derived.Test.YtooanlmmplbnoaaSaneA
namespace Go.Proofs.Ytooanlmmplbnoaa
open Go.RowKit Wr
set_option linter.unusedVariables false

set_option maxRecDepth 100000 in
set_option maxHeartbeats 4000000 in
theorem sanity_any (w : World) : Calls Try.prog 12 #[] w fun e w' => e = .returned (.bool true) ∧ Below w.heap.size w w' := by
  go_enter Try.func12, Try.ntmps12
  go_wp2_with fail
  refine (s1 _ _ rfl).mono ?_; rintro e w' ⟨rfl, rfl⟩
  go_wp2_with fail
  refine (s2 _ _ (by simp)).mono ?_; rintro e w' ⟨rfl, rfl⟩
  go_wp2_with fail
  refine (s3 _ _ (by simp)).mono ?_; rintro e w' ⟨rfl, rfl⟩
  go_wp2_with fail
  refine (s4 _ _ (by simp)).mono ?_; rintro e w' ⟨rfl, rfl⟩
  go_wp2_with fail
  refine (s5 _ _ (by simp)).mono ?_; rintro e w1 ⟨A1, c1, rfl, r1, hb1⟩
  have hB1 : Below w.heap.size w w1 := (((((Below.refl _ _).alloc (Nat.le_refl _) _).alloc (by simp) _).alloc (by simp; omega) _).alloc (by simp; omega) _).trans (hb1.mono (by simp; omega))
  clear hb1
  go_wp2_with fail
  refine (s6 _ _ (by simp)).mono ?_; rintro e w2 ⟨A2, c2, rfl, hc2, r2, hb2⟩
  have hblk2 : Blk w2 w1.heap.size 57 (B8 dg0) := (Blk.new w1 57 (B8 dg0)).below hb2 (by simp)
  have hB2 : Below w1.heap.size w1 w2 := ((Below.refl _ _).alloc (Nat.le_refl _) _).trans (hb2.mono (by simp))
  clear hb2
  go_wp2_with fail
  refine (s6b _ _ _ hc2 r2).mono ?_; rintro e w3 ⟨A3, c3, rfl, r3, hb3⟩
  have l2 := hblk2.lt
  have hblk3 := hblk2.below hb3 l2
  have hB3 : Below w1.heap.size w1 w3 := hB2.trans (hb3.mono hB2.size)
  clear r2 hb3 hblk2 hB2 l2
  go_wp2_with fail
  refine (s7 _ _ rfl).mono ?_; rintro e w4 ⟨A4, c4, rfl, r4, hb4⟩
  go_wp2_with fail
  refine (s8 A4 c4 _ _ rfl r4).mono ?_; rintro e w5 ⟨rfl, hb5⟩
  have hC5 : Below w3.heap.size w3 w5 := hb4.trans (hb5.mono hb4.size)
  clear r4 hb4 hb5
  go_wp2_with fail
  refine (s9 _ _ rfl).mono ?_; rintro e w6 ⟨A6, c6, rfl, r6, hb6⟩
  have hC6 := hC5.trans (hb6.mono hC5.size)
  clear hC5 hb6
  go_wp2_with fail
  refine (sm A6 c6 6 [129, 2, 128, 129, 1, 97] _ _ rfl rfl (by decide) r6).mono ?_; rintro e w7 ⟨rfl, hb7⟩
  have hC7 := hC6.trans (hb7.mono hC6.size)
  clear r6 hC6 hb7
  go_wp2_with fail
  refine (s10 _).mono ?_; rintro e w8 ⟨A8, c8, rfl, r8, hb8⟩
  have hC8 := hC7.trans (hb8.mono hC7.size)
  clear hC7 hb8
  go_wp2_with fail
  refine (sm A8 c8 3 [125, 254, 255] _ _ rfl rfl (by decide) r8).mono ?_; rintro e w9 ⟨rfl, hb9⟩
  have hC9 := hC8.trans (hb9.mono hC8.size)
  clear r8 hC8 hb9
  go_wp2_with fail
  refine (s13 A1 c1 _ _ rfl ((r1.below (hB3.trans (hC9.mono hB3.size))).more (Nat.le_trans hB3.size hC9.size))).mono ?_; rintro e w10 ⟨rfl, hb10⟩
  have hC10 := hC9.trans (hb10.mono hC9.size)
  clear r1 hC9 hb10
  go_wp2_with fail
  refine (s11 _).mono ?_; rintro e w11 ⟨A11, c11, rfl, r11, hb11⟩
  have hC11 := hC10.trans (hb11.mono hC10.size)
  clear hC10 hb11
  go_wp2_with fail
  refine (sm A11 c11 4 [129, 2, 97, 98] _ _ rfl rfl (by decide) r11).mono ?_; rintro e w12 ⟨rfl, hb12⟩
  have hC12 := hC11.trans (hb12.mono hC11.size)
  clear r11 hC11 hb12
  go_wp2_with fail
  refine (s12 _ _ rfl).mono ?_; rintro e w13 ⟨A13, c13, rfl, r13, hb13⟩
  have hC13 := hC12.trans (hb13.mono hC12.size)
  clear hC12 hb13
  go_wp2_with fail
  refine (sm A13 c13 5 [129, 2, 129, 1, 127] _ _ rfl rfl (by decide) r13).mono ?_; rintro e w14 ⟨rfl, hb14⟩
  have hC14 := hC13.trans (hb14.mono hC13.size)
  have hblk : Blk w14 w1.heap.size 57 (B8 dg0) := hblk3.below hC14 hblk3.lt
  have k0 : w14.cell? ⟨w1.heap.size, 0, none⟩ = some (.int .u8 1) := hblk.cell 0
  have k1 : w14.cell? ⟨w1.heap.size, 1, none⟩ = some (.int .u8 2) := hblk.cell 1
  have k2 : w14.cell? ⟨w1.heap.size, 2, none⟩ = some (.int .u8 0) := hblk.cell 2
  have k3 : w14.cell? ⟨w1.heap.size, 3, none⟩ = some (.int .u8 0) := hblk.cell 3
  have k4 : w14.cell? ⟨w1.heap.size, 4, none⟩ = some (.int .u8 0) := hblk.cell 4
  have k5 : w14.cell? ⟨w1.heap.size, 5, none⟩ = some (.int .u8 0) := hblk.cell 5
  have k6 : w14.cell? ⟨w1.heap.size, 6, none⟩ = some (.int .u8 0) := hblk.cell 6
  have k7 : w14.cell? ⟨w1.heap.size, 7, none⟩ = some (.int .u8 0) := hblk.cell 7
  have k8 : w14.cell? ⟨w1.heap.size, 8, none⟩ = some (.int .u8 0) := hblk.cell 8
  have k9 : w14.cell? ⟨w1.heap.size, 9, none⟩ = some (.int .u8 0) := hblk.cell 9
  have k10 : w14.cell? ⟨w1.heap.size, 10, none⟩ = some (.int .u8 0) := hblk.cell 10
  have k11 : w14.cell? ⟨w1.heap.size, 11, none⟩ = some (.int .u8 0) := hblk.cell 11
  have k12 : w14.cell? ⟨w1.heap.size, 12, none⟩ = some (.int .u8 0) := hblk.cell 12
  have k13 : w14.cell? ⟨w1.heap.size, 13, none⟩ = some (.int .u8 0) := hblk.cell 13
  have k14 : w14.cell? ⟨w1.heap.size, 14, none⟩ = some (.int .u8 0) := hblk.cell 14
  have k15 : w14.cell? ⟨w1.heap.size, 15, none⟩ = some (.int .u8 0) := hblk.cell 15
  have hr14 : Rd w14 w14.heap.size A3 (Dg [dg0]) := (r3.below hC14).more hC14.size
  have hE : Below w.heap.size w w14 := hB1.trans ((hB3.trans (hC14.mono hB3.size)).mono hB1.size)
  clear r13 hC13 hb14 hblk3 hblk r3 hB3 hC14 hB1
  go_wp2_with fail
  refine (s14 A3 c3 _ _ rfl hr14).mono ?_; rintro e w15 ⟨rfl, hb15⟩
  clear k0 k1 k2 k3 k4 k5 k6 k7 k8 k9 k10 k11 k12 k13 k14 k15 hr14
  go_wp2_with fail
  go_ret
  exact ⟨rfl, hE.trans (hb15.mono hE.size)⟩
end Go.Proofs.Ytooanlmmplbnoaa
