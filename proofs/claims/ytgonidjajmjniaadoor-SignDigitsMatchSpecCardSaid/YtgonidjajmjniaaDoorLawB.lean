/-
  The law SignDigitsMatchSpec returns true, whatever the digest, if sanity does.
-/
import Derived.Test.YtgonidjajmjniaaDoorLawA
import Derived.Test.YtgonidjajmjniaaDoorRDigs
namespace Go.Proofs.YtgonidjajmjniaaDoor
open Go.RowKit Wr Sh
set_option linter.unusedVariables false
set_option maxRecDepth 100000

set_option maxHeartbeats 4000000 in
theorem match_walk (a : List UInt8) (w : World) (ha : a.length = 16) (hs : Sane w) :
    Calls Tryd.prog 3 #[.agg (B8 a).toArray] w fun e w' => e = .returned (.bool true) ∧ Below w.heap.size w w' := by
  obtain ⟨W0, hW0⟩ : ∃ W, W = w.alloc (.cells (B8 a).toArray 23) := ⟨_, rfl⟩
  have B0 : Hid (Below w.heap.size w W0) := Lib.hid (by rw [hW0]; exact (Below.refl _ _).alloc (Nat.le_refl _) _)
  have KA : Hid (Blk W0 w.heap.size 23 (B8 a)) := Lib.hid (by rw [hW0]; exact Blk.new w 23 (B8 a))
  have HLA := Lib.hid (show ∀ W, Below W0.heap.size W0 W → ∀ j v, (B8 a)[j]? = some v → W.cell? ((⟨w.heap.size, 0, none⟩ : Addr).add j) = some v from fun W h => (KA.out.below h KA.out.lt).at)
  have HA := Lib.hid ha
  have HS := Lib.hid hs
  have HW := Lib.hid hW0
  clear ha hs hW0
  go_enter Tryd.func3, Tryd.ntmps3
  go_wp2_with fail
  rw [← HW.out]
  refine (HS.out _ B0.out).mono ?_; rintro e w1 ⟨rfl, hb1⟩
  have B1 := Lib.hid hb1
  clear hb1
  go_wp2_with (with_reducible refine wpList_load_at rfl 23 (.tmp 1) rfl ⟨w.heap.size, 0, none⟩ rfl (B8 a) (.array 16 5) (HLA.out _ B1.out) Tryd.underlying23 rfl (size23 _ HA.out) ?_)
  refine (digits_any a _ HA.out).mono ?_; rintro e w2 ⟨g1, rfl, k1, hg1, hb2⟩
  have B2 := Lib.hid (B1.out.trans (hb2.mono B1.out.size))
  have K1 := Lib.hid k1
  clear hb2 k1
  go_wp2_with (with_reducible refine wpList_load_at rfl 23 (.tmp 1) rfl ⟨w.heap.size, 0, none⟩ rfl (B8 a) (.array 16 5) (HLA.out _ B2.out) Tryd.underlying23 rfl (size23 _ HA.out) ?_)
  refine (rdigits_any a _ HA.out).mono ?_; rintro e w3 ⟨v, rfl, ho, hb3⟩
  have B3 := Lib.hid (B2.out.trans (hb3.mono B2.out.size))
  replace K1 := Lib.hid (K1.out.below hb3 K1.out.lt)
  rcases ho.2 with ⟨_, h⟩ | ⟨g2, cap, cur, rfl, _⟩
  · omega
  have K2 := Lib.hid (ho.cells (g := g2) rfl)
  have L2 := Lib.hid (ho.lt g2 rfl).2
  clear hb3 ho
  go_wp2_with fail
  go_loopw [6] (fun s6 wr => ∃ j : Nat, j ≤ 68 ∧ s6 = .int .i64 j ∧ Hid (Blk wr g1 43 (NI (digs a))) ∧ Hid (∀ j u, (NI (digs a))[j]? = some u → wr.cell? ((⟨g2, 0, none⟩ : Addr).add j) = some u) ∧ Hid (Below W0.heap.size W0 wr))
    (fun s6 _ => 68 - (intOf s6).toNat)
  case atStart => exact ⟨0, by omega, rfl, K1, K2, B3⟩
  case round =>
    obtain ⟨j, hj, rfl, k1, k2, hbel⟩ := hrel
    by_cases hlt : j < 68
    · have c1 : wr.cell? ⟨g1, j, none⟩ = some (.int .i64 (sdig a j : Nat)) := by rw [k1.out.cell]; exact NI_get a j hlt
      have c2 : wr.cell? ⟨g2, j, none⟩ = some (.int .i64 (sdig a j : Nat)) := by have := k2.out j _ (NI_get a j hlt); rwa [Addr.add_lit, Nat.zero_add] at this
      have hle := sdig_le a j
      obtain ⟨x, hx⟩ : ∃ x, x = sdig a j := ⟨_, rfl⟩
      rw [← hx] at c1 c2 hle
      clear hx
      have d0 : ((x : Int) != (x : Int)) = false := by simp
      have d1 : decide ((x : Int) < 0) = false := by simp
      have d2 : decide ((3 : Int) < (x : Int)) = false := by simp; omega
      go_wp2_with fail
      go_quiet (fail)
      go_wp2_with fail
      go_roundw
      case rel => exact ⟨j + 1, by omega, by go_num, Lib.hid (k1.out.drewN _), Lib.hid k2.out, Lib.hid (below_drewN hbel.out _)⟩
      case measure => simp only [intOf]; omega
    · obtain rfl : j = 68 := by omega
      go_wp2_with fail
      go_ret
      exact ⟨rfl, B0.out.trans (hbel.out.mono B0.out.size)⟩
end Go.Proofs.YtgonidjajmjniaaDoor
