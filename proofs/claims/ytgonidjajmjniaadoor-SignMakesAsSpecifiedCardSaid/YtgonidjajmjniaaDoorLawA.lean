/-
  The law SignDigitsCross returns true, whatever the digests, if sanity does.
-/
import Derived.Test.YtgonidjajmjniaaDoorEqD
namespace Go.Proofs.YtgonidjajmjniaaDoor
open Go.RowKit Wr Sh
set_option linter.unusedVariables false
set_option maxRecDepth 100000

/-- sanity returns true in each world behind this one. -/
def Sane (w : World) : Prop := ∀ W, Below w.heap.size w W → Calls Tryd.prog 9 #[] W fun e w' => e = .returned (.bool true) ∧ Below W.heap.size W w'

theorem NI_get (d : List UInt8) (j : Nat) (h : j < 68) : (NI (digs d))[j]? = some (.int .i64 (sdig d j : Nat)) := by
  unfold NI digs
  simp [h]

set_option maxHeartbeats 4000000 in
theorem cross_walk (a b : List UInt8) (w : World) (ha : a.length = 16) (hb : b.length = 16) (hs : Sane w) :
    Calls Tryd.prog 7 #[.agg (B8 a).toArray, .agg (B8 b).toArray] w fun e w' => e = .returned (.bool true) ∧ Below w.heap.size w w' := by
  obtain ⟨W0, hW0⟩ : ∃ W, W = (w.alloc (.cells (B8 a).toArray 23)).alloc (.cells (B8 b).toArray 23) := ⟨_, rfl⟩
  have B0 : Hid (Below w.heap.size w W0) := Lib.hid (by rw [hW0]; exact ((Below.refl _ _).alloc (Nat.le_refl _) _).alloc (by simp) _)
  have KA : Hid (Blk W0 w.heap.size 23 (B8 a)) := Lib.hid (by rw [hW0]; exact (Blk.new w 23 (B8 a)).alloc _)
  have KB : Hid (Blk W0 (w.heap.size + 1) 23 (B8 b)) := Lib.hid (by rw [hW0]; exact Blk.newAt _ _ 23 (B8 b) (by simp))
  have HLA := Lib.hid (show ∀ W, Below W0.heap.size W0 W → ∀ j v, (B8 a)[j]? = some v → W.cell? ((⟨w.heap.size, 0, none⟩ : Addr).add j) = some v from fun W h => (KA.out.below h KA.out.lt).at)
  have HLB := Lib.hid (show ∀ W, Below W0.heap.size W0 W → ∀ j v, (B8 b)[j]? = some v → W.cell? ((⟨w.heap.size + 1, 0, none⟩ : Addr).add j) = some v from fun W h => (KB.out.below h KB.out.lt).at)
  have HA := Lib.hid ha
  have HB := Lib.hid hb
  have HS := Lib.hid hs
  have HW := Lib.hid hW0
  clear ha hb hs hW0
  go_enter Tryd.func7, Tryd.ntmps7
  go_wp2_with fail
  rw [← HW.out]
  refine (HS.out _ B0.out).mono ?_; rintro e w1 ⟨rfl, hb1⟩
  have B1 := Lib.hid hb1
  clear hb1
  go_wp2_with (with_reducible refine wpList_load_at rfl 23 (.tmp 2) rfl ⟨w.heap.size, 0, none⟩ rfl (B8 a) (.array 16 5) (HLA.out _ B1.out) Tryd.underlying23 rfl (size23 _ HA.out) ?_)
  refine (digits_any a _ HA.out).mono ?_; rintro e w2 ⟨g1, rfl, k1, hg1, hb2⟩
  have B2 := Lib.hid (B1.out.trans (hb2.mono B1.out.size))
  have K1 := Lib.hid k1
  clear hb2 k1
  go_wp2_with (with_reducible refine wpList_load_at rfl 23 (.tmp 3) rfl ⟨w.heap.size + 1, 0, none⟩ rfl (B8 b) (.array 16 5) (HLB.out _ B2.out) Tryd.underlying23 rfl (size23 _ HB.out) ?_)
  refine (digits_any b _ HB.out).mono ?_; rintro e w3 ⟨g2, rfl, k2, hg2, hb3⟩
  have B3 := Lib.hid (B2.out.trans (hb3.mono B2.out.size))
  replace K1 := Lib.hid (K1.out.below hb3 K1.out.lt)
  have K2 := Lib.hid k2
  clear hb3 k2
  go_wp2_with fail
  go_loopw [8, 9, 10] (fun s8 s9 s10 wr => ∃ j : Nat, j ≤ 68 ∧ s8 = .bool (lessB a b j) ∧ s9 = .bool (lessB b a j) ∧ s10 = .int .i64 j ∧ Hid (Blk wr g1 43 (NI (digs a))) ∧ Hid (Blk wr g2 43 (NI (digs b))) ∧ Hid (Below W0.heap.size W0 wr))
    (fun _ _ s10 _ => 68 - (intOf s10).toNat)
  case atStart => exact ⟨0, by omega, rfl, rfl, rfl, K1, K2, B3⟩
  case round =>
    obtain ⟨j, hj, rfl, rfl, rfl, k1, k2, hbel⟩ := hrel
    by_cases hlt : j < 68
    · have c1 : wr.cell? ⟨g1, j, none⟩ = some (.int .i64 (sdig a j : Nat)) := by rw [k1.out.cell]; exact NI_get a j hlt
      have c2 : wr.cell? ⟨g2, j, none⟩ = some (.int .i64 (sdig b j : Nat)) := by rw [k2.out.cell]; exact NI_get b j hlt
      have e1 := lessB_succ a b j
      have e2 := lessB_succ b a j
      rw [show (decide (sdig a j < sdig b j)) = decide (((sdig a j : Nat) : Int) < ((sdig b j : Nat) : Int)) by simp] at e1
      rw [show (decide (sdig b j < sdig a j)) = decide (((sdig b j : Nat) : Int) < ((sdig a j : Nat) : Int)) by simp] at e2
      obtain ⟨x, hx⟩ : ∃ x, x = sdig a j := ⟨_, rfl⟩
      obtain ⟨y, hy⟩ : ∃ x, x = sdig b j := ⟨_, rfl⟩
      obtain ⟨L, hL⟩ : ∃ L, L = lessB a b j := ⟨_, rfl⟩
      obtain ⟨M, hM⟩ : ∃ M, M = lessB b a j := ⟨_, rfl⟩
      rw [← hx, ← hy, ← hL] at e1
      rw [← hx, ← hy, ← hM] at e2
      rw [← hx] at c1
      rw [← hy] at c2
      rw [← hL, ← hM]
      have E := Lib.hid (And.intro e1 e2)
      clear e1 e2 hx hy hL hM
      cases L <;> cases M
      all_goals
        go_wp2_with fail
        go_quiet (fail)
        go_wp2_with fail
        go_quiet (fail)
        go_wp2_with fail
        go_roundw
      case rel =>
        refine ⟨j + 1, by omega, ?_, ?_, by go_num, Lib.hid (k1.out.drewN _), Lib.hid (k2.out.drewN _), Lib.hid (below_drewN hbel.out _)⟩
        · rw [E.out.1]; simp
        · rw [E.out.2]; simp
      case measure => simp only [intOf]; omega
      case rel =>
        refine ⟨j + 1, by omega, ?_, ?_, by go_num, Lib.hid (k1.out.drewN _), Lib.hid (k2.out.drewN _), Lib.hid (below_drewN hbel.out _)⟩
        · rw [E.out.1]; simp
        · rw [E.out.2]; simp
      case measure => simp only [intOf]; omega
      case rel =>
        refine ⟨j + 1, by omega, ?_, ?_, by go_num, Lib.hid (k1.out.drewN _), Lib.hid (k2.out.drewN _), Lib.hid (below_drewN hbel.out _)⟩
        · rw [E.out.1]; simp
        · rw [E.out.2]; simp
      case measure => simp only [intOf]; omega
      case rel =>
        refine ⟨j + 1, by omega, ?_, ?_, by go_num, Lib.hid (k1.out.drewN _), Lib.hid (k2.out.drewN _), Lib.hid (below_drewN hbel.out _)⟩
        · rw [E.out.1]; simp
        · rw [E.out.2]; simp
      case measure => simp only [intOf]; omega
    · obtain rfl : j = 68 := by omega
      obtain ⟨q, hq⟩ : ∃ q, q = (a == b) := ⟨_, rfl⟩
      have hE := fun W => eql23 a b HA.out HB.out W
      rw [← hq] at hE
      have HE := Lib.hid hE
      clear hE
      cases q with
      | true =>
        clear hq
        have hE := HE.out
        go_wp2_with (first
          | (refine wpList_load_guarded 23 (.tmp 2) rfl ⟨w.heap.size, 0, none⟩ rfl (by rfl) (B8 a) (.array 16 5) (HLA.out _ hbel.out) Tryd.underlying23 rfl (size23 _ HA.out) ?_)
          | (refine wpList_load_guarded 23 (.tmp 3) rfl ⟨w.heap.size + 1, 0, none⟩ rfl (by rfl) (B8 b) (.array 16 5) (HLB.out _ hbel.out) Tryd.underlying23 rfl (size23 _ HB.out) ?_))
        go_ret
        exact ⟨rfl, B0.out.trans (hbel.out.mono B0.out.size)⟩
      | false =>
        have hne : a ≠ b := by intro h; rw [h] at hq; simp at hq
        rw [lessB_all a b HA.out HB.out hne, lessB_all b a HB.out HA.out (Ne.symm hne)]
        clear hq hne
        have hE := HE.out
        go_wp2_with (first
          | (refine wpList_load_guarded 23 (.tmp 2) rfl ⟨w.heap.size, 0, none⟩ rfl (by rfl) (B8 a) (.array 16 5) (HLA.out _ hbel.out) Tryd.underlying23 rfl (size23 _ HA.out) ?_)
          | (refine wpList_load_guarded 23 (.tmp 3) rfl ⟨w.heap.size + 1, 0, none⟩ rfl (by rfl) (B8 b) (.array 16 5) (HLB.out _ hbel.out) Tryd.underlying23 rfl (size23 _ HB.out) ?_))
        go_ret
        exact ⟨rfl, B0.out.trans (hbel.out.mono B0.out.size)⟩
end Go.Proofs.YtgonidjajmjniaaDoor
