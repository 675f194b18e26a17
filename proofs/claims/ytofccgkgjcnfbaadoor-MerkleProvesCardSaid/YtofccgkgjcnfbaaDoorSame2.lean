/-
  The contract of the laws' SameLeaves, for any leaves.
  Conditions: at most 2^30 leaves.
-/
import Derived.Test.YtofccgkgjcnfbaaDoorGen
import Derived.Test.YtofccgkgjcnfbaaDoorApis
import Derived.BigQuiet
namespace Go.Proofs.YtofccgkgjcnfbaaDoor
open Go.RowKit Wr Sh
set_option linter.unusedVariables false
set_option maxRecDepth 100000

theorem neq_str {x y : ByteArray} (h : x ≠ y) : (x.toList == y.toList) = false := by rw [beq_eq_false_iff_ne]; exact fun e => h (str_ext e)
set_option maxHeartbeats 4000000 in
theorem same2_any (A B : Option Addr) (L P : List Lf) (N M c d : Nat) (w : World) (hN : N = L.length) (hM : M = P.length) (hl : N ≤ 1073741824) (hr : Rd w w.heap.size A (LC L)) (hs : Rd w w.heap.size B (LC P)) :
    Calls Tryd.prog 34 #[.slice A N c, .slice B M d] w fun e w' => e = .returned (.bool (decide (L = P))) ∧ Below w.heap.size w w' := by
  by_cases hNM : N = M
  · subst hNM
    have HN := Lib.hid hN
    have HM := Lib.hid hM
    have HR := Lib.hid hr
    have HS := Lib.hid hs
    clear hN hM hr hs
    go_enter Tryd.func34, Tryd.ntmps34
    go_wp2
    go_loopw [5] (fun s5 wr => ∃ j : Nat, j ≤ N ∧ s5 = .int .i64 j ∧ Hid (L.take j = P.take j) ∧ Hid (Below w.heap.size w wr))
      (fun s5 _ => N - (intOf s5).toNat)
    case atStart => exact ⟨0, Nat.zero_le _, rfl, Lib.hid rfl, Lib.hid (Below.refl _ _)⟩
    case round =>
      obtain ⟨j, hj, rfl, HT, HB⟩ := hrel
      by_cases hlt : j < N
      · have hjl : j < L.length := by have := HN.out; omega
        have hjp : j < P.length := by have := HM.out; omega
        obtain ⟨g, o, rfl, hg, hcell⟩ := (HR.out.below HB.out) (by intro e; have := congrArg List.length e; rw [LC_len] at this; simp only [List.length_nil] at this; omega)
        obtain ⟨g2, o2, rfl, hg2, hcell2⟩ := (HS.out.below HB.out) (by intro e; have := congrArg List.length e; rw [LC_len] at this; simp only [List.length_nil] at this; omega)
        have hc1 := hcell _ _ (LC_at L j hjl).1
        have hc2 := hcell _ _ (LC_at L j hjl).2
        have hc3 := hcell2 _ _ (LC_at P j hjp).1
        have hc4 := hcell2 _ _ (LC_at P j hjp).2
        obtain ⟨x, hx⟩ : ∃ x, x = L[j] := ⟨_, rfl⟩
        obtain ⟨y, hy⟩ : ∃ y, y = P[j] := ⟨_, rfl⟩
        rw [← hx] at hc1 hc2
        rw [← hy] at hc3 hc4
        have HX := Lib.hid hx
        have HY := Lib.hid hy
        obtain ⟨x1, x2⟩ := x
        obtain ⟨y1, y2⟩ := y
        simp only at hc1 hc2 hc3 hc4
        rw [← Nat.add_assoc] at hc2 hc4
        have i1 : (j : Int) < (N : Int) := by omega
        clear hcell hcell2 hx hy hg hg2
        by_cases h1 : x1 = y1
        · subst h1
          have e1 : (x1.toList == x1.toList) = true := by simp
          by_cases h2 : x2 = y2
          · subst h2
            have e2 : (x2.toList == x2.toList) = true := by simp
            have HQ := Lib.hid (show L.take (j + 1) = P.take (j + 1) by rw [List.take_succ_eq_append_getElem hjl, List.take_succ_eq_append_getElem hjp, ← HX.out, ← HY.out, HT.out])
            clear hjl hjp HX HY HT
            go_wp2
            go_quiet (fail)
            go_wp2
            go_roundw
            case rel => exact ⟨j + 1, by omega, by go_num, HQ, Lib.hid (below_drewN HB.out _)⟩
            case measure => simp only [intOf]; omega
          · have e2 := neq_str h2
            have HF := Lib.hid (show decide (L = P) = false from decide_eq_false (fun e => h2 (by
              have : L[j] = P[j] := by simp only [e]
              rw [← HX.out, ← HY.out] at this
              exact (Prod.mk.inj this).2)))
            clear hjl hjp HX HY HT h2
            go_wp2
            go_quiet (fail)
            go_wp2
            go_ret
            exact ⟨by rw [HF.out]; rfl, below_drewN HB.out _⟩
        · have e1 := neq_str h1
          have HF := Lib.hid (show decide (L = P) = false from decide_eq_false (fun e => h1 (by
            have : L[j] = P[j] := by simp only [e]
            rw [← HX.out, ← HY.out] at this
            exact (Prod.mk.inj this).1)))
          clear hjl hjp HX HY HT h1
          go_wp2
          go_quiet (fail)
          go_wp2
          go_ret
          exact ⟨by rw [HF.out]; rfl, below_drewN HB.out _⟩
      · obtain rfl : j = N := by omega
        have HF := Lib.hid (show decide (L = P) = true from decide_eq_true (by
          have := HT.out
          rw [List.take_of_length_le (by have := HN.out; omega), List.take_of_length_le (by have := HM.out; omega)] at this
          exact this))
        go_wp2
        go_ret
        exact ⟨by rw [HF.out]; rfl, HB.out⟩
  · have HF := Lib.hid (show decide (L = P) = false from decide_eq_false (fun e => hNM (by rw [hN, hM, e])))
    have e1 : ((N : Int) == (M : Int)) = false := by rw [beq_eq_false_iff_ne]; omega
    clear hN hM hr hs
    go_enter Tryd.func34, Tryd.ntmps34
    go_wp2
    go_ret
    exact ⟨by rw [HF.out]; rfl, Below.refl _ _⟩
end Go.Proofs.YtofccgkgjcnfbaaDoor
