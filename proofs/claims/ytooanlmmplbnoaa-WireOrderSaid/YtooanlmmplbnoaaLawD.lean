/-
  The walk of the law WireOrder: it returns true, whatever the two integers.
  No condition.
-/
import Derived.Test.YtooanlmmplbnoaaSane
import Derived.Test.YtooanlmmplbnoaaPure4
import Derived.Deep.RegionWith
import Derived.Deep.DeepCutAuto
import Derived.Deep.DrawnRows
import Derived.Laws.IdiomStrings
import Derived.WalkSpells
import Derived.WalkLawsBesides
import Derived.Outline
import Derived.Deep.RegionHeld3
import Derived.BigQuiet
namespace Go.Proofs.Ytooanlmmplbnoaa
open Go.RowKit Wr
set_option linter.unusedVariables false

theorem conv_of {w : World} {B : Nat} {A : Option Addr} {l : List UInt8} (hr : Rd w B A (B8 l)) (hl : 1 ≤ l.length) (c : Nat) : (convert 28 9 (.slice A l.length c)).run Try.prog w = .ok (.string ⟨l.toArray⟩) w := by
  obtain ⟨g, o, rfl, hg, hcell⟩ := hr (by intro e; have := congrArg List.length e; rw [B8_len] at this; simp at this; subst this; simp at hl)
  refine run_convert_bytes_back w 28 9 5 ⟨g, o, none⟩ c l Try.underlying28 Try.underlying5 Try.underlying9 (fun j hj => ?_)
  rw [Addr.add_lit]
  exact hcell j _ (B8_get l j hj)

theorem part_list (E : List UInt8) (k : Nat) : ((⟨E.toArray⟩ : ByteArray).extract 0 k).toList = E.take k := by
  rw [ByteArray.extract_mk, ByteArray.toList_eq]
  simp

section
attribute [local go_sem ↓] Go.wp_at_zero Go.wp_at_succ
set_option maxRecDepth 100000 in
set_option maxHeartbeats 2000000 in
theorem order_walk (m n : Int) (w : World) (m0 : -9223372036854775808 ≤ m) (m1 : m ≤ 9223372036854775807) (n0 : -9223372036854775808 ≤ n) (n1 : n ≤ 9223372036854775807) :
    Calls Try.prog 5 #[.int .i64 m, .int .i64 n] w fun e w' => e = .returned (.bool true) ∧ Below w.heap.size w w' := by
  have hcm := fun W => int_s m W m0 m1
  have hcn := fun W => int_s n W n0 n1
  have em := enc_le m
  have en := enc_le n
  obtain ⟨E1, hE1⟩ : ∃ E, E = enc m := ⟨_, rfl⟩
  obtain ⟨E2, hE2⟩ : ∃ E, E = enc n := ⟨_, rfl⟩
  rw [← hE1] at hcm em
  rw [← hE2] at hcn en
  have CM := Lib.hid hcm
  have CN := Lib.hid hcn
  have HE1 := Lib.hid hE1
  have HE2 := Lib.hid hE2
  clear hcm hcn hE1 hE2
  go_enter Try.func5, Try.ntmps5
  go_upto_region 1 with (fail)
  go_cut [5, 6] (fun s5 s6 wx => s5 = .string ⟨E1.toArray⟩ ∧ s6 = .string ⟨E2.toArray⟩ ∧ Below w.heap.size w wx)
  case first =>
    clear m0 m1 n0 n1
    go_region_with (first
      | (go_at_call_of 14 (Value.int .i64 m); refine (CM.out _).mono ?_; rintro e wm ⟨Am, cm, rfl, hm1, hm2, rm, hbm⟩; have cvm := conv_of rm em.1 cm; (try (have cvn2 := conv_of ((rn.below hbm).more hbm.size) en.1 cn)))
      | (go_at_call_of 14 (Value.int .i64 n); refine (CN.out _).mono ?_; rintro e wn ⟨An, cn, rfl, hn1, hn2, rn, hbn⟩; have cvn := conv_of rn en.1 cn; (try (have cvm2 := conv_of ((rm.below hbn).more hbn.size) em.1 cm))))
    all_goals (go_wp2_with fail; go_meet; have H := hbm.trans (hbn.mono hbm.size); exact ⟨rfl, rfl, H.os, H.tape, H.output, H.size, H.block⟩)
  case rest =>
    obtain ⟨rfl, rfl, hbw⟩ := hcut
    have HW := Lib.hid hbw
    have hbd : ∀ W : World, Below w.heap.size w W → Below w.heap.size w W.drew := fun W H => ⟨H.os, H.tape, H.output, H.size, H.block⟩
    have L := enc_less m n m0 m1 n0 n1
    have I := enc_inj m n m0 m1 n0 n1
    have T := fun k hk => enc_take m n k hk m0 m1 n0 n1
    rw [← HE1.out, ← HE2.out] at L I T
    have HT := Lib.hid T
    clear T
    rcases Int.lt_trichotomy m n with h | h | h
    · have hlt : decide (m < n) = true := decide_eq_true h
      have heq : (m == n) = false := by simp; omega
      have hless : Op.bytesLess E1 E2 = true := by rw [L, hlt]
      have hE : (E1 == E2) = false := by rw [beq_eq_false_iff_ne]; intro e; have := I.1 e; omega
      clear L I
      go_wp2_with fail
      all_goals (have hz1 : (0 : Int) ≤ (E1.length : Int) := by omega)
      all_goals (have hz2 : (0 : Int) ≤ (E2.length : Int) := by omega)
      all_goals (first | (have hz : (E2.length : Int) ≤ (E1.length : Int) := by omega) | (have hz : (E1.length : Int) ≤ (E2.length : Int) := by omega))
      all_goals clear hbw
      all_goals go_region_held3 (fun W => Below w.heap.size w W) (first | assumption | exact HW.out | exact hbd HW.out | (apply hbd; assumption)) (first | (go_at_call 12; refine (sanity_any _).mono ?_; rintro e w' ⟨rfl, hbs⟩; have hB : Below w.heap.size w w' := Below.trans (by assumption) (Below.mono hbs (Below.size (by assumption)))))
      all_goals (go_wp2_with fail; go_ret; refine ⟨congrArg (fun b => Ending.returned (.bool b)) ?_, hB⟩; rw [part_list, part_list, Bool.not_eq_true', beq_eq_false_iff_ne]; intro e; have := (HT.out _ (by omega)).1 e; omega)
    · subst h
      have h0 : E1 = E2 := I.2 rfl
      have hless : Op.bytesLess E1 E2 = false := by rw [L]; exact decide_eq_false (by omega)
      subst h0
      clear L I
      have hlt : decide (m < m) = false := decide_eq_false (by omega)
      have heq : (m == m) = true := by simp
      have hE : (E1 == E1) = true := by simp
      go_wp2_with fail
      all_goals clear hbw
      all_goals go_region_held3 (fun W => Below w.heap.size w W) (first | assumption | exact HW.out | exact hbd HW.out | (apply hbd; assumption)) (first | (go_at_call 12; refine (sanity_any _).mono ?_; rintro e w' ⟨rfl, hbs⟩; have hB : Below w.heap.size w w' := Below.trans (by assumption) (Below.mono hbs (Below.size (by assumption)))))
      all_goals (go_wp2_with fail; go_ret; refine ⟨?_, hB⟩)
      all_goals (first | rfl | simp)
    · have hlt : decide (m < n) = false := decide_eq_false (by omega)
      have heq : (m == n) = false := by simp; omega
      have hless : Op.bytesLess E1 E2 = false := by rw [L, hlt]
      have hE : (E1 == E2) = false := by rw [beq_eq_false_iff_ne]; intro e; have := I.1 e; omega
      clear L I
      go_wp2_with fail
      all_goals (have hz1 : (0 : Int) ≤ (E1.length : Int) := by omega)
      all_goals (have hz2 : (0 : Int) ≤ (E2.length : Int) := by omega)
      all_goals (first | (have hz : (E2.length : Int) ≤ (E1.length : Int) := by omega) | (have hz : (E1.length : Int) ≤ (E2.length : Int) := by omega))
      all_goals clear hbw
      all_goals go_region_held3 (fun W => Below w.heap.size w W) (first | assumption | exact HW.out | exact hbd HW.out | (apply hbd; assumption)) (first | (go_at_call 12; refine (sanity_any _).mono ?_; rintro e w' ⟨rfl, hbs⟩; have hB : Below w.heap.size w w' := Below.trans (by assumption) (Below.mono hbs (Below.size (by assumption)))))
      all_goals (go_wp2_with fail; go_ret; refine ⟨congrArg (fun b => Ending.returned (.bool b)) ?_, hB⟩; rw [part_list, part_list, Bool.not_eq_true', beq_eq_false_iff_ne]; intro e; have := (HT.out _ (by omega)).1 e; omega)
end
end Go.Proofs.Ytooanlmmplbnoaa
