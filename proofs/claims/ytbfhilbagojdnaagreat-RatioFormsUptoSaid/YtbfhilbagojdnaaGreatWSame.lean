/-
  The contracts of the reference's Same, SameInts and SameTexts: Same tells whether the bytes are equal; the others say true where the lists are equal.
  No condition but that the slices can be read.
-/
import Derived.Test.YtbfhilbagojdnaaGreatWNext
import Derived.BigQuiet
namespace Go.Proofs.YtbfhilbagojdnaaGreat.W1
open Go.RowKit Go.Proofs.YtbfhilbagojdnaaGreat.Wr Go.Proofs.YtbfhilbagojdnaaGreat.W1.Wr
set_option linter.unusedVariables false
set_option maxRecDepth 100000
theorem toNat_ne {a b : UInt8} (h : a ≠ b) : ((a.toNat : Int) != (b.toNat : Int)) = true := by
  rw [bne_iff_ne]; intro e; exact h (UInt8.toNat.inj (by omega))
theorem Rd.drewN {w : World} {B : Nat} {A : Option Addr} {xs : List Value} (h : Rd w B A xs) (q : Nat) : Rd (w.drewN q) B A xs := h

set_option maxRecDepth 100000 in
set_option maxHeartbeats 1000000 in
theorem same_any (A A2 : Option Addr) (a b : List UInt8) (c c2 : Nat) (w : World) (B : Nat) (hr : Rd w B A (B8 a)) (hr2 : Rd w B A2 (B8 b)) (hl : a.length ≤ 1099511627776) (hl2 : b.length ≤ 1099511627776) :
    Calls Tryz.prog 28 #[.slice A a.length c, .slice A2 b.length c2] w fun e w' => e = .returned (.bool (decide (a = b))) ∧ ∃ q, w' = w.drewN q := by
  by_cases hab : a.length = b.length
  · obtain ⟨N, hN⟩ : ∃ N, N = b.length := ⟨_, rfl⟩
    rw [← hN] at hab ⊢
    rw [hab] at hl ⊢
    have HN := Lib.hid hN
    have HA := Lib.hid hab
    have hb0 : ((N : Int) != (N : Int)) = false := by simp
    clear hN hab hl2
    go_enter Tryz.func28, Tryz.ntmps28
    go_wp2_with fail
    go_loopw [5] (fun s5 wr => ∃ k q : Nat, k ≤ N ∧ s5 = .int .i64 k ∧ a.take k = b.take k ∧ w.drewN q = wr) (fun s5 _ => N - (intOf s5).toNat)
    case atStart => exact ⟨0, 0, Nat.zero_le _, rfl, by simp, rfl⟩
    case round =>
      obtain ⟨k, q, hk, rfl, ht, rfl⟩ := hrel
      have HT := Lib.hid ht
      clear ht
      by_cases hlt : k < N
      · have hka : k < a.length := by have := HA.out; omega
        have hkb : k < b.length := by have := HN.out; omega
        obtain ⟨g, o, rfl, hg, hcell⟩ := hr (by intro e; have := congrArg List.length e; simp only [B8, List.length_map, List.length_nil] at this; omega)
        obtain ⟨g2, o2, rfl, hg2, hcell2⟩ := hr2 (by intro e; have := congrArg List.length e; simp only [B8, List.length_map, List.length_nil] at this; omega)
        have hc1 : w.cell? ⟨g, o + k, none⟩ = some (.int .u8 (a[k].toNat : Int)) := hcell k _ (B8_get a k hka)
        have hc2 : w.cell? ⟨g2, o2 + k, none⟩ = some (.int .u8 (b[k].toNat : Int)) := hcell2 k _ (B8_get b k hkb)
        have i0 : (0 : Int) ≤ (k : Int) := Int.natCast_nonneg _
        have i1 : (k : Int) < (N : Int) := by omega
        clear hcell hcell2 hr hr2
        by_cases he : a[k] = b[k]
        · have hne : ((a[k].toNat : Int) != (b[k].toNat : Int)) = false := by rw [he]; simp
          have HE := Lib.hid he
          clear he
          go_wp2_with fail
          go_quiet (fail)
          go_wp2_with fail
          go_roundw
          case rel => exact ⟨k + 1, _, hlt, by go_num, by rw [List.take_succ_eq_append_getElem hka, List.take_succ_eq_append_getElem hkb, HT.out, HE.out], rfl⟩
          case measure => simp only [intOf]; omega
        · have hne := toNat_ne he
          have hd : decide (a = b) = false := by
            apply decide_eq_false
            intro e
            apply he
            subst e; rfl
          have HD := Lib.hid hd
          clear hd he
          go_wp2_with fail
          go_quiet (fail)
          go_wp2_with fail
          go_ret
          exact ⟨by rw [HD.out]; rfl, q + nq, World.drewN_drewN _ _ _⟩
      · obtain rfl : k = N := by omega
        have hd : decide (a = b) = true := by
          apply decide_eq_true
          have := HT.out
          rwa [List.take_of_length_le (by rw [HA.out]; omega), List.take_of_length_le (by rw [← HN.out]; omega)] at this
        have HD := Lib.hid hd
        clear hd
        go_wp2_with fail
        go_ret
        exact ⟨by rw [HD.out]; rfl, q, rfl⟩
  · have hb0 : ((a.length : Int) != (b.length : Int)) = true := by rw [bne_iff_ne]; omega
    have hd : decide (a = b) = false := by
      apply decide_eq_false
      intro e
      apply hab
      rw [e]
    rw [hd]
    clear hd hab
    go_enter Tryz.func28, Tryz.ntmps28
    go_wp2_with fail
    go_ret
    exact ⟨rfl, 0, rfl⟩

end Go.Proofs.YtbfhilbagojdnaaGreat.W1
