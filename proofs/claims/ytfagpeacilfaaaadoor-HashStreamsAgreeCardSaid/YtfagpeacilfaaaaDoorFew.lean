/-
  The contract of the reference's Few: whether there are at most 12 strings, none of more than 400 bytes.
  No condition but the lengths that a machine holds.
-/
import Derived.Test.YtfagpeacilfaaaaDoorOf
namespace Go.Proofs.YtfagpeacilfaaaaDoor
open Go.RowKit Wr Sh
set_option linter.unusedVariables false

/-- At most 12 strings, none of more than 400 bytes. -/
def few (l : List ByteArray) : Bool := decide (l.length ≤ 12) && l.all fun s => decide (s.size ≤ 400)

set_option maxRecDepth 100000 in
set_option maxHeartbeats 4000000 in
theorem few_any (A : Option Addr) (l : List ByteArray) (c : Nat) (w : World) (hr : Rd w w.heap.size A (St l)) (hn : l.length ≤ 281474976710656) (hs : ∀ s ∈ l, s.size ≤ 281474976710656) (E : Bool) (hE : E = few l) :
    Calls Tryd.prog 13 #[.slice A l.length c] w fun e w' => e = .returned (.bool E) ∧ w = w' := by
  obtain ⟨N, hN⟩ : ∃ N, N = l.length := ⟨_, rfl⟩
  by_cases h12 : 12 < l.length
  · have e : E = false := by rw [hE]; unfold few; rw [decide_eq_false (by omega)]; rfl
    subst e
    rw [← hN] at h12 hn ⊢
    go_enter Tryd.func13, Tryd.ntmps13
    go_wp2_with fail
    go_ret
    exact ⟨rfl, rfl⟩
  · have h12' : N ≤ 12 := by omega
    rw [← hN]
    have HN := Lib.hid hN
    have HE := Lib.hid hE
    have HS := Lib.hid hs
    clear hN hE hs h12 hn
    go_enter Tryd.func13, Tryd.ntmps13
    go_wp2_with fail
    go_loopw [3] (fun s3 wr => ∃ j : Nat, j ≤ N ∧ s3 = .int .i64 j ∧ Hid (∀ s ∈ l.take j, s.size ≤ 400) ∧ w = wr) (fun s3 _ => N - (intOf s3).toNat)
    case atStart => exact ⟨0, Nat.zero_le _, rfl, Lib.hid (by simp), rfl⟩
    case round =>
      obtain ⟨j, hj, rfl, HJ, rfl⟩ := hrel
      by_cases hlt : j < N
      · have hjl : j < l.length := by have := HN.out; omega
        obtain ⟨g, o, rfl, hg, hcell⟩ := hr (by intro e; have := congrArg List.length e; simp only [St, List.length_map, List.length_nil] at this; omega)
        have hcj : w.cell? ⟨g, o + j, none⟩ = some (.string l[j]) := hcell j _ (St_get l j hjl)
        have hsj := HS.out l[j] (List.getElem_mem hjl)
        obtain ⟨x, hx⟩ : ∃ x, x = l[j] := ⟨_, rfl⟩
        rw [← hx] at hcj hsj
        have HX := Lib.hid hx
        clear hcell hr hx
        by_cases hbig : 400 < x.size
        · obtain rfl : E = false := by
            rw [HE.out]; unfold few
            rw [Bool.and_eq_false_iff]; right
            rw [List.all_eq_false]
            refine ⟨l[j], List.getElem_mem hjl, ?_⟩
            rw [← HX.out]; simp; omega
          go_wp2_with fail
          go_ret
          exact ⟨rfl, rfl⟩
        · have H1 : Hid (∀ s ∈ l.take (j + 1), s.size ≤ 400) := Lib.hid (by
            intro s hs
            rw [List.take_succ_eq_append_getElem hjl, List.mem_append] at hs
            rcases hs with hs | hs
            · exact HJ.out s hs
            · rw [List.mem_singleton] at hs; subst hs; rw [← HX.out]; omega)
          go_wp2_with fail
          go_roundw
          case rel => exact ⟨j + 1, hlt, by go_num, H1, trivial⟩
          case measure => simp only [intOf]; omega
      · obtain rfl : j = N := by omega
        obtain rfl : E = true := by
          have h := HJ.out
          rw [List.take_of_length_le (by have := HN.out; omega)] at h
          rw [HE.out]; unfold few
          rw [Bool.and_eq_true]
          exact ⟨by rw [decide_eq_true_iff]; have := HN.out; omega, by rw [List.all_eq_true]; intro s hs; rw [decide_eq_true_iff]; exact h s hs⟩
        go_wp2_with fail
        go_ret
        exact ⟨rfl, rfl⟩
end Go.Proofs.YtfagpeacilfaaaaDoor
