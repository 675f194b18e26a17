/-
  The reference: row.
  No condition but the length.
-/
import Derived.Test.YtbfhilbagojdnaaGreatDxF
namespace Go.Proofs.YtbfhilbagojdnaaGreat
open Go.RowKit Wr Go.Proofs.YtbfhilbagojdnaaGreat.Nm
set_option linter.unusedVariables false
set_option maxRecDepth 100000

/-- A byte of a string, read by its index. -/
theorem str_ix (s : ByteArray) (k : Nat) (h : k < s.data.toList.length) (W : World) : (Instr.index 9 (.string s) (.int .i64 (k : Int))).run Tryz.prog W = .ok (.int .u8 ((s.data.toList[k]).toNat : Int)) W := by
  have hs : k < s.size := by simpa using h
  rw [run_index_string W 9 s _ _ Tryz.underlying9, dif_pos ⟨by omega, by omega⟩]
  rfl
set_option maxHeartbeats 2000000 in
theorem rrow_any (s : ByteArray) (w : World) (hl : s.size ≤ 1000000000) : Calls Tryz.prog 88 #[.string s] w fun e w' => e = .returned (.bool (rowOk s.data.toList)) ∧ w = w' := by
  obtain ⟨l, hL⟩ : ∃ l, l = s.data.toList := ⟨_, rfl⟩
  have hIX := fun k h W => str_ix s k h W
  have hsl : s.size = l.length := by rw [hL]; simp
  rw [← hL]
  obtain ⟨n, hn⟩ : ∃ n, n = s.size := ⟨_, rfl⟩
  have HN := Lib.hid (show n = l.length by omega)
  have hsz : (s.size : Int) = (n : Int) := by rw [hn]
  have HIX := Lib.hid (show ∀ k (h : k < l.length) W, (Instr.index 9 (.string s) (.int .i64 (k : Int))).run Tryz.prog W = .ok (.int .u8 ((l[k]).toNat : Int)) W by subst hL; exact hIX)
  have hnI : (n : Int) ≤ 1000000000 := by omega
  clear hIX hsl hL
  rw [← hn] at hl
  clear hn
  go_enter Tryz.func88, Tryz.ntmps88
  go_wp2
  go_loopw [3] (fun s wr => ∃ k : Nat, k ≤ n ∧ s = .int .i64 (k : Int) ∧ (l.take k).all digB = true ∧ wr = w) (fun s _ => n - (intOf s).toNat)
  case atStart => exact ⟨0, Nat.zero_le _, rfl, rfl, rfl⟩
  case round =>
    obtain ⟨k, hk, rfl, hall, rfl⟩ := hrel
    have HA := Lib.hid hall
    clear hall
    rcases Nat.lt_or_ge k n with hlt | hge
    · have hkl : k < l.length := by have := HN.out; omega
      have hix := HIX.out k hkl
      have hkI : (k : Int) < (n : Int) := by omega
      by_cases hd : digB l[k] = true
      · have hd2 := of_decide_eq_true hd
        have HT := Lib.hid (show (l.take (k + 1)).all digB = true by
          rw [List.take_succ_eq_append_getElem hkl, List.all_append, HA.out, Bool.true_and]
          simp [hd])
        generalize l[k].toNat = b at *
        have hb1 : ¬ ((b : Int) < 48) := by omega
        have hb2 : ¬ (57 < (b : Int)) := by omega
        clear hd hd2
        go_wp2
        go_roundw
        case rel => exact ⟨k + 1, by omega, by simp, HT.out, by trivial⟩
        case measure => simp only [intOf]; omega
      · have hd2 : ¬ (48 ≤ l[k].toNat ∧ l[k].toNat ≤ 57) := fun h => hd (decide_eq_true h)
        have HF := Lib.hid (show rowOk l = false by
          have : l.all digB = false := by
            rw [← Bool.not_eq_true]
            intro h
            exact hd (List.all_eq_true.1 h _ (List.getElem_mem hkl))
          unfold rowOk; rw [this, Bool.false_and])
        generalize l[k].toNat = b at *
        clear hd
        by_cases hb1 : b < 48
        · have hb1I : (b : Int) < 48 := by omega
          clear hd2
          go_wp2
          go_ret
          exact ⟨by rw [HF.out]; rfl, by trivial⟩
        · have hb1I : ¬ ((b : Int) < 48) := by omega
          have hb2I : 57 < (b : Int) := by omega
          clear hd2
          go_wp2
          go_ret
          exact ⟨by rw [HF.out]; rfl, by trivial⟩
    · have hkn : k = n := by omega
      subst hkn
      have hA := HA.out
      rw [HN.out, List.take_length] at hA
      have HF := Lib.hid (show rowOk l = (decide (l = [48]) || (decide (l ≠ []) && decide (l[0]? ≠ some 48))) by unfold rowOk; rw [hA, Bool.true_and])
      clear hA HA hk hge hnI hl
      by_cases h1 : k = 1
      · have HR := Lib.hid (show rowOk l = true by
          obtain ⟨b, hb⟩ : ∃ b, l = [b] := List.length_eq_one_iff.1 (by rw [← HN.out]; exact h1)
          rw [HF.out, hb]
          by_cases h : b = 48
          · simp [h]
          · simp [h])
        subst h1
        clear HF
        go_wp2
        go_ret
        exact ⟨by rw [HR.out]; rfl, rfl⟩
      · by_cases h0 : k = 0
        · have HR := Lib.hid (show rowOk l = false by
            have : l = [] := List.eq_nil_of_length_eq_zero (by rw [← HN.out]; exact h0)
            rw [HF.out, this]; rfl)
          subst h0
          clear HF
          go_wp2
          go_ret
          exact ⟨by rw [HR.out]; rfl, rfl⟩
        · have hpos : 0 < l.length := by rw [← HN.out]; omega
          have hix : ∀ W, (Instr.index 9 (.string s) (.int .i64 0)).run Tryz.prog W = .ok (.int .u8 ((l[0]).toNat : Int)) W := HIX.out 0 hpos
          have HR := Lib.hid (show rowOk l = decide (l[0] ≠ 48) by
            have hne : l ≠ [] := by intro e; rw [e] at hpos; simp at hpos
            have hn1 : l ≠ [48] := by intro e; have := HN.out; rw [e] at this; simp at this; exact h1 this
            rw [HF.out, decide_eq_false hn1, decide_eq_true hne, Bool.false_or, Bool.true_and, List.getElem?_eq_getElem hpos]
            simp)
          have hbn := byte_ne l[0]
          have hk1 : (1 : Int) < (k : Int) := by omega
          have hk2 : ((k : Int) == 1) = false := by rw [beq_eq_false_iff_ne]; omega
          have hk0 : (0 : Int) < (k : Int) := by omega
          generalize (decide (l[0] ≠ 48)) = q at *
          generalize l[0].toNat = b at *
          clear HF
          go_wp2
          go_ret
          exact ⟨by rw [HR.out]; first | exact congrArg (fun z => Ending.returned (.bool z)) hbn | (show Ending.returned (.bool q) = _; rfl) | (rw [← hbn]; rfl), rfl⟩
end Go.Proofs.YtbfhilbagojdnaaGreat
