/-
  The walk of the law WireIntRoundTrip: it returns true, whatever the integer and the tail.
  No condition.
-/
import Derived.Test.YtooanlmmplbnoaaSane
import Derived.Test.YtooanlmmplbnoaaArg
namespace Go.Proofs.Ytooanlmmplbnoaa
open Go.RowKit Wr
set_option linter.unusedVariables false

theorem slice_full (A : Option Addr) (g o n c : Nat) (hA : A = some ⟨g, o, none⟩) (hn : n ≤ c) (W : World) : (Instr.sliceAt 28 (.slice A n c) none (some (.int .i64 (n : Int))) (some (.int .i64 (n : Int)))).run Try.prog W = .ok (.slice A n n) W := by
  subst hA
  have hu : Try.prog.underlying 28 = some (.slice (Try.prog.elem 28)) := by kernel_rfl
  have he : Try.prog.elem 28 = 5 := by kernel_rfl
  have h5 : (sizeOf 5).run Try.prog W = .ok 1 W := by kernel_rfl
  rw [run_sliceAt_slice W 28 _ _ _ _ hu, run_slice_hm W 28 (some ⟨g, o, none⟩) n c hu .i64 .i64 n n (by omega) (by omega) (by omega), he, h5]
  simp only [Result.andThen, sliced, Int.toNat_natCast, Nat.sub_zero]
  by_cases h0 : n = 0
  · simp [h0]
  · simp [h0, Addr.add_lit]

set_option maxRecDepth 100000 in
set_option maxHeartbeats 1000000 in
theorem intRoundTrip_walk (n : Int) (a1 : Option Addr) (len1 cap1 : Nat) (z1 : List Int) (w : World) (h0 : -9223372036854775808 ≤ n) (h1 : n ≤ 9223372036854775807) (w1 : InRow .u8 w a1 len1 cap1 z1) :
    Calls Try.prog 6 #[.int .i64 n, .slice a1 len1 cap1] w fun e w' => e = .returned (.bool true) ∧ Below w.heap.size w w' := by
  obtain ⟨i0, hi0, hz0, hz1, hz2⟩ := info_parts Try.info5
  obtain ⟨b, hb, hlc, hno, hr⟩ := in_bytes w1
  clear w1
  by_cases hm : 2000 < len1
  · go_enter Try.func6, Try.ntmps6
    go_wp2_with (go_at_call 12; refine (sanity_any _).mono ?_; rintro e w' ⟨rfl, hbs⟩)
    go_ret
    exact ⟨rfl, hbs⟩
  · have hel := enc_le n
    have hd := decInt_enc n b h0 h1
    have hlen : (enc n ++ b).length = (enc n).length + len1 := by rw [List.length_append, hb]
    obtain ⟨N, hN⟩ : ∃ N, N = (enc n).length := ⟨_, rfl⟩
    have hi := int_s n w h0 h1
    rw [← hN] at hi hel hd hlen
    have HI := Lib.hid hi
    have HD := Lib.hid hd
    have HL := Lib.hid hlen
    have HN := Lib.hid hN
    have HB := Lib.hid hb
    clear hi hd hlen hN hb
    go_enter Try.func6, Try.ntmps6
    go_wp2_with fail
    refine HI.out.mono ?_; rintro e w1 ⟨A1, c1, rfl, hc1, hn1, r1, hb1⟩
    obtain ⟨g, o, hA, hg, hcell⟩ := r1 (by intro e; have := congrArg List.length e; simp only [B8, List.length_map, List.length_nil] at this; have := HN.out; omega)
    have hsl := slice_full A1 g o N c1 hA hc1
    clear hcell hA
    have hr1 : Rd w1 w1.heap.size a1 (B8 b) := (hr.below hb1).more hb1.size
    go_wp2_with (at_builtin; refine wpList_append_full _ rfl (.tmp 21) (.tmp 22) 28 rfl 5 i0 (.int .u8 0) 1 Try.underlying28 hi0 hz0 hz1 hz2 rfl A1 a1 N len1 cap1 (B8 (enc n)) (B8 b) rfl rfl ?c0 ?c1 ?c2 r1 hr1 (B8_one _) ?c3 ?c4 ?_)
    case c0 => intro e; have := hn1 e; omega
    case c1 => rw [B8_len, HN.out]
    case c2 => rw [B8_len, HB.out]
    case c3 => unfold maxLen; omega
    case c4 => omega
    · intro A2 c2 w2 hc2 hn2 r2 hb2
      have hg := getInt_any A2 (enc n ++ b) c2 w2 w2.heap.size (by rw [B8_append]; exact r2) (by rw [HL.out]; exact hc2) (by rw [HL.out]; omega)
      rw [HD.out, HL.out] at hg
      have HG := Lib.hid hg
      clear hg
      go_wp2_with fail
      refine HG.out.mono ?_; rintro e w3 ⟨rfl, rfl⟩
      go_wp2_with fail
      refine (sanity_any _).mono ?_; rintro e w3 ⟨rfl, hb3⟩
      go_wp2_with fail
      go_ret
      have h9 : decide ((N : Int) ≤ 9) = true := by rw [decide_eq_true_iff]; omega
      refine ⟨?_, ?_⟩
      · show Ending.returned (.bool (decide ((N : Int) ≤ 9))) = _
        rw [h9]
      exact (hb1.trans (hb2.mono hb1.size)).trans (hb3.mono (Nat.le_trans hb1.size hb2.size))
end Go.Proofs.Ytooanlmmplbnoaa
