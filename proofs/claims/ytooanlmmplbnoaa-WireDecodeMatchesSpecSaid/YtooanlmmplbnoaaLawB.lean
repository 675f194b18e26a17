/-
  The walk of the law WireConcat: it returns true, whatever the string and the list.
  No condition.
-/
import Derived.Test.YtooanlmmplbnoaaSane
import Derived.Test.YtooanlmmplbnoaaArg
namespace Go.Proofs.Ytooanlmmplbnoaa
open Go.RowKit Wr
set_option linter.unusedVariables false

theorem string_eta (s : ByteArray) : (⟨s.data.toList.toArray⟩ : ByteArray) = s := by simp
theorem encStr_le (s : List UInt8) : (encStr s).length ≤ 9 + s.length := by
  unfold encStr; have := enc_le (s.length : Int); rw [List.length_append]; omega
theorem encInts_le (l : List Int) : (encInts l).length ≤ 9 + 9 * l.length ∧ 1 ≤ (encInts l).length := by
  have h := partE_len enc l 9 l.length (fun x _ => (enc_le x).2) (Nat.le_refl _)
  rw [partE_all] at h
  refine ⟨h, ?_⟩
  unfold encInts encList
  have := enc_le (l.length : Int)
  rw [List.length_append]; omega
theorem ne_nil {l : List UInt8} (h : 1 ≤ l.length) : B8 l ≠ [] := by
  intro e
  have := congrArg List.length e
  rw [B8_len] at this
  simp at this
  subst this
  simp at h

/-- A cut of a slice of bytes to its end. -/
theorem slice_from (A : Option Addr) (L c k : Nat) (hk : k ≤ L) (W : World) : (Instr.sliceAt 28 (.slice A L c) (some (.int .i64 (k : Int))) none none).run Try.prog W = .ok (.slice (if c = k then A else A.map (·.add k)) (L - k) (c - k)) W := by
  have hu : Try.prog.underlying 28 = some (.slice (Try.prog.elem 28)) := by kernel_rfl
  have he : Try.prog.elem 28 = 5 := by kernel_rfl
  have h5 : (sizeOf 5).run Try.prog W = .ok 1 W := by kernel_rfl
  rw [run_sliceAt_slice W 28 _ _ _ _ hu, run_slice_l W 28 A L c hu .i64 k (by omega) (by omega), he, h5]
  simp [Result.andThen, sliced]

set_option maxRecDepth 100000 in
set_option maxHeartbeats 2000000 in
theorem concat_walk (s : ByteArray) (a1 : Option Addr) (len1 cap1 : Nat) (z1 : List Int) (w : World) (hs0 : s.size ≤ 281474976710656) (hl0 : len1 ≤ 281474976710656) (w1 : InRow .i64 w a1 len1 cap1 z1) :
    Calls Try.prog 10 #[.string s, .slice a1 len1 cap1] w fun e w' => e = .returned (.bool true) ∧ Below w.heap.size w w' := by
  obtain ⟨i0, hi0, hz0, hz1, hz2⟩ := info_parts Try.info5
  obtain ⟨l, hl, hlc, hno, hr, hok⟩ := in_ints w1
  clear w1
  by_cases hm : 2000 < s.size + len1
  · go_enter Try.func10, Try.ntmps10
    go_wp2_with (go_at_call 12; refine (sanity_any _).mono ?_; rintro e w' ⟨rfl, hbs⟩)
    go_ret
    exact ⟨rfl, hbs⟩
  · have hS := encStr_le s.data.toList
    have hS1 := encStr_len s.data.toList
    rw [size_list] at hS
    have hI := encInts_le l
    rw [hl] at hI
    obtain ⟨E1, hE1⟩ : ∃ E, E = encStr s.data.toList := ⟨_, rfl⟩
    obtain ⟨E2, hE2⟩ : ∃ E, E = encInts l := ⟨_, rfl⟩
    have hd1 : decStr (E1 ++ E2) = (s.data.toList, E1.length, 0) := by rw [hE1]; exact decStr_enc _ _ (by rw [size_list]; omega)
    have hd2 : decInts E2 = (l, E2.length, 0) := by
      have := list_there codecInt l [] (by omega) hok
      rw [List.append_nil] at this
      rw [hE2]; exact this
    have hb := fun W => bytes_s s W (by omega)
    rw [← hE1] at hS hS1 hb
    have hn := fun (W : World) (h : Rd W W.heap.size a1 (I64 l)) => ints_s a1 l cap1 W h (by omega) (by omega) hok
    rw [← hE2] at hI hn
    simp only [hl] at hn
    obtain ⟨N1, hN1⟩ : ∃ N, N = E1.length := ⟨_, rfl⟩
    obtain ⟨N2, hN2⟩ : ∃ N, N = E2.length := ⟨_, rfl⟩
    rw [← hN1] at hS hS1 hb hd1
    rw [← hN2] at hI hn hd2
    have hlen : (E1 ++ E2).length = N1 + N2 := by rw [List.length_append, ← hN1, ← hN2]
    have HB := Lib.hid hb
    have HN := Lib.hid hn
    have HD1 := Lib.hid hd1
    have HD2 := Lib.hid hd2
    have HL := Lib.hid hlen
    have HN1 := Lib.hid hN1
    have HN2 := Lib.hid hN2
    have Hl := Lib.hid hl
    clear hb hn hd1 hd2 hlen hN1 hN2 hE1 hE2 hl
    go_enter Try.func10, Try.ntmps10
    go_wp2_with fail
    refine (HB.out _).mono ?_; rintro e w1 ⟨A1, c1, rfl, hc1, hn1, r1, hb1⟩
    have hown0 : w1.ownsRow w.heap.size 5 1 (.slice (some ⟨w.heap.size, 0, none⟩) 0 0) 0 [] := own_below (World.ownsRow_made w #[] 0 (Nat.le_refl _) (by unfold maxLen; omega) rfl) hb1
    have hB1 : Below w.heap.size w w1 := ((Below.refl _ _).alloc (Nat.le_refl _) _).trans (hb1.mono (by simp))
    obtain ⟨g, o, hA, hg, hcell⟩ := r1 (ne_nil (by rw [← HN1.out]; omega))
    subst hA
    have HC := Lib.hid hcell
    clear hcell r1 hb1
    go_wp2_with (at_builtin; refine wpList_append_own _ rfl (.tmp 19) (.tmp 21) 28 rfl w.heap.size 5 i0 (.int .u8 0) 1 1 Try.underlying28 hi0 hz0 hz1 hz2 rfl (by decide) _ 0 [] rfl hown0 ⟨g, o, none⟩ N1 c1 (B8 E1) rfl ?c0 ?c1 ?c2 ?c3 ?c4 ?c5 ?_)
    case c0 => rw [B8_len, ← HN1.out]; omega
    case c1 => intro j u hu; rw [Addr.add_lit]; exact HC.out j u hu
    case c2 => exact B8_one _
    case c3 => unfold maxLen; omega
    case c4 => omega
    case c5 => exact hB1.size
    · intro v2 w2 ho2 hg2 _
      have hB2 : Below w.heap.size w w2 := hB1.grown hg2 hB1.size (fun q hq => by have := (hown0.lt q hq).1; omega)
      try simp only [Nat.zero_add, List.nil_append] at ho2
      clear hg2 hown0 HC
      go_wp2_with fail
      refine (HN.out _ ((hr.below hB2).more hB2.size)).mono ?_; rintro e w3 ⟨A3, c3, rfl, hc3, hn3, r3, hb3⟩
      have ho3 := own_below ho2 hb3
      have hB3 := hB2.trans (hb3.mono hB2.size)
      obtain ⟨g3, o3, hA3, hg3, hcell3⟩ := r3 (ne_nil (by rw [← HN2.out]; omega))
      subst hA3
      have HC3 := Lib.hid hcell3
      clear hcell3 r3 hb3 ho2
      go_wp2_with (at_builtin; refine wpList_append_own _ rfl (.tmp 22) (.tmp 24) 28 rfl w.heap.size 5 i0 (.int .u8 0) 1 1 Try.underlying28 hi0 hz0 hz1 hz2 rfl (by decide) v2 N1 (B8 E1) rfl ho3 ⟨g3, o3, none⟩ N2 c3 (B8 E2) rfl ?d0 ?d1 ?d2 ?d3 ?d4 ?d5 ?_)
      case d0 => rw [B8_len, ← HN2.out]; omega
      case d1 => intro j u hu; rw [Addr.add_lit]; exact HC3.out j u hu
      case d2 => exact B8_one _
      case d3 => unfold maxLen; omega
      case d4 => omega
      case d5 => exact hB3.size
      · intro v4 w4 ho4 hg4 _
        have hB4 : Below w.heap.size w w4 := hB3.grown hg4 hB3.size (fun q hq => by have := (ho3.lt q hq).1; omega)
        obtain ⟨A4, c4, rfl, hc4, hn4, r4⟩ := own_form ho4
        rw [← B8_append] at r4
        have hgb := getBytes_any A4 (E1 ++ E2) c4 w4 w4.heap.size r4 (by rw [HL.out]; exact hc4) (by rw [HL.out]; omega)
        rw [HD1.out, HL.out] at hgb
        simp only [string_eta] at hgb
        have HG := Lib.hid hgb
        have hcut := r4.cut N1 c4 (by rw [B8_len, HL.out]; omega) (by rw [B8_len, HL.out]; exact hc4)
        have hdr : (B8 (E1 ++ E2)).drop N1 = B8 E2 := by rw [B8_append, List.drop_left' (by rw [B8_len, ← HN1.out])]
        rw [hdr] at hcut
        have hsl := slice_from A4 (N1 + N2) c4 N1 (by omega)
        obtain ⟨A5, hA5⟩ : ∃ A5, A5 = (if c4 = N1 then A4 else A4.map (·.add N1)) := ⟨_, rfl⟩
        rw [← hA5] at hcut hsl
        rw [Nat.add_sub_cancel_left] at hsl
        have hgi := getInts_s A5 E2 (c4 - N1) w4 hcut (by rw [← HN2.out]; omega) (by rw [← HN2.out]; omega)
        rw [HD2.out, ← HN2.out] at hgi
        simp only [Hl.out] at hgi
        have HGI := Lib.hid hgi
        clear hgb hdr hA5 hgi hg4 ho4 ho3 r4 hcut HC3
        go_wp2_with fail
        refine HG.out.mono ?_; rintro e w5 ⟨rfl, rfl⟩
        go_wp2_with fail
        refine HGI.out.mono ?_; rintro e w6 ⟨A6, c6, rfl, r6, hb6⟩
        have hB6 := hB4.trans (hb6.mono hB4.size)
        clear hb6 hsl
        go_wp2_with fail
        refine (sanity_any _).mono ?_; rintro e w7 ⟨rfl, hb7⟩
        have hB7 := hB6.trans (hb7.mono hB6.size)
        have hsm := sameInts_any A6 a1 l c6 cap1 w7 w7.heap.size ((r6.below hb7).more hb7.size) ((hr.below hB7).more hB7.size) (by rw [Hl.out]; omega)
        rw [Hl.out] at hsm
        have HS := Lib.hid hsm
        clear hsm r6 hb7
        go_wp2_with fail
        refine HS.out.mono ?_; rintro e w8 ⟨rfl, q, rfl⟩
        go_wp2_with fail
        go_ret
        exact ⟨rfl, ⟨hB7.os, hB7.tape, hB7.output, hB7.size, hB7.block⟩⟩
end Go.Proofs.Ytooanlmmplbnoaa
