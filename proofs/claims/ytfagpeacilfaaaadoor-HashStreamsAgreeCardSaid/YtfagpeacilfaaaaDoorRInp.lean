/-
  The contract of the reference's Input: the input of a digest.
  Condition: together no longer than 2^38 bytes.
-/
import Derived.Test.YtfagpeacilfaaaaDoorRBytes
namespace Go.Proofs.YtfagpeacilfaaaaDoor
open Go.RowKit Wr Sh
set_option linter.unusedVariables false
set_option maxRecDepth 100000 in
set_option maxHeartbeats 4000000 in
theorem input_any (t8 : UInt8) (A : Option Addr) (l : List ByteArray) (c : Nat) (w : World) (hr : Rd w w.heap.size A (St l)) (hsz : (inp t8 l).length ≤ 274877906944) :
    Calls Tryd.prog 23 #[.int .i64 (t8.toNat : Int), .slice A l.length c] w fun e w' => ∃ v', e = .returned v' ∧ w'.ownsRow w.heap.size 5 1 v' (inp t8 l).length (B8 (inp t8 l)) ∧ Below w.heap.size w w' := by
  obtain ⟨N, hN⟩ : ∃ N, N = l.length := ⟨_, rfl⟩
  have hN40 : N ≤ 274877906944 := by rw [hN]; exact Nat.le_trans (inp_many t8 l) hsz
  have h8 : IntKind.u8.wrap (t8.toNat : Int) = (t8.toNat : Int) := by rw [IntKind.wrap_u8']; have := t8.toNat_lt; omega
  have h8' : (t8.toNat : Int) % 256 = (t8.toNat : Int) := by have := t8.toNat_lt; omega
  rw [← hN]
  have HN := Lib.hid hN
  have HR := Lib.hid hr
  have HZ := Lib.hid hsz
  have HO := Lib.hid (World.ownsRow_lit (base := w.heap.size) (e := 5) (size := 1) w #[.int .u8 (t8.toNat : Int)] 1 (Nat.le_refl _) (by decide) rfl)
  have HB := Lib.hid ((Below.refl w.heap.size w).alloc (Nat.le_refl _) (.cells #[.int .u8 (t8.toNat : Int)] 5))
  clear hN hr hsz
  go_enter Tryd.func23, Tryd.ntmps23
  go_wp2_with fail
  go_loopw [5, 6] (fun s3 s4 wr => ∃ j k : Nat, j ≤ N ∧ s4 = .int .i64 j ∧ Hid (k = (inp t8 (l.take j)).length) ∧ wr.ownsRow w.heap.size 5 1 s3 k (B8 (inp t8 (l.take j))) ∧ Hid (Below w.heap.size w wr)) (fun _ s4 _ => N - (intOf s4).toNat)
  case atStart => exact ⟨0, 1, Nat.zero_le _, rfl, Lib.hid rfl, HO.out, HB⟩
  case round =>
  clear HO HB
  obtain ⟨j, k, hj, rfl, HK, ho, HB⟩ := hrel
  have HO := Lib.hid ho
  clear ho
  by_cases hlt : j < N
  · have hjl : j < l.length := by have := HN.out; omega
    obtain ⟨g, o, rfl, hg, hcell⟩ := HR.out (by intro e; have := congrArg List.length e; simp only [St, List.length_map, List.length_nil] at this; omega)
    have hcj : wr.cell? ⟨g, o + j, none⟩ = some (.string l[j]) := by
      rw [HB.out.cell (show (⟨g, o + j, none⟩ : Addr).block < _ from hg)]; exact hcell j _ (St_get l j hjl)
    have hle := inp_le t8 l (j + 1)
    rw [inp_succ t8 l j hjl, List.length_append, ← HK.out] at hle
    have hzz := HZ.out
    have hxs := inp_long t8 l j hjl
    obtain ⟨x, hx⟩ : ∃ x, x = l[j] := ⟨_, rfl⟩
    rw [← hx] at hcj hle hxs
    obtain ⟨L, hL⟩ : ∃ L, L = (encStr x.data.toList).length := ⟨_, rfl⟩
    rw [← hL] at hle
    have hkL : k + L ≤ 274877906944 := by omega
    have hx40 : x.size ≤ 1099511627776 := by omega
    have HX := Lib.hid hx
    have HL := Lib.hid hL
    clear hcell hx hL hle hzz hxs
    go_wp2_with (first
      | (go_at_call 35; refine (rbytes_any _ _ hx40).mono ?_; rintro e w2 ⟨v2, rfl, ho2, hb2⟩; obtain ⟨A2, c2, rfl, _, hn2, hrd2⟩ := own_form ho2; have HRD := Lib.hid hrd2; have HNL := Lib.hid hn2; have HB2 := Lib.hid hb2; clear ho2 hb2 hrd2 hn2; rw [← HL.out])
      | (at_builtin; refine wpList_append_rd rfl (.tmp 16) (.tmp 21) rfl w.heap.size _ k _ rfl (own_below HO.out HB2.out) A2 L c2 _ (encStr x.data.toList) rfl HNL.out HL.out.symm HRD.out (by omega) (Nat.le_trans HB.out.size HB2.out.size) ?_; intro v3 w3 ho3 hg3; have HO3 := Lib.hid ho3; have HB3 := Lib.hid ((HB.out.trans (HB2.out.mono HB.out.size)).grown hg3 (Nat.le_trans HB.out.size HB2.out.size) (fun q hq => (HO.out.lt q hq).1)); clear ho3 hg3))
    go_roundw
    case rel =>
      refine ⟨j + 1, k + L, hlt, by go_num, Lib.hid (by rw [inp_succ t8 l j hjl, List.length_append, ← HK.out, ← HX.out, ← HL.out]), ?_, HB3⟩
      have := HO3.out
      rw [← B8_append] at this
      rw [inp_succ t8 l j hjl, ← HX.out]
      exact this
    case measure => simp only [intOf]; omega
  · obtain rfl : j = N := by omega
    go_wp2_with fail
    go_ret
    refine ⟨_, rfl, ?_, HB.out⟩
    have h := HO.out
    rw [HK.out, List.take_of_length_le (by rw [← HN.out]; exact Nat.le_refl _)] at h
    exact h
end Go.Proofs.YtfagpeacilfaaaaDoor
