/-
  The contracts of the reference's Ints, Strings and Digests: they return the encodings of the lists.
  Conditions: the lists and their encodings are no longer than 2^30.
-/
import Derived.Test.YtbfhilbagojdnaaGreatWRIntN
namespace Go.Proofs.YtbfhilbagojdnaaGreat.W1
open Go.RowKit Go.Proofs.YtbfhilbagojdnaaGreat.Wr Go.Proofs.YtbfhilbagojdnaaGreat.W1.Wr
set_option linter.unusedVariables false
set_option maxRecDepth 100000

set_option maxRecDepth 100000 in
set_option maxHeartbeats 4000000 in
theorem rints_any (A : Option Addr) (l : List Int) (c : Nat) (w : World) (hr : Rd w w.heap.size A (I64 l)) (hl : l.length ≤ 1073741824) (hi : ∀ x ∈ l, okInt x) :
    Calls Tryz.prog 37 #[.slice A l.length c] w fun e w' => ∃ v', e = .returned v' ∧ w'.ownsRow w.heap.size 5 1 v' (encInts l).length (B8 (encInts l)) ∧ Below w.heap.size w w' := by
  obtain ⟨N, hN⟩ : ∃ N, N = l.length := ⟨_, rfl⟩
  rw [← hN] at hl ⊢
  have HN := Lib.hid hN
  have HR := Lib.hid hr
  have HI := Lib.hid hi
  clear hN hr hi
  go_enter Tryz.func37, Tryz.ntmps37
  go_wp2_with (go_at_call 90; refine (rint_any _ _ (by omega) (by omega)).mono ?_; rintro e w1 ⟨v1, rfl, ho1, hb1⟩; have HO1 := Lib.hid ho1; have HB1 := Lib.hid hb1; clear ho1 hb1)
  go_loopw [3, 4] (fun s3 s4 wr => ∃ j k : Nat, j ≤ N ∧ s4 = .int .i64 j ∧ Hid (k = (partE enc l j).length) ∧ Hid (wr.ownsRow w.heap.size 5 1 s3 k (B8 (partE enc l j))) ∧ Hid (Below w.heap.size w wr))
    (fun _ s4 _ => N - (intOf s4).toNat)
  case atStart => exact ⟨0, _, Nat.zero_le _, rfl, Lib.hid rfl, by rw [partE_zero, ← HN.out]; exact HO1, HB1⟩
  case round =>
    clear HO1 HB1
    obtain ⟨j, k, hj, rfl, HK, HO, HB⟩ := hrel
    by_cases hlt : j < N
    · have hjl : j < l.length := by have := HN.out; omega
      obtain ⟨g, o, rfl, hg, hcell⟩ := HR.out (by intro e; have := congrArg List.length e; simp only [I64, List.length_map, List.length_nil] at this; omega)
      have hcj : wr.cell? ⟨g, o + j, none⟩ = some (.int .i64 l[j]) := by
        rw [HB.out.cell (show (⟨g, o + j, none⟩ : Addr).block < _ from hg)]; exact hcell j _ (I64_get l j hjl)
      have hb2 := HI.out l[j] (List.getElem_mem _)
      have hb3 := partE_len enc l 9 j (fun x _ => (enc_le x).2) (by have := HN.out; omega)
      rw [← HK.out] at hb3
      have HP := Lib.hid (partE_succ enc l j hjl)
      obtain ⟨x, hx⟩ : ∃ x, x = l[j] := ⟨_, rfl⟩
      rw [← hx] at hcj hb2 HP
      have he9 := enc_le x
      obtain ⟨L, hL⟩ : ∃ L, L = (enc x).length := ⟨_, rfl⟩
      rw [← hL] at he9
      have HL := Lib.hid hL
      clear hcell hx hL
      go_wp2_with (first
        | (go_at_call 90; refine (rint_any _ _ hb2.1 hb2.2).mono ?_; rintro e w2 ⟨v2, rfl, ho2, hb2'⟩; obtain ⟨A2, c2, rfl, _, hn2, hrd2⟩ := own_form ho2; have HRD := Lib.hid hrd2; have HNL := Lib.hid hn2; have HB2 := Lib.hid hb2'; clear ho2 hb2' hrd2 hn2; rw [← HL.out])
        | (at_builtin; refine wpList_append_rd rfl (.tmp 14) (.tmp 19) rfl w.heap.size _ k _ rfl (own_below HO.out HB2.out) A2 L c2 _ (enc x) rfl HNL.out HL.out.symm HRD.out (by omega) (Nat.le_trans HB.out.size HB2.out.size) ?_; intro v3 w3 ho3 hg3; have HO3 := Lib.hid ho3; have HB3 := Lib.hid ((HB.out.trans (HB2.out.mono HB.out.size)).grown hg3 (Nat.le_trans HB.out.size HB2.out.size) (fun q hq => (HO.out.lt q hq).1)); clear ho3 hg3))
      go_roundw
      case rel =>
        refine ⟨j + 1, k + L, hlt, by go_num, Lib.hid (by rw [HP.out, List.length_append, ← HK.out, ← HL.out]), Lib.hid ?_, HB3⟩
        have := HO3.out
        rw [← B8_append] at this
        rw [HP.out]
        exact this
      case measure => simp only [intOf]; omega
    · obtain rfl : j = N := by omega
      go_wp2_with fail
      go_ret
      refine ⟨_, rfl, ?_, HB.out⟩
      have h := HO.out
      rw [HK.out, HN.out, partE_all] at h
      exact h

end Go.Proofs.YtbfhilbagojdnaaGreat.W1
