/-
  The contract of hash.Sum.
  Conditions: at most 2^39 bytes; the table of the round constants is as the text lays it.
-/
import Derived.Test.YtfagpeacilfaaaaDoorSum
namespace Go.Proofs.YtfagpeacilfaaaaDoor
open Go.RowKit Wr Sh
set_option linter.unusedVariables false

theorem sha_len (m : List UInt8) : (sha m).length = 32 := by simp [sha, S8.bytes, S8.list, bytes4]

def Z64 : List UInt8 := List.replicate 64 0
theorem part_z : Part [] Z64 0 init := part_nil
theorem begin_s (w : World) : Calls Tryd.prog 14 #[] w fun e w' => e = .returned (.agg (SC init Z64 0).toArray) ∧ Below w.heap.size w w' := begin_any w

set_option maxRecDepth 100000 in
set_option maxHeartbeats 4000000 in
theorem hsum_go (t : List UInt8) (A : Option Addr) (c : Nat) (w : World) (hr : Rd w w.heap.size A (B8 t)) (hc : t.length ≤ c) (hsz : t.length ≤ 549755813888) (ht : Tab 1 w) (R : List UInt8) (hR : Hid (R = sha t)) :
    Calls Tryd.prog 11 #[.slice A t.length c] w fun e w' => e = .returned (.agg (B8 R).toArray) ∧ Below w.heap.size w w' := by
  have HT := Lib.hid ht
  have HR := Lib.hid hr
  have hRL : R.length = 32 := by rw [hR.out]; exact sha_len t
  have HS := Lib.hid (size24' R hRL)
  have HZ := Lib.hid (show (B8 (List.replicate 32 0)).toArray.size = (B8 R).toArray.size by rw [List.size_toArray, List.size_toArray, B8_len, B8_len, hRL]; rfl)
  have HB0 : ∀ O : Obj, Hid (Below w.heap.size w (w.alloc O)) := fun O => Lib.hid ((Below.refl _ _).alloc (Nat.le_refl _) O)
  have HN := Lib.hid (Blk.new w 24 (B8 (List.replicate 32 0)))
  clear ht hr hRL
  go_enter Tryd.func11, Tryd.ntmps11
  go_wp2_with (first
    | (go_at_call 14; refine (begin_s _).mono ?_; rintro e w1 ⟨rfl, hb1⟩; have HB1 := Lib.hid ((HB0 _).out.trans (hb1.mono (by simp))); have HK1 := Lib.hid (HN.out.below hb1 (by simp)); clear hb1)
    | (go_at_call 27; refine (extB_go [] t Z64 init 0 0 A c _ part_z rfl ((HR.out.below HB1.out).more HB1.out.size) hc (by omega) (HT.out.below HB1.out HT.out.1) t.length (Nat.zero_add _).symm t (Lib.hid rfl)).mono ?_; rintro e w2 ⟨rest2, v2, rfl, hp2, hb2⟩; have HP2 := Lib.hid hp2; have HB2 := Lib.hid (HB1.out.trans (hb2.mono HB1.out.size)); have HK2 := Lib.hid (HK1.out.below hb2 HK1.out.lt); clear hb2 hp2)
    | (go_at_call 17; refine (ssum_go t rest2 v2 _ _ HP2.out rfl hsz (HT.out.below HB2.out HT.out.1) R hR).mono ?_; rintro e w3 ⟨rfl, hb3⟩; have HB3 := Lib.hid (HB2.out.trans (hb3.mono HB2.out.size)); have HK3 := Lib.hid (show w3.heap[w.heap.size]? = some (.cells (B8 (List.replicate 32 0)).toArray 24 (0, 0)) from HK2.out.below hb3 HK2.out.lt); clear hb3)
    | (with_reducible refine wpList_store_row rfl 24 (.tmp 2) (.tmp 6) rfl w.heap.size (B8 R).toArray rfl rfl 24 _ HK3.out HS.out HZ.out (one8 _) ?_))
  refine bodyPost_ret (v := .agg (B8 R).toArray) ?_ rfl ⟨rfl, belowRow HB3.out (Nat.le_refl _) _⟩
  have hr := run_loadVar_row (P := Tryd.prog) _ w.heap.size 24 24 (B8 R).toArray (0, 0) (.array 32 5) (heap_setRow w3 w.heap.size (B8 R).toArray _ 24 HK3.out) Tryd.underlying24 rfl HS.out
  simp [results, Tryd.results11, asAddr, hr, Act.put]
end Go.Proofs.YtfagpeacilfaaaaDoor
