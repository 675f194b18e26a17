/-
  The contracts of hash.Begin and of Stream.Add.
  Conditions: at most 2^40 bytes in all; the table of the round constants is as the text lays it.
-/
import Derived.Test.YtgonidjajmjniaaDoorExtS
namespace Go.Proofs.YtgonidjajmjniaaDoor
open Go.RowKit Wr Sh
set_option linter.unusedVariables false
set_option maxRecDepth 100000

def SI : List Value := SC init (List.replicate 64 0) 0
theorem part_nil : Part [] (List.replicate 64 0) 0 init := ⟨rfl, rfl, rfl, rfl⟩
theorem build34 : ∀ W : World, (Instr.build 81 #[(0, .agg #[.int .u32 1779033703, .int .u32 3144134277, .int .u32 1013904242, .int .u32 2773480762, .int .u32 1359893119, .int .u32 2600822924, .int .u32 528734635, .int .u32 1541459225])]).run Tryd.prog W = .ok (.agg SI.toArray) W := fun _ => by kernel_rfl
theorem SI_len : SI.length = 73 := rfl
theorem ZS_len : ZS.length = 73 := rfl
theorem sizeZS : ZS.toArray.size = SI.toArray.size := rfl
theorem SI_one : SI.toArray.all (·.oneCell') = true := SC_one _ _ _

set_option maxRecDepth 100000 in
set_option maxHeartbeats 4000000 in
theorem begin_any (w : World) :
    Calls Tryd.prog 54 #[] w fun e w' => e = .returned (.agg SI.toArray) ∧ Below w.heap.size w w' := by
  have z34 := zero34
  have b34 := build34
  have H34 := Lib.hid (size34' SI SI_len)
  have HZ := Lib.hid sizeZS
  go_enter Tryd.func54, Tryd.ntmps54
  go_wp2_with (first
    | (with_reducible refine wpList_store_row rfl 81 (.tmp 0) (.tmp 2) rfl w.heap.size SI.toArray rfl rfl 81 _ (heap_alloc_new w _) H34.out HZ.out SI_one ?_))
  refine bodyPost_ret (v := .agg SI.toArray) ?_ rfl ⟨rfl, belowRow ((Below.refl _ _).alloc (Nat.le_refl _) _) (Nat.le_refl _) _⟩
  have hr := run_loadVar_row (P := Tryd.prog) _ w.heap.size 81 81 SI.toArray (0, 0) (.struct #[{ name := "value", type := 77, offset := 0, embedded := false, tag := "", pkgPath := "culprit/hash", byteOffset := 0 }, { name := "rest", type := 78, offset := 8, embedded := false, tag := "", pkgPath := "culprit/hash", byteOffset := 32 }, { name := "size", type := 79, offset := 72, embedded := false, tag := "", pkgPath := "culprit/hash", byteOffset := 96 }]) (heap_setRow _ w.heap.size SI.toArray _ 81 (heap_alloc_new w (.cells ZS.toArray 81))) Tryd.underlying81 rfl H34.out
  simp [results, asAddr, hr, Act.put]

set_option maxRecDepth 100000 in
set_option maxHeartbeats 4000000 in
theorem add_go (m rest : List UInt8) (t : ByteArray) (v : S8) (n : Nat) (w : World) (hp : Part m rest (n % 64) v) (hn : n = m.length) (hsz : n + t.size ≤ 1099511627776) (ht : Tab 1 w)
    (nt : Nat) (hnt : nt = n + t.size) (m' : List UInt8) (hm' : Hid (m' = m ++ t.data.toList)) :
    Calls Tryd.prog 60 #[.agg (SC v rest n).toArray, .string t] w fun e w' => ∃ rest' v', e = .returned (.agg (SC v' rest' nt).toArray) ∧ Part m' rest' (nt % 64) v' ∧ Below w.heap.size w w' := by
  have HS := Lib.hid (SC_len v rest n hp.hl)
  have HP := Lib.hid hp
  have HN := Lib.hid hn
  have HNT := Lib.hid hnt
  have HT := Lib.hid ht
  have z34 := zero34
  have hload := Lib.hid (((Blk.new w 81 (SC v rest n)).alloc (.cells ZS.toArray 81)).at)
  have HB0 : Hid (Below w.heap.size w ((w.alloc (.cells (SC v rest n).toArray 81)).alloc (.cells ZS.toArray 81))) := Lib.hid (((Below.refl _ _).alloc (Nat.le_refl _) _).alloc (by simp) _)
  have HZ0 : Hid (Blk ((w.alloc (.cells (SC v rest n).toArray 81)).alloc (.cells ZS.toArray 81)) (w.heap.size + 1) 81 ZS) := Lib.hid (Blk.newAt _ _ 81 ZS (by simp))
  clear hp hn hnt ht
  go_enter Tryd.func60, Tryd.ntmps60
  go_wp2_with (first
    | (with_reducible refine wpList_load_at rfl 81 (.tmp 2) rfl ⟨w.heap.size, 0, none⟩ rfl (SC v rest n) (.struct #[{ name := "value", type := 77, offset := 0, embedded := false, tag := "", pkgPath := "culprit/hash", byteOffset := 0 }, { name := "rest", type := 78, offset := 8, embedded := false, tag := "", pkgPath := "culprit/hash", byteOffset := 32 }, { name := "size", type := 79, offset := 72, embedded := false, tag := "", pkgPath := "culprit/hash", byteOffset := 96 }]) hload.out Tryd.underlying81 rfl (size34 _ HS.out) ?_)
    | (go_at_call 68; refine (extS_go m rest t v n (n % 64) _ HP.out HN.out hsz (HT.out.below HB0.out HT.out.1) nt HNT.out m' hm').mono ?_; rintro e w1 ⟨rest1, v1, rfl, hp1, hb1⟩; have HP1 := Lib.hid hp1; have HB1 := Lib.hid hb1; clear hp1 hb1; have HF := Lib.hid (show w1.heap[w.heap.size + 1]? = some (.cells ZS.toArray 81 (0, 0)) from HZ0.out.below HB1.out (by simp)); have HS1 := Lib.hid (size34' _ (SC_len v1 rest1 nt HP1.out.hl)); have HU1 := Lib.hid (show ZS.toArray.size = (SC v1 rest1 nt).toArray.size by rw [List.size_toArray, List.size_toArray, SC_len v1 rest1 nt HP1.out.hl]; rfl))
    | (with_reducible refine wpList_store_row rfl 81 (.tmp 4) (.tmp 7) rfl (w.heap.size + 1) (SC v1 rest1 nt).toArray rfl rfl 81 _ HF.out HS1.out HU1.out (SC_one _ _ _) ?_))
  refine bodyPost_ret (v := .agg (SC v1 rest1 nt).toArray) ?_ rfl ⟨rest1, v1, rfl, HP1.out, belowRow (HB0.out.trans (HB1.out.mono (by simp; omega))) (by omega) _⟩
  have hr := run_loadVar_row (P := Tryd.prog) _ (w.heap.size + 1) 81 81 (SC v1 rest1 nt).toArray (0, 0) (.struct #[{ name := "value", type := 77, offset := 0, embedded := false, tag := "", pkgPath := "culprit/hash", byteOffset := 0 }, { name := "rest", type := 78, offset := 8, embedded := false, tag := "", pkgPath := "culprit/hash", byteOffset := 32 }, { name := "size", type := 79, offset := 72, embedded := false, tag := "", pkgPath := "culprit/hash", byteOffset := 96 }]) (heap_setRow _ (w.heap.size + 1) (SC v1 rest1 nt).toArray _ 81 HF.out) Tryd.underlying81 rfl HS1.out
  simp [results, asAddr, hr, Act.put]
end Go.Proofs.YtgonidjajmjniaaDoor
