/-
  The contract of hash.Begin.
  No condition.
-/
import Derived.Test.YtofccgkgjcnfbaaDoorGSchedCompStrExt
set_option linter.unusedSimpArgs false
namespace Go.Proofs.YtofccgkgjcnfbaaDoor
open Go.RowKit Wr Sh
set_option linter.unusedVariables false
set_option maxRecDepth 100000
def SI : List Value := SC init (List.replicate 64 0) 0
theorem part_nil : Part [] (List.replicate 64 0) 0 init := ⟨rfl, rfl, rfl, rfl⟩
theorem build34 : ∀ W : World, (Instr.build 151 #[(0, .agg #[.int .u32 1779033703, .int .u32 3144134277, .int .u32 1013904242, .int .u32 2773480762, .int .u32 1359893119, .int .u32 2600822924, .int .u32 528734635, .int .u32 1541459225])]).run Tryd.prog W = .ok (.agg SI.toArray) W := fun _ => by kernel_rfl
theorem SI_len : SI.length = 73 := rfl
theorem sizeZS : ZS.toArray.size = SI.toArray.size := rfl
theorem SI_one : SI.toArray.all (·.oneCell') = true := SC_one _ _ _
set_option maxRecDepth 100000 in
set_option maxHeartbeats 4000000 in
theorem begin_any (w : World) :
  Calls Tryd.prog 100 #[] w fun e w' => e = .returned (.agg SI.toArray) ∧ Below w.heap.size w w' := by
 have z34 := zero34
 have b34 := build34
 have H34 := Lib.hid (size34' SI SI_len)
 have HZ := Lib.hid sizeZS
 go_enter Tryd.func100, Tryd.ntmps100
 go_wp2_with (first
  | (with_reducible refine wpList_store_row rfl 151 (.tmp 0) (.tmp 2) rfl w.heap.size SI.toArray rfl rfl 151 _ (heap_alloc_new w _) H34.out HZ.out SI_one ?_))
 refine bodyPost_ret (v := .agg SI.toArray) ?_ rfl ⟨rfl, belowRow ((Below.refl _ _).alloc (Nat.le_refl _) _) (Nat.le_refl _) _⟩
 have hr := run_loadVar_row (P := Tryd.prog) _ w.heap.size 151 151 SI.toArray (0, 0) (.struct #[{ name := "value", type := 148, offset := 0, embedded := false, tag := "", pkgPath := "culprit/hash", byteOffset := 0 }, { name := "rest", type := 149, offset := 8, embedded := false, tag := "", pkgPath := "culprit/hash", byteOffset := 32 }, { name := "size", type := 139, offset := 72, embedded := false, tag := "", pkgPath := "culprit/hash", byteOffset := 96 }]) (heap_setRow _ w.heap.size SI.toArray _ 151 (heap_alloc_new w (.cells ZS.toArray 151))) Tryd.underlying151 rfl H34.out
 simp [results, asAddr, hr, Act.put]
end Go.Proofs.YtofccgkgjcnfbaaDoor
