/-
  The contracts of merkle's divided and rootOf.
  Conditions: the function that they are handed does as Told says; the table of the round constants is as the text lays it.
-/
import Derived.Test.YtofccgkgjcnfbaaDoorRow
import Derived.Laws.EntriesVeiled
namespace Go.Proofs.YtofccgkgjcnfbaaDoor
open Go.RowKit Wr Sh
set_option linter.unusedVariables false
set_option maxRecDepth 100000

section
variable {σ : Type} {K : Nat} {caps : Array Value} {G : σ → Nat → Nat → (List UInt8 × Bool) × σ} {N B : Nat} {Inv : σ → (Nat → Prop) → World → Prop} {P : σ → Nat → Prop} {s : σ} {O0 : Nat → Prop} {w W : World} {bl br : Option Nat}
set_option maxHeartbeats 1000000 in
theorem divided_any (T : Told K caps G N B Inv P) (hN : N ≤ 1073741824) (a b : Nat) (s : σ) (O : Nat → Prop) (w : World) (hab : a < b) (hbN : b ≤ N) (hi : Inv s O w) (hp : P s a) :
    Calls Tryd.prog 77 #[.int .i64 (a : Int), .int .i64 (b : Int), .func (.func K) #[] caps] w (RowPost Inv (rowG node G s a b).1 (rowG node G s a b).2 O w) := by
  have hZ := hZ16
  obtain ⟨W4, hW4⟩ : ∃ W, W = ((w.alloc (.cells #[.func (.func K) #[] caps] 100)).alloc (.cells Z16.toArray 29)).alloc (.cells #[.func (.func 103) #[] #[.pointer (some ⟨w.heap.size, 0, none⟩), .pointer (some ⟨w.heap.size + 1 + 1, 0, none⟩)]] 155) := ⟨_, rfl⟩
  have N0 : Now Inv s O O w w := ⟨hi, Fr.refl _ _⟩
  have hol := (T.lt _ _ _ hi).2
  have HB := Lib.hid (T.lt _ _ _ hi).1
  have N4 := Lib.hid (show Now Inv s O O w W4 by rw [hW4]; exact ((N0.alloc T _).alloc T _).alloc T _)
  have hb : Blk W4 w.heap.size 100 [.func (.func K) #[] caps] := by rw [hW4]; exact ((Blk.new w 100 [.func (.func K) #[] caps]).alloc _).alloc _
  have hx : Blk W4 (w.heap.size + 1) 29 Z16 := by rw [hW4]; exact (Blk.newAt _ _ 29 Z16 (by simp)).alloc _
  have hr : Blk W4 (w.heap.size + 1 + 1) 155 [.func (.func 103) #[] #[.pointer (some ⟨w.heap.size, 0, none⟩), .pointer (some ⟨w.heap.size + 1 + 1, 0, none⟩)]] := by rw [hW4]; exact Blk.newAt _ _ 155 [.func (.func 103) #[] #[.pointer (some ⟨w.heap.size, 0, none⟩), .pointer (some ⟨w.heap.size + 1 + 1, 0, none⟩)]] (by simp)
  have X4 := Lib.hid (show Box O W4 (w.heap.size + 1) Z16 from ⟨hx, fun h => by have := hol _ h; omega⟩)
  have HC := Lib.hid (row_any T hN _ a b s O W4 w.heap.size (w.heap.size + 1 + 1) (Nat.le_refl _) hab hbN N4.out.inv hp (by rw [hb.cell 0]; rfl) (by rw [hr.cell 0]; rfl) (fun h => by have := hol _ h; omega) (fun h => by have := hol _ h; omega))
  obtain ⟨R, hR⟩ : ∃ R, R = (rowG node G s a b).1 := ⟨_, rfl⟩
  have HRl := Lib.hid (show R.length = 16 by rw [hR]; exact row_len T _ _ _)
  rw [← hR] at HC ⊢
  have HW := Lib.hid hW4
  clear hp hb hx hr hR hol hi N0 hW4
  go_enter Tryd.func77, Tryd.ntmps77
  go_wp2_with fail
  rw [← HW.out]
  refine HC.out.mono ?_; rintro e w5 ⟨rfl, O5, hi5, hf5⟩
  have N5 := Lib.hid (N4.out.step hi5 hf5)
  have X5 := Lib.hid (X4.out.step hf5)
  have Z5 := Lib.hid (show w5.heap[w.heap.size + 1]? = some (.cells Z16.toArray 29 (0, 0)) from X5.out.blk)
  clear hi5 hf5
  go_wp2_with (with_reducible refine wpList_store_row rfl 29 (.tmp 6) (.tmp 12) rfl (w.heap.size + 1) (B8 R).toArray rfl rfl 29 _ Z5.out (size29' _ HRl.out) (Z16_size _ HRl.out) (one8 _) ?_)
  refine bodyPost_ret (v := .agg (B8 R).toArray) ?_ rfl ⟨rfl, O5, ?_⟩
  · have hr := run_loadVar_row (P := Tryd.prog) _ (w.heap.size + 1) 29 29 (B8 R).toArray (0, 0) (.array 16 5) (heap_setRow w5 (w.heap.size + 1) (B8 R).toArray _ 29 Z5.out) Tryd.underlying29 rfl (size29' _ HRl.out)
    simp [results, Tryd.results77, asAddr, hr, Act.put]
  · have := N5.out.row T (g := w.heap.size + 1) (Nat.le_succ _) (Nat.le_trans HB.out (Nat.le_succ _)) X5.out.out (B8 R).toArray
    exact ⟨this.inv, this.fr⟩
end
end Go.Proofs.YtofccgkgjcnfbaaDoor
