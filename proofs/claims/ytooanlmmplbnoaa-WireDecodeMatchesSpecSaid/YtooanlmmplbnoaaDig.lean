/-
  The contract of wire.getDigest: it returns the first sixteen bytes.
  Condition: there are at least sixteen.
-/
import Derived.Test.YtooanlmmplbnoaaPut
import Derived.Laws.Cover3
namespace Go.Proofs.Ytooanlmmplbnoaa
open Go.RowKit Wr
set_option linter.unusedVariables false

set_option maxRecDepth 100000 in
set_option maxHeartbeats 400000 in
theorem getDigest_any (A : Option Addr) (b : List UInt8) (c : Nat) (w : World) (B : Nat) (hr : Rd w B A (B8 b)) (hB : B ≤ w.heap.size) (hc : b.length ≤ c) (h16 : 16 ≤ b.length) :
    Calls Try.prog 45 #[.slice A b.length c] w fun e w' => e = .returned (.tuple #[.agg (B8 (b.take 16)).toArray, .int .i64 16, .int .i64 0]) ∧ Below w.heap.size w w' := by
  obtain ⟨g, o, rfl, hg, hcell⟩ := hr (by intro e; have := congrArg List.length e; simp only [B8, List.length_map, List.length_nil] at this; omega)
  have ht : (b.take 16).length = 16 := by simp; omega
  have hcj : ∀ O : Obj, ∀ i u, (B8 (b.take 16))[i]? = some u → (w.alloc O).cell? ((⟨g, o, none⟩ : Addr).add i) = some u := fun O i u hu => by
    have hi : i < (b.take 16).length := by have := (List.getElem?_eq_some_iff.1 hu).1; simpa [B8] using this
    rw [Addr.add_lit, World.cell?_alloc_lt _ _ _ (by simp; omega)]
    refine hcell i u ?_
    rw [B8_get _ _ hi] at hu
    rw [B8_get _ _ (by omega), ← hu]
    simp
  have HC := Lib.hid hcj
  clear hcell hcj hr
  have hlb : b.length = b.length := rfl
  obtain ⟨N, hN⟩ : ∃ N, N = b.length := ⟨_, rfl⟩
  rw [← hN] at hc h16 ⊢
  clear hN hlb
  have Hnew := Lib.hid (fun (old : Array Value) => heap_setRow (w.alloc (.cells old 57)) w.heap.size (B8 (b.take 16)).toArray old 57 (heap_alloc_new w _))
  have Hbel := Lib.hid (fun (O : Obj) => belowRow ((Below.refl w.heap.size w).alloc (Nat.le_refl _) O) (Nat.le_refl _) (B8 (b.take 16)).toArray)
  have hat : ∀ W : World, (Instr.arrayAt 57 (.slice (some ⟨g, o, none⟩) 16 c)).run Try.prog W = .ok (.pointer (some ⟨g, o, none⟩)) W := fun W => run_arrayAt W 57 5 16 _ 16 c Try.underlying57 (by omega)
  go_enter Try.func45, Try.ntmps45
  go_wp2_with (first
        | (with_reducible refine wpList_load_at rfl 57 (.tmp 7) rfl ⟨g, o, none⟩ rfl (B8 (b.take 16)) (.array 16 5) (HC.out _) Try.underlying57 rfl (size57 _ ht) ?_)
        | (with_reducible refine wpList_store_row rfl 57 (.tmp 2) (.tmp 8) rfl w.heap.size (B8 (b.take 16)).toArray rfl rfl 57 _ (heap_alloc_new w _) (size57' _ ht) (by simp [B8_len, -List.length_take, ht]) (one57 _) ?_))
  refine bodyPost_ret (v := .tuple #[.agg (B8 (b.take 16)).toArray, .int .i64 16, .int .i64 0]) ?_ rfl ⟨rfl, Hbel.out _⟩
  have hl := run_loadVar_row (P := Try.prog) _ w.heap.size 57 57 (B8 (b.take 16)).toArray (0, 0) (.array 16 5) (Hnew.out #[.int .u8 0, .int .u8 0, .int .u8 0, .int .u8 0, .int .u8 0, .int .u8 0, .int .u8 0, .int .u8 0, .int .u8 0, .int .u8 0, .int .u8 0, .int .u8 0, .int .u8 0, .int .u8 0, .int .u8 0, .int .u8 0]) Try.underlying57 rfl (size57' _ ht)
  simp [results, Try.results45, asAddr, hl]
end Go.Proofs.Ytooanlmmplbnoaa
