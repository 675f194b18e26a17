/-
  Small facts that hash.Of's and Mac's walks share.
-/
import Derived.Test.YtofccgkgjcnfbaaDoorSum
import Derived.Outline
import Derived.Laws.IdiomStrings
import Derived.Laws.AppendOwn
namespace Go.Proofs.YtofccgkgjcnfbaaDoor
open Go.RowKit Wr Sh
set_option linter.unusedVariables false
set_option maxRecDepth 100000

theorem sha_len (m : List UInt8) : (sha m).length = 32 := by simp [sha, S8.bytes, S8.list, bytes4]

def Z64 : List UInt8 := List.replicate 64 0
theorem part_z : Part [] Z64 0 init := part_nil
theorem begin_s (w : World) : Calls Tryd.prog 100 #[] w fun e w' => e = .returned (.agg (SC init Z64 0).toArray) ∧ Below w.heap.size w w' := begin_any w

theorem size_l (a : ByteArray) : a.data.toList.length = a.size := by simp
/-- []byte(s): a new slice of s's bytes. -/
theorem wpList_bytes_of {P : Program} {w : World} {ops : Array Oper} {rest : List Oper} {o : Oper} {a : Act} {Q : Exit → Act → World → Prop} (hgd : o.guard = none) (src dst e : TypeId) (x : Operand) (ho : o.op = .convert src dst x)
    (s : ByteArray) (hx : a.eval x = .string s) (hs : P.underlying src = some .string) (hd : P.underlying dst = some (.slice e)) (he : P.underlying e = some (.int .u8))
    (h : ∀ (C : Nat) (W : World), s.size ≤ C → Rd W W.heap.size (some ⟨w.heap.size, 0, none⟩) (B8 s.data.toList) → Below w.heap.size w W → wpList P ops Q rest (a.put o.dst (.slice (some ⟨w.heap.size, 0, none⟩) s.size C)) W) :
    wpList P ops Q (o :: rest) a w := by
  refine wpList_plain hgd fun K hK => ?_
  have hrun := run_bytes_of_string (P := P) w src dst e s hs hd he
  have h2 := h (grownCap w s.size 0 e) _ (grownCap_ge w s.size 0 e) (fun _ => ⟨w.heap.size, 0, rfl, by simp, fun j u hu => by
    rw [Nat.zero_add]
    refine (cell_of_row _ w.heap.size j _ _ _ (heap_alloc_new w.drew _)).trans ?_
    have hj := (List.getElem?_eq_some_iff.1 hu).1
    rw [B8_len] at hj
    rw [B8_get _ _ hj] at hu
    rw [bytesRow_at s _ j (by simpa using hj), ← hu]
    rfl⟩) ((Below.refl w.heap.size w).drew.alloc (Nat.le_refl _) (.cells (bytesRow s (grownCap w s.size 0 e)) e ((bytesRow s (grownCap w s.size 0 e)).size, (bytesRow s (grownCap w s.size 0 e)).size + 1)))
  unfold Oper.wp execOp
  simp only [ho, hx, Sem.run_bind, hrun, Result.andThen_ok, Sem.run_pure]
  exact hK _ _ h2
end Go.Proofs.YtofccgkgjcnfbaaDoor
