/-
  An append of bytes that can be read to an own slice; []byte(s) of a string that came in.
  No condition but the lengths.
-/
import Derived.Test.YtbfhilbagojdnaaGreatWForm
import Derived.Laws.IdiomStrings
import Derived.Laws.AppendOwn
import Derived.Laws.AppendOwnNone
import Derived.Lib.AppendZeros
import Derived.OwnWalk
import Derived.Outline
namespace Go.Proofs.YtbfhilbagojdnaaGreat.W1
open Go.RowKit Go.Proofs.YtbfhilbagojdnaaGreat.Wr Go.Proofs.YtbfhilbagojdnaaGreat.W1.Wr
set_option linter.unusedVariables false
set_option maxRecDepth 100000

/-- An append of a slice of bytes that can be read, nil or not, to a slice of the call's own. -/
theorem wpList_append_rd {w : World} {ops : Array Oper} {rest : List Oper} {o : Oper} {a : Act} {Q : Exit → Act → World → Prop} (hgd : o.guard = none) (s x : Operand)
    (ho : o.op = .call { callee := .builtin .append, args := #[s, x], argTypes := #[38, 38] })
    (base : Nat) (v : Value) (n : Nat) (xs : List Value) (hs : a.eval s = v) (hown : w.ownsRow base 5 1 v n xs)
    (A : Option Addr) (m c B : Nat) (news : List UInt8) (hx : a.eval x = .slice A m c) (hnil : A = none → c = 0) (hl : news.length = m) (hr : Rd w B A (B8 news))
    (hbytes : n + m ≤ 140737488355328) (hbase : base ≤ w.heap.size)
    (h : ∀ v' w', w'.ownsRow base 5 1 v' (n + m) (xs ++ B8 news) → w.grownBy w' v.ownBlock → wpList Tryz.prog ops Q rest (a.put o.dst v') w') : wpList Tryz.prog ops Q (o :: rest) a w := by
  obtain ⟨i0, hi0, hz0, hz1, hz2⟩ := info_parts Tryz.info5
  by_cases hne : B8 news = []
  · have hm : m = 0 := by rw [← hl, ← B8_len, hne]; rfl
    clear hl; subst hm
    cases A with
    | none =>
      have hc := hnil rfl
      subst hc
      refine Lib.wpList_append_run w hgd s x 38 38 ho v _ hs hx v w (run_append_owned_none w base 38 _ 5 i0 1 Tryz.underlying38 hi0 v n xs hown) (h v w ?_ (World.grownBy.refl _ _))
      rw [hne, List.append_nil, Nat.add_zero]; exact hown
    | some ad =>
      exact wpList_append_own w hgd s x 38 ho base 5 i0 (.int .u8 0) 1 1 Tryz.underlying38 hi0 hz0 hz1 hz2 rfl (by decide) v n xs hs hown ad 0 c (B8 news) hx (by rw [hne]; rfl) (fun j u hu => by rw [hne] at hu; simp at hu) (B8_one _) (by unfold maxLen; omega) (by omega) hbase (fun v' w' h1 h2 _ => h v' w' h1 h2)
  · obtain ⟨g, off, rfl, hg, hcell⟩ := hr hne
    exact wpList_append_own w hgd s x 38 ho base 5 i0 (.int .u8 0) 1 1 Tryz.underlying38 hi0 hz0 hz1 hz2 rfl (by decide) v n xs hs hown ⟨g, off, none⟩ m c (B8 news) hx (by rw [B8_len, hl, Nat.mul_one]) (fun j u hu => by rw [Addr.add_lit]; exact hcell j u hu) (B8_one _) (by unfold maxLen; omega) (by omega) hbase (fun v' w' h1 h2 _ => h v' w' h1 h2)

/-- An append of one byte, written as a literal. -/
theorem rd_lit (w : World) (x : UInt8) : Rd (w.alloc (.cells #[.int .u8 (x.toNat : Int)] 5)) (w.heap.size + 1) (some ⟨w.heap.size, 0, none⟩) (B8 [x]) := by
  intro _
  refine ⟨w.heap.size, 0, rfl, by simp, fun j u hu => ?_⟩
  rw [Nat.zero_add, cell_of_row _ _ _ _ _ _ (heap_alloc_new w _)]
  simpa [B8] using hu
end Go.Proofs.YtbfhilbagojdnaaGreat.W1
