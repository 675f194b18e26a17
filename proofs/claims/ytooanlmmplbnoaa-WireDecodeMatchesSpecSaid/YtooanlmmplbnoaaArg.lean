/-
  The arguments of the laws as lists; appending a tail to a slice that is cut at its length.
  No condition but that the arguments can be read.
-/
import Derived.Test.YtooanlmmplbnoaaForm
import Derived.OpenShut
import Derived.ArgAppend
namespace Go.Proofs.Ytooanlmmplbnoaa
open Go.RowKit Wr
set_option linter.unusedVariables false

/-- What is told of a slice of integers that came in. -/
def InRow (k : IntKind) (w : World) (a : Option Addr) (len cap : Nat) (zs : List Int) : Prop :=
  (a = none ∧ len = 0 ∧ cap = 0 ∧ zs = []) ∨
  ∃ x, a = some x ∧ len ≤ cap ∧ cap ≤ maxLen ∧ zs.length = cap ∧ (∀ i, i < zs.length → w.cell? (x.add i) = some (.int k (zs.getD i 0))) ∧ ∀ n ∈ zs, (Lit.int k n).wf = true

theorem in_rd {k : IntKind} {w : World} {a : Option Addr} {len cap : Nat} {zs : List Int} (h : InRow k w a len cap zs) :
    (zs.take len).length = len ∧ len ≤ cap ∧ (a = none → cap = 0) ∧ Rd w w.heap.size a ((zs.take len).map (Value.int k)) ∧ ∀ n ∈ zs.take len, (Lit.int k n).wf = true := by
  rcases h with ⟨rfl, rfl, rfl, rfl⟩ | ⟨x, rfl, hl, hm, hz, hc, hw⟩
  · exact ⟨rfl, Nat.le_refl _, fun _ => rfl, fun h => absurd rfl h, by simp⟩
  · refine ⟨by simp; omega, hl, (fun e => by cases e), fun hn => ?_, fun n hn => hw n (List.mem_of_mem_take hn)⟩
    have hl0 : 0 < zs.length := by
      rcases zs with _ | ⟨z, zs⟩
      · simp at hn
      · simp
    obtain ⟨g, o, spot⟩ := x
    have h0 := hc 0 hl0
    have hs : spot = none := by
      have := World.cell?_spot h0
      simpa [Addr.add] using this
    subst hs
    refine ⟨g, o, rfl, ?_, fun j u hu => ?_⟩
    · have := World.block_lt_of_cell? w _ h0
      simpa [Addr.add] using this
    · rw [List.getElem?_map] at hu
      obtain ⟨n, hn1, rfl⟩ := Option.map_eq_some_iff.1 hu
      have hj := (List.getElem?_eq_some_iff.1 hn1).1
      have hj2 : j < zs.length := by simp at hj; omega
      have := hc j hj2
      rw [Addr.add_lit] at this
      rw [this]
      rw [List.getElem?_take] at hn1
      split at hn1
      · simp [hn1]
      · cases hn1
theorem in_bytes {w : World} {a : Option Addr} {len cap : Nat} {zs : List Int} (h : InRow .u8 w a len cap zs) :
    ∃ b : List UInt8, b.length = len ∧ len ≤ cap ∧ (a = none → cap = 0) ∧ Rd w w.heap.size a (B8 b) := by
  obtain ⟨h1, h2, h3, h4, h5⟩ := in_rd h
  refine ⟨(zs.take len).map (fun n => UInt8.ofNat n.toNat), by rw [List.length_map]; exact h1, h2, h3, ?_⟩
  have he : B8 ((zs.take len).map (fun n => UInt8.ofNat n.toNat)) = (zs.take len).map (Value.int .u8) := by
    unfold B8
    rw [List.map_map]
    apply List.map_congr_left
    intro n hn
    have := bounds_u8 (h5 n hn)
    simp only [Function.comp]
    congr 1
    rw [UInt8.toNat_ofNat']
    omega
  rw [he]
  exact h4
theorem in_ints {w : World} {a : Option Addr} {len cap : Nat} {zs : List Int} (h : InRow .i64 w a len cap zs) :
    ∃ l : List Int, l.length = len ∧ len ≤ cap ∧ (a = none → cap = 0) ∧ Rd w w.heap.size a (I64 l) ∧ ∀ x ∈ l, okInt x := by
  obtain ⟨h1, h2, h3, h4, h5⟩ := in_rd h
  exact ⟨zs.take len, h1, h2, h3, h4, fun x hx => bounds_i64 (h5 x hx)⟩

section
variable {P : Program}
/-- Nothing is appended. -/
theorem run_append_empty (w : World) (t ty e : TypeId) (i : TypeInfo) (ht : P.underlying t = some (.slice e)) (hi : P.info? e = some i) (a x : Option Addr) (n c c' : Nat) (hn : n ≤ c) (ha : a = none → n = 0 ∧ c = 0) :
    (Builtin.append_ #[t, t] ty #[.slice a n c, .slice x 0 c']).run P w = .ok (.slice a n c) w := by
  cases a with
  | none =>
    obtain ⟨rfl, rfl⟩ := ha rfl
    cases x <;> simp [Builtin.append_, run_underlying ht, sizeOf, typeInfo, hi, Builtin.lenOf, Builtin.firstCells, loadCells, loadCellsFrom]
  | some a =>
    cases x <;> simp [Builtin.append_, run_underlying ht, sizeOf, typeInfo, hi, Builtin.lenOf, Builtin.firstCells, loadCells, loadCellsFrom, storeCells, hn]
/-- Appending to a slice without room: a new row with both. -/
theorem wpList_append_full (w : World) {ops : Array Oper} {rest : List Oper} {o : Oper} {a : Act} {Q : Exit → Act → World → Prop}
    (hg : o.guard = none) (s x : Operand) (t : TypeId) (hop : o.op = Op.call { callee := Callee.builtin Builtin.append, args := #[s, x], argTypes := #[t, t] })
    (e : TypeId) (i : TypeInfo) (z : Value) (bytes : Nat) (h1 : P.underlying t = some (.slice e)) (h2 : P.info? e = some i) (h3 : i.zero = some z) (h4 : i.size = 1) (h5 : i.bytes = bytes) (h6 : z.cells.size = 1)
    (A X : Option Addr) (n m c : Nat) (olds news : List Value) (hs : a.eval s = .slice A n n) (hx : a.eval x = .slice X m c) (hA : A = none → n = 0) (hlo : olds.length = n) (hln : news.length = m)
    (ho : Rd w w.heap.size A olds) (hn : Rd w w.heap.size X news) (h1c : ∀ u ∈ news, u.oneCell' = true) (b1 : n + m ≤ maxLen) (b2 : (n + m) * bytes ≤ 140737488355328)
    (hK : ∀ (A' : Option Addr) (c' : Nat) w', n + m ≤ c' → (A' = none → c' = 0) → Rd w' w'.heap.size A' (olds ++ news) → Below w.heap.size w w' → wpList P ops Q rest (a.put o.dst (.slice A' (n + m) c')) w') :
    wpList P ops Q (o :: rest) a w := by
  rcases Nat.eq_zero_or_pos m with hm | hm
  · subst hm
    have hnews : news = [] := List.eq_nil_of_length_eq_zero hln
    subst hnews
    refine wpList_plain hg fun K hK' => ?_
    have hrun := run_append_empty (P := P) w t o.type e i h1 h2 A X n n c (Nat.le_refl _) (fun h => ⟨hA h, hA h⟩)
    unfold Oper.wp
    simp [execOp, hop, resolve, invoke, builtin, hs, hx, hrun, Result.andThen]
    exact hK' _ _ (hK A n w (Nat.le_refl _) hA (by simpa using ho) (Below.refl _ _))
  · obtain ⟨g, off, rfl, hgb, hcell⟩ := hn (by rintro rfl; simp at hln; omega)
    refine wpList_append_grows w hg s x t hop e i z 1 bytes h1 h2 h3 h4 h5 h6 (by omega) A n n olds hs (fun h => ⟨hA h, hA h⟩) (by omega) (fun b hb j u hu => ?_) ⟨g, off, none⟩ m c news hx (by omega) (fun j u hu => ?_) h1c (by omega) b1 b2 ?_
    · obtain ⟨g2, o2, hb2, _, hc2⟩ := ho (by rintro rfl; simp at hu)
      rw [hb2] at hb
      obtain rfl := Option.some.inj hb
      rw [Addr.add_lit]
      exact hc2 j u hu
    · rw [Addr.add_lit]; exact hcell j u hu
    · intro v' w' hown hgrow
      obtain ⟨A', c', rfl, q1, q2, q3⟩ := own_form hown
      exact hK A' c' w' q1 q2 q3 ((Below.refl _ _).grown hgrow (Nat.le_refl _) (fun k hk => by cases hk))
end
end Go.Proofs.Ytooanlmmplbnoaa
