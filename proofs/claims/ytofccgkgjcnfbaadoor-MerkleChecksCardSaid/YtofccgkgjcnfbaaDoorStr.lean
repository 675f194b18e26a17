/-
  Plain mathematics of streams: what a stream's cells say of its message; laws of copying and storing parts of a row.
  No condition.
-/
import Derived.Test.YtofccgkgjcnfbaaDoorComp
import Derived.Laws.CopyOwn
namespace Go.Proofs.YtofccgkgjcnfbaaDoor
open Go.RowKit Wr Sh
set_option linter.unusedVariables false
namespace Sh
theorem blocks_app (m t : List UInt8) : ∀ q, 64 * q ≤ m.length → blocks (m ++ t) q = blocks m q := by
  intro q
  induction q with
  | zero => intro _; rfl
  | succ q ih =>
    intro h
    show compress (blocks (m ++ t) q) (((m ++ t).drop (64 * q)).take 64) = compress (blocks m q) ((m.drop (64 * q)).take 64)
    rw [ih (by omega), List.drop_append_of_le_length (by omega), List.take_append_of_le_length (by simp; omega)]
/-- A stream with this message: the hash value of its full blocks, and what follows them. -/
structure Part (m rest : List UInt8) (h : Nat) (v : S8) : Prop where
  hv : v = blocks m (m.length / 64)
  hh : h = m.length % 64
  hl : rest.length = 64
  hr : rest.take h = m.drop (64 * (m.length / 64))
theorem Part.lt {m rest : List UInt8} {h : Nat} {v : S8} (p : Part m rest h v) : h < 64 := by rw [p.hh]; omega
theorem Part.some {m rest : List UInt8} {h : Nat} {v : S8} (p : Part m rest h v) (t : List UInt8) (ht : h + t.length < 64) : Part (m ++ t) (splice rest h t) (h + t.length) v := by
  obtain ⟨hv, hh, hl, hr⟩ := p
  have hq : (m ++ t).length / 64 = m.length / 64 := by rw [List.length_append]; omega
  refine ⟨?_, ?_, ?_, ?_⟩
  · rw [hq, blocks_app m t _ (by omega)]; exact hv
  · rw [List.length_append]; omega
  · rw [length_splice _ _ _ (by omega)]; exact hl
  · rw [hq, List.drop_append_of_le_length (by omega), ← hr, splice, ← List.append_assoc, List.take_append_of_le_length (by simp; omega)]
    rw [List.take_of_length_le (by simp; omega)]
theorem Part.full {m rest : List UInt8} {h : Nat} {v : S8} (p : Part m rest h v) (t : List UInt8) (ht : h + t.length = 64) : Part (m ++ t) (splice rest h t) 0 (compress v (splice rest h t)) := by
  obtain ⟨hv, hh, hl, hr⟩ := p
  have hq : (m ++ t).length / 64 = m.length / 64 + 1 := by rw [List.length_append]; omega
  have hs : splice rest h t = m.drop (64 * (m.length / 64)) ++ t := by
    rw [splice, hr, List.drop_eq_nil_of_le (show rest.length ≤ h + t.length by omega), List.append_nil]
  refine ⟨?_, ?_, ?_, ?_⟩
  · rw [hq]
    show compress v _ = compress (blocks (m ++ t) (m.length / 64)) (((m ++ t).drop (64 * (m.length / 64))).take 64)
    rw [blocks_app m t _ (by omega), ← hv, List.drop_append_of_le_length (by omega), ← hs, List.take_of_length_le (by rw [length_splice _ _ _ (by omega)]; omega)]
  · rw [List.length_append]; omega
  · rw [length_splice _ _ _ (by omega)]; exact hl
  · rw [hq, List.take_zero, List.drop_eq_nil_of_le (by rw [List.length_append]; omega)]
end Sh

/-- The cells of a stream. -/
def SC (v : S8) (rest : List UInt8) (n : Nat) : List Value := U32 v.list ++ (B8 rest ++ [.int .u64 (n : Int)])
theorem list8 (v : S8) : (U32 v.list).length = 8 := rfl
theorem SC_len (v : S8) (rest : List UInt8) (n : Nat) (h : rest.length = 64) : (SC v rest n).length = 73 := by
  simp [SC, list8, B8_len, h]
theorem SC_72 (v : S8) (rest : List UInt8) (n : Nat) (h : rest.length = 64) : (SC v rest n)[72]? = some (.int .u64 (n : Int)) := by
  unfold SC
  rw [List.getElem?_append_right (by rw [list8]; omega), list8, List.getElem?_append_right (by rw [B8_len]; omega), B8_len, h]
  rfl
theorem SC_set72 (v : S8) (rest : List UInt8) (n n' : Nat) (h : rest.length = 64) : (SC v rest n).set 72 (.int .u64 (n' : Int)) = SC v rest n' := by
  unfold SC
  rw [List.set_append_right _ _ (by rw [list8]; omega), list8, List.set_append_right _ _ (by rw [B8_len]; omega), B8_len, h]
  rfl
theorem SC_words (v : S8) (rest : List UInt8) (n : Nat) : ∀ (j : Nat) u, (U32 v.list)[j]? = some u → (SC v rest n)[j]? = some u := by
  intro j u hu
  have := (List.getElem?_eq_some_iff.1 hu).1
  unfold SC
  rw [List.getElem?_append_left this]; exact hu
theorem SC_rest (v : S8) (rest : List UInt8) (n : Nat) : ∀ (j : Nat) u, (B8 rest)[j]? = some u → (SC v rest n)[8 + j]? = some u := by
  intro j u hu
  have := (List.getElem?_eq_some_iff.1 hu).1
  unfold SC
  rw [List.getElem?_append_right (by rw [list8]; omega), list8, Nat.add_sub_cancel_left, List.getElem?_append_left this]; exact hu
theorem SC_splice (v : S8) (rest t : List UInt8) (n h : Nat) (hl : rest.length = 64) (ht : h + t.length ≤ 64) : splice (SC v rest n) (8 + h) (B8 t) = SC v (splice rest h t) n := by
  unfold SC splice
  have e : 8 + h + (B8 t).length - 8 = h + t.length := by rw [B8_len]; omega
  rw [List.take_append, list8, List.take_of_length_le (by rw [list8]; omega), Nat.add_sub_cancel_left, List.take_append_of_le_length (by rw [B8_len]; omega),
    List.drop_append, list8, List.drop_eq_nil_of_le (by rw [list8]; omega), e, List.drop_append_of_le_length (by rw [B8_len]; omega)]
  simp [B8, List.map_take, List.map_drop]
theorem SC_value (v v' : S8) (rest : List UInt8) (n : Nat) : splice (SC v rest n) 0 (U32 v'.list) = SC v' rest n := by
  unfold SC splice
  rw [List.take_zero, List.nil_append, Nat.zero_add, list8, List.drop_append_of_le_length (by rw [list8]; omega), List.drop_eq_nil_of_le (by rw [list8]; omega), List.nil_append]
theorem SC_one (v : S8) (rest : List UInt8) (n : Nat) : (SC v rest n).toArray.all (·.oneCell') = true := by
  rw [Array.all_eq_true_iff_forall_mem]; intro u hu
  have hu2 : u ∈ SC v rest n := by simpa using hu
  unfold SC at hu2
  rcases List.mem_append.1 hu2 with h | h
  · obtain ⟨_, _, rfl⟩ := List.mem_map.1 h; rfl
  · rcases List.mem_append.1 h with h | h
    · exact B8_one _ _ h
    · obtain rfl := List.mem_singleton.1 h; rfl
theorem U32_each (l : List W) : ∀ u ∈ U32 l, u.oneCell' = true := by
  intro u hu; obtain ⟨_, _, rfl⟩ := List.mem_map.1 hu; rfl

/-- These cells are a stream with this message. -/
def IsS (m : List UInt8) (cs : List Value) : Prop := ∃ rest v, Part m rest (m.length % 64) v ∧ cs = SC v rest m.length

section
variable {P : Program}
theorem run_copy_str (w : World) (dT sT ty elem : TypeId) (g o dLen dCap : Nat) (s : ByteArray) (n : Nat) (cur : List Value) (t : TypeId)
    (hu : P.underlying dT = some (.slice elem)) (hs : (P.info? elem).map (·.size) = some 1)
    (hg : w.heap[g]? = some (.cells cur.toArray t (0, 0))) (hn : n = Nat.min s.size dLen) (hfit : o + n ≤ cur.length) :
    (Builtin.copy_ #[dT, sT] ty #[.slice (some ⟨g, o, none⟩) dLen dCap, .string s]).run P w = .ok (goInt n) (w.setRow g (splice cur o (B8 (s.data.toList.take n))).toArray) := by
  have hle : n ≤ s.size := by rw [hn]; exact Nat.min_le_left _ _
  have hlen : (B8 (s.data.toList.take n)).length = n := by rw [B8_len]; simp; omega
  have hst := run_storeCells_at P g o t (B8 (s.data.toList.take n)) 0 cur.toArray w hg (by simp [hlen]; exact hfit) (B8_one _)
  have hce : ((s.extract 0 n).data.map fun b => Value.int .u8 (b.toNat : Int)).toList = B8 (s.data.toList.take n) := by
    simp [B8]
  cases hq : P.info? elem with
  | none => simp [hq] at hs
  | some i =>
    have hi : i.size = 1 := by simpa [hq] using hs
    simp only [Builtin.copy_, List.getElem?_toArray, List.getElem?_cons_zero, List.getElem?_cons_succ, Sem.run_bind, run_underlying hu, Result.andThen_ok, Builtin.lenOf, Builtin.firstCells, sizeOf, typeInfo, Sem.run_pure, ← hn, hce]
    simp [splice, hlen, hq, hst]
theorem wpList_copy_str {w : World} {ops : Array Oper} {rest : List Oper} {o : Oper} {a : Act} {Q : Exit → Act → World → Prop} (hgd : o.guard = none) (d s : Operand) (dT sT : TypeId)
    (ho : o.op = .call { callee := .builtin .copy, args := #[d, s], argTypes := #[dT, sT] }) (elem : TypeId) (hu : P.underlying dT = some (.slice elem)) (hsz : (P.info? elem).map (·.size) = some 1)
    (g off dLen dCap : Nat) (str : ByteArray) (n : Nat) (hd : a.eval d = .slice (some ⟨g, off, none⟩) dLen dCap) (hs : a.eval s = .string str)
    (cur : List Value) (t : TypeId) (hg : w.heap[g]? = some (.cells cur.toArray t (0, 0))) (hn : n = Nat.min str.size dLen) (hfit : off + n ≤ cur.length)
    (h : wpList P ops Q rest (a.put o.dst (goInt n)) (w.setRow g (splice cur off (B8 (str.data.toList.take n))).toArray)) : wpList P ops Q (o :: rest) a w := by
  refine wpList_plain hgd fun K hK => ?_
  have hrun := run_copy_str (P := P) w dT sT o.type elem g off dLen dCap str n cur t hu hsz hg hn hfit
  unfold Oper.wp
  simp [execOp, ho, resolve, invoke, builtin, hd, hs, hrun, Result.andThen]
  exact hK _ _ h
theorem wpList_copy_at {w : World} {ops : Array Oper} {rest : List Oper} {o : Oper} {a : Act} {Q : Exit → Act → World → Prop} (hgd : o.guard = none) (d s : Operand) (dT sT : TypeId)
    (ho : o.op = .call { callee := .builtin .copy, args := #[d, s], argTypes := #[dT, sT] }) (elem : TypeId) (hu : P.underlying dT = some (.slice elem)) (hsz : (P.info? elem).map (·.size) = some 1)
    (g off dLen dCap : Nat) (ad : Addr) (sLen sCap : Nat) (hd : a.eval d = .slice (some ⟨g, off, none⟩) dLen dCap) (hs : a.eval s = .slice (some ad) sLen sCap)
    (cur : List Value) (t : TypeId) (hg : w.heap[g]? = some (.cells cur.toArray t (0, 0))) (cs : List Value) (n : Nat) (hl : cs.length = n) (hn : n = Nat.min sLen dLen)
    (hsrc : ∀ j v, cs[j]? = some v → w.cell? (ad.add j) = some v) (hfit : off + n ≤ cur.length) (h1 : ∀ v ∈ cs, v.oneCell' = true)
    (h : wpList P ops Q rest (a.put o.dst (goInt n)) (w.setRow g (splice cur off cs).toArray)) : wpList P ops Q (o :: rest) a w := by
  subst hl
  exact wpList_copy_own hgd d s dT sT ho elem hu hsz g off dLen dCap ad sLen sCap hd hs cur.toArray t hg cs hn hsrc (by simpa using hfit) h1 h
/-- A whole array stored into a part of a row. -/
theorem wpList_store_at {w : World} {ops : Array Oper} {rest : List Oper} {o : Oper} {a : Act} {Q : Exit → Act → World → Prop} (hgd : o.guard = none) (ty : TypeId) (x y : Operand) (ho : o.op = .store ty x y)
    (g off : Nat) (cs : List Value) (hx : a.eval x = .pointer (some ⟨g, off, none⟩)) (hy : a.eval y = .agg cs.toArray)
    (t : TypeId) (cur : List Value) (hg : w.heap[g]? = some (.cells cur.toArray t (0, 0))) (hi : (P.info? ty).map (·.size) = some cs.length)
    (hfit : off + cs.length ≤ cur.length) (h1 : ∀ u ∈ cs, u.oneCell' = true)
    (h : wpList P ops Q rest (a.put o.dst undef) (w.setRow g (splice cur off cs).toArray)) : wpList P ops Q (o :: rest) a w := by
  refine wpList_plain hgd fun K hK => ?_
  have hst := run_storeCells_at P g off t cs 0 cur.toArray w hg (by simpa using hfit) h1
  have hrun : (storeVar ty ⟨g, off, none⟩ (.agg cs.toArray)).run P w = .ok () (w.setRow g (splice cur off cs).toArray) := by
    cases hq : P.info? ty with
    | none => simp [hq] at hi
    | some i =>
      have hs : i.size = cs.length := by simpa [hq] using hi
      simp [storeVar, sizeOf, typeInfo, hq, Value.cells, hs, hst, splice]
  unfold Oper.wp execOp
  simp only [ho, hx, hy, Instr.storeAt, Instr.sureAddr, Sem.run_bind, Sem.run_pure, Result.andThen_ok, hrun]
  exact hK _ _ h
end
end Go.Proofs.YtofccgkgjcnfbaaDoor
