/-
  Two digests compared; a digest loaded.
-/
import Derived.Test.YtofccgkgjcnfbaaDoorProve
import Derived.Test.YtofccgkgjcnfbaaDoorGAuxPureIntPure2
import Derived.ChangeKeysEq
import Derived.Laws.StructEq
import Derived.Laws.IdiomStrings
import Derived.Outline
set_option linter.unusedSimpArgs false
namespace Go.Proofs.YtofccgkgjcnfbaaDoor
open Go.RowKit Wr Sh
set_option linter.unusedVariables false
set_option maxRecDepth 100000
theorem part5 (d : List UInt8) (i : Nat) (hi : i < d.length) (w : World) : (part 5 (B8 d).toArray (i * Tryd.prog.cellsOf 5)).run Tryd.prog w = .ok (.int .u8 (d[i].toNat : Int)) w := by
 have hc : Tryd.prog.cellsOf 5 = 1 := by kernel_rfl
 have ha : (isAgg 5).run Tryd.prog w = .ok false w := by kernel_rfl
 rw [hc, Nat.mul_one]
 simp [part, ha, B8, hi]
theorem eq5' (D : Nat) (n m : Int) (w : World) : (Op.equalIn (D + 1) 5 (.int .u8 n) (.int .u8 m)).run Tryd.prog w = .ok (n == m) w := by
 simp [Op.equalIn, run_underlying Tryd.underlying5]
theorem items_all (D : Nat) (d e : List UInt8) (w : World) (hl : d.length = e.length) : ∀ is : List Nat, (∀ i ∈ is, i < d.length) → (Op.eqItems (D + 1) 5 (Tryd.prog.cellsOf 5) (B8 d).toArray (B8 e).toArray is).run Tryd.prog w = .ok (is.all fun i => d[i]? == e[i]?) w := by
 intro is
 induction is with
 | nil => intro _; simp [Op.eqItems]
 | cons i is ih =>
  intro h
  have hi := h i (by simp)
  have hi' : i < e.length := by omega
  simp only [Op.eqItems, Sem.run_bind, part5 d i hi w, part5 e i hi' w, Result.andThen_ok]
  rw [eq5']
  have hc : ((d[i].toNat : Int) == (e[i].toNat : Int)) = (d[i]? == e[i]?) := by
   rw [List.getElem?_eq_getElem hi, List.getElem?_eq_getElem hi', Bool.eq_iff_iff]
   simp only [beq_iff_eq, Option.some.injEq]
   constructor
   ·
    intro h1; exact UInt8.toNat_inj.1 (by omega)
   ·
    intro h1; rw [h1]
  rw [hc, List.all_cons]
  cases hq : (d[i]? == e[i]?) with
  | false => simp
  | true => simpa using ih (fun j hj => h j (by simp [hj]))
theorem eql29 (d e : List UInt8) (hd : d.length = 16) (he : e.length = 16) (w : World) : (binOp .eql 29 (.agg (B8 d).toArray) (.agg (B8 e).toArray)).run Tryd.prog w = .ok (.bool (d == e)) w := by
 obtain ⟨i0, hi0, _⟩ := info_parts Tryd.info5
 rw [run_eql_struct, show (10000 : Nat) = 9999 + 1 from rfl, run_equalIn_array w 9999 _ _ Tryd.underlying29 hi0, show (9999 : Nat) = 9998 + 1 from rfl, items_all 9998 d e w (by omega) _ (by intro i hi; rw [hd]; exact List.mem_range.1 hi)]
 have : ((List.range 16).all fun i => d[i]? == e[i]?) = (d == e) := by
  rw [Bool.eq_iff_iff, List.all_eq_true, beq_iff_eq]
  constructor
  ·
   intro h
   apply List.ext_getElem?
   intro i
   rcases Nat.lt_or_ge i 16 with hi | hi
   ·
    exact beq_iff_eq.1 (h i (List.mem_range.2 hi))
   ·
    rw [List.getElem?_eq_none (by omega), List.getElem?_eq_none (by omega)]
  ·
   rintro rfl i _; simp
 rw [← this]; rfl
theorem wpList_load_guarded {P : Program} {w : World} {ops : Array Oper} {rest : List Oper} {o : Oper} {a : Act} {Q : Exit → Act → World → Prop} (ty : TypeId) (x : Operand) (ho : o.op = .load ty x)
  (ad : Addr) (hx : a.eval x = .pointer (some ad)) (hw : Region.wanted o (yielded ops a.tmps) = true) (cs : List Value) (d : TypeDesc) (hc : ∀ j v, cs[j]? = some v → w.cell? (ad.add j) = some v)
  (hu : P.underlying ty = some d) (hd : (match d with | .struct _ | .array _ _ => true | _ => false) = true) (hi : (P.info? ty).map (·.size) = some cs.length)
  (h : wpList P ops Q rest (a.put o.dst (.agg cs.toArray)) w) : wpList P ops Q (o :: rest) a w :=
 wpList_step fun K hK => by rw [if_pos hw]; exact wp_load_at ty x ho ad hx cs d hc hu hd hi (hK _ _ h)
end Go.Proofs.YtofccgkgjcnfbaaDoor
