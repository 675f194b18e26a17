/-
  Contracts and words of several parts of the program (Frame, InRow, OpenP), one after the other.
  Conditions: those that each says.
-/
import Derived.Test.YtofccgkgjcnfbaaDoorRows
import Derived.Test.YtofccgkgjcnfbaaDoorGSchedCompStrExt
import Derived.WalkKit
import Derived.ProofKit
import Derived.OpenShut
import Derived.ShutString
import Derived.ChangeOld
import Derived.ChangeSame
import Derived.ChangeVars
import Derived.JoinedOf
import Derived.Below
import Derived.SizedLaws
import Derived.Test.YtofccgkgjcnfbaaDoorGen
import Derived.SliceStrings
import Derived.Deep.Slices
set_option linter.unusedSimpArgs false
namespace Go.Proofs.YtofccgkgjcnfbaaDoor
open Go.ChangeShapes Go.WideShapes Go.ChangeAt Go.RowKit Wr Sh
set_option linter.unusedVariables false
set_option maxRecDepth 100000
theorem own : ownKnob Tryd.prog.godebug = none := by kernel_rfl
theorem laidOut : laidOutB Tryd.prog = true := by kernel_rfl
theorem glob1 : Tryd.prog.globalNamed "culprit/hash.roundConstants" = some 1 := by kernel_rfl
theorem glob1Type : (Tryd.prog.globals[1]?).map (·.type) = some 160 := by kernel_rfl
theorem glob0 : Tryd.prog.globalNamed "culprit/culpritref02.constants" = some 0 := by kernel_rfl
theorem glob0Type : (Tryd.prog.globals[0]?).map (·.type) = some 160 := by kernel_rfl
theorem cells160 : Tryd.prog.cellsOf 160 = 64 := by kernel_rfl
theorem cells147 : Tryd.prog.cellsOf 147 = 1 := by kernel_rfl
def KD {H : Type} : List (DataW H) := (List.range 64).map fun i => .lit (.int .u32 (val (K i)))
theorem laid1 {H : Type} : (Rows.laid_culprit_hash_roundConstants : DataW H) = .agg KD := by kernel_rfl
theorem laid0 {H : Type} : (Rows.laid_culprit_culpritref02_constants : DataW H) = .agg KD := by kernel_rfl
theorem tab_cells {H : Type} {enc : TypeId × Value → H} {W : World} {base : Nat} {sp : Nat → Bool} {held : Bool} {fuel : Nat} {cs : List Value} {p : List MemPlace}
  (h : DataW.trod enc Tryd.prog W base sp held fuel 160 cs = some (.agg KD, p)) : ∀ i, i < 64 → cs[i]? = some (.int .u32 (val (K i))) := by
 intro i hi
 obtain ⟨xs, m, rfl, hx, hl, hxl, hf⟩ := DataW.trod_array Tryd.underlying160 h
 rw [cells160] at hl
 have h1 := hf i hi
 rw [cells147, Nat.mul_one, List.getElem?_eq_getElem (by omega : i < xs.length)] at h1
 obtain ⟨n, h2, h3, _⟩ := DataW.trod_int Tryd.underlying147 h1
 have hi2 : i < cs.length := by omega
 rw [List.drop_eq_getElem_cons hi2, List.take_succ_cons, List.take_zero] at h2
 simp only [List.cons.injEq, and_true] at h2
 rw [List.getElem?_eq_getElem hi2, h2]
 simp only [Prod.mk.injEq, DataW.agg.injEq] at hx
 have h4 := congrArg (fun l : List (DataW H) => l[i]?) hx.1
 simp only [List.getElem?_map, List.getElem?_eq_getElem (by omega : i < xs.length), Option.map_some, h3, KD, List.getElem?_range hi] at h4
 simp only [Option.some.injEq, DataW.lit.injEq, Lit.int.injEq, true_and] at h4
 rw [h4]
theorem tab_of {W : World} {name : String} {g : Nat} {d : DataW Unit} (hn : Tryd.prog.globalNamed name = some g) (hty : (Tryd.prog.globals[g]?).map (·.type) = some 160) (hd : d = .agg KD)
  {ps : List MemPlace} {rest : List (String × DataW Unit)} (h : DataW.LaidVars Tryd.prog W ((name, d) :: rest) ps) : Tab g W := by
 subst hd
 obtain ⟨g', t, cs, fuel, p, q, hg, ht, hvar, hd, _, _⟩ := h
 obtain rfl := Option.some.inj (hn.symm.trans hg)
 obtain rfl := Option.some.inj (hty.symm.trans ht)
 have hc : ∀ i, i < 64 → W.cell? ⟨g, i, none⟩ = some (.int .u32 (val (K i))) := by
  intro i hi
  have := tab_cells hd i hi
  have h2 := World.var?_cell hg hvar i
  rw [h2]
  simpa using this
 exact ⟨World.block_lt_of_cell? W ⟨g, 0, none⟩ (hc 0 (by omega)), hc⟩
def KC : Array Value := (U32 KL).toArray
def layK : Obj → Obj
 | .cells _ t frozen => .cells KC t frozen
 | o => o
noncomputable def laidWorld (os : Os) : World :=
 { World.holding Tryd.prog os ⟨#[], #[], []⟩ with heap := ((World.holding Tryd.prog os ⟨#[], #[], []⟩).heap.modify 1 layK).modify 0 layK }
theorem laid_row1 (os : Os) (args : Array Value) : ((laidWorld os).forCall (fun _ _ => 0) ⟨#[], args, []⟩).memory.heap[1]? = some (.cells KC 160 (0, 0)) := by kernel_rfl
theorem laid_row0 (os : Os) (args : Array Value) : ((laidWorld os).forCall (fun _ _ => 0) ⟨#[], args, []⟩).memory.heap[0]? = some (.cells KC 160 (0, 0)) := by kernel_rfl
theorem in_row {g n b off : Nat} (h : MemPlace.cell b off ∈ MemPlace.row ⟨g, 0, none⟩ n) : b = g := by
 unfold MemPlace.row at h
 obtain ⟨i, _, hi⟩ := List.mem_map.1 h
 simp only [MemPlace.cell.injEq] at hi
 exact hi.1.symm
theorem no_iface {W : World} {g off : Nat} (h : W.heap[g]? = some (.cells KC 160 (0, 0))) {u : TypeId} {v : Value} : W.cell? ⟨g, off, none⟩ ≠ some (.iface u v) := by
 intro e
 rw [cell_of_row W g off KC 160 (0, 0) h] at e
 unfold KC U32 at e
 simp only [List.getElem?_toArray, List.getElem?_map, Option.map_eq_some_iff] at e
 obtain ⟨_, _, h2⟩ := e
 cases h2
end Go.Proofs.YtofccgkgjcnfbaaDoor
namespace Go.Proofs.YtofccgkgjcnfbaaDoor
open Go.RowKit Wr
set_option linter.unusedVariables false
def InRow (k : IntKind) (w : World) (a : Option Addr) (len cap : Nat) (zs : List Int) : Prop :=
 (a = none ∧ len = 0 ∧ cap = 0 ∧ zs = []) ∨
 ∃ x, a = some x ∧ len ≤ cap ∧ cap ≤ maxLen ∧ zs.length = cap ∧ (∀ i, i < zs.length → w.cell? (x.add i) = some (.int k (zs.getD i 0))) ∧ ∀ n ∈ zs, (Lit.int k n).wf = true
theorem in_rd {k : IntKind} {w : World} {a : Option Addr} {len cap : Nat} {zs : List Int} (h : InRow k w a len cap zs) :
  (zs.take len).length = len ∧ len ≤ cap ∧ (a = none → cap = 0) ∧ Rd w w.heap.size a ((zs.take len).map (Value.int k)) ∧ ∀ n ∈ zs.take len, (Lit.int k n).wf = true := by
 rcases h with ⟨rfl, rfl, rfl, rfl⟩ | ⟨x, rfl, hl, hm, hz, hc, hw⟩
 ·
  exact ⟨rfl, Nat.le_refl _, fun _ => rfl, fun h => absurd rfl h, by simp⟩
 ·
  refine ⟨by simp; omega, hl, (fun e => by cases e), fun hn => ?_, fun n hn => hw n (List.mem_of_mem_take hn)⟩
  have hl0 : 0 < zs.length := by
   rcases zs with _ | ⟨z, zs⟩
   ·
    simp at hn
   ·
    simp
  obtain ⟨g, o, spot⟩ := x
  have h0 := hc 0 hl0
  have hs : spot = none := by
   have := World.cell?_spot h0
   simpa [Addr.add] using this
  subst hs
  refine ⟨g, o, rfl, ?_, fun j u hu => ?_⟩
  ·
   have := World.block_lt_of_cell? w _ h0
   simpa [Addr.add] using this
  ·
   rw [List.getElem?_map] at hu
   obtain ⟨n, hn1, rfl⟩ := Option.map_eq_some_iff.1 hu
   have hj := (List.getElem?_eq_some_iff.1 hn1).1
   have hj2 : j < zs.length := by simp at hj; omega
   have := hc j hj2
   rw [Addr.add_lit] at this
   rw [this]
   rw [List.getElem?_take] at hn1
   split at hn1
   ·
    simp [hn1]
   ·
    cases hn1
theorem in_bytes {w : World} {a : Option Addr} {len cap : Nat} {zs : List Int} (h : InRow .u8 w a len cap zs) :
  ∃ b : List UInt8, b.length = len ∧ len ≤ cap ∧ (a = none → cap = 0) ∧ Rd w w.heap.size a (B8 b) := by
 obtain ⟨h1, h2, h3, h4, h5⟩ := in_rd h
 refine ⟨(zs.take len).map (fun n => UInt8.ofNat n.toNat), by rw [List.length_map]; exact h1, h2, h3, ?_⟩
 have he : B8 ((zs.take len).map (fun n => UInt8.ofNat n.toNat)) = (zs.take len).map (Value.int .u8) := by
  unfold B8
  rw [List.map_map]
  apply List.map_congr_left
  intro n hn
  have := bounds_u8 (h5 n hn)
  simp only [Function.comp]
  congr 1
  rw [UInt8.toNat_ofNat']
  omega
 rw [he]
 exact h4
theorem in_ints {w : World} {a : Option Addr} {len cap : Nat} {zs : List Int} (h : InRow .i64 w a len cap zs) :
  ∃ l : List Int, l.length = len ∧ len ≤ cap ∧ (a = none → cap = 0) ∧ Rd w w.heap.size a (I64 l) ∧ ∀ x ∈ l, okInt x := by
 obtain ⟨h1, h2, h3, h4, h5⟩ := in_rd h
 exact ⟨zs.take len, h1, h2, h3, h4, fun x hx => bounds_i64 (h5 x hx)⟩
end Go.Proofs.YtofccgkgjcnfbaaDoor
namespace Go.Proofs.YtofccgkgjcnfbaaDoor
open Go.ChangeShapes Go.WideShapes Go.ChangeAt Go.RowKit Wr Sh
set_option linter.unusedVariables false
set_option maxRecDepth 100000
theorem met2 (os : Os) (args : Array Value) : laidMet Tryd.prog [("culprit/culpritref02.constants", Rows.laid_culprit_culpritref02_constants), ("culprit/hash.roundConstants", Rows.laid_culprit_hash_roundConstants)] ((laidWorld os).forCall (fun _ _ => 0) ⟨#[], args, []⟩).memory :=
 ⟨_, ⟨0, 160, KC, 8, [], _, glob0, glob0Type, by kernel_rfl, by kernel_rfl, ⟨1, 160, KC, 8, [], [], glob1, glob1Type, by kernel_rfl, by kernel_rfl, rfl, rfl⟩, rfl⟩, by decide +kernel, fun b off h => by
  have hb : b = 0 ∨ b = 1 := by
   simp only [List.append_nil, List.mem_append] at h
   rcases h with h | h
   ·
    exact .inl (in_row h)
   ·
    exact .inr (in_row h)
  rcases hb with rfl | rfl
  ·
   exact ⟨⟨_, _, laid_row0 os args⟩, fun u v hc => absurd hc (no_iface (laid_row0 os args))⟩
  ·
   exact ⟨⟨_, _, laid_row1 os args⟩, fun u v hc => absurd hc (no_iface (laid_row1 os args))⟩⟩
theorem tabs_of {W : World} {ps : List MemPlace} (h : DataW.LaidVars Tryd.prog W [("culprit/culpritref02.constants", Rows.laid_culprit_culpritref02_constants), ("culprit/hash.roundConstants", Rows.laid_culprit_hash_roundConstants)] ps) : Tab 0 W ∧ Tab 1 W := by
 refine ⟨tab_of glob0 glob0Type laid0 h, ?_⟩
 obtain ⟨g, t, cs, fuel, p, q, _, _, _, _, h2, _⟩ := h
 exact tab_of glob1 glob1Type laid1 h2
section
variable {H : Type} {enc : TypeId × Value → H} {P : Program} {w : World} {base : Nat} {spare : Nat → Bool} {held : Bool} {fuel : Nat} {cs : List Value} {x : DataW H × List MemPlace}
end
end Go.Proofs.YtofccgkgjcnfbaaDoor
