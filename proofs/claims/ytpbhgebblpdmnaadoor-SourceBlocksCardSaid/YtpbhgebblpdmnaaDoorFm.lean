/-
  What the rows' frames share: the tables, as the text lays them; slices of integers that came in.
  No condition.
-/
import Derived.Test.YtpbhgebblpdmnaaDoorRows
import Derived.Test.YtpbhgebblpdmnaaDoorGHdFuLvGa
import Derived.WalkKit
import Derived.ProofKit
import Derived.OpenShut
import Derived.ShutString
import Derived.ChangeOld
import Derived.ChangeSame
import Derived.ChangeVars
import Derived.JoinedOf
import Derived.Below
import Derived.SizedLaws
import Derived.Deep.Slices
import Derived.Lay
import Derived.LaidLaws
namespace Go.Proofs.YtpbhgebblpdmnaaDoor
open Go.ChangeShapes Go.WideShapes Go.ChangeAt Go.RowKit Wr Src
set_option linter.unusedVariables false
set_option maxRecDepth 100000
theorem own : ownKnob Tryd.prog.godebug = none := by kernel_rfl
theorem laidOut : laidOutB Tryd.prog = true := by kernel_rfl
abbrev laidL : List (String × DataW Unit) := [("math/bits.deBruijn32tab", Rows.laid_math_bits_deBruijn32tab), ("math/bits.deBruijn64tab", Rows.laid_math_bits_deBruijn64tab), ("internal/strconv.uint64pow10", Rows.laid_internal_strconv_uint64pow10), ("strconv.ErrRange", Rows.laid_strconv_ErrRange), ("strconv.ErrSyntax", Rows.laid_strconv_ErrSyntax), ("culprit/source.shapes", Rows.laid_culprit_source_shapes), ("culprit/source.signs", Rows.laid_culprit_source_signs)]
section
variable {H : Type} {enc : TypeId × Value → H} {P : Program} {w : World} {base : Nat} {spare : Nat → Bool} {held : Bool} {fuel : Nat} {cs : List Value}
theorem slice_rows {t e : TypeId} {ds : List (DataW H)} {p : List MemPlace} (ht : P.underlying t = some (.slice e)) (hne : ds ≠ []) (h : DataW.trod enc P w base spare held fuel t cs = some (.slice ds [], p)) :
  ∃ a c, cs = [.slice (some a) ds.length c] ∧ ds.length ≤ c ∧ ∀ (i : Nat) d, ds[i]? = some d → ∃ cs' q n, w.cells? base (a.add (i * P.cellsOf e)) (P.cellsOf e) = some cs' ∧ DataW.trod enc P w base spare held n e cs' = some (d, q) := by
 rcases Go.Deep.open_slice ht h with ⟨_, hx⟩ | ⟨a, len, cap, m, n, D, Pl, rfl, _, hl, hm, hmm, hx, hf⟩
 ·
  simp at hx
 ·
  simp only [Prod.mk.injEq, DataW.slice.injEq] at hx
  obtain ⟨⟨h1, h2⟩, _⟩ := hx
  have hlen : ds.length = len := by rw [h1]; simp
  subst hlen
  refine ⟨a, cap, rfl, hl, fun i d hd => ?_⟩
  have hi := (List.getElem?_eq_some_iff.1 hd).1
  have hle : ds.length ≤ m := by rw [hmm]; split <;> omega
  obtain ⟨cs', q1, q2⟩ := hf i (by omega)
  refine ⟨cs', Pl i, n, q1, ?_⟩
  rw [h1, List.getElem?_map, List.getElem?_range (by omega)] at hd
  simp only [Option.map_some, Option.some.injEq] at hd
  rw [← hd]; exact q2
def litV : Lit → Value
 | .int k n => .int k n
 | .string l => .string ⟨l.toArray⟩
 | .bool b => .bool b
 | _ => undef
theorem str_cell {t : TypeId} {l : List UInt8} {p : List MemPlace} {c : Value} (ht : P.underlying t = some .string) (h : DataW.trod enc P w base spare held fuel t [c] = some (.lit (.string l), p)) : c = .string ⟨l.toArray⟩ := by
 obtain ⟨s, e1, e2, _⟩ := DataW.trod_string ht h
 simp only [Prod.mk.injEq, DataW.lit.injEq, Lit.string.injEq] at e2
 injection e1 with e1 _
 rw [e1, e2.1]
theorem int_cell {t : TypeId} {k : IntKind} {n : Int} {p : List MemPlace} {c : Value} (ht : P.underlying t = some (.int k)) (h : DataW.trod enc P w base spare held fuel t [c] = some (.lit (.int k n), p)) : c = .int k n := by
 obtain ⟨s, e1, e2, _⟩ := DataW.trod_int ht h
 simp only [Prod.mk.injEq, DataW.lit.injEq, Lit.int.injEq] at e2
 injection e1 with e1 _
 rw [e1, e2.1.2]
theorem struct_at {t : TypeId} {fs : Array Field} {ds : List (DataW H)} {p : List MemPlace} (ht : P.underlying t = some (.struct fs)) (h : DataW.trod enc P w base spare held fuel t cs = some (.agg ds, p)) :
  cs.length = P.cellsOf t ∧ ds.length = fs.size ∧ ∀ (i : Nat) (f : Field) d, fs[i]? = some f → ds[i]? = some d → P.cellsOf f.type = 1 → f.offset < cs.length → ∃ n q c, cs[f.offset]? = some c ∧ DataW.trod enc P w base spare held n f.type [c] = some (d, q) := by
 obtain ⟨xs, n, rfl, hx, hl, hxl, hf⟩ := DataW.trod_struct ht h
 simp only [Prod.mk.injEq, DataW.agg.injEq] at hx
 refine ⟨hl, by rw [hx.1, List.length_map, hxl], fun i f d hfi hdi h1 hlt => ?_⟩
 have h2 := hf i f hfi
 rw [hx.1, List.getElem?_map, Option.map_eq_some_iff] at hdi
 obtain ⟨y, h3, rfl⟩ := hdi
 rw [h1, h3, List.drop_eq_getElem_cons hlt, List.take_succ_cons, List.take_zero] at h2
 exact ⟨n, y.2, cs[f.offset], List.getElem?_eq_getElem hlt, h2⟩
end
theorem und9 : Tryd.prog.underlying 9 = some .string := Tryd.underlying9
theorem und3 : Tryd.prog.underlying 3 = some (.int .i64) := Tryd.underlying3
theorem shape_cells {W : World} {fuel : Nat} {cs : List Value} {q : List MemPlace} {a b : List UInt8} {lo hi : Int}
  (h : DataW.trod (fun _ => ()) Tryd.prog W 0 (fun _ => true) false fuel 82 cs = some (.agg [.lit (.string a), .lit (.string b), .lit (.int .i64 lo), .lit (.int .i64 hi)], q)) : cs = [.string ⟨a.toArray⟩, .string ⟨b.toArray⟩, .int .i64 lo, .int .i64 hi] := by
 obtain ⟨h1, h2, h3⟩ := struct_at Tryd.underlying82 h
 have hc : Tryd.prog.cellsOf 82 = 4 := by kernel_rfl
 have c9 : Tryd.prog.cellsOf 9 = 1 := by kernel_rfl
 have c3 : Tryd.prog.cellsOf 3 = 1 := by kernel_rfl
 rw [hc] at h1
 match cs, h1 with
 | [u0, u1, u2, u3], _ =>
  obtain ⟨n0, q0, d0, e0, f0⟩ := h3 0 _ _ rfl rfl c9 (show 0 < 4 by decide)
  obtain ⟨n1, q1, d1, e1, f1⟩ := h3 1 _ _ rfl rfl c9 (show 1 < 4 by decide)
  obtain ⟨n2, q2, d2, e2, f2⟩ := h3 2 _ _ rfl rfl c3 (show 2 < 4 by decide)
  obtain ⟨n3, q3, d3, e3, f3⟩ := h3 3 _ _ rfl rfl c3 (show 3 < 4 by decide)
  obtain rfl : u0 = d0 := Option.some.inj e0
  obtain rfl : u1 = d1 := Option.some.inj e1
  obtain rfl : u2 = d2 := Option.some.inj e2
  obtain rfl : u3 = d3 := Option.some.inj e3
  rw [str_cell und9 f0, str_cell und9 f1, int_cell und3 f2, int_cell und3 f3]
theorem sign_cells {W : World} {fuel : Nat} {cs : List Value} {q : List MemPlace} {a : List UInt8} {lo hi : Int}
  (h : DataW.trod (fun _ => ()) Tryd.prog W 0 (fun _ => true) false fuel 75 cs = some (.agg [.lit (.string a), .lit (.int .i64 lo), .lit (.int .i64 hi)], q)) : cs = [.string ⟨a.toArray⟩, .int .i64 lo, .int .i64 hi] := by
 obtain ⟨h1, h2, h3⟩ := struct_at Tryd.underlying75 h
 have hc : Tryd.prog.cellsOf 75 = 3 := by kernel_rfl
 have c9 : Tryd.prog.cellsOf 9 = 1 := by kernel_rfl
 have c3 : Tryd.prog.cellsOf 3 = 1 := by kernel_rfl
 rw [hc] at h1
 match cs, h1 with
 | [u0, u1, u2], _ =>
  obtain ⟨n0, q0, d0, e0, f0⟩ := h3 0 _ _ rfl rfl c9 (show 0 < 3 by decide)
  obtain ⟨n1, q1, d1, e1, f1⟩ := h3 1 _ _ rfl rfl c3 (show 1 < 3 by decide)
  obtain ⟨n2, q2, d2, e2, f2⟩ := h3 2 _ _ rfl rfl c3 (show 2 < 3 by decide)
  obtain rfl : u0 = d0 := Option.some.inj e0
  obtain rfl : u1 = d1 := Option.some.inj e1
  obtain rfl : u2 = d2 := Option.some.inj e2
  rw [str_cell und9 f0, int_cell und3 f1, int_cell und3 f2]
def shapeD {H : Type} (k : Nat) : DataW H := .agg [.lit (.string (Src.shape k).word), .lit (.string (Src.shape k).parts), .lit (.int .i64 ((Src.shape k).low : Int)), .lit (.int .i64 ((Src.shape k).high : Int))]
def signD {H : Type} (k : Nat) : DataW H := .agg [.lit (.string (sgn k).1), .lit (.int .i64 ((sgn k).2.1 : Int)), .lit (.int .i64 (sgn k).2.2)]
theorem shapesD : (Rows.laid_culprit_source_shapes : DataW Unit) = .slice ((List.range 37).map shapeD) [] := by kernel_rfl
theorem signsD : (Rows.laid_culprit_source_signs : DataW Unit) = .slice ((List.range 13).map signD) [] := by kernel_rfl
theorem powD : (Rows.laid_internal_strconv_uint64pow10 : DataW Unit) = Lib.tabData .u64 Lib.pow10Tab := by kernel_rfl
theorem spot_of (w : World) (a : Addr) (u : Value) (h : w.cell? (a.add 0) = some u) : ∃ g o, a = ⟨g, o, none⟩ ∧ g < w.heap.size := by
 obtain ⟨g, o, spot⟩ := a
 have hs : spot = none := by
  have := World.cell?_spot h
  simpa [Addr.add] using this
 subst hs
 exact ⟨g, o, rfl, by have := World.block_lt_of_cell? w _ h; simpa [Addr.add] using this⟩
theorem rows_at {W : World} {a : Addr} {n m : Nat} {C : Nat → List Value} (hn : 0 < n) (hm : 0 < m) (hl : ∀ i, (C i).length = m) (h : ∀ i, i < n → W.cells? 0 (a.add (i * m)) m = some (C i)) :
  ∃ g o, a = ⟨g, o, none⟩ ∧ g < W.heap.size ∧ ∀ k, k < n → ∀ j u, (C k)[j]? = some u → W.cell? ⟨g, o + k * m + j, none⟩ = some u := by
 have h0 := (World.cells?_some (h 0 hn)).2.2 0 hm
 rw [Nat.zero_mul, show (a.add 0).add 0 = a.add 0 from rfl, List.getElem?_eq_getElem (by rw [hl]; exact hm)] at h0
 obtain ⟨g, o, rfl, hg⟩ := spot_of W a _ h0
 refine ⟨g, o, rfl, hg, fun k hk j u hu => ?_⟩
 have hj := (List.getElem?_eq_some_iff.1 hu).1
 rw [hl] at hj
 have h1 := (World.cells?_some (h k hk)).2.2 j hj
 rw [Addr.add_lit, Addr.add_lit] at h1
 rw [h1, hu]
theorem gl0 : Tryd.prog.globalNamed "culprit/source.signs" = some 0 := by kernel_rfl
theorem gl1 : Tryd.prog.globalNamed "culprit/source.shapes" = some 1 := by kernel_rfl
theorem gl4 : Tryd.prog.globalNamed "internal/strconv.uint64pow10" = some 4 := by kernel_rfl
theorem gt0 : (Tryd.prog.globals[0]?).map (·.type) = some 79 := by kernel_rfl
theorem gt1 : (Tryd.prog.globals[1]?).map (·.type) = some 83 := by kernel_rfl
theorem gt4 : (Tryd.prog.globals[4]?).map (·.type) = some 122 := by kernel_rfl
theorem tab_of {W : World} {ps : List MemPlace} (h7 : 7 ≤ W.heap.size) (h : DataW.LaidVars Tryd.prog W laidL ps) : Tab W.heap.size W := by
 obtain ⟨_, _, _, _, _, _, _, _, _, _, h, _⟩ := h
 obtain ⟨_, _, _, _, _, _, _, _, _, _, h, _⟩ := h
 obtain ⟨g4, t4, cs4, f4, p4, q4, a4, b4, v4, d4, h, _⟩ := h
 obtain ⟨_, _, _, _, _, _, _, _, _, _, h, _⟩ := h
 obtain ⟨_, _, _, _, _, _, _, _, _, _, h, _⟩ := h
 obtain ⟨g1, t1, cs1, f1, p1, q1, a1, b1, v1, d1, h, _⟩ := h
 obtain ⟨g0, t0, cs0, f0, p0, q0, a0, b0, v0, d0, _, _⟩ := h
 obtain rfl := Option.some.inj (gl4.symm.trans a4)
 obtain rfl := Option.some.inj (gl1.symm.trans a1)
 obtain rfl := Option.some.inj (gl0.symm.trans a0)
 obtain rfl := Option.some.inj (gt4.symm.trans b4)
 obtain rfl := Option.some.inj (gt1.symm.trans b1)
 obtain rfl := Option.some.inj (gt0.symm.trans b0)
 rw [powD] at d4; rw [shapesD] at d1; rw [signsD] at d0
 have hp := Lib.cells_of_tab Tryd.underlying122 Tryd.underlying109 (by kernel_rfl) (by kernel_rfl) d4
 obtain ⟨A1, c1, e1, l1, r1⟩ := slice_rows Tryd.underlying83 (by simp [List.range, List.range.loop]) d1
 obtain ⟨A0, c0, e0, l0, r0⟩ := slice_rows Tryd.underlying79 (by simp [List.range, List.range.loop]) d0
 have k4 : Tryd.prog.cellsOf 82 = 4 := by kernel_rfl
 have k3 : Tryd.prog.cellsOf 75 = 3 := by kernel_rfl
 rw [k4] at r1; rw [k3] at r0
 obtain ⟨gs, os, rfl, hgs, hs⟩ := rows_at (W := W) (a := A1) (n := 37) (m := 4) (C := ShC) (by omega) (by omega) (fun _ => rfl) (fun i hi => by
  obtain ⟨cs', q, n, h1, h2⟩ := r1 i (shapeD i) (by rw [List.getElem?_map, List.getElem?_range hi]; rfl)
  rw [h1, shape_cells h2]; rfl)
 obtain ⟨gg, og, rfl, hgg, hg⟩ := rows_at (W := W) (a := A0) (n := 13) (m := 3) (C := SgC) (by omega) (by omega) (fun _ => rfl) (fun i hi => by
  obtain ⟨cs', q, n, h1, h2⟩ := r0 i (signD i) (by rw [List.getElem?_map, List.getElem?_range hi]; rfl)
  rw [h1, sign_cells h2]; rfl)
 rw [List.length_map, List.length_range] at e1 l1 e0 l0
 refine ⟨gs, os, c1, gg, og, c0, ⟨?_, ?_, hs, hg, ?_, hgs, hgg, h7, l1, l0, Nat.le_refl _⟩⟩
 ·
  have h2 := World.var?_cell gl1 v1 0
  rw [h2]
  have : cs1 = #[.slice (some ⟨gs, os, none⟩) 37 c1] := by cases cs1; simpa using e1
  rw [this]; rfl
 ·
  have h2 := World.var?_cell gl0 v0 0
  rw [h2]
  have : cs0 = #[.slice (some ⟨gg, og, none⟩) 13 c0] := by cases cs0; simpa using e0
  rw [this]; rfl
 ·
  unfold Lib.TabIs
  rw [v4]
  congr 1
  cases cs4; simpa using hp
theorem heap7 {W : World} {ps : List MemPlace} (h : DataW.LaidVars Tryd.prog W laidL ps) : 7 ≤ W.heap.size := by
 obtain ⟨_, _, _, _, _, _, _, _, _, _, h, _⟩ := h
 obtain ⟨g, t, cs, f, p, q, a, b, v, d, _, _⟩ := h
 obtain rfl := Option.some.inj ((show Tryd.prog.globalNamed "math/bits.deBruijn64tab" = some 6 by kernel_rfl).symm.trans a)
 obtain rfl := Option.some.inj ((show (Tryd.prog.globals[6]?).map (·.type) = some 134 by kernel_rfl).symm.trans b)
 have h1 : cs.toList.length = 64 := by
  have hu : Tryd.prog.underlying 134 = some (.array 64 5) := Tryd.underlying134
  obtain ⟨xs, m, _, _, hl, _, _⟩ := DataW.trod_array hu d
  have hc : Tryd.prog.cellsOf 134 = 64 := by kernel_rfl
  exact hl.trans hc
 have h2 := World.var?_cell (show Tryd.prog.globalNamed "math/bits.deBruijn64tab" = some 6 by kernel_rfl) v 0
 have h3 : cs[0]? = some (cs[0]'(by simpa using (show 0 < cs.toList.length by omega))) := Array.getElem?_eq_getElem _
 rw [h3] at h2
 have := World.block_lt_of_cell? W _ h2
 have h4 : 6 < W.heap.size := this
 omega
theorem met_laid (os : Os) (args : Array Value) : laidMet Tryd.prog laidL ((World.laidAll Tryd.prog os laidL).forCall (fun _ _ => 0) ⟨#[], args, []⟩).memory := laidMet_laidAll _ (by kernel_rfl) (by kernel_rfl)
/-! Slices of integers that came in. -/
def InRow (k : IntKind) (w : World) (a : Option Addr) (len cap : Nat) (zs : List Int) : Prop :=
 (a = none ∧ len = 0 ∧ cap = 0 ∧ zs = []) ∨
 ∃ x, a = some x ∧ len ≤ cap ∧ cap ≤ maxLen ∧ zs.length = cap ∧ (∀ i, i < zs.length → w.cell? (x.add i) = some (.int k (zs.getD i 0))) ∧ ∀ n ∈ zs, (Lit.int k n).wf = true
theorem in_il {w : World} {a : Option Addr} {len cap : Nat} {zs : List Int} (h : InRow .i64 w a len cap zs) (hl : len ≤ 17592186044416) : ∃ L : List Int, L.length = len ∧ (a = none → cap = 0) ∧ IL w Any (.slice a len cap) L := by
 rcases h with ⟨rfl, rfl, rfl, rfl⟩ | ⟨x, rfl, hlc, hm, hz, hc, hw⟩
 ·
  exact ⟨[], rfl, fun _ => rfl, ⟨⟨none, 0, rfl, Nat.le_refl _, fun h => absurd rfl h⟩, fun z hz => by simp at hz, by simp⟩⟩
 ·
  have hlen : (zs.take len).length = len := by simp; omega
  refine ⟨zs.take len, hlen, (fun e => by cases e), ⟨⟨some x, cap, by rw [hlen], by omega, fun hn => ?_⟩, fun z hz => bounds_i64 (hw z (List.mem_of_mem_take hz)), by omega⟩⟩
  have hl0 : 0 < zs.length := by
   rcases zs with _ | ⟨z, zs⟩
   ·
    simp at hn
   ·
    simp
  have h0 := hc 0 hl0
  obtain ⟨g, o, rfl, _⟩ := spot_of w x _ h0
  refine ⟨g, o, rfl, trivial, fun j u hu => ?_⟩
  rw [List.getElem?_map] at hu
  obtain ⟨n, hn1, rfl⟩ := Option.map_eq_some_iff.1 hu
  have hj := (List.getElem?_eq_some_iff.1 hn1).1
  have hj2 : j < zs.length := by simp at hj; omega
  have := hc j hj2
  rw [Addr.add_lit] at this
  rw [this]
  rw [List.getElem?_take] at hn1
  split at hn1
  ·
   simp [hn1]
  ·
   cases hn1
end Go.Proofs.YtpbhgebblpdmnaaDoor
