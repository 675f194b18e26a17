/-
  Proofs as values in memory: what Bent, Prove and Range give.
  Conditions: at most 99999 leaves and sides; keys and values of at most 2^30 - 2 bytes.
-/
import Derived.Test.YtofccgkgjcnfbaaDoorBentM
import Derived.Test.YtofccgkgjcnfbaaDoorPfO
namespace Go.Proofs.YtofccgkgjcnfbaaDoor
open Go.RowKit Wr Sh
set_option linter.unusedVariables false
set_option maxRecDepth 100000

/-- A proof of few leaves as a value in memory. -/
structure PV (W : World) (B N M : Nat) (p : Pf) (A1 A2 : Option Addr) (n m c1 c2 : Nat) : Prop where
  at_ : PfAt W B p A1 A2 c1 c2
  hn : n = p.leaves.length
  hm : m = p.sides.length
  ln : n ≤ N
  lm : m ≤ N
  sz : ∀ x ∈ p.leaves, x.1.size ≤ M ∧ x.2.size ≤ M
theorem PfAt.below {W W' : World} {B : Nat} {p : Pf} {A1 A2 : Option Addr} {c1 c2 : Nat} (h : PfAt W B p A1 A2 c1 c2) (hb : Below B W W') : PfAt W' B p A1 A2 c1 c2 := ⟨h.r1.below hb, h.r2.below hb, h.k1, h.k2, h.okl, h.oks, h.oki⟩
theorem PfAt.more {W : World} {B B' : Nat} {p : Pf} {A1 A2 : Option Addr} {c1 c2 : Nat} (h : PfAt W B p A1 A2 c1 c2) (hb : B ≤ B') : PfAt W B' p A1 A2 c1 c2 := ⟨h.r1.more hb, h.r2.more hb, h.k1, h.k2, h.okl, h.oks, h.oki⟩
theorem PV.below {W W' : World} {B N M : Nat} {p : Pf} {A1 A2 : Option Addr} {n m c1 c2 : Nat} (h : PV W B N M p A1 A2 n m c1 c2) (hb : Below B W W') : PV W' B N M p A1 A2 n m c1 c2 := ⟨h.at_.below hb, h.hn, h.hm, h.ln, h.lm, h.sz⟩
theorem PV.more {W : World} {B B' N M : Nat} {p : Pf} {A1 A2 : Option Addr} {n m c1 c2 : Nat} (h : PV W B N M p A1 A2 n m c1 c2) (hb : B ≤ B') : PV W B' N M p A1 A2 n m c1 c2 := ⟨h.at_.more hb, h.hn, h.hm, h.ln, h.lm, h.sz⟩
theorem PV.next {W W' : World} {N M : Nat} {p : Pf} {A1 A2 : Option Addr} {n m c1 c2 : Nat} (h : PV W W.heap.size N M p A1 A2 n m c1 c2) (hb : Below W.heap.size W W') : PV W' W'.heap.size N M p A1 A2 n m c1 c2 := (h.below hb).more hb.size
theorem PV.wide {W : World} {B N M N' M' : Nat} {p : Pf} {A1 A2 : Option Addr} {n m c1 c2 : Nat} (h : PV W B N M p A1 A2 n m c1 c2) (hN : N ≤ N') (hM : M ≤ M') : PV W B N' M' p A1 A2 n m c1 c2 := ⟨h.at_, h.hn, h.hm, Nat.le_trans h.ln hN, Nat.le_trans h.lm hN, fun x hx => ⟨Nat.le_trans (h.sz x hx).1 hM, Nat.le_trans (h.sz x hx).2 hM⟩⟩
/-- What a call gives that returns a proof. -/
def PVs (w : World) (N M : Nat) (e : Ending) (w' : World) : Prop :=
  ∃ (p : Pf) (A1 A2 : Option Addr) (n m c1 c2 : Nat), e = .returned (.agg (PR p.first p.size (.slice A1 n c1) (.slice A2 m c2)).toArray) ∧ PV w' w'.heap.size N M p A1 A2 n m c1 c2 ∧ Below w.heap.size w w'
theorem bent_all (hw by_ : Int) (p : Pf) (A1 A2 : Option Addr) (n m c1 c2 N M : Nat) (w : World) (h : PV w w.heap.size N M p A1 A2 n m c1 c2) (hN : N ≤ 99999) (hM : M ≤ 1073741822) (hwk : okInt hw) (hby : okInt by_) :
    Calls Tryd.prog 28 #[.agg (PR p.first p.size (.slice A1 n c1) (.slice A2 m c2)).toArray, .int .i64 hw, .int .i64 by_] w (PVs w (N + 1) (M + 2)) := by
  have main : Calls Tryd.prog 28 #[.agg (PR p.first p.size (.slice A1 n c1) (.slice A2 m c2)).toArray, .int .i64 hw, .int .i64 by_] w (BentP w n m M) := by
    obtain ⟨q, hq⟩ : ∃ q, q = ar hw 11 := ⟨_, rfl⟩
    have hq0 : 0 ≤ q ∧ q < 11 := by rw [hq]; exact ar_bounds hw 11 (by decide)
    have hn4 := h.ln
    have hm4 := h.lm
    exact bent_any p.first p.size p.leaves p.sides A1 A2 n m c1 c2 M hw q by_ w h.hn h.hm (by omega) (by omega) h.sz h.at_.r1 h.at_.r2 h.at_.k1.2 h.at_.k2.2 h.at_.oks.2 (by omega) hq.symm hwk hby h.at_.oki.1 h.at_.oki.2 (by omega)
  refine main.mono ?_
  rintro e w' ⟨f, sz, L', S', n', m', B1, d1, B2, d2, rfl, h1, h2, hb, h3, h4, h5, h6, h7, h8, h9, h10⟩
  have hn4 := h.ln
  have hm4 := h.lm
  obtain ⟨B1', d1', e1, k1, k2, k3⟩ := own_form h1
  cases e1
  obtain ⟨B2', d2', e2, k4, k5, k6⟩ := own_form h2
  cases e2
  exact ⟨⟨f, sz, L', S'⟩, B1, B2, n', m', d1, d2, rfl, ⟨⟨k3, k6, ⟨by show L'.length ≤ d1; omega, k2⟩, ⟨by show S'.length ≤ d2; omega, k5⟩, ⟨by show L'.length ≤ _; omega, fun x hx => by have := h8 x hx; omega⟩, ⟨by show S'.length ≤ _; omega, h5⟩, h9, h10⟩, h3, h4, by omega, by omega, h8⟩, hb⟩
theorem mem_cut {L : List Lf} {f l : Nat} {x : Lf} (h : x ∈ cut L f l) : x ∈ L := (cut_sub L f l).mem h
theorem prove_mem (L : List Lf) (k : ByteArray) : (∀ x ∈ (proveR node lf top L k).1.leaves, x ∈ L) ∧ (proveR node lf top L k).1.leaves.length ≤ L.length := by
  unfold proveR
  split
  · split
    · exact ⟨fun x hx => mem_cut hx, (cut_sub L _ _).length_le⟩
    · exact ⟨fun x hx => mem_cut hx, (cut_sub L _ _).length_le⟩
  · exact ⟨fun x hx => (by cases hx), Nat.zero_le _⟩
theorem range_mem (L : List Lf) (k t : ByteArray) : (∀ x ∈ (rangeR node lf top L k t).1.leaves, x ∈ L) ∧ (rangeR node lf top L k t).1.leaves.length ≤ L.length := by
  unfold rangeR
  split
  · split
    · exact ⟨fun x hx => (by cases hx), Nat.zero_le _⟩
    · exact ⟨fun x hx => mem_cut hx, (cut_sub L _ _).length_le⟩
  · exact ⟨fun x hx => (by cases hx), Nat.zero_le _⟩
theorem pv_of {b : Nat} {W : World} {p : Pf} {v : Value} {L : List Lf} {M : Nat} (h : ProofV b W p v) (hf : Few p) (hmem : (∀ x ∈ p.leaves, x ∈ L) ∧ p.leaves.length ≤ L.length) (hL : L.length ≤ 11) (hM : ∀ x ∈ L, x.1.size ≤ M ∧ x.2.size ≤ M) :
    ∃ (A1 A2 : Option Addr) (n m c1 c2 : Nat), v = .agg (PR p.first p.size (.slice A1 n c1) (.slice A2 m c2)).toArray ∧ PV W W.heap.size 11 M p A1 A2 n m c1 c2 := by
  obtain ⟨A1, c1, A2, c2, rfl⟩ := form_of h
  exact ⟨A1, A2, _, _, c1, c2, rfl, ⟨pfAt_at h hf, rfl, rfl, by omega, by have := hf.sides; omega, fun x hx => hM x (hmem.1 x hx)⟩⟩
/-- The reference's Prove of a list of numbers' leaves. -/
theorem rprove_pv (L : List Lf) (A : Option Addr) (c n M : Nat) (k : ByteArray) (w : World) (hn : n = L.length) (hL : L.length ≤ 11) (hM : ∀ x ∈ L, x.1.size ≤ M ∧ x.2.size ≤ M) (hv : validE L = 0) (h : LsAt w w.heap.size A L c) (ht : Tab 0 w) :
    Calls Tryd.prog 23 #[.slice A n c, .string k] w fun e w' => ∃ (p : Pf) (A1 A2 : Option Addr) (n m c1 c2 : Nat), e = .returned (.tuple #[.agg (PR p.first p.size (.slice A1 n c1) (.slice A2 m c2)).toArray, .int .i64 0]) ∧ PV w' w'.heap.size 11 M p A1 A2 n m c1 c2 ∧ Below w.heap.size w w' := by
  have := rprove_any A L c k w h (by omega) ht
  rw [hv, ← hn] at this
  refine this.mono ?_
  rintro e w' ⟨v, rfl, h1, h2⟩
  obtain ⟨A1, A2, n, m, c1, c2, rfl, hp⟩ := pv_of h1 (few_prove_all L k hL h.ok) (prove_mem L k) hL hM
  exact ⟨_, A1, A2, n, m, c1, c2, rfl, hp, h2⟩
/-- The reference's Range of a list of numbers' leaves. -/
theorem rrange_pv (L : List Lf) (A : Option Addr) (c n M : Nat) (k t : ByteArray) (w : World) (hn : n = L.length) (hL : L.length ≤ 11) (hM : ∀ x ∈ L, x.1.size ≤ M ∧ x.2.size ≤ M) (h : LsAt w w.heap.size A L c) (ht : Tab 0 w) :
    Calls Tryd.prog 25 #[.slice A n c, .string k, .string t] w fun e w' => ∃ (p : Pf) (A1 A2 : Option Addr) (n m c1 c2 : Nat) (er : Int), e = .returned (.tuple #[.agg (PR p.first p.size (.slice A1 n c1) (.slice A2 m c2)).toArray, .int .i64 er]) ∧ PV w' w'.heap.size 11 M p A1 A2 n m c1 c2 ∧ Below w.heap.size w w' := by
  have := rrange_any A L c k t w h (by omega) ht
  rw [← hn] at this
  refine this.mono ?_
  rintro e w' ⟨v, rfl, h1, h2⟩
  obtain ⟨A1, A2, n, m, c1, c2, rfl, hp⟩ := pv_of h1 (few_range_all L k t hL h.ok) (range_mem L k t) hL hM
  exact ⟨_, A1, A2, n, m, c1, c2, _, rfl, hp, h2⟩
/-- A list of proofs in one row: the proof at an index. -/
structure At5 (R : List UInt8) (gr gk j j1 : Nat) (K K1 : ByteArray) (gl i : Nat) (cs : List Value) (W : World) : Prop where
  r : Blk W gr 29 (B8 R)
  k : W.cell? ⟨gk, j, none⟩ = some (.string K)
  k1 : W.cell? ⟨gk, j1, none⟩ = some (.string K1)
  p : ∀ q u, cs[q]? = some u → W.cell? ((⟨gl, i * 4, none⟩ : Addr).add q) = some u
theorem At5.below {R : List UInt8} {gr gk j j1 : Nat} {K K1 : ByteArray} {gl i : Nat} {cs : List Value} {W W' : World} (h : At5 R gr gk j j1 K K1 gl i cs W) (hb : Below W.heap.size W W') : At5 R gr gk j j1 K K1 gl i cs W' :=
  ⟨h.r.below hb h.r.lt, (hb.cell (p := ⟨gk, j, none⟩) (World.block_lt_of_cell? _ _ h.k)).trans h.k, (hb.cell (p := ⟨gk, j1, none⟩) (World.block_lt_of_cell? _ _ h.k1)).trans h.k1, fun q u hu => (hb.cell (World.block_lt_of_cell? _ _ (h.p q u hu))).trans (h.p q u hu)⟩
theorem row4 {W : World} {gl : Nat} {t : TypeId} {X Y Z : List Value} (h : Blk W gl t (X ++ (Y ++ Z))) (i : Nat) (hi : X.length = i * 4) : ∀ q u, Y[q]? = some u → W.cell? ((⟨gl, i * 4, none⟩ : Addr).add q) = some u := fun q u hu => by
  have hq : q < Y.length := by
    rcases Nat.lt_or_ge q Y.length with h1 | h1
    · exact h1
    · rw [List.getElem?_eq_none h1] at hu; cases hu
  rw [Addr.add_lit, h.cell, List.getElem?_append_right (by omega), List.getElem?_append_left (by omega), show i * 4 + q - X.length = q by omega, hu]
/-- A slice that is built of given values. -/
theorem wp_bs {P : Program} {o : Oper} {a : Act} {w w' : World} {K : Act → World → Prop} {Q : Exit → Act → World → Prop} {T : TypeId} {n : Nat} {xs : Array (Nat × Operand)} {vs : Array (Nat × Value)} {v : Value} (ho : o.op = .buildSlice T n xs) (hv : (xs.map fun (i, x) => (i, a.eval x)) = vs) (hr : (Instr.buildSlice T n vs).run P w = .ok v w') (hK : K (a.put o.dst v) w') : o.wp P a w K Q := by
  have h : (execOp a.eval o).run P w = .ok (.value v) w' := by
    unfold execOp
    simp [ho, hv, hr, Result.andThen]
  unfold Oper.wp
  rw [h]
  exact hK
end Go.Proofs.YtofccgkgjcnfbaaDoor
