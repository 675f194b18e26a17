/-
  The contract of merkle's digestOf; its closure does as Told says.
  Conditions: keys and values of at most 2^30 bytes; the table of the round constants is as the text lays it.
-/
import Derived.Test.YtofccgkgjcnfbaaDoorRoot
namespace Go.Proofs.YtofccgkgjcnfbaaDoor
open Go.RowKit Wr Sh
set_option linter.unusedVariables false
set_option maxRecDepth 100000

theorem digestOf_any (A : Option Addr) (n c : Nat) (w : World) : Calls Tryd.prog 51 #[.slice A n c] w fun e w' => e = .returned (.func (.func 78) #[] #[.pointer (some ⟨w.heap.size, 0, none⟩)]) ∧ w' = w.alloc (.cells #[.slice A n c] 33) := by
  go_enter Tryd.func51, Tryd.ntmps51
  go_wp2_with fail
  go_ret
  exact ⟨rfl, rfl⟩
/-- Leaves that can be read below block B, in the cell gv. -/
structure LeafAt (B gv : Nat) (A : Option Addr) (L : List Lf) (c : Nat) (W : World) : Prop where
  cell : W.cell? ⟨gv, 0, none⟩ = some (.slice A L.length c)
  rd : Rd W B A (LC L)
  tab : Tab 1 W
/-- Short enough. -/
def okL (L : List Lf) : Prop := L.length ≤ 1073741824 ∧ ∀ x ∈ L, x.1.size ≤ 1073741824 ∧ x.2.size ≤ 1073741824
theorem LeafAt.keep {B gv : Nat} {A : Option Addr} {L : List Lf} {c : Nat} {W W' : World} (h : LeafAt B gv A L c W) (hB : 1 < B) (hs : W.heap.size ≤ W'.heap.size) (hk : ∀ k, k < W.heap.size → (k < B ∨ k = gv) → W'.heap[k]? = W.heap[k]?) : LeafAt B gv A L c W' := by
  refine ⟨(World.cell?_of_block (hk gv (World.block_lt_of_cell? _ _ h.cell) (.inr rfl))).trans h.cell, ?_, ?_⟩
  · intro hn
    obtain ⟨g, o, e, hb, hc⟩ := h.rd hn
    exact ⟨g, o, e, hb, fun j u hu => (World.cell?_of_block (hk g (World.block_lt_of_cell? _ _ (hc j u hu)) (.inl hb))).trans (hc j u hu)⟩
  · exact ⟨Nat.lt_of_lt_of_le h.tab.1 hs, fun t ht => (World.cell?_of_block (a := ⟨1, t, none⟩) (hk 1 h.tab.1 (.inl hB))).trans (h.tab.2 t ht)⟩
theorem LeafAt.below {B gv : Nat} {A : Option Addr} {L : List Lf} {c : Nat} {W W' : World} (h : LeafAt B gv A L c W) (hB : 1 < B) (hb : Below W.heap.size W W') : LeafAt B gv A L c W' := h.keep hB hb.size fun k hk _ => hb.block k hk
def InvS (Bl B gv : Nat) (A : Option Addr) (L : List Lf) (c : Nat) (_ : Unit) (O : Nat → Prop) (W : World) : Prop := (∀ k, ¬ O k) ∧ B ≤ W.heap.size ∧ LeafAt Bl gv A L c W
theorem single_any (B gv : Nat) (A : Option Addr) (L : List Lf) (c : Nat) (hL : okL L) (W : World) (h : LeafAt B gv A L c W) (a b : Nat) (hab : a < b) (hb : b ≤ L.length) :
    Calls Tryd.prog 78 #[.int .i64 (a : Int), .int .i64 (b : Int), .pointer (some ⟨gv, 0, none⟩)] W fun e W' => e = .returned (.tuple #[.agg (B8 (gSingle (leafAt lf L) () a b).1.1).toArray, .bool (gSingle (leafAt lf L) () a b).1.2]) ∧ Below W.heap.size W W' := by
  have hl := hL.1
  by_cases h1 : 1 < b - a
  · have e : gSingle (leafAt lf L) () a b = ((List.replicate 16 0, false), ()) := by unfold gSingle; rw [if_pos h1]
    rw [e]
    exact single_more a b gv W (by omega) (by omega) (by omega)
  · have e : gSingle (leafAt lf L) () a b = ((leafAt lf L a, true), ()) := by unfold gSingle; rw [if_neg h1]
    rw [e]
    have ha : a < L.length := by omega
    obtain ⟨gl, o, rfl, hg, hc⟩ := h.rd (by intro e; have := congrArg List.length e; rw [LC_len] at this; simp at this; omega)
    obtain ⟨c1, c2⟩ := LC_at L a ha
    have hz := hL.2 L[a] (List.getElem_mem ha)
    exact single_one a b L.length c gv gl o L[a].1 L[a].2 W hl ha (by omega) (by omega) hz.1 hz.2 ⟨h.cell, hc _ _ c1, by rw [Nat.add_assoc]; exact hc _ _ c2⟩ h.tab _ (Lib.hid (by unfold leafAt lf; rw [List.getD_eq_getElem?_getD, List.getElem?_eq_getElem ha]; rfl))
theorem toldSingle (Bl B gv : Nat) (A : Option Addr) (L : List Lf) (c : Nat) (hv : gv < B) (hB : 1 < Bl) (hBl : Bl ≤ B) (hL : okL L) :
    Told 78 #[.pointer (some ⟨gv, 0, none⟩)] (gSingle (leafAt lf L)) L.length B (InvS Bl B gv A L c) (fun _ _ => True) where
  enters := enters_of Tryd.func78 (by kernel_rfl) rfl
  call := by
    intro s O W a b hi _ hab hbN
    refine (single_any Bl gv A L c hL W hi.2.2 a b hab hbN).mono ?_
    rintro e W' ⟨rfl, hb⟩
    exact ⟨rfl, O, ⟨hi.1, Nat.le_trans hi.2.1 hb.size, hi.2.2.below hB hb⟩, hb.os, hb.tape, hb.output, hb.size, fun k hk _ => hb.block k hk, fun k hk => .inl hk⟩
  next := fun _ _ _ _ _ _ => trivial
  same := fun _ _ _ _ _ _ => trivial
  one := by intro s a b h; unfold gSingle; rw [if_neg (by omega)]
  len := by
    intro s a b; unfold gSingle
    split
    · rfl
    · exact dof_len _ _
  stay := fun s O W W' hi hs hk => ⟨hi.1, Nat.le_trans hi.2.1 hs, hi.2.2.keep hB hs (fun k h1 h2 => hk k h1 (.inl (by omega)))⟩
  lt := fun s O W hi => ⟨hi.2.1, fun k hk => absurd hk (hi.1 k)⟩
  tab := fun s O W hi => hi.2.2.tab
/-- divided over single leaves. -/
theorem tree_any (Bl gv : Nat) (A : Option Addr) (L : List Lf) (c : Nat) (hB : 1 < Bl) (hL : okL L) (a b : Nat) (w : World) (hab : a < b) (hb : b ≤ L.length) (hBw : Bl ≤ w.heap.size) (h : LeafAt Bl gv A L c w)
    (R : List UInt8) (hR : Hid (R = tree node (leafAt lf L) a b)) :
    Calls Tryd.prog 77 #[.int .i64 (a : Int), .int .i64 (b : Int), .func (.func 78) #[] #[.pointer (some ⟨gv, 0, none⟩)]] w fun e w' => e = .returned (.agg (B8 R).toArray) ∧ Below w.heap.size w w' := by
  refine (divided_any (toldSingle Bl w.heap.size gv A L c (World.block_lt_of_cell? _ _ h.cell) hB hBw hL) hL.1 a b () (fun _ => False) w hab hb ⟨fun _ => id, Nat.le_refl _, h⟩ trivial).mono ?_
  rintro e w' ⟨rfl, O', _, hf⟩
  rw [row_single node (leafAt lf L) _ a b (Nat.le_refl _), ← hR.out]
  exact ⟨rfl, hf.toBelow⟩
end Go.Proofs.YtofccgkgjcnfbaaDoor
