/-
  What merkle's divided asks of the function that it is handed; what calls leave as it was.
  No condition.
-/
import Derived.Test.YtofccgkgjcnfbaaDoorSingle
import Derived.Shelf.Abstract
namespace Go.Proofs.YtofccgkgjcnfbaaDoor
open Go.RowKit Wr Sh
set_option linter.unusedVariables false
set_option maxRecDepth 100000

/-- Blocks that were there, and that the set O does not hold, are as they were; O' holds no more of them than O did. -/
structure Fr (O O' : Nat → Prop) (w w' : World) : Prop where
  os : w'.os = w.os
  tape : w'.tape = w.tape
  output : w'.output = w.output
  size : w.heap.size ≤ w'.heap.size
  keep : ∀ k, k < w.heap.size → ¬ O k → w'.heap[k]? = w.heap[k]?
  own : ∀ k, O' k → O k ∨ w.heap.size ≤ k
section
variable {O O1 O2 : Nat → Prop} {a b c : World}
theorem Fr.refl (O : Nat → Prop) (w : World) : Fr O O w w := ⟨rfl, rfl, rfl, Nat.le_refl _, fun _ _ _ => rfl, fun _ h => .inl h⟩
theorem Fr.trans (h : Fr O O1 a b) (k : Fr O1 O2 b c) : Fr O O2 a c :=
  ⟨k.os.trans h.os, k.tape.trans h.tape, k.output.trans h.output, Nat.le_trans h.size k.size,
    fun i hi ho => (k.keep i (Nat.lt_of_lt_of_le hi h.size) (fun h1 => by rcases h.own i h1 with h2 | h2; exact ho h2; omega)).trans (h.keep i hi ho),
    fun i hi => by
      rcases k.own i hi with h1 | h1
      · exact h.own i h1
      · have := h.size; right; omega⟩
theorem Fr.below (h : Fr O O1 a b) (k : Below b.heap.size b c) : Fr O O1 a c := h.trans ⟨k.os, k.tape, k.output, k.size, fun i hi _ => k.block i hi, fun _ h => .inl h⟩
theorem Fr.alloc (h : Fr O O1 a b) (o : Obj) : Fr O O1 a (b.alloc o) := h.below ((Below.refl _ _).alloc (Nat.le_refl _) _)
theorem Fr.drew (h : Fr O O1 a b) : Fr O O1 a b.drew := h.below (Below.refl _ _).drew
theorem Fr.row (h : Fr O O1 a b) {g : Nat} (hg : a.heap.size ≤ g) (cs : Array Value) : Fr O O1 a (b.setRow g cs) :=
  ⟨h.os, h.tape, h.output, by simpa using h.size, fun k hk ho => (heap_setRow_other _ _ _ _ (by omega)).trans (h.keep k hk ho), h.own⟩
theorem Fr.toBelow {O' : Nat → Prop} (h : Fr (fun _ => False) O' a b) : Below a.heap.size a b := ⟨h.os, h.tape, h.output, h.size, fun k hk => h.keep k hk id⟩
theorem Fr.cell (h : Fr O O1 a b) {p : Addr} {v : Value} (hp : a.cell? p = some v) (ho : ¬ O p.block) : b.cell? p = some v :=
  (World.cell?_of_block (h.keep p.block (World.block_lt_of_cell? _ _ hp) ho)).trans hp
theorem Fr.blk (h : Fr O O1 a b) {g : Nat} {t : TypeId} {cs : List Value} (hb : Blk a g t cs) (ho : ¬ O g) : Blk b g t cs := (h.keep g hb.lt ho).trans hb
end
/-- What a function does that is handed to divided: G as a function, Inv as what it finds and leaves, in blocks O of its own, or below B. -/
structure Told {σ : Type} (K : Nat) (caps : Array Value) (G : σ → Nat → Nat → (List UInt8 × Bool) × σ) (N B : Nat) (Inv : σ → (Nat → Prop) → World → Prop) (P : σ → Nat → Prop) : Prop where
  enters : ∀ args w, (callFunc K args).run Tryd.prog w = .ok (.enter K args) w
  call : ∀ s O W (a b : Nat), Inv s O W → P s a → a < b → b ≤ N → Calls Tryd.prog K (#[.int .i64 (a : Int), .int .i64 (b : Int)] ++ caps) W fun e W' =>
    e = .returned (.tuple #[.agg (B8 (G s a b).1.1).toArray, .bool (G s a b).1.2]) ∧ ∃ O', Inv (G s a b).2 O' W' ∧ Fr O O' W W'
  next : ∀ s a b, P s a → a < b → (G s a b).1.2 = true → P (G s a b).2 b
  same : ∀ s a b, P s a → a < b → (G s a b).1.2 = false → P (G s a b).2 a
  one : ∀ s a b, b - a ≤ 1 → (G s a b).1.2 = true
  len : ∀ s a b, (G s a b).1.1.length = 16
  stay : ∀ s O W W', Inv s O W → W.heap.size ≤ W'.heap.size → (∀ k, k < W.heap.size → (k < B ∨ O k) → W'.heap[k]? = W.heap[k]?) → Inv s O W'
  lt : ∀ s O W, Inv s O W → B ≤ W.heap.size ∧ ∀ k, O k → k < W.heap.size
  tab : ∀ s O W, Inv s O W → Tab 1 W
section
variable {σ : Type} {K : Nat} {caps : Array Value} {G : σ → Nat → Nat → (List UInt8 × Bool) × σ} {N B : Nat} {Inv : σ → (Nat → Prop) → World → Prop} {P : σ → Nat → Prop}
/-- The state at a world, seen from an earlier one. -/
structure Now (Inv : σ → (Nat → Prop) → World → Prop) (s : σ) (O0 O : Nat → Prop) (w W : World) : Prop where
  inv : Inv s O W
  fr : Fr O0 O w W
variable {s : σ} {O0 O O1 : Nat → Prop} {w W W' : World}
theorem Now.below (T : Told K caps G N B Inv P) (h : Now Inv s O0 O w W) (hb : Below W.heap.size W W') : Now Inv s O0 O w W' :=
  ⟨T.stay _ _ _ _ h.inv hb.size (fun k hk _ => hb.block k hk), h.fr.below hb⟩
theorem Now.alloc (T : Told K caps G N B Inv P) (h : Now Inv s O0 O w W) (o : Obj) : Now Inv s O0 O w (W.alloc o) := h.below T ((Below.refl _ _).alloc (Nat.le_refl _) _)
theorem Now.drew (T : Told K caps G N B Inv P) (h : Now Inv s O0 O w W) : Now Inv s O0 O w W.drew := h.below T (Below.refl _ _).drew
theorem Now.row (T : Told K caps G N B Inv P) (h : Now Inv s O0 O w W) {g : Nat} (hg : w.heap.size ≤ g) (hB : B ≤ g) (ho : ¬ O g) (cs : Array Value) : Now Inv s O0 O w (W.setRow g cs) :=
  ⟨T.stay _ _ _ _ h.inv (by simp) (fun k hk hko => heap_setRow_other _ _ _ _ (by rintro rfl; rcases hko with h1 | h1; omega; exact ho h1)), h.fr.row hg _⟩
theorem Now.step {s' : σ} (h : Now Inv s O0 O w W) (hi : Inv s' O1 W') (hf : Fr O O1 W W') : Now Inv s' O0 O1 w W' := ⟨hi, h.fr.trans hf⟩
/-- A box for a digest that nobody else writes into. -/
structure Box (O : Nat → Prop) (W : World) (g : Nat) (cs : List Value) : Prop where
  blk : Blk W g 29 cs
  out : ¬ O g
theorem Box.below {g : Nat} {cs : List Value} (h : Box O W g cs) (hb : Below W.heap.size W W') : Box O W' g cs := ⟨h.blk.below hb h.blk.lt, h.out⟩
theorem Box.alloc {g : Nat} {cs : List Value} (h : Box O W g cs) (o : Obj) : Box O (W.alloc o) g cs := ⟨h.blk.alloc _, h.out⟩
theorem Box.drew {g : Nat} {cs : List Value} (h : Box O W g cs) : Box O W.drew g cs := ⟨h.blk.drew, h.out⟩
theorem Box.step {g : Nat} {cs : List Value} (h : Box O W g cs) (hf : Fr O O1 W W') : Box O1 W' g cs :=
  ⟨hf.blk h.blk h.out, fun h1 => by rcases hf.own g h1 with h2 | h2; exact h.out h2; have := h.blk.lt; omega⟩
theorem Box.new (T : Told K caps G N B Inv P) (h : Now Inv s O0 O w W) (cs : List Value) : Box O (W.alloc (.cells cs.toArray 29)) W.heap.size cs :=
  ⟨Blk.new _ _ _, fun h1 => by have := (T.lt _ _ _ h.inv).2 _ h1; omega⟩
theorem Box.row {g g' : Nat} {cs : List Value} (h : Box O W g cs) (hg : g ≠ g') (c : Array Value) : Box O (W.setRow g' c) g cs := ⟨h.blk.setRow hg _, h.out⟩
theorem Box.put {g : Nat} {cs : List Value} (h : Box O W g cs) (c : List Value) : Box O (W.setRow g c.toArray) g c := ⟨h.blk.row _, h.out⟩
/-- The state in the region that makes both halves: the boxes that are there. -/
def S5 (Inv : σ → (Nat → Prop) → World → Prop) (B : Nat) (O0 : Nat → Prop) (w : World) (s : σ) (bl br : Option Nat) (W : World) : Prop :=
  ∃ O, Now Inv s O0 O w W ∧ Box O W w.heap.size Z16 ∧ (∀ g, bl = some g → Box O W g Z16 ∧ w.heap.size < g ∧ B ≤ g) ∧ (∀ g, br = some g → Box O W g Z16 ∧ w.heap.size < g ∧ B ≤ g) ∧ ∀ g, bl = some g → br ≠ some g
/-- .. and when both are filled. -/
def E5 (Inv : σ → (Nat → Prop) → World → Prop) (O0 : Nat → Prop) (w : World) (s : σ) (D1 D2 : List UInt8) (gl gq : Nat) (W : World) : Prop :=
  ∃ O, Now Inv s O0 O w W ∧ Box O W w.heap.size Z16 ∧ Box O W gl (B8 D1) ∧ Box O W gq (B8 D2) ∧ gl ≠ w.heap.size ∧ gq ≠ w.heap.size
variable {bl br : Option Nat}
theorem S5.drew (T : Told K caps G N B Inv P) (h : S5 Inv B O0 w s bl br W) : S5 Inv B O0 w s bl br W.drew := by
  obtain ⟨O, h1, h2, h3, h4, h5⟩ := h
  exact ⟨O, h1.drew T, h2.drew, fun g hg => ⟨(h3 g hg).1.drew, (h3 g hg).2⟩, fun g hg => ⟨(h4 g hg).1.drew, (h4 g hg).2⟩, h5⟩
theorem S5.size (h : S5 Inv B O0 w s bl br W) (hz : B ≤ w.heap.size) : w.heap.size < W.heap.size ∧ B ≤ W.heap.size := by
  obtain ⟨O, h1, h2, _⟩ := h
  have := h2.blk.lt; omega
theorem S5.left (T : Told K caps G N B Inv P) (hz : B ≤ w.heap.size) (h : S5 Inv B O0 w s none br W) : S5 Inv B O0 w s (some W.heap.size) br (W.alloc (.cells Z16.toArray 29)) := by
  have hs := h.size hz
  obtain ⟨O, h1, h2, h3, h4, h5⟩ := h
  refine ⟨O, h1.alloc T _, h2.alloc _, fun g hg => ?_, fun g hg => ⟨(h4 g hg).1.alloc _, (h4 g hg).2⟩, fun g hg hg2 => ?_⟩
  · injection hg with hg; subst hg; exact ⟨Box.new T h1 Z16, hs⟩
  · injection hg with hg; subst hg; exact absurd (h4 _ hg2).1.blk.lt (Nat.lt_irrefl _)
theorem S5.right (T : Told K caps G N B Inv P) (hz : B ≤ w.heap.size) (h : S5 Inv B O0 w s bl none W) : S5 Inv B O0 w s bl (some W.heap.size) (W.alloc (.cells Z16.toArray 29)) := by
  have hs := h.size hz
  obtain ⟨O, h1, h2, h3, h4, h5⟩ := h
  refine ⟨O, h1.alloc T _, h2.alloc _, fun g hg => ⟨(h3 g hg).1.alloc _, (h3 g hg).2⟩, fun g hg => ?_, fun g hg hg2 => ?_⟩
  · injection hg with hg; subst hg; exact ⟨Box.new T h1 Z16, hs⟩
  · injection hg2 with hg2; subst hg2; exact absurd (h3 _ hg).1.blk.lt (Nat.lt_irrefl _)
theorem Fr.off {O O1 : Nat → Prop} {a b : World} (h : Fr O O1 a b) {g : Nat} (ho : ¬ O g) (hg : g < a.heap.size) : ¬ O1 g := fun h1 => by
  rcases h.own g h1 with h2 | h2
  · exact ho h2
  · omega
theorem S5.call (h : S5 Inv B O0 w s bl br W) {p : Addr} {v : Value} {q : Addr} {u : Value} (hp : w.cell? p = some v) (hpo : ¬ O0 p.block) (hq : w.cell? q = some u) (hqo : ¬ O0 q.block) :
    ∃ O, Inv s O W ∧ (W.cell? p = some v ∧ ¬ O p.block ∧ W.cell? q = some u ∧ ¬ O q.block) ∧ ∀ s' O' W', Inv s' O' W' → Fr O O' W W' → S5 Inv B O0 w s' bl br W' := by
  obtain ⟨O, h1, h2, h3, h4, h5⟩ := h
  exact ⟨O, h1.inv, ⟨h1.fr.cell hp hpo, h1.fr.off hpo (World.block_lt_of_cell? _ _ hp), h1.fr.cell hq hqo, h1.fr.off hqo (World.block_lt_of_cell? _ _ hq)⟩,
    fun s' O' W' hi hf => ⟨O', h1.step hi hf, h2.step hf, fun g hg => ⟨(h3 g hg).1.step hf, (h3 g hg).2⟩, fun g hg => ⟨(h4 g hg).1.step hf, (h4 g hg).2⟩, h5⟩⟩
theorem S5.cell (h : S5 Inv B O0 w s bl br W) {p : Addr} {v : Value} (hp : w.cell? p = some v) (hpo : ¬ O0 p.block) : W.cell? p = some v := by
  obtain ⟨O, h1, _⟩ := h; exact h1.fr.cell hp hpo
theorem S5.rows {gl gq : Nat} (h : S5 Inv B O0 w s (some gl) (some gq) W) (c : Array Value) : W.heap[gl]? = some (.cells Z16.toArray 29 (0, 0)) ∧ (W.setRow gl c).heap[gq]? = some (.cells Z16.toArray 29 (0, 0)) := by
  obtain ⟨O, h1, h2, h3, h4, h5⟩ := h
  refine ⟨(h3 gl rfl).1.blk, ?_⟩
  rw [heap_setRow_other _ _ _ _ (fun e => h5 gl rfl (by rw [e]))]
  exact (h4 gq rfl).1.blk
theorem S5.fill (T : Told K caps G N B Inv P) {gl gq : Nat} (h : S5 Inv B O0 w s (some gl) (some gq) W) (D1 D2 : List UInt8) : E5 Inv O0 w s D1 D2 gl gq ((W.setRow gl (B8 D1).toArray).setRow gq (B8 D2).toArray) := by
  obtain ⟨O, h1, h2, h3, h4, h5⟩ := h
  obtain ⟨l1, l2, l3⟩ := h3 gl rfl
  obtain ⟨q1, q2, q3⟩ := h4 gq rfl
  have hne : gl ≠ gq := fun e => h5 gl rfl (by rw [e])
  exact ⟨O, (h1.row T (Nat.le_of_lt l2) l3 l1.out _).row T (Nat.le_of_lt q2) q3 q1.out _, (h2.row (by omega) _).row (by omega) _, (l1.put _).row hne _, (q1.row hne.symm _).put _, by omega, by omega⟩
theorem S5.first (T : Told K caps G N B Inv P) (h : Inv s O0 w) {W1 : World} (hW : W1 = w.alloc (.cells Z16.toArray 29)) : S5 Inv B O0 w s none none W1 := by
  subst hW
  have h0 : Now Inv s O0 O0 w w := ⟨h, Fr.refl _ _⟩
  exact ⟨O0, h0.alloc T _, Box.new T h0 Z16, (fun g hg => by cases hg), (fun g hg => by cases hg), (fun g hg => by cases hg)⟩
theorem S5.below (T : Told K caps G N B Inv P) (h : S5 Inv B O0 w s bl br W) (hb : Below W.heap.size W W') : S5 Inv B O0 w s bl br W' := by
  obtain ⟨O, h1, h2, h3, h4, h5⟩ := h
  exact ⟨O, h1.below T hb, h2.below hb, fun g hg => ⟨(h3 g hg).1.below hb, (h3 g hg).2⟩, fun g hg => ⟨(h4 g hg).1.below hb, (h4 g hg).2⟩, h5⟩
/-- The end: the result's box is written. -/
theorem S5.close (T : Told K caps G N B Inv P) (hz : B ≤ w.heap.size) (h : S5 Inv B O0 w s bl br W) (c : Array Value) : ∃ O', Inv s O' (W.setRow w.heap.size c) ∧ Fr O0 O' w (W.setRow w.heap.size c) := by
  obtain ⟨O, h1, h2, _⟩ := h
  have := h1.row T (Nat.le_refl _) hz h2.out c
  exact ⟨O, this.inv, this.fr⟩
theorem S5.box (h : S5 Inv B O0 w s bl br W) : W.heap[w.heap.size]? = some (.cells Z16.toArray 29 (0, 0)) := by
  obtain ⟨O, h1, h2, _⟩ := h; exact h2.blk
theorem S5.tab (T : Told K caps G N B Inv P) (h : S5 Inv B O0 w s bl br W) : Tab 1 W := by
  obtain ⟨O, h1, _⟩ := h; exact T.tab _ _ _ h1.inv
section
variable {D1 D2 : List UInt8} {gl gq : Nat}
theorem E5.below (T : Told K caps G N B Inv P) (h : E5 Inv O0 w s D1 D2 gl gq W) (hb : Below W.heap.size W W') : E5 Inv O0 w s D1 D2 gl gq W' := by
  obtain ⟨O, h1, h2, h3, h4, h5⟩ := h
  exact ⟨O, h1.below T hb, h2.below hb, h3.below hb, h4.below hb, h5⟩
theorem E5.blks (h : E5 Inv O0 w s D1 D2 gl gq W) : Blk W gl 29 (B8 D1) ∧ Blk W gq 29 (B8 D2) := by
  obtain ⟨O, h1, h2, h3, h4, h5⟩ := h; exact ⟨h3.blk, h4.blk⟩
theorem E5.far (h : E5 Inv O0 w s D1 D2 gl gq W) : gl ≠ w.heap.size ∧ gq ≠ w.heap.size := by
  obtain ⟨O, h1, h2, h3, h4, h5⟩ := h; exact h5
theorem E5.rest (h : E5 Inv O0 w s D1 D2 gl gq W) (B : Nat) : S5 Inv B O0 w s none none W := by
  obtain ⟨O, h1, h2, h3, h4⟩ := h
  exact ⟨O, h1, h2, (fun g hg => by cases hg), (fun g hg => by cases hg), (fun g hg => by cases hg)⟩
end
end
end Go.Proofs.YtofccgkgjcnfbaaDoor
