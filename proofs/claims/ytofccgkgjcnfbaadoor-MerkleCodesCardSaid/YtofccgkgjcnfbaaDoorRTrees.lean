/-
  The reference's tree: mathematics, memory, of, row, root; the contracts of its Valid, From and Root.
  Conditions: lengths; the reference's table of the round constants is as the text lays it.
-/
import Derived.Test.YtofccgkgjcnfbaaDoorZ
import Derived.Test.YtofccgkgjcnfbaaDoorApis
import Derived.Test.YtofccgkgjcnfbaaDoorRHash
import Derived.Deep.AppendLies
import Derived.Test.YtofccgkgjcnfbaaDoorUnd
import Derived.Test.YtofccgkgjcnfbaaDoorValids
import Derived.Test.YtofccgkgjcnfbaaDoorGen
set_option linter.unusedSimpArgs false
namespace Go.Proofs.YtofccgkgjcnfbaaDoor
open Go.RowKit Wr Sh
set_option linter.unusedVariables false
set_option maxRecDepth 100000
abbrev kRTrees_0 : Oper := { dst := some 15, op := Op.load 47 (Operand.tmp 14), type := 47, pos := "ref.go:53", after := #[dD 3], guard := none }
abbrev kRTrees_1 : Oper := { dst := some 17, op := Op.convert 39 9 (Operand.tmp 16), type := 9, pos := "ref.go:53", after := #[dD 5], guard := none }
abbrev kRTrees_2 : Oper := { dst := some 18, op := Op.buildSlice 47 1 #[(0, Operand.tmp 17)], type := 47, pos := "ref.go:53", after := #[dD 6], guard := none }
abbrev kRTrees_3 : Oper := { dst := some 19, op := Op.call { callee := Callee.builtin Builtin.append, args := #[Operand.tmp 15, Operand.tmp 18], argTypes := #[47, 47] }, type := 47, pos := "ref.go:53", after := #[dD 4, dD 7], guard := none }
abbrev kRTrees_4 : Oper := { dst := some 20, op := Op.nilCheck (Operand.tmp 11), type := 0, pos := "ref.go:53", after := #[dD 0, dP 0, dP 1, dP 2, dP 3, dP 4, dP 5, dP 6, dP 7, dP 8], guard := none }
abbrev kRTrees_5 : Oper := { dst := some 21, op := Op.fieldAddr 104 (Operand.tmp 20) 0, type := 0, pos := "ref.go:53", after := #[dD 9, dP 0, dP 1, dP 2, dP 3, dP 4, dP 5, dP 6, dP 7, dP 8], guard := none }
abbrev kRTrees_6 : Oper := { dst := none, op := Op.store 47 (Operand.tmp 21) (Operand.tmp 19), type := 0, pos := "ref.go:53", after := #[dD 10, dD 8, dC 8, dP 0, dP 1, dP 2, dP 3, dP 4, dP 5, dP 6, dP 7, dP 8], guard := none }
abbrev kRTrees_7 : Oper := { dst := some 25, op := Op.move (Operand.tmp 0), type := 102, pos := "ref.go:69", after := #[], guard := none }
abbrev kRTrees_8 : Oper := { dst := some 26, op := Op.nilCheck (Operand.tmp 25), type := 0, pos := "ref.go:69", after := #[dD 0], guard := none }
abbrev kRTrees_9 : Oper := { dst := some 27, op := Op.fieldAddr 104 (Operand.tmp 26) 2, type := 0, pos := "ref.go:69", after := #[dD 1], guard := none }
abbrev kRTrees_10 : Oper := { dst := some 28, op := Op.load 3 (Operand.tmp 27), type := 3, pos := "ref.go:69", after := #[dD 2], guard := none }
abbrev kRTrees_11 : Oper := { dst := some 29, op := Op.move (Operand.tmp 0), type := 102, pos := "ref.go:69", after := #[], guard := none }
abbrev kRTrees_12 : Oper := { dst := some 30, op := Op.nilCheck (Operand.tmp 29), type := 0, pos := "ref.go:69", after := #[dD 4], guard := none }
abbrev kRTrees_13 : Oper := { dst := some 31, op := Op.fieldAddr 104 (Operand.tmp 30) 1, type := 0, pos := "ref.go:69", after := #[dD 5], guard := none }
abbrev kRTrees_14 : Oper := { dst := some 32, op := Op.load 48 (Operand.tmp 31), type := 48, pos := "ref.go:69", after := #[dD 6], guard := none }
abbrev kRTrees_15 : Oper := { dst := some 33, op := Op.call { callee := Callee.builtin Builtin.len, args := #[Operand.tmp 32], argTypes := #[48] }, type := 3, pos := "ref.go:69", after := #[dD 7], guard := none }
abbrev kRTrees_16 : Oper := { dst := some 34, op := Op.binOp BinOp.geq 3 (Operand.tmp 28) (Operand.tmp 33) 3, type := 4, pos := "ref.go:69", after := #[dD 3, dD 8], guard := none }
abbrev kRTrees_17 : Oper := { dst := some 47, op := Op.move (Operand.tmp 0), type := 102, pos := "ref.go:74", after := #[], guard := none }
abbrev kRTrees_18 : Oper := { dst := some 48, op := Op.nilCheck (Operand.tmp 47), type := 0, pos := "ref.go:74", after := #[dD 0], guard := none }
abbrev kRTrees_19 : Oper := { dst := some 49, op := Op.fieldAddr 104 (Operand.tmp 48) 1, type := 0, pos := "ref.go:74", after := #[dD 1], guard := none }
abbrev kRTrees_20 : Oper := { dst := some 50, op := Op.load 48 (Operand.tmp 49), type := 48, pos := "ref.go:74", after := #[dD 2], guard := none }
abbrev kRTrees_21 : Oper := { dst := some 51, op := Op.move (Operand.tmp 0), type := 102, pos := "ref.go:74", after := #[], guard := none }
abbrev kRTrees_22 : Oper := { dst := some 52, op := Op.nilCheck (Operand.tmp 51), type := 0, pos := "ref.go:74", after := #[dD 4], guard := none }
abbrev kRTrees_23 : Oper := { dst := some 53, op := Op.fieldAddr 104 (Operand.tmp 52) 2, type := 0, pos := "ref.go:74", after := #[dD 5], guard := none }
abbrev kRTrees_24 : Oper := { dst := some 54, op := Op.load 3 (Operand.tmp 53), type := 3, pos := "ref.go:74", after := #[dD 6], guard := none }
abbrev kRTrees_25 : Oper := { dst := some 55, op := Op.binOp BinOp.sub 3 (Operand.tmp 54) (Operand.const (Value.int IntKind.i64 1)) 3, type := 3, pos := "ref.go:74", after := #[dD 7], guard := none }
abbrev kRTrees_26 : Oper := { dst := some 56, op := Op.indexAddr 48 (Operand.tmp 50) (Operand.tmp 55), type := 0, pos := "ref.go:74", after := #[dD 3, dD 8], guard := none }
abbrev kRTrees_27 : Oper := { dst := some 57, op := Op.load 29 (Operand.tmp 56), type := 29, pos := "ref.go:74", after := #[dD 9], guard := none }
abbrev kRTrees_28 : Oper := { dst := none, op := Op.store 29 (Operand.tmp 10) (Operand.tmp 57), type := 0, pos := "ref.go:74", after := #[dD 10, dP 0, dP 1, dP 2, dP 3, dP 4, dP 5, dP 6, dP 7, dP 8, dP 9, dP 10], guard := none }
structure RS where
  texts : List ByteArray
  used : Nat
  short : Bool
def eL : Lf := (ByteArray.empty, ByteArray.empty)
def txt (t : UInt8) (l : List ByteArray) : ByteArray := bs (inp t l)
def RS.add (s : RS) (t : UInt8) (l : List ByteArray) : RS := ⟨s.texts ++ [txt t l], s.used, s.short⟩
def RS.take (S : List (List UInt8)) (s : RS) : List UInt8 × RS :=
  if S.length ≤ s.used then (Z16L, ⟨s.texts, s.used, true⟩) else (S.getD s.used Z16L, ⟨s.texts, s.used + 1, s.short⟩)
section
variable (L : List Lf) (first : Nat) (S : List (List UInt8))
def rrow (s : RS) (a b : Nat) : List UInt8 × RS :=
  if b ≤ first ∨ first + L.length ≤ a then s.take S
  else if h : b - a ≤ 1 then (lf (L.getD (a - first) eL), s.add 3 [(L.getD (a - first) eL).1, (L.getD (a - first) eL).2])
  else
    let x := rrow s a (a + half (b - a))
    let y := rrow x.2 (a + half (b - a)) b
    (node x.1 y.1, y.2.add 4 [bs x.1, bs y.1])
termination_by b - a
decreasing_by
  · have := half_lt (n := b - a) (by omega); omega
  · have := half_lt (n := b - a) (by omega); have := half_pos (b - a); omega
theorem rrow_told {s : RS} {a b : Nat} (h : b ≤ first ∨ first + L.length ≤ a) : rrow L first S s a b = s.take S := by rw [rrow, if_pos h]
theorem rrow_one {s : RS} {a b : Nat} (h : ¬ (b ≤ first ∨ first + L.length ≤ a)) (h1 : b - a ≤ 1) : rrow L first S s a b = (lf (L.getD (a - first) eL), s.add 3 [(L.getD (a - first) eL).1, (L.getD (a - first) eL).2]) := by
  rw [rrow, if_neg h, dif_pos h1]
theorem rrow_split {s : RS} {a b : Nat} (h : ¬ (b ≤ first ∨ first + L.length ≤ a)) (h1 : 1 < b - a) : rrow L first S s a b =
    (node (rrow L first S s a (a + half (b - a))).1 (rrow L first S (rrow L first S s a (a + half (b - a))).2 (a + half (b - a)) b).1,
     (rrow L first S (rrow L first S s a (a + half (b - a))).2 (a + half (b - a)) b).2.add 4 [bs (rrow L first S s a (a + half (b - a))).1, bs (rrow L first S (rrow L first S s a (a + half (b - a))).2 (a + half (b - a)) b).1]) := by
  conv => lhs; rw [rrow, if_neg h, dif_neg (by omega)]
theorem node_len (l r : List UInt8) : (node l r).length = 16 := dof_len _ _
theorem lf_len (x : Lf) : (lf x).length = 16 := dof_len _ _
theorem take_len (hS : ∀ d ∈ S, d.length = 16) (s : RS) : (s.take S).1.length = 16 := by
  unfold RS.take
  split
  · rfl
  · rw [List.getD_eq_getElem?_getD, List.getElem?_eq_getElem (by omega)]; exact hS _ (List.getElem_mem _)
theorem rrow_len (hS : ∀ d ∈ S, d.length = 16) (s : RS) (a b : Nat) : (rrow L first S s a b).1.length = 16 := by
  rw [rrow]
  split
  · exact take_len S hS s
  · split
    · exact lf_len _
    · exact node_len _ _
structure RU (u : Nat) (s : RS) : Prop where
  used : s.used = min u S.length
  short : s.short = decide (S.length < u)
end
def rroot (L : List Lf) (first : Nat) (S : List (List UInt8)) (s : RS) (n : Nat) : List UInt8 × RS :=
  if n = 0 then (top 0 none, s.add 4 [bs (enc 0)])
  else (top n (some (rrow L first S s 0 n).1), (rrow L first S s 0 n).2.add 4 [bs (enc n), bs (rrow L first S s 0 n).1])
def RS.new : RS := ⟨[], 0, false⟩
theorem rrow_tree (L : List Lf) (n : Nat) : ∀ (a b : Nat) (s : RS), b - a ≤ n → a < b → b ≤ L.length → (rrow L 0 [] s a b).1 = tree node (leafAt lf L) a b := by
  induction n with
  | zero => intro a b s h h2; omega
  | succ n ih =>
    intro a b s h h2 h3
    by_cases h1 : 1 < b - a
    · have := half_lt h1
      have := half_pos (b - a)
      rw [rrow_split L 0 [] (by omega) h1, tree_split node _ h1]
      show node _ _ = _
      rw [ih a (a + half (b - a)) s (by omega) (by omega) (by omega), ih (a + half (b - a)) b _ (by omega) (by omega) (by omega)]
    · rw [rrow_one L 0 [] (by omega) (by omega), tree_one node _ (by omega)]
      rfl
end Go.Proofs.YtofccgkgjcnfbaaDoor
namespace Go.Proofs.YtofccgkgjcnfbaaDoor
open Go.RowKit Wr Sh
set_option linter.unusedVariables false
set_option maxRecDepth 100000
theorem info9 : (Tryd.prog.info? 9).map (fun i => (i.zero, i.size, i.bytes)) = some (some (.string ⟨#[]⟩), 1, 16) := by kernel_rfl
structure StT (B g : Nat) (As : Option Addr) (ns cs : Nat) (v : Value) (s : RS) (W : World) : Prop where
  size : B ≤ W.heap.size
  blk : Blk W g 104 [v, .slice As ns cs, .int .i64 (s.used : Int), .bool s.short]
  row : W.ownsRow B 9 1 v s.texts.length (St s.texts)
theorem row_keep {W W' : World} {B e size n : Nat} {v : Value} {xs : List Value} (h : W.ownsRow B e size v n xs) (hk : ∀ k, k < W.heap.size → v.ownBlock = some k → W'.heap[k]? = W.heap[k]?) : W'.ownsRow B e size v n xs := by
  refine ⟨h.1, ?_⟩
  rcases h.2 with h0 | ⟨g, cap, cur, e, h1, h2, h3⟩
  · exact .inl h0
  · exact .inr ⟨g, cap, cur, e, h1, by rw [hk g (Array.getElem?_eq_some_iff.1 h2).1 (by rw [e]; rfl)]; exact h2, h3⟩
theorem lit_news (W : World) (u : Value) (t : TypeId) : ∀ (j : Nat) x, [u][j]? = some x → (W.alloc (.cells #[u] t)).cell? ((⟨W.heap.size, 0, none⟩ : Addr).add j) = some x := by
  intro j x hx
  rw [Addr.add_lit, Nat.zero_add, (Blk.new W t [u]).cell j]; exact hx
section
variable {B g : Nat} {As : Option Addr} {ns cs : Nat} {v v' : Value} {s s' : RS} {W W' : World}
theorem StT.keep (h : StT B g As ns cs v s W) (hs : W.heap.size ≤ W'.heap.size) (hk : ∀ k, k < W.heap.size → ownP g v k → W'.heap[k]? = W.heap[k]?) : StT B g As ns cs v s W' where
  size := Nat.le_trans h.size hs
  blk := (hk g h.blk.lt (.inl rfl)).trans h.blk
  row := row_keep h.row (fun k h1 h2 => hk k h1 (.inr h2))
theorem StT.below (h : StT B g As ns cs v s W) (hb : Below W.heap.size W W') : StT B g As ns cs v s W' := h.keep hb.size (fun k hk _ => hb.block k hk)
theorem StT.lt (h : StT B g As ns cs v s W) : ∀ k, ownP g v k → k < W.heap.size := by
  rintro k (rfl | hk)
  · exact h.blk.lt
  · exact (h.row.lt k hk).2
theorem StT.far (hgB : g < B) (h : StT B g As ns cs v s W) : ∀ k, ownP g v k → k = g ∨ B ≤ k := by
  rintro k (rfl | hk)
  · exact .inl rfl
  · exact .inr (h.row.lt k hk).1
theorem StT.row' (h : StT B g As ns cs v s W) {q : Nat} (hq : ¬ ownP g v q) (c : Array Value) : StT B g As ns cs v s (W.setRow q c) :=
  h.keep (by simp) (fun k _ hk => heap_setRow_other _ _ _ _ (by rintro rfl; exact hq hk))
end
structure T2 (B g : Nat) (As : Option Addr) (ns cs : Nat) (w : World) (v7 : Value) (n : Nat) (X : List UInt8) (v v' : Value) (s' : RS) (W : World) : Prop where
  st : StT B g As ns cs v' s' W
  fr : Fr (ownP g v) (ownP g v') w W
  z : Blk W w.heap.size 29 Z16
  row7 : W.ownsRow w.heap.size 5 1 v7 n (B8 X)
  out : ¬ ownP g v' w.heap.size
section
variable {B g : Nat} {As : Option Addr} {ns cs n : Nat} {v7 v v' : Value} {s s' : RS} {X : List UInt8} {w W W' : World}
theorem T2.below (h : T2 B g As ns cs w v7 n X v v' s' W) (hb : Below W.heap.size W W') : T2 B g As ns cs w v7 n X v v' s' W' :=
  ⟨h.st.below hb, h.fr.below hb, h.z.below hb h.z.lt, own_below h.row7 hb, h.out⟩
theorem T2.drew (h : T2 B g As ns cs w v7 n X v v' s' W) : T2 B g As ns cs w v7 n X v v' s' W.drew := h.below (Below.refl _ _).drew
theorem T2.alloc (h : T2 B g As ns cs w v7 n X v v' s' W) (o : Obj) : T2 B g As ns cs w v7 n X v v' s' (W.alloc o) := h.below ((Below.refl _ _).alloc (Nat.le_refl _) _)
theorem T2.rd7 {A7 : Option Addr} {c7 : Nat} (h : T2 B g As ns cs w (.slice A7 n c7) n X v v' s' W) : Rd W W.heap.size A7 (B8 X) := Rd.of_own h.row7
theorem T2.cell9 (h : T2 B g As ns cs w v7 n X v v' s' W) (hgB : g < B) (hg : W.grownBy W' v'.ownBlock) : W'.cell? ⟨g, 0, none⟩ = some v' :=
  ((h.st.blk.grown hg (fun e => by have := (h.st.row.lt g e.symm).1; omega)).cell 0).trans rfl
theorem T2.frozen9 (h : T2 B g As ns cs w v7 n X v v' s' W) (hgB : g < B) (hg : W.grownBy W' v'.ownBlock) : W'.frozen? ⟨g, 0, none⟩ = false :=
  (h.st.blk.grown hg (fun e => by have := (h.st.row.lt g e.symm).1; omega)).frozen 0
theorem T2.put (h : T2 B g As ns cs w v7 n X v v' s W) (hgB : g < B) (hlt : ∀ k, ownP g v' k → k < w.heap.size) {q cap : Nat}
    (ho : W'.ownsRow B 9 1 (.slice (some ⟨q, 0, none⟩) (s.texts.length + 1) cap) (s.texts.length + 1) (St s.texts ++ [.string (bs X)])) (hg : W.grownBy W' v'.ownBlock) (hq : v'.ownBlock = some q ∨ q = W.heap.size) (hl : q < W'.heap.size) :
    T2 B g As ns cs w v7 n X v (.slice (some ⟨q, 0, none⟩) (s.texts.length + 1) cap) ⟨s.texts ++ [bs X], s.used, s.short⟩ (W'.setCell ⟨g, 0, none⟩ (.slice (some ⟨q, 0, none⟩) (s.texts.length + 1) cap)) := by
  have hv : ∀ k, v'.ownBlock = some k → B ≤ k := fun k hk => (h.st.row.lt k hk).1
  have hbg : Blk W' g 104 [v', .slice As ns cs, .int .i64 (s.used : Int), .bool s.short] := h.st.blk.grown hg (fun e => by have := hv g e.symm; omega)
  have hqB : B ≤ q := (ho.lt q rfl).1
  have hs : W.heap.size ≤ (W'.setCell ⟨g, 0, none⟩ (.slice (some ⟨q, 0, none⟩) (s.texts.length + 1) cap)).heap.size := by simp [World.setCell]; exact hg.size
  have hzlt := h.z.lt
  have hBw : B ≤ W.heap.size := h.st.size
  have hkeep : ∀ k, k < W.heap.size → ¬ ownP g v' k → (W'.setCell ⟨g, 0, none⟩ (.slice (some ⟨q, 0, none⟩) (s.texts.length + 1) cap)).heap[k]? = W.heap[k]? := fun k h1 h2 =>
    (Below.heap_setCell _ _ _ _ (fun e => h2 (.inl e))).trans (hg.block k h1 (fun e => h2 (.inr e.symm)))
  refine ⟨⟨Nat.le_trans hBw hs, hbg.put 0 _, ?_⟩, ?_, ?_, ?_, ?_⟩
  · have e : s.texts.length + 1 = (s.texts ++ [bs X]).length := by simp
    have e2 : St s.texts ++ [.string (bs X)] = St (s.texts ++ [bs X]) := by simp [St]
    show World.ownsRow _ _ _ _ _ (s.texts ++ [bs X]).length (St (s.texts ++ [bs X]))
    rw [← e, ← e2]
    exact row_keep ho (fun k _ hk => Below.heap_setCell _ _ _ _ (by have : q = k := by simpa [Value.ownBlock] using hk
                                                                    show k ≠ g; omega))
  · refine h.fr.trans ⟨hg.os, hg.tape, hg.output, hs, hkeep, ?_⟩
    rintro k (rfl | hk)
    · exact .inl (.inl rfl)
    · have : q = k := by simpa [Value.ownBlock] using hk
      subst this
      rcases hq with h1 | h1
      · exact .inl (.inr h1)
      · right; omega
  · exact (hkeep _ hzlt (fun h1 => by have := hlt _ h1; omega)).trans h.z
  · exact row_keep h.row7 (fun k h1 h2 => hkeep k h1 (fun h3 => by have := hlt _ h3; have := (h.row7.lt k h2).1; omega))
  · rintro (h1 | h1)
    · exact h.out (.inl h1)
    · have : q = w.heap.size := by simpa [Value.ownBlock] using h1
      subst this
      rcases hq with h2 | h2
      · exact h.out (.inr h2)
      · omega
end
set_option maxHeartbeats 4000000 in
theorem tof_any (B g : Nat) (As : Option Addr) (ns cs : Nat) (hgB : g < B) (h0 : 0 < g) (tag : Int) (t8 : UInt8) (htag : IntKind.u8.wrap tag = (t8.toNat : Int)) (A : Option Addr) (l : List ByteArray) (M : Nat) (hM : M = l.length) (c : Nat) (v : Value) (s : RS) (w : World)
    (h : StT B g As ns cs v s w) (hln : s.texts.length ≤ 1000000) (hr : Rd w w.heap.size A (St l)) (hsz : (inp t8 l).length ≤ 274877906944) (ht : Tab 0 w) (D : List UInt8) (hD : Hid (D = dof t8 l)) :
    Calls Tryd.prog 82 #[.pointer (some ⟨g, 0, none⟩), .int .i64 tag, .slice A M c] w fun e w' => e = .returned (.agg (B8 D).toArray) ∧ ∃ v', StT B g As ns cs v' (s.add t8 l) w' ∧ Fr (ownP g v) (ownP g v') w w' := by
  subst hM
  have hZ := hZ16
  have HDl := Lh (show D.length = 16 by rw [hD.out]; exact dof_len _ _)
  obtain ⟨i0, hi0, hz0, hz1, hz2⟩ := info_parts info9
  have HI := Lh (And.intro hi0 (And.intro hz0 (And.intro hz1 hz2)))
  obtain ⟨X, hX⟩ : ∃ X, X = inp t8 l := ⟨_, rfl⟩
  obtain ⟨n, hn⟩ : ∃ n, n = X.length := ⟨_, rfl⟩
  have HN0 := Lh (show 0 < n by rw [hn, hX]; unfold inp; simp)
  have HLT := Lh h.lt
  obtain ⟨W1, hW1⟩ : ∃ W, W = w.alloc (.cells Z16.toArray 29) := ⟨_, rfl⟩
  have B1 := Lh (show Below w.heap.size w W1 by rw [hW1]; exact (Below.refl _ _).alloc (Nat.le_refl _) _)
  have Z1 := Lh (show Blk W1 w.heap.size 29 Z16 by rw [hW1]; exact Blk.new w 29 Z16)
  have HIN := Lh (input_tag tag t8 htag A l c W1 ((hr.below B1.out).more B1.out.size) hsz)
  rw [← hX, ← hn] at HIN
  have HXS := Lh (show X.length ≤ 549755813888 by rw [hX]; omega)
  have HX := Lh hn
  have HADD := Lh (show (⟨s.texts ++ [bs X], s.used, s.short⟩ : RS) = s.add t8 l by rw [hX]; rfl)
  have HDD := Lh (show D = (sha X).take 16 by rw [hX]; exact hD.out)
  have HS := Lh h
  have HTb := Lh ht
  have HLN := Lh hln
  have HW := Lh hW1
  have hsz1 : w.heap.size ≤ W1.heap.size := B1.out.size
  clear h hln hr hsz ht hX hn hW1 hi0 hz0 hz1 hz2 hD
  generalize l.length = N at HIN ⊢
  go_enter Tryd.func82, Tryd.ntmps82
  go_upto_region 2 with (go_at_call 75; rw [← HW.out]; refine HIN.out.mono ?_; rintro e w2 ⟨v7, rfl, ho7, hb7⟩; have HO7 := Lh ho7; have HB7 := Lh hb7; clear ho7 hb7)
  obtain ⟨A7, c7, rfl, _, _, _⟩ := own_form HO7.out
  have K2 := Lh (show T2 B g As ns cs w (.slice A7 n c7) n X v v s w2 from
    ⟨HS.out.below (B1.out.trans (HB7.out.mono B1.out.size)), (Fr.refl _ _).below (B1.out.trans (HB7.out.mono B1.out.size)), Z1.out.below HB7.out Z1.out.lt, own_base HO7.out hsz1, fun h1 => by have := HLT.out _ h1; omega⟩)
  clear HIN HW HO7 HB7 Z1 B1
  go_cut [7] (fun s7 wx => s7 = .slice A7 n c7 ∧ ∃ v', Hid (T2 B g As ns cs w (.slice A7 n c7) n X v v' ⟨s.texts ++ [bs X], s.used, s.short⟩ wx))
  case first =>
    refine wp_region_any (by kernel_rfl) ?_
    change wpAny _ _ _ _ _ _ _ (World.drew w2)
    have k0 := Lh K2.out.drew
    generalize World.drew w2 = Wd at k0 ⊢
    refine tk 0 ({ dst := some 11, op := Op.move (Operand.tmp 0), type := 102, pos := "ref.go:53", after := #[], guard := none }) (.pointer (some ⟨g, 0, none⟩)) (fun W => ?y1) ?_
    case y1 => go_simp
    try simp only [zp, zn, z1, z2, z3]
    refine tk 1 ({ dst := some 12, op := Op.move (Operand.tmp 0), type := 102, pos := "ref.go:53", after := #[], guard := none }) (.pointer (some ⟨g, 0, none⟩)) (fun W => ?y2) ?_
    case y2 => go_simp
    try simp only [zp, zn, z1, z2, z3]
    refine tk 2 ({ dst := some 13, op := Op.nilCheck (Operand.tmp 12), type := 0, pos := "ref.go:53", after := #[dD 1], guard := none }) (.pointer (some ⟨g, 0, none⟩)) (fun W => ?y3) ?_
    case y3 => go_simp
    try simp only [zp, zn, z1, z2, z3]
    refine tk 3 ({ dst := some 14, op := Op.fieldAddr 104 (Operand.tmp 13) 0, type := 0, pos := "ref.go:53", after := #[dD 2], guard := none }) (.pointer (some ⟨g, 0, none⟩)) (fun W => ?y4) ?_
    case y4 => go_simp
    try simp only [zp, zn, z1, z2, z3]
    refine tk 5 ({ dst := some 16, op := Op.move (Operand.tmp 7), type := 39, pos := "ref.go:53", after := #[], guard := none }) (.slice A7 n c7) (fun W => ?y5) ?_
    case y5 => go_simp
    try simp only [zp, zn, z1, z2, z3]
    refine wpAny_ready (rs := [4, 6]) (by kernel_rfl) (by simp) ?_
    refine AllReady.cons (o := kRTrees_0) rfl (fun K hK => ?_) (AllReady.cons (o := kRTrees_1) rfl (fun K hK => ?_) AllReady.nil)
    · rw [if_pos (by rfl)]
      have hcl := k0.out.st.blk.cell 0
      simp only [List.getElem?_cons_zero] at hcl
      go_simp
      clear hcl
      refine hK _ _ ?_
      clear hK K
      try simp only [zp, zn, z1, z2, z3]
      refine wpAny_ready (rs := [6]) (by kernel_rfl) (by simp) ?_
      refine AllReady.cons (o := kRTrees_1) rfl (fun K hK => ?_) AllReady.nil
      rw [if_pos (by rfl)]
      have hcv := conv_rd A7 X c7 _ _ (T2.rd7 k0.out) n HX.out HN0.out
      go_simp
      clear hcv
      refine hK _ _ ?_
      clear hK K
      try simp only [zp, zn, z1, z2, z3]
      refine wpAny_ready (rs := [7]) (by kernel_rfl) (by simp) ?_
      refine AllReady.cons (o := kRTrees_2) rfl (fun K hK => ?_) AllReady.nil
      rw [if_pos (by rfl)]
      have k6 := Lh (k0.out.alloc (.cells #[.string (bs X)] 9))
      have m8 := Lh (rd_new Wd [.string (bs X)] 9)
      go_simp
      refine hK _ _ ?_
      clear hK K
      try simp only [zp, zn, z1, z2, z3]
      refine wpAny_ready (rs := [8]) (by kernel_rfl) (by simp) ?_
      refine AllReady.cons (o := kRTrees_3) rfl (fun K hK => ?_) AllReady.nil
      rw [if_pos (by rfl)]
      refine wp_append_lies _ (.tmp 15) (.tmp 18) 47 rfl B 9 i0 (.string ⟨#[]⟩) 1 16 Tryd.underlying47 HI.out.1 HI.out.2.1 HI.out.2.2.1 HI.out.2.2.2 rfl (by decide) v s.texts.length (St s.texts) rfl k6.out.st.row ⟨Wd.heap.size, 0, none⟩ 1 1 [.string (bs X)] rfl rfl (lit_news _ _ _) (by simp [Value.oneCell']) (by decide) (by unfold maxLen; have := HLN.out; omega) (by have := HLN.out; omega) k6.out.st.size _ rfl ?_
      intro q cap w9 ho9 hg9 hq9 hl9
      have KP := Lh (k6.out.put hgB HLT.out ho9 hg9 hq9 hl9)
      have c9 : w9.cell? ⟨g, 0, none⟩ = some v := k6.out.cell9 hgB hg9
      have f9 : w9.frozen? ⟨g, 0, none⟩ = false := k6.out.frozen9 hgB hg9
      clear ho9 hg9 hq9 hl9
      refine hK _ _ ?_
      clear hK K
      try simp only [zp, zn, z1, z2, z3]
      refine tk 9 kRTrees_4 (.pointer (some ⟨g, 0, none⟩)) (fun W => ?y9) ?_
      case y9 => go_simp
      try simp only [zp, zn, z1, z2, z3]
      refine tk 10 kRTrees_5 (.pointer (some ⟨g, 0, none⟩)) (fun W => ?y10) ?_
      case y10 => go_simp
      try simp only [zp, zn, z1, z2, z3]
      refine wpAny_ready (rs := [11]) (by kernel_rfl) (by simp) ?_
      refine AllReady.cons (o := kRTrees_6) rfl (fun K hK => ?_) AllReady.nil
      rw [if_pos (by rfl)]
      go_simp
      refine hK _ _ ?_
      clear hK K
      try simp only [zp, zn, z1, z2, z3]
      refine wpAny_done (by kernel_rfl) ?_ _
      try simp only [zp, zn, z1, z2, z3]
      go_wp2_with fail
      go_meet
      exact ⟨rfl, _, KP⟩
    · rw [if_pos (by rfl)]
      have hcv := conv_rd A7 X c7 _ _ (T2.rd7 k0.out) n HX.out HN0.out
      go_simp
      clear hcv
      refine hK _ _ ?_
      clear hK K
      try simp only [zp, zn, z1, z2, z3]
      refine wpAny_ready (rs := [4, 7]) (by kernel_rfl) (by simp) ?_
      refine AllReady.cons (o := kRTrees_0) rfl (fun K hK => ?_) (AllReady.cons (o := kRTrees_2) rfl (fun K hK => ?_) AllReady.nil)
      · rw [if_pos (by rfl)]
        have hcl := k0.out.st.blk.cell 0
        simp only [List.getElem?_cons_zero] at hcl
        go_simp
        clear hcl
        refine hK _ _ ?_
        clear hK K
        try simp only [zp, zn, z1, z2, z3]
        refine wpAny_ready (rs := [7]) (by kernel_rfl) (by simp) ?_
        refine AllReady.cons (o := kRTrees_2) rfl (fun K hK => ?_) AllReady.nil
        rw [if_pos (by rfl)]
        have k11 := Lh (k0.out.alloc (.cells #[.string (bs X)] 9))
        have m13 := Lh (rd_new Wd [.string (bs X)] 9)
        go_simp
        refine hK _ _ ?_
        clear hK K
        try simp only [zp, zn, z1, z2, z3]
        refine wpAny_ready (rs := [8]) (by kernel_rfl) (by simp) ?_
        refine AllReady.cons (o := kRTrees_3) rfl (fun K hK => ?_) AllReady.nil
        rw [if_pos (by rfl)]
        refine wp_append_lies _ (.tmp 15) (.tmp 18) 47 rfl B 9 i0 (.string ⟨#[]⟩) 1 16 Tryd.underlying47 HI.out.1 HI.out.2.1 HI.out.2.2.1 HI.out.2.2.2 rfl (by decide) v s.texts.length (St s.texts) rfl k11.out.st.row ⟨Wd.heap.size, 0, none⟩ 1 1 [.string (bs X)] rfl rfl (lit_news _ _ _) (by simp [Value.oneCell']) (by decide) (by unfold maxLen; have := HLN.out; omega) (by have := HLN.out; omega) k11.out.st.size _ rfl ?_
        intro q cap w9 ho9 hg9 hq9 hl9
        have KP := Lh (k11.out.put hgB HLT.out ho9 hg9 hq9 hl9)
        have c9 : w9.cell? ⟨g, 0, none⟩ = some v := k11.out.cell9 hgB hg9
        have f9 : w9.frozen? ⟨g, 0, none⟩ = false := k11.out.frozen9 hgB hg9
        clear ho9 hg9 hq9 hl9
        refine hK _ _ ?_
        clear hK K
        try simp only [zp, zn, z1, z2, z3]
        refine tk 9 kRTrees_4 (.pointer (some ⟨g, 0, none⟩)) (fun W => ?y14) ?_
        case y14 => go_simp
        try simp only [zp, zn, z1, z2, z3]
        refine tk 10 kRTrees_5 (.pointer (some ⟨g, 0, none⟩)) (fun W => ?y15) ?_
        case y15 => go_simp
        try simp only [zp, zn, z1, z2, z3]
        refine wpAny_ready (rs := [11]) (by kernel_rfl) (by simp) ?_
        refine AllReady.cons (o := kRTrees_6) rfl (fun K hK => ?_) AllReady.nil
        rw [if_pos (by rfl)]
        go_simp
        refine hK _ _ ?_
        clear hK K
        try simp only [zp, zn, z1, z2, z3]
        refine wpAny_done (by kernel_rfl) ?_ _
        try simp only [zp, zn, z1, z2, z3]
        go_wp2_with fail
        go_meet
        exact ⟨rfl, _, KP⟩
      · rw [if_pos (by rfl)]
        have k16 := Lh (k0.out.alloc (.cells #[.string (bs X)] 9))
        have m18 := Lh (rd_new Wd [.string (bs X)] 9)
        go_simp
        refine hK _ _ ?_
        clear hK K
        try simp only [zp, zn, z1, z2, z3]
        refine wpAny_ready (rs := [4]) (by kernel_rfl) (by simp) ?_
        refine AllReady.cons (o := kRTrees_0) rfl (fun K hK => ?_) AllReady.nil
        rw [if_pos (by rfl)]
        have hcl := k16.out.st.blk.cell 0
        simp only [List.getElem?_cons_zero] at hcl
        go_simp
        clear hcl
        refine hK _ _ ?_
        clear hK K
        try simp only [zp, zn, z1, z2, z3]
        refine wpAny_ready (rs := [8]) (by kernel_rfl) (by simp) ?_
        refine AllReady.cons (o := kRTrees_3) rfl (fun K hK => ?_) AllReady.nil
        rw [if_pos (by rfl)]
        refine wp_append_lies _ (.tmp 15) (.tmp 18) 47 rfl B 9 i0 (.string ⟨#[]⟩) 1 16 Tryd.underlying47 HI.out.1 HI.out.2.1 HI.out.2.2.1 HI.out.2.2.2 rfl (by decide) v s.texts.length (St s.texts) rfl k16.out.st.row ⟨Wd.heap.size, 0, none⟩ 1 1 [.string (bs X)] rfl rfl (lit_news _ _ _) (by simp [Value.oneCell']) (by decide) (by unfold maxLen; have := HLN.out; omega) (by have := HLN.out; omega) k16.out.st.size _ rfl ?_
        intro q cap w9 ho9 hg9 hq9 hl9
        have KP := Lh (k16.out.put hgB HLT.out ho9 hg9 hq9 hl9)
        have c9 : w9.cell? ⟨g, 0, none⟩ = some v := k16.out.cell9 hgB hg9
        have f9 : w9.frozen? ⟨g, 0, none⟩ = false := k16.out.frozen9 hgB hg9
        clear ho9 hg9 hq9 hl9
        refine hK _ _ ?_
        clear hK K
        try simp only [zp, zn, z1, z2, z3]
        refine tk 9 kRTrees_4 (.pointer (some ⟨g, 0, none⟩)) (fun W => ?y19) ?_
        case y19 => go_simp
        try simp only [zp, zn, z1, z2, z3]
        refine tk 10 kRTrees_5 (.pointer (some ⟨g, 0, none⟩)) (fun W => ?y20) ?_
        case y20 => go_simp
        try simp only [zp, zn, z1, z2, z3]
        refine wpAny_ready (rs := [11]) (by kernel_rfl) (by simp) ?_
        refine AllReady.cons (o := kRTrees_6) rfl (fun K hK => ?_) AllReady.nil
        rw [if_pos (by rfl)]
        go_simp
        refine hK _ _ ?_
        clear hK K
        try simp only [zp, zn, z1, z2, z3]
        refine wpAny_done (by kernel_rfl) ?_ _
        try simp only [zp, zn, z1, z2, z3]
        go_wp2_with fail
        go_meet
        exact ⟨rfl, _, KP⟩
  case rest =>
    obtain ⟨rfl, v', KQ⟩ := hcut
    obtain ⟨w4, hw4⟩ : ∃ w4, w4 = wc := ⟨_, rfl⟩
    rw [← hw4] at KQ ⊢
    clear hw4
    have HT4 := Lh (show Tab 0 w4 from by
      have h1 := HTb.out
      have hno : ¬ ownP g v 0 := fun h2 => by rcases HS.out.far hgB 0 h2 with h3 | h3 <;> omega
      exact ⟨Nat.lt_of_lt_of_le h1.1 KQ.out.fr.size, fun t ht => KQ.out.fr.cell (p := ⟨0, t, none⟩) (h1.2 t ht) hno⟩)
    have HSH := Lh (short_go X (.slice A7 n c7) w.heap.size w4 w4 (by rw [← HX.out]; exact KQ.out.row7) (Below.refl _ _) HXS.out HT4.out (sha X) (Lh rfl))
    rw [← HDD.out] at HSH
    go_wp2_with (first
      | (go_at_call 74; refine HSH.out.mono ?_; rintro e w5 ⟨rfl, hb5⟩; have K5 := Lh (KQ.out.below hb5); have Z5 := Lh (show w5.heap[w.heap.size]? = some (.cells Z16.toArray 29 (0, 0)) from K5.out.z); clear hb5)
      | (with_reducible refine wpList_store_row rfl 29 (.tmp 6) (.tmp 23) rfl w.heap.size (B8 D).toArray rfl rfl 29 _ Z5.out (size29' _ HDl.out) (Z16_size _ HDl.out) (one8 _) ?_))
    refine bodyPost_ret (v := .agg (B8 D).toArray) ?_ rfl ⟨rfl, v', ?_, ?_⟩
    · have hr := run_loadVar_row (P := Tryd.prog) _ w.heap.size 29 29 (B8 D).toArray (0, 0) (.array 16 5) (heap_setRow w5 w.heap.size (B8 D).toArray _ 29 Z5.out) Tryd.underlying29 rfl (size29' _ HDl.out)
      simp [results, asAddr, hr, Act.put]
    · rw [← HADD.out]
      exact K5.out.st.row' K5.out.out _
    · exact K5.out.fr.row (Nat.le_refl _) _
end Go.Proofs.YtofccgkgjcnfbaaDoor
namespace Go.Proofs.YtofccgkgjcnfbaaDoor
open Go.RowKit Wr Sh
set_option linter.unusedVariables false
set_option maxRecDepth 100000
theorem half_of (m j n : Nat) (h : m = 2 ^ j) (h1 : m < n) (h2 : n ≤ 2 * m) : half n = m := by
  unfold half
  have : Nat.log2 (n - 1) = j := by
    rw [Nat.log2_eq_iff (by omega)]
    rw [Nat.pow_succ, ← h]; omega
  rw [this, h]
set_option maxHeartbeats 1000000 in
theorem half_any (n : Nat) (w : World) (h1 : 1 < n) (h2 : n ≤ 1073741824) : Calls Tryd.prog 105 #[.int .i64 (n : Int)] w fun e w' => e = .returned (.int .i64 (half n : Nat)) ∧ w = w' := by
  go_enter Tryd.func105, Tryd.ntmps105
  go_wp2
  go_loopw [3] (fun s3 wr => ∃ j m : Nat, Hid (m = 2 ^ j) ∧ m < n ∧ 0 < m ∧ s3 = .int .i64 (m : Int) ∧ w = wr) (fun s3 _ => n - (intOf s3).toNat)
  case atStart => exact ⟨0, 1, Lh rfl, h1, by omega, rfl, rfl⟩
  case round =>
    obtain ⟨j, m, HM, hm, hm0, rfl, rfl⟩ := hrel
    obtain ⟨d, hd⟩ : ∃ d, d = 2 * m := ⟨_, rfl⟩
    have q : IntKind.i64.wrap (2 * (m : Int)) = (d : Int) := by rw [IntWalk.i64_in _ (by omega)]; omega
    by_cases hlt : d < n
    · have hlt2 : (d : Int) < (n : Int) := by omega
      go_wp2
      go_roundw
      case rel => exact ⟨j + 1, d, Lh (by rw [Nat.pow_succ, ← HM.out]; omega), hlt, by omega, by first | rfl | go_num, by first | rfl | trivial⟩
      case measure => simp only [intOf]; omega
    · have hlt2 : ¬ (d : Int) < (n : Int) := by omega
      go_wp2
      go_ret
      exact ⟨by rw [half_of m j n HM.out hm (by omega)]; rfl, rfl⟩
theorem exec_load_row {P : Program} (o : Oper) (ev : Operand → Value) (ty : TypeId) (x : Operand) (ho : o.op = .load ty x) (ad : Addr) (hx : ev x = .pointer (some ad)) (cs : List Value) (W : World) (hl : (loadVar ty ad).run P W = .ok (.agg cs.toArray) W) : (execOp ev o).run P W = .ok (.value (.agg cs.toArray)) W := by
  unfold execOp
  simp only [ho, hx, Instr.loadAt, Instr.sureAddr, Sem.run_bind, Sem.run_pure, Result.andThen_ok, hl]
structure R1 (B g : Nat) (As : Option Addr) (ns cs : Nat) (w : World) (v v' : Value) (s' : RS) (W : World) : Prop where
  st : StT B g As ns cs v' s' W
  fr : Fr (ownP g v) (ownP g v') w W
  z : Blk W w.heap.size 29 Z16
  out : ¬ ownP g v' w.heap.size
section
variable {B g : Nat} {As : Option Addr} {ns cs : Nat} {v v' v2 : Value} {s s' s2 : RS} {w W W' : World}
theorem R1.below (h : R1 B g As ns cs w v v' s' W) (hb : Below W.heap.size W W') : R1 B g As ns cs w v v' s' W' := ⟨h.st.below hb, h.fr.below hb, h.z.below hb h.z.lt, h.out⟩
theorem R1.drew (h : R1 B g As ns cs w v v' s' W) : R1 B g As ns cs w v v' s' W.drew := h.below (Below.refl _ _).drew
theorem R1.alloc (h : R1 B g As ns cs w v v' s' W) (o : Obj) : R1 B g As ns cs w v v' s' (W.alloc o) := h.below ((Below.refl _ _).alloc (Nat.le_refl _) _)
theorem R1.step (h : R1 B g As ns cs w v v' s' W) (hst : StT B g As ns cs v2 s2 W') (hf : Fr (ownP g v') (ownP g v2) W W') : R1 B g As ns cs w v v2 s2 W' :=
  ⟨hst, h.fr.trans hf, hf.blk h.z h.out, hf.off h.out h.z.lt⟩
theorem R1.first (h : StT B g As ns cs v s w) (hW : W = w.alloc (.cells Z16.toArray 29)) : R1 B g As ns cs w v v s W := by
  subst hW
  exact ⟨h.below ((Below.refl _ _).alloc (Nat.le_refl _) _), (Fr.refl _ _).alloc _, Blk.new w 29 Z16, fun h1 => by have := h.lt _ h1; omega⟩
theorem R1.set (h : R1 B g As ns cs w v v' s' W) (hgw : g < w.heap.size) (hgB : g < B) (i : Nat) (u : Value) (u2 : Nat) (b2 : Bool)
    (hu : [v', .slice As ns cs, .int .i64 (s'.used : Int), .bool s'.short].set i u = [v', .slice As ns cs, .int .i64 (u2 : Int), .bool b2]) : R1 B g As ns cs w v v' ⟨s'.texts, u2, b2⟩ (W.setCell ⟨g, i, none⟩ u) := by
  refine ⟨⟨Nat.le_trans h.st.size (by simp [World.setCell]), by rw [← hu]; exact h.st.blk.put i u, row_keep h.st.row (fun k h1 h2 => Below.heap_setCell _ _ _ _ (by have := (h.st.row.lt k h2).1; show k ≠ g; omega))⟩, ?_, h.z.far (p := ⟨g, i, none⟩) (by show w.heap.size ≠ g; omega) u, h.out⟩
  exact h.fr.trans ⟨rfl, rfl, rfl, by simp [World.setCell], fun k hk ho => Below.heap_setCell _ _ _ _ (fun e => ho (.inl e)), fun k hk => .inl hk⟩
theorem R1.close (h : R1 B g As ns cs w v v' s' W) (c : Array Value) : StT B g As ns cs v' s' (W.setRow w.heap.size c) ∧ Fr (ownP g v) (ownP g v') w (W.setRow w.heap.size c) :=
  ⟨h.st.row' h.out c, h.fr.row (Nat.le_refl _) c⟩
end
structure EnvT (g : Nat) (AL : Option Addr) (L : List Lf) (As : Option Addr) (S : List (List UInt8)) (W : World) : Prop where
  leaves : Rd W g AL (LC L)
  sides : Rd W g As (B8 S.flatten)
  tab : Tab 0 W
section
variable {g B : Nat} {AL As : Option Addr} {L : List Lf} {S : List (List UInt8)} {ns cs : Nat} {v v' : Value} {s : RS} {O : Nat → Prop} {W W' : World}
theorem EnvT.keep (h : EnvT g AL L As S W) (h0 : 0 < g) (hs : W.heap.size ≤ W'.heap.size) (hk : ∀ k, k < g → W'.heap[k]? = W.heap[k]?) : EnvT g AL L As S W' :=
  ⟨h.leaves.keep (fun p hp => World.cell?_of_block (hk _ hp)), h.sides.keep (fun p hp => World.cell?_of_block (hk _ hp)), Nat.lt_of_lt_of_le h.tab.1 hs, fun t ht => (World.cell?_of_block (a := ⟨0, t, none⟩) (hk 0 h0)).trans (h.tab.2 t ht)⟩
theorem EnvT.fr (h : EnvT g AL L As S W) (h0 : 0 < g) (hgB : g < B) (hst : StT B g As ns cs v s W) (hf : Fr (ownP g v) O W W') : EnvT g AL L As S W' :=
  h.keep h0 hf.size (fun k hk => hf.keep k (Nat.lt_trans hk hst.blk.lt) (fun h1 => by rcases hst.far hgB k h1 with h2 | h2 <;> omega))
theorem EnvT.below (h : EnvT g AL L As S W) (h0 : 0 < g) (hg : g ≤ W.heap.size) (hb : Below W.heap.size W W') : EnvT g AL L As S W' := h.keep h0 hb.size (fun k hk => hb.block k (by omega))
theorem EnvT.drew (h : EnvT g AL L As S W) : EnvT g AL L As S W.drew := ⟨h.leaves, h.sides, h.tab⟩
theorem EnvT.side {gs os : Nat} (h : EnvT g AL L (some ⟨gs, os, none⟩) S W) (hS : ∀ d ∈ S, d.length = 16) {u : Nat} (hu : u < S.length) {j : Nat} {x : Value} (hx : (B8 S[u])[j]? = some x) : W.cell? ((⟨gs, os + u * 16, none⟩ : Addr).add j) = some x := by
  have h1 := dig_cell S hS u hu j x hx
  obtain ⟨g', o', e, _, hc⟩ := h.sides (by intro e; rw [e] at h1; simp at h1)
  simp only [Option.some.injEq, Addr.mk.injEq] at e
  obtain ⟨rfl, rfl, _⟩ := e
  rw [Addr.add_lit, Nat.add_assoc]
  exact hc _ _ h1
end
theorem keep3 {g gs os q ns cs : Nat} {u : Value} {A : Option Addr} {D : List UInt8} {W : World} {c : Array Value} (h : W.cell? ⟨g, 1, none⟩ = some (.slice A ns cs) ∧ W.cell? ⟨g, 2, none⟩ = some u ∧ ∀ j v, (B8 D)[j]? = some v → W.cell? ((⟨gs, os, none⟩ : Addr).add j) = some v)
    (h1 : g ≠ q) (h2 : g ≠ q) (h3 : gs ≠ q) : (W.setRow q c).cell? ⟨g, 1, none⟩ = some (.slice A ns cs) ∧ (W.setRow q c).cell? ⟨g, 2, none⟩ = some u ∧ ∀ j v, (B8 D)[j]? = some v → (W.setRow q c).cell? ((⟨gs, os, none⟩ : Addr).add j) = some v := by
  refine ⟨(World.cell?_of_block (a := ⟨g, 1, none⟩) (heap_setRow_other _ _ _ _ h1)).trans h.1, (World.cell?_of_block (a := ⟨g, 2, none⟩) (heap_setRow_other _ _ _ _ h1)).trans h.2.1, fun j v hv => ?_⟩
  have := h.2.2 j v hv
  rw [Addr.add_lit] at this ⊢
  exact (World.cell?_of_block (a := ⟨gs, os + j, none⟩) (heap_setRow_other _ _ _ _ h3)).trans this
section
variable {gl p q b : Nat} {x y : Value} {W W' : World} {O O' : Nat → Prop} {c : Array Value}
theorem cells_below (h : W.cell? ⟨gl, p, none⟩ = some x ∧ W.cell? ⟨gl, q, none⟩ = some y) (hb : Below W.heap.size W W') (hg : gl < W.heap.size) : W'.cell? ⟨gl, p, none⟩ = some x ∧ W'.cell? ⟨gl, q, none⟩ = some y :=
  ⟨(hb.cell (p := ⟨gl, p, none⟩) hg).trans h.1, (hb.cell (p := ⟨gl, q, none⟩) hg).trans h.2⟩
theorem cells_fr (h : W.cell? ⟨gl, p, none⟩ = some x ∧ W.cell? ⟨gl, q, none⟩ = some y) (hf : Fr O O' W W') (hg : ¬ O gl) : W'.cell? ⟨gl, p, none⟩ = some x ∧ W'.cell? ⟨gl, q, none⟩ = some y :=
  ⟨hf.cell (p := ⟨gl, p, none⟩) h.1 hg, hf.cell (p := ⟨gl, q, none⟩) h.2 hg⟩
theorem cells_row (h : W.cell? ⟨gl, p, none⟩ = some x ∧ W.cell? ⟨gl, q, none⟩ = some y) (hg : gl ≠ b) : (W.setRow b c).cell? ⟨gl, p, none⟩ = some x ∧ (W.setRow b c).cell? ⟨gl, q, none⟩ = some y :=
  ⟨(World.cell?_of_block (a := ⟨gl, p, none⟩) (heap_setRow_other _ _ _ _ hg)).trans h.1, (World.cell?_of_block (a := ⟨gl, q, none⟩) (heap_setRow_other _ _ _ _ hg)).trans h.2⟩
end
structure R2 (B g : Nat) (AL As : Option Addr) (L : List Lf) (S : List (List UInt8)) (ns cs : Nat) (w : World) (v v' : Value) (s' : RS) (g1 g2 : Nat) (D1 D2 : List UInt8) (W : World) : Prop where
  r : R1 B g As ns cs w v v' s' W
  x1 : Blk W g1 29 (B8 D1)
  x2 : Blk W g2 29 (B8 D2)
  out1 : ¬ ownP g v' g1
  out2 : ¬ ownP g v' g2
  env : EnvT g AL L As S W
  h0 : 0 < g
section
variable {B g ns cs g1 g2 : Nat} {AL As : Option Addr} {L : List Lf} {S : List (List UInt8)} {v v' v2 : Value} {s' s2 : RS} {D1 D2 : List UInt8} {w W W' : World}
theorem R2.below (h : R2 B g AL As L S ns cs w v v' s' g1 g2 D1 D2 W) (hb : Below W.heap.size W W') : R2 B g AL As L S ns cs w v v' s' g1 g2 D1 D2 W' :=
  ⟨h.r.below hb, h.x1.below hb h.x1.lt, h.x2.below hb h.x2.lt, h.out1, h.out2, h.env.below h.h0 (Nat.le_of_lt h.r.st.blk.lt) hb, h.h0⟩
theorem R2.drew (h : R2 B g AL As L S ns cs w v v' s' g1 g2 D1 D2 W) : R2 B g AL As L S ns cs w v v' s' g1 g2 D1 D2 W.drew := h.below (Below.refl _ _).drew
theorem R2.alloc (h : R2 B g AL As L S ns cs w v v' s' g1 g2 D1 D2 W) (o : Obj) : R2 B g AL As L S ns cs w v v' s' g1 g2 D1 D2 (W.alloc o) := h.below ((Below.refl _ _).alloc (Nat.le_refl _) _)
theorem R2.st (h : R2 B g AL As L S ns cs w v v' s' g1 g2 D1 D2 W) : StT B g As ns cs v' s' W := h.r.st
theorem R2.end_ (h : R2 B g AL As L S ns cs w v v' s' g1 g2 D1 D2 W) (hst : StT B g As ns cs v2 s2 W') (hf : Fr (ownP g v') (ownP g v2) W W') : R1 B g As ns cs w v v2 s2 W' := h.r.step hst hf
end
theorem rrow_texts (L : List Lf) (first : Nat) (S : List (List UInt8)) (n : Nat) : ∀ (a b : Nat) (s : RS), b - a ≤ n → a < b → (rrow L first S s a b).2.texts.length + 1 ≤ s.texts.length + 2 * (b - a) := by
  induction n with
  | zero => intro a b s h h2; omega
  | succ n ih =>
    intro a b s h h2
    by_cases hc : b ≤ first ∨ first + L.length ≤ a
    · rw [rrow_told L first S hc]; unfold RS.take; split <;> simp <;> omega
    · by_cases h1 : 1 < b - a
      · have := half_lt h1
        have := half_pos (b - a)
        rw [rrow_split L first S hc h1]
        have e1 := ih a (a + half (b - a)) s (by omega) (by omega)
        have e2 := ih (a + half (b - a)) b (rrow L first S s a (a + half (b - a))).2 (by omega) (by omega)
        simp only [RS.add, List.length_append, List.length_singleton]
        omega
      · rw [rrow_one L first S hc (by omega)]
        simp only [RS.add, List.length_append, List.length_singleton]
        omega
def RowT (B g : Nat) (As : Option Addr) (ns cs : Nat) (v : Value) (s' : RS) (D : List UInt8) (w : World) (e : Ending) (w' : World) : Prop :=
  e = .returned (.agg (B8 D).toArray) ∧ ∃ v', StT B g As ns cs v' s' w' ∧ Fr (ownP g v) (ownP g v') w w'
theorem sizeZ : (Tryd.prog.info? 29).map (·.size) = some Z16.toArray.size := size29' (List.replicate 16 0) rfl
theorem oneZ : Z16.toArray.all (·.oneCell') = true := one8 (List.replicate 16 0)
section
variable (B g : Nat) (AL As : Option Addr) (L : List Lf) (S : List (List UInt8)) (NL ns cL cs first : Nat) (hgB : g < B) (h0 : 0 < g) (hNL : NL = L.length) (hns : ns = S.length) (hL : okL L) (hS : ∀ d ∈ S, d.length = 16) (hSl : S.length ≤ 1073741824) (hf : first + L.length ≤ 1073741824)
include hgB h0 hNL hns hL hS hSl hf
set_option maxHeartbeats 4000000 in
theorem trow_told (a b : Nat) (v : Value) (s : RS) (w : World) (hb : b ≤ 1073741824) (hab : a < b) (hc : b ≤ first ∨ ¬ b ≤ first ∧ first + L.length ≤ a) (h : StT B g As ns cs v s w) (he : EnvT g AL L As S w) :
    Calls Tryd.prog 81 #[.pointer (some ⟨g, 0, none⟩), .slice AL NL cL, .int .i64 (first : Int), .int .i64 (a : Int), .int .i64 (b : Int)] w (RowT B g As ns cs v (s.take S).2 (s.take S).1 w) := by
  have _u := hL
  clear _u
  have hZ := hZ16
  obtain ⟨W1, hW1⟩ : ∃ W, W = w.alloc (.cells Z16.toArray 29) := ⟨_, rfl⟩
  have K1 := Lh (R1.first h hW1)
  have E1 := Lh (show EnvT g AL L As S W1 from he.below h0 (Nat.le_of_lt h.blk.lt) (by rw [hW1]; exact (Below.refl _ _).alloc (Nat.le_refl _) _))
  have HW := Lh hW1
  have hgw : g < w.heap.size := h.blk.lt
  have hBw : B ≤ w.heap.size := h.size
  have HS16 := Lh hS
  have q1 : (first : Int) + (NL : Int) ≤ 1073741824 := by omega
  have HNL := Lh hNL
  have HNS := Lh hns
  clear h he hW1 hS hNL hns
  rcases hc with hc | ⟨hc0, hc⟩
  · have hcI : (b : Int) ≤ (first : Int) := by omega
    clear hc
    by_cases hu : S.length ≤ s.used
    · have HT := Lh (show s.take S = (Z16L, ⟨s.texts, s.used, true⟩) by unfold RS.take; rw [if_pos hu])
      rw [HT.out]
      have i1 : (ns : Int) ≤ (s.used : Int) := by have := HNS.out; omega
      go_enter Tryd.func81, Tryd.ntmps81
      go_upto_region 2 with fail
      rw [← HW.out]
      refine wp_region_held (S := fun W => W.cell? ⟨g, 1, none⟩ = some (.slice As ns cs) ∧ W.cell? ⟨g, 2, none⟩ = some (.int .i64 (s.used : Int))) (by kernel_rfl) ?_
      change wpAnyH _ _ _ _ _ _ _ _ (World.drew W1)
      have k0 := Lh K1.out.drew
      have E0 := Lh E1.out.drew
      have hs0 : (World.drew W1).cell? ⟨g, 1, none⟩ = some (.slice As ns cs) ∧ (World.drew W1).cell? ⟨g, 2, none⟩ = some (.int .i64 (s.used : Int)) := ⟨(k0.out.st.blk.cell 1).trans rfl, (k0.out.st.blk.cell 2).trans rfl⟩
      generalize World.drew W1 = Wd at k0 E0 hs0 ⊢
      refine tkH 0 kRTrees_7 (.pointer (some ⟨g, 0, none⟩)) hs0 (fun W hW => ?y1) ?_
      case y1 => go_simp
      try simp only [zp, zn, z1, z2, z3]
      refine tkH 1 kRTrees_8 (.pointer (some ⟨g, 0, none⟩)) hs0 (fun W hW => ?y2) ?_
      case y2 => go_simp
      try simp only [zp, zn, z1, z2, z3]
      refine tkH 2 kRTrees_9 (.pointer (some ⟨g, 2, none⟩)) hs0 (fun W hW => ?y3) ?_
      case y3 => go_simp
      try simp only [zp, zn, z1, z2, z3]
      refine tkH 3 kRTrees_10 (.int .i64 (s.used : Int)) hs0 (fun W hW => by have hcl := hW.2; go_simp) ?_
      try simp only [zp, zn, z1, z2, z3]
      refine tkH 4 kRTrees_11 (.pointer (some ⟨g, 0, none⟩)) hs0 (fun W hW => ?y5) ?_
      case y5 => go_simp
      try simp only [zp, zn, z1, z2, z3]
      refine tkH 5 kRTrees_12 (.pointer (some ⟨g, 0, none⟩)) hs0 (fun W hW => ?y6) ?_
      case y6 => go_simp
      try simp only [zp, zn, z1, z2, z3]
      refine tkH 6 kRTrees_13 (.pointer (some ⟨g, 1, none⟩)) hs0 (fun W hW => ?y7) ?_
      case y7 => go_simp
      try simp only [zp, zn, z1, z2, z3]
      refine tkH 7 kRTrees_14 (.slice As ns cs) hs0 (fun W hW => by have hcl := hW.1; go_simp) ?_
      try simp only [zp, zn, z1, z2, z3]
      refine tkH 8 kRTrees_15 (.int .i64 (ns : Int)) hs0 (fun W hW => ?y9) ?_
      case y9 => go_simp
      try simp only [zp, zn, z1, z2, z3]
      refine tkH 9 kRTrees_16 (.bool true) hs0 (fun W hW => ?y10) ?_
      case y10 => go_simp
      try simp only [zp, zn, z1, z2, z3]
      refine wpAnyH_done (by kernel_rfl) ?_ _
      try simp only [zp, zn, z1, z2, z3]
      have c3 : Wd.cell? ⟨g, 3, none⟩ = some (.bool s.short) := (k0.out.st.blk.cell 3).trans rfl
      have f3 : Wd.frozen? ⟨g, 3, none⟩ = false := k0.out.st.blk.frozen 3
      have K3 := Lh (k0.out.set hgw hgB 3 (.bool true) s.used true rfl)
      have Z5 := Lh (show (Wd.setCell ⟨g, 3, none⟩ (.bool true)).heap[w.heap.size]? = some (.cells Z16.toArray 29 (0, 0)) from K3.out.z)
      go_wp2_with (with_reducible refine wpList_store_row rfl 29 (.tmp 10) (.tmp 38) rfl w.heap.size Z16.toArray rfl rfl 29 _ Z5.out sizeZ rfl oneZ ?_)
      refine bodyPost_ret (v := .agg Z16.toArray) ?_ rfl ⟨rfl, v, K3.out.close _⟩
      have hr := run_loadVar_row (P := Tryd.prog) _ w.heap.size 29 29 Z16.toArray (0, 0) (.array 16 5) (heap_setRow _ w.heap.size Z16.toArray _ 29 Z5.out) Tryd.underlying29 rfl sizeZ
      simp [results, asAddr, hr, Act.put]
    · have hlt : s.used < S.length := by omega
      obtain ⟨D, hD⟩ : ∃ D, D = S[s.used] := ⟨_, rfl⟩
      have HDl := Lh (show D.length = 16 by rw [hD]; exact HS16.out _ (List.getElem_mem _))
      have HT := Lh (show s.take S = (D, ⟨s.texts, s.used + 1, s.short⟩) by unfold RS.take; rw [if_neg hu, List.getD_eq_getElem?_getD, List.getElem?_eq_getElem hlt, hD]; rfl)
      rw [HT.out]
      have i1 : ¬ (ns : Int) ≤ (s.used : Int) := by have := HNS.out; omega
      have hub : (s.used : Int) ≤ 1073741824 := by omega
      have hwu : IntKind.i64.wrap (s.used : Int) = (s.used : Int) := IntWalk.i64_in _ (by omega)
      have hin : (s.used : Int) < (ns : Int) := by have := HNS.out; omega
      have hD' := Lh hD
      clear hD
      obtain ⟨gs, os, rfl, hgs, _⟩ := E1.out.sides (by intro e; have := congrArg List.length e; rw [B8_len, List.length_flatten, sum16 S HS16.out] at this; simp at this; omega)
      go_enter Tryd.func81, Tryd.ntmps81
      go_upto_region 2 with fail
      rw [← HW.out]
      refine wp_region_held (S := fun W => W.cell? ⟨g, 1, none⟩ = some (.slice (some ⟨gs, os, none⟩) ns cs) ∧ W.cell? ⟨g, 2, none⟩ = some (.int .i64 (s.used : Int))) (by kernel_rfl) ?_
      change wpAnyH _ _ _ _ _ _ _ _ (World.drew W1)
      have k0 := Lh K1.out.drew
      have E0 := Lh E1.out.drew
      have hs0 : (World.drew W1).cell? ⟨g, 1, none⟩ = some (.slice (some ⟨gs, os, none⟩) ns cs) ∧ (World.drew W1).cell? ⟨g, 2, none⟩ = some (.int .i64 (s.used : Int)) := ⟨(k0.out.st.blk.cell 1).trans rfl, (k0.out.st.blk.cell 2).trans rfl⟩
      generalize World.drew W1 = Wd at k0 E0 hs0 ⊢
      refine tkH 0 kRTrees_7 (.pointer (some ⟨g, 0, none⟩)) hs0 (fun W hW => ?y1) ?_
      case y1 => go_simp
      try simp only [zp, zn, z1, z2, z3]
      refine tkH 1 kRTrees_8 (.pointer (some ⟨g, 0, none⟩)) hs0 (fun W hW => ?y2) ?_
      case y2 => go_simp
      try simp only [zp, zn, z1, z2, z3]
      refine tkH 2 kRTrees_9 (.pointer (some ⟨g, 2, none⟩)) hs0 (fun W hW => ?y3) ?_
      case y3 => go_simp
      try simp only [zp, zn, z1, z2, z3]
      refine tkH 3 kRTrees_10 (.int .i64 (s.used : Int)) hs0 (fun W hW => by have hcl := hW.2; go_simp) ?_
      try simp only [zp, zn, z1, z2, z3]
      refine tkH 4 kRTrees_11 (.pointer (some ⟨g, 0, none⟩)) hs0 (fun W hW => ?y5) ?_
      case y5 => go_simp
      try simp only [zp, zn, z1, z2, z3]
      refine tkH 5 kRTrees_12 (.pointer (some ⟨g, 0, none⟩)) hs0 (fun W hW => ?y6) ?_
      case y6 => go_simp
      try simp only [zp, zn, z1, z2, z3]
      refine tkH 6 kRTrees_13 (.pointer (some ⟨g, 1, none⟩)) hs0 (fun W hW => ?y7) ?_
      case y7 => go_simp
      try simp only [zp, zn, z1, z2, z3]
      refine tkH 7 kRTrees_14 (.slice (some ⟨gs, os, none⟩) ns cs) hs0 (fun W hW => by have hcl := hW.1; go_simp) ?_
      try simp only [zp, zn, z1, z2, z3]
      refine tkH 8 kRTrees_15 (.int .i64 (ns : Int)) hs0 (fun W hW => ?y9) ?_
      case y9 => go_simp
      try simp only [zp, zn, z1, z2, z3]
      refine tkH 9 kRTrees_16 (.bool false) hs0 (fun W hW => ?y10) ?_
      case y10 => go_simp
      try simp only [zp, zn, z1, z2, z3]
      refine wpAnyH_done (by kernel_rfl) ?_ _
      try simp only [zp, zn, z1, z2, z3]
      have c2 : Wd.cell? ⟨g, 2, none⟩ = some (.int .i64 (s.used : Int)) := (k0.out.st.blk.cell 2).trans rfl
      have f2 : Wd.frozen? ⟨g, 2, none⟩ = false := k0.out.st.blk.frozen 2
      obtain ⟨W3, hW3⟩ : ∃ W, W = Wd.setCell ⟨g, 2, none⟩ (.int .i64 ((s.used : Int) + 1)) := ⟨_, rfl⟩
      have K3 := Lh (show R1 B g (some ⟨gs, os, none⟩) ns cs w v v ⟨s.texts, s.used + 1, s.short⟩ W3 by rw [hW3]; exact k0.out.set hgw hgB 2 _ (s.used + 1) s.short rfl)
      have E3 := Lh (show EnvT g AL L (some ⟨gs, os, none⟩) S W3 from E0.out.keep h0 (by rw [hW3]; simp [World.setCell]) (fun k hk => by rw [hW3]; exact Below.heap_setCell _ _ _ _ (by show k ≠ g; omega)))
      have HW3 := Lh hW3
      clear hs0 k0
      go_upto_region 6 with fail
      rw [← HW3.out]
      clear HW3 hW3 c2 f2
      refine wp_region_held (S := fun W => W.cell? ⟨g, 1, none⟩ = some (.slice (some ⟨gs, os, none⟩) ns cs) ∧ W.cell? ⟨g, 2, none⟩ = some (.int .i64 ((s.used : Int) + 1)) ∧ ∀ j v, (B8 D)[j]? = some v → W.cell? ((⟨gs, os + s.used * 16, none⟩ : Addr).add j) = some v) (by kernel_rfl) ?_
      change wpAnyH _ _ _ _ _ _ _ _ (World.drew W3)
      have k0 := Lh K3.out.drew
      have hs0 : (World.drew W3).cell? ⟨g, 1, none⟩ = some (.slice (some ⟨gs, os, none⟩) ns cs) ∧ (World.drew W3).cell? ⟨g, 2, none⟩ = some (.int .i64 ((s.used : Int) + 1)) ∧ ∀ j v, (B8 D)[j]? = some v → (World.drew W3).cell? ((⟨gs, os + s.used * 16, none⟩ : Addr).add j) = some v := ⟨(k0.out.st.blk.cell 1).trans rfl, (k0.out.st.blk.cell 2).trans rfl, fun j v hv => E3.out.drew.side HS16.out hlt (by rw [← hD'.out]; exact hv)⟩
      generalize World.drew W3 = Wd at k0 hs0 ⊢
      have hq1 : g ≠ w.heap.size := by omega
      have hq2 : g ≠ w.heap.size := by omega
      have hq3 : gs ≠ w.heap.size := by omega
      refine tkH 0 kRTrees_17 (.pointer (some ⟨g, 0, none⟩)) hs0 (fun W hW => ?y1) ?_
      case y1 => go_simp
      try simp only [zp, zn, z1, z2, z3]
      refine tkH 1 kRTrees_18 (.pointer (some ⟨g, 0, none⟩)) hs0 (fun W hW => ?y2) ?_
      case y2 => go_simp
      try simp only [zp, zn, z1, z2, z3]
      refine tkH 2 kRTrees_19 (.pointer (some ⟨g, 1, none⟩)) hs0 (fun W hW => ?y3) ?_
      case y3 => go_simp
      try simp only [zp, zn, z1, z2, z3]
      refine tkH 3 kRTrees_20 (.slice (some ⟨gs, os, none⟩) ns cs) hs0 (fun W hW => by have hcl := hW.1; go_simp) ?_
      try simp only [zp, zn, z1, z2, z3]
      refine tkH 4 kRTrees_21 (.pointer (some ⟨g, 0, none⟩)) hs0 (fun W hW => ?y5) ?_
      case y5 => go_simp
      try simp only [zp, zn, z1, z2, z3]
      refine tkH 5 kRTrees_22 (.pointer (some ⟨g, 0, none⟩)) hs0 (fun W hW => ?y6) ?_
      case y6 => go_simp
      try simp only [zp, zn, z1, z2, z3]
      refine tkH 6 kRTrees_23 (.pointer (some ⟨g, 2, none⟩)) hs0 (fun W hW => ?y7) ?_
      case y7 => go_simp
      try simp only [zp, zn, z1, z2, z3]
      refine tkH 7 kRTrees_24 (.int .i64 ((s.used : Int) + 1)) hs0 (fun W hW => by have hcl := hW.2.1; go_simp) ?_
      try simp only [zp, zn, z1, z2, z3]
      refine tkH 8 kRTrees_25 (.int .i64 (s.used : Int)) hs0 (fun W hW => ?y9) ?_
      case y9 => go_simp
      try simp only [zp, zn, z1, z2, z3]
      refine tkH 9 kRTrees_26 (.pointer (some ⟨gs, os + s.used * 16, none⟩)) hs0 (fun W hW => ?y10) ?_
      case y10 => go_simp
      try simp only [zp, zn, z1, z2, z3]
      refine tkH 10 kRTrees_27 (.agg (B8 D).toArray) hs0 (fun W hW => exec_load_row _ _ 29 (.tmp 56) rfl ⟨gs, os + s.used * 16, none⟩ rfl (B8 D) W (run_loadVar_at W _ 29 (B8 D) (.array 16 5) hW.2.2 Tryd.underlying29 rfl (size29 _ HDl.out))) ?_
      try simp only [zp, zn, z1, z2, z3]
      refine wpAnyH_ready (rs := [11]) (by kernel_rfl) (by simp) ?_
      refine AllReadyH.cons (o := kRTrees_28) rfl (fun K hK => ?_) AllReadyH.nil
      rw [if_pos (by rfl)]
      have Z5 := Lh (show Wd.heap[w.heap.size]? = some (.cells Z16.toArray 29 (0, 0)) from k0.out.z)
      have hs1 := keep3 (c := (B8 D).toArray) hs0 hq1 hq2 hq3
      refine wp_store_row 29 (.tmp 10) (.tmp 57) rfl w.heap.size (B8 D).toArray rfl rfl 29 _ Z5.out (size29' _ HDl.out) (Z16_size _ HDl.out) (one8 _) ?_
      refine hK.out _ _ hs1 (fun _ => ?_)
      clear hK K
      try simp only [zp, zn, z1, z2, z3]
      refine wpAnyH_done (by kernel_rfl) ?_ _
      try simp only [zp, zn, z1, z2, z3]
      go_wp2_with fail
      refine bodyPost_ret (v := .agg (B8 D).toArray) ?_ rfl ⟨rfl, v, k0.out.close _⟩
      have hr := run_loadVar_row (P := Tryd.prog) _ w.heap.size 29 29 (B8 D).toArray (0, 0) (.array 16 5) (heap_setRow Wd w.heap.size (B8 D).toArray _ 29 Z5.out) Tryd.underlying29 rfl (size29' _ HDl.out)
      simp [results, asAddr, hr]
  · have hcI : ¬ (b : Int) ≤ (first : Int) := by omega
    have hcJ : (first : Int) + (NL : Int) ≤ (a : Int) := by have := HNL.out; omega
    clear hc
    by_cases hu : S.length ≤ s.used
    · have HT := Lh (show s.take S = (Z16L, ⟨s.texts, s.used, true⟩) by unfold RS.take; rw [if_pos hu])
      rw [HT.out]
      have i1 : (ns : Int) ≤ (s.used : Int) := by have := HNS.out; omega
      go_enter Tryd.func81, Tryd.ntmps81
      go_upto_region 2 with fail
      rw [← HW.out]
      refine wp_region_held (S := fun W => W.cell? ⟨g, 1, none⟩ = some (.slice As ns cs) ∧ W.cell? ⟨g, 2, none⟩ = some (.int .i64 (s.used : Int))) (by kernel_rfl) ?_
      change wpAnyH _ _ _ _ _ _ _ _ (World.drew W1)
      have k0 := Lh K1.out.drew
      have E0 := Lh E1.out.drew
      have hs0 : (World.drew W1).cell? ⟨g, 1, none⟩ = some (.slice As ns cs) ∧ (World.drew W1).cell? ⟨g, 2, none⟩ = some (.int .i64 (s.used : Int)) := ⟨(k0.out.st.blk.cell 1).trans rfl, (k0.out.st.blk.cell 2).trans rfl⟩
      generalize World.drew W1 = Wd at k0 E0 hs0 ⊢
      refine tkH 0 kRTrees_7 (.pointer (some ⟨g, 0, none⟩)) hs0 (fun W hW => ?y1) ?_
      case y1 => go_simp
      try simp only [zp, zn, z1, z2, z3]
      refine tkH 1 kRTrees_8 (.pointer (some ⟨g, 0, none⟩)) hs0 (fun W hW => ?y2) ?_
      case y2 => go_simp
      try simp only [zp, zn, z1, z2, z3]
      refine tkH 2 kRTrees_9 (.pointer (some ⟨g, 2, none⟩)) hs0 (fun W hW => ?y3) ?_
      case y3 => go_simp
      try simp only [zp, zn, z1, z2, z3]
      refine tkH 3 kRTrees_10 (.int .i64 (s.used : Int)) hs0 (fun W hW => by have hcl := hW.2; go_simp) ?_
      try simp only [zp, zn, z1, z2, z3]
      refine tkH 4 kRTrees_11 (.pointer (some ⟨g, 0, none⟩)) hs0 (fun W hW => ?y5) ?_
      case y5 => go_simp
      try simp only [zp, zn, z1, z2, z3]
      refine tkH 5 kRTrees_12 (.pointer (some ⟨g, 0, none⟩)) hs0 (fun W hW => ?y6) ?_
      case y6 => go_simp
      try simp only [zp, zn, z1, z2, z3]
      refine tkH 6 kRTrees_13 (.pointer (some ⟨g, 1, none⟩)) hs0 (fun W hW => ?y7) ?_
      case y7 => go_simp
      try simp only [zp, zn, z1, z2, z3]
      refine tkH 7 kRTrees_14 (.slice As ns cs) hs0 (fun W hW => by have hcl := hW.1; go_simp) ?_
      try simp only [zp, zn, z1, z2, z3]
      refine tkH 8 kRTrees_15 (.int .i64 (ns : Int)) hs0 (fun W hW => ?y9) ?_
      case y9 => go_simp
      try simp only [zp, zn, z1, z2, z3]
      refine tkH 9 kRTrees_16 (.bool true) hs0 (fun W hW => ?y10) ?_
      case y10 => go_simp
      try simp only [zp, zn, z1, z2, z3]
      refine wpAnyH_done (by kernel_rfl) ?_ _
      try simp only [zp, zn, z1, z2, z3]
      have c3 : Wd.cell? ⟨g, 3, none⟩ = some (.bool s.short) := (k0.out.st.blk.cell 3).trans rfl
      have f3 : Wd.frozen? ⟨g, 3, none⟩ = false := k0.out.st.blk.frozen 3
      have K3 := Lh (k0.out.set hgw hgB 3 (.bool true) s.used true rfl)
      have Z5 := Lh (show (Wd.setCell ⟨g, 3, none⟩ (.bool true)).heap[w.heap.size]? = some (.cells Z16.toArray 29 (0, 0)) from K3.out.z)
      go_wp2_with (with_reducible refine wpList_store_row rfl 29 (.tmp 10) (.tmp 38) rfl w.heap.size Z16.toArray rfl rfl 29 _ Z5.out sizeZ rfl oneZ ?_)
      refine bodyPost_ret (v := .agg Z16.toArray) ?_ rfl ⟨rfl, v, K3.out.close _⟩
      have hr := run_loadVar_row (P := Tryd.prog) _ w.heap.size 29 29 Z16.toArray (0, 0) (.array 16 5) (heap_setRow _ w.heap.size Z16.toArray _ 29 Z5.out) Tryd.underlying29 rfl sizeZ
      simp [results, asAddr, hr]
    · have hlt : s.used < S.length := by omega
      obtain ⟨D, hD⟩ : ∃ D, D = S[s.used] := ⟨_, rfl⟩
      have HDl := Lh (show D.length = 16 by rw [hD]; exact HS16.out _ (List.getElem_mem _))
      have HT := Lh (show s.take S = (D, ⟨s.texts, s.used + 1, s.short⟩) by unfold RS.take; rw [if_neg hu, List.getD_eq_getElem?_getD, List.getElem?_eq_getElem hlt, hD]; rfl)
      rw [HT.out]
      have i1 : ¬ (ns : Int) ≤ (s.used : Int) := by have := HNS.out; omega
      have hub : (s.used : Int) ≤ 1073741824 := by omega
      have hwu : IntKind.i64.wrap (s.used : Int) = (s.used : Int) := IntWalk.i64_in _ (by omega)
      have hin : (s.used : Int) < (ns : Int) := by have := HNS.out; omega
      have hD' := Lh hD
      clear hD
      obtain ⟨gs, os, rfl, hgs, _⟩ := E1.out.sides (by intro e; have := congrArg List.length e; rw [B8_len, List.length_flatten, sum16 S HS16.out] at this; simp at this; omega)
      go_enter Tryd.func81, Tryd.ntmps81
      go_upto_region 2 with fail
      rw [← HW.out]
      refine wp_region_held (S := fun W => W.cell? ⟨g, 1, none⟩ = some (.slice (some ⟨gs, os, none⟩) ns cs) ∧ W.cell? ⟨g, 2, none⟩ = some (.int .i64 (s.used : Int))) (by kernel_rfl) ?_
      change wpAnyH _ _ _ _ _ _ _ _ (World.drew W1)
      have k0 := Lh K1.out.drew
      have E0 := Lh E1.out.drew
      have hs0 : (World.drew W1).cell? ⟨g, 1, none⟩ = some (.slice (some ⟨gs, os, none⟩) ns cs) ∧ (World.drew W1).cell? ⟨g, 2, none⟩ = some (.int .i64 (s.used : Int)) := ⟨(k0.out.st.blk.cell 1).trans rfl, (k0.out.st.blk.cell 2).trans rfl⟩
      generalize World.drew W1 = Wd at k0 E0 hs0 ⊢
      refine tkH 0 kRTrees_7 (.pointer (some ⟨g, 0, none⟩)) hs0 (fun W hW => ?y1) ?_
      case y1 => go_simp
      try simp only [zp, zn, z1, z2, z3]
      refine tkH 1 kRTrees_8 (.pointer (some ⟨g, 0, none⟩)) hs0 (fun W hW => ?y2) ?_
      case y2 => go_simp
      try simp only [zp, zn, z1, z2, z3]
      refine tkH 2 kRTrees_9 (.pointer (some ⟨g, 2, none⟩)) hs0 (fun W hW => ?y3) ?_
      case y3 => go_simp
      try simp only [zp, zn, z1, z2, z3]
      refine tkH 3 kRTrees_10 (.int .i64 (s.used : Int)) hs0 (fun W hW => by have hcl := hW.2; go_simp) ?_
      try simp only [zp, zn, z1, z2, z3]
      refine tkH 4 kRTrees_11 (.pointer (some ⟨g, 0, none⟩)) hs0 (fun W hW => ?y5) ?_
      case y5 => go_simp
      try simp only [zp, zn, z1, z2, z3]
      refine tkH 5 kRTrees_12 (.pointer (some ⟨g, 0, none⟩)) hs0 (fun W hW => ?y6) ?_
      case y6 => go_simp
      try simp only [zp, zn, z1, z2, z3]
      refine tkH 6 kRTrees_13 (.pointer (some ⟨g, 1, none⟩)) hs0 (fun W hW => ?y7) ?_
      case y7 => go_simp
      try simp only [zp, zn, z1, z2, z3]
      refine tkH 7 kRTrees_14 (.slice (some ⟨gs, os, none⟩) ns cs) hs0 (fun W hW => by have hcl := hW.1; go_simp) ?_
      try simp only [zp, zn, z1, z2, z3]
      refine tkH 8 kRTrees_15 (.int .i64 (ns : Int)) hs0 (fun W hW => ?y9) ?_
      case y9 => go_simp
      try simp only [zp, zn, z1, z2, z3]
      refine tkH 9 kRTrees_16 (.bool false) hs0 (fun W hW => ?y10) ?_
      case y10 => go_simp
      try simp only [zp, zn, z1, z2, z3]
      refine wpAnyH_done (by kernel_rfl) ?_ _
      try simp only [zp, zn, z1, z2, z3]
      have c2 : Wd.cell? ⟨g, 2, none⟩ = some (.int .i64 (s.used : Int)) := (k0.out.st.blk.cell 2).trans rfl
      have f2 : Wd.frozen? ⟨g, 2, none⟩ = false := k0.out.st.blk.frozen 2
      obtain ⟨W3, hW3⟩ : ∃ W, W = Wd.setCell ⟨g, 2, none⟩ (.int .i64 ((s.used : Int) + 1)) := ⟨_, rfl⟩
      have K3 := Lh (show R1 B g (some ⟨gs, os, none⟩) ns cs w v v ⟨s.texts, s.used + 1, s.short⟩ W3 by rw [hW3]; exact k0.out.set hgw hgB 2 _ (s.used + 1) s.short rfl)
      have E3 := Lh (show EnvT g AL L (some ⟨gs, os, none⟩) S W3 from E0.out.keep h0 (by rw [hW3]; simp [World.setCell]) (fun k hk => by rw [hW3]; exact Below.heap_setCell _ _ _ _ (by show k ≠ g; omega)))
      have HW3 := Lh hW3
      clear hs0 k0
      go_upto_region 6 with fail
      rw [← HW3.out]
      clear HW3 hW3 c2 f2
      refine wp_region_held (S := fun W => W.cell? ⟨g, 1, none⟩ = some (.slice (some ⟨gs, os, none⟩) ns cs) ∧ W.cell? ⟨g, 2, none⟩ = some (.int .i64 ((s.used : Int) + 1)) ∧ ∀ j v, (B8 D)[j]? = some v → W.cell? ((⟨gs, os + s.used * 16, none⟩ : Addr).add j) = some v) (by kernel_rfl) ?_
      change wpAnyH _ _ _ _ _ _ _ _ (World.drew W3)
      have k0 := Lh K3.out.drew
      have hs0 : (World.drew W3).cell? ⟨g, 1, none⟩ = some (.slice (some ⟨gs, os, none⟩) ns cs) ∧ (World.drew W3).cell? ⟨g, 2, none⟩ = some (.int .i64 ((s.used : Int) + 1)) ∧ ∀ j v, (B8 D)[j]? = some v → (World.drew W3).cell? ((⟨gs, os + s.used * 16, none⟩ : Addr).add j) = some v := ⟨(k0.out.st.blk.cell 1).trans rfl, (k0.out.st.blk.cell 2).trans rfl, fun j v hv => E3.out.drew.side HS16.out hlt (by rw [← hD'.out]; exact hv)⟩
      generalize World.drew W3 = Wd at k0 hs0 ⊢
      have hq1 : g ≠ w.heap.size := by omega
      have hq2 : g ≠ w.heap.size := by omega
      have hq3 : gs ≠ w.heap.size := by omega
      refine tkH 0 kRTrees_17 (.pointer (some ⟨g, 0, none⟩)) hs0 (fun W hW => ?y1) ?_
      case y1 => go_simp
      try simp only [zp, zn, z1, z2, z3]
      refine tkH 1 kRTrees_18 (.pointer (some ⟨g, 0, none⟩)) hs0 (fun W hW => ?y2) ?_
      case y2 => go_simp
      try simp only [zp, zn, z1, z2, z3]
      refine tkH 2 kRTrees_19 (.pointer (some ⟨g, 1, none⟩)) hs0 (fun W hW => ?y3) ?_
      case y3 => go_simp
      try simp only [zp, zn, z1, z2, z3]
      refine tkH 3 kRTrees_20 (.slice (some ⟨gs, os, none⟩) ns cs) hs0 (fun W hW => by have hcl := hW.1; go_simp) ?_
      try simp only [zp, zn, z1, z2, z3]
      refine tkH 4 kRTrees_21 (.pointer (some ⟨g, 0, none⟩)) hs0 (fun W hW => ?y5) ?_
      case y5 => go_simp
      try simp only [zp, zn, z1, z2, z3]
      refine tkH 5 kRTrees_22 (.pointer (some ⟨g, 0, none⟩)) hs0 (fun W hW => ?y6) ?_
      case y6 => go_simp
      try simp only [zp, zn, z1, z2, z3]
      refine tkH 6 kRTrees_23 (.pointer (some ⟨g, 2, none⟩)) hs0 (fun W hW => ?y7) ?_
      case y7 => go_simp
      try simp only [zp, zn, z1, z2, z3]
      refine tkH 7 kRTrees_24 (.int .i64 ((s.used : Int) + 1)) hs0 (fun W hW => by have hcl := hW.2.1; go_simp) ?_
      try simp only [zp, zn, z1, z2, z3]
      refine tkH 8 kRTrees_25 (.int .i64 (s.used : Int)) hs0 (fun W hW => ?y9) ?_
      case y9 => go_simp
      try simp only [zp, zn, z1, z2, z3]
      refine tkH 9 kRTrees_26 (.pointer (some ⟨gs, os + s.used * 16, none⟩)) hs0 (fun W hW => ?y10) ?_
      case y10 => go_simp
      try simp only [zp, zn, z1, z2, z3]
      refine tkH 10 kRTrees_27 (.agg (B8 D).toArray) hs0 (fun W hW => exec_load_row _ _ 29 (.tmp 56) rfl ⟨gs, os + s.used * 16, none⟩ rfl (B8 D) W (run_loadVar_at W _ 29 (B8 D) (.array 16 5) hW.2.2 Tryd.underlying29 rfl (size29 _ HDl.out))) ?_
      try simp only [zp, zn, z1, z2, z3]
      refine wpAnyH_ready (rs := [11]) (by kernel_rfl) (by simp) ?_
      refine AllReadyH.cons (o := kRTrees_28) rfl (fun K hK => ?_) AllReadyH.nil
      rw [if_pos (by rfl)]
      have Z5 := Lh (show Wd.heap[w.heap.size]? = some (.cells Z16.toArray 29 (0, 0)) from k0.out.z)
      have hs1 := keep3 (c := (B8 D).toArray) hs0 hq1 hq2 hq3
      refine wp_store_row 29 (.tmp 10) (.tmp 57) rfl w.heap.size (B8 D).toArray rfl rfl 29 _ Z5.out (size29' _ HDl.out) (Z16_size _ HDl.out) (one8 _) ?_
      refine hK.out _ _ hs1 (fun _ => ?_)
      clear hK K
      try simp only [zp, zn, z1, z2, z3]
      refine wpAnyH_done (by kernel_rfl) ?_ _
      try simp only [zp, zn, z1, z2, z3]
      go_wp2_with fail
      refine bodyPost_ret (v := .agg (B8 D).toArray) ?_ rfl ⟨rfl, v, k0.out.close _⟩
      have hr := run_loadVar_row (P := Tryd.prog) _ w.heap.size 29 29 (B8 D).toArray (0, 0) (.array 16 5) (heap_setRow Wd w.heap.size (B8 D).toArray _ 29 Z5.out) Tryd.underlying29 rfl (size29' _ HDl.out)
      simp [results, asAddr, hr]
set_option maxHeartbeats 4000000 in
theorem trow_one (a b : Nat) (v : Value) (s : RS) (w : World) (hb : b ≤ 1073741824) (hab : a < b) (hc : ¬ (b ≤ first ∨ first + L.length ≤ a)) (h1 : b - a ≤ 1) (htx : s.texts.length ≤ 1000000) (h : StT B g As ns cs v s w) (he : EnvT g AL L As S w)
    (D : List UInt8) (s' : RS) (hD : Hid (rrow L first S s a b = (D, s'))) :
    Calls Tryd.prog 81 #[.pointer (some ⟨g, 0, none⟩), .slice AL NL cL, .int .i64 (first : Int), .int .i64 (a : Int), .int .i64 (b : Int)] w (RowT B g As ns cs v s' D w) := by
  have _u := And.intro hns (And.intro hS hSl)
  clear _u
  have hZ := hZ16
  obtain ⟨i, hi⟩ : ∃ i, i = a - first := ⟨_, rfl⟩
  have hil : i < L.length := by omega
  obtain ⟨x, hx⟩ : ∃ x, x = L[i] := ⟨_, rfl⟩
  have hxs := hL.2 x (by rw [hx]; exact List.getElem_mem _)
  have HIN := Lh (inp_2 3 x.1 x.2 hxs.1 hxs.2)
  obtain ⟨hDD, hSS⟩ : D = dof 3 [x.1, x.2] ∧ s' = s.add 3 [x.1, x.2] := by
    have e := hD.out
    rw [rrow_one L first S hc h1, ← hi, List.getD_eq_getElem?_getD, List.getElem?_eq_getElem hil, Option.getD_some, ← hx] at e
    simp only [Prod.mk.injEq] at e
    exact ⟨e.1.symm, e.2.symm⟩
  have HD3 := Lh hDD
  have HDl := Lh (show D.length = 16 by rw [hDD]; exact dof_len _ _)
  subst hSS
  obtain ⟨gl, o, rfl, hgl, hcl⟩ := leaf_cells he.leaves i hil
  have hcl2 := hcl i hil
  rw [← hx] at hcl2
  have hglb := World.block_lt_of_cell? _ _ hcl2.1
  have hno : ¬ ownP g v gl := fun h2 => by rcases h.far hgB gl h2 with h3 | h3 <;> omega
  obtain ⟨W1, hW1⟩ : ∃ W, W = w.alloc (.cells Z16.toArray 29) := ⟨_, rfl⟩
  have hbW : Below w.heap.size w W1 := by rw [hW1]; exact (Below.refl _ _).alloc (Nat.le_refl _) _
  have HCE := Lh (cells_below hcl2 hbW hglb)
  have K1 := Lh (R1.first h hW1)
  have E1 := Lh (show EnvT g (some ⟨gl, o, none⟩) L As S W1 from he.below h0 (Nat.le_of_lt h.blk.lt) hbW)
  have HW := Lh hW1
  have hgw : g < w.heap.size := h.blk.lt
  have hglw : gl ≠ w.heap.size := by omega
  have HTX := Lh htx
  have q1 : (first : Int) + (NL : Int) ≤ 1073741824 := by omega
  have hcI : ¬ (b : Int) ≤ (first : Int) := by omega
  have hcJ : ¬ (first : Int) + (NL : Int) ≤ (a : Int) := by omega
  have hb1 : ((b : Int) - (a : Int) == 1) = true := by rw [beq_iff_eq]; omega
  have hiw : IntKind.i64.wrap ((a : Int) - (first : Int)) = (i : Int) := by rw [IntWalk.i64_in _ (by omega)]; omega
  have hin : (i : Int) < (NL : Int) := by omega
  clear h he hW1 hcl hcl2 hc hi hx hxs hD hDD h1 hbW hS hL htx hil hNL hns
  go_enter Tryd.func81, Tryd.ntmps81
  go_upto_region 8 with fail
  rw [← HW.out]
  refine wp_region_held (S := fun W => W.cell? ⟨gl, o + i * 2, none⟩ = some (.string x.1) ∧ W.cell? ⟨gl, o + i * 2 + 1, none⟩ = some (.string x.2)) (by kernel_rfl) ?_
  change wpAnyH _ _ _ _ _ _ _ _ (World.drew W1)
  have k0 := Lh K1.out.drew
  have E0 := Lh E1.out.drew
  have hs0 : (World.drew W1).cell? ⟨gl, o + i * 2, none⟩ = some (.string x.1) ∧ (World.drew W1).cell? ⟨gl, o + i * 2 + 1, none⟩ = some (.string x.2) := HCE.out
  generalize World.drew W1 = Wd at k0 E0 hs0 ⊢
  have hgl0 : gl < Wd.heap.size := by have := k0.out.st.blk.lt; omega
  refine tkH 0 ({ dst := some 62, op := Op.move (Operand.tmp 0), type := 102, pos := "ref.go:77", after := #[], guard := none }) (.pointer (some ⟨g, 0, none⟩)) hs0 (fun W hW => ?y1) ?_
  case y1 => go_simp
  try simp only [zp, zn, z1, z2, z3]
  refine tkH 1 ({ dst := some 63, op := Op.move (Operand.tmp 1), type := 24, pos := "ref.go:77", after := #[], guard := none }) (.slice (some ⟨gl, o, none⟩) NL cL) hs0 (fun W hW => ?y2) ?_
  case y2 => go_simp
  try simp only [zp, zn, z1, z2, z3]
  refine tkH 2 ({ dst := some 64, op := Op.move (Operand.tmp 3), type := 3, pos := "ref.go:77", after := #[], guard := none }) (.int .i64 (a : Int)) hs0 (fun W hW => ?y3) ?_
  case y3 => go_simp
  try simp only [zp, zn, z1, z2, z3]
  refine tkH 3 ({ dst := some 65, op := Op.move (Operand.tmp 2), type := 3, pos := "ref.go:77", after := #[], guard := none }) (.int .i64 (first : Int)) hs0 (fun W hW => ?y4) ?_
  case y4 => go_simp
  try simp only [zp, zn, z1, z2, z3]
  refine tkH 4 ({ dst := some 66, op := Op.binOp BinOp.sub 3 (Operand.tmp 64) (Operand.tmp 65) 3, type := 3, pos := "ref.go:77", after := #[dD 2, dD 3], guard := none }) (.int .i64 (i : Int)) hs0 (fun W hW => ?y5) ?_
  case y5 => go_simp
  try simp only [zp, zn, z1, z2, z3]
  refine tkH 5 ({ dst := some 67, op := Op.indexAddr 24 (Operand.tmp 63) (Operand.tmp 66), type := 0, pos := "ref.go:77", after := #[dD 1, dD 4], guard := none }) (.pointer (some ⟨gl, o + i * 2, none⟩)) hs0 (fun W hW => ?y6) ?_
  case y6 => go_simp
  try simp only [zp, zn, z1, z2, z3]
  refine tkH 6 ({ dst := some 68, op := Op.fieldAddr 87 (Operand.tmp 67) 0, type := 0, pos := "ref.go:77", after := #[dD 5], guard := none }) (.pointer (some ⟨gl, o + i * 2, none⟩)) hs0 (fun W hW => ?y7) ?_
  case y7 => go_simp
  try simp only [zp, zn, z1, z2, z3]
  refine tkH 7 ({ dst := some 69, op := Op.load 9 (Operand.tmp 68), type := 9, pos := "ref.go:77", after := #[dD 6], guard := none }) (.string x.1) hs0 (fun W hW => by have hcl := hW.1; go_simp) ?_
  try simp only [zp, zn, z1, z2, z3]
  refine tkH 8 ({ dst := some 70, op := Op.move (Operand.tmp 1), type := 24, pos := "ref.go:77", after := #[], guard := none }) (.slice (some ⟨gl, o, none⟩) NL cL) hs0 (fun W hW => ?y9) ?_
  case y9 => go_simp
  try simp only [zp, zn, z1, z2, z3]
  refine tkH 9 ({ dst := some 71, op := Op.move (Operand.tmp 3), type := 3, pos := "ref.go:77", after := #[], guard := none }) (.int .i64 (a : Int)) hs0 (fun W hW => ?y10) ?_
  case y10 => go_simp
  try simp only [zp, zn, z1, z2, z3]
  refine tkH 10 ({ dst := some 72, op := Op.move (Operand.tmp 2), type := 3, pos := "ref.go:77", after := #[], guard := none }) (.int .i64 (first : Int)) hs0 (fun W hW => ?y11) ?_
  case y11 => go_simp
  try simp only [zp, zn, z1, z2, z3]
  refine tkH 11 ({ dst := some 73, op := Op.binOp BinOp.sub 3 (Operand.tmp 71) (Operand.tmp 72) 3, type := 3, pos := "ref.go:77", after := #[dD 9, dD 10], guard := none }) (.int .i64 (i : Int)) hs0 (fun W hW => ?y12) ?_
  case y12 => go_simp
  try simp only [zp, zn, z1, z2, z3]
  refine tkH 12 ({ dst := some 74, op := Op.indexAddr 24 (Operand.tmp 70) (Operand.tmp 73), type := 0, pos := "ref.go:77", after := #[dD 8, dD 11], guard := none }) (.pointer (some ⟨gl, o + i * 2, none⟩)) hs0 (fun W hW => ?y13) ?_
  case y13 => go_simp
  try simp only [zp, zn, z1, z2, z3]
  refine tkH 13 ({ dst := some 75, op := Op.fieldAddr 87 (Operand.tmp 74) 1, type := 0, pos := "ref.go:77", after := #[dD 12], guard := none }) (.pointer (some ⟨gl, o + i * 2 + 1, none⟩)) hs0 (fun W hW => ?y14) ?_
  case y14 => go_simp
  try simp only [zp, zn, z1, z2, z3]
  refine tkH 14 ({ dst := some 76, op := Op.load 9 (Operand.tmp 75), type := 9, pos := "ref.go:77", after := #[dD 13], guard := none }) (.string x.2) hs0 (fun W hW => by have hcl := hW.2; go_simp) ?_
  try simp only [zp, zn, z1, z2, z3]
  refine wpAnyH_ready (rs := [15]) (by kernel_rfl) (by simp) ?_
  refine AllReadyH.cons (o := { dst := some 77, op := Op.buildSlice 47 2 #[(0, Operand.tmp 69), (1, Operand.tmp 76)], type := 47, pos := "ref.go:77", after := #[dD 7, dD 14], guard := none }) rfl (fun K hK => ?_) AllReadyH.nil
  rw [if_pos (by rfl)]
  have k1 := Lh (k0.out.alloc (.cells #[.string x.1, .string x.2] 9))
  have HT1 := Lh (E0.out.tab.below ((Below.refl Wd.heap.size Wd).alloc (Nat.le_refl _) (.cells #[.string x.1, .string x.2] 9)) E0.out.tab.1)
  have hs1 := cells_below hs0 ((Below.refl _ _).alloc (Nat.le_refl _) (.cells #[.string x.1, .string x.2] 9)) hgl0
  have HR1 := Lh (rd_new Wd (St [x.1, x.2]) 9)
  go_simp
  refine hK.out _ _ hs1 (fun _ => ?_)
  clear hK K
  try simp only [zp, zn, z1, z2, z3]
  refine wpAnyH_ready (rs := [16]) (by kernel_rfl) (by simp) ?_
  refine AllReadyH.cons (o := { dst := some 78, op := Op.call { callee := Callee.value (Operand.func 82), args := #[Operand.tmp 62, Operand.const (Value.int IntKind.i64 3), Operand.tmp 77], argTypes := #[102, 3, 47] }, type := 29, pos := "ref.go:77", after := #[dD 0, dD 15], guard := none }) rfl (fun K hK => ?_) AllReadyH.nil
  rw [if_pos (by rfl)]
  have HC := tof_any B g As ns cs hgB h0 3 3 (by rfl) (some ⟨Wd.heap.size, 0, none⟩) [x.1, x.2] 2 rfl 2 v s _ k1.out.st HTX.out HR1.out HIN.out HT1.out D HD3
  go_simp
  refine HC.mono ?_; rintro e w5 ⟨rfl, v5, hst5, hfr5⟩
  have k5 := Lh (k1.out.step hst5 hfr5)
  have hs5 := cells_fr hs1 hfr5 hno
  clear hst5 hfr5 HC
  go_wp2_with fail
  refine hK.out _ _ hs5 (fun _ => ?_)
  clear hK K
  try simp only [zp, zn, z1, z2, z3]
  refine wpAnyH_ready (rs := [17]) (by kernel_rfl) (by simp) ?_
  refine AllReadyH.cons (o := { dst := none, op := Op.store 29 (Operand.tmp 10) (Operand.tmp 78), type := 0, pos := "ref.go:77", after := #[dD 16, dC 16, dP 0, dP 1, dP 2, dP 3, dP 4, dP 5, dP 6, dP 7, dP 8, dP 9, dP 10, dP 11, dP 12, dP 13, dP 14, dP 15, dP 16], guard := none }) rfl (fun K hK => ?_) AllReadyH.nil
  rw [if_pos (by rfl)]
  have Z5 := Lh (show w5.heap[w.heap.size]? = some (.cells Z16.toArray 29 (0, 0)) from k5.out.z)
  have hs6 := cells_row (c := (B8 D).toArray) hs5 hglw
  refine wp_store_row 29 (.tmp 10) (.tmp 78) rfl w.heap.size (B8 D).toArray rfl rfl 29 _ Z5.out (size29' _ HDl.out) (Z16_size _ HDl.out) (one8 _) ?_
  refine hK.out _ _ hs6 (fun _ => ?_)
  clear hK K
  try simp only [zp, zn, z1, z2, z3]
  refine wpAnyH_done (by kernel_rfl) ?_ _
  try simp only [zp, zn, z1, z2, z3]
  go_wp2_with fail
  refine bodyPost_ret (v := .agg (B8 D).toArray) ?_ rfl ⟨rfl, v5, k5.out.close _⟩
  have hr := run_loadVar_row (P := Tryd.prog) _ w.heap.size 29 29 (B8 D).toArray (0, 0) (.array 16 5) (heap_setRow w5 w.heap.size (B8 D).toArray _ 29 Z5.out) Tryd.underlying29 rfl (size29' _ HDl.out)
  simp [results, asAddr, hr]
set_option maxHeartbeats 8000000 in
theorem trow_any (k : Nat) : ∀ (a b : Nat) (v : Value) (s : RS) (w : World), b - a ≤ k → a < b → b ≤ 1073741824 → s.texts.length + 2 * (b - a) ≤ 1000000 → StT B g As ns cs v s w → EnvT g AL L As S w →
    Calls Tryd.prog 81 #[.pointer (some ⟨g, 0, none⟩), .slice AL NL cL, .int .i64 (first : Int), .int .i64 (a : Int), .int .i64 (b : Int)] w (RowT B g As ns cs v (rrow L first S s a b).2 (rrow L first S s a b).1 w) := by
  induction k with
  | zero => intro a b v s w h1 h2; omega
  | succ k ih =>
    intro a b v s w hk hab hb htx h he
    by_cases hc : b ≤ first ∨ first + L.length ≤ a
    · rw [rrow_told L first S hc]
      exact trow_told B g AL As L S NL ns cL cs first hgB h0 hNL hns hL hS hSl hf a b v s w hb hab (by omega) h he
    by_cases h1 : 1 < b - a
    · have hZ := hZ16
      have hh1 := half_lt h1
      have hh0 := half_pos (b - a)
      obtain ⟨hh, hhh⟩ : ∃ q, q = half (b - a) := ⟨_, rfl⟩
      rw [rrow_split L first S hc h1]
      rw [← hhh] at hh1 hh0 ⊢
      have t1 := rrow_texts L first S (b - a) a (a + hh) s (by omega) (by omega)
      have t2 := rrow_texts L first S (b - a) (a + hh) b (rrow L first S s a (a + hh)).2 (by omega) (by omega)
      obtain ⟨D1, s1, e1⟩ : ∃ D s', rrow L first S s a (a + hh) = (D, s') := ⟨_, _, rfl⟩
      rw [e1] at t1 t2 ⊢
      simp only at t1 t2 ⊢
      obtain ⟨D2, s2, e2⟩ : ∃ D s', rrow L first S s1 (a + hh) b = (D, s') := ⟨_, _, rfl⟩
      rw [e2] at t2 ⊢
      simp only at t2 ⊢
      have HD1l := Lh (show D1.length = 16 by have := rrow_len L first S hS s a (a + hh); rw [e1] at this; exact this)
      have HD2l := Lh (show D2.length = 16 by have := rrow_len L first S hS s1 (a + hh) b; rw [e2] at this; exact this)
      obtain ⟨D, hD⟩ : ∃ D, D = node D1 D2 := ⟨_, rfl⟩
      rw [← hD]
      have HD4 := Lh (show D = dof 4 [bs D1, bs D2] from hD)
      have HDl := Lh (show D.length = 16 by rw [hD]; exact node_len _ _)
      have HIN := Lh (inp_2 4 (bs D1) (bs D2) (by rw [bs_size, HD1l.out]; omega) (by rw [bs_size, HD2l.out]; omega))
      have HTX := Lh (show s2.texts.length ≤ 1000000 by omega)
      have HI1 : Hid (∀ W, StT B g As ns cs v s W → EnvT g AL L As S W → Calls Tryd.prog 81 #[.pointer (some ⟨g, 0, none⟩), .slice AL NL cL, .int .i64 (first : Int), .int .i64 (a : Int), .int .i64 ((a : Int) + (hh : Int))] W (RowT B g As ns cs v s1 D1 W)) := Lh (fun W hw hew => by
        have := ih a (a + hh) v s W (by omega) (by omega) (by omega) (by omega) hw hew
        rw [e1] at this
        rw [show (a : Int) + (hh : Int) = ((a + hh : Nat) : Int) by omega]; exact this)
      have HI2 : Hid (∀ W v1, StT B g As ns cs v1 s1 W → EnvT g AL L As S W → Calls Tryd.prog 81 #[.pointer (some ⟨g, 0, none⟩), .slice AL NL cL, .int .i64 (first : Int), .int .i64 ((a : Int) + (hh : Int)), .int .i64 (b : Int)] W (RowT B g As ns cs v1 s2 D2 W)) := Lh (fun W v1 hw hew => by
        have := ih (a + hh) b v1 s1 W (by omega) (by omega) (by omega) (by omega) hw hew
        rw [e2] at this
        rw [show (a : Int) + (hh : Int) = ((a + hh : Nat) : Int) by omega]; exact this)
      obtain ⟨W1, hW1⟩ : ∃ W, W = w.alloc (.cells Z16.toArray 29) := ⟨_, rfl⟩
      have hbW : Below w.heap.size w W1 := by rw [hW1]; exact (Below.refl _ _).alloc (Nat.le_refl _) _
      have HHF : Hid (∀ W, Calls Tryd.prog 105 #[.int .i64 ((b : Int) - (a : Int))] W fun e w' => e = .returned (.int .i64 (hh : Int)) ∧ W = w') := Lh (fun W => by
        rw [hhh, show (b : Int) - (a : Int) = ((b - a : Nat) : Int) by omega]; exact half_any (b - a) W h1 (by omega))
      have K1 := Lh (R1.first h hW1)
      have E1 := Lh (show EnvT g AL L As S W1 from he.below h0 (Nat.le_of_lt h.blk.lt) hbW)
      have HW := Lh hW1
      have hgw : g < w.heap.size := h.blk.lt
      have q1 : (first : Int) + (NL : Int) ≤ 1073741824 := by omega
      have hcI : ¬ (b : Int) ≤ (first : Int) := by omega
      have hcJ : ¬ (first : Int) + (NL : Int) ≤ (a : Int) := by omega
      have hb1 : ((b : Int) - (a : Int) == 1) = false := by rw [beq_eq_false_iff_ne]; omega
      have hhb : (a : Int) + (hh : Int) ≤ 1073741824 := by omega
      clear h he hW1 hc hD h1 hbW hS hL htx t1 t2 e1 e2 hhh ih hh0 hh1 hNL hns
      go_enter Tryd.func81, Tryd.ntmps81
      go_upto_region 9 with fail
      rw [← HW.out]
      go_upto_region 10 with (go_at_call 105; refine (HHF.out _).mono ?_; rintro e wx ⟨rfl, rfl⟩)
      clear HHF
      go_wp2_with fail
      refine (HI1.out W1 K1.out.st E1.out).mono ?_; rintro e w2 ⟨rfl, v1, hst, hfr⟩
      have K2 := Lh (K1.out.step hst hfr)
      have E2 := Lh (E1.out.fr h0 hgB K1.out.st hfr)
      clear hst hfr HI1
      obtain ⟨W3, hW3⟩ : ∃ W, W = (w2.alloc (.cells Z16.toArray 29)).setRow w2.heap.size (B8 D1).toArray := ⟨_, rfl⟩
      have hb3 : Below w2.heap.size w2 W3 := by rw [hW3]; exact belowRow ((Below.refl _ _).alloc (Nat.le_refl _) _) (Nat.le_refl _) _
      have K3 := Lh (K2.out.below hb3)
      have E3 := Lh (E2.out.below h0 (Nat.le_of_lt K2.out.st.blk.lt) hb3)
      have X3 := Lh (show Blk W3 w2.heap.size 29 (B8 D1) by rw [hW3]; exact (Blk.new w2 29 Z16).row _)
      have O3 := Lh (show ¬ ownP g v1 w2.heap.size from fun h2 => Nat.lt_irrefl _ (K2.out.st.lt _ h2))
      have hn1 : w2.heap.size ≠ w.heap.size := by have := K2.out.z.lt; omega
      have HW3 := Lh hW3
      clear hW3 hb3
      go_upto_region 11 with (with_reducible refine wpList_store_row rfl 29 (.tmp 12) (.tmp 90) rfl w2.heap.size (B8 D1).toArray rfl rfl 29 _ (heap_alloc_new w2 _) (size29' _ HD1l.out) (Z16_size _ HD1l.out) (one8 _) ?_)
      rw [← HW3.out]
      obtain ⟨g1, hg1⟩ : ∃ q, q = w2.heap.size := ⟨_, rfl⟩
      rw [← hg1] at X3 O3 hn1 ⊢
      clear HW3 hg1
      go_wp2_with fail
      refine (HI2.out W3 v1 K3.out.st E3.out).mono ?_; rintro e w4 ⟨rfl, v2, hst, hfr⟩
      have K4' := Lh (K3.out.step hst hfr)
      have E4' := Lh (E3.out.fr h0 hgB K3.out.st hfr)
      have X4 := Lh (hfr.blk X3.out O3.out)
      have O4 := Lh (hfr.off O3.out X3.out.lt)
      clear hst hfr HI2
      obtain ⟨W4, hW4⟩ : ∃ W, W = (w4.alloc (.cells Z16.toArray 29)).setRow w4.heap.size (B8 D2).toArray := ⟨_, rfl⟩
      have hb4 : Below w4.heap.size w4 W4 := by rw [hW4]; exact belowRow ((Below.refl _ _).alloc (Nat.le_refl _) _) (Nat.le_refl _) _
      have K4 := Lh (show R2 B g AL As L S ns cs w v v2 s2 g1 w4.heap.size D1 D2 W4 from
        ⟨K4'.out.below hb4, X4.out.below hb4 X4.out.lt, by rw [hW4]; exact (Blk.new w4 29 Z16).row _, O4.out, fun h2 => Nat.lt_irrefl _ (K4'.out.st.lt _ h2), E4'.out.below h0 (Nat.le_of_lt K4'.out.st.blk.lt) hb4, h0⟩)
      have hn2 : w4.heap.size ≠ w.heap.size := by have := K4'.out.z.lt; omega
      have HW4 := Lh hW4
      clear hW4 hb4
      go_upto_region 12 with (with_reducible refine wpList_store_row rfl 29 (.tmp 13) (.tmp 96) rfl w4.heap.size (B8 D2).toArray rfl rfl 29 _ (heap_alloc_new w4 _) (size29' _ HD2l.out) (Z16_size _ HD2l.out) (one8 _) ?_)
      rw [← HW4.out]
      obtain ⟨g2, hg2⟩ : ∃ q, q = w4.heap.size := ⟨_, rfl⟩
      rw [← hg2] at K4 hn2 ⊢
      clear HW4 hg2
      refine wp_region_held (S := fun W => Blk W g1 29 (B8 D1) ∧ Blk W g2 29 (B8 D2)) (by kernel_rfl) ?_
      change wpAnyH _ _ _ _ _ _ _ _ (World.drew W4)
      have k0 := Lh K4.out.drew
      have hs0 : Blk (World.drew W4) g1 29 (B8 D1) ∧ Blk (World.drew W4) g2 29 (B8 D2) := ⟨k0.out.x1, k0.out.x2⟩
      generalize World.drew W4 = Wd at k0 hs0 ⊢
      refine tkH 0 ({ dst := some 97, op := Op.move (Operand.tmp 0), type := 102, pos := "ref.go:82", after := #[], guard := none }) (.pointer (some ⟨g, 0, none⟩)) hs0 (fun W hW => ?y1) ?_
      case y1 => go_simp
      try simp only [zp, zn, z1, z2, z3]
      refine tkH 1 ({ dst := some 98, op := Op.load 29 (Operand.tmp 12), type := 29, pos := "ref.go:82", after := #[], guard := none }) (.agg (B8 D1).toArray) hs0 (fun W hW => exec_load_row _ _ 29 (.tmp 12) rfl ⟨g1, 0, none⟩ rfl (B8 D1) W (run_loadVar_at W _ 29 (B8 D1) (.array 16 5) (Blk.at hW.1) Tryd.underlying29 rfl (size29 _ HD1l.out))) ?_
      try simp only [zp, zn, z1, z2, z3]
      refine tkH 3 ({ dst := some 100, op := Op.load 29 (Operand.tmp 13), type := 29, pos := "ref.go:82", after := #[], guard := none }) (.agg (B8 D2).toArray) hs0 (fun W hW => exec_load_row _ _ 29 (.tmp 13) rfl ⟨g2, 0, none⟩ rfl (B8 D2) W (run_loadVar_at W _ 29 (B8 D2) (.array 16 5) (Blk.at hW.2) Tryd.underlying29 rfl (size29 _ HD2l.out))) ?_
      try simp only [zp, zn, z1, z2, z3]
      refine wpAnyH_ready (rs := [2]) (by kernel_rfl) (by simp) ?_
      refine AllReadyH.cons (o := { dst := some 99, op := Op.call { callee := Callee.value (Operand.func 80), args := #[Operand.tmp 98], argTypes := #[29] }, type := 9, pos := "ref.go:82", after := #[dD 1], guard := none }) rfl (fun K hK => ?_) AllReadyH.nil
      rw [if_pos (by rfl)]
      go_simp
      refine (text_any D1 _ HD1l.out).mono ?_; rintro e w6 ⟨rfl, hbt⟩
      have k4 := Lh (k0.out.below hbt)
      have hs5 := And.intro (hs0.1.below hbt hs0.1.lt) (hs0.2.below hbt hs0.2.lt)
      clear hbt
      go_wp2_with fail
      refine hK.out _ _ hs5 (fun _ => ?_)
      clear hK K
      try simp only [zp, zn, z1, z2, z3]
      refine wpAnyH_ready (rs := [4]) (by kernel_rfl) (by simp) ?_
      refine AllReadyH.cons (o := { dst := some 101, op := Op.call { callee := Callee.value (Operand.func 80), args := #[Operand.tmp 100], argTypes := #[29] }, type := 9, pos := "ref.go:82", after := #[dD 3, dC 2], guard := none }) rfl (fun K hK => ?_) AllReadyH.nil
      rw [if_pos (by rfl)]
      go_simp
      refine (text_any D2 _ HD2l.out).mono ?_; rintro e w9 ⟨rfl, hbt⟩
      have k7 := Lh (k4.out.below hbt)
      have hs8 := And.intro (hs5.1.below hbt hs5.1.lt) (hs5.2.below hbt hs5.2.lt)
      clear hbt
      go_wp2_with fail
      refine hK.out _ _ hs8 (fun _ => ?_)
      clear hK K
      try simp only [zp, zn, z1, z2, z3]
      refine wpAnyH_ready (rs := [5]) (by kernel_rfl) (by simp) ?_
      refine AllReadyH.cons (o := { dst := some 102, op := Op.buildSlice 47 2 #[(0, Operand.tmp 99), (1, Operand.tmp 101)], type := 47, pos := "ref.go:82", after := #[dD 2, dD 4], guard := none }) rfl (fun K hK => ?_) AllReadyH.nil
      rw [if_pos (by rfl)]
      have k10 := Lh (k7.out.alloc (.cells #[.string (bs D1), .string (bs D2)] 9))
      have hs11 := And.intro (hs8.1.alloc (.cells #[.string (bs D1), .string (bs D2)] 9)) (hs8.2.alloc (.cells #[.string (bs D1), .string (bs D2)] 9))
      have HR1 := Lh (rd_new w9 (St [bs D1, bs D2]) 9)
      go_simp
      refine hK.out _ _ hs11 (fun _ => ?_)
      clear hK K
      try simp only [zp, zn, z1, z2, z3]
      refine wpAnyH_ready (rs := [6]) (by kernel_rfl) (by simp) ?_
      refine AllReadyH.cons (o := { dst := some 103, op := Op.call { callee := Callee.value (Operand.func 82), args := #[Operand.tmp 97, Operand.const (Value.int IntKind.i64 4), Operand.tmp 102], argTypes := #[102, 3, 47] }, type := 29, pos := "ref.go:82", after := #[dD 0, dD 5, dC 4], guard := none }) rfl (fun K hK => ?_) AllReadyH.nil
      rw [if_pos (by rfl)]
      have HC := tof_any B g As ns cs hgB h0 4 4 (by rfl) (some ⟨w9.heap.size, 0, none⟩) [bs D1, bs D2] 2 rfl 2 _ s2 _ k10.out.st HTX.out HR1.out HIN.out k10.out.env.tab D HD4
      go_simp
      refine HC.mono ?_; rintro e w5 ⟨rfl, v5, hst5, hfr5⟩
      have k5 := Lh (k10.out.end_ hst5 hfr5)
      have hs5 := And.intro (hfr5.blk hs11.1 k10.out.out1) (hfr5.blk hs11.2 k10.out.out2)
      clear hst5 hfr5 HC
      go_wp2_with fail
      refine hK.out _ _ hs5 (fun _ => ?_)
      clear hK K
      try simp only [zp, zn, z1, z2, z3]
      refine wpAnyH_ready (rs := [7]) (by kernel_rfl) (by simp) ?_
      refine AllReadyH.cons (o := { dst := none, op := Op.store 29 (Operand.tmp 10) (Operand.tmp 103), type := 0, pos := "ref.go:82", after := #[dD 6, dC 6, dP 0, dP 1, dP 2, dP 3, dP 4, dP 5, dP 6], guard := none }) rfl (fun K hK => ?_) AllReadyH.nil
      rw [if_pos (by rfl)]
      have Z5 := Lh (show w5.heap[w.heap.size]? = some (.cells Z16.toArray 29 (0, 0)) from k5.out.z)
      have hs6 := And.intro (hs5.1.setRow hn1 (B8 D).toArray) (hs5.2.setRow hn2 (B8 D).toArray)
      refine wp_store_row 29 (.tmp 10) (.tmp 103) rfl w.heap.size (B8 D).toArray rfl rfl 29 _ Z5.out (size29' _ HDl.out) (Z16_size _ HDl.out) (one8 _) ?_
      refine hK.out _ _ hs6 (fun _ => ?_)
      clear hK K
      try simp only [zp, zn, z1, z2, z3]
      refine wpAnyH_done (by kernel_rfl) ?_ _
      try simp only [zp, zn, z1, z2, z3]
      go_wp2_with fail
      refine bodyPost_ret (v := .agg (B8 D).toArray) ?_ rfl ⟨rfl, v5, k5.out.close _⟩
      have hr := run_loadVar_row (P := Tryd.prog) _ w.heap.size 29 29 (B8 D).toArray (0, 0) (.array 16 5) (heap_setRow w5 w.heap.size (B8 D).toArray _ 29 Z5.out) Tryd.underlying29 rfl (size29' _ HDl.out)
      simp [results, asAddr, hr]
    · exact trow_one B g AL As L S NL ns cL cs first hgB h0 hNL hns hL hS hSl hf a b v s w hb hab hc (by omega) (by omega) h he _ _ (Lh rfl)
end
end Go.Proofs.YtofccgkgjcnfbaaDoor
namespace Go.Proofs.YtofccgkgjcnfbaaDoor
open Go.RowKit Wr Sh
set_option linter.unusedVariables false
set_option maxRecDepth 100000
set_option maxHeartbeats 4000000 in
theorem rvalid_any (A : Option Addr) (L : List Lf) (c : Nat) (w : World) (hL : okL L) (hr : Rd w w.heap.size A (LC L)) :
    Calls Tryd.prog 16 #[.slice A L.length c] w fun e w' => e = .returned (.int .i64 (validE L)) ∧ Below w.heap.size w w' := by
  have hln := hL.1
  by_cases hlong : 4096 < L.length
  · have i1 : (4096 : Int) < (L.length : Int) := by omega
    rw [show validE L = 4 by unfold validE; rw [if_pos hlong]]
    go_enter Tryd.func16, Tryd.ntmps16
    go_wp2_with fail
    go_ret
    exact ⟨rfl, Below.refl _ _⟩
  · have i1 : ¬ (4096 : Int) < (L.length : Int) := by omega
    have HL := Lh hL
    have HR := Lh hr
    have HN := Lh hlong
    obtain ⟨N, hN⟩ : ∃ N, N = L.length := ⟨_, rfl⟩
    have HNN := Lh hN
    rw [← hN] at hln i1 ⊢
    clear hL hr hlong hN
    go_enter Tryd.func16, Tryd.ntmps16
    go_wp2_with fail
    go_loopw [3] (fun s3 wr => ∃ k : Nat, k ≤ N ∧ s3 = .int .i64 (k : Int) ∧ Hid ((L.take k).any longB = false) ∧ Hid (Below w.heap.size w wr))
      (fun s3 _ => N - (intOf s3).toNat)
    case atStart => exact ⟨0, by omega, rfl, Lh rfl, Lh (Below.refl _ _)⟩
    case round =>
    obtain ⟨k, hk, rfl, hany, hb⟩ := hrel
    by_cases hlt : k < N
    · have hkl : k < L.length := by have := HNN.out; omega
      obtain ⟨g, o, rfl, hg, hc⟩ := leaf_cells HR.out k hkl
      obtain ⟨c1, c2⟩ := hc k hkl
      obtain ⟨x, hx⟩ : ∃ x : Lf, x = L[k] := ⟨_, rfl⟩
      have hz := HL.out.2 L[k] (List.getElem_mem hkl)
      rw [← hx] at c1 c2 hz
      have hc1 : wr.cell? ⟨g, o + k * 2, none⟩ = some (.string x.1) := (hb.out.cell (p := ⟨g, o + k * 2, none⟩) hg).trans c1
      have hc2 : wr.cell? ⟨g, o + k * 2 + 1, none⟩ = some (.string x.2) := (hb.out.cell (p := ⟨g, o + k * 2 + 1, none⟩) hg).trans c2
      have HX := Lh hx
      have HS := Lh (take_any L k hkl)
      obtain ⟨x1, x2⟩ := x
      have hz1 : x1.size ≤ 1073741824 := hz.1
      have hz2 : x2.size ≤ 1073741824 := hz.2
      have hltI : (k : Int) < (N : Int) := by omega
      have hkk : (k : Int) ≤ 1073741824 := by omega
      have HBW := hb
      clear c1 c2 hx hc hz
      by_cases hlx : longB (x1, x2) = true
      · have HV := Lh (show validE L = 4 by
          have h1 : L.any longB = true := by
            rw [List.any_eq_true]
            exact ⟨L[k], List.getElem_mem hkl, by rw [← HX.out]; exact hlx⟩
          unfold validE; rw [if_neg HN.out, if_pos h1])
        have hcs : (65536 < x1.size) ∨ (¬ 65536 < x1.size ∧ 65536 < x2.size) := by
          unfold longB at hlx
          simp only [Bool.or_eq_true, decide_eq_true_eq] at hlx
          omega
        clear hlx
        rcases hcs with h | ⟨h, h'⟩
        · have j1 : (65536 : Int) < (x1.size : Int) := by omega
          go_wp2_with fail
          go_ret
          exact ⟨by rw [HV.out]; rfl, HBW.out⟩
        · have j1 : ¬ (65536 : Int) < (x1.size : Int) := by omega
          have j2 : (65536 : Int) < (x2.size : Int) := by omega
          go_wp2_with fail
          go_ret
          exact ⟨by rw [HV.out]; rfl, HBW.out⟩
      · have hcs : ¬ 65536 < x1.size ∧ ¬ 65536 < x2.size := by
          unfold longB at hlx
          simp only [Bool.or_eq_true, decide_eq_true_eq, not_or] at hlx
          exact hlx
        have HQ := Lh (show (L.take (k + 1)).any longB = false by rw [HS.out, hany.out, ← HX.out]; simpa using hlx)
        have j1 : ¬ (65536 : Int) < (x1.size : Int) := by omega
        have j2 : ¬ (65536 : Int) < (x2.size : Int) := by omega
        clear hlx hcs
        go_wp2_with fail
        go_roundw
        case rel => exact ⟨k + 1, by omega, by go_num, HQ, HBW⟩
        case measure => simp only [intOf]; omega
    · obtain rfl : k = N := by omega
      have HQ := Lh (show L.any longB = false by
        have := hany.out
        rw [List.take_of_length_le (by have := HNN.out; omega)] at this
        exact this)
      have hlt2 : ¬ (k : Int) < (k : Int) := by omega
      clear hany
      go_wp2_with fail
      go_loopw [4] (fun s4 wz => ∃ j : Nat, j ≤ max k 1 - 1 ∧ s4 = .int .i64 ((j : Int) + 1) ∧ Hid (∀ i (h : i + 1 < L.length), i < j → sl (L[i]'(by omega)).1 L[i + 1].1 = true) ∧ Hid (Below w.heap.size w wz))
        (fun s4 _ => max k 1 - (intOf s4).toNat)
      case atStart => exact ⟨0, by omega, rfl, Lh (fun j h hj => by omega), hb⟩
      case round =>
      clear hb
      obtain ⟨j, hj, rfl, had, hb⟩ := hrel
      by_cases hlt : j + 1 < k
      · have hjl : j + 1 < L.length := by have := HNN.out; omega
        obtain ⟨g, o, rfl, hg, hc⟩ := leaf_cells HR.out j (by omega)
        obtain ⟨c1, _⟩ := hc j (by omega)
        obtain ⟨c2, _⟩ := hc (j + 1) hjl
        obtain ⟨x, hx⟩ : ∃ x : ByteArray, x = L[j].1 := ⟨_, rfl⟩
        obtain ⟨y, hy⟩ : ∃ y : ByteArray, y = L[j + 1].1 := ⟨_, rfl⟩
        rw [← hx] at c1
        rw [← hy] at c2
        have hc1 : wr.cell? ⟨g, o + j * 2, none⟩ = some (.string x) := (hb.out.cell (p := ⟨g, o + j * 2, none⟩) hg).trans c1
        have hc2 : wr.cell? ⟨g, o + (j + 1) * 2, none⟩ = some (.string y) := (hb.out.cell (p := ⟨g, o + (j + 1) * 2, none⟩) hg).trans c2
        have HX := Lh hx
        have HY := Lh hy
        have hltI : (j : Int) + 1 < (k : Int) := by omega
        have hjj : (j : Int) ≤ 1073741824 := by omega
        have ht1 : ((j : Int) + 1).toNat = j + 1 := by omega
        clear c1 c2 hx hy hc
        cases hs : sl x y with
        | true =>
          have ht2 : (Op.bytesLess y.toList x.toList || y.toList == x.toList) = false := by rw [leq_str, hs]; rfl
          have HAD := Lh (show ∀ i (h : i + 1 < L.length), i < j + 1 → sl (L[i]'(by omega)).1 L[i + 1].1 = true from fun i h hi => by
            rcases Nat.lt_or_ge i j with h1 | h1
            · exact had.out i h h1
            · obtain rfl : i = j := by omega
              rw [← HX.out, ← HY.out]; exact hs)
          have HB := Lh (below_drewN hb.out 1)
          clear hs
          go_wp2_with fail
          go_quiet (fail)
          go_wp2_with fail
          go_roundw
          case rel => exact ⟨j + 1, by omega, by go_num, HAD, by first | exact Lh (below_drewN hb.out _) | exact HB⟩
          case measure => simp only [intOf]; omega
        | false =>
          have ht2 : (Op.bytesLess y.toList x.toList || y.toList == x.toList) = true := by rw [leq_str, hs]; rfl
          have HV := Lh (show validE L = 1 by
            unfold validE; rw [if_neg HN.out, if_neg (by rw [HQ.out]; simp), if_neg]
            intro h
            have := (ordB_adj L).1 h j hjl
            rw [← HX.out, ← HY.out, hs] at this; cases this)
          clear hs
          go_wp2_with fail
          go_quiet (fail)
          go_wp2_with fail
          go_ret
          exact ⟨by rw [HV.out]; rfl, below_drewN hb.out _⟩
      · have hltI : ¬ (j : Int) + 1 < (k : Int) := by omega
        have HV := Lh (show validE L = 0 by
          unfold validE; rw [if_neg HN.out, if_neg (by rw [HQ.out]; simp), if_pos]
          exact (ordB_adj L).2 (fun i h => had.out i h (by have := HNN.out; omega)))
        go_wp2_with fail
        go_ret
        exact ⟨by rw [HV.out]; rfl, hb.out⟩
theorem cb_take (L : List Lf) (k : ByteArray) (j : Nat) (h : j < L.length) : cb (L.take (j + 1)) k = cb (L.take j) k + (if sl L[j].1 k = true then 1 else 0) := by
  unfold cb
  rw [List.take_succ_eq_append_getElem h, List.countP_append]; simp [List.countP_cons]
theorem lss_str' (x y : ByteArray) : Op.bytesLess x.toList y.toList = sl x y := by
  rw [Go.Proofs.bytesLess_eq, Lib.toList_data, Lib.toList_data]; rfl
set_option maxHeartbeats 2000000 in
theorem from_any (A : Option Addr) (L : List Lf) (c : Nat) (key : ByteArray) (w : World) (hl : L.length ≤ 1073741824) (hr : Rd w w.heap.size A (LC L)) :
    Calls Tryd.prog 56 #[.slice A L.length c, .string key] w fun e w' => e = .returned (.int .i64 (cb L key : Nat)) ∧ w' = w := by
  obtain ⟨N, hN⟩ : ∃ N, N = L.length := ⟨_, rfl⟩
  rw [← hN] at hl ⊢
  have HN := Lh hN
  have HR := Lh hr
  clear hN hr
  go_enter Tryd.func56, Tryd.ntmps56
  go_wp2
  go_loopw [5, 6] (fun s5 s6 wr => ∃ j n : Nat, j ≤ N ∧ n ≤ j ∧ s6 = .int .i64 j ∧ s5 = .int .i64 n ∧ Hid (n = cb (L.take j) key) ∧ w = wr)
    (fun _ s6 _ => N - (intOf s6).toNat)
  case atStart => exact ⟨0, 0, Nat.zero_le _, Nat.le_refl _, rfl, rfl, Lh rfl, rfl⟩
  case round =>
    obtain ⟨j, n, hj, hnj, rfl, rfl, hcb, rfl⟩ := hrel
    by_cases hlt : j < N
    · have hjl : j < L.length := by have := HN.out; omega
      obtain ⟨g, o, rfl, hg, hcell⟩ := HR.out (by intro e; have := congrArg List.length e; rw [LC_len] at this; simp only [List.length_nil] at this; omega)
      have hc1 := hcell _ _ (LC_at L j hjl).1
      have HT := Lh (cb_take L key j hjl)
      obtain ⟨k, hk⟩ : ∃ k, k = L[j].1 := ⟨_, rfl⟩
      rw [← hk] at hc1 HT
      have hltI : (j : Int) < (N : Int) := by omega
      clear hcell hk hg
      cases he : sl k key with
      | true =>
        have he2 : Op.bytesLess k.toList key.toList = true := by rw [lss_str', he]
        have HF := Lh (show n + 1 = cb (L.take (j + 1)) key by rw [HT.out, ← hcb.out, he]; rfl)
        clear HT hcb he
        go_wp2
        go_roundw
        case rel => exact ⟨j + 1, n + 1, by omega, by omega, by go_num, by go_num, HF, by first | rfl | trivial⟩
        case measure => simp only [intOf]; omega
      | false =>
        have he2 : Op.bytesLess k.toList key.toList = false := by rw [lss_str', he]
        have HF := Lh (show n = cb (L.take (j + 1)) key by rw [HT.out, ← hcb.out, he]; rfl)
        clear HT hcb he
        go_wp2
        go_roundw
        case rel => exact ⟨j + 1, n, by omega, by omega, by go_num, rfl, HF, by first | rfl | trivial⟩
        case measure => simp only [intOf]; omega
    · obtain rfl : j = N := by omega
      go_wp2
      go_ret
      exact ⟨by rw [hcb.out, HN.out, List.take_length]; rfl, rfl⟩
end Go.Proofs.YtofccgkgjcnfbaaDoor
namespace Go.Proofs.YtofccgkgjcnfbaaDoor
open Go.RowKit Wr Sh
set_option linter.unusedVariables false
set_option maxRecDepth 100000
section
variable {B g : Nat} {As : Option Addr} {ns cs : Nat} {v v' v2 : Value} {s s' s2 : RS} {w W W' : World}
theorem R1.grown (h : R1 B g As ns cs w v v' s' W) {gp : Nat} (hg : W.grownBy W' (some gp)) (hp : w.heap.size < gp) (hno : ¬ ownP g v' gp) : R1 B g As ns cs w v v' s' W' :=
  ⟨h.st.keep hg.size (fun k hk ho => hg.block k hk (fun e => hno (by injection e with e; rw [← e]; exact ho))),
    ⟨hg.os.trans h.fr.os, hg.tape.trans h.fr.tape, hg.output.trans h.fr.output, Nat.le_trans h.fr.size hg.size, fun k hk ho => (hg.block k (Nat.lt_of_lt_of_le hk h.fr.size) (fun e => by injection e with e; omega)).trans (h.fr.keep k hk ho), h.fr.own⟩,
    (hg.block _ h.z.lt (fun e => by injection e with e; omega)).trans h.z, h.out⟩
theorem Tab.keep {q : Nat} (h : Tab q W) (hs : W.heap.size ≤ W'.heap.size) (hk : W'.heap[q]? = W.heap[q]?) : Tab q W' :=
  ⟨Nat.lt_of_lt_of_le h.1 hs, fun t ht => (World.cell?_of_block (a := ⟨q, t, none⟩) hk).trans (h.2 t ht)⟩
theorem StT.new (As : Option Addr) (ns cs : Nat) (W : World) : StT (W.heap.size + 1) W.heap.size As ns cs (.slice none 0 0) RS.new (W.alloc (.cells #[.slice none 0 0, .slice As ns cs, .int .i64 0, .bool false] 104)) :=
  ⟨by simp, Blk.new W 104 [.slice none 0 0, .slice As ns cs, .int .i64 0, .bool false], World.ownsRow_nil _ _ _ _⟩
theorem StT.belowT {O : Nat → Prop} (hgB : g < B) (h : StT B g As ns cs v s W) (hf : Fr (ownP g v) O W W') : Below g W W' :=
  ⟨hf.os, hf.tape, hf.output, hf.size, fun k hk => hf.keep k (Nat.lt_trans hk h.blk.lt) (fun h1 => by rcases h.far hgB k h1 with h2 | h2 <;> omega)⟩
end
section
variable (B g : Nat) (AL As : Option Addr) (L : List Lf) (S : List (List UInt8)) (NL ns cL cs first : Nat) (hgB : g < B) (h0 : 0 < g) (hNL : NL = L.length) (hns : ns = S.length) (hL : okL L) (hS : ∀ d ∈ S, d.length = 16) (hSl : S.length ≤ 1073741824) (hf : first + L.length ≤ 1073741824)
include hgB h0 hNL hns hL hS hSl hf
end
end Go.Proofs.YtofccgkgjcnfbaaDoor
