/-
  The closure in merkle's proofOf does as Told says.
  Conditions: at most 2^30 leaves, keys and values of at most 2^30 bytes; the table of the round constants is as the text lays it.
-/
import Derived.Test.YtofccgkgjcnfbaaDoorZ
import Derived.Test.YtofccgkgjcnfbaaDoorGIntsRootOne
import Derived.Deep.AppendLies
set_option linter.unusedSimpArgs false
namespace Go.Proofs.YtofccgkgjcnfbaaDoor
open Go.RowKit Wr Sh
set_option linter.unusedVariables false
set_option maxRecDepth 100000
theorem info29 : (Tryd.prog.info? 29).map (fun i => (i.zero, i.size, i.bytes)) = some (some (.agg Z16.toArray), 16, 16) := by kernel_rfl
theorem build16 (D : List UInt8) (h : D.length = 16) : ∀ W : World, (Instr.buildSlice 48 1 #[(0, .agg (B8 D).toArray)]).run Tryd.prog W = .ok (.slice (some ⟨W.heap.size, 0, none⟩) 1 1) (W.alloc (.cells (B8 D).toArray 29)) := by
  match D, h with
  | [d0, d1, d2, d3, d4, d5, d6, d7, d8, d9, d10, d11, d12, d13, d14, d15], _ => intro W; kernel_rfl
theorem wp_build16 {w : World} {o : Oper} {a : Act} {K : Act → World → Prop} {Q : Exit → Act → World → Prop} (x : Operand) (ho : o.op = .buildSlice 48 1 #[(0, x)]) (D : List UInt8) (hx : a.eval x = .agg (B8 D).toArray) (h16 : D.length = 16)
    (h : K (a.put o.dst (.slice (some ⟨w.heap.size, 0, none⟩) 1 1)) (w.alloc (.cells (B8 D).toArray 29))) : o.wp Tryd.prog a w K Q := by
  have hb := build16 D h16 w
  unfold Oper.wp execOp
  simp only [ho, List.map_toArray, List.map_cons, List.map_nil, hx, Sem.run_bind, hb, Result.andThen_ok, Sem.run_pure]
  exact h
theorem wpList_build16 {w : World} {ops : Array Oper} {rest : List Oper} {o : Oper} {a : Act} {Q : Exit → Act → World → Prop} (hgd : o.guard = none) (x : Operand) (ho : o.op = .buildSlice 48 1 #[(0, x)]) (D : List UInt8) (hx : a.eval x = .agg (B8 D).toArray) (h16 : D.length = 16)
    (h : wpList Tryd.prog ops Q rest (a.put o.dst (.slice (some ⟨w.heap.size, 0, none⟩) 1 1)) (w.alloc (.cells (B8 D).toArray 29))) : wpList Tryd.prog ops Q (o :: rest) a w :=
  wpList_plain hgd fun K hK => wp_build16 x ho D hx h16 (hK _ _ h)
theorem tree_len (L : List Lf) (a b : Nat) : (tree node (leafAt lf L) a b).length = 16 := by
  by_cases h : 1 < b - a
  · rw [tree_split node _ h]; exact dof_len _ _
  · rw [tree_one node _ (by omega)]; exact dof_len _ _
structure PlP (Bl B gv gp g4 g5 g8 : Nat) : Prop where
  b1 : 1 < Bl
  b2 : Bl ≤ gp
  bp : gp < B
  v : gv < B ∧ gv ≠ gp
  p4 : g4 < B ∧ g4 ≠ gp
  p5 : g5 < B ∧ g5 ≠ gp
  p8 : g8 < B ∧ g8 ≠ gp
structure StP (Bl B gv gp g4 g5 g8 : Nat) (A : Option Addr) (L : List Lf) (c first last : Nat) (x0 x1 x2 v : Value) (s : List (List UInt8)) (W : World) : Prop where
  size : B ≤ W.heap.size
  leaf : LeafAt Bl gv A L c W
  blk : Blk W gp 50 [x0, x1, x2, v]
  row : W.ownsRow B 29 16 v s.length (B8 s.flatten)
  c4 : W.cell? ⟨g4, 0, none⟩ = some (.int .i64 (first : Int))
  c5 : W.cell? ⟨g5, 0, none⟩ = some (.int .i64 (last : Int))
  c8 : W.cell? ⟨g8, 0, none⟩ = some (.func (.func 78) #[] #[.pointer (some ⟨gv, 0, none⟩)])
  each : ∀ d ∈ s, d.length = 16
def ownP (gp : Nat) (v : Value) (k : Nat) : Prop := k = gp ∨ v.ownBlock = some k
def InvP (Bl B gv gp g4 g5 g8 : Nat) (A : Option Addr) (L : List Lf) (c first last : Nat) (x0 x1 x2 : Value) (s : List (List UInt8)) (O : Nat → Prop) (W : World) : Prop :=
  ∃ v, (∀ k, O k ↔ ownP gp v k) ∧ StP Bl B gv gp g4 g5 g8 A L c first last x0 x1 x2 v s W
section
variable {Bl B gv gp g4 g5 g8 : Nat} {A : Option Addr} {L : List Lf} {c first last : Nat} {x0 x1 x2 v : Value} {s : List (List UInt8)} {W W' : World}
theorem StP.keep (pl : PlP Bl B gv gp g4 g5 g8) (h : StP Bl B gv gp g4 g5 g8 A L c first last x0 x1 x2 v s W) (hs : W.heap.size ≤ W'.heap.size) (hk : ∀ k, k < W.heap.size → (k < B ∨ ownP gp v k) → W'.heap[k]? = W.heap[k]?) : StP Bl B gv gp g4 g5 g8 A L c first last x0 x1 x2 v s W' where
  size := Nat.le_trans h.size hs
  leaf := h.leaf.keep pl.b1 hs (fun k h1 h2 => hk k h1 (.inl (by have := pl.b2; have := pl.bp; have := pl.v; omega)))
  blk := (hk gp h.blk.lt (.inl pl.bp)).trans h.blk
  row := by
    refine ⟨h.row.1, ?_⟩
    rcases h.row.2 with h0 | ⟨g, cap, cur, e, h1, h2, h3⟩
    · exact .inl h0
    · exact .inr ⟨g, cap, cur, e, h1, by
        rw [hk g (Array.getElem?_eq_some_iff.1 h2).1 (.inr (.inr (by rw [e]; rfl)))]; exact h2, h3⟩
  c4 := (World.cell?_of_block (a := ⟨g4, 0, none⟩) (hk g4 (World.block_lt_of_cell? _ _ h.c4) (.inl pl.p4.1))).trans h.c4
  c5 := (World.cell?_of_block (a := ⟨g5, 0, none⟩) (hk g5 (World.block_lt_of_cell? _ _ h.c5) (.inl pl.p5.1))).trans h.c5
  c8 := (World.cell?_of_block (a := ⟨g8, 0, none⟩) (hk g8 (World.block_lt_of_cell? _ _ h.c8) (.inl pl.p8.1))).trans h.c8
  each := h.each
theorem StP.below (pl : PlP Bl B gv gp g4 g5 g8) (h : StP Bl B gv gp g4 g5 g8 A L c first last x0 x1 x2 v s W) (hb : Below W.heap.size W W') : StP Bl B gv gp g4 g5 g8 A L c first last x0 x1 x2 v s W' :=
  h.keep pl hb.size (fun k hk _ => hb.block k hk)
theorem StP.lt (h : StP Bl B gv gp g4 g5 g8 A L c first last x0 x1 x2 v s W) : ∀ k, ownP gp v k → k < W.heap.size := by
  rintro k (rfl | hk)
  · exact h.blk.lt
  · exact (h.row.lt k hk).2
theorem StP.more (pl : PlP Bl B gv gp g4 g5 g8) (h : StP Bl B gv gp g4 g5 g8 A L c first last x0 x1 x2 v s W) {D : List UInt8} (hD : D.length = 16) {g cap : Nat} (ho : W'.ownsRow B 29 16 (.slice (some ⟨g, 0, none⟩) (s.length + 1) cap) (s.length + 1) (B8 s.flatten ++ B8 D))
    (hg : W.grownBy W' v.ownBlock) : StP Bl B gv gp g4 g5 g8 A L c first last x0 x1 x2 (.slice (some ⟨g, 0, none⟩) (s.length + 1) cap) (s ++ [D]) (W'.setCell ⟨gp, 3, none⟩ (.slice (some ⟨g, 0, none⟩) (s.length + 1) cap)) := by
  have hvb : ∀ k, v.ownBlock = some k → B ≤ k := fun k hk => (h.row.lt k hk).1
  have hold : ∀ k, k < W.heap.size → k < B → k ≠ gp → (W'.setCell ⟨gp, 3, none⟩ (.slice (some ⟨g, 0, none⟩) (s.length + 1) cap)).heap[k]? = W.heap[k]? := fun k h1 h2 h3 =>
    (Below.heap_setCell _ _ _ _ h3).trans (hg.block k h1 (fun e => by have := hvb k e.symm; omega))
  have hbp : Blk W' gp 50 [x0, x1, x2, v] := h.blk.grown hg (fun e => by have := hvb gp e.symm; have := pl.bp; omega)
  have hs : W.heap.size ≤ (W'.setCell ⟨gp, 3, none⟩ (.slice (some ⟨g, 0, none⟩) (s.length + 1) cap)).heap.size := by simp [World.setCell]; exact hg.size
  have hb2 := pl.b2; have hbpp := pl.bp
  exact {
    size := Nat.le_trans h.size hs
    leaf := h.leaf.keep pl.b1 hs (fun k h1 h2 => hold k h1 (by have := pl.v; omega) (by have := pl.v; omega))
    blk := hbp.put 3 _
    row := by
      have e : s.length + 1 = (s ++ [D]).length := by simp
      have e2 : B8 s.flatten ++ B8 D = B8 (s ++ [D]).flatten := by rw [List.flatten_append, B8_append]; simp
      rw [← e, ← e2]
      refine ⟨ho.1, ?_⟩
      rcases ho.2 with h0 | ⟨g', cap', cur, e', h1, h2, h3⟩
      · exact .inl h0
      · refine .inr ⟨g', cap', cur, e', h1, ?_, h3⟩
        rw [Below.heap_setCell _ _ _ _ (show g' ≠ gp by omega)]; exact h2
    c4 := (World.cell?_of_block (a := ⟨g4, 0, none⟩) (hold g4 (World.block_lt_of_cell? _ _ h.c4) pl.p4.1 pl.p4.2)).trans h.c4
    c5 := (World.cell?_of_block (a := ⟨g5, 0, none⟩) (hold g5 (World.block_lt_of_cell? _ _ h.c5) pl.p5.1 pl.p5.2)).trans h.c5
    c8 := (World.cell?_of_block (a := ⟨g8, 0, none⟩) (hold g8 (World.block_lt_of_cell? _ _ h.c8) pl.p8.1 pl.p8.2)).trans h.c8
    each := by
      intro d hd
      rcases List.mem_append.1 hd with h1 | h1
      · exact h.each d h1
      · rw [List.mem_singleton.1 h1]; exact hD }
set_option maxHeartbeats 4000000 in
theorem prove_told (pl : PlP Bl B gv gp g4 g5 g8) (hL : okL L) (a b : Nat) (w : World) (hab : a < b) (hb : b ≤ L.length) (hc : b ≤ first ∨ ¬ b ≤ first ∧ last ≤ a) (hf : first ≤ 1073741824) (hla : last ≤ 1073741824) (hsl : s.length ≤ a)
    (h : StP Bl B gv gp g4 g5 g8 A L c first last x0 x1 x2 v s w) (D : List UInt8) (hD : Hid (D = tree node (leafAt lf L) a b)) :
    Calls Tryd.prog 85 #[.int .i64 (a : Int), .int .i64 (b : Int), .pointer (some ⟨g4, 0, none⟩), .pointer (some ⟨g5, 0, none⟩), .pointer (some ⟨g8, 0, none⟩), .pointer (some ⟨gp, 0, none⟩)] w fun e w' =>
      e = .returned (.tuple #[.agg (B8 D).toArray, .bool true]) ∧ ∃ v', StP Bl B gv gp g4 g5 g8 A L c first last x0 x1 x2 v' (s ++ [D]) w' ∧ Fr (ownP gp v) (ownP gp v') w w' := by
  have hln := hL.1
  have HL := Lh hL
  have PL := Lh pl
  have hZ := hZ16
  have HDl := Lh (show D.length = 16 by rw [hD.out]; exact tree_len L a b)
  obtain ⟨i0, hi0, hz0, hz1, hz2⟩ := info_parts info29
  have HI := Lh (And.intro hi0 (And.intro hz0 (And.intro hz1 hz2)))
  obtain ⟨A0, c0, rfl, _, _, _⟩ := own_form h.row
  obtain ⟨n, hn⟩ : ∃ n, n = s.length := ⟨_, rfl⟩
  obtain ⟨W1, hW1⟩ : ∃ W, W = w.alloc (.cells Z16.toArray 29) := ⟨_, rfl⟩
  have B1 := Lh (show Below w.heap.size w W1 by rw [hW1]; exact (Below.refl _ _).alloc (Nat.le_refl _) _)
  have Z1 := Lh (show Blk W1 w.heap.size 29 Z16 by rw [hW1]; exact Blk.new w 29 Z16)
  have S1 := Lh (h.below pl B1.out)
  have HS0 := Lh h
  have HW := Lh hW1
  have e4 := S1.out.c4
  have e5 := S1.out.c5
  have e8 := S1.out.c8
  have HLA := Lh S1.out.leaf
  have HBL := Lh (show Bl ≤ W1.heap.size by have := pl.b2; have := pl.bp; have := S1.out.size; omega)
  clear h hW1 hL pl hi0 hz0 hz1 hz2
  rcases hc with hc | ⟨hc0, hc⟩
  · have hcI : (b : Int) ≤ (first : Int) := by omega
    go_enter Tryd.func85, Tryd.ntmps85
    go_upto_region 1 with fail
    rw [← HW.out]
    go_wp2_with fail
    refine (tree_any Bl gv A L c PL.out.b1 HL.out a b _ hab hb HBL.out HLA.out D hD).mono ?_; rintro e w2 ⟨rfl, hb2⟩
    have S2 := Lh (S1.out.below PL.out hb2)
    have B2 := Lh (B1.out.trans (hb2.mono B1.out.size))
    have Z2 := Lh (Z1.out.below hb2 Z1.out.lt)
    clear hb2 e4 e5 e8
    obtain ⟨W3, hW3⟩ : ∃ W, W = (w2.alloc (.cells Z16.toArray 29)).setRow w2.heap.size (B8 D).toArray := ⟨_, rfl⟩
    have hb3 : Below w2.heap.size w2 W3 := by rw [hW3]; exact belowRow ((Below.refl _ _).alloc (Nat.le_refl _) _) (Nat.le_refl _) _
    have S3 := Lh (S2.out.below PL.out hb3)
    have B3 := Lh (B2.out.trans (hb3.mono B2.out.size))
    have Z3 := Lh (Z2.out.below hb3 Z2.out.lt)
    have D3 := Lh (show Blk W3 w2.heap.size 29 (B8 D) by rw [hW3]; exact (Blk.new w2 29 Z16).row _)
    have HW3 := Lh hW3
    have L3 := Lh D3.out.at
    have hcp : W3.cell? ⟨gp, 3, none⟩ = some (.slice A0 s.length c0) := (S3.out.blk.cell 3).trans rfl
    have hb4 : Below W3.heap.size W3 (W3.alloc (.cells (B8 D).toArray 29)) := (Below.refl _ _).alloc (Nat.le_refl _) _
    have S4 := Lh (S3.out.below PL.out hb4)
    have A4 := Lh (Blk.new W3 29 (B8 D)).at
    have HN := Lh (show (B8 D).length = 1 * 16 by rw [B8_len, HDl.out])
    have HGP := Lh HS0.out.blk.lt
    have HVB := Lh (fun k (hk : (Value.slice A0 s.length c0).ownBlock = some k) => (HS0.out.row.lt k hk).2)
    have HSZ := Lh (And.intro B2.out.size (show w2.heap.size < W3.heap.size from D3.out.lt))
    have HBW := Lh HS0.out.size
    clear hW3 hb3 hb4
    go_wp2_with (first
      | (with_reducible refine wpList_store_row rfl 29 (.tmp 10) (.tmp 22) rfl w2.heap.size (B8 D).toArray rfl rfl 29 _ (heap_alloc_new w2 _) (size29' _ HDl.out) (Z16_size _ HDl.out) (one8 _) ?_; rw [← HW3.out])
      | (with_reducible refine wpList_load_at rfl 29 (.tmp 10) rfl ⟨w2.heap.size, 0, none⟩ rfl (B8 D) (.array 16 5) L3.out Tryd.underlying29 rfl (size29 _ HDl.out) ?_)
      | (with_reducible refine wpList_build16 rfl (.tmp 25) rfl D rfl HDl.out ?_)
      | (at_builtin; refine wpList_append_lies _ rfl (.tmp 24) (.tmp 26) 48 rfl B 29 i0 (.agg Z16.toArray) 16 16 Tryd.underlying48 HI.out.1 HI.out.2.1 HI.out.2.2.1 HI.out.2.2.2 rfl (by decide) _ s.length (B8 s.flatten) rfl S4.out.row ⟨W3.heap.size, 0, none⟩ 1 1 (B8 D) rfl HN.out A4.out (B8_one _) (by decide) (by unfold maxLen; omega) (by omega) S4.out.size _ rfl ?_
         intro g cap w5 o5 hg5 hl5 hlt5
         have O5 := Lh o5
         have G5 := Lh hg5
         have L5 := Lh hl5
         have hb5 := S4.out.blk.grown hg5 (fun e => by have := (HS0.out.row.lt gp e.symm).1; have := PL.out.bp; omega)
         have hcp5 := hb5.cell 3
         have hfp5 := hb5.frozen 3
         have HD6 := Lh (show Blk (w5.setCell ⟨gp, 3, none⟩ (.slice (some ⟨g, 0, none⟩) (s.length + 1) cap)) w2.heap.size 29 (B8 D) from ((D3.out.alloc _).grown hg5 (fun e => by have := HVB.out _ e.symm; have := HSZ.out; omega)).far (by have := HGP.out; have := HSZ.out; show w2.heap.size ≠ gp; omega) _)
         have HZ6 := Lh (show Blk (w5.setCell ⟨gp, 3, none⟩ (.slice (some ⟨g, 0, none⟩) (s.length + 1) cap)) w.heap.size 29 Z16 from ((Z3.out.alloc _).grown hg5 (fun e => by have := HVB.out _ e.symm; omega)).far (by have := HGP.out; show w.heap.size ≠ gp; omega) _)
         have L6 := Lh HD6.out.at
         have Z6 := Lh (show (w5.setCell ⟨gp, 3, none⟩ (.slice (some ⟨g, 0, none⟩) (s.length + 1) cap)).heap[w.heap.size]? = some (.cells Z16.toArray 29 (0, 0)) from HZ6.out)
         clear o5 hg5 hl5 hb5)
      | (with_reducible refine wpList_load_at rfl 29 (.tmp 10) rfl ⟨w2.heap.size, 0, none⟩ rfl (B8 D) (.array 16 5) L6.out Tryd.underlying29 rfl (size29 _ HDl.out) ?_)
      | (with_reducible refine wpList_store_row rfl 29 (.tmp 8) (.tmp 29) rfl w.heap.size (B8 D).toArray rfl rfl 29 _ Z6.out (size29' _ HDl.out) (Z16_size _ HDl.out) (one8 _) ?_))
    obtain ⟨W6, hW6⟩ : ∃ W, W = w5.setCell ⟨gp, 3, none⟩ (.slice (some ⟨g, 0, none⟩) (s.length + 1) cap) := ⟨_, rfl⟩
    have S6 := S4.out.more PL.out HDl.out O5.out G5.out
    rw [← hW6] at S6 Z6 ⊢
    refine bodyPost_ret (v := .tuple #[.agg (B8 D).toArray, .bool true]) ?_ rfl ⟨rfl, .slice (some ⟨g, 0, none⟩) (s.length + 1) cap, ?_, ?_⟩
    · have hr := run_loadVar_row (P := Tryd.prog) _ w.heap.size 29 29 (B8 D).toArray (0, 0) (.array 16 5) (heap_setRow W6 w.heap.size (B8 D).toArray _ 29 Z6.out) Tryd.underlying29 rfl (size29' _ HDl.out)
      simp [results, Tryd.results85, asAddr, hr]
    · refine S6.keep PL.out (by simp) (fun k hk ho => heap_setRow_other _ _ _ _ ?_)
      have h1 := HBW.out; have h2 := HGP.out; have h3 := HSZ.out
      rcases ho with ho | ho | ho
      · omega
      · omega
      · simp only [Value.ownBlock, Option.some.injEq] at ho
        rcases L5.out with h4 | h4
        · have := HVB.out g h4; omega
        · simp only [World.size_alloc] at h4; omega
    · have h1 := HBW.out; have h2 := HGP.out; have h3 := HSZ.out
      have b4 : Below w.heap.size w (W3.alloc (.cells (B8 D).toArray 29)) := B3.out.alloc B3.out.size _
      refine ⟨?_, ?_, ?_, ?_, fun k hk ho => ?_, fun k hk => ?_⟩
      · rw [hW6]; exact G5.out.os.trans b4.os
      · rw [hW6]; exact G5.out.tape.trans b4.tape
      · rw [hW6]; exact G5.out.output.trans b4.output
      · rw [hW6]; have := G5.out.size; have := b4.size; simp [World.setCell]; omega
      · rw [heap_setRow_other _ _ _ _ (by omega), hW6, Below.heap_setCell _ _ _ _ (show k ≠ gp from fun e => ho (.inl e)), G5.out.block k (by have := b4.size; omega) (fun e => ho (.inr e.symm))]
        exact b4.block k hk
      · rcases hk with hk | hk
        · exact .inl (.inl hk)
        · simp only [Value.ownBlock, Option.some.injEq] at hk
          subst hk
          rcases L5.out with h4 | h4
          · exact .inl (.inr h4)
          · right; simp only [World.size_alloc] at h4; omega
  · have hcI : ¬ (b : Int) ≤ (first : Int) := by omega
    have hcJ : (last : Int) ≤ (a : Int) := by omega
    go_enter Tryd.func85, Tryd.ntmps85
    go_upto_region 1 with fail
    rw [← HW.out]
    go_wp2_with fail
    refine (tree_any Bl gv A L c PL.out.b1 HL.out a b _ hab hb HBL.out HLA.out D hD).mono ?_; rintro e w2 ⟨rfl, hb2⟩
    have S2 := Lh (S1.out.below PL.out hb2)
    have B2 := Lh (B1.out.trans (hb2.mono B1.out.size))
    have Z2 := Lh (Z1.out.below hb2 Z1.out.lt)
    clear hb2 e4 e5 e8
    obtain ⟨W3, hW3⟩ : ∃ W, W = (w2.alloc (.cells Z16.toArray 29)).setRow w2.heap.size (B8 D).toArray := ⟨_, rfl⟩
    have hb3 : Below w2.heap.size w2 W3 := by rw [hW3]; exact belowRow ((Below.refl _ _).alloc (Nat.le_refl _) _) (Nat.le_refl _) _
    have S3 := Lh (S2.out.below PL.out hb3)
    have B3 := Lh (B2.out.trans (hb3.mono B2.out.size))
    have Z3 := Lh (Z2.out.below hb3 Z2.out.lt)
    have D3 := Lh (show Blk W3 w2.heap.size 29 (B8 D) by rw [hW3]; exact (Blk.new w2 29 Z16).row _)
    have HW3 := Lh hW3
    have L3 := Lh D3.out.at
    have hcp : W3.cell? ⟨gp, 3, none⟩ = some (.slice A0 s.length c0) := (S3.out.blk.cell 3).trans rfl
    have hb4 : Below W3.heap.size W3 (W3.alloc (.cells (B8 D).toArray 29)) := (Below.refl _ _).alloc (Nat.le_refl _) _
    have S4 := Lh (S3.out.below PL.out hb4)
    have A4 := Lh (Blk.new W3 29 (B8 D)).at
    have HN := Lh (show (B8 D).length = 1 * 16 by rw [B8_len, HDl.out])
    have HGP := Lh HS0.out.blk.lt
    have HVB := Lh (fun k (hk : (Value.slice A0 s.length c0).ownBlock = some k) => (HS0.out.row.lt k hk).2)
    have HSZ := Lh (And.intro B2.out.size (show w2.heap.size < W3.heap.size from D3.out.lt))
    have HBW := Lh HS0.out.size
    clear hW3 hb3 hb4
    go_wp2_with (first
      | (with_reducible refine wpList_store_row rfl 29 (.tmp 10) (.tmp 22) rfl w2.heap.size (B8 D).toArray rfl rfl 29 _ (heap_alloc_new w2 _) (size29' _ HDl.out) (Z16_size _ HDl.out) (one8 _) ?_; rw [← HW3.out])
      | (with_reducible refine wpList_load_at rfl 29 (.tmp 10) rfl ⟨w2.heap.size, 0, none⟩ rfl (B8 D) (.array 16 5) L3.out Tryd.underlying29 rfl (size29 _ HDl.out) ?_)
      | (with_reducible refine wpList_build16 rfl (.tmp 25) rfl D rfl HDl.out ?_)
      | (at_builtin; refine wpList_append_lies _ rfl (.tmp 24) (.tmp 26) 48 rfl B 29 i0 (.agg Z16.toArray) 16 16 Tryd.underlying48 HI.out.1 HI.out.2.1 HI.out.2.2.1 HI.out.2.2.2 rfl (by decide) _ s.length (B8 s.flatten) rfl S4.out.row ⟨W3.heap.size, 0, none⟩ 1 1 (B8 D) rfl HN.out A4.out (B8_one _) (by decide) (by unfold maxLen; omega) (by omega) S4.out.size _ rfl ?_
         intro g cap w5 o5 hg5 hl5 hlt5
         have O5 := Lh o5
         have G5 := Lh hg5
         have L5 := Lh hl5
         have hb5 := S4.out.blk.grown hg5 (fun e => by have := (HS0.out.row.lt gp e.symm).1; have := PL.out.bp; omega)
         have hcp5 := hb5.cell 3
         have hfp5 := hb5.frozen 3
         have HD6 := Lh (show Blk (w5.setCell ⟨gp, 3, none⟩ (.slice (some ⟨g, 0, none⟩) (s.length + 1) cap)) w2.heap.size 29 (B8 D) from ((D3.out.alloc _).grown hg5 (fun e => by have := HVB.out _ e.symm; have := HSZ.out; omega)).far (by have := HGP.out; have := HSZ.out; show w2.heap.size ≠ gp; omega) _)
         have HZ6 := Lh (show Blk (w5.setCell ⟨gp, 3, none⟩ (.slice (some ⟨g, 0, none⟩) (s.length + 1) cap)) w.heap.size 29 Z16 from ((Z3.out.alloc _).grown hg5 (fun e => by have := HVB.out _ e.symm; omega)).far (by have := HGP.out; show w.heap.size ≠ gp; omega) _)
         have L6 := Lh HD6.out.at
         have Z6 := Lh (show (w5.setCell ⟨gp, 3, none⟩ (.slice (some ⟨g, 0, none⟩) (s.length + 1) cap)).heap[w.heap.size]? = some (.cells Z16.toArray 29 (0, 0)) from HZ6.out)
         clear o5 hg5 hl5 hb5)
      | (with_reducible refine wpList_load_at rfl 29 (.tmp 10) rfl ⟨w2.heap.size, 0, none⟩ rfl (B8 D) (.array 16 5) L6.out Tryd.underlying29 rfl (size29 _ HDl.out) ?_)
      | (with_reducible refine wpList_store_row rfl 29 (.tmp 8) (.tmp 29) rfl w.heap.size (B8 D).toArray rfl rfl 29 _ Z6.out (size29' _ HDl.out) (Z16_size _ HDl.out) (one8 _) ?_))
    obtain ⟨W6, hW6⟩ : ∃ W, W = w5.setCell ⟨gp, 3, none⟩ (.slice (some ⟨g, 0, none⟩) (s.length + 1) cap) := ⟨_, rfl⟩
    have S6 := S4.out.more PL.out HDl.out O5.out G5.out
    rw [← hW6] at S6 Z6 ⊢
    refine bodyPost_ret (v := .tuple #[.agg (B8 D).toArray, .bool true]) ?_ rfl ⟨rfl, .slice (some ⟨g, 0, none⟩) (s.length + 1) cap, ?_, ?_⟩
    · have hr := run_loadVar_row (P := Tryd.prog) _ w.heap.size 29 29 (B8 D).toArray (0, 0) (.array 16 5) (heap_setRow W6 w.heap.size (B8 D).toArray _ 29 Z6.out) Tryd.underlying29 rfl (size29' _ HDl.out)
      simp [results, Tryd.results85, asAddr, hr]
    · refine S6.keep PL.out (by simp) (fun k hk ho => heap_setRow_other _ _ _ _ ?_)
      have h1 := HBW.out; have h2 := HGP.out; have h3 := HSZ.out
      rcases ho with ho | ho | ho
      · omega
      · omega
      · simp only [Value.ownBlock, Option.some.injEq] at ho
        rcases L5.out with h4 | h4
        · have := HVB.out g h4; omega
        · simp only [World.size_alloc] at h4; omega
    · have h1 := HBW.out; have h2 := HGP.out; have h3 := HSZ.out
      have b4 : Below w.heap.size w (W3.alloc (.cells (B8 D).toArray 29)) := B3.out.alloc B3.out.size _
      refine ⟨?_, ?_, ?_, ?_, fun k hk ho => ?_, fun k hk => ?_⟩
      · rw [hW6]; exact G5.out.os.trans b4.os
      · rw [hW6]; exact G5.out.tape.trans b4.tape
      · rw [hW6]; exact G5.out.output.trans b4.output
      · rw [hW6]; have := G5.out.size; have := b4.size; simp [World.setCell]; omega
      · rw [heap_setRow_other _ _ _ _ (by omega), hW6, Below.heap_setCell _ _ _ _ (show k ≠ gp from fun e => ho (.inl e)), G5.out.block k (by have := b4.size; omega) (fun e => ho (.inr e.symm))]
        exact b4.block k hk
      · rcases hk with hk | hk
        · exact .inl (.inl hk)
        · simp only [Value.ownBlock, Option.some.injEq] at hk
          subst hk
          rcases L5.out with h4 | h4
          · exact .inl (.inr h4)
          · right; simp only [World.size_alloc] at h4; omega
set_option maxHeartbeats 2000000 in
theorem prove_rest (pl : PlP Bl B gv gp g4 g5 g8) (hL : okL L) (a b : Nat) (w : World) (hab : a < b) (hb : b ≤ L.length) (hc1 : ¬ b ≤ first) (hc2 : ¬ last ≤ a) (hf : first ≤ 1073741824) (hla : last ≤ 1073741824)
    (h : StP Bl B gv gp g4 g5 g8 A L c first last x0 x1 x2 v s w) (D : List UInt8) (t : Bool) (hG : Hid (gSingle (leafAt lf L) () a b = ((D, t), ()))) :
    Calls Tryd.prog 85 #[.int .i64 (a : Int), .int .i64 (b : Int), .pointer (some ⟨g4, 0, none⟩), .pointer (some ⟨g5, 0, none⟩), .pointer (some ⟨g8, 0, none⟩), .pointer (some ⟨gp, 0, none⟩)] w fun e w' =>
      e = .returned (.tuple #[.agg (B8 D).toArray, .bool t]) ∧ Below w.heap.size w w' := by
  have hln := hL.1
  have HL := Lh hL
  have hZ := hZ16
  have HDl := Lh (show D.length = 16 by
    have := hG.out
    unfold gSingle at this
    simp only [Prod.mk.injEq, and_true] at this
    split at this
    · simp only [Prod.mk.injEq] at this; rw [← this.1]; rfl
    · simp only [Prod.mk.injEq] at this; rw [← this.1]; exact dof_len _ _)
  obtain ⟨W1, hW1⟩ : ∃ W, W = w.alloc (.cells Z16.toArray 29) := ⟨_, rfl⟩
  have B1 := Lh (show Below w.heap.size w W1 by rw [hW1]; exact (Below.refl _ _).alloc (Nat.le_refl _) _)
  have Z1 := Lh (show Blk W1 w.heap.size 29 Z16 by rw [hW1]; exact Blk.new w 29 Z16)
  have S1 := Lh (h.below pl B1.out)
  have HW := Lh hW1
  have HC := Lh (single_any Bl gv A L c hL W1 S1.out.leaf a b hab hb)
  rw [hG.out] at HC
  have e4 := S1.out.c4
  have e5 := S1.out.c5
  have e8 := S1.out.c8
  have hcI : ¬ (b : Int) ≤ (first : Int) := by omega
  have hcJ : ¬ (last : Int) ≤ (a : Int) := by omega
  clear h hW1 hL pl
  go_enter Tryd.func85, Tryd.ntmps85
  go_upto_region 1 with fail
  rw [← HW.out]
  go_wp2_with fail
  refine HC.out.mono ?_; rintro e w2 ⟨rfl, hb2⟩
  have B2 := Lh (B1.out.trans (hb2.mono B1.out.size))
  have Z2 := Lh (show w2.heap[w.heap.size]? = some (.cells Z16.toArray 29 (0, 0)) from Z1.out.below hb2 Z1.out.lt)
  clear hb2 e4 e5 e8 HC
  go_wp2_with (with_reducible refine wpList_store_row rfl 29 (.tmp 8) (.tmp 34) rfl w.heap.size (B8 D).toArray rfl rfl 29 _ Z2.out (size29' _ HDl.out) (Z16_size _ HDl.out) (one8 _) ?_)
  refine bodyPost_ret (v := .tuple #[.agg (B8 D).toArray, .bool t]) ?_ rfl ⟨rfl, belowRow B2.out (Nat.le_refl _) _⟩
  have hr := run_loadVar_row (P := Tryd.prog) _ w.heap.size 29 29 (B8 D).toArray (0, 0) (.array 16 5) (heap_setRow w2 w.heap.size (B8 D).toArray _ 29 Z2.out) Tryd.underlying29 rfl (size29' _ HDl.out)
  simp [results, Tryd.results85, asAddr, hr]
theorem toldProve (pl : PlP Bl B gv gp g4 g5 g8) (hL : okL L) (hf : first ≤ 1073741824) (hla : last ≤ 1073741824) :
    Told 85 #[.pointer (some ⟨g4, 0, none⟩), .pointer (some ⟨g5, 0, none⟩), .pointer (some ⟨g8, 0, none⟩), .pointer (some ⟨gp, 0, none⟩)] (gProve node (leafAt lf L) first last) L.length B (InvP Bl B gv gp g4 g5 g8 A L c first last x0 x1 x2) (fun s a => s.length ≤ a) where
  enters := enters_of Tryd.func85 (by kernel_rfl) rfl
  call := by
    intro s O W a b hi hps hab hbN
    obtain ⟨v, hO, hS⟩ := hi
    by_cases hc : b ≤ first ∨ last ≤ a
    · have e : gProve node (leafAt lf L) first last s a b = ((tree node (leafAt lf L) a b, true), s ++ [tree node (leafAt lf L) a b]) := by unfold gProve; rw [if_pos hc]
      rw [e]
      refine (prove_told pl hL a b W hab hbN (by omega) hf hla hps hS _ (Lh rfl)).mono ?_
      rintro e W' ⟨rfl, v', hS', hF⟩
      exact ⟨rfl, ownP gp v', ⟨v', fun _ => Iff.rfl, hS'⟩, hF.os, hF.tape, hF.output, hF.size, fun k hk ho => hF.keep k hk (fun h => ho ((hO k).2 h)), fun k hk => (hF.own k hk).imp_left (hO k).2⟩
    · have e : gProve node (leafAt lf L) first last s a b = ((gSingle (leafAt lf L) () a b).1, s) := by unfold gProve gSingle; rw [if_neg hc]
      rw [e]
      refine (prove_rest pl hL a b W hab hbN (by omega) (by omega) hf hla hS _ _ (Lh rfl)).mono ?_
      rintro e W' ⟨rfl, hB⟩
      exact ⟨rfl, O, ⟨v, hO, hS.below pl hB⟩, hB.os, hB.tape, hB.output, hB.size, fun k hk _ => hB.block k hk, fun k hk => .inl hk⟩
  next := by
    intro s a b hp hab ht
    unfold gProve at ht ⊢
    split
    · simp; omega
    · simp; omega
  same := by
    intro s a b hp hab ht
    unfold gProve at ht ⊢
    split
    · rename_i hc; rw [if_pos hc] at ht; cases ht
    · exact hp
  one := by
    intro s a b h
    unfold gProve
    split
    · rfl
    · simp only; rw [if_neg (by omega)]
  len := by
    intro s a b; unfold gProve
    split
    · exact tree_len _ _ _
    · simp only; split
      · rfl
      · exact dof_len _ _
  stay := fun s O W W' hi hs hk => by
    obtain ⟨v, hO, hS⟩ := hi
    exact ⟨v, hO, hS.keep pl hs (fun k h1 h2 => hk k h1 (h2.imp_right (hO k).2))⟩
  lt := fun s O W hi => by
    obtain ⟨v, hO, hS⟩ := hi
    exact ⟨hS.size, fun k hk => hS.lt k ((hO k).1 hk)⟩
  tab := fun s O W hi => by
    obtain ⟨v, hO, hS⟩ := hi
    exact hS.leaf.tab
end
end Go.Proofs.YtofccgkgjcnfbaaDoor
