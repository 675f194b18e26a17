/-
  Texts of the proof, joined: Cp, Sp, So, Sm7.
  No condition: lemmas.
-/
import Derived.Deep.CutBlock
import Derived.Deep.LoopGhost
import Derived.Maps.AppendAt
import Derived.Test.YtbfhilbagojdnaaGreatHr12
namespace Go.Proofs.YtbfhilbagojdnaaGreat
open Go.RowKit Wr Go.Proofs.YtbfhilbagojdnaaGreat.Nm
set_option linter.unusedVariables false
set_option maxRecDepth 100000

/-- A slice that is built of given values. -/
theorem wp_bs {P : Program} {o : Oper} {a : Act} {w w' : World} {K : Act → World → Prop} {Q : Exit → Act → World → Prop} {T : TypeId} {n : Nat} {xs : Array (Nat × Operand)} {vs : Array (Nat × Value)} {v : Value} (ho : o.op = .buildSlice T n xs) (hv : (xs.map fun (i, x) => (i, a.eval x)) = vs) (hr : (Instr.buildSlice T n vs).run P w = .ok v w') (hK : K (a.put o.dst v) w') : o.wp P a w K Q := by
  have h : (execOp a.eval o).run P w = .ok (.value v) w' := by
    unfold execOp
    simp [ho, hv, hr, Result.andThen]
  unfold Oper.wp
  rw [h]
  exact hK
/-- A row of limbs of the call's own, in block g. -/
structure Ro (B : Nat) (W : World) (g n c : Nat) (l : List Nat) : Prop where
  o : W.ownsRow B 66 1 (.slice (some ⟨g, 0, none⟩) n c) n (Lc l)
  lt : g < W.heap.size
section
variable {B B' g g' n c : Nat} {W W' : World} {l : List Nat}
theorem Ro.ge (h : Ro B W g n c l) : B ≤ g := (h.o.lt g rfl).1
theorem Ro.new (h : B ≤ W.heap.size) : Ro B (W.alloc (.cells #[] 66)) W.heap.size 0 0 [] := ⟨World.ownsRow_lit W #[] 0 h (by unfold maxLen; omega) rfl, by simp⟩
theorem Ro.alloc (h : Ro B W g n c l) (o : Obj) : Ro B (W.alloc o) g n c l := ⟨h.o.alloc o, by have := h.lt; simp; omega⟩
theorem Ro.grown (h : Ro B W g n c l) (hg : W.grownBy W' (some g')) (hne : g ≠ g') : Ro B W' g n c l := ⟨h.o.kept hg (Or.inr (by simpa [Value.ownBlock] using hne)), Nat.lt_of_lt_of_le h.lt hg.size⟩
theorem Ro.put (h : Ro B W g n c l) (k : Nat) (u : Value) (hg : g' < B) : Ro B (W.setCell ⟨g', k, none⟩ u) g n c l := ⟨own_put_far h.o hg, by have := h.lt; simpa using this⟩
theorem Ro.base (h : Ro B W g n c l) (hb : B' ≤ B) : Ro B' W g n c l := ⟨own_mono h.o hb, h.lt⟩
theorem Ro.len (h : Ro B W g n c l) : l.length = n := own_len h.o
theorem Ro.below (h : Ro B W g n c l) (hb : Below W.heap.size W W') : Ro B W' g n c l := ⟨own_below h.o hb, Nat.lt_of_lt_of_le h.lt hb.size⟩
theorem Ro.sl (h : Ro B W g n c l) : Sl W (.slice (some ⟨g, 0, none⟩) n c) l := by
  have e := h.len
  have h2 := h.o
  subst e
  exact own_sl h2
end
/-- An append of limbs that can be read to an own row; where the new row lies. -/
theorem wp_app_ro {B : Nat} {w : World} {o : Oper} {a : Act} {K : Act → World → Prop} {Q : Exit → Act → World → Prop} (s x : Operand)
    (ho : o.op = .call { callee := .builtin .append, args := #[s, x], argTypes := #[22, 22] }) (g n c : Nat) (l : List Nat) (hs : a.eval s = .slice (some ⟨g, 0, none⟩) n c) (hown : Ro B w g n c l)
    (A : Option Addr) (m k : Nat) (news : List Nat) (hx : a.eval x = .slice A m k) (hsl : Sl w (.slice A m k) news) (hbytes : n + news.length ≤ 1073741824)
    (h : ∀ g' c' w', Ro B w' g' (n + m) c' (l ++ news) → w.grownBy w' (some g) → (g' = g ∨ g' = w.heap.size) → K (a.put o.dst (.slice (some ⟨g', 0, none⟩) (n + m) c')) w') : o.wp Tryz.prog a w K Q := by
  obtain ⟨A', k', e, hk, hnil, hr⟩ := hsl
  injection e with e1 e2 e3
  subst e1 e2 e3
  obtain ⟨i0, hi0, hz0, hz1, hz2⟩ := info_parts infoL
  have hbase : B ≤ w.heap.size := by have := hown.ge; have := hown.lt; omega
  have fin : ∀ v' w', w'.ownsRow B 66 1 v' (n + news.length) (Lc l ++ Lc news) → w.grownBy w' (some g) → (v'.ownBlock = some g ∨ v'.ownBlock = some w.heap.size) → K (a.put o.dst v') w' := by
    intro v' w' h1 h2 h3
    rw [← Lc_append] at h1
    rcases h1.2 with ⟨e, _⟩ | ⟨g', cap, cur, e, hb, hg, _⟩
    · subst e; simp [Value.ownBlock] at h3
    · subst e
      exact h g' cap w' ⟨h1, (Array.getElem?_eq_some_iff.1 hg).1⟩ h2 (by simpa [Value.ownBlock] using h3)
  by_cases hne : Lc news = []
  · have hm : news.length = 0 := by rw [← Lc_len, hne]; rfl
    cases A with
    | none =>
      have hc := hnil rfl
      subst hc
      rw [hm] at hx
      refine Lib.wp_append_run w s x 22 22 ho _ _ hs hx _ w (run_append_owned_none w B 22 _ 66 i0 1 Tryz.underlying22 hi0 _ n _ hown.o) (fin _ w ?_ (World.grownBy.refl _ _) (Or.inl rfl))
      rw [hne, List.append_nil, hm, Nat.add_zero]; exact hown.o
    | some ad =>
      obtain ⟨v', w', hrun, h2, h3, _, h5⟩ := run_append_own_at (P := Tryz.prog) w B 22 o.type 66 i0 (.int .u32 0) 1 4 Tryz.underlying22 hi0 hz0 hz1 hz2 rfl (by decide) _ n _ hown.o ad news.length k (Lc news) (by rw [Lc_len, Nat.mul_one]) (fun j u hu => by rw [hne] at hu; simp at hu) (Lc_one _) (by unfold maxLen; omega) (by omega) hbase
      exact Lib.wp_append_run w s x 22 22 ho _ _ hs hx v' w' hrun (fin v' w' h2 h3 h5)
  · obtain ⟨g2, off, rfl, hg2, hcell⟩ := hr hne
    obtain ⟨v', w', hrun, h2, h3, _, h5⟩ := run_append_own_at (P := Tryz.prog) w B 22 o.type 66 i0 (.int .u32 0) 1 4 Tryz.underlying22 hi0 hz0 hz1 hz2 rfl (by decide) _ n _ hown.o ⟨g2, off, none⟩ news.length k (Lc news) (by rw [Lc_len, Nat.mul_one]) (fun j u hu => by rw [Addr.add_lit]; exact hcell j u hu) (Lc_one _) (by unfold maxLen; omega) (by omega) hbase
    exact Lib.wp_append_run w s x 22 22 ho _ _ hs hx v' w' hrun (fin v' w' h2 h3 h5)
theorem wpList_app_ro {B : Nat} {w : World} {ops : Array Oper} {rest : List Oper} {o : Oper} {a : Act} {Q : Exit → Act → World → Prop} (hgd : o.guard = none) (s x : Operand)
    (ho : o.op = .call { callee := .builtin .append, args := #[s, x], argTypes := #[22, 22] }) (g n c : Nat) (l : List Nat) (hs : a.eval s = .slice (some ⟨g, 0, none⟩) n c) (hown : Ro B w g n c l)
    (A : Option Addr) (m k : Nat) (news : List Nat) (hx : a.eval x = .slice A m k) (hsl : Sl w (.slice A m k) news) (hbytes : n + news.length ≤ 1073741824)
    (h : ∀ g' c' w', Ro B w' g' (n + m) c' (l ++ news) → w.grownBy w' (some g) → (g' = g ∨ g' = w.heap.size) → wpList Tryz.prog ops Q rest (a.put o.dst (.slice (some ⟨g', 0, none⟩) (n + m) c')) w') : wpList Tryz.prog ops Q (o :: rest) a w :=
  wpList_plain hgd fun _ hK => wp_app_ro s x ho g n c l hs hown A m k news hx hsl hbytes fun g' c' w' h1 h2 h3 => hK _ _ (h g' c' w' h1 h2 h3)
/-- An empty row of its own is filled. -/
theorem wp_fill {B : Nat} {w : World} {o : Oper} {a : Act} {K : Act → World → Prop} {Q : Exit → Act → World → Prop} (s x : Operand)
    (ho : o.op = .call { callee := .builtin .append, args := #[s, x], argTypes := #[22, 22] }) (g c : Nat) (hs : a.eval s = .slice (some ⟨g, 0, none⟩) 0 c) (hown : Ro B w g 0 c [])
    (A : Option Addr) (m k : Nat) (news : List Nat) (hx : a.eval x = .slice A m k) (hsl : Sl w (.slice A m k) news) (hbytes : news.length ≤ 1000000)
    (h : ∀ g' c' w', Ro B w' g' m c' news → w.grownBy w' (some g) → (g' = g ∨ g' = w.heap.size) → K (a.put o.dst (.slice (some ⟨g', 0, none⟩) m c')) w') : o.wp Tryz.prog a w K Q :=
  wp_app_ro s x ho g 0 c [] hs hown A m k news hx hsl (by omega) fun g' c' w' h1 h2 h3 => by
    rw [Nat.zero_add, List.nil_append] at h1
    rw [Nat.zero_add]
    exact h g' c' w' h1 h2 h3
def CyP (w : World) (l1 l2 : List Nat) (e : Ending) (w' : World) : Prop := ∃ g1 c1 g2 c2, e = .returned (.agg #[.slice (some ⟨g1, 0, none⟩) l1.length c1, .slice (some ⟨g2, 0, none⟩) l2.length c2]) ∧ Ro w.heap.size w' g1 l1.length c1 l1 ∧ Ro w.heap.size w' g2 l2.length c2 l2 ∧ g1 ≠ g2 ∧ Below w.heap.size w w'
set_option maxHeartbeats 4000000 in
theorem copy_any {v1 v2 : Value} {l1 l2 : List Nat} {w : World} (h1 : Sl w v1 l1) (h2 : Sl w v2 l2) (hl1 : l1.length ≤ 1000000) (hl2 : l2.length ≤ 1000000) : Calls Tryz.prog 94 #[.agg #[v1, v2]] w (CyP w l1 l2) := by
  have S1 := Lib.hid h1; have S2 := Lib.hid h2; have HL1 := Lib.hid hl1; have HL2 := Lib.hid hl2
  obtain ⟨A1, k1, rfl, _, _, _⟩ := h1
  obtain ⟨A2, k2, rfl, _, _, _⟩ := h2
  obtain ⟨n1, hn1⟩ : ∃ n, n = l1.length := ⟨_, rfl⟩
  obtain ⟨n2, hn2⟩ : ∃ n, n = l2.length := ⟨_, rfl⟩
  rw [← hn1, ← hn2]
  rw [← hn1] at S1
  rw [← hn2] at S2
  have HN1 := Lib.hid hn1; have HN2 := Lib.hid hn2
  obtain ⟨x1, x2, x3⟩ := boxes2 w (.slice A1 n1 k1) (.slice A2 n2 k2) (.slice none 0 0) (.slice none 0 0)
  have HX1 := Lib.hid x1; have HX2 := Lib.hid x2; have HX3 := Lib.hid x3
  clear x1 x2 x3 hl1 hl2 hn1 hn2
  go_enter Tryz.func94, Tryz.ntmps94
  go_upto_region 1 with (fail)
  obtain ⟨W0, hW0⟩ : ∃ W, ((w.alloc (.cells #[.slice A1 n1 k1, .slice A2 n2 k2] 27)).alloc (.cells #[.slice none 0 0, .slice none 0 0] 27)) = W := ⟨_, rfl⟩
  rw [hW0] at HX1 HX2 HX3 ⊢
  clear hW0
  refine wp_region_held (S := fun W => Blk W w.heap.size 27 [.slice A1 n1 k1, .slice A2 n2 k2]) (by kernel_rfl) ?_
  change wpAnyH _ _ _ _ _ _ _ _ (World.drew W0)
  have hs0 : Blk (World.drew W0) w.heap.size 27 [.slice A1 n1 k1, .slice A2 n2 k2] := HX1.out
  have k0 : Hid (Below w.heap.size w (World.drew W0)) := Lib.hid (below_drewN HX3.out 1)
  have R0 : Hid (Blk (World.drew W0) (w.heap.size + 1) 27 [.slice none 0 0, .slice none 0 0]) := HX2
  clear HX1 HX2 HX3
  generalize World.drew W0 = Wd at hs0 k0 R0 ⊢
  refine wpAnyH_take (i := 1) (oi := { dst := some 4, op := Op.fieldAddr 27 (Operand.tmp 1) 0, type := 0, pos := "ref.go:505", after := #[], guard := none }) (v := .pointer (some ⟨w.heap.size, 0, none⟩)) rfl (by kernel_rfl) (by kernel_rfl) (by kernel_rfl) (fun _ _ _ h => h) (Or.inl ⟨by rfl, fun W hW => ?y1⟩) hs0 ?_
  case y1 => go_simp
  try dsimp only [Act.put]
  try simp only [List.setIfInBounds_toArray, List.set_cons_zero, List.set_cons_succ]
  refine wpAnyH_take (i := 2) (oi := { dst := some 5, op := Op.load 22 (Operand.tmp 4), type := 22, pos := "ref.go:505", after := #[{ on := 1, ground := Ground.data }], guard := none }) (v := .slice A1 n1 k1) rfl (by kernel_rfl) (by kernel_rfl) (by kernel_rfl) (fun _ _ _ h => h) (Or.inl ⟨by rfl, fun W hW => by have hcl : W.cell? ⟨w.heap.size, 0, none⟩ = some (.slice A1 n1 k1) := (Blk.cell hW 0).trans rfl; go_simp⟩) hs0 ?_
  try dsimp only [Act.put]
  try simp only [List.setIfInBounds_toArray, List.set_cons_zero, List.set_cons_succ]
  refine wpAnyH_take (i := 5) (oi := { dst := some 8, op := Op.fieldAddr 27 (Operand.tmp 1) 1, type := 0, pos := "ref.go:505", after := #[], guard := none }) (v := .pointer (some ⟨w.heap.size, 1, none⟩)) rfl (by kernel_rfl) (by kernel_rfl) (by kernel_rfl) (fun _ _ _ h => h) (Or.inl ⟨by rfl, fun W hW => ?y3⟩) hs0 ?_
  case y3 => go_simp
  try dsimp only [Act.put]
  try simp only [List.setIfInBounds_toArray, List.set_cons_zero, List.set_cons_succ]
  refine wpAnyH_take (i := 6) (oi := { dst := some 9, op := Op.load 22 (Operand.tmp 8), type := 22, pos := "ref.go:505", after := #[{ on := 5, ground := Ground.data }], guard := none }) (v := .slice A2 n2 k2) rfl (by kernel_rfl) (by kernel_rfl) (by kernel_rfl) (fun _ _ _ h => h) (Or.inl ⟨by rfl, fun W hW => by have hcl : W.cell? ⟨w.heap.size, 1, none⟩ = some (.slice A2 n2 k2) := (Blk.cell hW 1).trans rfl; go_simp⟩) hs0 ?_
  try dsimp only [Act.put]
  try simp only [List.setIfInBounds_toArray, List.set_cons_zero, List.set_cons_succ]
  refine wpAnyH_ready (rs := [0, 4]) (by kernel_rfl) (by simp) ?_
  refine AllReadyH.cons (o := { dst := some 3, op := Op.buildSlice 22 0 #[], type := 22, pos := "ref.go:505", after := #[], guard := none }) rfl (fun K hK => ?_) (AllReadyH.cons (o := { dst := some 7, op := Op.buildSlice 22 0 #[], type := 22, pos := "ref.go:505", after := #[], guard := none }) rfl (fun K hK => ?_) AllReadyH.nil)
  · rw [if_pos (by rfl)]
    refine wp_bs rfl (by simp) (bs0 Wd) ?_
    have hbt := (Below.refl Wd.heap.size Wd).alloc (Nat.le_refl _) (.cells #[] 66)
    have k7 := Lib.hid (below_step k0.out hbt)
    have hs8 := hs0.below hbt hs0.lt
    have R9 := Lib.hid (R0.out.below hbt R0.out.lt)
    have O10 := Lib.hid (Ro.new (B := w.heap.size + 2) (W := Wd) (by have := R0.out.lt; omega))
    obtain ⟨g6, hgq⟩ : ∃ g, Wd.heap.size = g := ⟨_, rfl⟩
    obtain ⟨u5, hW⟩ : ∃ W', Wd.alloc (.cells #[] 66) = W' := ⟨_, rfl⟩
    rw [hW] at k7 hs8 R9 O10 ⊢
    rw [hgq] at O10 ⊢
    clear hbt hgq hW
    refine hK.out _ _ hs8 (fun _ => ?_)
    clear hK K
    try dsimp only [Act.put]
    try simp only [List.setIfInBounds_toArray, List.set_cons_zero, List.set_cons_succ]
    refine wpAnyH_ready (rs := [3, 4]) (by kernel_rfl) (by simp) ?_
    refine AllReadyH.cons (o := { dst := some 6, op := Op.call { callee := Callee.builtin Builtin.append, args := #[Operand.tmp 3, Operand.tmp 5], argTypes := #[22, 22] }, type := 22, pos := "ref.go:505", after := #[{ on := 0, ground := Ground.data }, { on := 2, ground := Ground.data }], guard := none }) rfl (fun K hK => ?_) (AllReadyH.cons (o := { dst := some 7, op := Op.buildSlice 22 0 #[], type := 22, pos := "ref.go:505", after := #[], guard := none }) rfl (fun K hK => ?_) AllReadyH.nil)
    · rw [if_pos (by rfl)]
      refine wp_fill (.tmp 3) (.tmp 5) rfl g6 0 rfl O10.out A1 n1 k1 l1 rfl (S1.out.below k7.out) HL1.out ?_
      intro g12 c13 w11 ho hg hat
      have k14 := Lib.hid (k7.out.grown hg k7.out.size (fun q e => by cases e; have := O10.out.ge; omega))
      have hs15 := hs8.grown hg (by have := O10.out.ge; intro e; injection e with e; omega)
      have R16 := Lib.hid (R9.out.grown hg (by have := O10.out.ge; intro e; injection e with e; omega))
      have O17 := Lib.hid ho
      clear ho hg hat
      refine hK.out _ _ hs15 (fun _ => ?_)
      clear hK K
      try dsimp only [Act.put]
      try simp only [List.setIfInBounds_toArray, List.set_cons_zero, List.set_cons_succ]
      refine wpAnyH_ready (rs := [4]) (by kernel_rfl) (by simp) ?_
      refine AllReadyH.cons (o := { dst := some 7, op := Op.buildSlice 22 0 #[], type := 22, pos := "ref.go:505", after := #[], guard := none }) rfl (fun K hK => ?_) AllReadyH.nil
      rw [if_pos (by rfl)]
      refine wp_bs rfl (by simp) (bs0 w11) ?_
      have hbt := (Below.refl w11.heap.size w11).alloc (Nat.le_refl _) (.cells #[] 66)
      have k20 := Lib.hid (below_step k14.out hbt)
      have hs21 := hs15.below hbt hs15.lt
      have R22 := Lib.hid (R16.out.below hbt R16.out.lt)
      have O23 := Lib.hid (Ro.new (B := w.heap.size + 2) (W := w11) (by have := R16.out.lt; omega))
      have O24 := Lib.hid (O17.out.alloc (.cells #[] 66))
      have NE25 := Lib.hid (show g12 ≠ w11.heap.size from Nat.ne_of_lt O17.out.lt)
      obtain ⟨g19, hgq⟩ : ∃ g, w11.heap.size = g := ⟨_, rfl⟩
      obtain ⟨u18, hW⟩ : ∃ W', w11.alloc (.cells #[] 66) = W' := ⟨_, rfl⟩
      rw [hW] at k20 hs21 R22 O23 O24 ⊢
      rw [hgq] at O23 NE25 ⊢
      clear hbt hgq hW
      refine hK.out _ _ hs21 (fun _ => ?_)
      clear hK K
      try dsimp only [Act.put]
      try simp only [List.setIfInBounds_toArray, List.set_cons_zero, List.set_cons_succ]
      refine wpAnyH_ready (rs := [7]) (by kernel_rfl) (by simp) ?_
      refine AllReadyH.cons (o := { dst := some 10, op := Op.call { callee := Callee.builtin Builtin.append, args := #[Operand.tmp 7, Operand.tmp 9], argTypes := #[22, 22] }, type := 22, pos := "ref.go:505", after := #[{ on := 4, ground := Ground.data }, { on := 6, ground := Ground.data }, { on := 3, ground := Ground.chain }], guard := none }) rfl (fun K hK => ?_) AllReadyH.nil
      rw [if_pos (by rfl)]
      refine wp_fill (.tmp 7) (.tmp 9) rfl g19 0 rfl O23.out A2 n2 k2 l2 rfl (S2.out.below k20.out) HL2.out ?_
      intro g27 c28 w26 ho hg hat
      have k29 := Lib.hid (k20.out.grown hg k20.out.size (fun q e => by cases e; have := O23.out.ge; omega))
      have hs30 := hs21.grown hg (by have := O23.out.ge; intro e; injection e with e; omega)
      have R31 := Lib.hid (R22.out.grown hg (by have := O23.out.ge; intro e; injection e with e; omega))
      have O32 := Lib.hid ho
      have O33 := Lib.hid (O24.out.grown hg NE25.out)
      have NE34 := Lib.hid (show g12 ≠ g27 from by rcases hat with e | e <;> rw [e]; exact NE25.out; exact Nat.ne_of_lt O24.out.lt)
      clear ho hg hat
      refine hK.out _ _ hs30 (fun _ => ?_)
      clear hK K
      try dsimp only [Act.put]
      try simp only [List.setIfInBounds_toArray, List.set_cons_zero, List.set_cons_succ]
      refine wpAnyH_take (i := 8) (oi := { dst := some 11, op := Op.build 27 #[(0, Operand.tmp 6), (1, Operand.tmp 10)], type := 27, pos := "ref.go:505", after := #[{ on := 3, ground := Ground.data }, { on := 7, ground := Ground.data }], guard := none }) (v := .agg #[(.slice (some ⟨g12, 0, none⟩) n1 c13), (.slice (some ⟨g27, 0, none⟩) n2 c28)]) rfl (by kernel_rfl) (by kernel_rfl) (by kernel_rfl) (fun _ _ _ h => h) (Or.inl ⟨by rfl, fun W hW => ?y35⟩) hs30 ?_
      case y35 => go_simp
      try dsimp only [Act.put]
      try simp only [List.setIfInBounds_toArray, List.set_cons_zero, List.set_cons_succ]
      refine wpAnyH_ready (rs := [9]) (by kernel_rfl) (by simp) ?_
      refine AllReadyH.cons (o := { dst := none, op := Op.store 27 (Operand.tmp 2) (Operand.tmp 11), type := 0, pos := "ref.go:505", after := #[{ on := 8, ground := Ground.data }, { on := 7, ground := Ground.chain }, { on := 0, ground := Ground.phase }, { on := 1, ground := Ground.phase }, { on := 2, ground := Ground.phase }, { on := 3, ground := Ground.phase }, { on := 4, ground := Ground.phase }, { on := 5, ground := Ground.phase }, { on := 6, ground := Ground.phase }, { on := 7, ground := Ground.phase }, { on := 8, ground := Ground.phase }], guard := none }) rfl (fun K hK => ?_) AllReadyH.nil
      rw [if_pos (by rfl)]
      obtain ⟨hc1, hc2, hf1, hf2⟩ := blk_cells2 R31.out
      go_simp
      refine hK.out _ _ ((hs30.far (p := ⟨w.heap.size + 1, 0, none⟩) (by simp) _).far (p := ⟨w.heap.size + 1, 1, none⟩) (by simp) _) (fun _ => ?_)
      clear hK K
      try dsimp only [Act.put]
      try simp only [List.setIfInBounds_toArray, List.set_cons_zero, List.set_cons_succ]
      refine wpAnyH_done (by kernel_rfl) ?_ _
      try dsimp only [Act.put]
      try simp only [List.setIfInBounds_toArray, List.set_cons_zero, List.set_cons_succ]
      have hbk := ((R31.out.put 0 (.slice (some ⟨g12, 0, none⟩) n1 c13)).put 1 (.slice (some ⟨g27, 0, none⟩) n2 c28))
      have hbl := ((k29.out.setCell (p := ⟨w.heap.size + 1, 0, none⟩) (Nat.le_succ _) (.slice (some ⟨g12, 0, none⟩) n1 c13)).setCell (p := ⟨w.heap.size + 1, 1, none⟩) (Nat.le_succ _) (.slice (some ⟨g27, 0, none⟩) n2 c28))
      have hr1 := ((O33.out.put (g' := w.heap.size + 1) 0 (.slice (some ⟨g12, 0, none⟩) n1 c13) (by omega)).put (g' := w.heap.size + 1) 1 (.slice (some ⟨g27, 0, none⟩) n2 c28) (by omega)).base (B' := w.heap.size) (by omega)
      have hr2 := ((O32.out.put (g' := w.heap.size + 1) 0 (.slice (some ⟨g12, 0, none⟩) n1 c13) (by omega)).put (g' := w.heap.size + 1) 1 (.slice (some ⟨g27, 0, none⟩) n2 c28) (by omega)).base (B' := w.heap.size) (by omega)
      go_wp2_with fail
      refine bodyPost_ret (v := .agg #[(.slice (some ⟨g12, 0, none⟩) n1 c13), (.slice (some ⟨g27, 0, none⟩) n2 c28)]) ?_ rfl ⟨g12, c13, g27, c28, by rw [← HN1.out, ← HN2.out], by rw [← HN1.out]; exact hr1, by rw [← HN2.out]; exact hr2, NE34.out, hbl⟩
      have hr := run_loadVar_at (P := Tryz.prog) _ ⟨w.heap.size + 1, 0, none⟩ 27 [(.slice (some ⟨g12, 0, none⟩) n1 c13), (.slice (some ⟨g27, 0, none⟩) n2 c28)] _ hbk.at Tryz.underlying27 rfl size28
      simp [results, Tryz.results94, asAddr, hr]
    · rw [if_pos (by rfl)]
      refine wp_bs rfl (by simp) (bs0 u5) ?_
      have hbt := (Below.refl u5.heap.size u5).alloc (Nat.le_refl _) (.cells #[] 66)
      have k38 := Lib.hid (below_step k7.out hbt)
      have hs39 := hs8.below hbt hs8.lt
      have R40 := Lib.hid (R9.out.below hbt R9.out.lt)
      have O41 := Lib.hid (Ro.new (B := w.heap.size + 2) (W := u5) (by have := R9.out.lt; omega))
      have O42 := Lib.hid (O10.out.alloc (.cells #[] 66))
      have NE43 := Lib.hid (show g6 ≠ u5.heap.size from Nat.ne_of_lt O10.out.lt)
      obtain ⟨g37, hgq⟩ : ∃ g, u5.heap.size = g := ⟨_, rfl⟩
      obtain ⟨u36, hW⟩ : ∃ W', u5.alloc (.cells #[] 66) = W' := ⟨_, rfl⟩
      rw [hW] at k38 hs39 R40 O41 O42 ⊢
      rw [hgq] at O41 NE43 ⊢
      clear hbt hgq hW
      refine hK.out _ _ hs39 (fun _ => ?_)
      clear hK K
      try dsimp only [Act.put]
      try simp only [List.setIfInBounds_toArray, List.set_cons_zero, List.set_cons_succ]
      refine wpAnyH_ready (rs := [3]) (by kernel_rfl) (by simp) ?_
      refine AllReadyH.cons (o := { dst := some 6, op := Op.call { callee := Callee.builtin Builtin.append, args := #[Operand.tmp 3, Operand.tmp 5], argTypes := #[22, 22] }, type := 22, pos := "ref.go:505", after := #[{ on := 0, ground := Ground.data }, { on := 2, ground := Ground.data }], guard := none }) rfl (fun K hK => ?_) AllReadyH.nil
      rw [if_pos (by rfl)]
      refine wp_fill (.tmp 3) (.tmp 5) rfl g6 0 rfl O42.out A1 n1 k1 l1 rfl (S1.out.below k38.out) HL1.out ?_
      intro g45 c46 w44 ho hg hat
      have k47 := Lib.hid (k38.out.grown hg k38.out.size (fun q e => by cases e; have := O42.out.ge; omega))
      have hs48 := hs39.grown hg (by have := O42.out.ge; intro e; injection e with e; omega)
      have R49 := Lib.hid (R40.out.grown hg (by have := O42.out.ge; intro e; injection e with e; omega))
      have O50 := Lib.hid ho
      have O51 := Lib.hid (O41.out.grown hg (Ne.symm NE43.out))
      have NE52 := Lib.hid (show g45 ≠ g37 from by rcases hat with e | e <;> rw [e]; exact NE43.out; exact Nat.ne_of_gt O41.out.lt)
      clear ho hg hat
      refine hK.out _ _ hs48 (fun _ => ?_)
      clear hK K
      try dsimp only [Act.put]
      try simp only [List.setIfInBounds_toArray, List.set_cons_zero, List.set_cons_succ]
      refine wpAnyH_ready (rs := [7]) (by kernel_rfl) (by simp) ?_
      refine AllReadyH.cons (o := { dst := some 10, op := Op.call { callee := Callee.builtin Builtin.append, args := #[Operand.tmp 7, Operand.tmp 9], argTypes := #[22, 22] }, type := 22, pos := "ref.go:505", after := #[{ on := 4, ground := Ground.data }, { on := 6, ground := Ground.data }, { on := 3, ground := Ground.chain }], guard := none }) rfl (fun K hK => ?_) AllReadyH.nil
      rw [if_pos (by rfl)]
      refine wp_fill (.tmp 7) (.tmp 9) rfl g37 0 rfl O51.out A2 n2 k2 l2 rfl (S2.out.below k47.out) HL2.out ?_
      intro g54 c55 w53 ho hg hat
      have k56 := Lib.hid (k47.out.grown hg k47.out.size (fun q e => by cases e; have := O51.out.ge; omega))
      have hs57 := hs48.grown hg (by have := O51.out.ge; intro e; injection e with e; omega)
      have R58 := Lib.hid (R49.out.grown hg (by have := O51.out.ge; intro e; injection e with e; omega))
      have O59 := Lib.hid ho
      have O60 := Lib.hid (O50.out.grown hg NE52.out)
      have NE61 := Lib.hid (show g45 ≠ g54 from by rcases hat with e | e <;> rw [e]; exact NE52.out; exact Nat.ne_of_lt O50.out.lt)
      clear ho hg hat
      refine hK.out _ _ hs57 (fun _ => ?_)
      clear hK K
      try dsimp only [Act.put]
      try simp only [List.setIfInBounds_toArray, List.set_cons_zero, List.set_cons_succ]
      refine wpAnyH_take (i := 8) (oi := { dst := some 11, op := Op.build 27 #[(0, Operand.tmp 6), (1, Operand.tmp 10)], type := 27, pos := "ref.go:505", after := #[{ on := 3, ground := Ground.data }, { on := 7, ground := Ground.data }], guard := none }) (v := .agg #[(.slice (some ⟨g45, 0, none⟩) n1 c46), (.slice (some ⟨g54, 0, none⟩) n2 c55)]) rfl (by kernel_rfl) (by kernel_rfl) (by kernel_rfl) (fun _ _ _ h => h) (Or.inl ⟨by rfl, fun W hW => ?y62⟩) hs57 ?_
      case y62 => go_simp
      try dsimp only [Act.put]
      try simp only [List.setIfInBounds_toArray, List.set_cons_zero, List.set_cons_succ]
      refine wpAnyH_ready (rs := [9]) (by kernel_rfl) (by simp) ?_
      refine AllReadyH.cons (o := { dst := none, op := Op.store 27 (Operand.tmp 2) (Operand.tmp 11), type := 0, pos := "ref.go:505", after := #[{ on := 8, ground := Ground.data }, { on := 7, ground := Ground.chain }, { on := 0, ground := Ground.phase }, { on := 1, ground := Ground.phase }, { on := 2, ground := Ground.phase }, { on := 3, ground := Ground.phase }, { on := 4, ground := Ground.phase }, { on := 5, ground := Ground.phase }, { on := 6, ground := Ground.phase }, { on := 7, ground := Ground.phase }, { on := 8, ground := Ground.phase }], guard := none }) rfl (fun K hK => ?_) AllReadyH.nil
      rw [if_pos (by rfl)]
      obtain ⟨hc1, hc2, hf1, hf2⟩ := blk_cells2 R58.out
      go_simp
      refine hK.out _ _ ((hs57.far (p := ⟨w.heap.size + 1, 0, none⟩) (by simp) _).far (p := ⟨w.heap.size + 1, 1, none⟩) (by simp) _) (fun _ => ?_)
      clear hK K
      try dsimp only [Act.put]
      try simp only [List.setIfInBounds_toArray, List.set_cons_zero, List.set_cons_succ]
      refine wpAnyH_done (by kernel_rfl) ?_ _
      try dsimp only [Act.put]
      try simp only [List.setIfInBounds_toArray, List.set_cons_zero, List.set_cons_succ]
      have hbk := ((R58.out.put 0 (.slice (some ⟨g45, 0, none⟩) n1 c46)).put 1 (.slice (some ⟨g54, 0, none⟩) n2 c55))
      have hbl := ((k56.out.setCell (p := ⟨w.heap.size + 1, 0, none⟩) (Nat.le_succ _) (.slice (some ⟨g45, 0, none⟩) n1 c46)).setCell (p := ⟨w.heap.size + 1, 1, none⟩) (Nat.le_succ _) (.slice (some ⟨g54, 0, none⟩) n2 c55))
      have hr1 := ((O60.out.put (g' := w.heap.size + 1) 0 (.slice (some ⟨g45, 0, none⟩) n1 c46) (by omega)).put (g' := w.heap.size + 1) 1 (.slice (some ⟨g54, 0, none⟩) n2 c55) (by omega)).base (B' := w.heap.size) (by omega)
      have hr2 := ((O59.out.put (g' := w.heap.size + 1) 0 (.slice (some ⟨g45, 0, none⟩) n1 c46) (by omega)).put (g' := w.heap.size + 1) 1 (.slice (some ⟨g54, 0, none⟩) n2 c55) (by omega)).base (B' := w.heap.size) (by omega)
      go_wp2_with fail
      refine bodyPost_ret (v := .agg #[(.slice (some ⟨g45, 0, none⟩) n1 c46), (.slice (some ⟨g54, 0, none⟩) n2 c55)]) ?_ rfl ⟨g45, c46, g54, c55, by rw [← HN1.out, ← HN2.out], by rw [← HN1.out]; exact hr1, by rw [← HN2.out]; exact hr2, NE61.out, hbl⟩
      have hr := run_loadVar_at (P := Tryz.prog) _ ⟨w.heap.size + 1, 0, none⟩ 27 [(.slice (some ⟨g45, 0, none⟩) n1 c46), (.slice (some ⟨g54, 0, none⟩) n2 c55)] _ hbk.at Tryz.underlying27 rfl size28
      simp [results, Tryz.results94, asAddr, hr]
  · rw [if_pos (by rfl)]
    refine wp_bs rfl (by simp) (bs0 Wd) ?_
    have hbt := (Below.refl Wd.heap.size Wd).alloc (Nat.le_refl _) (.cells #[] 66)
    have k65 := Lib.hid (below_step k0.out hbt)
    have hs66 := hs0.below hbt hs0.lt
    have R67 := Lib.hid (R0.out.below hbt R0.out.lt)
    have O68 := Lib.hid (Ro.new (B := w.heap.size + 2) (W := Wd) (by have := R0.out.lt; omega))
    obtain ⟨g64, hgq⟩ : ∃ g, Wd.heap.size = g := ⟨_, rfl⟩
    obtain ⟨u63, hW⟩ : ∃ W', Wd.alloc (.cells #[] 66) = W' := ⟨_, rfl⟩
    rw [hW] at k65 hs66 R67 O68 ⊢
    rw [hgq] at O68 ⊢
    clear hbt hgq hW
    refine hK.out _ _ hs66 (fun _ => ?_)
    clear hK K
    try dsimp only [Act.put]
    try simp only [List.setIfInBounds_toArray, List.set_cons_zero, List.set_cons_succ]
    refine wpAnyH_ready (rs := [0]) (by kernel_rfl) (by simp) ?_
    refine AllReadyH.cons (o := { dst := some 3, op := Op.buildSlice 22 0 #[], type := 22, pos := "ref.go:505", after := #[], guard := none }) rfl (fun K hK => ?_) AllReadyH.nil
    rw [if_pos (by rfl)]
    refine wp_bs rfl (by simp) (bs0 u63) ?_
    have hbt := (Below.refl u63.heap.size u63).alloc (Nat.le_refl _) (.cells #[] 66)
    have k71 := Lib.hid (below_step k65.out hbt)
    have hs72 := hs66.below hbt hs66.lt
    have R73 := Lib.hid (R67.out.below hbt R67.out.lt)
    have O74 := Lib.hid (Ro.new (B := w.heap.size + 2) (W := u63) (by have := R67.out.lt; omega))
    have O75 := Lib.hid (O68.out.alloc (.cells #[] 66))
    have NE76 := Lib.hid (show u63.heap.size ≠ g64 from Nat.ne_of_gt O68.out.lt)
    obtain ⟨g70, hgq⟩ : ∃ g, u63.heap.size = g := ⟨_, rfl⟩
    obtain ⟨u69, hW⟩ : ∃ W', u63.alloc (.cells #[] 66) = W' := ⟨_, rfl⟩
    rw [hW] at k71 hs72 R73 O74 O75 ⊢
    rw [hgq] at O74 NE76 ⊢
    clear hbt hgq hW
    refine hK.out _ _ hs72 (fun _ => ?_)
    clear hK K
    try dsimp only [Act.put]
    try simp only [List.setIfInBounds_toArray, List.set_cons_zero, List.set_cons_succ]
    refine wpAnyH_ready (rs := [3]) (by kernel_rfl) (by simp) ?_
    refine AllReadyH.cons (o := { dst := some 6, op := Op.call { callee := Callee.builtin Builtin.append, args := #[Operand.tmp 3, Operand.tmp 5], argTypes := #[22, 22] }, type := 22, pos := "ref.go:505", after := #[{ on := 0, ground := Ground.data }, { on := 2, ground := Ground.data }], guard := none }) rfl (fun K hK => ?_) AllReadyH.nil
    rw [if_pos (by rfl)]
    refine wp_fill (.tmp 3) (.tmp 5) rfl g70 0 rfl O74.out A1 n1 k1 l1 rfl (S1.out.below k71.out) HL1.out ?_
    intro g78 c79 w77 ho hg hat
    have k80 := Lib.hid (k71.out.grown hg k71.out.size (fun q e => by cases e; have := O74.out.ge; omega))
    have hs81 := hs72.grown hg (by have := O74.out.ge; intro e; injection e with e; omega)
    have R82 := Lib.hid (R73.out.grown hg (by have := O74.out.ge; intro e; injection e with e; omega))
    have O83 := Lib.hid ho
    have O84 := Lib.hid (O75.out.grown hg (Ne.symm NE76.out))
    have NE85 := Lib.hid (show g78 ≠ g64 from by rcases hat with e | e <;> rw [e]; exact NE76.out; exact Nat.ne_of_gt O75.out.lt)
    clear ho hg hat
    refine hK.out _ _ hs81 (fun _ => ?_)
    clear hK K
    try dsimp only [Act.put]
    try simp only [List.setIfInBounds_toArray, List.set_cons_zero, List.set_cons_succ]
    refine wpAnyH_ready (rs := [7]) (by kernel_rfl) (by simp) ?_
    refine AllReadyH.cons (o := { dst := some 10, op := Op.call { callee := Callee.builtin Builtin.append, args := #[Operand.tmp 7, Operand.tmp 9], argTypes := #[22, 22] }, type := 22, pos := "ref.go:505", after := #[{ on := 4, ground := Ground.data }, { on := 6, ground := Ground.data }, { on := 3, ground := Ground.chain }], guard := none }) rfl (fun K hK => ?_) AllReadyH.nil
    rw [if_pos (by rfl)]
    refine wp_fill (.tmp 7) (.tmp 9) rfl g64 0 rfl O84.out A2 n2 k2 l2 rfl (S2.out.below k80.out) HL2.out ?_
    intro g87 c88 w86 ho hg hat
    have k89 := Lib.hid (k80.out.grown hg k80.out.size (fun q e => by cases e; have := O84.out.ge; omega))
    have hs90 := hs81.grown hg (by have := O84.out.ge; intro e; injection e with e; omega)
    have R91 := Lib.hid (R82.out.grown hg (by have := O84.out.ge; intro e; injection e with e; omega))
    have O92 := Lib.hid ho
    have O93 := Lib.hid (O83.out.grown hg NE85.out)
    have NE94 := Lib.hid (show g78 ≠ g87 from by rcases hat with e | e <;> rw [e]; exact NE85.out; exact Nat.ne_of_lt O83.out.lt)
    clear ho hg hat
    refine hK.out _ _ hs90 (fun _ => ?_)
    clear hK K
    try dsimp only [Act.put]
    try simp only [List.setIfInBounds_toArray, List.set_cons_zero, List.set_cons_succ]
    refine wpAnyH_take (i := 8) (oi := { dst := some 11, op := Op.build 27 #[(0, Operand.tmp 6), (1, Operand.tmp 10)], type := 27, pos := "ref.go:505", after := #[{ on := 3, ground := Ground.data }, { on := 7, ground := Ground.data }], guard := none }) (v := .agg #[(.slice (some ⟨g78, 0, none⟩) n1 c79), (.slice (some ⟨g87, 0, none⟩) n2 c88)]) rfl (by kernel_rfl) (by kernel_rfl) (by kernel_rfl) (fun _ _ _ h => h) (Or.inl ⟨by rfl, fun W hW => ?y95⟩) hs90 ?_
    case y95 => go_simp
    try dsimp only [Act.put]
    try simp only [List.setIfInBounds_toArray, List.set_cons_zero, List.set_cons_succ]
    refine wpAnyH_ready (rs := [9]) (by kernel_rfl) (by simp) ?_
    refine AllReadyH.cons (o := { dst := none, op := Op.store 27 (Operand.tmp 2) (Operand.tmp 11), type := 0, pos := "ref.go:505", after := #[{ on := 8, ground := Ground.data }, { on := 7, ground := Ground.chain }, { on := 0, ground := Ground.phase }, { on := 1, ground := Ground.phase }, { on := 2, ground := Ground.phase }, { on := 3, ground := Ground.phase }, { on := 4, ground := Ground.phase }, { on := 5, ground := Ground.phase }, { on := 6, ground := Ground.phase }, { on := 7, ground := Ground.phase }, { on := 8, ground := Ground.phase }], guard := none }) rfl (fun K hK => ?_) AllReadyH.nil
    rw [if_pos (by rfl)]
    obtain ⟨hc1, hc2, hf1, hf2⟩ := blk_cells2 R91.out
    go_simp
    refine hK.out _ _ ((hs90.far (p := ⟨w.heap.size + 1, 0, none⟩) (by simp) _).far (p := ⟨w.heap.size + 1, 1, none⟩) (by simp) _) (fun _ => ?_)
    clear hK K
    try dsimp only [Act.put]
    try simp only [List.setIfInBounds_toArray, List.set_cons_zero, List.set_cons_succ]
    refine wpAnyH_done (by kernel_rfl) ?_ _
    try dsimp only [Act.put]
    try simp only [List.setIfInBounds_toArray, List.set_cons_zero, List.set_cons_succ]
    have hbk := ((R91.out.put 0 (.slice (some ⟨g78, 0, none⟩) n1 c79)).put 1 (.slice (some ⟨g87, 0, none⟩) n2 c88))
    have hbl := ((k89.out.setCell (p := ⟨w.heap.size + 1, 0, none⟩) (Nat.le_succ _) (.slice (some ⟨g78, 0, none⟩) n1 c79)).setCell (p := ⟨w.heap.size + 1, 1, none⟩) (Nat.le_succ _) (.slice (some ⟨g87, 0, none⟩) n2 c88))
    have hr1 := ((O93.out.put (g' := w.heap.size + 1) 0 (.slice (some ⟨g78, 0, none⟩) n1 c79) (by omega)).put (g' := w.heap.size + 1) 1 (.slice (some ⟨g87, 0, none⟩) n2 c88) (by omega)).base (B' := w.heap.size) (by omega)
    have hr2 := ((O92.out.put (g' := w.heap.size + 1) 0 (.slice (some ⟨g78, 0, none⟩) n1 c79) (by omega)).put (g' := w.heap.size + 1) 1 (.slice (some ⟨g87, 0, none⟩) n2 c88) (by omega)).base (B' := w.heap.size) (by omega)
    go_wp2_with fail
    refine bodyPost_ret (v := .agg #[(.slice (some ⟨g78, 0, none⟩) n1 c79), (.slice (some ⟨g87, 0, none⟩) n2 c88)]) ?_ rfl ⟨g78, c79, g87, c88, by rw [← HN1.out, ← HN2.out], by rw [← HN1.out]; exact hr1, by rw [← HN2.out]; exact hr2, NE94.out, hbl⟩
    have hr := run_loadVar_at (P := Tryz.prog) _ ⟨w.heap.size + 1, 0, none⟩ 27 [(.slice (some ⟨g78, 0, none⟩) n1 c79), (.slice (some ⟨g87, 0, none⟩) n2 c88)] _ hbk.at Tryz.underlying27 rfl size28
    simp [results, Tryz.results94, asAddr, hr]
end Go.Proofs.YtbfhilbagojdnaaGreat
namespace Go.Proofs.YtbfhilbagojdnaaGreat
open Go.RowKit Wr Go.Proofs.YtbfhilbagojdnaaGreat.Nm
set_option linter.unusedVariables false
set_option maxRecDepth 100000

/-- The box of what is spoilt, and that of the result. -/
structure SpB (w : World) (g7 : Nat) (W : World) (u1 u2 : Value) : Prop where
  x : Blk W g7 27 [u1, u2]
  r : Blk W (w.heap.size + 1) 27 [.slice none 0 0, .slice none 0 0]
  b : Below w.heap.size w W
  g : w.heap.size + 2 ≤ g7
def SpC (w : World) (g7 : Nat) (W : World) : Prop := ∃ C1 m1 j1 C2 m2 j2 r, SpB w g7 W (.slice C1 m1 j1) (.slice C2 m2 j2) ∧ Rk W (.slice C1 m1 j1) (.slice C2 m2 j2) r
section
variable {w W W' : World} {g7 : Nat} {C1 C2 C : Option Addr} {m1 j1 m2 j2 m j : Nat} {u1 u2 : Value} {l l2 : List Nat}
theorem SpB.alloc (h : SpB w g7 W u1 u2) (o : Obj) : SpB w g7 (W.alloc o) u1 u2 := ⟨h.x.alloc o, h.r.alloc o, h.b.alloc h.b.size o, h.g⟩
theorem SpB.below (h : SpB w g7 W u1 u2) (hb : Below W.heap.size W W') : SpB w g7 W' u1 u2 := ⟨h.x.below hb h.x.lt, h.r.below hb h.r.lt, below_step h.b hb, h.g⟩
theorem SpB.grown {q : Nat} (h : SpB w g7 W u1 u2) (hg : W.grownBy W' (some q)) (hq : q ≠ g7) (h0 : w.heap.size + 2 ≤ q) : SpB w g7 W' u1 u2 :=
  ⟨h.x.grown hg (by intro e; injection e with e; exact hq e.symm), h.r.grown hg (by intro e; injection e with e; omega), h.b.grown hg h.b.size (fun k e => by cases e; omega), h.g⟩
theorem SpB.put0 (h : SpB w g7 W u1 u2) (C : Option Addr) (m j : Nat) : SpB w g7 (W.setCell ⟨g7, 0, none⟩ (.slice C m j)) (.slice C m j) u2 :=
  ⟨h.x.put 0 _, h.r.far (p := ⟨g7, 0, none⟩) (by have := h.g; show _ ≠ g7; omega) _, h.b.setCell (p := ⟨g7, 0, none⟩) (by have := h.g; show _ ≤ g7; omega) _, h.g⟩
theorem SpB.put1 (h : SpB w g7 W u1 u2) (C : Option Addr) (m j : Nat) : SpB w g7 (W.setCell ⟨g7, 1, none⟩ (.slice C m j)) u1 (.slice C m j) :=
  ⟨h.x.put 1 _, h.r.far (p := ⟨g7, 1, none⟩) (by have := h.g; show _ ≠ g7; omega) _, h.b.setCell (p := ⟨g7, 1, none⟩) (by have := h.g; show _ ≤ g7; omega) _, h.g⟩
theorem SpB.off (h : SpB w g7 W (.slice C1 m1 j1) (.slice C2 m2 j2)) {v : Value} (hs : Sl W v l) (i : Nat) (u : Value) : Sl (W.setCell ⟨g7, i, none⟩ u) v l := sl_off hs h.x
theorem SpB.fin (h : SpB w g7 W (.slice C1 m1 j1) (.slice C2 m2 j2)) (hs : Sl W (.slice C1 m1 j1) l) (hs2 : Sl W (.slice C2 m2 j2) l2) (ho : Ok l) (ho2 : Ok l2) (hl : l.length ≤ 700) (hl2 : l2.length ≤ 700) : SpC w g7 W :=
  ⟨C1, m1, j1, C2, m2, j2, (l, l2), h, hs, hs2, ⟨ho, ho2⟩, Nat.le_trans hl (by omega), Nat.le_trans hl2 (by omega)⟩
theorem SpB.fin0 (h : SpB w g7 W (.slice C1 m1 j1) (.slice C2 m2 j2)) (hs : Sl W (.slice C m j) l) (hs2 : Sl W (.slice C2 m2 j2) l2) (ho : Ok l) (ho2 : Ok l2) (hl : l.length ≤ 700) (hl2 : l2.length ≤ 700) : SpC w g7 (W.setCell ⟨g7, 0, none⟩ (.slice C m j)) :=
  (h.put0 C m j).fin (h.off hs 0 _) (h.off hs2 0 _) ho ho2 hl hl2
theorem SpB.fin1 (h : SpB w g7 W (.slice C1 m1 j1) (.slice C2 m2 j2)) (hs : Sl W (.slice C1 m1 j1) l) (hs2 : Sl W (.slice C m j) l2) (ho : Ok l) (ho2 : Ok l2) (hl : l.length ≤ 700) (hl2 : l2.length ≤ 700) : SpC w g7 (W.setCell ⟨g7, 1, none⟩ (.slice C m j)) :=
  (h.put1 C m j).fin (h.off hs 1 _) (h.off hs2 1 _) ho ho2 hl hl2
theorem own_off {base g n : Nat} {v : Value} {xs : List Value} {i : Nat} {u u1 u2 : Value} (h : W.ownsRow base 66 1 v n xs) (hb : Blk W g 27 [u1, u2]) : (W.setCell ⟨g, i, none⟩ u).ownsRow base 66 1 v n xs := by
  refine ⟨h.1, ?_⟩
  rcases h.2 with hn | ⟨g', cap, cur, rfl, hb', hgg, rest⟩
  · exact .inl hn
  · refine .inr ⟨g', cap, cur, rfl, hb', ?_, rest⟩
    have hne : g' ≠ g := by
      intro e
      subst e
      unfold Blk at hb
      rw [hgg] at hb
      injection hb with hb
      injection hb with _ hb
      exact absurd hb (by decide)
    exact (Below.heap_setCell W ⟨g, i, none⟩ u g' hne).trans hgg
theorem Ro.off {B g n c : Nat} {l : List Nat} {u u1 u2 : Value} (h : Ro B W g n c l) (gx i : Nat) (hb : Blk W gx 27 [u1, u2]) : Ro B (W.setCell ⟨gx, i, none⟩ u) g n c l :=
  ⟨own_off h.o hb, by have := h.lt; simpa using this⟩
end
def SpL (w : World) (g7 g1 N1 c1 : Nat) (L1 : List Nat) (k : Nat) (W : World) : Prop := ∃ g2 N2 c2 L2, SpB w g7 W (.slice (some ⟨g1, 0, none⟩) N1 c1) (.slice (some ⟨g2, 0, none⟩) N2 c2) ∧ Ro (w.heap.size + 2) W g1 N1 c1 L1 ∧ Ro (w.heap.size + 2) W g2 N2 c2 L2 ∧ g1 ≠ g2 ∧ g2 ≠ g7 ∧ Ok L2 ∧ N2 ≤ 700 ∧ 67 ≤ N2 + k
theorem times_len {a b : List Nat} (ha : Ok a) (hb : Ok b) : (lim (num a * num b)).length ≤ a.length + b.length := by
  rw [lim_len, Nat.pow_add]
  have h1 := num_lt a ha; have h2 := num_lt b hb
  exact Nat.mul_lt_mul'' h1 h2
theorem den_two {l : List Nat} (ho : Ok l) (hl : l.length ≤ 64) : Ok (denL l) ∧ (denL l).length ≤ 64 := by
  unfold denL
  split
  · exact ⟨Ok.cons (by omega) Ok.nil, by simp⟩
  · exact ⟨ho, hl⟩
def SpP (w : World) (e : Ending) (w' : World) : Prop := ∃ u1 u2 r, e = .returned (.agg #[u1, u2]) ∧ Rk w' u1 u2 r ∧ Below w.heap.size w w'
set_option maxHeartbeats 8000000 in
theorem spoilt_any {v1 v2 : Value} {x y : Nat} {w : World} (how by_ : Int) (hr : Rk w v1 v2 (lim x, dl y)) (hv : Vr x y) (hh : -9223372036854775808 ≤ how ∧ how ≤ 9223372036854775807) (hb : -9223372036854775808 ≤ by_ ∧ by_ ≤ 9223372036854775807) : Calls Tryz.prog 43 #[.agg #[v1, v2], .int .i64 how, .int .i64 by_] w (SpP w) := by
  have a1 := arI_lo how 7 (by omega); have a2 := arI_hi how 7 (by omega)
  have b1 := arI_lo by_ 5 (by omega); have b2 := arI_hi by_ 5 (by omega)
  have HA := Lib.hid (fun W => around_any how 7 W hh (by omega)); have HB := Lib.hid (fun W => around_any by_ 5 W hb (by omega))
  obtain ⟨q, hq⟩ : ∃ q, q = arI how 7 := ⟨_, rfl⟩
  obtain ⟨k, hk⟩ := Int.eq_ofNat_of_zero_le b1
  rw [← hq] at HA a1 a2
  rw [hk] at HB b2
  obtain ⟨l1, l2, l3⟩ := Vr.len hv
  have hs1 : Sl w v1 (lim x) := hr.s1
  have hs2 : Sl w v2 (dl y) := hr.s2
  have HO := Lib.hid (And.intro (lim_ok x) (dl_ok y)); have HL := Lib.hid (And.intro l1 l3)
  generalize lim x = L1 at hs1 HO HL
  generalize dl y = L2 at hs2 HO HL
  have HQ := Lib.hid (show q = 0 ∨ q = 1 ∨ q = 2 ∨ q = 3 ∨ q = 4 ∨ q = 5 ∨ q = 6 by omega)
  have hkI : (k : Int) < 5 := by omega
  have HK5 := Lib.hid (show k < 5 by omega)
  obtain ⟨A1, n1, k1, e1⟩ := sl_form hs1
  obtain ⟨A2, n2, k2, e2⟩ := sl_form hs2
  subst e1 e2
  obtain ⟨x1, x2, x3⟩ := boxes2 w (.slice A1 n1 k1) (.slice A2 n2 k2) (.slice none 0 0) (.slice none 0 0)
  have HX1 := Lib.hid x1; have HX2 := Lib.hid x2; have HX3 := Lib.hid x3; have HS1 := Lib.hid (hs1.below x3); have HS2 := Lib.hid (hs2.below x3)
  clear x1 x2 x3 hs1 hs2 hr hv hh hb hk hq l1 l2 l3 a1 a2 b1 b2
  go_enter Tryz.func43, Tryz.ntmps43
  go_upto_region 1 with (fail)
  obtain ⟨W0, hW0⟩ : ∃ W, ((w.alloc (.cells #[.slice A1 n1 k1, .slice A2 n2 k2] 27)).alloc (.cells #[.slice none 0 0, .slice none 0 0] 27)) = W := ⟨_, rfl⟩
  rw [hW0] at HX1 HX2 HX3 HS1 HS2 ⊢
  clear hW0
  have HCP := Lib.hid (copy_any HS1.out HS2.out (by have := HL.out.1; omega) (by have := HL.out.2; omega))
  obtain ⟨hc1, hc2, hf1, hf2⟩ := blk_cells2 HX1.out
  go_wp2_with fail
  refine HCP.out.mono ?_
  rintro e w1 ⟨g1, c1, g2, c2, rfl, o1, o2, hne, hb⟩
  have X1 := Lib.hid (HX2.out.below hb HX2.out.lt); have B1 := Lib.hid (below_step HX3.out hb)
  have O1 := Lib.hid (o1.base (B' := w.heap.size + 2) HX2.out.lt); have O2 := Lib.hid (o2.base (B' := w.heap.size + 2) HX2.out.lt); have NE := Lib.hid hne
  clear hne hb o1 o2 HCP HS1 HS2 HX1 HX2 HX3 hc1 hc2 hf1 hf2
  obtain ⟨N1, hN1⟩ : ∃ n, n = L1.length := ⟨_, rfl⟩
  obtain ⟨N2, hN2⟩ : ∃ n, n = L2.length := ⟨_, rfl⟩
  rw [← hN1] at O1
  rw [← hN2] at O2
  rw [← hN1, ← hN2]
  clear hN1 hN2
  go_upto_region 2 with (fail)
  have SB := Lib.hid (show SpB w w1.heap.size (w1.alloc (.cells #[.slice (some ⟨g1, 0, none⟩) N1 c1, .slice (some ⟨g2, 0, none⟩) N2 c2] 27)) (.slice (some ⟨g1, 0, none⟩) N1 c1) (.slice (some ⟨g2, 0, none⟩) N2 c2) from ⟨box0 _ _ _, X1.out.alloc _, B1.out.alloc B1.out.size _, X1.out.lt⟩)
  have G := Lib.hid (show g1 ≠ w1.heap.size ∧ g2 ≠ w1.heap.size from ⟨Nat.ne_of_lt O1.out.lt, Nat.ne_of_lt O2.out.lt⟩)
  have O1' := Lib.hid (O1.out.alloc (.cells #[.slice (some ⟨g1, 0, none⟩) N1 c1, .slice (some ⟨g2, 0, none⟩) N2 c2] 27)); have O2' := Lib.hid (O2.out.alloc (.cells #[.slice (some ⟨g1, 0, none⟩) N1 c1, .slice (some ⟨g2, 0, none⟩) N2 c2] 27))
  clear X1 B1 O1 O2
  obtain ⟨W2, hW2⟩ : ∃ W, w1.alloc (.cells #[.slice (some ⟨g1, 0, none⟩) N1 c1, .slice (some ⟨g2, 0, none⟩) N2 c2] 27) = W := ⟨_, rfl⟩
  obtain ⟨g7, hg7⟩ : ∃ g, w1.heap.size = g := ⟨_, rfl⟩
  rw [hW2] at SB O1' O2' ⊢
  rw [hg7] at SB G ⊢
  have O1 := O1'; have O2 := O2'
  clear hW2 hg7 O1' O2'
  go_upto_block 0 with (go_at_call 8; first | ((with_reducible refine (HA.out _).mono ?_); rintro e w' ⟨rfl, rfl⟩) | ((with_reducible refine (HB.out _).mono ?_); rintro e w' ⟨rfl, rfl⟩))
  clear HA HB
  go_cut [] from 16 (fun wx => Hid (SpC w g7 wx))
  case first =>
    rcases HQ.out with hq | hq | hq | hq | hq | hq | hq
    · subst hq
      obtain ⟨hc1, hc2, hf1, hf2⟩ := blk_cells2 SB.out.x
      have HSL := Lib.hid (sl_one1 W2 0)
      have O1b := Lib.hid (O1.out.alloc (.cells #[.int .u32 ((0 : Nat) : Int)] 66)); have O2b := Lib.hid (O2.out.alloc (.cells #[.int .u32 ((0 : Nat) : Int)] 66)); have SBb := Lib.hid (SB.out.alloc (.cells #[.int .u32 ((0 : Nat) : Int)] 66))
      have HBY := Lib.hid (show N1 + [0].length ≤ 1073741824 by have := HL.out; have := O1.out.len; simp; omega)
      clear O1 O2 SB
      go_wp2_with (at_builtin; (refine wpList_app_ro rfl (.tmp 31) (.tmp 32) rfl g1 N1 c1 L1 rfl O1b.out (some ⟨W2.heap.size, 0, none⟩) 1 1 [0] rfl HSL.out HBY.out ?_))
      intro g' c' W3 ho hg hat
      have SB3 := Lib.hid (SBb.out.grown hg G.out.1 O1b.out.ge)
      have S1c := Lib.hid ho.sl
      have S2c := Lib.hid (O2b.out.grown hg (Ne.symm NE.out)).sl
      clear ho hg hat O1b O2b SBb HSL HBY hc1 hc2 hf1 hf2
      obtain ⟨hc1, hc2, hf1, hf2⟩ := blk_cells2 SB3.out.x
      go_wp2_with fail
      go_meet
      exact Lib.hid (SB3.out.fin0 S1c.out S2c.out (HO.out.1.append (Ok.cons (by omega) Ok.nil)) HO.out.2 (by have := HL.out.1; simp; omega) (by have := HL.out.2; omega))
    · subst hq
      obtain ⟨hc1, hc2, hf1, hf2⟩ := blk_cells2 SB.out.x
      have HSL := Lib.hid (sl_one1 W2 0)
      have O1b := Lib.hid (O1.out.alloc (.cells #[.int .u32 ((0 : Nat) : Int)] 66)); have O2b := Lib.hid (O2.out.alloc (.cells #[.int .u32 ((0 : Nat) : Int)] 66)); have SBb := Lib.hid (SB.out.alloc (.cells #[.int .u32 ((0 : Nat) : Int)] 66))
      have HBY := Lib.hid (show N2 + [0].length ≤ 1073741824 by have := HL.out; have := O2.out.len; simp; omega)
      clear O1 O2 SB
      go_wp2_with (at_builtin; (refine wpList_app_ro rfl (.tmp 38) (.tmp 39) rfl g2 N2 c2 L2 rfl O2b.out (some ⟨W2.heap.size, 0, none⟩) 1 1 [0] rfl HSL.out HBY.out ?_))
      intro g' c' W3 ho hg hat
      have SB3 := Lib.hid (SBb.out.grown hg G.out.2 O2b.out.ge)
      have S1c := Lib.hid (O1b.out.grown hg NE.out).sl
      have S2c := Lib.hid ho.sl
      clear ho hg hat O1b O2b SBb HSL HBY hc1 hc2 hf1 hf2
      obtain ⟨hc1, hc2, hf1, hf2⟩ := blk_cells2 SB3.out.x
      go_wp2_with fail
      go_meet
      exact Lib.hid (SB3.out.fin1 S1c.out S2c.out HO.out.1 (HO.out.2.append (Ok.cons (by omega) Ok.nil)) (by have := HL.out.1; omega) (by have := HL.out.2; simp; omega))
    · subst hq
      have HSL := Lib.hid (sl_one W2)
      have SBb := Lib.hid (SB.out.alloc (.cells #[.int .u32 1] 66)); have S1b := Lib.hid (O1.out.alloc (.cells #[.int .u32 1] 66)).sl
      obtain ⟨hc1, hc2, hf1, hf2⟩ := blk_cells2 SBb.out.x
      clear O1 O2 SB
      go_wp2_with fail
      go_meet
      exact Lib.hid (SBb.out.fin1 S1b.out HSL.out HO.out.1 (Ok.cons (by omega) Ok.nil) (by have := HL.out.1; omega) (by simp))
    · subst hq
      obtain ⟨m, hm⟩ : ∃ m, m = 2 + k := ⟨_, rfl⟩
      have hmI : 2 + (k : Int) = (m : Int) := by omega
      have hm6 : m ≤ 6 := by omega
      clear hm
      have HSL := Lib.hid (sl_one1 W2 m)
      have O1b := Lib.hid (O1.out.alloc (.cells #[.int .u32 ((m : Nat) : Int)] 66)); have O2b := Lib.hid (O2.out.alloc (.cells #[.int .u32 ((m : Nat) : Int)] 66)); have SBb := Lib.hid (SB.out.alloc (.cells #[.int .u32 ((m : Nat) : Int)] 66))
      have OM := Lib.hid (show Ok [m] from Ok.cons (by omega) Ok.nil)
      have HT := Lib.hid (rtimes_any O1b.out.sl HSL.out HO.out.1 OM.out (by have := HL.out.1; omega) (by simp))
      have HT1 := Lib.hid (times_len HO.out.1 OM.out)
      have HD2 := Lib.hid (den_two HO.out.2 HL.out.2)
      obtain ⟨hc1, hc2, hf1, hf2⟩ := blk_cells2 SB.out.x
      have HM6 := Lib.hid hm6
      clear O1 O2 SB hm6
      go_wp2_with fail
      refine HT.out.mono ?_
      rintro e W3 ⟨v, rfl, hs, hb⟩
      obtain ⟨C, m3, j3, e1⟩ := sl_form hs
      subst e1
      have SB3 := Lib.hid (SBb.out.below hb); have S2c := Lib.hid (O2b.out.below hb).sl; have S1c := Lib.hid hs
      clear hs hb HT HSL O1b O2b SBb hc1 hc2 hf1 hf2
      obtain ⟨hc1, hc2, hf1, hf2⟩ := blk_cells2 SB3.out.x
      go_upto_region 14 with fail
      have SB4 := Lib.hid (SB3.out.put0 C m3 j3); have S1d := Lib.hid (SB3.out.off S1c.out 0 (.slice C m3 j3)); have S2d := Lib.hid (SB3.out.off S2c.out 0 (.slice C m3 j3))
      clear hc1 hc2 hf1 hf2 SB3 S1c S2c
      obtain ⟨W4, hW4⟩ : ∃ W', W3.setCell ⟨g7, 0, none⟩ (.slice C m3 j3) = W' := ⟨_, rfl⟩
      rw [hW4] at SB4 S1d S2d ⊢
      clear hW4
      have HD := Lib.hid (rden_any S1d.out S2d.out (by have := HL.out.2; omega))
      obtain ⟨hc1, hc2, hf1, hf2⟩ := blk_cells2 SB4.out.x
      go_wp2_with fail
      refine HD.out.mono ?_
      rintro e W5 ⟨v5, rfl, hs5, hb5⟩
      obtain ⟨C5, m5, j5, e1⟩ := sl_form hs5
      subst e1
      have SB5 := Lib.hid ((SB4.out.below hb5).alloc (.cells #[.int .u32 ((m : Nat) : Int)] 66)); have S1e := Lib.hid ((S1d.out.below hb5).below (below_al W5 (.cells #[.int .u32 ((m : Nat) : Int)] 66)))
      have HT2 := Lib.hid (rtimes_any (hs5.below (below_al W5 (.cells #[.int .u32 ((m : Nat) : Int)] 66))) (sl_one1 W5 m) HD2.out.1 OM.out (by have := HD2.out.2; omega) (by simp))
      have HT3 := Lib.hid (times_len HD2.out.1 OM.out)
      clear hs5 hb5 HD SB4 S1d S2d hc1 hc2 hf1 hf2
      go_wp2_with fail
      refine HT2.out.mono ?_
      rintro e W6 ⟨v6, rfl, hs6, hb6⟩
      obtain ⟨C6, m6, j6, e1⟩ := sl_form hs6
      subst e1
      have SB6 := Lib.hid (SB5.out.below hb6); have S1f := Lib.hid (S1e.out.below hb6); have S6 := Lib.hid hs6
      clear hs6 hb6 HT2 SB5 S1e
      obtain ⟨hc1, hc2, hf1, hf2⟩ := blk_cells2 SB6.out.x
      go_wp2_with fail
      go_meet
      exact Lib.hid (SB6.out.fin1 S1f.out S6.out (lim_ok _) (lim_ok _) (by have h1 := HT1.out; have h2 := HL.out.1; rw [List.length_singleton] at h1; omega) (by have h1 := HT3.out; have h2 := HD2.out.2; rw [List.length_singleton] at h1; omega))
    · subst hq
      obtain ⟨hc1, hc2, hf1, hf2⟩ := blk_cells2 SB.out.x
      have HSL := Lib.hid (sl_one1 W2 k)
      have O1b := Lib.hid (O1.out.alloc (.cells #[.int .u32 ((k : Nat) : Int)] 66)); have O2b := Lib.hid (O2.out.alloc (.cells #[.int .u32 ((k : Nat) : Int)] 66)); have SBb := Lib.hid (SB.out.alloc (.cells #[.int .u32 ((k : Nat) : Int)] 66))
      have HBY := Lib.hid (show N1 + [k].length ≤ 1073741824 by have := HL.out; have := O1.out.len; simp; omega)
      clear O1 O2 SB
      go_wp2_with (at_builtin; (refine wpList_app_ro rfl (.tmp 65) (.tmp 67) rfl g1 N1 c1 L1 rfl O1b.out (some ⟨W2.heap.size, 0, none⟩) 1 1 [k] rfl HSL.out HBY.out ?_))
      intro g' c' W3 ho hg hat
      have SB3 := Lib.hid (SBb.out.grown hg G.out.1 O1b.out.ge)
      have S1c := Lib.hid ho.sl
      have S2c := Lib.hid (O2b.out.grown hg (Ne.symm NE.out)).sl
      clear ho hg hat O1b O2b SBb HSL HBY hc1 hc2 hf1 hf2
      obtain ⟨hc1, hc2, hf1, hf2⟩ := blk_cells2 SB3.out.x
      go_wp2_with fail
      go_meet
      exact Lib.hid (SB3.out.fin0 S1c.out S2c.out (HO.out.1.append (Ok.cons (by have := HK5.out; omega) Ok.nil)) HO.out.2 (by have := HL.out.1; simp; omega) (by have := HL.out.2; omega))
    · subst hq
      obtain ⟨hc1, hc2, hf1, hf2⟩ := blk_cells2 SB.out.x
      have S2c := Lib.hid O2.out.sl
      clear O1 O2
      go_wp2_with fail
      go_meet
      exact Lib.hid (SB.out.fin0 (Sl.nil _) S2c.out Ok.nil HO.out.2 (by simp) (by have := HL.out.2; omega))
    · subst hq
      have HST := Lib.hid (show SpL w g7 g1 N1 c1 L1 67 W2 from ⟨g2, N2, c2, L2, SB.out, O1.out, O2.out, NE.out, G.out.2, HO.out.2, by have := O2.out.len; have := HL.out.2; omega, by omega⟩)
      clear SB O1 O2 NE
      go_wp2_with fail
      go_loopg [] 67 (fun gk wr => SpL w g7 g1 N1 c1 L1 gk wr)
      case atStart => exact HST.out
      case round =>
        clear HST
        obtain ⟨q2, M2, d2, P2, hx, o1, o2, hne, hq, hok, hle, hk⟩ := hrel
        have SBr := Lib.hid hx; have O1 := Lib.hid o1; have O2 := Lib.hid o2; have NE2 := Lib.hid (And.intro hne hq); have HP := Lib.hid (And.intro hok (And.intro hle hk))
        clear hx o1 o2 hne hq hok
        obtain ⟨hc1, hc2, hf1, hf2⟩ := blk_cells2 SBr.out.x
        rcases Nat.lt_or_ge M2 (63 + k) with hlt | hge
        · have hltI : (M2 : Int) < 63 + (k : Int) := by omega
          have HSL := Lib.hid (sl_one1 wr 7)
          have O1b := Lib.hid (O1.out.alloc (.cells #[.int .u32 ((7 : Nat) : Int)] 66)); have O2b := Lib.hid (O2.out.alloc (.cells #[.int .u32 ((7 : Nat) : Int)] 66)); have SBb := Lib.hid (SBr.out.alloc (.cells #[.int .u32 ((7 : Nat) : Int)] 66))
          have HBY := Lib.hid (show M2 + [7].length ≤ 1073741824 by simp; omega)
          have HK := Lib.hid (show M2 + 1 ≤ 700 ∧ 67 ≤ M2 + 1 + (gk - 1) ∧ gk - 1 < gk by omega)
          clear O1 O2 SBr hlt hk hle
          go_wp2_with (at_builtin; (refine wpList_app_ro rfl (.tmp 24) (.tmp 25) rfl q2 M2 d2 P2 rfl O2b.out (some ⟨wr.heap.size, 0, none⟩) 1 1 [7] rfl HSL.out HBY.out ?_))
          intro g' c' W3 ho hg hat
          have SB3 := Lib.hid (SBb.out.grown hg NE2.out.2 O2b.out.ge)
          have O1c := Lib.hid (O1b.out.grown hg NE2.out.1); have O2c := Lib.hid ho
          have NE3 := Lib.hid (show g1 ≠ g' ∧ g' ≠ g7 by have h1 := O1b.out.lt; have h2 := SBb.out.x.lt; have h3 := NE2.out; simp at h1 h2; rcases hat with e | e <;> rw [e] <;> omega)
          clear ho hg hat O1b O2b SBb HSL HBY hc1 hc2 hf1 hf2
          obtain ⟨hc1, hc2, hf1, hf2⟩ := blk_cells2 SB3.out.x
          go_wp2_with fail
          go_roundg (gk - 1)
          case measure => exact HK.out.2.2
          case rel => exact ⟨g', M2 + 1, c', P2 ++ [7], SB3.out.put1 _ _ _, O1c.out.off g7 1 SB3.out.x, O2c.out.off g7 1 SB3.out.x, NE3.out.1, NE3.out.2, HP.out.1.append (Ok.cons (by omega) Ok.nil), HK.out.1, HK.out.2.1⟩
        · have hltI : ¬ ((M2 : Int) < 63 + (k : Int)) := by omega
          have S1c := Lib.hid O1.out.sl; have S2c := Lib.hid O2.out.sl; have HLE := Lib.hid (show P2.length ≤ 700 by have := O2.out.len; omega)
          clear hge hk hle
          go_wp2_with fail
          go_meet
          exact Lib.hid (SBr.out.fin S1c.out S2c.out HO.out.1 HP.out.1 (by have := HL.out.1; omega) HLE.out)
  case rest =>
    obtain ⟨C1, m1, j1, C2, m2, j2, r, hsb, hk⟩ := hcut.out
    have SB3 := Lib.hid hsb; have HK := Lib.hid hk
    clear hcut hsb hk SB O1 O2 NE G HQ HO HL HK5 hkI
    obtain ⟨hc1, hc2, hf1, hf2⟩ := blk_cells2 SB3.out.x
    obtain ⟨hc3, hc4, hf3, hf4⟩ := blk_cells2 SB3.out.r
    go_wp2_with fail
    have hbk := ((SB3.out.r.put 0 (.slice C1 m1 j1)).put 1 (.slice C2 m2 j2))
    have hbl := ((SB3.out.b.setCell (p := ⟨w.heap.size + 1, 0, none⟩) (Nat.le_succ _) (.slice C1 m1 j1)).setCell (p := ⟨w.heap.size + 1, 1, none⟩) (Nat.le_succ _) (.slice C2 m2 j2))
    have hs1 := sl_res HK.out.s1 SB3.out.r C1 m1 j1 C2 m2 j2
    have hs2 := sl_res HK.out.s2 SB3.out.r C1 m1 j1 C2 m2 j2
    refine bodyPost_ret (v := .agg #[(.slice C1 m1 j1), (.slice C2 m2 j2)]) ?_ rfl ⟨(.slice C1 m1 j1), (.slice C2 m2 j2), r, rfl, ⟨hs1, hs2, HK.out.ok, HK.out.l1, HK.out.l2⟩, hbl⟩
    have hr := run_loadVar_at (P := Tryz.prog) _ ⟨w.heap.size + 1, 0, none⟩ 27 [(.slice C1 m1 j1), (.slice C2 m2 j2)] _ hbk.at Tryz.underlying27 rfl size28
    simp [results, Tryz.results43, asAddr, hr]
end Go.Proofs.YtbfhilbagojdnaaGreat
namespace Go.Proofs.YtbfhilbagojdnaaGreat
open Go.RowKit Wr Go.Proofs.YtbfhilbagojdnaaGreat.Nm
set_option linter.unusedVariables false
set_option maxRecDepth 100000

theorem bs7 (A1 : Option Addr) (n1 k1 : Nat) (D1 : Option Addr) (p1 q1 : Nat) (A2 : Option Addr) (n2 k2 : Nat) (D2 : Option Addr) (p2 q2 : Nat) (A3 : Option Addr) (n3 k3 : Nat) (D3 : Option Addr) (p3 q3 : Nat) (A4 : Option Addr) (n4 k4 : Nat) (D4 : Option Addr) (p4 q4 : Nat) (A5 : Option Addr) (n5 k5 : Nat) (D5 : Option Addr) (p5 q5 : Nat) (A6 : Option Addr) (n6 k6 : Nat) (D6 : Option Addr) (p6 q6 : Nat) (A7 : Option Addr) (n7 k7 : Nat) (D7 : Option Addr) (p7 q7 : Nat) (W : World) :
    (Instr.buildSlice 23 7 #[(0, .agg #[.slice A1 n1 k1, .slice D1 p1 q1]), (1, .agg #[.slice A2 n2 k2, .slice D2 p2 q2]), (2, .agg #[.slice A3 n3 k3, .slice D3 p3 q3]), (3, .agg #[.slice A4 n4 k4, .slice D4 p4 q4]), (4, .agg #[.slice A5 n5 k5, .slice D5 p5 q5]), (5, .agg #[.slice A6 n6 k6, .slice D6 p6 q6]), (6, .agg #[.slice A7 n7 k7, .slice D7 p7 q7])]).run Tryz.prog W = .ok (.slice (some ⟨W.heap.size, 0, none⟩) 7 7) (W.alloc (.cells #[.slice A1 n1 k1, .slice D1 p1 q1, .slice A2 n2 k2, .slice D2 p2 q2, .slice A3 n3 k3, .slice D3 p3 q3, .slice A4 n4 k4, .slice D4 p4 q4, .slice A5 n5 k5, .slice D5 p5 q5, .slice A6 n6 k6, .slice D6 p6 q6, .slice A7 n7 k7, .slice D7 p7 q7] 27)) := by kernel_rfl
theorem rls7 {W : World} {v1 u1 v2 u2 v3 u3 v4 u4 v5 u5 v6 u6 v7 u7 : Value} {r1 r2 r3 r4 r5 r6 r7 : Rt} (h1 : Rk W v1 u1 r1) (h2 : Rk W v2 u2 r2) (h3 : Rk W v3 u3 r3) (h4 : Rk W v4 u4 r4) (h5 : Rk W v5 u5 r5) (h6 : Rk W v6 u6 r6) (h7 : Rk W v7 u7 r7) : Rls (W.alloc (.cells #[v1, u1, v2, u2, v3, u3, v4, u4, v5, u5, v6, u6, v7, u7] 27)) (.slice (some ⟨W.heap.size, 0, none⟩) 7 7) [r1, r2, r3, r4, r5, r6, r7] := by
  refine ⟨_, 7, [(v1, u1), (v2, u2), (v3, u3), (v4, u4), (v5, u5), (v6, u6), (v7, u7)], rfl, Nat.le_refl _, (fun e => by cases e), (Rd.of_blk0 (Blk.new W 27 [v1, u1, v2, u2, v3, u3, v4, u4, v5, u5, v6, u6, v7, u7])).more (Blk.new W 27 [v1, u1, v2, u2, v3, u3, v4, u4, v5, u5, v6, u6, v7, u7]).lt, rfl, ?_⟩
  intro i r' hi
  match i, hi with
  | 0, hi => simp at hi; subst hi; exact ⟨_, rfl, h1.below (below_al _ _)⟩
  | 1, hi => simp at hi; subst hi; exact ⟨_, rfl, h2.below (below_al _ _)⟩
  | 2, hi => simp at hi; subst hi; exact ⟨_, rfl, h3.below (below_al _ _)⟩
  | 3, hi => simp at hi; subst hi; exact ⟨_, rfl, h4.below (below_al _ _)⟩
  | 4, hi => simp at hi; subst hi; exact ⟨_, rfl, h5.below (below_al _ _)⟩
  | 5, hi => simp at hi; subst hi; exact ⟨_, rfl, h6.below (below_al _ _)⟩
  | 6, hi => simp at hi; subst hi; exact ⟨_, rfl, h7.below (below_al _ _)⟩
  | i + 7, hi => simp at hi
theorem sl_take70 {w : World} {A : Option Addr} {n k m : Nat} {l : List Nat} (h : Sl w (.slice A n k) l) (hm : m = min n 70) : Sl w (.slice A m k) (l.take 70) := by
  obtain ⟨A', k', e, hk, hn, hr⟩ := h
  injection e with e1 e2 e3
  subst e1 e2 e3
  have hl : (l.take 70).length = m := by rw [List.length_take, hm]; omega
  subst hl
  exact ⟨A, k, rfl, by rw [List.length_take]; omega, hn, rd_take hr 70⟩
def SmeP (w : World) (e : Ending) (w' : World) : Prop := ∃ v L, e = .returned v ∧ L.length = 7 ∧ Rls w' v L ∧ Below w.heap.size w w'
set_option maxHeartbeats 8000000 in
theorem some_any {A5 A6 : Option Addr} {n5 k5 n6 k6 : Nat} {lr lm : List Nat} {w : World} (n m how by_ : Int) (hn : -9223372036854775808 ≤ n ∧ n ≤ 9223372036854775807) (hm : -9223372036854775808 ≤ m ∧ m ≤ 9223372036854775807) (hh : -9223372036854775808 ≤ how ∧ how ≤ 9223372036854775807) (hb : -9223372036854775808 ≤ by_ ∧ by_ ≤ 9223372036854775807)
    (h5 : Sl w (.slice A5 n5 k5) lr) (h6 : Sl w (.slice A6 n6 k6) lm) (o5 : Ok lr) (o6 : Ok lm) (hl5 : n5 ≤ 9223372036854775807) (hl6 : n6 ≤ 9223372036854775807) : Calls Tryz.prog 7 #[.int .i64 n, .int .i64 m, .int .i64 how, .int .i64 by_, .slice A5 n5 k5, .slice A6 n6 k6] w (SmeP w) := by
  have HMa := Lib.hid (fun W => made_ref n m W hn hm); have HLg := Lib.hid (fun W => large_ref m n W hm hn); have HPt := Lib.hid (fun W => part_ref n m W hn hm)
  have HSp := Lib.hid (fun W v1 v2 x y (h : Rk W v1 v2 (lim x, dl y)) (hv : Vr x y) => spoilt_any (w := W) how by_ h hv hh hb); have HSq := Lib.hid (fun W v1 v2 x y (h : Rk W v1 v2 (lim x, dl y)) (hv : Vr x y) => spoilt_any (w := W) by_ how h hv hb hh)
  obtain ⟨m5, hm5⟩ : ∃ a, a = min n5 70 := ⟨_, rfl⟩
  obtain ⟨m6, hm6⟩ : ∃ a, a = min n6 70 := ⟨_, rfl⟩
  have hcap5 : n5 ≤ k5 := by obtain ⟨_, _, e, h, _, _⟩ := h5; cases e; exact h
  have hcap6 : n6 ≤ k6 := by obtain ⟨_, _, e, h, _, _⟩ := h6; cases e; exact h
  have h5I : min (n5 : Int) 70 = (m5 : Int) := by omega
  have h6I : min (n6 : Int) 70 = (m6 : Int) := by omega
  have c5I : (m5 : Int) ≤ (k5 : Int) := by omega
  have c6I : (m6 : Int) ≤ (k6 : Int) := by omega
  have T5 := Lib.hid (show Rk w (.slice A5 m5 k5) (.slice A6 m6 k6) (lr.take 70, lm.take 70) from ⟨sl_take70 h5 hm5, sl_take70 h6 hm6, ⟨o5.take _, o6.take _⟩, by show (lr.take 70).length ≤ 1000; rw [List.length_take]; omega, by show (lm.take 70).length ≤ 1000; rw [List.length_take]; omega⟩)
  have hn5I : (n5 : Int) ≤ 9223372036854775807 := by omega
  have hn6I : (n6 : Int) ≤ 9223372036854775807 := by omega
  have B0 := Lib.hid (Below.refl w.heap.size w)
  clear hn hm hh hb h5 h6 o5 o6 hm5 hm6 hcap5 hcap6 hl5 hl6
  go_enter Tryz.func7, Tryz.ntmps7
  go_wp2_with fail
  refine (HMa.out _).mono ?_
  rintro e w1 ⟨x1, y1, u1, u2, rfl, hk, hva, _, hb⟩
  have HV_a := Lib.hid hva; have KN := Lib.hid hk
  clear hva
  obtain ⟨C2, m3, j4, e1⟩ := sl_form hk.s1
  obtain ⟨D5, p6, q7, e2⟩ := sl_form hk.s2
  subst e1 e2
  have B8 := Lib.hid (below_step B0.out hb)
  clear B0
  clear hk hb
  have BS0 := B8
  go_upto_region 2 with fail
  have B9 := Lib.hid (below_step B8.out (boxb w1 (.slice C2 m3 j4) (.slice D5 p6 q7)))
  clear B8
  have V_a := Lib.hid (Bx.new KN.out)
  have G_a := Lib.hid (show w.heap.size ≤ w1.heap.size from BS0.out.size)
  clear KN
  clear BS0
  obtain ⟨g10, hgn⟩ : ∃ g, w1.heap.size = g := ⟨_, rfl⟩
  obtain ⟨w11, hww⟩ : ∃ W, w1.alloc (.cells #[.slice C2 m3 j4, .slice D5 p6 q7] 27) = W := ⟨_, rfl⟩
  rw [hww] at B9 V_a ⊢
  rw [hgn] at V_a G_a  ⊢
  clear hww hgn
  go_wp2_with fail
  refine (HLg.out _).mono ?_
  rintro e w12 ⟨x2, y2, u1, u2, rfl, hk, hvb, _, hb⟩
  have HV_b := Lib.hid hvb; have KN := Lib.hid hk
  clear hvb
  obtain ⟨C13, m14, j15, e1⟩ := sl_form hk.s1
  obtain ⟨D16, p17, q18, e2⟩ := sl_form hk.s2
  subst e1 e2
  have V_a := Lib.hid (V_a.out.below hb)
  have B19 := Lib.hid (below_step B9.out hb)
  clear B9
  clear hk hb
  have BS0 := B19
  go_upto_region 3 with fail
  have L_a_b := Lib.hid (V_a.out.b.lt)
  have V_a := Lib.hid (V_a.out.below (boxb w12 (.slice C13 m14 j15) (.slice D16 p17 q18)))
  have B20 := Lib.hid (below_step B19.out (boxb w12 (.slice C13 m14 j15) (.slice D16 p17 q18)))
  clear B19
  have V_b := Lib.hid (Bx.new KN.out)
  have G_b := Lib.hid (show w.heap.size ≤ w12.heap.size from BS0.out.size)
  clear KN
  clear BS0
  obtain ⟨g21, hgn⟩ : ∃ g, w12.heap.size = g := ⟨_, rfl⟩
  obtain ⟨w22, hww⟩ : ∃ W, w12.alloc (.cells #[.slice C13 m14 j15, .slice D16 p17 q18] 27) = W := ⟨_, rfl⟩
  rw [hww] at B20 V_a V_b ⊢
  rw [hgn] at V_b G_b L_a_b ⊢
  clear hww hgn
  go_upto_region 3 with fail
  have K1 := Lib.hid V_a.out.k; have K2 := Lib.hid V_b.out.k; have K3 := Lib.hid (T5.out.below B20.out)
  refine wp_region_held (S := fun W => Blk W g10 27 [.slice C2 m3 j4, .slice D5 p6 q7] ∧ Blk W g21 27 [.slice C13 m14 j15, .slice D16 p17 q18]) (by kernel_rfl) ?_
  change wpAnyH _ _ _ _ _ _ _ _ (World.drew w22)
  have hs0 : Blk (World.drew w22) g10 27 [.slice C2 m3 j4, .slice D5 p6 q7] ∧ Blk (World.drew w22) g21 27 [.slice C13 m14 j15, .slice D16 p17 q18] := ⟨V_a.out.b, V_b.out.b⟩
  have k0 : Hid (Below w.heap.size w (World.drew w22)) := Lib.hid (below_drewN B20.out 1)
  have Ka : Hid (Rk (World.drew w22) (.slice C2 m3 j4) (.slice D5 p6 q7) (lim x1, dl y1)) := Lib.hid (K1.out.below (below_drewN (Below.refl _ _) 1))
  have Kb : Hid (Rk (World.drew w22) (.slice C13 m14 j15) (.slice D16 p17 q18) (lim x2, dl y2)) := Lib.hid (K2.out.below (below_drewN (Below.refl _ _) 1))
  have Kt : Hid (Rk (World.drew w22) (.slice A5 m5 k5) (.slice A6 m6 k6) (lr.take 70, lm.take 70)) := Lib.hid (K3.out.below (below_drewN (Below.refl _ _) 1))
  clear V_a V_b K1 K2 K3 T5 B20 HMa HLg
  generalize World.drew w22 = Wd at hs0 k0 Ka Kb Kt ⊢
  refine wpAnyH_take (i := 0) (oi := { dst := some 21, op := Op.load 27 (Operand.tmp 13), type := 27, pos := "law.go:50", after := #[], guard := none }) (v := .agg #[.slice C2 m3 j4, .slice D5 p6 q7]) rfl (by kernel_rfl) (by kernel_rfl) (by kernel_rfl) (fun _ _ _ h => h) (Or.inl ⟨by rfl, fun W hW => by obtain ⟨hc1, hc2, _, _⟩ := blk_cells2 hW.1; go_simp⟩) hs0 ?_
  try dsimp only [Act.put]
  try simp only [List.setIfInBounds_toArray, List.set_cons_zero, List.set_cons_succ]
  refine wpAnyH_take (i := 1) (oi := { dst := some 22, op := Op.move (Operand.tmp 0), type := 3, pos := "law.go:50", after := #[], guard := none }) (v := .int .i64 n) rfl (by kernel_rfl) (by kernel_rfl) (by kernel_rfl) (fun _ _ _ h => h) (Or.inl ⟨by rfl, fun W hW => ?y2⟩) hs0 ?_
  case y2 => go_simp
  try dsimp only [Act.put]
  try simp only [List.setIfInBounds_toArray, List.set_cons_zero, List.set_cons_succ]
  refine wpAnyH_take (i := 2) (oi := { dst := some 23, op := Op.move (Operand.tmp 1), type := 3, pos := "law.go:50", after := #[], guard := none }) (v := .int .i64 m) rfl (by kernel_rfl) (by kernel_rfl) (by kernel_rfl) (fun _ _ _ h => h) (Or.inl ⟨by rfl, fun W hW => ?y3⟩) hs0 ?_
  case y3 => go_simp
  try dsimp only [Act.put]
  try simp only [List.setIfInBounds_toArray, List.set_cons_zero, List.set_cons_succ]
  refine wpAnyH_take (i := 4) (oi := { dst := some 25, op := Op.load 27 (Operand.tmp 14), type := 27, pos := "law.go:50", after := #[], guard := none }) (v := .agg #[.slice C13 m14 j15, .slice D16 p17 q18]) rfl (by kernel_rfl) (by kernel_rfl) (by kernel_rfl) (fun _ _ _ h => h) (Or.inl ⟨by rfl, fun W hW => by obtain ⟨hc1, hc2, _, _⟩ := blk_cells2 hW.2; go_simp⟩) hs0 ?_
  try dsimp only [Act.put]
  try simp only [List.setIfInBounds_toArray, List.set_cons_zero, List.set_cons_succ]
  refine wpAnyH_take (i := 5) (oi := { dst := some 26, op := Op.load 27 (Operand.tmp 13), type := 27, pos := "law.go:50", after := #[], guard := none }) (v := .agg #[.slice C2 m3 j4, .slice D5 p6 q7]) rfl (by kernel_rfl) (by kernel_rfl) (by kernel_rfl) (fun _ _ _ h => h) (Or.inl ⟨by rfl, fun W hW => by obtain ⟨hc1, hc2, _, _⟩ := blk_cells2 hW.1; go_simp⟩) hs0 ?_
  try dsimp only [Act.put]
  try simp only [List.setIfInBounds_toArray, List.set_cons_zero, List.set_cons_succ]
  refine wpAnyH_take (i := 6) (oi := { dst := some 27, op := Op.move (Operand.tmp 2), type := 3, pos := "law.go:50", after := #[], guard := none }) (v := .int .i64 how) rfl (by kernel_rfl) (by kernel_rfl) (by kernel_rfl) (fun _ _ _ h => h) (Or.inl ⟨by rfl, fun W hW => ?y6⟩) hs0 ?_
  case y6 => go_simp
  try dsimp only [Act.put]
  try simp only [List.setIfInBounds_toArray, List.set_cons_zero, List.set_cons_succ]
  refine wpAnyH_take (i := 7) (oi := { dst := some 28, op := Op.move (Operand.tmp 3), type := 3, pos := "law.go:50", after := #[], guard := none }) (v := .int .i64 by_) rfl (by kernel_rfl) (by kernel_rfl) (by kernel_rfl) (fun _ _ _ h => h) (Or.inl ⟨by rfl, fun W hW => ?y7⟩) hs0 ?_
  case y7 => go_simp
  try dsimp only [Act.put]
  try simp only [List.setIfInBounds_toArray, List.set_cons_zero, List.set_cons_succ]
  refine wpAnyH_take (i := 9) (oi := { dst := some 30, op := Op.load 27 (Operand.tmp 14), type := 27, pos := "law.go:50", after := #[], guard := none }) (v := .agg #[.slice C13 m14 j15, .slice D16 p17 q18]) rfl (by kernel_rfl) (by kernel_rfl) (by kernel_rfl) (fun _ _ _ h => h) (Or.inl ⟨by rfl, fun W hW => by obtain ⟨hc1, hc2, _, _⟩ := blk_cells2 hW.2; go_simp⟩) hs0 ?_
  try dsimp only [Act.put]
  try simp only [List.setIfInBounds_toArray, List.set_cons_zero, List.set_cons_succ]
  refine wpAnyH_take (i := 10) (oi := { dst := some 31, op := Op.move (Operand.tmp 3), type := 3, pos := "law.go:50", after := #[], guard := none }) (v := .int .i64 by_) rfl (by kernel_rfl) (by kernel_rfl) (by kernel_rfl) (fun _ _ _ h => h) (Or.inl ⟨by rfl, fun W hW => ?y9⟩) hs0 ?_
  case y9 => go_simp
  try dsimp only [Act.put]
  try simp only [List.setIfInBounds_toArray, List.set_cons_zero, List.set_cons_succ]
  refine wpAnyH_take (i := 11) (oi := { dst := some 32, op := Op.move (Operand.tmp 2), type := 3, pos := "law.go:50", after := #[], guard := none }) (v := .int .i64 how) rfl (by kernel_rfl) (by kernel_rfl) (by kernel_rfl) (fun _ _ _ h => h) (Or.inl ⟨by rfl, fun W hW => ?y10⟩) hs0 ?_
  case y10 => go_simp
  try dsimp only [Act.put]
  try simp only [List.setIfInBounds_toArray, List.set_cons_zero, List.set_cons_succ]
  refine wpAnyH_take (i := 13) (oi := { dst := some 34, op := Op.move (Operand.tmp 4), type := 22, pos := "law.go:50", after := #[], guard := none }) (v := .slice A5 n5 k5) rfl (by kernel_rfl) (by kernel_rfl) (by kernel_rfl) (fun _ _ _ h => h) (Or.inl ⟨by rfl, fun W hW => ?y11⟩) hs0 ?_
  case y11 => go_simp
  try dsimp only [Act.put]
  try simp only [List.setIfInBounds_toArray, List.set_cons_zero, List.set_cons_succ]
  refine wpAnyH_take (i := 14) (oi := { dst := some 35, op := Op.move (Operand.tmp 4), type := 22, pos := "law.go:50", after := #[], guard := none }) (v := .slice A5 n5 k5) rfl (by kernel_rfl) (by kernel_rfl) (by kernel_rfl) (fun _ _ _ h => h) (Or.inl ⟨by rfl, fun W hW => ?y12⟩) hs0 ?_
  case y12 => go_simp
  try dsimp only [Act.put]
  try simp only [List.setIfInBounds_toArray, List.set_cons_zero, List.set_cons_succ]
  refine wpAnyH_take (i := 15) (oi := { dst := some 36, op := Op.call { callee := Callee.builtin Builtin.len, args := #[Operand.tmp 35], argTypes := #[22] }, type := 3, pos := "law.go:50", after := #[{ on := 14, ground := Ground.data }], guard := none }) (v := .int .i64 (n5 : Int)) rfl (by kernel_rfl) (by kernel_rfl) (by kernel_rfl) (fun _ _ _ h => h) (Or.inl ⟨by rfl, fun W hW => ?y13⟩) hs0 ?_
  case y13 => go_simp
  try dsimp only [Act.put]
  try simp only [List.setIfInBounds_toArray, List.set_cons_zero, List.set_cons_succ]
  refine wpAnyH_take (i := 16) (oi := { dst := some 37, op := Op.call { callee := Callee.builtin Builtin.min, args := #[Operand.tmp 36, Operand.const (Value.int IntKind.i64 70)], argTypes := #[3, 3] }, type := 3, pos := "law.go:50", after := #[{ on := 15, ground := Ground.data }], guard := none }) (v := .int .i64 (m5 : Int)) rfl (by kernel_rfl) (by kernel_rfl) (by kernel_rfl) (fun _ _ _ h => h) (Or.inl ⟨by rfl, fun W hW => ?y14⟩) hs0 ?_
  case y14 => go_simp
  try dsimp only [Act.put]
  try simp only [List.setIfInBounds_toArray, List.set_cons_zero, List.set_cons_succ]
  refine wpAnyH_take (i := 17) (oi := { dst := some 38, op := Op.slice 22 (Operand.tmp 34) none (some (Operand.tmp 37)) none, type := 22, pos := "law.go:50", after := #[{ on := 13, ground := Ground.data }, { on := 16, ground := Ground.data }], guard := none }) (v := .slice A5 m5 k5) rfl (by kernel_rfl) (by kernel_rfl) (by kernel_rfl) (fun _ _ _ h => h) (Or.inl ⟨by rfl, fun W hW => ?y15⟩) hs0 ?_
  case y15 => go_simp
  try dsimp only [Act.put]
  try simp only [List.setIfInBounds_toArray, List.set_cons_zero, List.set_cons_succ]
  refine wpAnyH_take (i := 18) (oi := { dst := some 39, op := Op.move (Operand.tmp 5), type := 22, pos := "law.go:50", after := #[], guard := none }) (v := .slice A6 n6 k6) rfl (by kernel_rfl) (by kernel_rfl) (by kernel_rfl) (fun _ _ _ h => h) (Or.inl ⟨by rfl, fun W hW => ?y16⟩) hs0 ?_
  case y16 => go_simp
  try dsimp only [Act.put]
  try simp only [List.setIfInBounds_toArray, List.set_cons_zero, List.set_cons_succ]
  refine wpAnyH_take (i := 19) (oi := { dst := some 40, op := Op.move (Operand.tmp 5), type := 22, pos := "law.go:50", after := #[], guard := none }) (v := .slice A6 n6 k6) rfl (by kernel_rfl) (by kernel_rfl) (by kernel_rfl) (fun _ _ _ h => h) (Or.inl ⟨by rfl, fun W hW => ?y17⟩) hs0 ?_
  case y17 => go_simp
  try dsimp only [Act.put]
  try simp only [List.setIfInBounds_toArray, List.set_cons_zero, List.set_cons_succ]
  refine wpAnyH_take (i := 20) (oi := { dst := some 41, op := Op.call { callee := Callee.builtin Builtin.len, args := #[Operand.tmp 40], argTypes := #[22] }, type := 3, pos := "law.go:50", after := #[{ on := 19, ground := Ground.data }], guard := none }) (v := .int .i64 (n6 : Int)) rfl (by kernel_rfl) (by kernel_rfl) (by kernel_rfl) (fun _ _ _ h => h) (Or.inl ⟨by rfl, fun W hW => ?y18⟩) hs0 ?_
  case y18 => go_simp
  try dsimp only [Act.put]
  try simp only [List.setIfInBounds_toArray, List.set_cons_zero, List.set_cons_succ]
  refine wpAnyH_take (i := 21) (oi := { dst := some 42, op := Op.call { callee := Callee.builtin Builtin.min, args := #[Operand.tmp 41, Operand.const (Value.int IntKind.i64 70)], argTypes := #[3, 3] }, type := 3, pos := "law.go:50", after := #[{ on := 20, ground := Ground.data }], guard := none }) (v := .int .i64 (m6 : Int)) rfl (by kernel_rfl) (by kernel_rfl) (by kernel_rfl) (fun _ _ _ h => h) (Or.inl ⟨by rfl, fun W hW => ?y19⟩) hs0 ?_
  case y19 => go_simp
  try dsimp only [Act.put]
  try simp only [List.setIfInBounds_toArray, List.set_cons_zero, List.set_cons_succ]
  refine wpAnyH_take (i := 22) (oi := { dst := some 43, op := Op.slice 22 (Operand.tmp 39) none (some (Operand.tmp 42)) none, type := 22, pos := "law.go:50", after := #[{ on := 18, ground := Ground.data }, { on := 21, ground := Ground.data }], guard := none }) (v := .slice A6 m6 k6) rfl (by kernel_rfl) (by kernel_rfl) (by kernel_rfl) (fun _ _ _ h => h) (Or.inl ⟨by rfl, fun W hW => ?y20⟩) hs0 ?_
  case y20 => go_simp
  try dsimp only [Act.put]
  try simp only [List.setIfInBounds_toArray, List.set_cons_zero, List.set_cons_succ]
  refine wpAnyH_take (i := 23) (oi := { dst := some 44, op := Op.build 27 #[(0, Operand.tmp 38), (1, Operand.tmp 43)], type := 27, pos := "law.go:50", after := #[{ on := 17, ground := Ground.data }, { on := 22, ground := Ground.data }], guard := none }) (v := .agg #[.slice A5 m5 k5, .slice A6 m6 k6]) rfl (by kernel_rfl) (by kernel_rfl) (by kernel_rfl) (fun _ _ _ h => h) (Or.inl ⟨by rfl, fun W hW => ?y21⟩) hs0 ?_
  case y21 => go_simp
  try dsimp only [Act.put]
  try simp only [List.setIfInBounds_toArray, List.set_cons_zero, List.set_cons_succ]
  refine wpAnyH_take (i := 24) (oi := { dst := some 45, op := Op.build 27 #[], type := 27, pos := "law.go:50", after := #[], guard := none }) (v := .agg #[.slice none 0 0, .slice none 0 0]) rfl (by kernel_rfl) (by kernel_rfl) (by kernel_rfl) (fun _ _ _ h => h) (Or.inl ⟨by rfl, fun W hW => ?y22⟩) hs0 ?_
  case y22 => go_simp
  try dsimp only [Act.put]
  try simp only [List.setIfInBounds_toArray, List.set_cons_zero, List.set_cons_succ]
  refine wpAnyH_ready (rs := [3]) (by kernel_rfl) (by simp) ?_
  refine AllReadyH.cons (o := { dst := some 24, op := Op.call { callee := Callee.value (Operand.func 42), args := #[Operand.tmp 22, Operand.tmp 23], argTypes := #[3, 3] }, type := 27, pos := "law.go:50", after := #[{ on := 1, ground := Ground.data }, { on := 2, ground := Ground.data }], guard := none }) rfl (fun K hK => ?_) AllReadyH.nil
  rw [if_pos (by rfl)]
  go_simp
  refine (HPt.out _).mono ?_
  rintro e w23 ⟨x3, y3, u1, u2, rfl, hk, hv3, _, hb⟩
  have k30 := Lib.hid (below_step k0.out hb)
  have hs31 := And.intro (hs0.1.below hb hs0.1.lt) (hs0.2.below hb hs0.2.lt)
  have K32 := Lib.hid (Ka.out.below hb)
  have K33 := Lib.hid (Kb.out.below hb)
  have K34 := Lib.hid (Kt.out.below hb)
  obtain ⟨C24, m25, j26, e1⟩ := sl_form hk.s1
  obtain ⟨D27, p28, q29, e2⟩ := sl_form hk.s2
  subst e1 e2
  have K35 := Lib.hid hk
  clear hk hb
  go_wp2_with fail
  refine hK.out _ _ hs31 (fun _ => ?_)
  clear hK K
  try dsimp only [Act.put]
  try simp only [List.setIfInBounds_toArray, List.set_cons_zero, List.set_cons_succ]
  refine wpAnyH_ready (rs := [8]) (by kernel_rfl) (by simp) ?_
  refine AllReadyH.cons (o := { dst := some 29, op := Op.call { callee := Callee.value (Operand.func 43), args := #[Operand.tmp 26, Operand.tmp 27, Operand.tmp 28], argTypes := #[27, 3, 3] }, type := 27, pos := "law.go:50", after := #[{ on := 5, ground := Ground.data }, { on := 6, ground := Ground.data }, { on := 7, ground := Ground.data }, { on := 3, ground := Ground.chain }], guard := none }) rfl (fun K hK => ?_) AllReadyH.nil
  rw [if_pos (by rfl)]
  go_simp
  refine (HSp.out _ _ _ x1 y1 K32.out HV_a.out).mono ?_
  rintro e w36 ⟨u1, u2, r4, rfl, hk, hb⟩
  have k43 := Lib.hid (below_step k30.out hb)
  have hs44 := And.intro (hs31.1.below hb hs31.1.lt) (hs31.2.below hb hs31.2.lt)
  have K45 := Lib.hid (K32.out.below hb)
  have K46 := Lib.hid (K33.out.below hb)
  have K47 := Lib.hid (K34.out.below hb)
  have K48 := Lib.hid (K35.out.below hb)
  obtain ⟨C37, m38, j39, e1⟩ := sl_form hk.s1
  obtain ⟨D40, p41, q42, e2⟩ := sl_form hk.s2
  subst e1 e2
  have K49 := Lib.hid hk
  clear hk hb
  go_wp2_with fail
  refine hK.out _ _ hs44 (fun _ => ?_)
  clear hK K
  try dsimp only [Act.put]
  try simp only [List.setIfInBounds_toArray, List.set_cons_zero, List.set_cons_succ]
  refine wpAnyH_ready (rs := [12]) (by kernel_rfl) (by simp) ?_
  refine AllReadyH.cons (o := { dst := some 33, op := Op.call { callee := Callee.value (Operand.func 43), args := #[Operand.tmp 30, Operand.tmp 31, Operand.tmp 32], argTypes := #[27, 3, 3] }, type := 27, pos := "law.go:50", after := #[{ on := 9, ground := Ground.data }, { on := 10, ground := Ground.data }, { on := 11, ground := Ground.data }, { on := 8, ground := Ground.chain }], guard := none }) rfl (fun K hK => ?_) AllReadyH.nil
  rw [if_pos (by rfl)]
  go_simp
  refine (HSq.out _ _ _ x2 y2 K46.out HV_b.out).mono ?_
  rintro e w50 ⟨u1, u2, r5, rfl, hk, hb⟩
  have k57 := Lib.hid (below_step k43.out hb)
  have hs58 := And.intro (hs44.1.below hb hs44.1.lt) (hs44.2.below hb hs44.2.lt)
  have K59 := Lib.hid (K45.out.below hb)
  have K60 := Lib.hid (K46.out.below hb)
  have K61 := Lib.hid (K47.out.below hb)
  have K62 := Lib.hid (K48.out.below hb)
  have K63 := Lib.hid (K49.out.below hb)
  obtain ⟨C51, m52, j53, e1⟩ := sl_form hk.s1
  obtain ⟨D54, p55, q56, e2⟩ := sl_form hk.s2
  subst e1 e2
  have K64 := Lib.hid hk
  clear hk hb
  go_wp2_with fail
  refine hK.out _ _ hs58 (fun _ => ?_)
  clear hK K
  try dsimp only [Act.put]
  try simp only [List.setIfInBounds_toArray, List.set_cons_zero, List.set_cons_succ]
  refine wpAnyH_ready (rs := [25]) (by kernel_rfl) (by simp) ?_
  refine AllReadyH.cons (o := { dst := some 46, op := Op.buildSlice 23 7 #[(0, Operand.tmp 21), (1, Operand.tmp 24), (2, Operand.tmp 25), (3, Operand.tmp 29), (4, Operand.tmp 33), (5, Operand.tmp 44), (6, Operand.tmp 45)], type := 23, pos := "law.go:50", after := #[{ on := 0, ground := Ground.data }, { on := 3, ground := Ground.data }, { on := 4, ground := Ground.data }, { on := 8, ground := Ground.data }, { on := 12, ground := Ground.data }, { on := 23, ground := Ground.data }, { on := 24, ground := Ground.data }], guard := none }) rfl (fun K hK => ?_) AllReadyH.nil
  rw [if_pos (by rfl)]
  refine wp_bs rfl (by simp [Act.eval]) (bs7 C2 m3 j4 D5 p6 q7 C24 m25 j26 D27 p28 q29 C13 m14 j15 D16 p17 q18 C37 m38 j39 D40 p41 q42 C51 m52 j53 D54 p55 q56 A5 m5 k5 A6 m6 k6 none 0 0 none 0 0 w50) ?_
  have HR7 := Lib.hid (rls7 K59.out K62.out K60.out K63.out K64.out K61.out (rk_none w50))
  have hbt := below_al w50 (.cells #[.slice C2 m3 j4, .slice D5 p6 q7, .slice C24 m25 j26, .slice D27 p28 q29, .slice C13 m14 j15, .slice D16 p17 q18, .slice C37 m38 j39, .slice D40 p41 q42, .slice C51 m52 j53, .slice D54 p55 q56, .slice A5 m5 k5, .slice A6 m6 k6, .slice none 0 0, .slice none 0 0] 27)
  have k66 := Lib.hid (below_step k57.out hbt)
  have hs67 := And.intro (hs58.1.below hbt hs58.1.lt) (hs58.2.below hbt hs58.2.lt)
  clear hbt
  obtain ⟨u65, hW⟩ : ∃ W', w50.alloc (.cells #[.slice C2 m3 j4, .slice D5 p6 q7, .slice C24 m25 j26, .slice D27 p28 q29, .slice C13 m14 j15, .slice D16 p17 q18, .slice C37 m38 j39, .slice D40 p41 q42, .slice C51 m52 j53, .slice D54 p55 q56, .slice A5 m5 k5, .slice A6 m6 k6, .slice none 0 0, .slice none 0 0] 27) = W' := ⟨_, rfl⟩
  rw [hW] at HR7 k66 hs67 ⊢
  clear hW
  obtain ⟨g9, hg9⟩ : ∃ g, w50.heap.size = g := ⟨_, rfl⟩
  rw [hg9] at HR7 ⊢
  clear hg9
  refine hK.out _ _ hs67 (fun _ => ?_)
  clear hK K
  try dsimp only [Act.put]
  try simp only [List.setIfInBounds_toArray, List.set_cons_zero, List.set_cons_succ]
  refine wpAnyH_take (i := 26) (oi := { dst := some 12, op := Op.assign (Operand.tmp 46), type := 23, pos := "law.go:50", after := #[{ on := 25, ground := Ground.data }, { on := 12, ground := Ground.chain }, { on := 0, ground := Ground.phase }, { on := 1, ground := Ground.phase }, { on := 2, ground := Ground.phase }, { on := 3, ground := Ground.phase }, { on := 4, ground := Ground.phase }, { on := 5, ground := Ground.phase }, { on := 6, ground := Ground.phase }, { on := 7, ground := Ground.phase }, { on := 8, ground := Ground.phase }, { on := 9, ground := Ground.phase }, { on := 10, ground := Ground.phase }, { on := 11, ground := Ground.phase }, { on := 12, ground := Ground.phase }, { on := 13, ground := Ground.phase }, { on := 14, ground := Ground.phase }, { on := 15, ground := Ground.phase }, { on := 16, ground := Ground.phase }, { on := 17, ground := Ground.phase }, { on := 18, ground := Ground.phase }, { on := 19, ground := Ground.phase }, { on := 20, ground := Ground.phase }, { on := 21, ground := Ground.phase }, { on := 22, ground := Ground.phase }, { on := 23, ground := Ground.phase }, { on := 24, ground := Ground.phase }, { on := 25, ground := Ground.phase }], guard := none }) (v := .slice (some ⟨g9, 0, none⟩) 7 7) rfl (by kernel_rfl) (by kernel_rfl) (by kernel_rfl) (fun _ _ _ h => h) (Or.inl ⟨by rfl, fun W hW => ?y68⟩) hs67 ?_
  case y68 => go_simp
  try dsimp only [Act.put]
  try simp only [List.setIfInBounds_toArray, List.set_cons_zero, List.set_cons_succ]
  refine wpAnyH_done (by kernel_rfl) ?_ _
  try dsimp only [Act.put]
  try simp only [List.setIfInBounds_toArray, List.set_cons_zero, List.set_cons_succ]
  go_wp2_with fail
  go_ret
  exact ⟨_, _, rfl, rfl, HR7.out, k66.out⟩
end Go.Proofs.YtbfhilbagojdnaaGreat
namespace Go.Proofs.YtbfhilbagojdnaaGreat
open Go.RowKit Wr Go.Proofs.YtbfhilbagojdnaaGreat.Nm
set_option linter.unusedVariables false
set_option maxRecDepth 100000

theorem rls_cells {w : World} {v : Value} {L : List Rt} (h : Rls w v L) (hl : L.length = 7) : ∃ g o c, v = .slice (some ⟨g, o, none⟩) 7 c ∧ 7 ≤ c ∧ g < w.heap.size ∧ ∀ i, i < 7 → ∃ A1 n1 k1 A2 n2 k2 r, L[i]? = some r ∧ w.cell? ⟨g, o + i * 2, none⟩ = some (.slice A1 n1 k1) ∧ w.cell? ⟨g, o + i * 2 + 1, none⟩ = some (.slice A2 n2 k2) ∧ Rk w (.slice A1 n1 k1) (.slice A2 n2 k2) r := by
  obtain ⟨A, c, vs, e, hc, hn, hr, hlv, hk⟩ := h
  obtain ⟨g, o, rfl, hgB, hcell⟩ := hr (by intro e; have h1 := flat_len vs; rw [e] at h1; simp at h1; omega)
  refine ⟨g, o, c, by rw [e, hl], by omega, hgB, fun i hi => ?_⟩
  obtain ⟨r, hri⟩ : ∃ r, L[i]? = some r := ⟨L[i]'(by omega), List.getElem?_eq_getElem _⟩
  obtain ⟨⟨a, b⟩, hvi, hkr⟩ := hk i r hri
  obtain ⟨f1, f2⟩ := flat_at vs i _ hvi
  obtain ⟨A1, n1, k1, e1⟩ := sl_form hkr.s1
  obtain ⟨A2, n2, k2, e2⟩ := sl_form hkr.s2
  dsimp only at e1 e2 hkr f1 f2
  subst e1 e2
  exact ⟨A1, n1, k1, A2, n2, k2, r, hri, hcell _ _ f1, hcell _ _ f2, hkr⟩
end Go.Proofs.YtbfhilbagojdnaaGreat
