/-
  The reference: Copy; rows of a call's own.
  No condition but the lengths.
-/
import Derived.Test.YtbfhilbagojdnaaGr12
import Derived.Maps.AppendAt
namespace Go.Proofs.Ytbfhilbagojdnaa
open Go.RowKit Wr Go.Proofs.Ytbfhilbagojdnaa.Nm
set_option linter.unusedVariables false
set_option maxRecDepth 100000

/-- A slice that is built of given values. -/
theorem wp_bs {P : Program} {o : Oper} {a : Act} {w w' : World} {K : Act → World → Prop} {Q : Exit → Act → World → Prop} {T : TypeId} {n : Nat} {xs : Array (Nat × Operand)} {vs : Array (Nat × Value)} {v : Value} (ho : o.op = .buildSlice T n xs) (hv : (xs.map fun (i, x) => (i, a.eval x)) = vs) (hr : (Instr.buildSlice T n vs).run P w = .ok v w') (hK : K (a.put o.dst v) w') : o.wp P a w K Q := by
  have h : (execOp a.eval o).run P w = .ok (.value v) w' := by
    unfold execOp
    simp [ho, hv, hr, Result.andThen]
  unfold Oper.wp
  rw [h]
  exact hK
/-- A row of limbs of the call's own, in block g. -/
structure Ro (B : Nat) (W : World) (g n c : Nat) (l : List Nat) : Prop where
  o : W.ownsRow B 60 1 (.slice (some ⟨g, 0, none⟩) n c) n (Lc l)
  lt : g < W.heap.size
section
variable {B B' g g' n c : Nat} {W W' : World} {l : List Nat}
theorem Ro.ge (h : Ro B W g n c l) : B ≤ g := (h.o.lt g rfl).1
theorem Ro.new (h : B ≤ W.heap.size) : Ro B (W.alloc (.cells #[] 60)) W.heap.size 0 0 [] := ⟨World.ownsRow_lit W #[] 0 h (by unfold maxLen; omega) rfl, by simp⟩
theorem Ro.alloc (h : Ro B W g n c l) (o : Obj) : Ro B (W.alloc o) g n c l := ⟨h.o.alloc o, by have := h.lt; simp; omega⟩
theorem Ro.grown (h : Ro B W g n c l) (hg : W.grownBy W' (some g')) (hne : g ≠ g') : Ro B W' g n c l := ⟨h.o.kept hg (Or.inr (by simpa [Value.ownBlock] using hne)), Nat.lt_of_lt_of_le h.lt hg.size⟩
theorem Ro.put (h : Ro B W g n c l) (k : Nat) (u : Value) (hg : g' < B) : Ro B (W.setCell ⟨g', k, none⟩ u) g n c l := ⟨own_put_far h.o hg, by have := h.lt; simpa using this⟩
theorem Ro.base (h : Ro B W g n c l) (hb : B' ≤ B) : Ro B' W g n c l := ⟨own_mono h.o hb, h.lt⟩
theorem Ro.len (h : Ro B W g n c l) : l.length = n := own_len h.o
theorem Ro.below (h : Ro B W g n c l) (hb : Below W.heap.size W W') : Ro B W' g n c l := ⟨own_below h.o hb, Nat.lt_of_lt_of_le h.lt hb.size⟩
theorem Ro.sl (h : Ro B W g n c l) : Sl W (.slice (some ⟨g, 0, none⟩) n c) l := by
  have e := h.len
  have h2 := h.o
  subst e
  exact own_sl h2
end
/-- An append of limbs that can be read to an own row; where the new row lies. -/
theorem wp_app_ro {B : Nat} {w : World} {o : Oper} {a : Act} {K : Act → World → Prop} {Q : Exit → Act → World → Prop} (s x : Operand)
    (ho : o.op = .call { callee := .builtin .append, args := #[s, x], argTypes := #[22, 22] }) (g n c : Nat) (l : List Nat) (hs : a.eval s = .slice (some ⟨g, 0, none⟩) n c) (hown : Ro B w g n c l)
    (A : Option Addr) (m k : Nat) (news : List Nat) (hx : a.eval x = .slice A m k) (hsl : Sl w (.slice A m k) news) (hbytes : n + news.length ≤ 1073741824)
    (h : ∀ g' c' w', Ro B w' g' (n + m) c' (l ++ news) → w.grownBy w' (some g) → (g' = g ∨ g' = w.heap.size) → K (a.put o.dst (.slice (some ⟨g', 0, none⟩) (n + m) c')) w') : o.wp Try.prog a w K Q := by
  obtain ⟨A', k', e, hk, hnil, hr⟩ := hsl
  injection e with e1 e2 e3
  subst e1 e2 e3
  obtain ⟨i0, hi0, hz0, hz1, hz2⟩ := info_parts infoL
  have hbase : B ≤ w.heap.size := by have := hown.ge; have := hown.lt; omega
  have fin : ∀ v' w', w'.ownsRow B 60 1 v' (n + news.length) (Lc l ++ Lc news) → w.grownBy w' (some g) → (v'.ownBlock = some g ∨ v'.ownBlock = some w.heap.size) → K (a.put o.dst v') w' := by
    intro v' w' h1 h2 h3
    rw [← Lc_append] at h1
    rcases h1.2 with ⟨e, _⟩ | ⟨g', cap, cur, e, hb, hg, _⟩
    · subst e; simp [Value.ownBlock] at h3
    · subst e
      exact h g' cap w' ⟨h1, (Array.getElem?_eq_some_iff.1 hg).1⟩ h2 (by simpa [Value.ownBlock] using h3)
  by_cases hne : Lc news = []
  · have hm : news.length = 0 := by rw [← Lc_len, hne]; rfl
    cases A with
    | none =>
      have hc := hnil rfl
      subst hc
      rw [hm] at hx
      refine Lib.wp_append_run w s x 22 22 ho _ _ hs hx _ w (run_append_owned_none w B 22 _ 60 i0 1 Try.underlying22 hi0 _ n _ hown.o) (fin _ w ?_ (World.grownBy.refl _ _) (Or.inl rfl))
      rw [hne, List.append_nil, hm, Nat.add_zero]; exact hown.o
    | some ad =>
      obtain ⟨v', w', hrun, h2, h3, _, h5⟩ := run_append_own_at (P := Try.prog) w B 22 o.type 60 i0 (.int .u32 0) 1 4 Try.underlying22 hi0 hz0 hz1 hz2 rfl (by decide) _ n _ hown.o ad news.length k (Lc news) (by rw [Lc_len, Nat.mul_one]) (fun j u hu => by rw [hne] at hu; simp at hu) (Lc_one _) (by unfold maxLen; omega) (by omega) hbase
      exact Lib.wp_append_run w s x 22 22 ho _ _ hs hx v' w' hrun (fin v' w' h2 h3 h5)
  · obtain ⟨g2, off, rfl, hg2, hcell⟩ := hr hne
    obtain ⟨v', w', hrun, h2, h3, _, h5⟩ := run_append_own_at (P := Try.prog) w B 22 o.type 60 i0 (.int .u32 0) 1 4 Try.underlying22 hi0 hz0 hz1 hz2 rfl (by decide) _ n _ hown.o ⟨g2, off, none⟩ news.length k (Lc news) (by rw [Lc_len, Nat.mul_one]) (fun j u hu => by rw [Addr.add_lit]; exact hcell j u hu) (Lc_one _) (by unfold maxLen; omega) (by omega) hbase
    exact Lib.wp_append_run w s x 22 22 ho _ _ hs hx v' w' hrun (fin v' w' h2 h3 h5)
theorem wpList_app_ro {B : Nat} {w : World} {ops : Array Oper} {rest : List Oper} {o : Oper} {a : Act} {Q : Exit → Act → World → Prop} (hgd : o.guard = none) (s x : Operand)
    (ho : o.op = .call { callee := .builtin .append, args := #[s, x], argTypes := #[22, 22] }) (g n c : Nat) (l : List Nat) (hs : a.eval s = .slice (some ⟨g, 0, none⟩) n c) (hown : Ro B w g n c l)
    (A : Option Addr) (m k : Nat) (news : List Nat) (hx : a.eval x = .slice A m k) (hsl : Sl w (.slice A m k) news) (hbytes : n + news.length ≤ 1073741824)
    (h : ∀ g' c' w', Ro B w' g' (n + m) c' (l ++ news) → w.grownBy w' (some g) → (g' = g ∨ g' = w.heap.size) → wpList Try.prog ops Q rest (a.put o.dst (.slice (some ⟨g', 0, none⟩) (n + m) c')) w') : wpList Try.prog ops Q (o :: rest) a w :=
  wpList_plain hgd fun _ hK => wp_app_ro s x ho g n c l hs hown A m k news hx hsl hbytes fun g' c' w' h1 h2 h3 => hK _ _ (h g' c' w' h1 h2 h3)
/-- An empty row of its own is filled. -/
theorem wp_fill {B : Nat} {w : World} {o : Oper} {a : Act} {K : Act → World → Prop} {Q : Exit → Act → World → Prop} (s x : Operand)
    (ho : o.op = .call { callee := .builtin .append, args := #[s, x], argTypes := #[22, 22] }) (g c : Nat) (hs : a.eval s = .slice (some ⟨g, 0, none⟩) 0 c) (hown : Ro B w g 0 c [])
    (A : Option Addr) (m k : Nat) (news : List Nat) (hx : a.eval x = .slice A m k) (hsl : Sl w (.slice A m k) news) (hbytes : news.length ≤ 1000000)
    (h : ∀ g' c' w', Ro B w' g' m c' news → w.grownBy w' (some g) → (g' = g ∨ g' = w.heap.size) → K (a.put o.dst (.slice (some ⟨g', 0, none⟩) m c')) w') : o.wp Try.prog a w K Q :=
  wp_app_ro s x ho g 0 c [] hs hown A m k news hx hsl (by omega) fun g' c' w' h1 h2 h3 => by
    rw [Nat.zero_add, List.nil_append] at h1
    rw [Nat.zero_add]
    exact h g' c' w' h1 h2 h3
def CyP (w : World) (l1 l2 : List Nat) (e : Ending) (w' : World) : Prop := ∃ g1 c1 g2 c2, e = .returned (.agg #[.slice (some ⟨g1, 0, none⟩) l1.length c1, .slice (some ⟨g2, 0, none⟩) l2.length c2]) ∧ Ro w.heap.size w' g1 l1.length c1 l1 ∧ Ro w.heap.size w' g2 l2.length c2 l2 ∧ g1 ≠ g2 ∧ Below w.heap.size w w'
set_option maxHeartbeats 4000000 in
theorem copy_any {v1 v2 : Value} {l1 l2 : List Nat} {w : World} (h1 : Sl w v1 l1) (h2 : Sl w v2 l2) (hl1 : l1.length ≤ 1000000) (hl2 : l2.length ≤ 1000000) : Calls Try.prog 71 #[.agg #[v1, v2]] w (CyP w l1 l2) := by
  have S1 := Lib.hid h1; have S2 := Lib.hid h2; have HL1 := Lib.hid hl1; have HL2 := Lib.hid hl2
  obtain ⟨A1, k1, rfl, _, _, _⟩ := h1
  obtain ⟨A2, k2, rfl, _, _, _⟩ := h2
  obtain ⟨n1, hn1⟩ : ∃ n, n = l1.length := ⟨_, rfl⟩
  obtain ⟨n2, hn2⟩ : ∃ n, n = l2.length := ⟨_, rfl⟩
  rw [← hn1, ← hn2]
  rw [← hn1] at S1
  rw [← hn2] at S2
  have HN1 := Lib.hid hn1; have HN2 := Lib.hid hn2
  obtain ⟨x1, x2, x3⟩ := boxes2 w (.slice A1 n1 k1) (.slice A2 n2 k2) (.slice none 0 0) (.slice none 0 0)
  have HX1 := Lib.hid x1; have HX2 := Lib.hid x2; have HX3 := Lib.hid x3
  clear x1 x2 x3 hl1 hl2 hn1 hn2
  go_enter Try.func71, Try.ntmps71
  go_upto_region 1 with (fail)
  obtain ⟨W0, hW0⟩ : ∃ W, ((w.alloc (.cells #[.slice A1 n1 k1, .slice A2 n2 k2] 28)).alloc (.cells #[.slice none 0 0, .slice none 0 0] 28)) = W := ⟨_, rfl⟩
  rw [hW0] at HX1 HX2 HX3 ⊢
  clear hW0
  refine wp_region_held (S := fun W => Blk W w.heap.size 28 [.slice A1 n1 k1, .slice A2 n2 k2]) (by kernel_rfl) ?_
  change wpAnyH _ _ _ _ _ _ _ _ (World.drew W0)
  have hs0 : Blk (World.drew W0) w.heap.size 28 [.slice A1 n1 k1, .slice A2 n2 k2] := HX1.out
  have k0 : Hid (Below w.heap.size w (World.drew W0)) := Lib.hid (below_drewN HX3.out 1)
  have R0 : Hid (Blk (World.drew W0) (w.heap.size + 1) 28 [.slice none 0 0, .slice none 0 0]) := HX2
  clear HX1 HX2 HX3
  generalize World.drew W0 = Wd at hs0 k0 R0 ⊢
  refine wpAnyH_take (i := 1) (oi := { dst := some 4, op := Op.fieldAddr 28 (Operand.tmp 1) 0, type := 0, pos := "ref.go:505", after := #[], guard := none }) (v := .pointer (some ⟨w.heap.size, 0, none⟩)) rfl (by kernel_rfl) (by kernel_rfl) (by kernel_rfl) (fun _ _ _ h => h) (Or.inl ⟨by rfl, fun W hW => ?y1⟩) hs0 ?_
  case y1 => go_simp
  try dsimp only [Act.put]
  try simp only [List.setIfInBounds_toArray, List.set_cons_zero, List.set_cons_succ]
  refine wpAnyH_take (i := 2) (oi := { dst := some 5, op := Op.load 22 (Operand.tmp 4), type := 22, pos := "ref.go:505", after := #[{ on := 1, ground := Ground.data }], guard := none }) (v := .slice A1 n1 k1) rfl (by kernel_rfl) (by kernel_rfl) (by kernel_rfl) (fun _ _ _ h => h) (Or.inl ⟨by rfl, fun W hW => by have hcl : W.cell? ⟨w.heap.size, 0, none⟩ = some (.slice A1 n1 k1) := (Blk.cell hW 0).trans rfl; go_simp⟩) hs0 ?_
  try dsimp only [Act.put]
  try simp only [List.setIfInBounds_toArray, List.set_cons_zero, List.set_cons_succ]
  refine wpAnyH_take (i := 5) (oi := { dst := some 8, op := Op.fieldAddr 28 (Operand.tmp 1) 1, type := 0, pos := "ref.go:505", after := #[], guard := none }) (v := .pointer (some ⟨w.heap.size, 1, none⟩)) rfl (by kernel_rfl) (by kernel_rfl) (by kernel_rfl) (fun _ _ _ h => h) (Or.inl ⟨by rfl, fun W hW => ?y3⟩) hs0 ?_
  case y3 => go_simp
  try dsimp only [Act.put]
  try simp only [List.setIfInBounds_toArray, List.set_cons_zero, List.set_cons_succ]
  refine wpAnyH_take (i := 6) (oi := { dst := some 9, op := Op.load 22 (Operand.tmp 8), type := 22, pos := "ref.go:505", after := #[{ on := 5, ground := Ground.data }], guard := none }) (v := .slice A2 n2 k2) rfl (by kernel_rfl) (by kernel_rfl) (by kernel_rfl) (fun _ _ _ h => h) (Or.inl ⟨by rfl, fun W hW => by have hcl : W.cell? ⟨w.heap.size, 1, none⟩ = some (.slice A2 n2 k2) := (Blk.cell hW 1).trans rfl; go_simp⟩) hs0 ?_
  try dsimp only [Act.put]
  try simp only [List.setIfInBounds_toArray, List.set_cons_zero, List.set_cons_succ]
  refine wpAnyH_ready (rs := [0, 4]) (by kernel_rfl) (by simp) ?_
  refine AllReadyH.cons (o := { dst := some 3, op := Op.buildSlice 22 0 #[], type := 22, pos := "ref.go:505", after := #[], guard := none }) rfl (fun K hK => ?_) (AllReadyH.cons (o := { dst := some 7, op := Op.buildSlice 22 0 #[], type := 22, pos := "ref.go:505", after := #[], guard := none }) rfl (fun K hK => ?_) AllReadyH.nil)
  · rw [if_pos (by rfl)]
    refine wp_bs rfl (by simp) (bs0 Wd) ?_
    have hbt := (Below.refl Wd.heap.size Wd).alloc (Nat.le_refl _) (.cells #[] 60)
    have k7 := Lib.hid (below_step k0.out hbt)
    have hs8 := hs0.below hbt hs0.lt
    have R9 := Lib.hid (R0.out.below hbt R0.out.lt)
    have O10 := Lib.hid (Ro.new (B := w.heap.size + 2) (W := Wd) (by have := R0.out.lt; omega))
    obtain ⟨g6, hgq⟩ : ∃ g, Wd.heap.size = g := ⟨_, rfl⟩
    obtain ⟨u5, hW⟩ : ∃ W', Wd.alloc (.cells #[] 60) = W' := ⟨_, rfl⟩
    rw [hW] at k7 hs8 R9 O10 ⊢
    rw [hgq] at O10 ⊢
    clear hbt hgq hW
    refine hK.out _ _ hs8 (fun _ => ?_)
    clear hK K
    try dsimp only [Act.put]
    try simp only [List.setIfInBounds_toArray, List.set_cons_zero, List.set_cons_succ]
    refine wpAnyH_ready (rs := [3, 4]) (by kernel_rfl) (by simp) ?_
    refine AllReadyH.cons (o := { dst := some 6, op := Op.call { callee := Callee.builtin Builtin.append, args := #[Operand.tmp 3, Operand.tmp 5], argTypes := #[22, 22] }, type := 22, pos := "ref.go:505", after := #[{ on := 0, ground := Ground.data }, { on := 2, ground := Ground.data }], guard := none }) rfl (fun K hK => ?_) (AllReadyH.cons (o := { dst := some 7, op := Op.buildSlice 22 0 #[], type := 22, pos := "ref.go:505", after := #[], guard := none }) rfl (fun K hK => ?_) AllReadyH.nil)
    · rw [if_pos (by rfl)]
      refine wp_fill (.tmp 3) (.tmp 5) rfl g6 0 rfl O10.out A1 n1 k1 l1 rfl (S1.out.below k7.out) HL1.out ?_
      intro g12 c13 w11 ho hg hat
      have k14 := Lib.hid (k7.out.grown hg k7.out.size (fun q e => by cases e; have := O10.out.ge; omega))
      have hs15 := hs8.grown hg (by have := O10.out.ge; intro e; injection e with e; omega)
      have R16 := Lib.hid (R9.out.grown hg (by have := O10.out.ge; intro e; injection e with e; omega))
      have O17 := Lib.hid ho
      clear ho hg hat
      refine hK.out _ _ hs15 (fun _ => ?_)
      clear hK K
      try dsimp only [Act.put]
      try simp only [List.setIfInBounds_toArray, List.set_cons_zero, List.set_cons_succ]
      refine wpAnyH_ready (rs := [4]) (by kernel_rfl) (by simp) ?_
      refine AllReadyH.cons (o := { dst := some 7, op := Op.buildSlice 22 0 #[], type := 22, pos := "ref.go:505", after := #[], guard := none }) rfl (fun K hK => ?_) AllReadyH.nil
      rw [if_pos (by rfl)]
      refine wp_bs rfl (by simp) (bs0 w11) ?_
      have hbt := (Below.refl w11.heap.size w11).alloc (Nat.le_refl _) (.cells #[] 60)
      have k20 := Lib.hid (below_step k14.out hbt)
      have hs21 := hs15.below hbt hs15.lt
      have R22 := Lib.hid (R16.out.below hbt R16.out.lt)
      have O23 := Lib.hid (Ro.new (B := w.heap.size + 2) (W := w11) (by have := R16.out.lt; omega))
      have O24 := Lib.hid (O17.out.alloc (.cells #[] 60))
      have NE25 := Lib.hid (show g12 ≠ w11.heap.size from Nat.ne_of_lt O17.out.lt)
      obtain ⟨g19, hgq⟩ : ∃ g, w11.heap.size = g := ⟨_, rfl⟩
      obtain ⟨u18, hW⟩ : ∃ W', w11.alloc (.cells #[] 60) = W' := ⟨_, rfl⟩
      rw [hW] at k20 hs21 R22 O23 O24 ⊢
      rw [hgq] at O23 NE25 ⊢
      clear hbt hgq hW
      refine hK.out _ _ hs21 (fun _ => ?_)
      clear hK K
      try dsimp only [Act.put]
      try simp only [List.setIfInBounds_toArray, List.set_cons_zero, List.set_cons_succ]
      refine wpAnyH_ready (rs := [7]) (by kernel_rfl) (by simp) ?_
      refine AllReadyH.cons (o := { dst := some 10, op := Op.call { callee := Callee.builtin Builtin.append, args := #[Operand.tmp 7, Operand.tmp 9], argTypes := #[22, 22] }, type := 22, pos := "ref.go:505", after := #[{ on := 4, ground := Ground.data }, { on := 6, ground := Ground.data }, { on := 3, ground := Ground.chain }], guard := none }) rfl (fun K hK => ?_) AllReadyH.nil
      rw [if_pos (by rfl)]
      refine wp_fill (.tmp 7) (.tmp 9) rfl g19 0 rfl O23.out A2 n2 k2 l2 rfl (S2.out.below k20.out) HL2.out ?_
      intro g27 c28 w26 ho hg hat
      have k29 := Lib.hid (k20.out.grown hg k20.out.size (fun q e => by cases e; have := O23.out.ge; omega))
      have hs30 := hs21.grown hg (by have := O23.out.ge; intro e; injection e with e; omega)
      have R31 := Lib.hid (R22.out.grown hg (by have := O23.out.ge; intro e; injection e with e; omega))
      have O32 := Lib.hid ho
      have O33 := Lib.hid (O24.out.grown hg NE25.out)
      have NE34 := Lib.hid (show g12 ≠ g27 from by rcases hat with e | e <;> rw [e]; exact NE25.out; exact Nat.ne_of_lt O24.out.lt)
      clear ho hg hat
      refine hK.out _ _ hs30 (fun _ => ?_)
      clear hK K
      try dsimp only [Act.put]
      try simp only [List.setIfInBounds_toArray, List.set_cons_zero, List.set_cons_succ]
      refine wpAnyH_take (i := 8) (oi := { dst := some 11, op := Op.build 28 #[(0, Operand.tmp 6), (1, Operand.tmp 10)], type := 28, pos := "ref.go:505", after := #[{ on := 3, ground := Ground.data }, { on := 7, ground := Ground.data }], guard := none }) (v := .agg #[(.slice (some ⟨g12, 0, none⟩) n1 c13), (.slice (some ⟨g27, 0, none⟩) n2 c28)]) rfl (by kernel_rfl) (by kernel_rfl) (by kernel_rfl) (fun _ _ _ h => h) (Or.inl ⟨by rfl, fun W hW => ?y35⟩) hs30 ?_
      case y35 => go_simp
      try dsimp only [Act.put]
      try simp only [List.setIfInBounds_toArray, List.set_cons_zero, List.set_cons_succ]
      refine wpAnyH_ready (rs := [9]) (by kernel_rfl) (by simp) ?_
      refine AllReadyH.cons (o := { dst := none, op := Op.store 28 (Operand.tmp 2) (Operand.tmp 11), type := 0, pos := "ref.go:505", after := #[{ on := 8, ground := Ground.data }, { on := 7, ground := Ground.chain }, { on := 0, ground := Ground.phase }, { on := 1, ground := Ground.phase }, { on := 2, ground := Ground.phase }, { on := 3, ground := Ground.phase }, { on := 4, ground := Ground.phase }, { on := 5, ground := Ground.phase }, { on := 6, ground := Ground.phase }, { on := 7, ground := Ground.phase }, { on := 8, ground := Ground.phase }], guard := none }) rfl (fun K hK => ?_) AllReadyH.nil
      rw [if_pos (by rfl)]
      obtain ⟨hc1, hc2, hf1, hf2⟩ := blk_cells2 R31.out
      go_simp
      refine hK.out _ _ ((hs30.far (p := ⟨w.heap.size + 1, 0, none⟩) (by simp) _).far (p := ⟨w.heap.size + 1, 1, none⟩) (by simp) _) (fun _ => ?_)
      clear hK K
      try dsimp only [Act.put]
      try simp only [List.setIfInBounds_toArray, List.set_cons_zero, List.set_cons_succ]
      refine wpAnyH_done (by kernel_rfl) ?_ _
      try dsimp only [Act.put]
      try simp only [List.setIfInBounds_toArray, List.set_cons_zero, List.set_cons_succ]
      have hbk := ((R31.out.put 0 (.slice (some ⟨g12, 0, none⟩) n1 c13)).put 1 (.slice (some ⟨g27, 0, none⟩) n2 c28))
      have hbl := ((k29.out.setCell (p := ⟨w.heap.size + 1, 0, none⟩) (Nat.le_succ _) (.slice (some ⟨g12, 0, none⟩) n1 c13)).setCell (p := ⟨w.heap.size + 1, 1, none⟩) (Nat.le_succ _) (.slice (some ⟨g27, 0, none⟩) n2 c28))
      have hr1 := ((O33.out.put (g' := w.heap.size + 1) 0 (.slice (some ⟨g12, 0, none⟩) n1 c13) (by omega)).put (g' := w.heap.size + 1) 1 (.slice (some ⟨g27, 0, none⟩) n2 c28) (by omega)).base (B' := w.heap.size) (by omega)
      have hr2 := ((O32.out.put (g' := w.heap.size + 1) 0 (.slice (some ⟨g12, 0, none⟩) n1 c13) (by omega)).put (g' := w.heap.size + 1) 1 (.slice (some ⟨g27, 0, none⟩) n2 c28) (by omega)).base (B' := w.heap.size) (by omega)
      go_wp2_with fail
      refine bodyPost_ret (v := .agg #[(.slice (some ⟨g12, 0, none⟩) n1 c13), (.slice (some ⟨g27, 0, none⟩) n2 c28)]) ?_ rfl ⟨g12, c13, g27, c28, by rw [← HN1.out, ← HN2.out], by rw [← HN1.out]; exact hr1, by rw [← HN2.out]; exact hr2, NE34.out, hbl⟩
      have hr := run_loadVar_at (P := Try.prog) _ ⟨w.heap.size + 1, 0, none⟩ 28 [(.slice (some ⟨g12, 0, none⟩) n1 c13), (.slice (some ⟨g27, 0, none⟩) n2 c28)] _ hbk.at Try.underlying28 rfl size28
      simp [results, Try.results71, asAddr, hr]
    · rw [if_pos (by rfl)]
      refine wp_bs rfl (by simp) (bs0 u5) ?_
      have hbt := (Below.refl u5.heap.size u5).alloc (Nat.le_refl _) (.cells #[] 60)
      have k38 := Lib.hid (below_step k7.out hbt)
      have hs39 := hs8.below hbt hs8.lt
      have R40 := Lib.hid (R9.out.below hbt R9.out.lt)
      have O41 := Lib.hid (Ro.new (B := w.heap.size + 2) (W := u5) (by have := R9.out.lt; omega))
      have O42 := Lib.hid (O10.out.alloc (.cells #[] 60))
      have NE43 := Lib.hid (show g6 ≠ u5.heap.size from Nat.ne_of_lt O10.out.lt)
      obtain ⟨g37, hgq⟩ : ∃ g, u5.heap.size = g := ⟨_, rfl⟩
      obtain ⟨u36, hW⟩ : ∃ W', u5.alloc (.cells #[] 60) = W' := ⟨_, rfl⟩
      rw [hW] at k38 hs39 R40 O41 O42 ⊢
      rw [hgq] at O41 NE43 ⊢
      clear hbt hgq hW
      refine hK.out _ _ hs39 (fun _ => ?_)
      clear hK K
      try dsimp only [Act.put]
      try simp only [List.setIfInBounds_toArray, List.set_cons_zero, List.set_cons_succ]
      refine wpAnyH_ready (rs := [3]) (by kernel_rfl) (by simp) ?_
      refine AllReadyH.cons (o := { dst := some 6, op := Op.call { callee := Callee.builtin Builtin.append, args := #[Operand.tmp 3, Operand.tmp 5], argTypes := #[22, 22] }, type := 22, pos := "ref.go:505", after := #[{ on := 0, ground := Ground.data }, { on := 2, ground := Ground.data }], guard := none }) rfl (fun K hK => ?_) AllReadyH.nil
      rw [if_pos (by rfl)]
      refine wp_fill (.tmp 3) (.tmp 5) rfl g6 0 rfl O42.out A1 n1 k1 l1 rfl (S1.out.below k38.out) HL1.out ?_
      intro g45 c46 w44 ho hg hat
      have k47 := Lib.hid (k38.out.grown hg k38.out.size (fun q e => by cases e; have := O42.out.ge; omega))
      have hs48 := hs39.grown hg (by have := O42.out.ge; intro e; injection e with e; omega)
      have R49 := Lib.hid (R40.out.grown hg (by have := O42.out.ge; intro e; injection e with e; omega))
      have O50 := Lib.hid ho
      have O51 := Lib.hid (O41.out.grown hg (Ne.symm NE43.out))
      have NE52 := Lib.hid (show g45 ≠ g37 from by rcases hat with e | e <;> rw [e]; exact NE43.out; exact Nat.ne_of_gt O41.out.lt)
      clear ho hg hat
      refine hK.out _ _ hs48 (fun _ => ?_)
      clear hK K
      try dsimp only [Act.put]
      try simp only [List.setIfInBounds_toArray, List.set_cons_zero, List.set_cons_succ]
      refine wpAnyH_ready (rs := [7]) (by kernel_rfl) (by simp) ?_
      refine AllReadyH.cons (o := { dst := some 10, op := Op.call { callee := Callee.builtin Builtin.append, args := #[Operand.tmp 7, Operand.tmp 9], argTypes := #[22, 22] }, type := 22, pos := "ref.go:505", after := #[{ on := 4, ground := Ground.data }, { on := 6, ground := Ground.data }, { on := 3, ground := Ground.chain }], guard := none }) rfl (fun K hK => ?_) AllReadyH.nil
      rw [if_pos (by rfl)]
      refine wp_fill (.tmp 7) (.tmp 9) rfl g37 0 rfl O51.out A2 n2 k2 l2 rfl (S2.out.below k47.out) HL2.out ?_
      intro g54 c55 w53 ho hg hat
      have k56 := Lib.hid (k47.out.grown hg k47.out.size (fun q e => by cases e; have := O51.out.ge; omega))
      have hs57 := hs48.grown hg (by have := O51.out.ge; intro e; injection e with e; omega)
      have R58 := Lib.hid (R49.out.grown hg (by have := O51.out.ge; intro e; injection e with e; omega))
      have O59 := Lib.hid ho
      have O60 := Lib.hid (O50.out.grown hg NE52.out)
      have NE61 := Lib.hid (show g45 ≠ g54 from by rcases hat with e | e <;> rw [e]; exact NE52.out; exact Nat.ne_of_lt O50.out.lt)
      clear ho hg hat
      refine hK.out _ _ hs57 (fun _ => ?_)
      clear hK K
      try dsimp only [Act.put]
      try simp only [List.setIfInBounds_toArray, List.set_cons_zero, List.set_cons_succ]
      refine wpAnyH_take (i := 8) (oi := { dst := some 11, op := Op.build 28 #[(0, Operand.tmp 6), (1, Operand.tmp 10)], type := 28, pos := "ref.go:505", after := #[{ on := 3, ground := Ground.data }, { on := 7, ground := Ground.data }], guard := none }) (v := .agg #[(.slice (some ⟨g45, 0, none⟩) n1 c46), (.slice (some ⟨g54, 0, none⟩) n2 c55)]) rfl (by kernel_rfl) (by kernel_rfl) (by kernel_rfl) (fun _ _ _ h => h) (Or.inl ⟨by rfl, fun W hW => ?y62⟩) hs57 ?_
      case y62 => go_simp
      try dsimp only [Act.put]
      try simp only [List.setIfInBounds_toArray, List.set_cons_zero, List.set_cons_succ]
      refine wpAnyH_ready (rs := [9]) (by kernel_rfl) (by simp) ?_
      refine AllReadyH.cons (o := { dst := none, op := Op.store 28 (Operand.tmp 2) (Operand.tmp 11), type := 0, pos := "ref.go:505", after := #[{ on := 8, ground := Ground.data }, { on := 7, ground := Ground.chain }, { on := 0, ground := Ground.phase }, { on := 1, ground := Ground.phase }, { on := 2, ground := Ground.phase }, { on := 3, ground := Ground.phase }, { on := 4, ground := Ground.phase }, { on := 5, ground := Ground.phase }, { on := 6, ground := Ground.phase }, { on := 7, ground := Ground.phase }, { on := 8, ground := Ground.phase }], guard := none }) rfl (fun K hK => ?_) AllReadyH.nil
      rw [if_pos (by rfl)]
      obtain ⟨hc1, hc2, hf1, hf2⟩ := blk_cells2 R58.out
      go_simp
      refine hK.out _ _ ((hs57.far (p := ⟨w.heap.size + 1, 0, none⟩) (by simp) _).far (p := ⟨w.heap.size + 1, 1, none⟩) (by simp) _) (fun _ => ?_)
      clear hK K
      try dsimp only [Act.put]
      try simp only [List.setIfInBounds_toArray, List.set_cons_zero, List.set_cons_succ]
      refine wpAnyH_done (by kernel_rfl) ?_ _
      try dsimp only [Act.put]
      try simp only [List.setIfInBounds_toArray, List.set_cons_zero, List.set_cons_succ]
      have hbk := ((R58.out.put 0 (.slice (some ⟨g45, 0, none⟩) n1 c46)).put 1 (.slice (some ⟨g54, 0, none⟩) n2 c55))
      have hbl := ((k56.out.setCell (p := ⟨w.heap.size + 1, 0, none⟩) (Nat.le_succ _) (.slice (some ⟨g45, 0, none⟩) n1 c46)).setCell (p := ⟨w.heap.size + 1, 1, none⟩) (Nat.le_succ _) (.slice (some ⟨g54, 0, none⟩) n2 c55))
      have hr1 := ((O60.out.put (g' := w.heap.size + 1) 0 (.slice (some ⟨g45, 0, none⟩) n1 c46) (by omega)).put (g' := w.heap.size + 1) 1 (.slice (some ⟨g54, 0, none⟩) n2 c55) (by omega)).base (B' := w.heap.size) (by omega)
      have hr2 := ((O59.out.put (g' := w.heap.size + 1) 0 (.slice (some ⟨g45, 0, none⟩) n1 c46) (by omega)).put (g' := w.heap.size + 1) 1 (.slice (some ⟨g54, 0, none⟩) n2 c55) (by omega)).base (B' := w.heap.size) (by omega)
      go_wp2_with fail
      refine bodyPost_ret (v := .agg #[(.slice (some ⟨g45, 0, none⟩) n1 c46), (.slice (some ⟨g54, 0, none⟩) n2 c55)]) ?_ rfl ⟨g45, c46, g54, c55, by rw [← HN1.out, ← HN2.out], by rw [← HN1.out]; exact hr1, by rw [← HN2.out]; exact hr2, NE61.out, hbl⟩
      have hr := run_loadVar_at (P := Try.prog) _ ⟨w.heap.size + 1, 0, none⟩ 28 [(.slice (some ⟨g45, 0, none⟩) n1 c46), (.slice (some ⟨g54, 0, none⟩) n2 c55)] _ hbk.at Try.underlying28 rfl size28
      simp [results, Try.results71, asAddr, hr]
  · rw [if_pos (by rfl)]
    refine wp_bs rfl (by simp) (bs0 Wd) ?_
    have hbt := (Below.refl Wd.heap.size Wd).alloc (Nat.le_refl _) (.cells #[] 60)
    have k65 := Lib.hid (below_step k0.out hbt)
    have hs66 := hs0.below hbt hs0.lt
    have R67 := Lib.hid (R0.out.below hbt R0.out.lt)
    have O68 := Lib.hid (Ro.new (B := w.heap.size + 2) (W := Wd) (by have := R0.out.lt; omega))
    obtain ⟨g64, hgq⟩ : ∃ g, Wd.heap.size = g := ⟨_, rfl⟩
    obtain ⟨u63, hW⟩ : ∃ W', Wd.alloc (.cells #[] 60) = W' := ⟨_, rfl⟩
    rw [hW] at k65 hs66 R67 O68 ⊢
    rw [hgq] at O68 ⊢
    clear hbt hgq hW
    refine hK.out _ _ hs66 (fun _ => ?_)
    clear hK K
    try dsimp only [Act.put]
    try simp only [List.setIfInBounds_toArray, List.set_cons_zero, List.set_cons_succ]
    refine wpAnyH_ready (rs := [0]) (by kernel_rfl) (by simp) ?_
    refine AllReadyH.cons (o := { dst := some 3, op := Op.buildSlice 22 0 #[], type := 22, pos := "ref.go:505", after := #[], guard := none }) rfl (fun K hK => ?_) AllReadyH.nil
    rw [if_pos (by rfl)]
    refine wp_bs rfl (by simp) (bs0 u63) ?_
    have hbt := (Below.refl u63.heap.size u63).alloc (Nat.le_refl _) (.cells #[] 60)
    have k71 := Lib.hid (below_step k65.out hbt)
    have hs72 := hs66.below hbt hs66.lt
    have R73 := Lib.hid (R67.out.below hbt R67.out.lt)
    have O74 := Lib.hid (Ro.new (B := w.heap.size + 2) (W := u63) (by have := R67.out.lt; omega))
    have O75 := Lib.hid (O68.out.alloc (.cells #[] 60))
    have NE76 := Lib.hid (show u63.heap.size ≠ g64 from Nat.ne_of_gt O68.out.lt)
    obtain ⟨g70, hgq⟩ : ∃ g, u63.heap.size = g := ⟨_, rfl⟩
    obtain ⟨u69, hW⟩ : ∃ W', u63.alloc (.cells #[] 60) = W' := ⟨_, rfl⟩
    rw [hW] at k71 hs72 R73 O74 O75 ⊢
    rw [hgq] at O74 NE76 ⊢
    clear hbt hgq hW
    refine hK.out _ _ hs72 (fun _ => ?_)
    clear hK K
    try dsimp only [Act.put]
    try simp only [List.setIfInBounds_toArray, List.set_cons_zero, List.set_cons_succ]
    refine wpAnyH_ready (rs := [3]) (by kernel_rfl) (by simp) ?_
    refine AllReadyH.cons (o := { dst := some 6, op := Op.call { callee := Callee.builtin Builtin.append, args := #[Operand.tmp 3, Operand.tmp 5], argTypes := #[22, 22] }, type := 22, pos := "ref.go:505", after := #[{ on := 0, ground := Ground.data }, { on := 2, ground := Ground.data }], guard := none }) rfl (fun K hK => ?_) AllReadyH.nil
    rw [if_pos (by rfl)]
    refine wp_fill (.tmp 3) (.tmp 5) rfl g70 0 rfl O74.out A1 n1 k1 l1 rfl (S1.out.below k71.out) HL1.out ?_
    intro g78 c79 w77 ho hg hat
    have k80 := Lib.hid (k71.out.grown hg k71.out.size (fun q e => by cases e; have := O74.out.ge; omega))
    have hs81 := hs72.grown hg (by have := O74.out.ge; intro e; injection e with e; omega)
    have R82 := Lib.hid (R73.out.grown hg (by have := O74.out.ge; intro e; injection e with e; omega))
    have O83 := Lib.hid ho
    have O84 := Lib.hid (O75.out.grown hg (Ne.symm NE76.out))
    have NE85 := Lib.hid (show g78 ≠ g64 from by rcases hat with e | e <;> rw [e]; exact NE76.out; exact Nat.ne_of_gt O75.out.lt)
    clear ho hg hat
    refine hK.out _ _ hs81 (fun _ => ?_)
    clear hK K
    try dsimp only [Act.put]
    try simp only [List.setIfInBounds_toArray, List.set_cons_zero, List.set_cons_succ]
    refine wpAnyH_ready (rs := [7]) (by kernel_rfl) (by simp) ?_
    refine AllReadyH.cons (o := { dst := some 10, op := Op.call { callee := Callee.builtin Builtin.append, args := #[Operand.tmp 7, Operand.tmp 9], argTypes := #[22, 22] }, type := 22, pos := "ref.go:505", after := #[{ on := 4, ground := Ground.data }, { on := 6, ground := Ground.data }, { on := 3, ground := Ground.chain }], guard := none }) rfl (fun K hK => ?_) AllReadyH.nil
    rw [if_pos (by rfl)]
    refine wp_fill (.tmp 7) (.tmp 9) rfl g64 0 rfl O84.out A2 n2 k2 l2 rfl (S2.out.below k80.out) HL2.out ?_
    intro g87 c88 w86 ho hg hat
    have k89 := Lib.hid (k80.out.grown hg k80.out.size (fun q e => by cases e; have := O84.out.ge; omega))
    have hs90 := hs81.grown hg (by have := O84.out.ge; intro e; injection e with e; omega)
    have R91 := Lib.hid (R82.out.grown hg (by have := O84.out.ge; intro e; injection e with e; omega))
    have O92 := Lib.hid ho
    have O93 := Lib.hid (O83.out.grown hg NE85.out)
    have NE94 := Lib.hid (show g78 ≠ g87 from by rcases hat with e | e <;> rw [e]; exact NE85.out; exact Nat.ne_of_lt O83.out.lt)
    clear ho hg hat
    refine hK.out _ _ hs90 (fun _ => ?_)
    clear hK K
    try dsimp only [Act.put]
    try simp only [List.setIfInBounds_toArray, List.set_cons_zero, List.set_cons_succ]
    refine wpAnyH_take (i := 8) (oi := { dst := some 11, op := Op.build 28 #[(0, Operand.tmp 6), (1, Operand.tmp 10)], type := 28, pos := "ref.go:505", after := #[{ on := 3, ground := Ground.data }, { on := 7, ground := Ground.data }], guard := none }) (v := .agg #[(.slice (some ⟨g78, 0, none⟩) n1 c79), (.slice (some ⟨g87, 0, none⟩) n2 c88)]) rfl (by kernel_rfl) (by kernel_rfl) (by kernel_rfl) (fun _ _ _ h => h) (Or.inl ⟨by rfl, fun W hW => ?y95⟩) hs90 ?_
    case y95 => go_simp
    try dsimp only [Act.put]
    try simp only [List.setIfInBounds_toArray, List.set_cons_zero, List.set_cons_succ]
    refine wpAnyH_ready (rs := [9]) (by kernel_rfl) (by simp) ?_
    refine AllReadyH.cons (o := { dst := none, op := Op.store 28 (Operand.tmp 2) (Operand.tmp 11), type := 0, pos := "ref.go:505", after := #[{ on := 8, ground := Ground.data }, { on := 7, ground := Ground.chain }, { on := 0, ground := Ground.phase }, { on := 1, ground := Ground.phase }, { on := 2, ground := Ground.phase }, { on := 3, ground := Ground.phase }, { on := 4, ground := Ground.phase }, { on := 5, ground := Ground.phase }, { on := 6, ground := Ground.phase }, { on := 7, ground := Ground.phase }, { on := 8, ground := Ground.phase }], guard := none }) rfl (fun K hK => ?_) AllReadyH.nil
    rw [if_pos (by rfl)]
    obtain ⟨hc1, hc2, hf1, hf2⟩ := blk_cells2 R91.out
    go_simp
    refine hK.out _ _ ((hs90.far (p := ⟨w.heap.size + 1, 0, none⟩) (by simp) _).far (p := ⟨w.heap.size + 1, 1, none⟩) (by simp) _) (fun _ => ?_)
    clear hK K
    try dsimp only [Act.put]
    try simp only [List.setIfInBounds_toArray, List.set_cons_zero, List.set_cons_succ]
    refine wpAnyH_done (by kernel_rfl) ?_ _
    try dsimp only [Act.put]
    try simp only [List.setIfInBounds_toArray, List.set_cons_zero, List.set_cons_succ]
    have hbk := ((R91.out.put 0 (.slice (some ⟨g78, 0, none⟩) n1 c79)).put 1 (.slice (some ⟨g87, 0, none⟩) n2 c88))
    have hbl := ((k89.out.setCell (p := ⟨w.heap.size + 1, 0, none⟩) (Nat.le_succ _) (.slice (some ⟨g78, 0, none⟩) n1 c79)).setCell (p := ⟨w.heap.size + 1, 1, none⟩) (Nat.le_succ _) (.slice (some ⟨g87, 0, none⟩) n2 c88))
    have hr1 := ((O93.out.put (g' := w.heap.size + 1) 0 (.slice (some ⟨g78, 0, none⟩) n1 c79) (by omega)).put (g' := w.heap.size + 1) 1 (.slice (some ⟨g87, 0, none⟩) n2 c88) (by omega)).base (B' := w.heap.size) (by omega)
    have hr2 := ((O92.out.put (g' := w.heap.size + 1) 0 (.slice (some ⟨g78, 0, none⟩) n1 c79) (by omega)).put (g' := w.heap.size + 1) 1 (.slice (some ⟨g87, 0, none⟩) n2 c88) (by omega)).base (B' := w.heap.size) (by omega)
    go_wp2_with fail
    refine bodyPost_ret (v := .agg #[(.slice (some ⟨g78, 0, none⟩) n1 c79), (.slice (some ⟨g87, 0, none⟩) n2 c88)]) ?_ rfl ⟨g78, c79, g87, c88, by rw [← HN1.out, ← HN2.out], by rw [← HN1.out]; exact hr1, by rw [← HN2.out]; exact hr2, NE94.out, hbl⟩
    have hr := run_loadVar_at (P := Try.prog) _ ⟨w.heap.size + 1, 0, none⟩ 28 [(.slice (some ⟨g78, 0, none⟩) n1 c79), (.slice (some ⟨g87, 0, none⟩) n2 c88)] _ hbk.at Try.underlying28 rfl size28
    simp [results, Try.results71, asAddr, hr]
end Go.Proofs.Ytbfhilbagojdnaa
