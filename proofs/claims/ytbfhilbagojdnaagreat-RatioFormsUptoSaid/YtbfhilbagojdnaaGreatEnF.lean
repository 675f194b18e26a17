/-
  Encode, on both sides.
  No condition but the lengths.
-/
import Derived.Test.YtbfhilbagojdnaaGreatNbF
import Derived.Test.YtbfhilbagojdnaaGreatWAux
namespace Go.Proofs.YtbfhilbagojdnaaGreat
open Go.RowKit Wr Go.Proofs.YtbfhilbagojdnaaGreat.Nm
open Go.Proofs.YtbfhilbagojdnaaGreat.W1.Wr (okInt decInts encInts)
open Go.Proofs.YtbfhilbagojdnaaGreat.W1 (I64 I64_get I64_len I64_one encInts_le)
set_option linter.unusedVariables false
set_option maxRecDepth 100000

/-- A slice that reads as a list of ints. -/
def Iv (w : World) (v : Value) (l : List Int) : Prop := ∃ (A : Option Addr) (c : Nat), v = .slice A l.length c ∧ l.length ≤ c ∧ (A = none → c = 0) ∧ Rd w w.heap.size A (I64 l)
theorem Iv.below {w w' : World} {v : Value} {l : List Int} (h : Iv w v l) (hb : Below w.heap.size w w') : Iv w' v l := by
  obtain ⟨A, c, e, hc, hn, hr⟩ := h
  exact ⟨A, c, e, hc, hn, (hr.below hb).more hb.size⟩
theorem own_iv {w : World} {base : Nat} {v : Value} {l : List Int} (h : w.ownsRow base 3 1 v l.length (I64 l)) : Iv w v l := own_form h
def IvP (w : World) (l : List Int) (e : Ending) (w' : World) : Prop := ∃ v, e = .returned v ∧ Iv w' v l ∧ Below w.heap.size w w'
def EnP (w : World) (b : List UInt8) (e : Ending) (w' : World) : Prop := ∃ v, e = .returned v ∧ w'.ownsRow w.heap.size 5 1 v b.length (B8 b) ∧ Below w.heap.size w w'
def encR (r1 r2 : List Nat) : List UInt8 := encInts (NbI r1) ++ encInts (NbI r2)
theorem NbI_int {l : List Nat} (h : Ok l) : ∀ x ∈ NbI l, okInt x := fun x hx => by
  have h := NbI_ok h x hx
  unfold okInt; omega
theorem num_iv {v : Value} {l : List Nat} {w : World} (h : Sl w v l) (ho : Ok l) (hl : l.length ≤ 1000000) : Calls Tryz.prog 77 #[v] w (IvP w (NbI l)) :=
  (numbers_any h ho hl).mono fun e w' ⟨v', e', ho', hb⟩ => ⟨v', e', own_iv (by rw [NbI_len]; exact ho'), hb⟩
theorem rnum_iv {v : Value} {l : List Nat} {w : World} (h : Sl w v l) (ho : Ok l) (hl : l.length ≤ 1000000) : Calls Tryz.prog 78 #[v] w (IvP w (NbI l)) :=
  (rnums_any h ho hl).mono fun e w' ⟨v', e', ho', hb⟩ => ⟨v', e', own_iv (by rw [NbI_len]; exact ho'), hb⟩
theorem ints_iv {v : Value} {l : List Int} {w : World} (h : Iv w v l) (hl : l.length ≤ 1000000) (hi : ∀ x ∈ l, okInt x) : Calls Tryz.prog 76 #[v] w (EnP w (encInts l)) := by
  obtain ⟨A, c, rfl, hc, hn, hr⟩ := h
  exact W1.ints_any A l c w hr hc (by omega) hi
theorem rints_iv {v : Value} {l : List Int} {w : World} (h : Iv w v l) (hl : l.length ≤ 1000000) (hi : ∀ x ∈ l, okInt x) : Calls Tryz.prog 37 #[v] w (EnP w (encInts l)) := by
  obtain ⟨A, c, rfl, hc, hn, hr⟩ := h
  exact W1.rints_any A l c w hr (by omega) hi
/-- An append of bytes of an own row to an own row. -/
theorem wp_app_bytes {B : Nat} {w : World} {o : Oper} {a : Act} {K : Act → World → Prop} {Q : Exit → Act → World → Prop} (s x : Operand)
    (ho : o.op = .call { callee := .builtin .append, args := #[s, x], argTypes := #[38, 38] }) (v : Value) (xs : List UInt8) (hs : a.eval s = v) (hown : w.ownsRow B 5 1 v xs.length (B8 xs))
    (v2 : Value) (ys : List UInt8) (hx : a.eval x = v2) (hy : w.ownsRow B 5 1 v2 ys.length (B8 ys)) (hne : 1 ≤ ys.length) (hbytes : xs.length + ys.length ≤ 1000000000) (hbase : B ≤ w.heap.size)
    (h : ∀ v' w', w'.ownsRow B 5 1 v' (xs ++ ys).length (B8 (xs ++ ys)) → w.grownBy w' v.ownBlock → K (a.put o.dst v') w') : o.wp Tryz.prog a w K Q := by
  obtain ⟨i0, hi0, hz0, hz1, hz2⟩ := info_parts W1.Tryz.info5
  obtain ⟨A, c, rfl, hc, hn, hr⟩ := own_form hy
  obtain ⟨g, off, rfl, hg, hcell⟩ := hr (W1.ne_nil hne)
  refine wp_append_own w s x 38 ho B 5 i0 (.int .u8 0) 1 1 Tryz.underlying38 hi0 hz0 hz1 hz2 rfl (by decide) v xs.length (B8 xs) hs hown ⟨g, off, none⟩ ys.length c (B8 ys) hx (by rw [B8_len, Nat.mul_one]) (fun j u hu => by rw [Addr.add_lit]; exact hcell j u hu) (B8_one _) (by unfold maxLen; omega) (by omega) hbase (fun v' w' h1 h2 _ => h v' w' ?_ h2)
  rw [List.length_append, B8_append]; exact h1
set_option maxHeartbeats 4000000 in
theorem encode_any {v1 v2 : Value} {r1 r2 : List Nat} {w : World} (h1 : Sl w v1 r1) (h2 : Sl w v2 r2) (ho1 : Ok r1) (ho2 : Ok r2) (hl1 : r1.length ≤ 1000000) (hl2 : r2.length ≤ 1000000) : Calls Tryz.prog 29 #[.agg #[v1, v2]] w (EnP w (encR r1 r2)) := by
  have HL1 := Lib.hid hl1; have HL2 := Lib.hid hl2; have HO1 := Lib.hid ho1; have HO2 := Lib.hid ho2
  have HK1 := Lib.hid (NbI_int ho1); have HK2 := Lib.hid (NbI_int ho2)
  have HM := Lib.hid (show (encInts (NbI r1)).length + (encInts (NbI r2)).length ≤ 1000000000 by
    have e1 := (encInts_le (NbI r1)).1; have e2 := (encInts_le (NbI r2)).1
    rw [NbI_len] at e1 e2; omega)
  have x1 := box0 w v1 v2; have x3 := boxb w v1 v2
  have t1 := h1.below x3; have t2 := h2.below x3
  obtain ⟨A1, n1, k1, e1⟩ := sl_form h1
  obtain ⟨A2, n2, k2, e2⟩ := sl_form h2
  subst e1 e2
  have HX1 := Lib.hid x1; have HX3 := Lib.hid x3; have T1 := Lib.hid t1; have T2 := Lib.hid t2
  clear x1 x3 t1 t2 hl1 hl2 ho1 ho2 h1 h2
  go_enter Tryz.func29, Tryz.ntmps29
  go_upto_region 1 with (fail)
  obtain ⟨W0, hW0⟩ : ∃ W, (w.alloc (.cells #[.slice A1 n1 k1, .slice A2 n2 k2] 27)) = W := ⟨_, rfl⟩
  rw [hW0] at HX1 HX3 T1 T2 ⊢
  clear hW0
  refine wp_region_held (S := fun W => Blk W w.heap.size 27 [(.slice A1 n1 k1), (.slice A2 n2 k2)]) (by kernel_rfl) ?_
  change wpAnyH _ _ _ _ _ _ _ _ (World.drew W0)
  have hs0 : Blk (World.drew W0) w.heap.size 27 [(.slice A1 n1 k1), (.slice A2 n2 k2)] := HX1.out
  have k0 : Hid (Below w.heap.size w (World.drew W0)) := Lib.hid (below_drewN HX3.out 1)
  have S1 : Hid (Sl (World.drew W0) (.slice A1 n1 k1) r1) := Lib.hid (T1.out.drewN 1)
  have S2 : Hid (Sl (World.drew W0) (.slice A2 n2 k2) r2) := Lib.hid (T2.out.drewN 1)
  clear HX1 HX3 T1 T2
  generalize World.drew W0 = Wd at hs0 k0 S1 S2 ⊢
  refine wpAnyH_take (i := 0) (oi := { dst := some 3, op := Op.fieldAddr 27 (Operand.tmp 1) 0, type := 0, pos := "ratio.go:193", after := #[], guard := none }) (v := .pointer (some ⟨w.heap.size, 0, none⟩)) rfl (by kernel_rfl) (by kernel_rfl) (by kernel_rfl) (fun _ _ _ h => h) (Or.inl ⟨by rfl, fun W hW => ?y1⟩) hs0 ?_
  case y1 => go_simp
  try dsimp only [Act.put]
  try simp only [List.setIfInBounds_toArray, List.set_cons_zero, List.set_cons_succ]
  refine wpAnyH_take (i := 1) (oi := { dst := some 4, op := Op.load 22 (Operand.tmp 3), type := 22, pos := "ratio.go:193", after := #[{ on := 0, ground := Ground.data }], guard := none }) (v := (.slice A1 n1 k1)) rfl (by kernel_rfl) (by kernel_rfl) (by kernel_rfl) (fun _ _ _ h => h) (Or.inl ⟨by rfl, fun W hW => by have hcl : W.cell? ⟨w.heap.size, 0, none⟩ = some (.slice A1 n1 k1) := (Blk.cell hW 0).trans rfl; go_simp⟩) hs0 ?_
  try dsimp only [Act.put]
  try simp only [List.setIfInBounds_toArray, List.set_cons_zero, List.set_cons_succ]
  refine wpAnyH_take (i := 4) (oi := { dst := some 7, op := Op.fieldAddr 27 (Operand.tmp 1) 1, type := 0, pos := "ratio.go:193", after := #[], guard := none }) (v := .pointer (some ⟨w.heap.size, 1, none⟩)) rfl (by kernel_rfl) (by kernel_rfl) (by kernel_rfl) (fun _ _ _ h => h) (Or.inl ⟨by rfl, fun W hW => ?y3⟩) hs0 ?_
  case y3 => go_simp
  try dsimp only [Act.put]
  try simp only [List.setIfInBounds_toArray, List.set_cons_zero, List.set_cons_succ]
  refine wpAnyH_take (i := 5) (oi := { dst := some 8, op := Op.load 22 (Operand.tmp 7), type := 22, pos := "ratio.go:193", after := #[{ on := 4, ground := Ground.data }], guard := none }) (v := (.slice A2 n2 k2)) rfl (by kernel_rfl) (by kernel_rfl) (by kernel_rfl) (fun _ _ _ h => h) (Or.inl ⟨by rfl, fun W hW => by have hcl : W.cell? ⟨w.heap.size, 1, none⟩ = some (.slice A2 n2 k2) := (Blk.cell hW 1).trans rfl; go_simp⟩) hs0 ?_
  try dsimp only [Act.put]
  try simp only [List.setIfInBounds_toArray, List.set_cons_zero, List.set_cons_succ]
  refine wpAnyH_ready (rs := [2]) (by kernel_rfl) (by simp) ?_
  refine AllReadyH.cons (o := { dst := some 5, op := Op.call { callee := Callee.value (Operand.func 77), args := #[Operand.tmp 4], argTypes := #[22] }, type := 50, pos := "ratio.go:193", after := #[{ on := 1, ground := Ground.data }], guard := none }) rfl (fun K hK => ?_) AllReadyH.nil
  rw [if_pos (by rfl)]
  go_simp
  refine (num_iv S1.out HO1.out HL1.out).mono ?_; rintro e w5 ⟨v6, rfl, hs, hb⟩
  have B8 := Lib.hid (below_step k0.out hb)
  have hs9 := hs0.below hb hs0.lt
  have S10 := Lib.hid (S1.out.below hb)
  have S11 := Lib.hid (S2.out.below hb)
  have I7 := Lib.hid hs
  clear hs hb
  go_wp2_with fail
  refine hK.out _ _ hs9 (fun _ => ?_)
  clear hK K
  try dsimp only [Act.put]
  try simp only [List.setIfInBounds_toArray, List.set_cons_zero, List.set_cons_succ]
  refine wpAnyH_ready (rs := [3]) (by kernel_rfl) (by simp) ?_
  refine AllReadyH.cons (o := { dst := some 6, op := Op.call { callee := Callee.value (Operand.func 76), args := #[Operand.tmp 5], argTypes := #[50] }, type := 38, pos := "ratio.go:193", after := #[{ on := 2, ground := Ground.data }, { on := 2, ground := Ground.chain }], guard := none }) rfl (fun K hK => ?_) AllReadyH.nil
  rw [if_pos (by rfl)]
  go_simp
  refine (ints_iv I7.out (by rw [NbI_len]; exact HL1.out) HK1.out).mono ?_; rintro e w12 ⟨v13, rfl, ho, hb⟩
  have B15 := Lib.hid (below_step B8.out hb)
  have hs16 := hs9.below hb hs9.lt
  have S17 := Lib.hid (S10.out.below hb)
  have S18 := Lib.hid (S11.out.below hb)
  have S19 := Lib.hid (I7.out.below hb)
  have O14 := Lib.hid (own_mono (base' := w.heap.size + 1) ho hs9.lt)
  clear ho hb
  go_wp2_with fail
  refine hK.out _ _ hs16 (fun _ => ?_)
  clear hK K
  try dsimp only [Act.put]
  try simp only [List.setIfInBounds_toArray, List.set_cons_zero, List.set_cons_succ]
  refine wpAnyH_ready (rs := [6]) (by kernel_rfl) (by simp) ?_
  refine AllReadyH.cons (o := { dst := some 9, op := Op.call { callee := Callee.value (Operand.func 77), args := #[Operand.tmp 8], argTypes := #[22] }, type := 50, pos := "ratio.go:193", after := #[{ on := 5, ground := Ground.data }, { on := 3, ground := Ground.chain }], guard := none }) rfl (fun K hK => ?_) AllReadyH.nil
  rw [if_pos (by rfl)]
  go_simp
  refine (num_iv S18.out HO2.out HL2.out).mono ?_; rintro e w20 ⟨v21, rfl, hs, hb⟩
  have B23 := Lib.hid (below_step B15.out hb)
  have hs24 := hs16.below hb hs16.lt
  have S25 := Lib.hid (S17.out.below hb)
  have S26 := Lib.hid (S18.out.below hb)
  have S27 := Lib.hid (S19.out.below hb)
  have S28 := Lib.hid (own_below O14.out hb)
  have I22 := Lib.hid hs
  clear hs hb
  go_wp2_with fail
  refine hK.out _ _ hs24 (fun _ => ?_)
  clear hK K
  try dsimp only [Act.put]
  try simp only [List.setIfInBounds_toArray, List.set_cons_zero, List.set_cons_succ]
  refine wpAnyH_ready (rs := [7]) (by kernel_rfl) (by simp) ?_
  refine AllReadyH.cons (o := { dst := some 10, op := Op.call { callee := Callee.value (Operand.func 76), args := #[Operand.tmp 9], argTypes := #[50] }, type := 38, pos := "ratio.go:193", after := #[{ on := 6, ground := Ground.data }, { on := 6, ground := Ground.chain }], guard := none }) rfl (fun K hK => ?_) AllReadyH.nil
  rw [if_pos (by rfl)]
  go_simp
  refine (ints_iv I22.out (by rw [NbI_len]; exact HL2.out) HK2.out).mono ?_; rintro e w29 ⟨v30, rfl, ho, hb⟩
  have B32 := Lib.hid (below_step B23.out hb)
  have hs33 := hs24.below hb hs24.lt
  have S34 := Lib.hid (S25.out.below hb)
  have S35 := Lib.hid (S26.out.below hb)
  have S36 := Lib.hid (S27.out.below hb)
  have S37 := Lib.hid (own_below S28.out hb)
  have S38 := Lib.hid (I22.out.below hb)
  have O31 := Lib.hid (own_mono (base' := w.heap.size + 1) ho hs24.lt)
  clear ho hb
  go_wp2_with fail
  refine hK.out _ _ hs33 (fun _ => ?_)
  clear hK K
  try dsimp only [Act.put]
  try simp only [List.setIfInBounds_toArray, List.set_cons_zero, List.set_cons_succ]
  refine wpAnyH_ready (rs := [8]) (by kernel_rfl) (by simp) ?_
  refine AllReadyH.cons (o := { dst := some 11, op := Op.call { callee := Callee.builtin Builtin.append, args := #[Operand.tmp 6, Operand.tmp 10], argTypes := #[38, 38] }, type := 38, pos := "ratio.go:193", after := #[{ on := 3, ground := Ground.data }, { on := 7, ground := Ground.data }, { on := 7, ground := Ground.chain }], guard := none }) rfl (fun K hK => ?_) AllReadyH.nil
  rw [if_pos (by rfl)]
  refine wp_app_bytes (.tmp 6) (.tmp 10) rfl v13 _ rfl S37.out v30 _ rfl O31.out (encInts_le _).2 HM.out hs33.lt ?_
  intro v40 w39 ho hg
  have B42 := Lib.hid (B32.out.grown hg B32.out.size (fun q e => by have := (S37.out.lt q e).1; omega))
  have hs41 := hs33.grown hg (fun e => by have := (S37.out.lt _ e.symm).1; omega)
  have O43 := Lib.hid ho
  clear ho hg
  refine hK.out _ _ hs41 (fun _ => ?_)
  clear hK K
  try dsimp only [Act.put]
  try simp only [List.setIfInBounds_toArray, List.set_cons_zero, List.set_cons_succ]
  refine wpAnyH_take (i := 9) (oi := { dst := some 2, op := Op.assign (Operand.tmp 11), type := 38, pos := "ratio.go:193", after := #[{ on := 8, ground := Ground.data }, { on := 8, ground := Ground.chain }, { on := 0, ground := Ground.phase }, { on := 1, ground := Ground.phase }, { on := 2, ground := Ground.phase }, { on := 3, ground := Ground.phase }, { on := 4, ground := Ground.phase }, { on := 5, ground := Ground.phase }, { on := 6, ground := Ground.phase }, { on := 7, ground := Ground.phase }, { on := 8, ground := Ground.phase }], guard := none }) (v := v40) rfl (by kernel_rfl) (by kernel_rfl) (by kernel_rfl) (fun _ _ _ h => h) (Or.inl ⟨by rfl, fun W hW => ?y44⟩) hs41 ?_
  case y44 => go_simp
  try dsimp only [Act.put]
  try simp only [List.setIfInBounds_toArray, List.set_cons_zero, List.set_cons_succ]
  refine wpAnyH_done (by kernel_rfl) ?_ _
  try dsimp only [Act.put]
  try simp only [List.setIfInBounds_toArray, List.set_cons_zero, List.set_cons_succ]
  go_wp2_with fail
  go_ret
  exact ⟨v40, rfl, own_mono O43.out (by omega), B42.out⟩
set_option maxHeartbeats 4000000 in
theorem rencode_any {v1 v2 : Value} {r1 r2 : List Nat} {w : World} (h1 : Sl w v1 r1) (h2 : Sl w v2 r2) (ho1 : Ok r1) (ho2 : Ok r2) (hl1 : r1.length ≤ 1000000) (hl2 : r2.length ≤ 1000000) : Calls Tryz.prog 30 #[.agg #[v1, v2]] w (EnP w (encR r1 r2)) := by
  have HL1 := Lib.hid hl1; have HL2 := Lib.hid hl2; have HO1 := Lib.hid ho1; have HO2 := Lib.hid ho2
  have HK1 := Lib.hid (NbI_int ho1); have HK2 := Lib.hid (NbI_int ho2)
  have HM := Lib.hid (show (encInts (NbI r1)).length + (encInts (NbI r2)).length ≤ 1000000000 by
    have e1 := (encInts_le (NbI r1)).1; have e2 := (encInts_le (NbI r2)).1
    rw [NbI_len] at e1 e2; omega)
  have x1 := box0 w v1 v2; have x3 := boxb w v1 v2
  have t1 := h1.below x3; have t2 := h2.below x3
  obtain ⟨A1, n1, k1, e1⟩ := sl_form h1
  obtain ⟨A2, n2, k2, e2⟩ := sl_form h2
  subst e1 e2
  have HX1 := Lib.hid x1; have HX3 := Lib.hid x3; have T1 := Lib.hid t1; have T2 := Lib.hid t2
  clear x1 x3 t1 t2 hl1 hl2 ho1 ho2 h1 h2
  go_enter Tryz.func30, Tryz.ntmps30
  go_upto_region 1 with (fail)
  obtain ⟨W0, hW0⟩ : ∃ W, (w.alloc (.cells #[.slice A1 n1 k1, .slice A2 n2 k2] 27)) = W := ⟨_, rfl⟩
  rw [hW0] at HX1 HX3 T1 T2 ⊢
  clear hW0
  refine wp_region_held (S := fun W => Blk W w.heap.size 27 [(.slice A1 n1 k1), (.slice A2 n2 k2)]) (by kernel_rfl) ?_
  change wpAnyH _ _ _ _ _ _ _ _ (World.drew W0)
  have hs0 : Blk (World.drew W0) w.heap.size 27 [(.slice A1 n1 k1), (.slice A2 n2 k2)] := HX1.out
  have k0 : Hid (Below w.heap.size w (World.drew W0)) := Lib.hid (below_drewN HX3.out 1)
  have S1 : Hid (Sl (World.drew W0) (.slice A1 n1 k1) r1) := Lib.hid (T1.out.drewN 1)
  have S2 : Hid (Sl (World.drew W0) (.slice A2 n2 k2) r2) := Lib.hid (T2.out.drewN 1)
  clear HX1 HX3 T1 T2
  generalize World.drew W0 = Wd at hs0 k0 S1 S2 ⊢
  refine wpAnyH_take (i := 0) (oi := { dst := some 3, op := Op.fieldAddr 27 (Operand.tmp 1) 0, type := 0, pos := "ref.go:451", after := #[], guard := none }) (v := .pointer (some ⟨w.heap.size, 0, none⟩)) rfl (by kernel_rfl) (by kernel_rfl) (by kernel_rfl) (fun _ _ _ h => h) (Or.inl ⟨by rfl, fun W hW => ?y1⟩) hs0 ?_
  case y1 => go_simp
  try dsimp only [Act.put]
  try simp only [List.setIfInBounds_toArray, List.set_cons_zero, List.set_cons_succ]
  refine wpAnyH_take (i := 1) (oi := { dst := some 4, op := Op.load 22 (Operand.tmp 3), type := 22, pos := "ref.go:451", after := #[{ on := 0, ground := Ground.data }], guard := none }) (v := (.slice A1 n1 k1)) rfl (by kernel_rfl) (by kernel_rfl) (by kernel_rfl) (fun _ _ _ h => h) (Or.inl ⟨by rfl, fun W hW => by have hcl : W.cell? ⟨w.heap.size, 0, none⟩ = some (.slice A1 n1 k1) := (Blk.cell hW 0).trans rfl; go_simp⟩) hs0 ?_
  try dsimp only [Act.put]
  try simp only [List.setIfInBounds_toArray, List.set_cons_zero, List.set_cons_succ]
  refine wpAnyH_take (i := 4) (oi := { dst := some 7, op := Op.fieldAddr 27 (Operand.tmp 1) 1, type := 0, pos := "ref.go:451", after := #[], guard := none }) (v := .pointer (some ⟨w.heap.size, 1, none⟩)) rfl (by kernel_rfl) (by kernel_rfl) (by kernel_rfl) (fun _ _ _ h => h) (Or.inl ⟨by rfl, fun W hW => ?y3⟩) hs0 ?_
  case y3 => go_simp
  try dsimp only [Act.put]
  try simp only [List.setIfInBounds_toArray, List.set_cons_zero, List.set_cons_succ]
  refine wpAnyH_take (i := 5) (oi := { dst := some 8, op := Op.load 22 (Operand.tmp 7), type := 22, pos := "ref.go:451", after := #[{ on := 4, ground := Ground.data }], guard := none }) (v := (.slice A2 n2 k2)) rfl (by kernel_rfl) (by kernel_rfl) (by kernel_rfl) (fun _ _ _ h => h) (Or.inl ⟨by rfl, fun W hW => by have hcl : W.cell? ⟨w.heap.size, 1, none⟩ = some (.slice A2 n2 k2) := (Blk.cell hW 1).trans rfl; go_simp⟩) hs0 ?_
  try dsimp only [Act.put]
  try simp only [List.setIfInBounds_toArray, List.set_cons_zero, List.set_cons_succ]
  refine wpAnyH_ready (rs := [2]) (by kernel_rfl) (by simp) ?_
  refine AllReadyH.cons (o := { dst := some 5, op := Op.call { callee := Callee.value (Operand.func 78), args := #[Operand.tmp 4], argTypes := #[22] }, type := 50, pos := "ref.go:451", after := #[{ on := 1, ground := Ground.data }], guard := none }) rfl (fun K hK => ?_) AllReadyH.nil
  rw [if_pos (by rfl)]
  go_simp
  refine (rnum_iv S1.out HO1.out HL1.out).mono ?_; rintro e w5 ⟨v6, rfl, hs, hb⟩
  have B8 := Lib.hid (below_step k0.out hb)
  have hs9 := hs0.below hb hs0.lt
  have S10 := Lib.hid (S1.out.below hb)
  have S11 := Lib.hid (S2.out.below hb)
  have I7 := Lib.hid hs
  clear hs hb
  go_wp2_with fail
  refine hK.out _ _ hs9 (fun _ => ?_)
  clear hK K
  try dsimp only [Act.put]
  try simp only [List.setIfInBounds_toArray, List.set_cons_zero, List.set_cons_succ]
  refine wpAnyH_ready (rs := [3]) (by kernel_rfl) (by simp) ?_
  refine AllReadyH.cons (o := { dst := some 6, op := Op.call { callee := Callee.value (Operand.func 37), args := #[Operand.tmp 5], argTypes := #[50] }, type := 38, pos := "ref.go:451", after := #[{ on := 2, ground := Ground.data }, { on := 2, ground := Ground.chain }], guard := none }) rfl (fun K hK => ?_) AllReadyH.nil
  rw [if_pos (by rfl)]
  go_simp
  refine (rints_iv I7.out (by rw [NbI_len]; exact HL1.out) HK1.out).mono ?_; rintro e w12 ⟨v13, rfl, ho, hb⟩
  have B15 := Lib.hid (below_step B8.out hb)
  have hs16 := hs9.below hb hs9.lt
  have S17 := Lib.hid (S10.out.below hb)
  have S18 := Lib.hid (S11.out.below hb)
  have S19 := Lib.hid (I7.out.below hb)
  have O14 := Lib.hid (own_mono (base' := w.heap.size + 1) ho hs9.lt)
  clear ho hb
  go_wp2_with fail
  refine hK.out _ _ hs16 (fun _ => ?_)
  clear hK K
  try dsimp only [Act.put]
  try simp only [List.setIfInBounds_toArray, List.set_cons_zero, List.set_cons_succ]
  refine wpAnyH_ready (rs := [6]) (by kernel_rfl) (by simp) ?_
  refine AllReadyH.cons (o := { dst := some 9, op := Op.call { callee := Callee.value (Operand.func 78), args := #[Operand.tmp 8], argTypes := #[22] }, type := 50, pos := "ref.go:451", after := #[{ on := 5, ground := Ground.data }, { on := 3, ground := Ground.chain }], guard := none }) rfl (fun K hK => ?_) AllReadyH.nil
  rw [if_pos (by rfl)]
  go_simp
  refine (rnum_iv S18.out HO2.out HL2.out).mono ?_; rintro e w20 ⟨v21, rfl, hs, hb⟩
  have B23 := Lib.hid (below_step B15.out hb)
  have hs24 := hs16.below hb hs16.lt
  have S25 := Lib.hid (S17.out.below hb)
  have S26 := Lib.hid (S18.out.below hb)
  have S27 := Lib.hid (S19.out.below hb)
  have S28 := Lib.hid (own_below O14.out hb)
  have I22 := Lib.hid hs
  clear hs hb
  go_wp2_with fail
  refine hK.out _ _ hs24 (fun _ => ?_)
  clear hK K
  try dsimp only [Act.put]
  try simp only [List.setIfInBounds_toArray, List.set_cons_zero, List.set_cons_succ]
  refine wpAnyH_ready (rs := [7]) (by kernel_rfl) (by simp) ?_
  refine AllReadyH.cons (o := { dst := some 10, op := Op.call { callee := Callee.value (Operand.func 37), args := #[Operand.tmp 9], argTypes := #[50] }, type := 38, pos := "ref.go:451", after := #[{ on := 6, ground := Ground.data }, { on := 6, ground := Ground.chain }], guard := none }) rfl (fun K hK => ?_) AllReadyH.nil
  rw [if_pos (by rfl)]
  go_simp
  refine (rints_iv I22.out (by rw [NbI_len]; exact HL2.out) HK2.out).mono ?_; rintro e w29 ⟨v30, rfl, ho, hb⟩
  have B32 := Lib.hid (below_step B23.out hb)
  have hs33 := hs24.below hb hs24.lt
  have S34 := Lib.hid (S25.out.below hb)
  have S35 := Lib.hid (S26.out.below hb)
  have S36 := Lib.hid (S27.out.below hb)
  have S37 := Lib.hid (own_below S28.out hb)
  have S38 := Lib.hid (I22.out.below hb)
  have O31 := Lib.hid (own_mono (base' := w.heap.size + 1) ho hs24.lt)
  clear ho hb
  go_wp2_with fail
  refine hK.out _ _ hs33 (fun _ => ?_)
  clear hK K
  try dsimp only [Act.put]
  try simp only [List.setIfInBounds_toArray, List.set_cons_zero, List.set_cons_succ]
  refine wpAnyH_ready (rs := [8]) (by kernel_rfl) (by simp) ?_
  refine AllReadyH.cons (o := { dst := some 11, op := Op.call { callee := Callee.builtin Builtin.append, args := #[Operand.tmp 6, Operand.tmp 10], argTypes := #[38, 38] }, type := 38, pos := "ref.go:451", after := #[{ on := 3, ground := Ground.data }, { on := 7, ground := Ground.data }, { on := 7, ground := Ground.chain }], guard := none }) rfl (fun K hK => ?_) AllReadyH.nil
  rw [if_pos (by rfl)]
  refine wp_app_bytes (.tmp 6) (.tmp 10) rfl v13 _ rfl S37.out v30 _ rfl O31.out (encInts_le _).2 HM.out hs33.lt ?_
  intro v40 w39 ho hg
  have B42 := Lib.hid (B32.out.grown hg B32.out.size (fun q e => by have := (S37.out.lt q e).1; omega))
  have hs41 := hs33.grown hg (fun e => by have := (S37.out.lt _ e.symm).1; omega)
  have O43 := Lib.hid ho
  clear ho hg
  refine hK.out _ _ hs41 (fun _ => ?_)
  clear hK K
  try dsimp only [Act.put]
  try simp only [List.setIfInBounds_toArray, List.set_cons_zero, List.set_cons_succ]
  refine wpAnyH_take (i := 9) (oi := { dst := some 2, op := Op.assign (Operand.tmp 11), type := 38, pos := "ref.go:451", after := #[{ on := 8, ground := Ground.data }, { on := 8, ground := Ground.chain }, { on := 0, ground := Ground.phase }, { on := 1, ground := Ground.phase }, { on := 2, ground := Ground.phase }, { on := 3, ground := Ground.phase }, { on := 4, ground := Ground.phase }, { on := 5, ground := Ground.phase }, { on := 6, ground := Ground.phase }, { on := 7, ground := Ground.phase }, { on := 8, ground := Ground.phase }], guard := none }) (v := v40) rfl (by kernel_rfl) (by kernel_rfl) (by kernel_rfl) (fun _ _ _ h => h) (Or.inl ⟨by rfl, fun W hW => ?y44⟩) hs41 ?_
  case y44 => go_simp
  try dsimp only [Act.put]
  try simp only [List.setIfInBounds_toArray, List.set_cons_zero, List.set_cons_succ]
  refine wpAnyH_done (by kernel_rfl) ?_ _
  try dsimp only [Act.put]
  try simp only [List.setIfInBounds_toArray, List.set_cons_zero, List.set_cons_succ]
  go_wp2_with fail
  go_ret
  exact ⟨v40, rfl, own_mono O43.out (by omega), B42.out⟩
end Go.Proofs.YtbfhilbagojdnaaGreat
