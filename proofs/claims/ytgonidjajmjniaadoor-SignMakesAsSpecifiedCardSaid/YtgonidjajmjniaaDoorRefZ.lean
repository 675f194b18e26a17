/-
  The contract of the reference's levels: the nodes of a tree, level by level.
  Conditions: the seed has at most 2^20 bytes, a height from 0 to 6; the reference's table of the round constants is as the text lays it.
-/
import Derived.Test.YtgonidjajmjniaaDoorRefY
namespace Go.Proofs.YtgonidjajmjniaaDoor
open Go.RowKit Wr Sh
set_option linter.unusedVariables false
set_option maxRecDepth 100000

/-- The first nodes of a level. -/
def lev (s : List UInt8) (l n : Nat) : List UInt8 := ((List.range n).map fun k => node s l k).flatten
theorem lev_succ (s : List UInt8) (l n : Nat) : lev s l (n + 1) = lev s l n ++ node s l n := by
  unfold lev; rw [List.range_succ, List.map_append, List.flatten_append]; simp
theorem lev_len (s : List UInt8) (l n : Nat) : (lev s l n).length = 16 * n := by
  induction n with
  | zero => rfl
  | succ n ih => rw [lev_succ, List.length_append, ih, node_len]; omega
theorem lev_dig (s : List UInt8) (l n k : Nat) (hk : k < n) : dig16 (lev s l n) k = node s l k := by
  induction n with
  | zero => omega
  | succ n ih =>
    rw [lev_succ]
    unfold dig16
    rcases Nat.lt_or_ge k n with hlt | hge
    · rw [List.drop_append_of_le_length (by rw [lev_len]; omega), List.take_append_of_le_length (by rw [List.length_drop, lev_len]; omega)]
      exact ih hlt
    · obtain rfl : k = n := by omega
      rw [List.drop_append_of_le_length (by rw [lev_len]; omega), List.drop_eq_nil_of_le (by rw [lev_len]; omega), List.nil_append, List.take_of_length_le (by rw [node_len]; omega)]
theorem und47 : Tryd.prog.underlying 47 = some (.slice 23) := by kernel_rfl
theorem und51 : Tryd.prog.underlying 51 = some (.slice 47) := by kernel_rfl
theorem info47 : (Tryd.prog.info? 47).map (fun i => (i.zero, i.size, i.bytes)) = some (some (.slice none 0 0), 1, 24) := by kernel_rfl
theorem build16 (D : List UInt8) (h : D.length = 16) : ∀ W : World, (Instr.buildSlice 47 1 #[(0, .agg (B8 D).toArray)]).run Tryd.prog W = .ok (.slice (some ⟨W.heap.size, 0, none⟩) 1 1) (W.alloc (.cells (B8 D).toArray 23)) := by
  match D, h with
  | [d0, d1, d2, d3, d4, d5, d6, d7, d8, d9, d10, d11, d12, d13, d14, d15], _ => intro W; kernel_rfl
theorem wp_build16 {w : World} {o : Oper} {a : Act} {K : Act → World → Prop} {Q : Exit → Act → World → Prop} (x : Operand) (ho : o.op = .buildSlice 47 1 #[(0, x)]) (D : List UInt8) (hx : a.eval x = .agg (B8 D).toArray) (h16 : D.length = 16)
    (h : K (a.put o.dst (.slice (some ⟨w.heap.size, 0, none⟩) 1 1)) (w.alloc (.cells (B8 D).toArray 23))) : o.wp Tryd.prog a w K Q := by
  have hb := build16 D h16 w
  unfold Oper.wp execOp
  simp only [ho, List.map_toArray, List.map_cons, List.map_nil, hx, Sem.run_bind, hb, Result.andThen_ok, Sem.run_pure]
  exact h
theorem wpList_build16 {w : World} {ops : Array Oper} {rest : List Oper} {o : Oper} {a : Act} {Q : Exit → Act → World → Prop} (hgd : o.guard = none) (x : Operand) (ho : o.op = .buildSlice 47 1 #[(0, x)]) (D : List UInt8) (hx : a.eval x = .agg (B8 D).toArray) (h16 : D.length = 16)
    (h : wpList Tryd.prog ops Q rest (a.put o.dst (.slice (some ⟨w.heap.size, 0, none⟩) 1 1)) (w.alloc (.cells (B8 D).toArray 23))) : wpList Tryd.prog ops Q (o :: rest) a w :=
  wpList_plain hgd fun K hK => wp_build16 x ho D hx h16 (hK _ _ h)
/-- An own row of digests that is not empty. -/
theorem own_digs {w : World} {base n : Nat} {v : Value} {xs : List UInt8} (h : w.ownsRow base 23 16 v n (B8 xs)) (hn : 0 < n) :
    ∃ g cap, v = .slice (some ⟨g, 0, none⟩) n cap ∧ n ≤ cap ∧ base ≤ g ∧ g < w.heap.size ∧ ∀ k, k < n → ∀ i u, (B8 (dig16 xs k))[i]? = some u → w.cell? ((⟨g, k * 16, none⟩ : Addr).add i) = some u := by
  have hl := h.1
  have h3 := h
  rcases h.2 with ⟨_, h0⟩ | ⟨g, cap, cur, rfl, hb, hg, hnc, _, _, _⟩
  · omega
  · refine ⟨g, cap, rfl, hnc, hb, (h3.lt g rfl).2, fun k hk i u hu => ?_⟩
    have hc := h3.cells (g := g) rfl (k * 16 + i) u (by
      unfold B8 dig16 at hu
      unfold B8
      rw [List.getElem?_map, List.getElem?_take] at hu
      rw [List.getElem?_map]
      split at hu
      · rw [List.getElem?_drop, Nat.mul_comm] at hu; exact hu
      · cases hu)
    rw [Addr.add_lit, Nat.zero_add] at hc
    rw [Addr.add_lit]
    exact hc
theorem own_diff {w : World} {b b' n n' z z' : Nat} {e e' : TypeId} {v v' : Value} {xs xs' : List Value} (h : w.ownsRow b e z v n xs) (h' : w.ownsRow b' e' z' v' n' xs') (he : e ≠ e') : v.ownBlock = none ∨ v.ownBlock ≠ v'.ownBlock := by
  rcases h.2 with ⟨rfl, _⟩ | ⟨g, cap, cur, rfl, _, hg, _⟩
  · exact .inl rfl
  · rcases h'.2 with ⟨rfl, _⟩ | ⟨g', cap', cur', rfl, _, hg', _⟩
    · exact .inr (by simp [Value.ownBlock])
    · refine .inr ?_
      intro e1
      simp [Value.ownBlock] at e1
      subst e1
      rw [hg] at hg'
      injection hg' with hg'
      injection hg' with _ h2 _
      exact he h2
/-- The levels that are there. -/
def LevOK (W : World) (base : Nat) (s : List UInt8) (h k : Nat) (vs : List Value) : Prop :=
  vs.length = k ∧ ∀ j, j < k → ∃ v, vs[j]? = some v ∧ v.oneCell' = true ∧ W.ownsRow base 23 16 v (2 ^ (h - j)) (B8 (lev s j (2 ^ (h - j))))
theorem LevOK.below {W W' : World} {base h k : Nat} {s : List UInt8} {vs : List Value} (hl : LevOK W base s h k vs) (hb : Below W.heap.size W W') : LevOK W' base s h k vs :=
  ⟨hl.1, fun j hj => by obtain ⟨v, h1, h2, h3⟩ := hl.2 j hj; exact ⟨v, h1, h2, own_below h3 hb⟩⟩
theorem LevOK.grown {W W' : World} {base h k n : Nat} {s : List UInt8} {vs xs : List Value} {v : Value} (hl : LevOK W base s h k vs) (ho : W.ownsRow base 47 1 v n xs) (hg : W.grownBy W' v.ownBlock) : LevOK W' base s h k vs :=
  ⟨hl.1, fun j hj => by obtain ⟨u, h1, h2, h3⟩ := hl.2 j hj; exact ⟨u, h1, h2, h3.kept hg (own_diff h3 ho (by decide))⟩⟩
theorem LevOK.snoc {W : World} {base h k : Nat} {s : List UInt8} {vs : List Value} {v : Value} (hl : LevOK W base s h k vs) (hv : v.oneCell' = true) (ho : W.ownsRow base 23 16 v (2 ^ (h - k)) (B8 (lev s k (2 ^ (h - k))))) : LevOK W base s h (k + 1) (vs ++ [v]) := by
  refine ⟨by simp [hl.1], fun j hj => ?_⟩
  rcases Nat.lt_or_ge j k with hlt | hge
  · obtain ⟨u, h1, h2, h3⟩ := hl.2 j hlt
    exact ⟨u, by rw [List.getElem?_append_left (by rw [hl.1]; exact hlt)]; exact h1, h2, h3⟩
  · obtain rfl : j = k := by omega
    exact ⟨v, by rw [List.getElem?_append_right (by rw [hl.1]; omega), hl.1]; simp, hv, ho⟩

set_option maxHeartbeats 4000000 in
theorem levels_any (sd : ByteArray) (h : Nat) (w : World) (hs : sd.size ≤ 1048576) (hh : h ≤ 6) (ht : Tab 0 w) :
    Calls Tryd.prog 26 #[.string sd, .int .i64 (h : Int)] w fun e w' => ∃ v vs, e = .returned v ∧ w'.ownsRow w.heap.size 47 1 v (h + 1) vs ∧ LevOK w' w.heap.size sd.data.toList h (h + 1) vs ∧ Below w.heap.size w w' := by
  obtain ⟨i0, hi0, hz0, hz1, hz2⟩ := info_parts info23
  have HI := Lib.hid (And.intro hi0 (And.intro hz0 (And.intro hz1 hz2)))
  obtain ⟨i4, hi4, hy0, hy1, hy2⟩ := info_parts info47
  have HI4 := Lib.hid (And.intro hi4 (And.intro hy0 (And.intro hy1 hy2)))
  have HT := Lib.hid ht
  obtain ⟨PW, hPW⟩ : ∃ PW : Nat, PW = 2 ^ h := ⟨_, rfl⟩
  have hsh0 : ((2 : Int) ^ h) = (PW : Int) := by rw [hPW]; simp
  have hpw64 : PW ≤ 64 := by rw [hPW]; exact Nat.le_trans (Nat.pow_le_pow_right (by decide) hh) (by decide)
  have hsh : IntKind.i64.wrap ((2 : Int) ^ h) = (PW : Int) := by rw [hsh0]; exact IntWalk.i64_in _ (by omega)
  have hsh2 : IntKind.i64.wrap (1 * (2 : Int) ^ h) = (PW : Int) := by rw [Int.one_mul]; exact hsh
  have HPW := Lib.hid hPW
  clear ht hi0 hz0 hz1 hz2 hi4 hy0 hy1 hy2 hsh0 hPW
  go_enter Tryd.func26, Tryd.ntmps26
  go_wp2_with fail
  go_loopw [5, 6] (fun s5 s6 wr => ∃ i : Nat, i ≤ PW ∧ s6 = .int .i64 (i : Int) ∧ Hid (wr.ownsRow w.heap.size 23 16 s5 i (B8 (lev sd.data.toList 0 i))) ∧ Hid (Below w.heap.size w wr))
    (fun _ s6 _ => PW - (intOf s6).toNat)
  case atStart => exact ⟨0, by omega, rfl, Lib.hid (World.ownsRow_nil _ _ _ _), Lib.hid (Below.refl _ _)⟩
  case round =>
  obtain ⟨i, hi, rfl, ho, hb⟩ := hrel
  by_cases hlt : i < PW
  · obtain ⟨D, hD⟩ : ∃ D, D = sleaf sd.data.toList (i : Int) := ⟨_, rfl⟩
    have HD := Lib.hid hD
    have HDl := Lib.hid (show D.length = 16 by rw [hD]; exact dof_len _ _)
    have HX := Lib.hid (show lev sd.data.toList 0 i ++ D = lev sd.data.toList 0 (i + 1) by rw [lev_succ, hD]; rfl)
    have hlt2 : (i : Int) < (PW : Int) := by omega
    clear hD
    go_wp2_with fail
    refine (rleaf_any sd (i : Int) _ hs ⟨by omega, by omega⟩ (HT.out.below hb.out HT.out.1) D HD).mono ?_; rintro e w2 ⟨rfl, hb2⟩
    have B2 := Lib.hid (hb.out.trans (hb2.mono hb.out.size))
    have O2 := Lib.hid ((own_below ho.out hb2).alloc (.cells (B8 D).toArray 23))
    have B3 := Lib.hid (B2.out.alloc B2.out.size (.cells (B8 D).toArray 23))
    have A3 := Lib.hid (Blk.new w2 23 (B8 D)).at
    have HL := Lib.hid (show (B8 D).length = 1 * 16 by rw [B8_len, HDl.out])
    have hsz3 : w.heap.size ≤ w2.heap.size := B2.out.size
    clear hb2
    go_wp2_with (first
      | (with_reducible refine wpList_build16 rfl (.tmp 20) rfl D rfl HDl.out ?_)
      | (at_builtin; refine wpList_append_own _ rfl (.tmp 17) (.tmp 21) 47 rfl w.heap.size 23 i0 (.agg Z16.toArray) 16 16 und47 HI.out.1 HI.out.2.1 HI.out.2.2.1 HI.out.2.2.2 rfl (by decide) u5 i (B8 (lev sd.data.toList 0 i)) rfl O2.out ⟨w2.heap.size, 0, none⟩ 1 1 (B8 D) rfl HL.out A3.out (B8_one _) (by unfold maxLen; omega) (by omega) B3.out.size ?_; intro v4 w4 o4 hg4 _))
    have B4 := Lib.hid (B3.out.grown hg4 B3.out.size (fun q hq => (O2.out.lt q hq).1))
    have O4 := Lib.hid (show w4.ownsRow w.heap.size 23 16 v4 (i + 1) (B8 (lev sd.data.toList 0 (i + 1))) by rw [← HX.out, B8_append]; exact o4)
    clear o4 hg4
    go_wp2_with fail
    go_roundw
    case rel => exact ⟨i + 1, by omega, by go_num, O4, B4⟩
    case measure => simp only [intOf]; omega
  · obtain rfl : i = PW := by omega
    have hlt2 : ¬ (i : Int) < (i : Int) := by omega
    obtain ⟨A5, c5, hu5, _, _, _⟩ := own_form ho.out
    subst hu5
    have hone : (Value.slice A5 i c5).oneCell' = true := rfl
    obtain ⟨wO, hwO⟩ : ∃ W, W = wr.alloc (.cells #[.slice A5 i c5] 47) := ⟨_, rfl⟩
    have BO0 := Lib.hid (show Below w.heap.size w wO by rw [hwO]; exact hb.out.alloc hb.out.size _)
    have OO0 := Lib.hid (show wO.ownsRow w.heap.size 47 1 (.slice (some ⟨wr.heap.size, 0, none⟩) (0 + 1) 1) (0 + 1) [.slice A5 i c5] from ⟨rfl, .inr ⟨wr.heap.size, 1, #[.slice A5 i c5], rfl, hb.out.size, by rw [hwO]; exact heap_alloc_new wr _, Nat.le_refl _, by decide, rfl, rfl⟩⟩)
    have LV0 := Lib.hid (show LevOK wO w.heap.size sd.data.toList h (0 + 1) [.slice A5 i c5] from ⟨rfl, fun j hj => ⟨.slice A5 i c5, (by rw [show j = 0 by omega]; rfl), hone, (by rw [show j = 0 by omega, Nat.sub_zero, ← HPW.out, hwO]; exact ho.out.alloc _)⟩⟩)
    have HwO := Lib.hid hwO
    clear hwO hlt hi
    go_wp2_with fail
    rw [← HwO.out]
    go_loopw [7, 8] (fun s7 s8 wq => ∃ (l : Nat) (vs : List Value), l ≤ h ∧ s8 = .int .i64 (l : Int) ∧ Hid (wq.ownsRow w.heap.size 47 1 s7 (l + 1) vs) ∧ Hid (LevOK wq w.heap.size sd.data.toList h (l + 1) vs) ∧ Hid (Below w.heap.size w wq))
      (fun _ s8 _ => h - (intOf s8).toNat)
    case atStart => exact ⟨0, [.slice A5 i c5], by omega, rfl, OO0, LV0, BO0⟩
    case round =>
    clear OO0 LV0 BO0 ho hb HwO
    obtain ⟨l, vs, hl, rfl, hoO, hLV, hbO⟩ := hrel
    obtain ⟨wo, rfl⟩ : ∃ wo : World, wo = wr := ⟨_, rfl⟩
    by_cases hlt : l < h
    · obtain ⟨P2, hP2⟩ : ∃ P2 : Nat, P2 = 2 ^ (h - (l + 1)) := ⟨_, rfl⟩
      obtain ⟨NL, hNL⟩ : ∃ NL : Nat, NL = 2 ^ (h - l) := ⟨_, rfl⟩
      have hNP : NL = 2 * P2 := by rw [hNL, hP2, show h - l = (h - (l + 1)) + 1 by omega, Nat.pow_succ, Nat.mul_comm]
      have hP1 : 1 ≤ P2 := by rw [hP2]; exact Nat.one_le_two_pow
      have hP64 : P2 ≤ 64 := by rw [hP2]; exact Nat.le_trans (Nat.pow_le_pow_right (by decide) (by omega : h - (l + 1) ≤ 6)) (by decide)
      obtain ⟨vL, hvL, _, hoL⟩ := hLV.out.2 l (by omega)
      rw [← hNL] at hoL
      obtain ⟨gL, cL, rfl, hcL, hgLb, hgL, hdig⟩ := own_digs hoL (by omega)
      have HDIG := Lib.hid hdig
      rcases hoO.out.2 with ⟨_, h0⟩ | ⟨gO, cO, cur, rfl, hgOb, hgO, hcO, _, _, _⟩
      · omega
      have hcellO : wo.cell? ⟨gO, l, none⟩ = some (.slice (some ⟨gL, 0, none⟩) NL cL) := by
        have := hoO.out.cells (g := gO) rfl l _ hvL
        rw [Addr.add_lit, Nat.zero_add] at this
        exact this
      have hgO2 : gO < wo.heap.size := (hoO.out.lt gO rfl).2
      have HCO := Lib.hid hcellO
      have HGO := Lib.hid hgO2
      have HGL := Lib.hid hgL
      have HNL := Lib.hid (And.intro hNL hP2)
      have hna : NL ≤ 2 * P2 := by omega
      have hnb : 2 * P2 ≤ NL := by omega
      have hlO : (l : Int) < ((l + 1 : Nat) : Int) := by omega
      have BO := hbO
      clear hNL hP2 hNP hvL hoL hdig hgO hgOb hcellO hgO2 hgL hgLb
      go_wp2_with fail
      go_loopw [9, 10] (fun s9 s10 wq => ∃ (k k2 : Nat), k ≤ P2 ∧ s10 = .int .i64 (k2 : Int) ∧ Hid (k2 = 2 * k) ∧ Hid (wq.ownsRow wo.heap.size 23 16 s9 k (B8 (lev sd.data.toList (l + 1) k))) ∧ Hid (Below wo.heap.size wo wq))
        (fun _ s10 _ => 2 * P2 - (intOf s10).toNat)
      case atStart => exact ⟨0, 0, by omega, rfl, Lib.hid rfl, Lib.hid (World.ownsRow_nil _ _ _ _), Lib.hid (Below.refl _ _)⟩
      case round =>
      obtain ⟨k, k2, hk, rfl, hk2, ho, hb⟩ := hrel
      have hk2a : k2 ≤ 2 * k := by have := hk2.out; omega
      have hk2b : 2 * k ≤ k2 := by have := hk2.out; omega
      have hcr : wr.cell? ⟨gO, l, none⟩ = some (.slice (some ⟨gL, 0, none⟩) NL cL) := (hb.out.cell (p := ⟨gO, l, none⟩) HGO.out).trans HCO.out
      by_cases hkl : k < P2
      · obtain ⟨D1, hD1⟩ : ∃ D, D = node sd.data.toList l (2 * k) := ⟨_, rfl⟩
        obtain ⟨D2, hD2⟩ : ∃ D, D = node sd.data.toList l (2 * k + 1) := ⟨_, rfl⟩
        obtain ⟨D, hD⟩ : ∃ D, D = node sd.data.toList (l + 1) k := ⟨_, rfl⟩
        have L1 := Lib.hid (show D1.length = 16 by rw [hD1]; exact node_len _ _ _)
        have L2 := Lib.hid (show D2.length = 16 by rw [hD2]; exact node_len _ _ _)
        have HDl := Lib.hid (show D.length = 16 by rw [hD]; exact node_len _ _ _)
        have HDj := Lib.hid (show D = nodeOf D1 D2 by rw [hD, hD1, hD2]; rfl)
        have HX := Lib.hid (show lev sd.data.toList (l + 1) k ++ D = lev sd.data.toList (l + 1) (k + 1) by rw [lev_succ, hD])
        have h1 := HDIG.out k2 (by omega)
        rw [lev_dig _ _ _ _ (by omega), hk2.out, ← hD1] at h1
        have h2 := HDIG.out (k2 + 1) (by omega)
        rw [lev_dig _ _ _ _ (by omega), hk2.out, ← hD2] at h2
        rw [← hk2.out] at h1 h2
        have HSW := Lib.hid (show ∀ W, Below wo.heap.size wo W → W.cell? ⟨gO, l, none⟩ = some (.slice (some ⟨gL, 0, none⟩) NL cL) ∧ (∀ i u, (B8 D1)[i]? = some u → W.cell? ((⟨gL, k2 * 16, none⟩ : Addr).add i) = some u) ∧ (∀ i u, (B8 D2)[i]? = some u → W.cell? ((⟨gL, (k2 + 1) * 16, none⟩ : Addr).add i) = some u) from fun W hW =>
          ⟨(hW.cell (p := ⟨gO, l, none⟩) HGO.out).trans HCO.out, fun i u hu => by
            have := h1 i u hu
            rw [Addr.add_lit] at this ⊢
            exact (hW.cell (p := ⟨gL, k2 * 16 + i, none⟩) HGL.out).trans this, fun i u hu => by
            have := h2 i u hu
            rw [Addr.add_lit] at this ⊢
            exact (hW.cell (p := ⟨gL, (k2 + 1) * 16 + i, none⟩) HGL.out).trans this⟩)
        have hg1 : (k2 : Int) + 1 < (NL : Int) := by omega
        have q1 : IntKind.i64.wrap ((k2 : Int) + 1) = (k2 : Int) + 1 := IntWalk.i64_in _ (by omega)
        clear hD1 hD2 hD h1 h2
        go_wp2_with fail
        refine wp_region_held (S := fun W => W.cell? ⟨gO, l, none⟩ = some (.slice (some ⟨gL, 0, none⟩) NL cL) ∧ (∀ i u, (B8 D1)[i]? = some u → W.cell? ((⟨gL, k2 * 16, none⟩ : Addr).add i) = some u) ∧ (∀ i u, (B8 D2)[i]? = some u → W.cell? ((⟨gL, (k2 + 1) * 16, none⟩ : Addr).add i) = some u)) (by kernel_rfl) ?_
        change wpAnyH _ _ _ _ _ _ _ _ (World.drew wr)
        have hS0 : (World.drew wr).cell? ⟨gO, l, none⟩ = some (.slice (some ⟨gL, 0, none⟩) NL cL) ∧ (∀ i u, (B8 D1)[i]? = some u → (World.drew wr).cell? ((⟨gL, k2 * 16, none⟩ : Addr).add i) = some u) ∧ (∀ i u, (B8 D2)[i]? = some u → (World.drew wr).cell? ((⟨gL, (k2 + 1) * 16, none⟩ : Addr).add i) = some u) := HSW.out _ hb.out.drew
        have BD := Lib.hid hb.out.drew
        have OD : (World.drew wr).ownsRow wo.heap.size 23 16 u9 k (B8 (lev sd.data.toList (l + 1) k)) := ho.out
        generalize World.drew wr = Wd at hS0 BD OD ⊢
        refine wpAnyH_take (i := 0) (oi := { dst := some 40, op := Op.move (Operand.tmp 9), type := 47, pos := "ref.go:75", after := #[], guard := none }) (v := u9) rfl (by kernel_rfl) (by kernel_rfl) (by kernel_rfl) (fun _ _ _ h => h) (Or.inl ⟨by rfl, fun W hW => ?y1⟩) hS0 ?_
        case y1 => go_simp
        try dsimp only [Act.put]
        try simp only [List.setIfInBounds_toArray, List.set_cons_zero, List.set_cons_succ]
        refine wpAnyH_take (i := 1) (oi := { dst := some 41, op := Op.move (Operand.tmp 7), type := 51, pos := "ref.go:75", after := #[], guard := none }) (v := .slice (some ⟨gO, 0, none⟩) (l + 1) cO) rfl (by kernel_rfl) (by kernel_rfl) (by kernel_rfl) (fun _ _ _ h => h) (Or.inl ⟨by rfl, fun W hW => ?y2⟩) hS0 ?_
        case y2 => go_simp
        try dsimp only [Act.put]
        try simp only [List.setIfInBounds_toArray, List.set_cons_zero, List.set_cons_succ]
        refine wpAnyH_take (i := 2) (oi := { dst := some 42, op := Op.move (Operand.tmp 8), type := 3, pos := "ref.go:75", after := #[], guard := none }) (v := .int .i64 (l : Int)) rfl (by kernel_rfl) (by kernel_rfl) (by kernel_rfl) (fun _ _ _ h => h) (Or.inl ⟨by rfl, fun W hW => ?y3⟩) hS0 ?_
        case y3 => go_simp
        try dsimp only [Act.put]
        try simp only [List.setIfInBounds_toArray, List.set_cons_zero, List.set_cons_succ]
        refine wpAnyH_take (i := 3) (oi := { dst := some 43, op := Op.indexAddr 51 (Operand.tmp 41) (Operand.tmp 42), type := 0, pos := "ref.go:75", after := #[{ on := 1, ground := Ground.data }, { on := 2, ground := Ground.data }], guard := none }) (v := .pointer (some ⟨gO, l, none⟩)) rfl (by kernel_rfl) (by kernel_rfl) (by kernel_rfl) (fun _ _ _ h => h) (Or.inl ⟨by rfl, fun W hW => ?y4⟩) hS0 ?_
        case y4 => (go_simp; intro hq; omega)
        try dsimp only [Act.put]
        try simp only [List.setIfInBounds_toArray, List.set_cons_zero, List.set_cons_succ]
        refine wpAnyH_take (i := 4) (oi := { dst := some 44, op := Op.load 47 (Operand.tmp 43), type := 47, pos := "ref.go:75", after := #[{ on := 3, ground := Ground.data }], guard := none }) (v := .slice (some ⟨gL, 0, none⟩) NL cL) rfl (by kernel_rfl) (by kernel_rfl) (by kernel_rfl) (fun _ _ _ h => h) (Or.inl ⟨by rfl, fun W hW => by have hcl := hW.1; go_simp⟩) hS0 ?_
        try dsimp only [Act.put]
        try simp only [List.setIfInBounds_toArray, List.set_cons_zero, List.set_cons_succ]
        refine wpAnyH_take (i := 5) (oi := { dst := some 45, op := Op.move (Operand.tmp 10), type := 3, pos := "ref.go:75", after := #[], guard := none }) (v := .int .i64 (k2 : Int)) rfl (by kernel_rfl) (by kernel_rfl) (by kernel_rfl) (fun _ _ _ h => h) (Or.inl ⟨by rfl, fun W hW => ?y6⟩) hS0 ?_
        case y6 => go_simp
        try dsimp only [Act.put]
        try simp only [List.setIfInBounds_toArray, List.set_cons_zero, List.set_cons_succ]
        refine wpAnyH_take (i := 6) (oi := { dst := some 46, op := Op.indexAddr 47 (Operand.tmp 44) (Operand.tmp 45), type := 0, pos := "ref.go:75", after := #[{ on := 4, ground := Ground.data }, { on := 5, ground := Ground.data }], guard := none }) (v := .pointer (some ⟨gL, k2 * 16, none⟩)) rfl (by kernel_rfl) (by kernel_rfl) (by kernel_rfl) (fun _ _ _ h => h) (Or.inl ⟨by rfl, fun W hW => ?y7⟩) hS0 ?_
        case y7 => (go_simp; intro hq; omega)
        try dsimp only [Act.put]
        try simp only [List.setIfInBounds_toArray, List.set_cons_zero, List.set_cons_succ]
        refine wpAnyH_take (i := 7) (oi := { dst := some 47, op := Op.load 23 (Operand.tmp 46), type := 23, pos := "ref.go:75", after := #[{ on := 6, ground := Ground.data }], guard := none }) (v := .agg (B8 D1).toArray) rfl (by kernel_rfl) (by kernel_rfl) (by kernel_rfl) (fun _ _ _ h => h) (Or.inl ⟨by rfl, fun W hW => exec_load_row _ _ 23 (.tmp 46) rfl ⟨gL, k2 * 16, none⟩ rfl (B8 D1) W (run_loadVar_at W _ 23 (B8 D1) (.array 16 5) hW.2.1 Tryd.underlying23 rfl (size23 _ L1.out))⟩) hS0 ?_
        try dsimp only [Act.put]
        try simp only [List.setIfInBounds_toArray, List.set_cons_zero, List.set_cons_succ]
        refine wpAnyH_take (i := 8) (oi := { dst := some 48, op := Op.move (Operand.tmp 7), type := 51, pos := "ref.go:75", after := #[], guard := none }) (v := .slice (some ⟨gO, 0, none⟩) (l + 1) cO) rfl (by kernel_rfl) (by kernel_rfl) (by kernel_rfl) (fun _ _ _ h => h) (Or.inl ⟨by rfl, fun W hW => ?y9⟩) hS0 ?_
        case y9 => go_simp
        try dsimp only [Act.put]
        try simp only [List.setIfInBounds_toArray, List.set_cons_zero, List.set_cons_succ]
        refine wpAnyH_take (i := 9) (oi := { dst := some 49, op := Op.move (Operand.tmp 8), type := 3, pos := "ref.go:75", after := #[], guard := none }) (v := .int .i64 (l : Int)) rfl (by kernel_rfl) (by kernel_rfl) (by kernel_rfl) (fun _ _ _ h => h) (Or.inl ⟨by rfl, fun W hW => ?y10⟩) hS0 ?_
        case y10 => go_simp
        try dsimp only [Act.put]
        try simp only [List.setIfInBounds_toArray, List.set_cons_zero, List.set_cons_succ]
        refine wpAnyH_take (i := 10) (oi := { dst := some 50, op := Op.indexAddr 51 (Operand.tmp 48) (Operand.tmp 49), type := 0, pos := "ref.go:75", after := #[{ on := 8, ground := Ground.data }, { on := 9, ground := Ground.data }], guard := none }) (v := .pointer (some ⟨gO, l, none⟩)) rfl (by kernel_rfl) (by kernel_rfl) (by kernel_rfl) (fun _ _ _ h => h) (Or.inl ⟨by rfl, fun W hW => ?y11⟩) hS0 ?_
        case y11 => (go_simp; intro hq; omega)
        try dsimp only [Act.put]
        try simp only [List.setIfInBounds_toArray, List.set_cons_zero, List.set_cons_succ]
        refine wpAnyH_take (i := 11) (oi := { dst := some 51, op := Op.load 47 (Operand.tmp 50), type := 47, pos := "ref.go:75", after := #[{ on := 10, ground := Ground.data }], guard := none }) (v := .slice (some ⟨gL, 0, none⟩) NL cL) rfl (by kernel_rfl) (by kernel_rfl) (by kernel_rfl) (fun _ _ _ h => h) (Or.inl ⟨by rfl, fun W hW => by have hcl := hW.1; go_simp⟩) hS0 ?_
        try dsimp only [Act.put]
        try simp only [List.setIfInBounds_toArray, List.set_cons_zero, List.set_cons_succ]
        refine wpAnyH_take (i := 12) (oi := { dst := some 52, op := Op.move (Operand.tmp 10), type := 3, pos := "ref.go:75", after := #[], guard := none }) (v := .int .i64 (k2 : Int)) rfl (by kernel_rfl) (by kernel_rfl) (by kernel_rfl) (fun _ _ _ h => h) (Or.inl ⟨by rfl, fun W hW => ?y13⟩) hS0 ?_
        case y13 => go_simp
        try dsimp only [Act.put]
        try simp only [List.setIfInBounds_toArray, List.set_cons_zero, List.set_cons_succ]
        refine wpAnyH_take (i := 13) (oi := { dst := some 53, op := Op.binOp BinOp.add 3 (Operand.tmp 52) (Operand.const (Value.int IntKind.i64 1)) 3, type := 3, pos := "ref.go:75", after := #[{ on := 12, ground := Ground.data }], guard := none }) (v := .int .i64 ((k2 : Int) + 1)) rfl (by kernel_rfl) (by kernel_rfl) (by kernel_rfl) (fun _ _ _ h => h) (Or.inl ⟨by rfl, fun W hW => ?y14⟩) hS0 ?_
        case y14 => go_simp
        try dsimp only [Act.put]
        try simp only [List.setIfInBounds_toArray, List.set_cons_zero, List.set_cons_succ]
        refine wpAnyH_take (i := 14) (oi := { dst := some 54, op := Op.indexAddr 47 (Operand.tmp 51) (Operand.tmp 53), type := 0, pos := "ref.go:75", after := #[{ on := 11, ground := Ground.data }, { on := 13, ground := Ground.data }], guard := none }) (v := .pointer (some ⟨gL, (k2 + 1) * 16, none⟩)) rfl (by kernel_rfl) (by kernel_rfl) (by kernel_rfl) (fun _ _ _ h => h) (Or.inl ⟨by rfl, fun W hW => ?y15⟩) hS0 ?_
        case y15 => (go_simp; intro hq; omega)
        try dsimp only [Act.put]
        try simp only [List.setIfInBounds_toArray, List.set_cons_zero, List.set_cons_succ]
        refine wpAnyH_take (i := 15) (oi := { dst := some 55, op := Op.load 23 (Operand.tmp 54), type := 23, pos := "ref.go:75", after := #[{ on := 14, ground := Ground.data }], guard := none }) (v := .agg (B8 D2).toArray) rfl (by kernel_rfl) (by kernel_rfl) (by kernel_rfl) (fun _ _ _ h => h) (Or.inl ⟨by rfl, fun W hW => exec_load_row _ _ 23 (.tmp 54) rfl ⟨gL, (k2 + 1) * 16, none⟩ rfl (B8 D2) W (run_loadVar_at W _ 23 (B8 D2) (.array 16 5) hW.2.2 Tryd.underlying23 rfl (size23 _ L2.out))⟩) hS0 ?_
        try dsimp only [Act.put]
        try simp only [List.setIfInBounds_toArray, List.set_cons_zero, List.set_cons_succ]
        refine wpAnyH_ready (rs := [16]) (by kernel_rfl) (by simp) ?_
        refine AllReadyH.cons (o := { dst := some 56, op := Op.call { callee := Callee.value (Operand.func 43), args := #[Operand.tmp 47, Operand.tmp 55], argTypes := #[23, 23] }, type := 23, pos := "ref.go:75", after := #[{ on := 7, ground := Ground.data }, { on := 15, ground := Ground.data }], guard := none }) rfl (fun K hK => ?_) AllReadyH.nil
        rw [if_pos (by rfl)]
        go_simp
        refine (rnode_any D1 D2 Wd L1.out L2.out (HT.out.below (BO.out.trans (BD.out.mono BO.out.size)) HT.out.1) D HDj).mono ?_; rintro e w2 ⟨rfl, hb2⟩
        have B2 := Lib.hid (BD.out.trans (hb2.mono BD.out.size))
        have O2 := own_below OD hb2
        have hS2 := HSW.out _ B2.out
        clear hb2
        go_wp2_with fail
        refine hK.out _ _ hS2 (fun _ => ?_)
        clear hK K
        try dsimp only [Act.put]
        try simp only [List.setIfInBounds_toArray, List.set_cons_zero, List.set_cons_succ]
        refine wpAnyH_ready (rs := [17]) (by kernel_rfl) (by simp) ?_
        refine AllReadyH.cons (o := { dst := some 57, op := Op.buildSlice 47 1 #[(0, Operand.tmp 56)], type := 47, pos := "ref.go:75", after := #[{ on := 16, ground := Ground.data }], guard := none }) rfl (fun K hK => ?_) AllReadyH.nil
        rw [if_pos (by rfl)]
        refine wp_build16 (.tmp 56) rfl D rfl HDl.out ?_
        have B3 := Lib.hid (B2.out.alloc B2.out.size (.cells (B8 D).toArray 23))
        have O3 := O2.alloc (.cells (B8 D).toArray 23)
        have D3 : Blk (w2.alloc (.cells (B8 D).toArray 23)) w2.heap.size 23 (B8 D) := Blk.new w2 23 (B8 D)
        have hS3 := HSW.out _ B3.out
        generalize w2.alloc (.cells (B8 D).toArray 23) = w3 at B3 O3 D3 hS3 ⊢
        refine hK.out _ _ hS3 (fun _ => ?_)
        clear hK K
        try dsimp only [Act.put]
        try simp only [List.setIfInBounds_toArray, List.set_cons_zero, List.set_cons_succ]
        refine wpAnyH_ready (rs := [18]) (by kernel_rfl) (by simp) ?_
        refine AllReadyH.cons (o := { dst := some 58, op := Op.call { callee := Callee.builtin Builtin.append, args := #[Operand.tmp 40, Operand.tmp 57], argTypes := #[47, 47] }, type := 47, pos := "ref.go:75", after := #[{ on := 0, ground := Ground.data }, { on := 17, ground := Ground.data }, { on := 16, ground := Ground.chain }], guard := none }) rfl (fun K hK => ?_) AllReadyH.nil
        rw [if_pos (by rfl)]
        refine wp_append_own w3 (.tmp 40) (.tmp 57) 47 rfl wo.heap.size 23 i0 (.agg Z16.toArray) 16 16 und47 HI.out.1 HI.out.2.1 HI.out.2.2.1 HI.out.2.2.2 rfl (by decide) u9 k _ rfl O3 ⟨w2.heap.size, 0, none⟩ 1 1 (B8 D) rfl (by rw [B8_len, HDl.out]) D3.at (B8_one _) (by unfold maxLen; omega) (by omega) B3.out.size ?_
        intro v4 w4 O4 hg4 _
        have B4 := Lib.hid (B3.out.grown hg4 B3.out.size (fun q hq => (O3.lt q hq).1))
        have hS4 := HSW.out _ B4.out
        refine hK.out _ _ hS4 (fun _ => ?_)
        clear hK K
        try dsimp only [Act.put]
        try simp only [List.setIfInBounds_toArray, List.set_cons_zero, List.set_cons_succ]
        refine wpAnyH_ready (rs := [19]) (by kernel_rfl) (by simp) ?_
        refine AllReadyH.cons (o := { dst := some 9, op := Op.assign (Operand.tmp 58), type := 47, pos := "ref.go:75", after := #[{ on := 18, ground := Ground.data }, { on := 18, ground := Ground.chain }, { on := 0, ground := Ground.phase }, { on := 1, ground := Ground.phase }, { on := 2, ground := Ground.phase }, { on := 3, ground := Ground.phase }, { on := 4, ground := Ground.phase }, { on := 5, ground := Ground.phase }, { on := 6, ground := Ground.phase }, { on := 7, ground := Ground.phase }, { on := 8, ground := Ground.phase }, { on := 9, ground := Ground.phase }, { on := 10, ground := Ground.phase }, { on := 11, ground := Ground.phase }, { on := 12, ground := Ground.phase }, { on := 13, ground := Ground.phase }, { on := 14, ground := Ground.phase }, { on := 15, ground := Ground.phase }, { on := 16, ground := Ground.phase }, { on := 17, ground := Ground.phase }, { on := 18, ground := Ground.phase }], guard := none }) rfl (fun K hK => ?_) AllReadyH.nil
        rw [if_pos (by rfl)]
        go_simp
        refine hK.out _ _ hS4 (fun _ => ?_)
        clear hK K
        try dsimp only [Act.put]
        try simp only [List.setIfInBounds_toArray, List.set_cons_zero, List.set_cons_succ]
        refine wpAnyH_done (by kernel_rfl) ?_ _
        try dsimp only [Act.put]
        try simp only [List.setIfInBounds_toArray, List.set_cons_zero, List.set_cons_succ]
        have O5 := Lib.hid (show w4.ownsRow wo.heap.size 23 16 v4 (k + 1) (B8 (lev sd.data.toList (l + 1) (k + 1))) by rw [← HX.out, B8_append]; exact O4)
        have B5 := Lib.hid B4
        have HK2 := Lib.hid (show k2 + 2 = 2 * (k + 1) by omega)
        clear O4 B4 O3 B3 D3 O2 hS0 hS2 hS3 hS4 hg4
        go_wp2_with fail
        go_roundw
        case rel =>
          have hr1 : ∃ (kk kk2 : Nat), kk ≤ P2 ∧ Value.int .i64 ((k2 : Int) + 2) = .int .i64 (kk2 : Int) ∧ Hid (kk2 = 2 * kk) ∧ Hid (w4.ownsRow wo.heap.size 23 16 v4 kk (B8 (lev sd.data.toList (l + 1) kk))) ∧ Hid (Below wo.heap.size wo w4) := ⟨k + 1, k2 + 2, by omega, by go_num, HK2, O5, B5.out⟩
          first
            | exact hr1
            | ((repeat apply Exists.intro); exact ⟨hr1, rfl⟩)
        case measure => simp [intOf]; omega
      · obtain rfl : k = P2 := by omega
        have hg1 : ¬ (k2 : Int) + 1 < (NL : Int) := by omega
        obtain ⟨A9, c9, hu9, _, _, _⟩ := own_form ho.out
        subst hu9
        have hb1 : Below wr.heap.size wr (wr.alloc (.cells #[.slice A9 k c9] 47)) := (Below.refl _ _).alloc (Nat.le_refl _) _
        have OA := Lib.hid (own_below (own_below hoO.out hb.out) hb1)
        have LA := Lib.hid ((hLV.out.below hb.out).below hb1)
        have NA := Lib.hid (own_low (own_below ho.out hb1) BO.out.size)
        have BA := Lib.hid (BO.out.trans ((hb.out.trans (hb1.mono hb.out.size)).mono BO.out.size))
        have AA := Lib.hid (show ∀ j u, ([.slice A9 k c9] : List Value)[j]? = some u → (wr.alloc (.cells #[.slice A9 k c9] 47)).cell? ((⟨wr.heap.size, 0, none⟩ : Addr).add j) = some u from (Blk.new wr 47 [.slice A9 k c9]).at)
        have hszA : w.heap.size ≤ (wr.alloc (.cells #[.slice A9 k c9] 47)).heap.size := BA.out.size
        have h1c : ∀ u ∈ ([.slice A9 k c9] : List Value), u.oneCell' = true := by intro u hu; simp only [List.mem_singleton] at hu; rw [hu]; rfl
        have H1c := Lib.hid h1c
        clear hb1 h1c
        go_wp2_with (at_builtin; refine wpList_append_own _ rfl (.tmp 59) (.tmp 61) 51 rfl w.heap.size 47 i4 (.slice none 0 0) 1 24 und51 HI4.out.1 HI4.out.2.1 HI4.out.2.2.1 HI4.out.2.2.2 rfl (by decide) (.slice (some ⟨gO, 0, none⟩) (l + 1) cO) (l + 1) vs rfl OA.out ⟨wr.heap.size, 0, none⟩ 1 1 [.slice A9 k c9] rfl rfl AA.out H1c.out (by unfold maxLen; omega) (by omega) hszA ?_; intro v5 w5 o5 hg5 _)
        have L5 := Lib.hid (LevOK.snoc (LA.out.grown OA.out hg5) (v := .slice A9 k c9) rfl (by rw [← HNL.out.2]; exact NA.out.kept hg5 (own_diff NA.out OA.out (by decide))))
        have B5 := Lib.hid (BA.out.grown hg5 BA.out.size (fun q hq => (OA.out.lt q hq).1))
        have O5 := Lib.hid o5
        clear o5 hg5
        go_wp2_with fail
        go_roundw
        case rel =>
          have hr1 : ∃ (ll : Nat) (vv : List Value), ll ≤ h ∧ Value.int .i64 ((l : Int) + 1) = .int .i64 (ll : Int) ∧ Hid (w5.ownsRow w.heap.size 47 1 v5 (ll + 1) vv) ∧ Hid (LevOK w5 w.heap.size sd.data.toList h (ll + 1) vv) ∧ Hid (Below w.heap.size w w5) := ⟨l + 1, vs ++ [.slice A9 k c9], by omega, by go_num, O5, L5, B5⟩
          first
            | exact hr1
            | ((repeat apply Exists.intro); exact ⟨hr1, rfl⟩)
        case measure => simp [intOf]; omega
    · obtain rfl : l = h := by omega
      go_wp2_with fail
      go_ret
      exact ⟨_, vs, rfl, hoO.out, hLV.out, hbO.out⟩
end Go.Proofs.YtgonidjajmjniaaDoor
