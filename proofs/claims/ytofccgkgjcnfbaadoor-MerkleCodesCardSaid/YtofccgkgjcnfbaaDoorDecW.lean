/-
  The contract of merkle's Decode: it gives what decP says, and the proof as a value.
  Conditions: at most 2^20 bytes.
-/
import Derived.Test.YtofccgkgjcnfbaaDoorZ
import Derived.Test.YtofccgkgjcnfbaaDoorGRMath3CollEncWREncW
set_option linter.unusedSimpArgs false
namespace Go.Proofs.YtofccgkgjcnfbaaDoor
open Go.RowKit Wr Sh
set_option linter.unusedVariables false
set_option maxRecDepth 100000
abbrev kDecW_0 : Oper := { dst := some 74, op := Op.load 33 (Operand.tmp 73), type := 33, pos := "merkle.go:140", after := #[dD 0], guard := none }
abbrev kDecW_1 : Oper := { dst := some 85, op := Op.buildSlice 33 1 #[(0, Operand.tmp 84)], type := 33, pos := "merkle.go:140", after := #[dD 11], guard := none }
abbrev kDecW_2 : Oper := { dst := some 86, op := Op.call { callee := Callee.builtin Builtin.append, args := #[Operand.tmp 74, Operand.tmp 85], argTypes := #[33, 33] }, type := 33, pos := "merkle.go:140", after := #[dD 1, dD 12], guard := none }
abbrev kDecW_3 : Oper := { dst := some 87, op := Op.fieldAddr 50 (Operand.tmp 11) 2, type := 0, pos := "merkle.go:140", after := #[dP 0, dP 1, dP 2, dP 3, dP 4, dP 5, dP 6, dP 7, dP 8, dP 9, dP 10, dP 11, dP 12, dP 13], guard := none }
abbrev kDecW_4 : Oper := { dst := none, op := Op.store 33 (Operand.tmp 87) (Operand.tmp 86), type := 0, pos := "merkle.go:140", after := #[dD 14, dD 13, dC 13, dP 0, dP 1, dP 2, dP 3, dP 4, dP 5, dP 6, dP 7, dP 8, dP 9, dP 10, dP 11, dP 12, dP 13], guard := none }
theorem decP_form (b : List UInt8) {xs : List Int} {ss ds : List (List UInt8)} {u e1 u2 e2 u3 e3 : Nat} (h1 : decInts b = (xs, u, e1)) (h2 : decStrs (b.drop u) = (ss, u2, e2)) (h3 : decDigs (b.drop (u + u2)) = (ds, u3, e3)) :
  decP b = if e1 ≠ 0 then (noPf, 0, e1) else if xs.length ≠ 2 then (noPf, 0, 2) else if e2 ≠ 0 then (noPf, 0, e2) else if ss.length % 2 ≠ 0 then (noPf, 0, 2) else if e3 ≠ 0 then (noPf, 0, e3)
   else (⟨xs.getD 0 0, xs.getD 1 0, unltx ss, ds⟩, u + u2 + u3, 0) := by
 unfold decP
 simp only [h1, h2, h3]
structure DQ (tP tL : TypeId) (w : World) (f s : Int) (L : List Lf) (ds : List (List UInt8)) (k j m gp : Nat) (P : Option Addr) (c : Nat) (A2 : Option Addr) (c2 : Nat) (A3 : Option Addr) (c3 : Nat) (W : World) : Prop where
 z : Blk W w.heap.size tP ZP
 q : Blk W gp tP (PR f s (.slice P j c) (.slice A3 m c3))
 l : W.ownsRow (w.heap.size + 1) tL 2 (.slice P j c) j (LC (L.take j))
 s : W.ownsRow (w.heap.size + 1) 29 16 (.slice A3 m c3) m (B8 ds.flatten)
 t : W.ownsRow (w.heap.size + 1) 9 1 (.slice A2 k c2) k (LC L)
 b : Below w.heap.size w W
 g : w.heap.size + 1 ≤ gp
theorem DQ.below {tP tL : TypeId} {w W W' : World} {f s : Int} {L : List Lf} {ds : List (List UInt8)} {k j m gp c c2 c3 : Nat} {P A2 A3 : Option Addr} (h : DQ tP tL w f s L ds k j m gp P c A2 c2 A3 c3 W) (hb : Below W.heap.size W W') : DQ tP tL w f s L ds k j m gp P c A2 c2 A3 c3 W' :=
 ⟨h.z.below hb h.z.lt, h.q.below hb h.q.lt, own_below h.l hb, own_below h.s hb, own_below h.t hb, h.b.trans (hb.mono h.b.size), h.g⟩
theorem DQ.grow {tP tL : TypeId} {w W W' : World} {f s : Int} {L : List Lf} {ds : List (List UInt8)} {k j m gp c c2 c3 c' j' : Nat} {P A2 A3 P' : Option Addr} (h : DQ tP tL w f s L ds k j m gp P c A2 c2 A3 c3 W) (ho : W'.ownsRow (w.heap.size + 1) tL 2 (.slice P' j' c') j' (LC (L.take j'))) (hg : W.grownBy W' (Value.slice P j c).ownBlock) (h1 : tP ≠ tL) (h2 : (29 : TypeId) ≠ tL) (h3 : (9 : TypeId) ≠ tL) (h4 : (29 : TypeId) ≠ tP) (h5 : (9 : TypeId) ≠ tP) :
  DQ tP tL w f s L ds k j' m gp P' c' A2 c2 A3 c3 (W'.setCell ⟨gp, 2, none⟩ (.slice P' j' c')) := by
 have hq := blk_other h.q h.l hg h1
 have hz := blk_other h.z h.l hg h1
 have hs := own_other h.s h.l hg h2
 have ht := own_other h.t h.l hg h3
 have hb : Below w.heap.size w W' := h.b.trans ⟨hg.os, hg.tape, hg.output, hg.size, fun q hk => hg.block q (Nat.lt_of_lt_of_le hk h.b.size) (fun e => absurd (h.l.lt q e.symm).1 (by omega))⟩
 have hgp := h.g
 exact ⟨hz.far (p := ⟨gp, 2, none⟩) (by show w.heap.size ≠ gp; omega) _, hq.put 2 _, own_cell ho (own_typed ho hq (fun e => h1 e.symm)), own_cell hs (own_typed hs hq h4), own_cell ht (own_typed ht hq h5), hb.setCell (p := ⟨gp, 2, none⟩) (by show w.heap.size ≤ gp; omega) _, h.g⟩
theorem Sb_ltx : ∀ L : List Lf, W1.Sb (ltx L) = LC L
 | [] => rfl
 | x :: L => by
  rw [ltx_cons, LC_cons]
  show Value.string ⟨x.1.data.toList.toArray⟩ :: Value.string ⟨x.2.data.toList.toArray⟩ :: W1.Sb (ltx L) = _
  rw [Sb_ltx L]
theorem ltx_unltx : ∀ (n : Nat) (T : List (List UInt8)), T.length = 2 * n → ltx (unltx T) = T
 | 0, T, h => by
  have e : T = [] := List.eq_nil_of_length_eq_zero (by omega)
  subst e; rfl
 | n + 1, [], h => by simp at h
 | n + 1, [a], h => by simp at h; omega
 | n + 1, a :: b :: r, h => by
  have ih := ltx_unltx n r (by simp at h; omega)
  show ltx ((bs a, bs b) :: unltx r) = _
  rw [ltx_cons, ih, bs_list, bs_list]
theorem flat_ge {α : Type} (e : α → List UInt8) : ∀ l : List α, (∀ x ∈ l, 1 ≤ (e x).length) → l.length ≤ (l.map e).flatten.length
 | [], _ => Nat.zero_le _
 | x :: l, h => by
  have ih := flat_ge e l (fun y hy => h y (List.mem_cons_of_mem _ hy))
  have h1 := h x (List.mem_cons_self ..)
  rw [List.map_cons, List.flatten_cons, List.length_append, List.length_cons]; omega
theorem list_few {α : Type} {e : α → List UInt8} {get : List UInt8 → α × Nat × Nat} {least : Nat} {ok : α → Prop} (c : Codec e get least ok) (b : List UInt8) (l : List α) (u : Nat) (h : decList get least b = (l, u, 0)) : l.length ≤ u ∧ u ≤ b.length := by
 obtain ⟨h1, _, h3, h4⟩ := list_back c b l u h
 have := flat_ge e l (fun x hx => Nat.le_trans c.least1 (c.long x (h4 x hx)))
 unfold encList at h3
 rw [List.length_append] at h3
 omega
theorem cells2_below {g o : Nat} {x0 x1 : Value} {W W' : World} (h : W.cell? ⟨g, o, none⟩ = some x0 ∧ W.cell? ⟨g, o + 1, none⟩ = some x1) (hb : Below W.heap.size W W') : W'.cell? ⟨g, o, none⟩ = some x0 ∧ W'.cell? ⟨g, o + 1, none⟩ = some x1 :=
 ⟨(hb.cell (World.block_lt_of_cell? _ _ h.1)).trans h.1, (hb.cell (World.block_lt_of_cell? _ _ h.2)).trans h.2⟩
theorem cells2_row {g o p : Nat} {x0 x1 : Value} {W : World} (h : W.cell? ⟨g, o, none⟩ = some x0 ∧ W.cell? ⟨g, o + 1, none⟩ = some x1) (hp : g ≠ p) (cs : Array Value) : (W.setRow p cs).cell? ⟨g, o, none⟩ = some x0 ∧ (W.setRow p cs).cell? ⟨g, o + 1, none⟩ = some x1 :=
 ⟨(World.cell?_of_block (a := ⟨g, o, none⟩) (heap_setRow_other W p g cs hp)).trans h.1, (World.cell?_of_block (a := ⟨g, o + 1, none⟩) (heap_setRow_other W p g cs hp)).trans h.2⟩
theorem dq_start {tP tL : TypeId} {w Wd u : World} {x0 x1 : Int} {L : List Lf} {ds : List (List UInt8)} {k m c2 c3 : Nat} {A2 A3 : Option Addr} (hz : Blk Wd w.heap.size tP ZP) (hs : Wd.ownsRow (w.heap.size + 1) 29 16 (.slice A3 m c3) m (B8 ds.flatten)) (ht : Wd.ownsRow (w.heap.size + 1) 9 1 (.slice A2 k c2) k (LC L)) (hb : Below w.heap.size w Wd)
  (hu : Below Wd.heap.size Wd u) (hp : Blk u Wd.heap.size tP ZP) : DQ tP tL w x0 x1 L ds k 0 m Wd.heap.size none 0 A2 c2 A3 c3 (u.setRow Wd.heap.size (PR x0 x1 (.slice none 0 0) (.slice A3 m c3)).toArray) := by
 have h1 := hz.lt
 have f : ∀ {e size n : Nat} {v : Value} {xs : List Value}, Wd.ownsRow (w.heap.size + 1) e size v n xs → (u.setRow Wd.heap.size (PR x0 x1 (.slice none 0 0) (.slice A3 m c3)).toArray).ownsRow (w.heap.size + 1) e size v n xs := fun h => own_setRow (own_below h hu) (own_not h (.inr (Nat.le_refl _)))
 exact ⟨(hz.below hu h1).setRow (by omega) _, hp.row _, World.ownsRow_nil _ _ _ _, f hs, f ht, belowRow (hb.trans (hu.mono hb.size)) hb.size _, h1⟩
theorem dq_end {tP tL : TypeId} {w W : World} {x0 x1 : Int} {L : List Lf} {ds : List (List UInt8)} {k j m gp c c2 c3 : Nat} {P A2 A3 : Option Addr} (h : DQ tP tL w x0 x1 L ds k j m gp P c A2 c2 A3 c3 W) (hL : L.length = j) (hm : ds.length = m) (h16 : ∀ d ∈ ds, d.length = 16) :
  ProofV w.heap.size (W.setRow w.heap.size (PR x0 x1 (.slice P j c) (.slice A3 m c3)).toArray) ⟨x0, x1, L, ds⟩ (.agg (PR x0 x1 (.slice P j c) (.slice A3 m c3)).toArray) := by
 have hl := own_setRow (cs := (PR x0 x1 (.slice P j c) (.slice A3 m c3)).toArray) h.l (own_not h.l (.inl (Nat.lt_succ_self _)))
 have hs := own_setRow (cs := (PR x0 x1 (.slice P j c) (.slice A3 m c3)).toArray) h.s (own_not h.s (.inl (Nat.lt_succ_self _)))
 obtain ⟨_, _, e1, a1, a2, a3⟩ := own_form hl
 obtain ⟨_, _, e2, b1, b2, b3⟩ := own_form hs
 cases e1; cases e2
 subst hL hm
 rw [List.take_length] at a3
 have hb : ∀ {e size n : Nat} {A : Option Addr} {cc : Nat} {xs : List Value}, W.ownsRow (w.heap.size + 1) e size (.slice A n cc) n xs → ∀ ad, A = some ad → w.heap.size ≤ ad.block := fun ho ad e1 => by
  subst e1; have := (ho.lt ad.block rfl).1; omega
 exact ⟨P, c, A3, c3, rfl, ⟨a1, a2⟩, ⟨b1, b2⟩, a3, b3, ⟨hb h.l, hb h.s⟩, h16⟩
set_option maxHeartbeats 8000000 in
theorem decode_any (A : Option Addr) (b : List UInt8) (c : Nat) (w : World) (hr : Rd w w.heap.size A (B8 b)) (hc : b.length ≤ c) (hl : b.length ≤ 1048576) :
  Calls Tryd.prog 38 #[.slice A b.length c] w fun e w' => ∃ v, e = .returned (.tuple #[v, .int .i64 ((decP b).2.1 : Nat), .int .i64 ((decP b).2.2 : Nat)]) ∧ ProofV w.heap.size w' (decP b).1 v ∧ Below w.heap.size w w' := by
 have hZ := hZP
 obtain ⟨WB, hW1⟩ : ∃ W, W = w.alloc (.cells ZP.toArray 50) := ⟨_, rfl⟩
 have K1 := Lh (Kz.first hW1)
 have HW := Lh hW1
 have HR := Lh hr
 have HC := Lh hc
 obtain ⟨xs, u, e1, h1⟩ : ∃ xs u e1, decInts b = (xs, u, e1) := ⟨_, _, _, rfl⟩
 obtain ⟨ss, u2, e2, h2⟩ : ∃ ss u2 e2, decStrs (b.drop u) = (ss, u2, e2) := ⟨_, _, _, rfl⟩
 obtain ⟨ds, u3, e3, h3⟩ : ∃ ds u3 e3, decDigs (b.drop (u + u2)) = (ds, u3, e3) := ⟨_, _, _, rfl⟩
 have hF := decP_form b h1 h2 h3
 obtain ⟨P, hP⟩ : ∃ P, P = decP b := ⟨_, rfl⟩
 rw [← hP] at hF ⊢
 have D1 := Lh h1
 have D2 := Lh h2
 have D3 := Lh h3
 have HC1 := Lh (show Calls Tryd.prog 66 #[.slice A b.length c] WB fun e w' => ∃ v', e = .returned (.tuple #[v', .int .i64 (u : Nat), .int .i64 (e1 : Nat)]) ∧ w'.ownsRow WB.heap.size 3 1 v' xs.length (I64 xs) ∧ Below WB.heap.size WB w' from by
  have := W1.getInts_any A b c WB ((hr.below K1.out.b).more K1.out.b.size) hc (by omega)
  rw [h1] at this; exact this)
 obtain ⟨n, hn⟩ : ∃ n, n = b.length := ⟨_, rfl⟩
 rw [← hn] at HC1 hl ⊢
 have HN := Lh hn
 have ZS := Lh (show (Tryd.prog.info? 50).map (·.size) = some ZP.toArray.size from size50A _ _ _ _)
 clear h1 h2 h3 hW1 hr hc hP hn
 by_cases he1 : e1 = 0
 ·
  subst he1
  by_cases hx : xs.length = 2
  ·
   rw [if_neg (by simp), if_neg (by simpa using hx)] at hF
   have hu : u ≤ b.length := (list_back codecInt b xs u D1.out).1
   have hd : (b.drop u).length = n - u := by rw [List.length_drop, HN.out]
   have hrc := HR.out.cut u c (by rw [B8_len]; omega) (by rw [B8_len]; exact HC.out)
   rw [← W1.B8_drop] at hrc
   obtain ⟨A', hA'⟩ : ∃ A', A' = (if c = u then A else A.map (·.add u)) := ⟨_, rfl⟩
   have hsl := slice_from A n c u (by rw [HN.out]; exact hu) (by rw [HN.out]; exact HC.out)
   rw [← hA'] at hrc hsl
   have HC2 := Lh (fun (W : World) (hb : Below w.heap.size w W) => show Calls Tryd.prog 67 #[.slice A' (n - u) (c - u)] W fun e w' => ∃ v', e = .returned (.tuple #[v', .int .i64 (u2 : Nat), .int .i64 (e2 : Nat)]) ∧ w'.ownsRow W.heap.size 9 1 v' ss.length (W1.Sb ss) ∧ Below W.heap.size W w' from by
    have := W1.getStrings_any A' (b.drop u) (c - u) W ((hrc.below hb).more hb.size) (by rw [hd, HN.out]; have := HC.out; omega) (by rw [hd]; omega)
    rw [D2.out, hd] at this; exact this)
   have HSL := Lh hsl
   clear hrc hA' hsl hd hu
   rw [hx] at HC1
   by_cases he2 : e2 = 0
   ·
    subst he2
    rw [if_neg (by simp)] at hF
    obtain ⟨k, hk⟩ : ∃ k, k = ss.length := ⟨_, rfl⟩
    have HK := Lh hk
    rw [← hk] at hF HC2
    by_cases hodd : k % 2 = 0
    ·
     have hu := (list_back codecInt b xs u D1.out).1
     have hu2 := (list_back codecStr (b.drop u) ss u2 D2.out).1
     rw [if_neg (by simpa using hodd)] at hF
     have huu : u + u2 ≤ b.length := by rw [List.length_drop] at hu2; omega
     have hd : (b.drop (u + u2)).length = n - (u + u2) := by rw [List.length_drop, HN.out]
     have hrc := HR.out.cut (u + u2) c (by rw [B8_len]; omega) (by rw [B8_len]; exact HC.out)
     rw [← W1.B8_drop] at hrc
     obtain ⟨A'', hA''⟩ : ∃ A'', A'' = (if c = u + u2 then A else A.map (·.add (u + u2))) := ⟨_, rfl⟩
     have HEV := Lh hodd
     have huu' := Lh huu
     have hsl2 : ∀ W : World, (Instr.sliceAt 39 (.slice A n c) (some (.int .i64 ((u : Int) + (u2 : Int)))) none none).run Tryd.prog W = .ok (.slice A'' (n - (u + u2)) (c - (u + u2))) W := by
      intro W
      have := slice_from A n c (u + u2) (by rw [HN.out]; exact huu) (by rw [HN.out]; exact HC.out) W
      rw [← hA'', Int.natCast_add] at this; exact this
     rw [← hA''] at hrc
     have HC3 := Lh (fun (W : World) (hb : Below w.heap.size w W) => show Calls Tryd.prog 68 #[.slice A'' (n - (u + u2)) (c - (u + u2))] W fun e w' => ∃ v', e = .returned (.tuple #[v', .int .i64 (u3 : Nat), .int .i64 (e3 : Nat)]) ∧ w'.ownsRow W.heap.size 29 16 v' ds.length (W1.Dg ds) ∧ Below W.heap.size W w' from by
      have := W1.getDigests_any A'' (b.drop (u + u2)) (c - (u + u2)) W ((hrc.below hb).more hb.size) (by rw [hd, HN.out]; have := HC.out; omega) (by rw [hd]; omega)
      rw [D3.out, hd] at this; exact this)
     have hm : Int.tmod (k : Int) 2 = 0 := by rw [Int.tmod_eq_emod_of_nonneg (Int.natCast_nonneg k)]; omega
     have huuI : (u : Int) + (u2 : Int) ≤ 1048576 := by rw [← HN.out] at huu; omega
     have HAA := Lh hA''
     have HSL2 := Lh hsl2
     clear hrc hsl2 hA'' hd hu hu2 huu hodd hk
     by_cases he3 : e3 = 0
     ·
      subst he3
      rw [if_neg (by simp)] at hF
      obtain ⟨x0, x1, hxx⟩ : ∃ x0 x1, xs = [x0, x1] := by
       match xs, hx with
       | [a, b], _ => exact ⟨a, b, rfl⟩
      subst hxx
      obtain ⟨L, hL⟩ : ∃ L, L = unltx ss := ⟨_, rfl⟩
      obtain ⟨K, hK2⟩ : ∃ K, k = 2 * K := ⟨k / 2, by have := HEV.out; omega⟩
      have hss : ltx L = ss := by rw [hL]; exact ltx_unltx K ss (by rw [← HK.out]; exact hK2)
      have hLK : L.length = K := by have := ltx_len L; rw [hss, ← HK.out] at this; omega
      have hfew := list_few codecStr (b.drop u) ss u2 D2.out
      have hkb : k ≤ 1048576 := by rw [HK.out]; have := hfew.1; have := hfew.2; rw [List.length_drop] at this; have := HN.out; omega
      have hdig := (list_back codecDig (b.drop (u + u2)) ds u3 D3.out)
      have hd16 : ∀ d ∈ ds, d.length = 16 := hdig.2.2.2
      have hu3 := hdig.1
      rw [List.length_drop] at hu3
      obtain ⟨m, hm3⟩ : ∃ m, m = ds.length := ⟨_, rfl⟩
      have HM := Lh hm3
      rw [← hm3] at HC3
      have hSb : W1.Sb ss = LC L := by rw [← hss, Sb_ltx]
      rw [hSb] at HC2
      have HF := Lh (show P = (⟨x0, x1, L, ds⟩, u + u2 + u3, 0) by rw [hF, hL]; rfl)
      have HLK := Lh hLK
      have HK2 := Lh hK2
      have H16 := Lh hd16
      have hKI : (k : Int) = 2 * (K : Int) := by omega
      have HKI := Lh hKI
      have hK0 : K ≤ 1048576 := by omega
      have HUU := Lh (show u + u2 + u3 ≤ 1048576 by have := HN.out; have := huu'.out; omega)
      have hsl := HSL.out
      have hsl2 := HSL2.out
      clear hF hx hL hss hLK hfew hdig hd16 hu3 hm3 hSb hK2 hKI
      go_enter Tryd.func38, Tryd.ntmps38
      go_upto_region 6 with (go_at_call 66; rw [← HW.out]; (with_reducible refine HC1.out.mono ?_); rintro e w2 ⟨v1, rfl, ho, hb⟩; obtain ⟨A1, c1, rfl, hc1, hnil1, hrd1⟩ := own_form ho; have HB2 := Lh hb; have HR1 := Lh hrd1; clear ho hb hrd1 hnil1 hc1)
      have K2 := Lh (K1.out.below HB2.out)
      obtain ⟨g1, o1, hA1, _, hcl1⟩ := HR1.out (by intro e; cases e)
      subst hA1
      have HX2 := Lh (show w2.cell? ⟨g1, o1, none⟩ = some (.int .i64 x0) ∧ w2.cell? ⟨g1, o1 + 1, none⟩ = some (.int .i64 x1) from ⟨hcl1 0 _ rfl, hcl1 1 _ rfl⟩)
      clear hcl1 HR1
      go_upto_region 12 with (go_at_call 67; (with_reducible refine (HC2.out _ K2.out.b).mono ?_); rintro e w3 ⟨v2, rfl, ho, hb⟩; have hho := ho; obtain ⟨A2, c2, rfl, hc2, hnil2, hrd2⟩ := own_form hho; have HB3 := Lh hb; have OT3 := Lh (own_base ho (show w.heap.size + 1 ≤ w2.heap.size from K2.out.z.lt)); clear ho hho hb hrd2 hnil2 hc2)
      have K3 := Lh (K2.out.below HB3.out)
      have HX3 := Lh (cells2_below HX2.out HB3.out)
      go_upto_region 15 with (go_at_call 68; (with_reducible refine (HC3.out _ K3.out.b).mono ?_); rintro e w4 ⟨v3, rfl, ho, hb⟩; have hho := ho; obtain ⟨A3, c3, rfl, hc3, hnil3, hrd3⟩ := own_form hho; have HB4 := Lh hb; have OS := Lh (own_base ho (show w.heap.size + 1 ≤ w3.heap.size from K3.out.z.lt)); clear ho hho hb hrd3 hnil3 hc3)
      have K4 := Lh (K3.out.below HB4.out)
      have HX4 := Lh (cells2_below HX3.out HB4.out)
      have OT := Lh (own_below OT3.out HB4.out)
      clear HX2 HX3 OT3 HB2 HB3 HB4 K2 K3 hsl hsl2
      go_cut [11] (fun s11 wx => ∃ gp : Nat, s11 = .pointer (some ⟨gp, 0, none⟩) ∧ Hid (DQ 50 41 w x0 x1 L ds k 0 m gp none 0 A2 c2 A3 c3 wx))
      case first =>
       refine wp_region_held (S := fun W => W.cell? ⟨g1, o1, none⟩ = some (.int .i64 x0) ∧ W.cell? ⟨g1, o1 + 1, none⟩ = some (.int .i64 x1)) (by kernel_rfl) ?_
       change wpAnyH _ _ _ _ _ _ _ _ (World.drew w4)
       have hs0 : (World.drew w4).cell? ⟨g1, o1, none⟩ = some (.int .i64 x0) ∧ (World.drew w4).cell? ⟨g1, o1 + 1, none⟩ = some (.int .i64 x1) := HX4.out
       have ZD := Lh (show Blk (World.drew w4) w.heap.size 50 ZP from K4.out.z)
       have OSD := Lh (show (World.drew w4).ownsRow (w.heap.size + 1) 29 16 (.slice A3 m c3) m (B8 ds.flatten) from OS.out.drew)
       have OTD := Lh (show (World.drew w4).ownsRow (w.heap.size + 1) 9 1 (.slice A2 k c2) k (LC L) from OT.out.drew)
       have BD := Lh K4.out.b.drew
       have BG1 := Lh (show g1 < (World.drew w4).heap.size from World.block_lt_of_cell? _ _ hs0.1)
       generalize World.drew w4 = Wd at hs0 ZD OSD OTD BD BG1 ⊢
       refine tkH 0 ({ dst := some 59, op := Op.move (Operand.tmp 5), type := 22, pos := "merkle.go:138", after := #[], guard := none }) (.slice (some ⟨g1, o1, none⟩) 2 c1) hs0 (fun W hW => ?y1) ?_
       case y1 => go_simp
       try simp only [zp, zn, z1, z2, z3]
       refine tkH 1 ({ dst := some 60, op := Op.indexAddr 22 (Operand.tmp 59) (Operand.const (Value.int IntKind.i64 0)), type := 0, pos := "merkle.go:138", after := #[dD 0], guard := none }) (.pointer (some ⟨g1, o1, none⟩)) hs0 (fun W hW => ?y2) ?_
       case y2 => go_simp
       try simp only [zp, zn, z1, z2, z3]
       refine tkH 2 ({ dst := some 61, op := Op.load 3 (Operand.tmp 60), type := 3, pos := "merkle.go:138", after := #[dD 1], guard := none }) (.int .i64 x0) hs0 (fun W hW => by have hcl := hW.1; go_simp) ?_
       try simp only [zp, zn, z1, z2, z3]
       refine tkH 3 ({ dst := some 62, op := Op.move (Operand.tmp 5), type := 22, pos := "merkle.go:138", after := #[], guard := none }) (.slice (some ⟨g1, o1, none⟩) 2 c1) hs0 (fun W hW => ?y4) ?_
       case y4 => go_simp
       try simp only [zp, zn, z1, z2, z3]
       refine tkH 4 ({ dst := some 63, op := Op.indexAddr 22 (Operand.tmp 62) (Operand.const (Value.int IntKind.i64 1)), type := 0, pos := "merkle.go:138", after := #[dD 3], guard := none }) (.pointer (some ⟨g1, o1 + 1, none⟩)) hs0 (fun W hW => ?y5) ?_
       case y5 => go_simp
       try simp only [zp, zn, z1, z2, z3]
       refine tkH 5 ({ dst := some 64, op := Op.load 3 (Operand.tmp 63), type := 3, pos := "merkle.go:138", after := #[dD 4], guard := none }) (.int .i64 x1) hs0 (fun W hW => by have hcl := hW.2; go_simp) ?_
       try simp only [zp, zn, z1, z2, z3]
       refine tkH 6 ({ dst := some 65, op := Op.move (Operand.tmp 10), type := 48, pos := "merkle.go:138", after := #[], guard := none }) (.slice A3 m c3) hs0 (fun W hW => ?y7) ?_
       case y7 => go_simp
       try simp only [zp, zn, z1, z2, z3]
       refine tkH 7 ({ dst := some 66, op := Op.build 50 #[(0, Operand.tmp 61), (1, Operand.tmp 64), (3, Operand.tmp 65)], type := 50, pos := "merkle.go:138", after := #[dD 2, dD 5, dD 6], guard := none }) (.agg (PR x0 x1 (.slice none 0 0) (.slice A3 m c3)).toArray) hs0 (fun W hW => by clear hZ; go_simp; rfl) ?_
       try simp only [zp, zn, z1, z2, z3]
       refine wpAnyH_ready (rs := [8]) (by kernel_rfl) (by simp) ?_
       refine AllReadyH.cons (o := { dst := some 11, op := Op.alloc 50, type := 0, pos := "merkle.go:138", after := #[], guard := none }) rfl (fun K hK => ?_) AllReadyH.nil
       rw [if_pos (by rfl)]
       have hbt := (Below.refl Wd.heap.size Wd).alloc (Nat.le_refl _) (.cells ZP.toArray 50)
       have k10 := Lh hbt
       have hs11 := cells2_below hs0 hbt
       have z12 := Lh (Blk.new Wd 50 ZP)
       clear hbt
       go_simp
       generalize (Wd.alloc (.cells ZP.toArray 50)) = u9 at k10 hs11 z12 ⊢
       refine hK.out _ _ hs11 (fun _ => ?_)
       clear hK K
       try simp only [zp, zn, z1, z2, z3]
       refine wpAnyH_ready (rs := [9]) (by kernel_rfl) (by simp) ?_
       refine AllReadyH.cons (o := { dst := none, op := Op.store 50 (Operand.tmp 11) (Operand.tmp 66), type := 0, pos := "merkle.go:138", after := #[dD 8, dD 7, dP 0, dP 1, dP 2, dP 3, dP 4, dP 5, dP 6, dP 7, dP 8], guard := none }) rfl (fun K hK => ?_) AllReadyH.nil
       rw [if_pos (by rfl)]
       have hs9 : (u9.setRow (Wd.heap.size) (PR x0 x1 (.slice none 0 0) (.slice A3 m c3)).toArray).cell? ⟨g1, o1, none⟩ = some (.int .i64 x0) ∧ (u9.setRow (Wd.heap.size) (PR x0 x1 (.slice none 0 0) (.slice A3 m c3)).toArray).cell? ⟨g1, o1 + 1, none⟩ = some (.int .i64 x1) := cells2_row hs11 (by have := BG1.out; omega) (PR x0 x1 (.slice none 0 0) (.slice A3 m c3)).toArray
       refine wp_store_row 50 (.tmp 11) (.tmp 66) rfl (Wd.heap.size) (PR x0 x1 (.slice none 0 0) (.slice A3 m c3)).toArray rfl rfl 50 _ (show (u9).heap[Wd.heap.size]? = _ from z12.out) (size50A _ _ _ _) (ZP_PR _ _ _ _) (PR_one _ _ _ _ _ _ _ _) ?_
       refine hK.out _ _ hs9 (fun _ => ?_)
       clear hK K
       try simp only [zp, zn, z1, z2, z3]
       refine wpAnyH_done (by kernel_rfl) ?_ _
       try simp only [zp, zn, z1, z2, z3]
       have KE := Lh (show DQ 50 41 w x0 x1 L ds k 0 m Wd.heap.size none 0 A2 c2 A3 c3 (u9.setRow Wd.heap.size (PR x0 x1 (.slice none 0 0) (.slice A3 m c3)).toArray) from
        dq_start ZD.out OSD.out OTD.out BD.out k10.out z12.out)
       go_wp2_with fail
       go_meet
       exact ⟨Wd.heap.size, rfl, KE⟩
      case rest =>
      obtain ⟨gp, rfl, KE⟩ := hcut
      obtain ⟨w5, hw5⟩ : ∃ W, W = wc := ⟨_, rfl⟩
      rw [← hw5] at KE ⊢
      clear hw5 HX4 OT OS K4
      go_wp2_with fail
      go_loopw [12] (fun s12 wr => ∃ (j i : Nat) (P : Option Addr) (c : Nat), j ≤ K ∧ Hid (i = 2 * j) ∧ s12 = .int .i64 (i : Int) ∧ Hid (DQ 50 41 w x0 x1 L ds k j m gp P c A2 c2 A3 c3 wr)) (fun s12 _ => k - (intOf s12).toNat)
      case atStart => exact ⟨0, 0, none, 0, Nat.zero_le _, Lh rfl, rfl, KE⟩
      case round =>
      clear KE
      obtain ⟨j, i, P, c, hj, HI, rfl, HQ⟩ := hrel
      by_cases hlt : i < k
      ·
       have hjK : j < K := by have := HI.out; have := HK2.out; omega
       have hjl : j < L.length := by have := HLK.out; omega
       have hiI : (i : Int) < (k : Int) := by omega
       obtain ⟨i1, hi1⟩ : ∃ i1, i1 = i + 1 := ⟨_, rfl⟩
       have hi1k : i1 < k := by have := HI.out; have := HK2.out; omega
       have hi1I : (i1 : Int) < (k : Int) := by omega
       have HJ1 := Lh (show IntKind.i64.wrap ((i : Int) + 1) = (i1 : Int) by rw [IntWalk.i64_in _ (by omega)]; omega)
       have hiw : IntKind.i64.wrap ((i : Int) + 2) = (i : Int) + 2 := IntWalk.i64_in _ (by omega)
       obtain ⟨k1, hk1⟩ : ∃ x, x = L[j].1 := ⟨_, rfl⟩
       obtain ⟨k2, hk2⟩ : ∃ x, x = L[j].2 := ⟨_, rfl⟩
       have hat := LC_at L j hjl
       have HK1 := Lh (show (LC L)[i]? = some (.string k1) by rw [HI.out, Nat.mul_comm, hk1]; exact hat.1)
       have HK2' := Lh (show (LC L)[i1]? = some (.string k2) by rw [hi1, HI.out, Nat.mul_comm, hk2]; exact hat.2)
       have HT := Lh (show L.take (j + 1) = L.take j ++ [(k1, k2)] by rw [List.take_succ_eq_append_getElem hjl, hk1, hk2])
       obtain ⟨g, cc, hv, _⟩ := HQ.out.t.form (by omega)
       cases hv
       clear hat hk1 hk2 hi1
       go_upto_region 19 with fail
       refine wp_region_held (S := fun W => W.cell? ⟨g, i, none⟩ = some (.string k1) ∧ W.cell? ⟨g, i1, none⟩ = some (.string k2)) (by kernel_rfl) ?_
       change wpAnyH _ _ _ _ _ _ _ _ (World.drew wr)
       have KD := Lh (HQ.out.below (Below.refl _ _).drew)
       have hs0 : (World.drew wr).cell? ⟨g, i, none⟩ = some (.string k1) ∧ (World.drew wr).cell? ⟨g, i1, none⟩ = some (.string k2) := And.intro (own_cellAt KD.out.t HK1.out) (own_cellAt KD.out.t HK2'.out)
       generalize World.drew wr = Wd at KD hs0 ⊢
       refine tkH 0 ({ dst := some 73, op := Op.fieldAddr 50 (Operand.tmp 11) 2, type := 0, pos := "merkle.go:140", after := #[], guard := none }) (.pointer (some ⟨gp, 2, none⟩)) hs0 (fun W hW => ?y1) ?_
       case y1 => go_simp
       try simp only [zp, zn, z1, z2, z3]
       refine tkH 2 ({ dst := some 75, op := Op.move (Operand.tmp 8), type := 47, pos := "merkle.go:140", after := #[], guard := none }) (.slice (some ⟨g, 0, none⟩) k c2) hs0 (fun W hW => ?y2) ?_
       case y2 => go_simp
       try simp only [zp, zn, z1, z2, z3]
       refine tkH 3 ({ dst := some 76, op := Op.move (Operand.tmp 12), type := 3, pos := "merkle.go:140", after := #[], guard := none }) (.int .i64 (i : Int)) hs0 (fun W hW => ?y3) ?_
       case y3 => go_simp
       try simp only [zp, zn, z1, z2, z3]
       refine tkH 4 ({ dst := some 77, op := Op.indexAddr 47 (Operand.tmp 75) (Operand.tmp 76), type := 0, pos := "merkle.go:140", after := #[dD 2, dD 3], guard := none }) (.pointer (some ⟨g, i, none⟩)) hs0 (fun W hW => ?y4) ?_
       case y4 => go_simp
       try simp only [zp, zn, z1, z2, z3]
       refine tkH 5 ({ dst := some 78, op := Op.load 9 (Operand.tmp 77), type := 9, pos := "merkle.go:140", after := #[dD 4], guard := none }) (.string k1) hs0 (fun W hW => by have hcl := hW.1; go_simp) ?_
       try simp only [zp, zn, z1, z2, z3]
       refine tkH 6 ({ dst := some 79, op := Op.move (Operand.tmp 8), type := 47, pos := "merkle.go:140", after := #[], guard := none }) (.slice (some ⟨g, 0, none⟩) k c2) hs0 (fun W hW => ?y6) ?_
       case y6 => go_simp
       try simp only [zp, zn, z1, z2, z3]
       refine tkH 7 ({ dst := some 80, op := Op.move (Operand.tmp 12), type := 3, pos := "merkle.go:140", after := #[], guard := none }) (.int .i64 (i : Int)) hs0 (fun W hW => ?y7) ?_
       case y7 => go_simp
       try simp only [zp, zn, z1, z2, z3]
       refine tkH 8 ({ dst := some 81, op := Op.binOp BinOp.add 3 (Operand.tmp 80) (Operand.const (Value.int IntKind.i64 1)) 3, type := 3, pos := "merkle.go:140", after := #[dD 7], guard := none }) (.int .i64 (i1 : Int)) hs0 (fun W hW => by have hj1 := HJ1.out; go_simp; first | done | exact hj1 | (rw [hj1])) ?_
       try simp only [zp, zn, z1, z2, z3]
       refine tkH 9 ({ dst := some 82, op := Op.indexAddr 47 (Operand.tmp 79) (Operand.tmp 81), type := 0, pos := "merkle.go:140", after := #[dD 6, dD 8], guard := none }) (.pointer (some ⟨g, i1, none⟩)) hs0 (fun W hW => ?y9) ?_
       case y9 => go_simp
       try simp only [zp, zn, z1, z2, z3]
       refine tkH 10 ({ dst := some 83, op := Op.load 9 (Operand.tmp 82), type := 9, pos := "merkle.go:140", after := #[dD 9], guard := none }) (.string k2) hs0 (fun W hW => by have hcl := hW.2; go_simp) ?_
       try simp only [zp, zn, z1, z2, z3]
       refine tkH 11 ({ dst := some 84, op := Op.build 41 #[(0, Operand.tmp 78), (1, Operand.tmp 83)], type := 41, pos := "merkle.go:140", after := #[dD 5, dD 10], guard := none }) (.agg #[.string k1, .string k2]) hs0 (fun W hW => ?y11) ?_
       case y11 => go_simp
       try simp only [zp, zn, z1, z2, z3]
       refine wpAnyH_ready (rs := [1, 12]) (by kernel_rfl) (by simp) ?_
       refine AllReadyH.cons (o := kDecW_0) rfl (fun K hK => ?_) (AllReadyH.cons (o := kDecW_1) rfl (fun K hK => ?_) AllReadyH.nil)
       ·
        rw [if_pos (by rfl)]
        have hcl : Wd.cell? ⟨gp, 2, none⟩ = some (.slice P j c) := (KD.out.q.cell 2).trans rfl
        go_simp
        refine hK.out _ _ hs0 (fun _ => ?_)
        clear hK K
        try simp only [zp, zn, z1, z2, z3]
        refine wpAnyH_ready (rs := [12]) (by kernel_rfl) (by simp) ?_
        refine AllReadyH.cons (o := kDecW_1) rfl (fun K hK => ?_) AllReadyH.nil
        rw [if_pos (by rfl)]
        have Q13 := Lh (KD.out.below ((Below.refl Wd.heap.size Wd).alloc (Nat.le_refl _) (.cells #[.string k1, .string k2] 41)))
        have R14 := Lh (rd_new Wd (LC [(k1, k2)]) 41)
        go_simp
        change Hid (Rd (Wd.alloc (.cells #[.string k1, .string k2] 41)) (Wd.alloc (.cells #[.string k1, .string k2] 41)).heap.size _ _) at R14
        generalize Wd.alloc (.cells #[.string k1, .string k2] 41) = w12 at Q13 R14 ⊢
        generalize Wd.heap.size = g15 at R14 ⊢
        have hs16 := And.intro (own_cellAt Q13.out.t HK1.out) (own_cellAt Q13.out.t HK2'.out)
        refine hK.out _ _ hs16 (fun _ => ?_)
        clear hK K
        try simp only [zp, zn, z1, z2, z3]
        refine wpAnyH_ready (rs := [13]) (by kernel_rfl) (by simp) ?_
        refine AllReadyH.cons (o := kDecW_2) rfl (fun K hK => ?_) AllReadyH.nil
        rw [if_pos (by rfl)]
        refine wp_append_leaves (T := 33) (e := 41) (by kernel_rfl) info41 (.tmp 74) (.tmp 85) rfl (w.heap.size + 1) _ j _ rfl Q13.out.l (some ⟨g15, 0, none⟩) 1 1 _ [(k1, k2)] rfl (fun e => by cases e) rfl R14.out (by omega) (by have := Q13.out.z.lt; omega) ?_
        intro v17 w18 ho hg
        have B21 := Lh (blk_other Q13.out.q Q13.out.l hg (by decide))
        have OT2 := own_other Q13.out.t Q13.out.l hg (by decide)
        have hs23 := And.intro (own_cellAt OT2 HK1.out) (own_cellAt OT2 HK2'.out)
        rw [← LC_append, ← HT.out] at ho
        have hho := ho
        obtain ⟨P19, p20, rfl, _, _, _⟩ := own_form hho
        clear hho
        have F22 := Lh (Q13.out.grow ho hg (by decide) (by decide) (by decide) (by decide) (by decide))
        clear ho hg OT2
        refine hK.out _ _ hs23 (fun _ => ?_)
        clear hK K
        try simp only [zp, zn, z1, z2, z3]
        refine tkH 14 kDecW_3 (.pointer (some ⟨gp, 2, none⟩)) hs23 (fun W hW => ?y24) ?_
        case y24 => go_simp
        try simp only [zp, zn, z1, z2, z3]
        refine wpAnyH_ready (rs := [15]) (by kernel_rfl) (by simp) ?_
        refine AllReadyH.cons (o := kDecW_4) rfl (fun K hK => ?_) AllReadyH.nil
        rw [if_pos (by rfl)]
        have c9 : w18.cell? ⟨gp, 2, none⟩ = some (.slice P j c) := (B21.out.cell 2).trans rfl
        have f9 : w18.frozen? ⟨gp, 2, none⟩ = false := B21.out.frozen 2
        have hs25 := And.intro (own_cellAt F22.out.t HK1.out) (own_cellAt F22.out.t HK2'.out)
        go_simp
        refine hK.out _ _ hs25 (fun _ => ?_)
        clear hK K
        try simp only [zp, zn, z1, z2, z3]
        refine wpAnyH_done (by kernel_rfl) ?_ _
        try simp only [zp, zn, z1, z2, z3]
        go_wp2_with fail
        go_roundw
        case rel => exact ⟨j + 1, i + 2, _, _, by omega, Lh (by have := HI.out; omega), by go_num, F22⟩
        case measure => simp only [intOf]; omega
       ·
        rw [if_pos (by rfl)]
        have Q27 := Lh (KD.out.below ((Below.refl Wd.heap.size Wd).alloc (Nat.le_refl _) (.cells #[.string k1, .string k2] 41)))
        have R28 := Lh (rd_new Wd (LC [(k1, k2)]) 41)
        go_simp
        change Hid (Rd (Wd.alloc (.cells #[.string k1, .string k2] 41)) (Wd.alloc (.cells #[.string k1, .string k2] 41)).heap.size _ _) at R28
        generalize Wd.alloc (.cells #[.string k1, .string k2] 41) = w26 at Q27 R28 ⊢
        generalize Wd.heap.size = g29 at R28 ⊢
        have hs30 := And.intro (own_cellAt Q27.out.t HK1.out) (own_cellAt Q27.out.t HK2'.out)
        refine hK.out _ _ hs30 (fun _ => ?_)
        clear hK K
        try simp only [zp, zn, z1, z2, z3]
        refine wpAnyH_ready (rs := [1]) (by kernel_rfl) (by simp) ?_
        refine AllReadyH.cons (o := kDecW_0) rfl (fun K hK => ?_) AllReadyH.nil
        rw [if_pos (by rfl)]
        have hcl : w26.cell? ⟨gp, 2, none⟩ = some (.slice P j c) := (Q27.out.q.cell 2).trans rfl
        go_simp
        refine hK.out _ _ hs30 (fun _ => ?_)
        clear hK K
        try simp only [zp, zn, z1, z2, z3]
        refine wpAnyH_ready (rs := [13]) (by kernel_rfl) (by simp) ?_
        refine AllReadyH.cons (o := kDecW_2) rfl (fun K hK => ?_) AllReadyH.nil
        rw [if_pos (by rfl)]
        refine wp_append_leaves (T := 33) (e := 41) (by kernel_rfl) info41 (.tmp 74) (.tmp 85) rfl (w.heap.size + 1) _ j _ rfl Q27.out.l (some ⟨g29, 0, none⟩) 1 1 _ [(k1, k2)] rfl (fun e => by cases e) rfl R28.out (by omega) (by have := Q27.out.z.lt; omega) ?_
        intro v31 w32 ho hg
        have B35 := Lh (blk_other Q27.out.q Q27.out.l hg (by decide))
        have OT2 := own_other Q27.out.t Q27.out.l hg (by decide)
        have hs37 := And.intro (own_cellAt OT2 HK1.out) (own_cellAt OT2 HK2'.out)
        rw [← LC_append, ← HT.out] at ho
        have hho := ho
        obtain ⟨P33, p34, rfl, _, _, _⟩ := own_form hho
        clear hho
        have F36 := Lh (Q27.out.grow ho hg (by decide) (by decide) (by decide) (by decide) (by decide))
        clear ho hg OT2
        refine hK.out _ _ hs37 (fun _ => ?_)
        clear hK K
        try simp only [zp, zn, z1, z2, z3]
        refine tkH 14 kDecW_3 (.pointer (some ⟨gp, 2, none⟩)) hs37 (fun W hW => ?y38) ?_
        case y38 => go_simp
        try simp only [zp, zn, z1, z2, z3]
        refine wpAnyH_ready (rs := [15]) (by kernel_rfl) (by simp) ?_
        refine AllReadyH.cons (o := kDecW_4) rfl (fun K hK => ?_) AllReadyH.nil
        rw [if_pos (by rfl)]
        have c9 : w32.cell? ⟨gp, 2, none⟩ = some (.slice P j c) := (B35.out.cell 2).trans rfl
        have f9 : w32.frozen? ⟨gp, 2, none⟩ = false := B35.out.frozen 2
        have hs39 := And.intro (own_cellAt F36.out.t HK1.out) (own_cellAt F36.out.t HK2'.out)
        go_simp
        refine hK.out _ _ hs39 (fun _ => ?_)
        clear hK K
        try simp only [zp, zn, z1, z2, z3]
        refine wpAnyH_done (by kernel_rfl) ?_ _
        try simp only [zp, zn, z1, z2, z3]
        go_wp2_with fail
        go_roundw
        case rel => exact ⟨j + 1, i + 2, _, _, by omega, Lh (by have := HI.out; omega), by go_num, F36⟩
        case measure => simp only [intOf]; omega
      ·
       have hjK : j = K := by have := HI.out; have := HK2.out; omega
       subst hjK
       have hik : i = k := by have := HI.out; have := HK2.out; omega
       subst hik
       have Z3h := Lh (show wr.heap[w.heap.size]? = some (.cells ZP.toArray 50 (0, 0)) from HQ.out.z)
       have huw : IntKind.i64.wrap ((u : Int) + (u2 : Int) + (u3 : Int)) = (u : Int) + (u2 : Int) + (u3 : Int) := IntWalk.i64_in _ (by have := HUU.out; omega)
       go_wp2_with (first
        | (refine wpList_load_at rfl 50 (.tmp 11) rfl ⟨gp, 0, none⟩ rfl (PR x0 x1 (.slice P j c) (.slice A3 m c3)) _ HQ.out.q.at Tryd.underlying50 rfl (size50L _ _ _ _) ?_)
        | (with_reducible refine wpList_store_row rfl 50 (.tmp 2) (.tmp 88) rfl w.heap.size (PR x0 x1 (.slice P j c) (.slice A3 m c3)).toArray rfl rfl 50 _ Z3h.out (size50A _ _ _ _) (ZP_PR _ _ _ _) (PR_one _ _ _ _ _ _ _ _) ?_))
       refine bodyPost_ret (v := .tuple #[.agg (PR x0 x1 (.slice P j c) (.slice A3 m c3)).toArray, .int .i64 ((u : Int) + (u2 : Int) + (u3 : Int)), .int .i64 0]) ?_ rfl ⟨_, by rw [HF.out]; simp only [Int.natCast_add]; rfl, ?_, belowRow HQ.out.b (Nat.le_refl _) _⟩
       ·
        have hr := run_loadVar_row (P := Tryd.prog) _ w.heap.size 50 50 (PR x0 x1 (.slice P j c) (.slice A3 m c3)).toArray (0, 0) _ (heap_setRow wr w.heap.size _ _ 50 Z3h.out) Tryd.underlying50 rfl (size50A _ _ _ _)
        simp [results, Tryd.results38, asAddr, hr]
       ·
        rw [HF.out]
        exact dq_end HQ.out HLK.out HM.out.symm H16.out
     ·
      rw [if_pos he3] at hF
      have HF := Lh hF
      have hE : ¬ (e3 : Int) = 0 := by omega
      have hE2 : ((e3 : Int) == 0) = false := by rw [beq_eq_false_iff_ne]; exact hE
      have hsl := HSL.out
      have hsl2 := HSL2.out
      clear hF he3
      go_enter Tryd.func38, Tryd.ntmps38
      go_upto_region 6 with (go_at_call 66; rw [← HW.out]; with_reducible refine HC1.out.mono ?_; rintro e w2 ⟨v1, rfl, ho, hb⟩; obtain ⟨A1, c1, rfl, hc1, hnil1, hrd1⟩ := own_form ho; have HB2 := Lh hb; clear ho hb hrd1 hnil1 hc1)
      have K2 := Lh (K1.out.below HB2.out)
      go_upto_region 12 with (go_at_call 67; with_reducible refine (HC2.out _ K2.out.b).mono ?_; rintro e w3 ⟨v2, rfl, ho, hb⟩; obtain ⟨A2, c2, rfl, hc2, hnil2, hrd2⟩ := own_form ho; have HB3 := Lh hb; clear ho hb hrd2 hnil2 hc2)
      have K3 := Lh (K2.out.below HB3.out)
      go_upto_region 14 with (go_at_call 68; with_reducible refine (HC3.out _ K3.out.b).mono ?_; rintro e w4 ⟨v3, rfl, ho, hb⟩; obtain ⟨A3, c3, rfl, hc3, hnil3, hrd3⟩ := own_form ho; have HB4 := Lh hb; clear ho hb hrd3 hnil3 hc3)
      have K4 := Lh (K3.out.below HB4.out)
      have Z5 := Lh (show w4.heap[w.heap.size]? = some (.cells ZP.toArray 50 (0, 0)) from K4.out.z)
      go_wp2_with (with_reducible refine wpList_store_row rfl 50 (.tmp 2) (.tmp 57) rfl w.heap.size ZP.toArray rfl rfl 50 _ Z5.out ZS.out rfl ZP_one ?_)
      refine bodyPost_ret (v := .tuple #[.agg ZP.toArray, .int .i64 0, .int .i64 e3]) ?_ rfl ⟨_, by rw [HF.out]; rfl, by rw [HF.out]; exact noPf_V _ _, belowRow K4.out.b (Nat.le_refl _) _⟩
      have hr := run_loadVar_row (P := Tryd.prog) _ w.heap.size 50 50 ZP.toArray (0, 0) _ (heap_setRow w4 w.heap.size ZP.toArray _ 50 Z5.out) Tryd.underlying50 rfl ZS.out
      simp [results, Tryd.results38, asAddr, hr]
    ·
     rw [if_pos hodd] at hF
     have HF := Lh hF
     have hm : Int.tmod (k : Int) 2 = 1 := by rw [Int.tmod_eq_emod_of_nonneg (Int.natCast_nonneg k)]; omega
     have hsl := HSL.out
     clear hF hodd hk
     go_enter Tryd.func38, Tryd.ntmps38
     go_upto_region 6 with (go_at_call 66; rw [← HW.out]; with_reducible refine HC1.out.mono ?_; rintro e w2 ⟨v1, rfl, ho, hb⟩; obtain ⟨A1, c1, rfl, hc1, hnil1, hrd1⟩ := own_form ho; have HB2 := Lh hb; clear ho hb hrd1 hnil1 hc1)
     have K2 := Lh (K1.out.below HB2.out)
     go_upto_region 10 with (go_at_call 67; with_reducible refine (HC2.out _ K2.out.b).mono ?_; rintro e w3 ⟨v2, rfl, ho, hb⟩; obtain ⟨A2, c2, rfl, hc2, hnil2, hrd2⟩ := own_form ho; have HB3 := Lh hb; clear ho hb hrd2 hnil2 hc2)
     have K3 := Lh (K2.out.below HB3.out)
     have Z5 := Lh (show w3.heap[w.heap.size]? = some (.cells ZP.toArray 50 (0, 0)) from K3.out.z)
     go_wp2_with (with_reducible refine wpList_store_row rfl 50 (.tmp 2) (.tmp 43) rfl w.heap.size ZP.toArray rfl rfl 50 _ Z5.out ZS.out rfl ZP_one ?_)
     refine bodyPost_ret (v := .tuple #[.agg ZP.toArray, .int .i64 0, .int .i64 2]) ?_ rfl ⟨_, by rw [HF.out]; rfl, by rw [HF.out]; exact noPf_V _ _, belowRow K3.out.b (Nat.le_refl _) _⟩
     have hr := run_loadVar_row (P := Tryd.prog) _ w.heap.size 50 50 ZP.toArray (0, 0) _ (heap_setRow w3 w.heap.size ZP.toArray _ 50 Z5.out) Tryd.underlying50 rfl ZS.out
     simp [results, Tryd.results38, asAddr, hr]
   ·
    rw [if_pos he2] at hF
    have HF := Lh hF
    have hE : ¬ (e2 : Int) = 0 := by omega
    have hE2 : ((e2 : Int) == 0) = false := by rw [beq_eq_false_iff_ne]; exact hE
    have hsl := HSL.out
    clear hF he2
    go_enter Tryd.func38, Tryd.ntmps38
    go_upto_region 6 with (go_at_call 66; rw [← HW.out]; with_reducible refine HC1.out.mono ?_; rintro e w2 ⟨v1, rfl, ho, hb⟩; obtain ⟨A1, c1, rfl, hc1, hnil1, hrd1⟩ := own_form ho; have HB2 := Lh hb; clear ho hb hrd1 hnil1 hc1)
    have K2 := Lh (K1.out.below HB2.out)
    go_upto_region 8 with (go_at_call 67; with_reducible refine (HC2.out _ K2.out.b).mono ?_; rintro e w3 ⟨v2, rfl, ho, hb⟩; obtain ⟨A2, c2, rfl, hc2, hnil2, hrd2⟩ := own_form ho; have HB3 := Lh hb; clear ho hb hrd2 hnil2 hc2)
    have K3 := Lh (K2.out.below HB3.out)
    have Z5 := Lh (show w3.heap[w.heap.size]? = some (.cells ZP.toArray 50 (0, 0)) from K3.out.z)
    go_wp2_with (with_reducible refine wpList_store_row rfl 50 (.tmp 2) (.tmp 37) rfl w.heap.size ZP.toArray rfl rfl 50 _ Z5.out ZS.out rfl ZP_one ?_)
    refine bodyPost_ret (v := .tuple #[.agg ZP.toArray, .int .i64 0, .int .i64 e2]) ?_ rfl ⟨_, by rw [HF.out]; rfl, by rw [HF.out]; exact noPf_V _ _, belowRow K3.out.b (Nat.le_refl _) _⟩
    have hr := run_loadVar_row (P := Tryd.prog) _ w.heap.size 50 50 ZP.toArray (0, 0) _ (heap_setRow w3 w.heap.size ZP.toArray _ 50 Z5.out) Tryd.underlying50 rfl ZS.out
    simp [results, Tryd.results38, asAddr, hr]
  ·
   rw [if_neg (by simp), if_pos hx] at hF
   have HF := Lh hF
   obtain ⟨k, hk⟩ : ∃ k, k = xs.length := ⟨_, rfl⟩
   rw [← hk] at hx HC1
   have hk2 : ¬ (k : Int) = 2 := by omega
   have HK := Lh hk
   clear hF hx hk
   go_enter Tryd.func38, Tryd.ntmps38
   go_upto_region 5 with (go_at_call 66; rw [← HW.out]; with_reducible refine HC1.out.mono ?_; rintro e w2 ⟨v1, rfl, ho, hb⟩; obtain ⟨A1, c1, rfl, hc1, hnil1, hrd1⟩ := own_form ho; have HB2 := Lh hb; clear ho hb hrd1 hnil1 hc1)
   have K2 := Lh (K1.out.below HB2.out)
   have Z5 := Lh (show w2.heap[w.heap.size]? = some (.cells ZP.toArray 50 (0, 0)) from K2.out.z)
   go_wp2_with (with_reducible refine wpList_store_row rfl 50 (.tmp 2) (.tmp 26) rfl w.heap.size ZP.toArray rfl rfl 50 _ Z5.out ZS.out rfl ZP_one ?_)
   refine bodyPost_ret (v := .tuple #[.agg ZP.toArray, .int .i64 0, .int .i64 2]) ?_ rfl ⟨_, by rw [HF.out]; rfl, by rw [HF.out]; exact noPf_V _ _, belowRow K2.out.b (Nat.le_refl _) _⟩
   have hr := run_loadVar_row (P := Tryd.prog) _ w.heap.size 50 50 ZP.toArray (0, 0) _ (heap_setRow w2 w.heap.size ZP.toArray _ 50 Z5.out) Tryd.underlying50 rfl ZS.out
   simp [results, Tryd.results38, asAddr, hr]
 ·
  rw [if_pos he1] at hF
  have HF := Lh hF
  have hE : ¬ (e1 : Int) = 0 := by omega
  have hE2 : ((e1 : Int) == 0) = false := by rw [beq_eq_false_iff_ne]; exact hE
  clear hF he1
  go_enter Tryd.func38, Tryd.ntmps38
  go_upto_region 3 with (go_at_call 66; rw [← HW.out]; with_reducible refine HC1.out.mono ?_; rintro e w2 ⟨v1, rfl, ho, hb⟩; obtain ⟨A1, c1, rfl, hc1, hnil1, hrd1⟩ := own_form ho; have HB2 := Lh hb; clear ho hb hrd1 hnil1 hc1)
  have K2 := Lh (K1.out.below HB2.out)
  have Z5 := Lh (show w2.heap[w.heap.size]? = some (.cells ZP.toArray 50 (0, 0)) from K2.out.z)
  go_wp2_with (with_reducible refine wpList_store_row rfl 50 (.tmp 2) (.tmp 21) rfl w.heap.size ZP.toArray rfl rfl 50 _ Z5.out ZS.out rfl ZP_one ?_)
  refine bodyPost_ret (v := .tuple #[.agg ZP.toArray, .int .i64 0, .int .i64 e1]) ?_ rfl ⟨_, by rw [HF.out]; rfl, by rw [HF.out]; exact noPf_V _ _, belowRow K2.out.b (Nat.le_refl _) _⟩
  have hr := run_loadVar_row (P := Tryd.prog) _ w.heap.size 50 50 ZP.toArray (0, 0) _ (heap_setRow w2 w.heap.size ZP.toArray _ 50 Z5.out) Tryd.underlying50 rfl ZS.out
  simp [results, Tryd.results38, asAddr, hr]
end Go.Proofs.YtofccgkgjcnfbaaDoor
