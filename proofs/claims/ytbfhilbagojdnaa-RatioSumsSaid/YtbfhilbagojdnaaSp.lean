/-
  The reference: Spoilt.
  No condition but that the ratio is a valid one.
-/
import Derived.Test.YtbfhilbagojdnaaCp
import Derived.Deep.CutBlock
import Derived.Deep.LoopGhost
namespace Go.Proofs.Ytbfhilbagojdnaa
open Go.RowKit Wr Go.Proofs.Ytbfhilbagojdnaa.Nm
set_option linter.unusedVariables false
set_option maxRecDepth 100000

/-- The box of what is spoilt, and that of the result. -/
structure SpB (w : World) (g7 : Nat) (W : World) (u1 u2 : Value) : Prop where
  x : Blk W g7 28 [u1, u2]
  r : Blk W (w.heap.size + 1) 28 [.slice none 0 0, .slice none 0 0]
  b : Below w.heap.size w W
  g : w.heap.size + 2 ≤ g7
def SpC (w : World) (g7 : Nat) (W : World) : Prop := ∃ C1 m1 j1 C2 m2 j2 r, SpB w g7 W (.slice C1 m1 j1) (.slice C2 m2 j2) ∧ Rk W (.slice C1 m1 j1) (.slice C2 m2 j2) r
section
variable {w W W' : World} {g7 : Nat} {C1 C2 C : Option Addr} {m1 j1 m2 j2 m j : Nat} {u1 u2 : Value} {l l2 : List Nat}
theorem SpB.alloc (h : SpB w g7 W u1 u2) (o : Obj) : SpB w g7 (W.alloc o) u1 u2 := ⟨h.x.alloc o, h.r.alloc o, h.b.alloc h.b.size o, h.g⟩
theorem SpB.below (h : SpB w g7 W u1 u2) (hb : Below W.heap.size W W') : SpB w g7 W' u1 u2 := ⟨h.x.below hb h.x.lt, h.r.below hb h.r.lt, below_step h.b hb, h.g⟩
theorem SpB.grown {q : Nat} (h : SpB w g7 W u1 u2) (hg : W.grownBy W' (some q)) (hq : q ≠ g7) (h0 : w.heap.size + 2 ≤ q) : SpB w g7 W' u1 u2 :=
  ⟨h.x.grown hg (by intro e; injection e with e; exact hq e.symm), h.r.grown hg (by intro e; injection e with e; omega), h.b.grown hg h.b.size (fun k e => by cases e; omega), h.g⟩
theorem SpB.put0 (h : SpB w g7 W u1 u2) (C : Option Addr) (m j : Nat) : SpB w g7 (W.setCell ⟨g7, 0, none⟩ (.slice C m j)) (.slice C m j) u2 :=
  ⟨h.x.put 0 _, h.r.far (p := ⟨g7, 0, none⟩) (by have := h.g; show _ ≠ g7; omega) _, h.b.setCell (p := ⟨g7, 0, none⟩) (by have := h.g; show _ ≤ g7; omega) _, h.g⟩
theorem SpB.put1 (h : SpB w g7 W u1 u2) (C : Option Addr) (m j : Nat) : SpB w g7 (W.setCell ⟨g7, 1, none⟩ (.slice C m j)) u1 (.slice C m j) :=
  ⟨h.x.put 1 _, h.r.far (p := ⟨g7, 1, none⟩) (by have := h.g; show _ ≠ g7; omega) _, h.b.setCell (p := ⟨g7, 1, none⟩) (by have := h.g; show _ ≤ g7; omega) _, h.g⟩
theorem SpB.off (h : SpB w g7 W (.slice C1 m1 j1) (.slice C2 m2 j2)) {v : Value} (hs : Sl W v l) (i : Nat) (u : Value) : Sl (W.setCell ⟨g7, i, none⟩ u) v l := sl_off hs h.x
theorem SpB.fin (h : SpB w g7 W (.slice C1 m1 j1) (.slice C2 m2 j2)) (hs : Sl W (.slice C1 m1 j1) l) (hs2 : Sl W (.slice C2 m2 j2) l2) (ho : Ok l) (ho2 : Ok l2) (hl : l.length ≤ 700) (hl2 : l2.length ≤ 700) : SpC w g7 W :=
  ⟨C1, m1, j1, C2, m2, j2, (l, l2), h, hs, hs2, ⟨ho, ho2⟩, Nat.le_trans hl (by omega), Nat.le_trans hl2 (by omega)⟩
theorem SpB.fin0 (h : SpB w g7 W (.slice C1 m1 j1) (.slice C2 m2 j2)) (hs : Sl W (.slice C m j) l) (hs2 : Sl W (.slice C2 m2 j2) l2) (ho : Ok l) (ho2 : Ok l2) (hl : l.length ≤ 700) (hl2 : l2.length ≤ 700) : SpC w g7 (W.setCell ⟨g7, 0, none⟩ (.slice C m j)) :=
  (h.put0 C m j).fin (h.off hs 0 _) (h.off hs2 0 _) ho ho2 hl hl2
theorem SpB.fin1 (h : SpB w g7 W (.slice C1 m1 j1) (.slice C2 m2 j2)) (hs : Sl W (.slice C1 m1 j1) l) (hs2 : Sl W (.slice C m j) l2) (ho : Ok l) (ho2 : Ok l2) (hl : l.length ≤ 700) (hl2 : l2.length ≤ 700) : SpC w g7 (W.setCell ⟨g7, 1, none⟩ (.slice C m j)) :=
  (h.put1 C m j).fin (h.off hs 1 _) (h.off hs2 1 _) ho ho2 hl hl2
theorem own_off {base g n : Nat} {v : Value} {xs : List Value} {i : Nat} {u u1 u2 : Value} (h : W.ownsRow base 60 1 v n xs) (hb : Blk W g 28 [u1, u2]) : (W.setCell ⟨g, i, none⟩ u).ownsRow base 60 1 v n xs := by
  refine ⟨h.1, ?_⟩
  rcases h.2 with hn | ⟨g', cap, cur, rfl, hb', hgg, rest⟩
  · exact .inl hn
  · refine .inr ⟨g', cap, cur, rfl, hb', ?_, rest⟩
    have hne : g' ≠ g := by
      intro e
      subst e
      unfold Blk at hb
      rw [hgg] at hb
      injection hb with hb
      injection hb with _ hb
      exact absurd hb (by decide)
    exact (Below.heap_setCell W ⟨g, i, none⟩ u g' hne).trans hgg
theorem Ro.off {B g n c : Nat} {l : List Nat} {u u1 u2 : Value} (h : Ro B W g n c l) (gx i : Nat) (hb : Blk W gx 28 [u1, u2]) : Ro B (W.setCell ⟨gx, i, none⟩ u) g n c l :=
  ⟨own_off h.o hb, by have := h.lt; simpa using this⟩
end
def SpL (w : World) (g7 g1 N1 c1 : Nat) (L1 : List Nat) (k : Nat) (W : World) : Prop := ∃ g2 N2 c2 L2, SpB w g7 W (.slice (some ⟨g1, 0, none⟩) N1 c1) (.slice (some ⟨g2, 0, none⟩) N2 c2) ∧ Ro (w.heap.size + 2) W g1 N1 c1 L1 ∧ Ro (w.heap.size + 2) W g2 N2 c2 L2 ∧ g1 ≠ g2 ∧ g2 ≠ g7 ∧ Ok L2 ∧ N2 ≤ 700 ∧ 67 ≤ N2 + k
theorem times_len {a b : List Nat} (ha : Ok a) (hb : Ok b) : (lim (num a * num b)).length ≤ a.length + b.length := by
  rw [lim_len, Nat.pow_add]
  have h1 := num_lt a ha; have h2 := num_lt b hb
  exact Nat.mul_lt_mul'' h1 h2
theorem den_two {l : List Nat} (ho : Ok l) (hl : l.length ≤ 64) : Ok (denL l) ∧ (denL l).length ≤ 64 := by
  unfold denL
  split
  · exact ⟨Ok.cons (by omega) Ok.nil, by simp⟩
  · exact ⟨ho, hl⟩
def SpP (w : World) (e : Ending) (w' : World) : Prop := ∃ u1 u2 r, e = .returned (.agg #[u1, u2]) ∧ Rk w' u1 u2 r ∧ Below w.heap.size w w'
set_option maxHeartbeats 8000000 in
theorem spoilt_any {v1 v2 : Value} {x y : Nat} {w : World} (how by_ : Int) (hr : Rk w v1 v2 (lim x, dl y)) (hv : Vr x y) (hh : -9223372036854775808 ≤ how ∧ how ≤ 9223372036854775807) (hb : -9223372036854775808 ≤ by_ ∧ by_ ≤ 9223372036854775807) : Calls Try.prog 31 #[.agg #[v1, v2], .int .i64 how, .int .i64 by_] w (SpP w) := by
  have a1 := arI_lo how 7 (by omega); have a2 := arI_hi how 7 (by omega)
  have b1 := arI_lo by_ 5 (by omega); have b2 := arI_hi by_ 5 (by omega)
  have HA := Lib.hid (fun W => around_any how 7 W hh (by omega)); have HB := Lib.hid (fun W => around_any by_ 5 W hb (by omega))
  obtain ⟨q, hq⟩ : ∃ q, q = arI how 7 := ⟨_, rfl⟩
  obtain ⟨k, hk⟩ := Int.eq_ofNat_of_zero_le b1
  rw [← hq] at HA a1 a2
  rw [hk] at HB b2
  obtain ⟨l1, l2, l3⟩ := Vr.len hv
  have hs1 : Sl w v1 (lim x) := hr.s1
  have hs2 : Sl w v2 (dl y) := hr.s2
  have HO := Lib.hid (And.intro (lim_ok x) (dl_ok y)); have HL := Lib.hid (And.intro l1 l3)
  generalize lim x = L1 at hs1 HO HL
  generalize dl y = L2 at hs2 HO HL
  have HQ := Lib.hid (show q = 0 ∨ q = 1 ∨ q = 2 ∨ q = 3 ∨ q = 4 ∨ q = 5 ∨ q = 6 by omega)
  have hkI : (k : Int) < 5 := by omega
  have HK5 := Lib.hid (show k < 5 by omega)
  obtain ⟨A1, n1, k1, e1⟩ := sl_form hs1
  obtain ⟨A2, n2, k2, e2⟩ := sl_form hs2
  subst e1 e2
  obtain ⟨x1, x2, x3⟩ := boxes2 w (.slice A1 n1 k1) (.slice A2 n2 k2) (.slice none 0 0) (.slice none 0 0)
  have HX1 := Lib.hid x1; have HX2 := Lib.hid x2; have HX3 := Lib.hid x3; have HS1 := Lib.hid (hs1.below x3); have HS2 := Lib.hid (hs2.below x3)
  clear x1 x2 x3 hs1 hs2 hr hv hh hb hk hq l1 l2 l3 a1 a2 b1 b2
  go_enter Try.func31, Try.ntmps31
  go_upto_region 1 with (fail)
  obtain ⟨W0, hW0⟩ : ∃ W, ((w.alloc (.cells #[.slice A1 n1 k1, .slice A2 n2 k2] 28)).alloc (.cells #[.slice none 0 0, .slice none 0 0] 28)) = W := ⟨_, rfl⟩
  rw [hW0] at HX1 HX2 HX3 HS1 HS2 ⊢
  clear hW0
  have HCP := Lib.hid (copy_any HS1.out HS2.out (by have := HL.out.1; omega) (by have := HL.out.2; omega))
  obtain ⟨hc1, hc2, hf1, hf2⟩ := blk_cells2 HX1.out
  go_wp2_with fail
  refine HCP.out.mono ?_
  rintro e w1 ⟨g1, c1, g2, c2, rfl, o1, o2, hne, hb⟩
  have X1 := Lib.hid (HX2.out.below hb HX2.out.lt); have B1 := Lib.hid (below_step HX3.out hb)
  have O1 := Lib.hid (o1.base (B' := w.heap.size + 2) HX2.out.lt); have O2 := Lib.hid (o2.base (B' := w.heap.size + 2) HX2.out.lt); have NE := Lib.hid hne
  clear hne hb o1 o2 HCP HS1 HS2 HX1 HX2 HX3 hc1 hc2 hf1 hf2
  obtain ⟨N1, hN1⟩ : ∃ n, n = L1.length := ⟨_, rfl⟩
  obtain ⟨N2, hN2⟩ : ∃ n, n = L2.length := ⟨_, rfl⟩
  rw [← hN1] at O1
  rw [← hN2] at O2
  rw [← hN1, ← hN2]
  clear hN1 hN2
  go_upto_region 2 with (fail)
  have SB := Lib.hid (show SpB w w1.heap.size (w1.alloc (.cells #[.slice (some ⟨g1, 0, none⟩) N1 c1, .slice (some ⟨g2, 0, none⟩) N2 c2] 28)) (.slice (some ⟨g1, 0, none⟩) N1 c1) (.slice (some ⟨g2, 0, none⟩) N2 c2) from ⟨box0 _ _ _, X1.out.alloc _, B1.out.alloc B1.out.size _, X1.out.lt⟩)
  have G := Lib.hid (show g1 ≠ w1.heap.size ∧ g2 ≠ w1.heap.size from ⟨Nat.ne_of_lt O1.out.lt, Nat.ne_of_lt O2.out.lt⟩)
  have O1' := Lib.hid (O1.out.alloc (.cells #[.slice (some ⟨g1, 0, none⟩) N1 c1, .slice (some ⟨g2, 0, none⟩) N2 c2] 28)); have O2' := Lib.hid (O2.out.alloc (.cells #[.slice (some ⟨g1, 0, none⟩) N1 c1, .slice (some ⟨g2, 0, none⟩) N2 c2] 28))
  clear X1 B1 O1 O2
  obtain ⟨W2, hW2⟩ : ∃ W, w1.alloc (.cells #[.slice (some ⟨g1, 0, none⟩) N1 c1, .slice (some ⟨g2, 0, none⟩) N2 c2] 28) = W := ⟨_, rfl⟩
  obtain ⟨g7, hg7⟩ : ∃ g, w1.heap.size = g := ⟨_, rfl⟩
  rw [hW2] at SB O1' O2' ⊢
  rw [hg7] at SB G ⊢
  have O1 := O1'; have O2 := O2'
  clear hW2 hg7 O1' O2'
  go_upto_block 0 with (go_at_call 10; first | ((with_reducible refine (HA.out _).mono ?_); rintro e w' ⟨rfl, rfl⟩) | ((with_reducible refine (HB.out _).mono ?_); rintro e w' ⟨rfl, rfl⟩))
  clear HA HB
  go_cut [] from 16 (fun wx => Hid (SpC w g7 wx))
  case first =>
    rcases HQ.out with hq | hq | hq | hq | hq | hq | hq
    · subst hq
      obtain ⟨hc1, hc2, hf1, hf2⟩ := blk_cells2 SB.out.x
      have HSL := Lib.hid (sl_one1 W2 0)
      have O1b := Lib.hid (O1.out.alloc (.cells #[.int .u32 ((0 : Nat) : Int)] 60)); have O2b := Lib.hid (O2.out.alloc (.cells #[.int .u32 ((0 : Nat) : Int)] 60)); have SBb := Lib.hid (SB.out.alloc (.cells #[.int .u32 ((0 : Nat) : Int)] 60))
      have HBY := Lib.hid (show N1 + [0].length ≤ 1073741824 by have := HL.out; have := O1.out.len; simp; omega)
      clear O1 O2 SB
      go_wp2_with (at_builtin; (refine wpList_app_ro rfl (.tmp 31) (.tmp 32) rfl g1 N1 c1 L1 rfl O1b.out (some ⟨W2.heap.size, 0, none⟩) 1 1 [0] rfl HSL.out HBY.out ?_))
      intro g' c' W3 ho hg hat
      have SB3 := Lib.hid (SBb.out.grown hg G.out.1 O1b.out.ge)
      have S1c := Lib.hid ho.sl
      have S2c := Lib.hid (O2b.out.grown hg (Ne.symm NE.out)).sl
      clear ho hg hat O1b O2b SBb HSL HBY hc1 hc2 hf1 hf2
      obtain ⟨hc1, hc2, hf1, hf2⟩ := blk_cells2 SB3.out.x
      go_wp2_with fail
      go_meet
      exact Lib.hid (SB3.out.fin0 S1c.out S2c.out (HO.out.1.append (Ok.cons (by omega) Ok.nil)) HO.out.2 (by have := HL.out.1; simp; omega) (by have := HL.out.2; omega))
    · subst hq
      obtain ⟨hc1, hc2, hf1, hf2⟩ := blk_cells2 SB.out.x
      have HSL := Lib.hid (sl_one1 W2 0)
      have O1b := Lib.hid (O1.out.alloc (.cells #[.int .u32 ((0 : Nat) : Int)] 60)); have O2b := Lib.hid (O2.out.alloc (.cells #[.int .u32 ((0 : Nat) : Int)] 60)); have SBb := Lib.hid (SB.out.alloc (.cells #[.int .u32 ((0 : Nat) : Int)] 60))
      have HBY := Lib.hid (show N2 + [0].length ≤ 1073741824 by have := HL.out; have := O2.out.len; simp; omega)
      clear O1 O2 SB
      go_wp2_with (at_builtin; (refine wpList_app_ro rfl (.tmp 38) (.tmp 39) rfl g2 N2 c2 L2 rfl O2b.out (some ⟨W2.heap.size, 0, none⟩) 1 1 [0] rfl HSL.out HBY.out ?_))
      intro g' c' W3 ho hg hat
      have SB3 := Lib.hid (SBb.out.grown hg G.out.2 O2b.out.ge)
      have S1c := Lib.hid (O1b.out.grown hg NE.out).sl
      have S2c := Lib.hid ho.sl
      clear ho hg hat O1b O2b SBb HSL HBY hc1 hc2 hf1 hf2
      obtain ⟨hc1, hc2, hf1, hf2⟩ := blk_cells2 SB3.out.x
      go_wp2_with fail
      go_meet
      exact Lib.hid (SB3.out.fin1 S1c.out S2c.out HO.out.1 (HO.out.2.append (Ok.cons (by omega) Ok.nil)) (by have := HL.out.1; omega) (by have := HL.out.2; simp; omega))
    · subst hq
      have HSL := Lib.hid (sl_one W2)
      have SBb := Lib.hid (SB.out.alloc (.cells #[.int .u32 1] 60)); have S1b := Lib.hid (O1.out.alloc (.cells #[.int .u32 1] 60)).sl
      obtain ⟨hc1, hc2, hf1, hf2⟩ := blk_cells2 SBb.out.x
      clear O1 O2 SB
      go_wp2_with fail
      go_meet
      exact Lib.hid (SBb.out.fin1 S1b.out HSL.out HO.out.1 (Ok.cons (by omega) Ok.nil) (by have := HL.out.1; omega) (by simp))
    · subst hq
      obtain ⟨m, hm⟩ : ∃ m, m = 2 + k := ⟨_, rfl⟩
      have hmI : 2 + (k : Int) = (m : Int) := by omega
      have hm6 : m ≤ 6 := by omega
      clear hm
      have HSL := Lib.hid (sl_one1 W2 m)
      have O1b := Lib.hid (O1.out.alloc (.cells #[.int .u32 ((m : Nat) : Int)] 60)); have O2b := Lib.hid (O2.out.alloc (.cells #[.int .u32 ((m : Nat) : Int)] 60)); have SBb := Lib.hid (SB.out.alloc (.cells #[.int .u32 ((m : Nat) : Int)] 60))
      have OM := Lib.hid (show Ok [m] from Ok.cons (by omega) Ok.nil)
      have HT := Lib.hid (rtimes_any O1b.out.sl HSL.out HO.out.1 OM.out (by have := HL.out.1; omega) (by simp))
      have HT1 := Lib.hid (times_len HO.out.1 OM.out)
      have HD2 := Lib.hid (den_two HO.out.2 HL.out.2)
      obtain ⟨hc1, hc2, hf1, hf2⟩ := blk_cells2 SB.out.x
      have HM6 := Lib.hid hm6
      clear O1 O2 SB hm6
      go_wp2_with fail
      refine HT.out.mono ?_
      rintro e W3 ⟨v, rfl, hs, hb⟩
      obtain ⟨C, m3, j3, e1⟩ := sl_form hs
      subst e1
      have SB3 := Lib.hid (SBb.out.below hb); have S2c := Lib.hid (O2b.out.below hb).sl; have S1c := Lib.hid hs
      clear hs hb HT HSL O1b O2b SBb hc1 hc2 hf1 hf2
      obtain ⟨hc1, hc2, hf1, hf2⟩ := blk_cells2 SB3.out.x
      go_upto_region 14 with fail
      have SB4 := Lib.hid (SB3.out.put0 C m3 j3); have S1d := Lib.hid (SB3.out.off S1c.out 0 (.slice C m3 j3)); have S2d := Lib.hid (SB3.out.off S2c.out 0 (.slice C m3 j3))
      clear hc1 hc2 hf1 hf2 SB3 S1c S2c
      obtain ⟨W4, hW4⟩ : ∃ W', W3.setCell ⟨g7, 0, none⟩ (.slice C m3 j3) = W' := ⟨_, rfl⟩
      rw [hW4] at SB4 S1d S2d ⊢
      clear hW4
      have HD := Lib.hid (rden_any S1d.out S2d.out (by have := HL.out.2; omega))
      obtain ⟨hc1, hc2, hf1, hf2⟩ := blk_cells2 SB4.out.x
      go_wp2_with fail
      refine HD.out.mono ?_
      rintro e W5 ⟨v5, rfl, hs5, hb5⟩
      obtain ⟨C5, m5, j5, e1⟩ := sl_form hs5
      subst e1
      have SB5 := Lib.hid ((SB4.out.below hb5).alloc (.cells #[.int .u32 ((m : Nat) : Int)] 60)); have S1e := Lib.hid ((S1d.out.below hb5).below (below_al W5 (.cells #[.int .u32 ((m : Nat) : Int)] 60)))
      have HT2 := Lib.hid (rtimes_any (hs5.below (below_al W5 (.cells #[.int .u32 ((m : Nat) : Int)] 60))) (sl_one1 W5 m) HD2.out.1 OM.out (by have := HD2.out.2; omega) (by simp))
      have HT3 := Lib.hid (times_len HD2.out.1 OM.out)
      clear hs5 hb5 HD SB4 S1d S2d hc1 hc2 hf1 hf2
      go_wp2_with fail
      refine HT2.out.mono ?_
      rintro e W6 ⟨v6, rfl, hs6, hb6⟩
      obtain ⟨C6, m6, j6, e1⟩ := sl_form hs6
      subst e1
      have SB6 := Lib.hid (SB5.out.below hb6); have S1f := Lib.hid (S1e.out.below hb6); have S6 := Lib.hid hs6
      clear hs6 hb6 HT2 SB5 S1e
      obtain ⟨hc1, hc2, hf1, hf2⟩ := blk_cells2 SB6.out.x
      go_wp2_with fail
      go_meet
      exact Lib.hid (SB6.out.fin1 S1f.out S6.out (lim_ok _) (lim_ok _) (by have h1 := HT1.out; have h2 := HL.out.1; rw [List.length_singleton] at h1; omega) (by have h1 := HT3.out; have h2 := HD2.out.2; rw [List.length_singleton] at h1; omega))
    · subst hq
      obtain ⟨hc1, hc2, hf1, hf2⟩ := blk_cells2 SB.out.x
      have HSL := Lib.hid (sl_one1 W2 k)
      have O1b := Lib.hid (O1.out.alloc (.cells #[.int .u32 ((k : Nat) : Int)] 60)); have O2b := Lib.hid (O2.out.alloc (.cells #[.int .u32 ((k : Nat) : Int)] 60)); have SBb := Lib.hid (SB.out.alloc (.cells #[.int .u32 ((k : Nat) : Int)] 60))
      have HBY := Lib.hid (show N1 + [k].length ≤ 1073741824 by have := HL.out; have := O1.out.len; simp; omega)
      clear O1 O2 SB
      go_wp2_with (at_builtin; (refine wpList_app_ro rfl (.tmp 65) (.tmp 67) rfl g1 N1 c1 L1 rfl O1b.out (some ⟨W2.heap.size, 0, none⟩) 1 1 [k] rfl HSL.out HBY.out ?_))
      intro g' c' W3 ho hg hat
      have SB3 := Lib.hid (SBb.out.grown hg G.out.1 O1b.out.ge)
      have S1c := Lib.hid ho.sl
      have S2c := Lib.hid (O2b.out.grown hg (Ne.symm NE.out)).sl
      clear ho hg hat O1b O2b SBb HSL HBY hc1 hc2 hf1 hf2
      obtain ⟨hc1, hc2, hf1, hf2⟩ := blk_cells2 SB3.out.x
      go_wp2_with fail
      go_meet
      exact Lib.hid (SB3.out.fin0 S1c.out S2c.out (HO.out.1.append (Ok.cons (by have := HK5.out; omega) Ok.nil)) HO.out.2 (by have := HL.out.1; simp; omega) (by have := HL.out.2; omega))
    · subst hq
      obtain ⟨hc1, hc2, hf1, hf2⟩ := blk_cells2 SB.out.x
      have S2c := Lib.hid O2.out.sl
      clear O1 O2
      go_wp2_with fail
      go_meet
      exact Lib.hid (SB.out.fin0 (Sl.nil _) S2c.out Ok.nil HO.out.2 (by simp) (by have := HL.out.2; omega))
    · subst hq
      have HST := Lib.hid (show SpL w g7 g1 N1 c1 L1 67 W2 from ⟨g2, N2, c2, L2, SB.out, O1.out, O2.out, NE.out, G.out.2, HO.out.2, by have := O2.out.len; have := HL.out.2; omega, by omega⟩)
      clear SB O1 O2 NE
      go_wp2_with fail
      go_loopg [] 67 (fun gk wr => SpL w g7 g1 N1 c1 L1 gk wr)
      case atStart => exact HST.out
      case round =>
        clear HST
        obtain ⟨q2, M2, d2, P2, hx, o1, o2, hne, hq, hok, hle, hk⟩ := hrel
        have SBr := Lib.hid hx; have O1 := Lib.hid o1; have O2 := Lib.hid o2; have NE2 := Lib.hid (And.intro hne hq); have HP := Lib.hid (And.intro hok (And.intro hle hk))
        clear hx o1 o2 hne hq hok
        obtain ⟨hc1, hc2, hf1, hf2⟩ := blk_cells2 SBr.out.x
        rcases Nat.lt_or_ge M2 (63 + k) with hlt | hge
        · have hltI : (M2 : Int) < 63 + (k : Int) := by omega
          have HSL := Lib.hid (sl_one1 wr 7)
          have O1b := Lib.hid (O1.out.alloc (.cells #[.int .u32 ((7 : Nat) : Int)] 60)); have O2b := Lib.hid (O2.out.alloc (.cells #[.int .u32 ((7 : Nat) : Int)] 60)); have SBb := Lib.hid (SBr.out.alloc (.cells #[.int .u32 ((7 : Nat) : Int)] 60))
          have HBY := Lib.hid (show M2 + [7].length ≤ 1073741824 by simp; omega)
          have HK := Lib.hid (show M2 + 1 ≤ 700 ∧ 67 ≤ M2 + 1 + (gk - 1) ∧ gk - 1 < gk by omega)
          clear O1 O2 SBr hlt hk hle
          go_wp2_with (at_builtin; (refine wpList_app_ro rfl (.tmp 24) (.tmp 25) rfl q2 M2 d2 P2 rfl O2b.out (some ⟨wr.heap.size, 0, none⟩) 1 1 [7] rfl HSL.out HBY.out ?_))
          intro g' c' W3 ho hg hat
          have SB3 := Lib.hid (SBb.out.grown hg NE2.out.2 O2b.out.ge)
          have O1c := Lib.hid (O1b.out.grown hg NE2.out.1); have O2c := Lib.hid ho
          have NE3 := Lib.hid (show g1 ≠ g' ∧ g' ≠ g7 by have h1 := O1b.out.lt; have h2 := SBb.out.x.lt; have h3 := NE2.out; simp at h1 h2; rcases hat with e | e <;> rw [e] <;> omega)
          clear ho hg hat O1b O2b SBb HSL HBY hc1 hc2 hf1 hf2
          obtain ⟨hc1, hc2, hf1, hf2⟩ := blk_cells2 SB3.out.x
          go_wp2_with fail
          go_roundg (gk - 1)
          case measure => exact HK.out.2.2
          case rel => exact ⟨g', M2 + 1, c', P2 ++ [7], SB3.out.put1 _ _ _, O1c.out.off g7 1 SB3.out.x, O2c.out.off g7 1 SB3.out.x, NE3.out.1, NE3.out.2, HP.out.1.append (Ok.cons (by omega) Ok.nil), HK.out.1, HK.out.2.1⟩
        · have hltI : ¬ ((M2 : Int) < 63 + (k : Int)) := by omega
          have S1c := Lib.hid O1.out.sl; have S2c := Lib.hid O2.out.sl; have HLE := Lib.hid (show P2.length ≤ 700 by have := O2.out.len; omega)
          clear hge hk hle
          go_wp2_with fail
          go_meet
          exact Lib.hid (SBr.out.fin S1c.out S2c.out HO.out.1 HP.out.1 (by have := HL.out.1; omega) HLE.out)
  case rest =>
    obtain ⟨C1, m1, j1, C2, m2, j2, r, hsb, hk⟩ := hcut.out
    have SB3 := Lib.hid hsb; have HK := Lib.hid hk
    clear hcut hsb hk SB O1 O2 NE G HQ HO HL HK5 hkI
    obtain ⟨hc1, hc2, hf1, hf2⟩ := blk_cells2 SB3.out.x
    obtain ⟨hc3, hc4, hf3, hf4⟩ := blk_cells2 SB3.out.r
    go_wp2_with fail
    have hbk := ((SB3.out.r.put 0 (.slice C1 m1 j1)).put 1 (.slice C2 m2 j2))
    have hbl := ((SB3.out.b.setCell (p := ⟨w.heap.size + 1, 0, none⟩) (Nat.le_succ _) (.slice C1 m1 j1)).setCell (p := ⟨w.heap.size + 1, 1, none⟩) (Nat.le_succ _) (.slice C2 m2 j2))
    have hs1 := sl_res HK.out.s1 SB3.out.r C1 m1 j1 C2 m2 j2
    have hs2 := sl_res HK.out.s2 SB3.out.r C1 m1 j1 C2 m2 j2
    refine bodyPost_ret (v := .agg #[(.slice C1 m1 j1), (.slice C2 m2 j2)]) ?_ rfl ⟨(.slice C1 m1 j1), (.slice C2 m2 j2), r, rfl, ⟨hs1, hs2, HK.out.ok, HK.out.l1, HK.out.l2⟩, hbl⟩
    have hr := run_loadVar_at (P := Try.prog) _ ⟨w.heap.size + 1, 0, none⟩ 28 [(.slice C1 m1 j1), (.slice C2 m2 j2)] _ hbk.at Try.underlying28 rfl size28
    simp [results, Try.results31, asAddr, hr]
end Go.Proofs.Ytbfhilbagojdnaa
