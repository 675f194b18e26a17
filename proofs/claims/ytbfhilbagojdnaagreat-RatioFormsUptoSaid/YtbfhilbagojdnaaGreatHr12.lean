/-
  Texts of the proof, joined: Lv, Li, Fa, Ro.
  No condition: lemmas.
-/
import Derived.Test.YtbfhilbagojdnaaGreatHr11
namespace Go.Proofs.YtbfhilbagojdnaaGreat
open Go.RowKit Wr Go.Proofs.YtbfhilbagojdnaaGreat.Nm
set_option linter.unusedVariables false
set_option maxRecDepth 100000

theorem low_lit (x y a b : Nat) (ha : x / Nat.gcd x y = a) (hb : y / Nat.gcd x y = b) (ha' : a < 9223372036854775808) (hb' : b < 9223372036854775808) : lowR x y = ((lim a, dl b), 0) := by
  unfold lowR madeR; rw [ha, hb, if_pos ⟨w64 a ha', w64 b hb'⟩]
theorem of_lit (n d a b : Nat) (h0 : 0 < d) (ha : n / Nat.gcd n d = a) (hb : d / Nat.gcd n d = b) (ha' : a < 9223372036854775808) (hb' : b < 9223372036854775808) : ofR (n : Int) (d : Int) = ((lim a, dl b), 0) := by
  unfold ofR; rw [if_neg (by omega), Int.toNat_natCast, Int.toNat_natCast, low_lit n d a b ha hb ha' hb']
theorem vr_lit (x y : Nat) (h0 : 0 < y) (hg : Nat.gcd x y = 1) (hx : x < 9223372036854775808) (hy : y < 9223372036854775808) : Vr x y := ⟨h0, hg, w64 x hx, w64 y hy⟩
theorem ex1 : ofR 6 4 = ((lim 3, dl 2), 0) := of_lit 6 4 3 2 (by decide) (by decide) (by decide) (by decide) (by decide)
theorem ex2 : ofR 4 2 = ((lim 2, dl 1), 0) := of_lit 4 2 2 1 (by decide) (by decide) (by decide) (by decide) (by decide)
theorem ex3 : ofR 1 6 = ((lim 1, dl 6), 0) := of_lit 1 6 1 6 (by decide) (by decide) (by decide) (by decide) (by decide)
theorem ex4 : ofR 1 10 = ((lim 1, dl 10), 0) := of_lit 1 10 1 10 (by decide) (by decide) (by decide) (by decide) (by decide)
theorem v16 : Vr 1 6 := vr_lit 1 6 (by decide) (by decide) (by decide) (by decide)
theorem v110 : Vr 1 10 := vr_lit 1 10 (by decide) (by decide) (by decide) (by decide)
theorem v32 : Vr 3 2 := vr_lit 3 2 (by decide) (by decide) (by decide) (by decide)
theorem v21 : Vr 2 1 := vr_lit 2 1 (by decide) (by decide) (by decide) (by decide)
theorem v415 : Vr 4 15 := vr_lit 4 15 (by decide) (by decide) (by decide) (by decide)
theorem v115 : Vr 1 15 := vr_lit 1 15 (by decide) (by decide) (by decide) (by decide)
theorem v12 : Vr 1 2 := vr_lit 1 2 (by decide) (by decide) (by decide) (by decide)
theorem v13 : Vr 1 3 := vr_lit 1 3 (by decide) (by decide) (by decide) (by decide)
theorem v37 : Vr 3 7 := vr_lit 3 7 (by decide) (by decide) (by decide) (by decide)
theorem v52 : Vr 5 2 := vr_lit 5 2 (by decide) (by decide) (by decide) (by decide)
theorem v72 : Vr 7 2 := vr_lit 7 2 (by decide) (by decide) (by decide) (by decide)
theorem v31 : Vr 3 1 := vr_lit 3 1 (by decide) (by decide) (by decide) (by decide)
theorem v1p : Vr 1 4294967296 := vr_lit 1 4294967296 (by decide) (by decide) (by decide) (by decide)
theorem ex5 : addR (lim 1, dl 6) (lim 1, dl 10) = ((lim 4, dl 15), 0) := by
  rw [add_eq v16 v110]; exact low_lit _ _ 4 15 (by decide) (by decide) (by decide) (by decide)
theorem ex6 : subR (lim 1, dl 6) (lim 1, dl 10) = ((lim 1, dl 15), 0) := by
  rw [sub_eq v16 v110, if_neg (by decide)]; exact low_lit _ _ 1 15 (by decide) (by decide) (by decide) (by decide)
theorem ex7 : subR (lim 1, dl 10) (lim 1, dl 6) = (noR, 5) := by rw [sub_eq v110 v16, if_pos (by decide)]
theorem noR_eq : noR = (lim 0, dl 1) := by rw [lim_zero, dl_one]; rfl
theorem ex8 : divR (lim 2, dl 1) noR = (noR, 5) := by
  rw [noR_eq, div_eq v21 vr_zero, if_pos rfl, ← noR_eq]
theorem ex9 : powR (lim 1, dl 2) 32 = ((lim 1, dl 4294967296), 0) := by
  have h := pow_eq v12 (show 32 ≤ 65536 by decide)
  rw [show ((32 : Nat) : Int) = 32 from rfl] at h
  rw [h, Nat.one_pow, show (2 : Nat) ^ 32 = 4294967296 by decide]
  unfold madeR; rw [if_pos ⟨w64 1 (by decide), w64 _ (by decide)⟩]
theorem pow2_res (n : Nat) (hn : n ≤ 65536) : (powR (lim 2, dl 1) (n : Int)).2 = if n < 2048 then 0 else 4 := by
  rw [pow_eq v21 hn, Nat.one_pow]
  by_cases h : n < 2048
  · rw [if_pos h]
    unfold madeR
    rw [if_pos ⟨by rw [B_two]; generalize hk : 32 * 64 = k; exact Nat.pow_lt_pow_right (by omega) (by omega), w64 1 (by decide)⟩]
  · rw [if_neg h, made_big (Or.inl (by rw [B_two]; generalize hk : 32 * 64 = k; exact Nat.pow_le_pow_right (by omega) (by omega)))]
theorem ex10 : (powR (lim 2, dl 1) 2047).2 = 0 := by
  have h := pow2_res 2047 (by decide)
  rw [if_pos (by decide)] at h; exact h
theorem ex11 : (powR (lim 2, dl 1) 2048).2 = 4 := by
  have h := pow2_res 2048 (by decide)
  rw [if_neg (by decide)] at h; exact h
theorem lim_p : lim 4294967296 = [0, 1] := by
  rw [lim_pos _ (by decide), show 4294967296 % 4294967296 = 0 by decide, show 4294967296 / 4294967296 = 1 by decide, lim_one]
theorem dl_p : dl 4294967296 = [0, 1] := by unfold dl; rw [if_neg (by decide), lim_p]
theorem decX_k (n q : Nat) (d : UInt8) (h : n ≠ 0) (hq : n / 10 = q) (hd : UInt8.ofNat (48 + n % 10) = d) : decX n = decX q ++ [d] := by rw [decX_pos h, hq, hd]
theorem dec_p : decS 4294967296 = [52, 50, 57, 52, 57, 54, 55, 50, 57, 54] := by
  unfold decS
  rw [if_neg (by decide), decX_k 4294967296 429496729 54 (by decide) (by decide) (by decide), decX_k 429496729 42949672 57 (by decide) (by decide) (by decide), decX_k 42949672 4294967 50 (by decide) (by decide) (by decide),
    decX_k 4294967 429496 55 (by decide) (by decide) (by decide), decX_k 429496 42949 54 (by decide) (by decide) (by decide), decX_k 42949 4294 57 (by decide) (by decide) (by decide), decX_k 4294 429 52 (by decide) (by decide) (by decide),
    decX_k 429 42 57 (by decide) (by decide) (by decide), decX_k 42 4 50 (by decide) (by decide) (by decide), decX_k 4 0 52 (by decide) (by decide) (by decide), decX_zero]
  rfl
theorem dec_1 : decS 1 = [49] := by
  unfold decS; rw [if_neg (by decide), decX_k 1 0 49 (by decide) (by decide) (by decide), decX_zero]; rfl
theorem ex12 : printR (lim 1, dl 4294967296) = ([49, 47, 52, 50, 57, 52, 57, 54, 55, 50, 57, 54], 0) := by
  unfold printR
  rw [if_neg (by simp [vld_of v1p]), if_neg (by rw [dl_p]; simp)]
  rw [show num (lim 1, dl 4294967296).1 = 1 from num_lim 1, show num (lim 1, dl 4294967296).2 = 4294967296 by show num (dl 4294967296) = _; rw [dl_p]; rfl, dec_1, dec_p]
  rfl
theorem ex13 : simR (lim 1, dl 3) (lim 3, dl 7) = ((lim 1, dl 3), 0) := by
  rw [sim_eq v13 v37, if_neg (by decide)]
  have h1 : betw 1 3 3 7 = (1, 3) := by
    rw [betw_rec ⟨by decide, by decide, by decide⟩ (by decide) (by decide), betw_next (by decide) (by decide)]; decide
  rw [h1]
  unfold madeR; rw [if_pos ⟨w64 1 (by decide), w64 3 (by decide)⟩]
theorem ex14 : simR (lim 5, dl 2) (lim 7, dl 2) = ((lim 3, dl 1), 0) := by
  rw [sim_eq v52 v72, if_neg (by decide)]
  have h1 : betw 5 2 7 2 = (3, 1) := by rw [betw_next (by decide) (by decide)]
  rw [h1]
  unfold madeR; rw [if_pos ⟨w64 3 (by decide), w64 1 (by decide)⟩]
theorem parse_err (l : List UInt8) (a b : List UInt8) (c : Bool) (h : Lib.cut l [47] = (a, b, c)) (h1 : rowOk a = true) (h2 : c = true → rowOk b = true) (h3 : a.length ≤ 617) (h4 : b.length ≤ 617) (h5 : (lim (decV a)).length ≤ 64) (h6 : (lim (decV b)).length ≤ 64)
    (h7 : vld (lim (decV a), lim (decV b)) ≠ 0) : parseR l = (noR, 1) := by
  unfold parseR
  rw [h]
  rw [if_neg (by
    rintro (q | ⟨q1, q2⟩)
    · rw [h1] at q; cases q
    · rw [h2 q1] at q2; cases q2), if_neg (by show ¬ (617 < a.length ∨ 617 < b.length); omega), if_neg (by show ¬ (64 < (lim (decV a)).length ∨ 64 < (lim (decV b)).length); omega), if_pos (Or.inr h7)]
theorem ex15 : parseR [50, 47, 52] = (noR, 1) := by
  refine parse_err _ [50] [52] true (by decide +kernel) (by decide +kernel) (fun _ => by decide +kernel) (by decide) (by decide) ?_ ?_ ?_
  · show (lim 2).length ≤ 64; rw [lim_small 2 (by decide) (by decide)]; decide
  · show (lim 4).length ≤ 64; rw [lim_small 4 (by decide) (by decide)]; decide
  · show vld (lim 2, lim 4) ≠ 0; rw [lim_small 2 (by decide) (by decide), lim_small 4 (by decide) (by decide)]; decide +kernel
theorem ex16 : parseR [48, 50] = (noR, 2) := by
  unfold parseR
  rw [if_pos (Or.inl (by decide +kernel))]
theorem ex17 : parseR [51, 47, 49] = (noR, 1) := by
  refine parse_err _ [51] [49] true (by decide +kernel) (by decide +kernel) (fun _ => by decide +kernel) (by decide) (by decide) ?_ ?_ ?_
  · show (lim 3).length ≤ 64; rw [lim_small 3 (by decide) (by decide)]; decide
  · show (lim 1).length ≤ 64; rw [lim_small 1 (by decide) (by decide)]; decide
  · show vld (lim 3, lim 1) ≠ 0; rw [lim_small 3 (by decide) (by decide), lim_small 1 (by decide) (by decide)]; decide +kernel
/-- A variable's box: where it lies, what it reads as. -/
structure Bx (W : World) (g : Nat) (A1 : Option Addr) (n1 k1 : Nat) (A2 : Option Addr) (n2 k2 : Nat) (r : Rt) : Prop where
  b : Blk W g 27 [.slice A1 n1 k1, .slice A2 n2 k2]
  k : Rk W (.slice A1 n1 k1) (.slice A2 n2 k2) r
theorem Bx.below {W W' : World} {g : Nat} {A1 : Option Addr} {n1 k1 : Nat} {A2 : Option Addr} {n2 k2 : Nat} {r : Rt} (h : Bx W g A1 n1 k1 A2 n2 k2 r) (hb : Below W.heap.size W W') : Bx W' g A1 n1 k1 A2 n2 k2 r := ⟨h.b.below hb h.b.lt, h.k.below hb⟩
theorem Bx.new {W : World} {A1 : Option Addr} {n1 k1 : Nat} {A2 : Option Addr} {n2 k2 : Nat} {r : Rt} (h : Rk W (.slice A1 n1 k1) (.slice A2 n2 k2) r) : Bx (W.alloc (.cells #[.slice A1 n1 k1, .slice A2 n2 k2] 27)) W.heap.size A1 n1 k1 A2 n2 k2 r := ⟨box0 _ _ _, h.below (boxb _ _ _)⟩
set_option maxHeartbeats 2000000 in
theorem is_true {v1 v2 : Value} {x y : Nat} {w : World} (n d : Int) (hn : -9223372036854775808 ≤ n ∧ n ≤ 9223372036854775807) (hd : -9223372036854775808 ≤ d ∧ d ≤ 9223372036854775807) (hr : Rk w v1 v2 (lim x, dl y)) (hv : Vr x y) (ho : ofR n d = ((lim x, dl y), 0)) :
    Calls Tryz.prog 60 #[.agg #[v1, v2], .int .i64 0, .int .i64 n, .int .i64 d] w (SmP w true) := by
  obtain ⟨A1, n1, k1, e1⟩ := sl_form hr.s1
  obtain ⟨A2, n2, k2, e2⟩ := sl_form hr.s2
  subst e1 e2
  have V0 := Lib.hid (Bx.new hr); have B0 := Lib.hid (boxb w (.slice A1 n1 k1) (.slice A2 n2 k2))
  have HO := Lib.hid (fun W => rof_any n d W hn hd)
  rw [ho] at HO
  have HV := Lib.hid hv
  clear hr ho hn hd hv
  go_enter Tryz.func60, Tryz.ntmps60
  go_upto_region 1 with fail
  generalize w.alloc (.cells #[.slice A1 n1 k1, .slice A2 n2 k2] 27) = W0 at V0 B0 ⊢
  go_wp2_with fail
  refine (HO.out _).mono ?_
  rintro e w1 ⟨v, rfl, ⟨u1, u2, rfl, s1, s2⟩, hb⟩
  have K1 := Lib.hid (vr_rk s1 s2 HV.out)
  obtain ⟨C1, m1, j1, e1⟩ := sl_form s1
  obtain ⟨C2, m2, j2, e2⟩ := sl_form s2
  subst e1 e2
  have V1 := Lib.hid (V0.out.below hb); have B1 := Lib.hid (below_step B0.out hb)
  clear s1 s2 hb HO V0 B0
  go_upto_region 2 with fail
  have V2 := Lib.hid (V1.out.below (boxb w1 (.slice C1 m1 j1) (.slice C2 m2 j2))); have B2 := Lib.hid (below_step B1.out (boxb w1 (.slice C1 m1 j1) (.slice C2 m2 j2))); have N2 := Lib.hid (Bx.new K1.out)
  clear V1 B1 K1
  obtain ⟨gn, hgn⟩ : ∃ g, w1.heap.size = g := ⟨_, rfl⟩
  obtain ⟨w2, hw2⟩ : ∃ W, w1.alloc (.cells #[.slice C1 m1 j1, .slice C2 m2 j2] 27) = W := ⟨_, rfl⟩
  rw [hw2] at V2 B2 N2
  rw [hgn] at N2
  rw [hw2, hgn]
  clear hw2 hgn
  have HS := Lib.hid (rsame_any V2.out.k N2.out.k)
  rw [decide_eq_true (rfl : ((lim x, dl y) : Rt) = (lim x, dl y))] at HS
  obtain ⟨hc1, hc2, hf1, hf2⟩ := blk_cells2 V2.out.b
  obtain ⟨hc3, hc4, hf3, hf4⟩ := blk_cells2 N2.out.b
  go_wp2_with fail
  refine HS.out.mono ?_
  rintro e w3 ⟨rfl, hb⟩
  have B3 := Lib.hid (below_step B2.out hb)
  clear hb HS hc1 hc2 hc3 hc4 hf1 hf2 hf3 hf4 V2 N2
  go_wp2_with fail
  go_ret
  exact ⟨rfl, B3.out⟩
end Go.Proofs.YtbfhilbagojdnaaGreat
namespace Go.Proofs.YtbfhilbagojdnaaGreat
open Go.RowKit Wr Go.Proofs.YtbfhilbagojdnaaGreat.Nm
set_option linter.unusedVariables false
set_option maxRecDepth 100000

theorem rk_none (w : World) : Rk w (.slice none 0 0) (.slice none 0 0) noR := ⟨Sl.nil w, Sl.nil w, ⟨Ok.nil, Ok.nil⟩, by simp [noR], by simp [noR]⟩
theorem sl_one1 (w : World) (a : Nat) : Sl (w.alloc (.cells #[.int .u32 (a : Int)] 66)) (.slice (some ⟨w.heap.size, 0, none⟩) 1 1) [a] :=
  ⟨_, 1, rfl, Nat.le_refl _, (fun e => by cases e), (Rd.of_blk0 (Blk.new w 66 (Lc [a]))).more (Blk.new w 66 (Lc [a])).lt⟩
theorem sl_two (w : World) : Sl (w.alloc (.cells #[.int .u32 0, .int .u32 1] 66)) (.slice (some ⟨w.heap.size, 0, none⟩) 2 2) [0, 1] :=
  ⟨_, 2, rfl, Nat.le_refl _, (fun e => by cases e), (Rd.of_blk0 (Blk.new w 66 (Lc [0, 1]))).more (Blk.new w 66 (Lc [0, 1])).lt⟩
theorem below_al (w : World) (o : Obj) : Below w.heap.size w (w.alloc o) := (Below.refl _ _).alloc (Nat.le_refl _) _
theorem rk_ab {w : World} {u1 u2 : Value} (a b : Nat) (h1 : Sl w u1 [a]) (h2 : Sl w u2 [b]) (ha : a ≠ 0) (hb : 1 < b) (ha2 : a < 4294967296) (hb2 : b < 4294967296) : Rk w u1 u2 (lim a, dl b) := by
  have e1 : lim a = [a] := lim_small a ha ha2
  have e2 : dl b = [b] := by unfold dl; rw [if_neg (by omega), lim_small b (by omega) hb2]
  rw [e1, e2]
  exact ⟨h1, h2, ⟨Ok.cons ha2 Ok.nil, Ok.cons hb2 Ok.nil⟩, by simp, by simp⟩
theorem one_box (w : World) (a b : Nat) (ha : a ≠ 0 ∧ a < 4294967296) (hb : 1 < b) (hb2 : b < 4294967296) :
    Bx (((w.alloc (.cells #[.int .u32 (a : Int)] 66)).alloc (.cells #[.int .u32 (b : Int)] 66)).alloc (.cells #[.slice (some ⟨w.heap.size, 0, none⟩) 1 1, .slice (some ⟨w.heap.size + 1, 0, none⟩) 1 1] 27)) (w.heap.size + 2) (some ⟨w.heap.size, 0, none⟩) 1 1 (some ⟨w.heap.size + 1, 0, none⟩) 1 1 (lim a, dl b) ∧
    Below w.heap.size w (((w.alloc (.cells #[.int .u32 (a : Int)] 66)).alloc (.cells #[.int .u32 (b : Int)] 66)).alloc (.cells #[.slice (some ⟨w.heap.size, 0, none⟩) 1 1, .slice (some ⟨w.heap.size + 1, 0, none⟩) 1 1] 27)) := by
  have s1 := ((sl_one1 w a).below (below_al _ (.cells #[.int .u32 (b : Int)] 66))).below (below_al _ (.cells #[.slice (some ⟨w.heap.size, 0, none⟩) 1 1, .slice (some ⟨w.heap.size + 1, 0, none⟩) 1 1] 27))
  have s2 := (sl_one1 (w.alloc (.cells #[.int .u32 (a : Int)] 66)) b).below (below_al _ (.cells #[.slice (some ⟨w.heap.size, 0, none⟩) 1 1, .slice (some ⟨w.heap.size + 1, 0, none⟩) 1 1] 27))
  have e : (w.alloc (.cells #[.int .u32 (a : Int)] 66)).heap.size = w.heap.size + 1 := by simp
  rw [e] at s2
  exact ⟨⟨Blk.newAt ((w.alloc (.cells #[.int .u32 (a : Int)] 66)).alloc (.cells #[.int .u32 (b : Int)] 66)) _ 27 [.slice (some ⟨w.heap.size, 0, none⟩) 1 1, .slice (some ⟨w.heap.size + 1, 0, none⟩) 1 1] (by simp), rk_ab a b s1 s2 ha.1 hb ha.2 hb2⟩,
    below_step (below_step (below_al _ _) (below_al _ _)) (below_al _ _)⟩
theorem pair4 (w : World) (a b c d : Nat) (ha : a ≠ 0) (hb : 1 < b) (hc : c ≠ 0) (hd : 1 < d) (ha2 : a < 4294967296) (hb2 : b < 4294967296) (hc2 : c < 4294967296) (hd2 : d < 4294967296) :
    Rk ((((w.alloc (.cells #[.int .u32 (a : Int)] 66)).alloc (.cells #[.int .u32 (b : Int)] 66)).alloc (.cells #[.int .u32 (c : Int)] 66)).alloc (.cells #[.int .u32 (d : Int)] 66)) (.slice (some ⟨w.heap.size, 0, none⟩) 1 1) (.slice (some ⟨w.heap.size + 1, 0, none⟩) 1 1) (lim a, dl b) ∧
    Rk ((((w.alloc (.cells #[.int .u32 (a : Int)] 66)).alloc (.cells #[.int .u32 (b : Int)] 66)).alloc (.cells #[.int .u32 (c : Int)] 66)).alloc (.cells #[.int .u32 (d : Int)] 66)) (.slice (some ⟨w.heap.size + 2, 0, none⟩) 1 1) (.slice (some ⟨w.heap.size + 3, 0, none⟩) 1 1) (lim c, dl d) ∧
    Below w.heap.size w ((((w.alloc (.cells #[.int .u32 (a : Int)] 66)).alloc (.cells #[.int .u32 (b : Int)] 66)).alloc (.cells #[.int .u32 (c : Int)] 66)).alloc (.cells #[.int .u32 (d : Int)] 66)) := by
  have e1 : (w.alloc (.cells #[.int .u32 (a : Int)] 66)).heap.size = w.heap.size + 1 := by simp
  have e2 : ((w.alloc (.cells #[.int .u32 (a : Int)] 66)).alloc (.cells #[.int .u32 (b : Int)] 66)).heap.size = w.heap.size + 2 := by simp
  have e3 : (((w.alloc (.cells #[.int .u32 (a : Int)] 66)).alloc (.cells #[.int .u32 (b : Int)] 66)).alloc (.cells #[.int .u32 (c : Int)] 66)).heap.size = w.heap.size + 3 := by simp
  have s1 := (((sl_one1 w a).below (below_al _ (.cells #[.int .u32 (b : Int)] 66))).below (below_al _ (.cells #[.int .u32 (c : Int)] 66))).below (below_al _ (.cells #[.int .u32 (d : Int)] 66))
  have s2 := ((sl_one1 (w.alloc (.cells #[.int .u32 (a : Int)] 66)) b).below (below_al _ (.cells #[.int .u32 (c : Int)] 66))).below (below_al _ (.cells #[.int .u32 (d : Int)] 66))
  have s3 := (sl_one1 ((w.alloc (.cells #[.int .u32 (a : Int)] 66)).alloc (.cells #[.int .u32 (b : Int)] 66)) c).below (below_al _ (.cells #[.int .u32 (d : Int)] 66))
  have s4 := sl_one1 (((w.alloc (.cells #[.int .u32 (a : Int)] 66)).alloc (.cells #[.int .u32 (b : Int)] 66)).alloc (.cells #[.int .u32 (c : Int)] 66)) d
  rw [e1] at s2
  rw [e2] at s3
  rw [e3] at s4
  exact ⟨rk_ab a b s1 s2 ha hb ha2 hb2, rk_ab c d s3 s4 hc hd hc2 hd2, below_step (below_step (below_step (below_al _ _) (below_al _ _)) (below_al _ _)) (below_al _ _)⟩
set_option maxHeartbeats 8000000 in
theorem lives_any (w : World) (hM : MaxL w) (h2 : 2 < w.heap.size) : Calls Tryz.prog 20 #[] w (SmP w true) := by
  have HO1 := Lib.hid (fun W => of_any 6 4 W (by omega) (by omega))
  rw [ex1] at HO1
  have HO2 := Lib.hid (fun W => of_any 4 2 W (by omega) (by omega))
  rw [ex2] at HO2
  have HO3 := Lib.hid (fun W => of_any 1 6 W (by omega) (by omega))
  rw [ex3] at HO3
  have HO4 := Lib.hid (fun W => of_any 1 10 W (by omega) (by omega))
  rw [ex4] at HO4
  have HM := Lib.hid hM; have H2 := Lib.hid h2
  have HP1 := Lib.hid (fun W (h : Below w.heap.size w W) => show Calls Tryz.prog 32 #[.string ⟨#[50, 47, 52]⟩] W (RtP W (noR, 1)) by have := parse_any [50, 47, 52] W (HM.out.below H2.out h) (by have := H2.out; have := h.size; omega) (by simp); rw [ex15] at this; exact this)
  have HP2 := Lib.hid (fun W (h : Below w.heap.size w W) => show Calls Tryz.prog 32 #[.string ⟨#[48, 50]⟩] W (RtP W (noR, 2)) by have := parse_any [48, 50] W (HM.out.below H2.out h) (by have := H2.out; have := h.size; omega) (by simp); rw [ex16] at this; exact this)
  have HP3 := Lib.hid (fun W (h : Below w.heap.size w W) => show Calls Tryz.prog 32 #[.string ⟨#[51, 47, 49]⟩] W (RtP W (noR, 1)) by have := parse_any [51, 47, 49] W (HM.out.below H2.out h) (by have := H2.out; have := h.size; omega) (by simp); rw [ex17] at this; exact this)
  have B0 := Lib.hid (Below.refl w.heap.size w)
  clear hM h2
  go_enter Tryz.func20, Tryz.ntmps20
  go_wp2_with fail
  refine (HO1.out _).mono ?_
  rintro e w1 ⟨v, rfl, ⟨u1, u2, rfl, s1, s2⟩, hb⟩
  have KN := Lib.hid (vr_rk s1 s2 v32)
  obtain ⟨C2, m3, j4, e1⟩ := sl_form s1
  obtain ⟨D5, p6, q7, e2⟩ := sl_form s2
  subst e1 e2
  have B8 := Lib.hid (below_step B0.out hb)
  clear B0
  clear s1 s2 hb
  go_upto_region 2 with fail
  have B9 := Lib.hid (below_step B8.out (boxb w1 (.slice C2 m3 j4) (.slice D5 p6 q7)))
  clear B8
  have V_half := Lib.hid (Bx.new KN.out)
  clear KN
  obtain ⟨g10, hgn⟩ : ∃ g, w1.heap.size = g := ⟨_, rfl⟩
  obtain ⟨w11, hww⟩ : ∃ W, w1.alloc (.cells #[.slice C2 m3 j4, .slice D5 p6 q7] 27) = W := ⟨_, rfl⟩
  rw [hww] at B9 V_half ⊢
  rw [hgn] at V_half ⊢
  clear hww hgn
  go_wp2_with fail
  refine (HO2.out _).mono ?_
  rintro e w12 ⟨v, rfl, ⟨u1, u2, rfl, s1, s2⟩, hb⟩
  have KN := Lib.hid (vr_rk s1 s2 v21)
  obtain ⟨C13, m14, j15, e1⟩ := sl_form s1
  obtain ⟨D16, p17, q18, e2⟩ := sl_form s2
  subst e1 e2
  have V_half := Lib.hid (V_half.out.below hb)
  have B19 := Lib.hid (below_step B9.out hb)
  clear B9
  clear s1 s2 hb
  go_upto_region 3 with fail
  have V_half := Lib.hid (V_half.out.below (boxb w12 (.slice C13 m14 j15) (.slice D16 p17 q18)))
  have B20 := Lib.hid (below_step B19.out (boxb w12 (.slice C13 m14 j15) (.slice D16 p17 q18)))
  clear B19
  have V_two := Lib.hid (Bx.new KN.out)
  clear KN
  obtain ⟨g21, hgn⟩ : ∃ g, w12.heap.size = g := ⟨_, rfl⟩
  obtain ⟨w22, hww⟩ : ∃ W, w12.alloc (.cells #[.slice C13 m14 j15, .slice D16 p17 q18] 27) = W := ⟨_, rfl⟩
  rw [hww] at B20 V_half V_two ⊢
  rw [hgn] at V_two ⊢
  clear hww hgn
  have hn20 : p17 = 0 := by have h := sl_len V_two.out.k.s2; rw [h]; show (dl 1).length = 0; rw [dl_one]; rfl
  subst hn20
  go_wp2_with fail
  refine (HO3.out _).mono ?_
  rintro e w23 ⟨v, rfl, ⟨u1, u2, rfl, s1, s2⟩, hb⟩
  have KN := Lib.hid (vr_rk s1 s2 v16)
  obtain ⟨C24, m25, j26, e1⟩ := sl_form s1
  obtain ⟨D27, p28, q29, e2⟩ := sl_form s2
  subst e1 e2
  have V_half := Lib.hid (V_half.out.below hb)
  have V_two := Lib.hid (V_two.out.below hb)
  have B30 := Lib.hid (below_step B20.out hb)
  clear B20
  clear s1 s2 hb
  go_upto_region 4 with fail
  have V_half := Lib.hid (V_half.out.below (boxb w23 (.slice C24 m25 j26) (.slice D27 p28 q29)))
  have V_two := Lib.hid (V_two.out.below (boxb w23 (.slice C24 m25 j26) (.slice D27 p28 q29)))
  have B31 := Lib.hid (below_step B30.out (boxb w23 (.slice C24 m25 j26) (.slice D27 p28 q29)))
  clear B30
  have V_a := Lib.hid (Bx.new KN.out)
  clear KN
  obtain ⟨g32, hgn⟩ : ∃ g, w23.heap.size = g := ⟨_, rfl⟩
  obtain ⟨w33, hww⟩ : ∃ W, w23.alloc (.cells #[.slice C24 m25 j26, .slice D27 p28 q29] 27) = W := ⟨_, rfl⟩
  rw [hww] at B31 V_half V_two V_a ⊢
  rw [hgn] at V_a ⊢
  clear hww hgn
  go_wp2_with fail
  refine (HO4.out _).mono ?_
  rintro e w34 ⟨v, rfl, ⟨u1, u2, rfl, s1, s2⟩, hb⟩
  have KN := Lib.hid (vr_rk s1 s2 v110)
  obtain ⟨C35, m36, j37, e1⟩ := sl_form s1
  obtain ⟨D38, p39, q40, e2⟩ := sl_form s2
  subst e1 e2
  have V_half := Lib.hid (V_half.out.below hb)
  have V_two := Lib.hid (V_two.out.below hb)
  have V_a := Lib.hid (V_a.out.below hb)
  have B41 := Lib.hid (below_step B31.out hb)
  clear B31
  clear s1 s2 hb
  go_upto_region 5 with fail
  have V_half := Lib.hid (V_half.out.below (boxb w34 (.slice C35 m36 j37) (.slice D38 p39 q40)))
  have V_two := Lib.hid (V_two.out.below (boxb w34 (.slice C35 m36 j37) (.slice D38 p39 q40)))
  have V_a := Lib.hid (V_a.out.below (boxb w34 (.slice C35 m36 j37) (.slice D38 p39 q40)))
  have B42 := Lib.hid (below_step B41.out (boxb w34 (.slice C35 m36 j37) (.slice D38 p39 q40)))
  clear B41
  have V_b := Lib.hid (Bx.new KN.out)
  clear KN
  obtain ⟨g43, hgn⟩ : ∃ g, w34.heap.size = g := ⟨_, rfl⟩
  obtain ⟨w44, hww⟩ : ∃ W, w34.alloc (.cells #[.slice C35 m36 j37, .slice D38 p39 q40] 27) = W := ⟨_, rfl⟩
  rw [hww] at B42 V_half V_two V_a V_b ⊢
  rw [hgn] at V_b ⊢
  clear hww hgn
  obtain ⟨hc45, hc46, hf47, hf48⟩ := blk_cells2 V_a.out.b
  obtain ⟨hc49, hc50, hf51, hf52⟩ := blk_cells2 V_b.out.b
  go_wp2_with fail
  refine (show Calls Tryz.prog 11 #[.agg #[.slice C24 m25 j26, .slice D27 p28 q29], .agg #[.slice C35 m36 j37, .slice D38 p39 q40]] w44 (RtP w44 ((lim 4, dl 15), 0)) by have h := add_any V_a.out.k V_b.out.k; rw [ex5] at h; exact h).mono ?_
  rintro e w53 ⟨v, rfl, ⟨u1, u2, rfl, s1, s2⟩, hb⟩
  have KN := Lib.hid (vr_rk s1 s2 v415)
  obtain ⟨C54, m55, j56, e1⟩ := sl_form s1
  obtain ⟨D57, p58, q59, e2⟩ := sl_form s2
  subst e1 e2
  have V_half := Lib.hid (V_half.out.below hb)
  have V_two := Lib.hid (V_two.out.below hb)
  have V_a := Lib.hid (V_a.out.below hb)
  have V_b := Lib.hid (V_b.out.below hb)
  have B60 := Lib.hid (below_step B42.out hb)
  clear B42
  clear s1 s2 hb
  clear hc45 hc46 hf47 hf48 hc49 hc50 hf51 hf52
  go_upto_region 6 with fail
  have V_half := Lib.hid (V_half.out.below (boxb w53 (.slice C54 m55 j56) (.slice D57 p58 q59)))
  have V_two := Lib.hid (V_two.out.below (boxb w53 (.slice C54 m55 j56) (.slice D57 p58 q59)))
  have V_a := Lib.hid (V_a.out.below (boxb w53 (.slice C54 m55 j56) (.slice D57 p58 q59)))
  have V_b := Lib.hid (V_b.out.below (boxb w53 (.slice C54 m55 j56) (.slice D57 p58 q59)))
  have B61 := Lib.hid (below_step B60.out (boxb w53 (.slice C54 m55 j56) (.slice D57 p58 q59)))
  clear B60
  have V_sum := Lib.hid (Bx.new KN.out)
  clear KN
  obtain ⟨g62, hgn⟩ : ∃ g, w53.heap.size = g := ⟨_, rfl⟩
  obtain ⟨w63, hww⟩ : ∃ W, w53.alloc (.cells #[.slice C54 m55 j56, .slice D57 p58 q59] 27) = W := ⟨_, rfl⟩
  rw [hww] at B61 V_half V_two V_a V_b V_sum ⊢
  rw [hgn] at V_sum ⊢
  clear hww hgn
  obtain ⟨hc64, hc65, hf66, hf67⟩ := blk_cells2 V_a.out.b
  obtain ⟨hc68, hc69, hf70, hf71⟩ := blk_cells2 V_b.out.b
  go_wp2_with fail
  refine (show Calls Tryz.prog 13 #[.agg #[.slice C24 m25 j26, .slice D27 p28 q29], .agg #[.slice C35 m36 j37, .slice D38 p39 q40]] w63 (RtP w63 ((lim 1, dl 15), 0)) by have h := sub_any V_a.out.k V_b.out.k; rw [ex6] at h; exact h).mono ?_
  rintro e w72 ⟨v, rfl, ⟨u1, u2, rfl, s1, s2⟩, hb⟩
  have KN := Lib.hid (vr_rk s1 s2 v115)
  obtain ⟨C73, m74, j75, e1⟩ := sl_form s1
  obtain ⟨D76, p77, q78, e2⟩ := sl_form s2
  subst e1 e2
  have V_half := Lib.hid (V_half.out.below hb)
  have V_two := Lib.hid (V_two.out.below hb)
  have V_a := Lib.hid (V_a.out.below hb)
  have V_b := Lib.hid (V_b.out.below hb)
  have V_sum := Lib.hid (V_sum.out.below hb)
  have B79 := Lib.hid (below_step B61.out hb)
  clear B61
  clear s1 s2 hb
  clear hc64 hc65 hf66 hf67 hc68 hc69 hf70 hf71
  go_upto_region 7 with fail
  have V_half := Lib.hid (V_half.out.below (boxb w72 (.slice C73 m74 j75) (.slice D76 p77 q78)))
  have V_two := Lib.hid (V_two.out.below (boxb w72 (.slice C73 m74 j75) (.slice D76 p77 q78)))
  have V_a := Lib.hid (V_a.out.below (boxb w72 (.slice C73 m74 j75) (.slice D76 p77 q78)))
  have V_b := Lib.hid (V_b.out.below (boxb w72 (.slice C73 m74 j75) (.slice D76 p77 q78)))
  have V_sum := Lib.hid (V_sum.out.below (boxb w72 (.slice C73 m74 j75) (.slice D76 p77 q78)))
  have B80 := Lib.hid (below_step B79.out (boxb w72 (.slice C73 m74 j75) (.slice D76 p77 q78)))
  clear B79
  have V_less := Lib.hid (Bx.new KN.out)
  clear KN
  obtain ⟨g81, hgn⟩ : ∃ g, w72.heap.size = g := ⟨_, rfl⟩
  obtain ⟨w82, hww⟩ : ∃ W, w72.alloc (.cells #[.slice C73 m74 j75, .slice D76 p77 q78] 27) = W := ⟨_, rfl⟩
  rw [hww] at B80 V_half V_two V_a V_b V_sum V_less ⊢
  rw [hgn] at V_less ⊢
  clear hww hgn
  obtain ⟨hc83, hc84, hf85, hf86⟩ := blk_cells2 V_a.out.b
  obtain ⟨hc87, hc88, hf89, hf90⟩ := blk_cells2 V_b.out.b
  go_wp2_with fail
  refine (show Calls Tryz.prog 13 #[.agg #[.slice C35 m36 j37, .slice D38 p39 q40], .agg #[.slice C24 m25 j26, .slice D27 p28 q29]] w82 (RtP w82 (noR, 5)) by have h := sub_any V_b.out.k V_a.out.k; rw [ex7] at h; exact h).mono ?_
  rintro e w91 ⟨v, rfl, ⟨u1, u2, rfl, s1, s2⟩, hb⟩
  obtain ⟨C92, m93, j94, e1⟩ := sl_form s1
  obtain ⟨D95, p96, q97, e2⟩ := sl_form s2
  subst e1 e2
  have V_half := Lib.hid (V_half.out.below hb)
  have V_two := Lib.hid (V_two.out.below hb)
  have V_a := Lib.hid (V_a.out.below hb)
  have V_b := Lib.hid (V_b.out.below hb)
  have V_sum := Lib.hid (V_sum.out.below hb)
  have V_less := Lib.hid (V_less.out.below hb)
  have B98 := Lib.hid (below_step B80.out hb)
  clear B80
  clear s1 s2 hb
  clear hc83 hc84 hf85 hf86 hc87 hc88 hf89 hf90
  go_upto_region 8 with fail
  have V_half := Lib.hid (V_half.out.below (boxb w91 (.slice C92 m93 j94) (.slice D95 p96 q97)))
  have V_two := Lib.hid (V_two.out.below (boxb w91 (.slice C92 m93 j94) (.slice D95 p96 q97)))
  have V_a := Lib.hid (V_a.out.below (boxb w91 (.slice C92 m93 j94) (.slice D95 p96 q97)))
  have V_b := Lib.hid (V_b.out.below (boxb w91 (.slice C92 m93 j94) (.slice D95 p96 q97)))
  have V_sum := Lib.hid (V_sum.out.below (boxb w91 (.slice C92 m93 j94) (.slice D95 p96 q97)))
  have V_less := Lib.hid (V_less.out.below (boxb w91 (.slice C92 m93 j94) (.slice D95 p96 q97)))
  have B99 := Lib.hid (below_step B98.out (boxb w91 (.slice C92 m93 j94) (.slice D95 p96 q97)))
  clear B98
  obtain ⟨g100, hgn⟩ : ∃ g, w91.heap.size = g := ⟨_, rfl⟩
  obtain ⟨w101, hww⟩ : ∃ W, w91.alloc (.cells #[.slice C92 m93 j94, .slice D95 p96 q97] 27) = W := ⟨_, rfl⟩
  rw [hww] at B99 V_half V_two V_a V_b V_sum V_less ⊢
  rw [hgn]
  clear hww hgn
  obtain ⟨hc102, hc103, hf104, hf105⟩ := blk_cells2 V_two.out.b
  go_wp2_with fail
  refine (show Calls Tryz.prog 18 #[.agg #[.slice C13 m14 j15, .slice D16 0 q18], .agg #[.slice none 0 0, .slice none 0 0]] w101 (RtP w101 (noR, 5)) by have h := div_any V_two.out.k (rk_none _); rw [ex8] at h; exact h).mono ?_
  rintro e w106 ⟨v, rfl, ⟨u1, u2, rfl, s1, s2⟩, hb⟩
  obtain ⟨C107, m108, j109, e1⟩ := sl_form s1
  obtain ⟨D110, p111, q112, e2⟩ := sl_form s2
  subst e1 e2
  have V_half := Lib.hid (V_half.out.below hb)
  have V_two := Lib.hid (V_two.out.below hb)
  have V_a := Lib.hid (V_a.out.below hb)
  have V_b := Lib.hid (V_b.out.below hb)
  have V_sum := Lib.hid (V_sum.out.below hb)
  have V_less := Lib.hid (V_less.out.below hb)
  have B113 := Lib.hid (below_step B99.out hb)
  clear B99
  clear s1 s2 hb
  clear hc102 hc103 hf104 hf105
  go_upto_region 9 with fail
  have V_half := Lib.hid (V_half.out.below (boxb w106 (.slice C107 m108 j109) (.slice D110 p111 q112)))
  have V_two := Lib.hid (V_two.out.below (boxb w106 (.slice C107 m108 j109) (.slice D110 p111 q112)))
  have V_a := Lib.hid (V_a.out.below (boxb w106 (.slice C107 m108 j109) (.slice D110 p111 q112)))
  have V_b := Lib.hid (V_b.out.below (boxb w106 (.slice C107 m108 j109) (.slice D110 p111 q112)))
  have V_sum := Lib.hid (V_sum.out.below (boxb w106 (.slice C107 m108 j109) (.slice D110 p111 q112)))
  have V_less := Lib.hid (V_less.out.below (boxb w106 (.slice C107 m108 j109) (.slice D110 p111 q112)))
  have B114 := Lib.hid (below_step B113.out (boxb w106 (.slice C107 m108 j109) (.slice D110 p111 q112)))
  clear B113
  obtain ⟨g115, hgn⟩ : ∃ g, w106.heap.size = g := ⟨_, rfl⟩
  obtain ⟨w116, hww⟩ : ∃ W, w106.alloc (.cells #[.slice C107 m108 j109, .slice D110 p111 q112] 27) = W := ⟨_, rfl⟩
  rw [hww] at B114 V_half V_two V_a V_b V_sum V_less ⊢
  rw [hgn]
  clear hww hgn
  clear V_a
  clear V_b
  obtain ⟨hc117, hc118, hf119, hf120⟩ := blk_cells2 V_half.out.b
  go_wp2_with fail
  refine (is_true (3) (2) (by omega) (by omega) V_half.out.k v32 (of_lit 3 2 3 2 (by decide) (by decide) (by decide) (by decide) (by decide))).mono ?_
  rintro e w121 ⟨rfl, hb⟩
  have V_half := Lib.hid (V_half.out.below hb)
  have V_two := Lib.hid (V_two.out.below hb)
  have V_sum := Lib.hid (V_sum.out.below hb)
  have V_less := Lib.hid (V_less.out.below hb)
  have B122 := Lib.hid (below_step B114.out hb)
  clear B114
  clear hb
  clear hc117 hc118 hf119 hf120
  clear V_half
  obtain ⟨hc123, hc124, hf125, hf126⟩ := blk_cells2 V_two.out.b
  go_wp2_with fail
  refine (is_true (2) (1) (by omega) (by omega) V_two.out.k v21 (of_lit 2 1 2 1 (by decide) (by decide) (by decide) (by decide) (by decide))).mono ?_
  rintro e w127 ⟨rfl, hb⟩
  have V_two := Lib.hid (V_two.out.below hb)
  have V_sum := Lib.hid (V_sum.out.below hb)
  have V_less := Lib.hid (V_less.out.below hb)
  have B128 := Lib.hid (below_step B122.out hb)
  clear B122
  clear hb
  clear hc123 hc124 hf125 hf126
  obtain ⟨hc129, hc130, hf131, hf132⟩ := blk_cells2 V_two.out.b
  obtain ⟨hc133, hc134, hf135, hf136⟩ := blk_cells2 V_sum.out.b
  go_wp2_with fail
  refine (is_true (4) (15) (by omega) (by omega) V_sum.out.k v415 (of_lit 4 15 4 15 (by decide) (by decide) (by decide) (by decide) (by decide))).mono ?_
  rintro e w137 ⟨rfl, hb⟩
  have V_two := Lib.hid (V_two.out.below hb)
  have V_sum := Lib.hid (V_sum.out.below hb)
  have V_less := Lib.hid (V_less.out.below hb)
  have B138 := Lib.hid (below_step B128.out hb)
  clear B128
  clear hb
  clear hc133 hc134 hf135 hf136
  clear hc129 hc130 hf131 hf132
  clear V_sum
  obtain ⟨hc139, hc140, hf141, hf142⟩ := blk_cells2 V_less.out.b
  go_wp2_with fail
  refine (is_true (1) (15) (by omega) (by omega) V_less.out.k v115 (of_lit 1 15 1 15 (by decide) (by decide) (by decide) (by decide) (by decide))).mono ?_
  rintro e w143 ⟨rfl, hb⟩
  have V_two := Lib.hid (V_two.out.below hb)
  have V_less := Lib.hid (V_less.out.below hb)
  have B144 := Lib.hid (below_step B138.out hb)
  clear B138
  clear hb
  clear hc139 hc140 hf141 hf142
  clear V_less
  go_upto_region 12 with fail
  have h11 : Bx (((w143.alloc (.cells #[.int .u32 1] 66)).alloc (.cells #[.int .u32 2] 66)).alloc (.cells #[.slice (some ⟨w143.heap.size, 0, none⟩) 1 1, .slice (some ⟨w143.heap.size + 1, 0, none⟩) 1 1] 27)) (w143.heap.size + 2) (some ⟨w143.heap.size, 0, none⟩) 1 1 (some ⟨w143.heap.size + 1, 0, none⟩) 1 1 (lim 1, dl 2) ∧ Below w143.heap.size w143 (((w143.alloc (.cells #[.int .u32 1] 66)).alloc (.cells #[.int .u32 2] 66)).alloc (.cells #[.slice (some ⟨w143.heap.size, 0, none⟩) 1 1, .slice (some ⟨w143.heap.size + 1, 0, none⟩) 1 1] 27)) := one_box w143 1 2 (by decide) (by decide) (by decide)
  have hb11 := h11.2
  have V_two := Lib.hid (V_two.out.below hb11)
  have B145 := Lib.hid (below_step B144.out hb11)
  clear B144
  have V_one := Lib.hid h11.1
  clear h11
  clear hb11
  obtain ⟨A1o, hA1⟩ : ∃ a, (some ⟨w143.heap.size, 0, none⟩ : Option Addr) = a := ⟨_, rfl⟩
  obtain ⟨A2o, hA2⟩ : ∃ a, (some ⟨w143.heap.size + 1, 0, none⟩ : Option Addr) = a := ⟨_, rfl⟩
  obtain ⟨g147, hgn⟩ : ∃ g, w143.heap.size + 2 = g := ⟨_, rfl⟩
  rw [hA1, hA2] at V_two V_one B145 ⊢
  try rw [hgn]
  rw [hgn] at V_one
  obtain ⟨w146, hww⟩ : ∃ W, (((w143.alloc (.cells #[.int .u32 1] 66)).alloc (.cells #[.int .u32 2] 66)).alloc (.cells #[.slice A1o 1 1, .slice A2o 1 1] 27)) = W := ⟨_, rfl⟩
  rw [hww] at B145 V_two V_one ⊢
  clear hww hgn hA1 hA2
  obtain ⟨hc148, hc149, hf150, hf151⟩ := blk_cells2 V_one.out.b
  go_wp2_with fail
  refine (show Calls Tryz.prog 61 #[.agg #[.slice A1o 1 1, .slice A2o 1 1], .int .i64 32] w146 (RtP w146 ((lim 1, dl 4294967296), 0)) by have h := power_any V_one.out.k 32 (by omega); rw [ex9] at h; exact h).mono ?_
  rintro e w152 ⟨v, rfl, ⟨u1, u2, rfl, s1, s2⟩, hb⟩
  have KN := Lib.hid (vr_rk s1 s2 v1p)
  obtain ⟨C153, m154, j155, e1⟩ := sl_form s1
  obtain ⟨D156, p157, q158, e2⟩ := sl_form s2
  subst e1 e2
  have V_two := Lib.hid (V_two.out.below hb)
  have V_one := Lib.hid (V_one.out.below hb)
  have B159 := Lib.hid (below_step B145.out hb)
  clear B145
  clear s1 s2 hb
  clear hc148 hc149 hf150 hf151
  go_upto_region 13 with fail
  have V_two := Lib.hid (V_two.out.below (boxb w152 (.slice C153 m154 j155) (.slice D156 p157 q158)))
  have V_one := Lib.hid (V_one.out.below (boxb w152 (.slice C153 m154 j155) (.slice D156 p157 q158)))
  have B160 := Lib.hid (below_step B159.out (boxb w152 (.slice C153 m154 j155) (.slice D156 p157 q158)))
  clear B159
  have V_p := Lib.hid (Bx.new KN.out)
  clear KN
  obtain ⟨g161, hgn⟩ : ∃ g, w152.heap.size = g := ⟨_, rfl⟩
  obtain ⟨w162, hww⟩ : ∃ W, w152.alloc (.cells #[.slice C153 m154 j155, .slice D156 p157 q158] 27) = W := ⟨_, rfl⟩
  rw [hww] at B160 V_two V_one V_p ⊢
  rw [hgn] at V_p ⊢
  clear hww hgn
  clear V_one
  obtain ⟨hc163, hc164, hf165, hf166⟩ := blk_cells2 V_two.out.b
  go_wp2_with fail
  refine (show Calls Tryz.prog 61 #[.agg #[.slice C13 m14 j15, .slice D16 0 q18], .int .i64 2047] w162 (RtP w162 ((powR (lim 2, dl 1) 2047).1, 0)) by have h := power_any V_two.out.k 2047 (by omega); rw [show powR (lim 2, dl 1) 2047 = ((powR (lim 2, dl 1) 2047).1, 0) from Prod.ext rfl ex10] at h; exact h).mono ?_
  rintro e w167 ⟨v, rfl, ⟨u1, u2, rfl, s1, s2⟩, hb⟩
  obtain ⟨C168, m169, j170, e1⟩ := sl_form s1
  obtain ⟨D171, p172, q173, e2⟩ := sl_form s2
  subst e1 e2
  have V_two := Lib.hid (V_two.out.below hb)
  have V_p := Lib.hid (V_p.out.below hb)
  have B174 := Lib.hid (below_step B160.out hb)
  clear B160
  clear s1 s2 hb
  clear hc163 hc164 hf165 hf166
  go_upto_region 14 with fail
  have V_two := Lib.hid (V_two.out.below (boxb w167 (.slice C168 m169 j170) (.slice D171 p172 q173)))
  have V_p := Lib.hid (V_p.out.below (boxb w167 (.slice C168 m169 j170) (.slice D171 p172 q173)))
  have B175 := Lib.hid (below_step B174.out (boxb w167 (.slice C168 m169 j170) (.slice D171 p172 q173)))
  clear B174
  obtain ⟨g176, hgn⟩ : ∃ g, w167.heap.size = g := ⟨_, rfl⟩
  obtain ⟨w177, hww⟩ : ∃ W, w167.alloc (.cells #[.slice C168 m169 j170, .slice D171 p172 q173] 27) = W := ⟨_, rfl⟩
  rw [hww] at B175 V_two V_p ⊢
  rw [hgn]
  clear hww hgn
  obtain ⟨hc178, hc179, hf180, hf181⟩ := blk_cells2 V_two.out.b
  go_wp2_with fail
  refine (show Calls Tryz.prog 61 #[.agg #[.slice C13 m14 j15, .slice D16 0 q18], .int .i64 2048] w177 (RtP w177 ((powR (lim 2, dl 1) 2048).1, 4)) by have h := power_any V_two.out.k 2048 (by omega); rw [show powR (lim 2, dl 1) 2048 = ((powR (lim 2, dl 1) 2048).1, 4) from Prod.ext rfl ex11] at h; exact h).mono ?_
  rintro e w182 ⟨v, rfl, ⟨u1, u2, rfl, s1, s2⟩, hb⟩
  obtain ⟨C183, m184, j185, e1⟩ := sl_form s1
  obtain ⟨D186, p187, q188, e2⟩ := sl_form s2
  subst e1 e2
  have V_two := Lib.hid (V_two.out.below hb)
  have V_p := Lib.hid (V_p.out.below hb)
  have B189 := Lib.hid (below_step B175.out hb)
  clear B175
  clear s1 s2 hb
  clear hc178 hc179 hf180 hf181
  go_upto_region 15 with fail
  have V_two := Lib.hid (V_two.out.below (boxb w182 (.slice C183 m184 j185) (.slice D186 p187 q188)))
  have V_p := Lib.hid (V_p.out.below (boxb w182 (.slice C183 m184 j185) (.slice D186 p187 q188)))
  have B190 := Lib.hid (below_step B189.out (boxb w182 (.slice C183 m184 j185) (.slice D186 p187 q188)))
  clear B189
  obtain ⟨g191, hgn⟩ : ∃ g, w182.heap.size = g := ⟨_, rfl⟩
  obtain ⟨w192, hww⟩ : ∃ W, w182.alloc (.cells #[.slice C183 m184 j185, .slice D186 p187 q188] 27) = W := ⟨_, rfl⟩
  rw [hww] at B190 V_two V_p ⊢
  rw [hgn]
  clear hww hgn
  clear V_two
  obtain ⟨hc193, hc194, hf195, hf196⟩ := blk_cells2 V_p.out.b
  go_wp2_with fail
  refine (show Calls Tryz.prog 26 #[.agg #[.slice C153 m154 j155, .slice D156 p157 q158]] w192 (PrP w192 ([49, 47, 52, 50, 57, 52, 57, 54, 55, 50, 57, 54], 0)) by have h := print_any V_p.out.k; rw [ex12] at h; exact h).mono ?_
  rintro e w197 ⟨rfl, hb⟩
  have V_p := Lib.hid (V_p.out.below hb)
  have B198 := Lib.hid (below_step B190.out hb)
  clear B190
  clear hb
  clear hc193 hc194 hf195 hf196
  obtain ⟨hc199, hc200, hf201, hf202⟩ := blk_cells2 V_p.out.b
  go_wp2_with fail
  have hs01 := sl_two w197
  refine (show Calls Tryz.prog 58 #[.slice D156 p157 q158, .slice (some ⟨w197.heap.size, 0, none⟩) 2 2] (w197.alloc (.cells #[.int .u32 0, .int .u32 1] 66)) (fun e w' => e = .returned (.bool true) ∧ ∃ q, w' = (w197.alloc (.cells #[.int .u32 0, .int .u32 1] 66)).drewN q) by have h := sameLimbs_any (V_p.out.k.s2.below ((Below.refl _ _).alloc (Nat.le_refl _) (.cells #[.int .u32 0, .int .u32 1] 66))) hs01 (by show (dl 4294967296).length ≤ 1000000; rw [dl_p]; simp); rw [show decide ((lim 1, dl 4294967296).2 = [0, 1]) = true from decide_eq_true dl_p] at h; exact h).mono ?_
  rintro e w203 ⟨rfl, q, rfl⟩
  clear hc199 hc200 hf201 hf202
  clear V_p hs01
  have hbq := below_drewN ((Below.refl w197.heap.size w197).alloc (Nat.le_refl _) (.cells #[.int .u32 0, .int .u32 1] 66)) q
  have B204 := Lib.hid (below_step B198.out hbq)
  clear B198
  clear hbq
  obtain ⟨w205, hww⟩ : ∃ W, (w197.alloc (.cells #[.int .u32 0, .int .u32 1] 66)).drewN q = W := ⟨_, rfl⟩
  rw [hww] at B204 ⊢
  clear hww
  go_wp2_with fail
  have hp4 : Rk ((((w205.alloc (.cells #[.int .u32 1] 66)).alloc (.cells #[.int .u32 3] 66)).alloc (.cells #[.int .u32 3] 66)).alloc (.cells #[.int .u32 7] 66)) (.slice (some ⟨w205.heap.size, 0, none⟩) 1 1) (.slice (some ⟨w205.heap.size + 1, 0, none⟩) 1 1) (lim 1, dl 3) ∧ Rk ((((w205.alloc (.cells #[.int .u32 1] 66)).alloc (.cells #[.int .u32 3] 66)).alloc (.cells #[.int .u32 3] 66)).alloc (.cells #[.int .u32 7] 66)) (.slice (some ⟨w205.heap.size + 2, 0, none⟩) 1 1) (.slice (some ⟨w205.heap.size + 3, 0, none⟩) 1 1) (lim 3, dl 7) ∧ Below w205.heap.size w205 ((((w205.alloc (.cells #[.int .u32 1] 66)).alloc (.cells #[.int .u32 3] 66)).alloc (.cells #[.int .u32 3] 66)).alloc (.cells #[.int .u32 7] 66)) := pair4 w205 1 3 3 7 (by decide) (by decide) (by decide) (by decide) (by decide) (by decide) (by decide) (by decide)
  have hsm := simplest_any hp4.1 hp4.2.1
  rw [ex13] at hsm
  have hb4 := hp4.2.2
  have B206 := Lib.hid (below_step B204.out hb4)
  clear B204
  clear hp4 hb4
  refine hsm.mono ?_
  clear hsm
  rintro e w207 ⟨v, rfl, ⟨u1, u2, rfl, s1, s2⟩, hb⟩
  have KN := Lib.hid (vr_rk s1 s2 v13)
  obtain ⟨C208, m209, j210, e1⟩ := sl_form s1
  obtain ⟨D211, p212, q213, e2⟩ := sl_form s2
  subst e1 e2
  have B214 := Lib.hid (below_step B206.out hb)
  clear B206
  clear s1 s2 hb
  go_upto_region 19 with fail
  have B215 := Lib.hid (below_step B214.out (boxb w207 (.slice C208 m209 j210) (.slice D211 p212 q213)))
  clear B214
  have V_x := Lib.hid (Bx.new KN.out)
  clear KN
  obtain ⟨g216, hgn⟩ : ∃ g, w207.heap.size = g := ⟨_, rfl⟩
  obtain ⟨w217, hww⟩ : ∃ W, w207.alloc (.cells #[.slice C208 m209 j210, .slice D211 p212 q213] 27) = W := ⟨_, rfl⟩
  rw [hww] at B215 V_x ⊢
  rw [hgn] at V_x ⊢
  clear hww hgn
  go_wp2_with fail
  have hp4 : Rk ((((w217.alloc (.cells #[.int .u32 5] 66)).alloc (.cells #[.int .u32 2] 66)).alloc (.cells #[.int .u32 7] 66)).alloc (.cells #[.int .u32 2] 66)) (.slice (some ⟨w217.heap.size, 0, none⟩) 1 1) (.slice (some ⟨w217.heap.size + 1, 0, none⟩) 1 1) (lim 5, dl 2) ∧ Rk ((((w217.alloc (.cells #[.int .u32 5] 66)).alloc (.cells #[.int .u32 2] 66)).alloc (.cells #[.int .u32 7] 66)).alloc (.cells #[.int .u32 2] 66)) (.slice (some ⟨w217.heap.size + 2, 0, none⟩) 1 1) (.slice (some ⟨w217.heap.size + 3, 0, none⟩) 1 1) (lim 7, dl 2) ∧ Below w217.heap.size w217 ((((w217.alloc (.cells #[.int .u32 5] 66)).alloc (.cells #[.int .u32 2] 66)).alloc (.cells #[.int .u32 7] 66)).alloc (.cells #[.int .u32 2] 66)) := pair4 w217 5 2 7 2 (by decide) (by decide) (by decide) (by decide) (by decide) (by decide) (by decide) (by decide)
  have hsm := simplest_any hp4.1 hp4.2.1
  rw [ex14] at hsm
  have hb4 := hp4.2.2
  have V_x := Lib.hid (V_x.out.below hb4)
  have B218 := Lib.hid (below_step B215.out hb4)
  clear B215
  clear hp4 hb4
  refine hsm.mono ?_
  clear hsm
  rintro e w219 ⟨v, rfl, ⟨u1, u2, rfl, s1, s2⟩, hb⟩
  have KN := Lib.hid (vr_rk s1 s2 v31)
  obtain ⟨C220, m221, j222, e1⟩ := sl_form s1
  obtain ⟨D223, p224, q225, e2⟩ := sl_form s2
  subst e1 e2
  have V_x := Lib.hid (V_x.out.below hb)
  have B226 := Lib.hid (below_step B218.out hb)
  clear B218
  clear s1 s2 hb
  go_upto_region 20 with fail
  have V_x := Lib.hid (V_x.out.below (boxb w219 (.slice C220 m221 j222) (.slice D223 p224 q225)))
  have B227 := Lib.hid (below_step B226.out (boxb w219 (.slice C220 m221 j222) (.slice D223 p224 q225)))
  clear B226
  have V_y := Lib.hid (Bx.new KN.out)
  clear KN
  obtain ⟨g228, hgn⟩ : ∃ g, w219.heap.size = g := ⟨_, rfl⟩
  obtain ⟨w229, hww⟩ : ∃ W, w219.alloc (.cells #[.slice C220 m221 j222, .slice D223 p224 q225] 27) = W := ⟨_, rfl⟩
  rw [hww] at B227 V_x V_y ⊢
  rw [hgn] at V_y ⊢
  clear hww hgn
  go_wp2_with fail
  refine (HP1.out _ B227.out).mono ?_
  rintro e w230 ⟨v, rfl, ⟨u1, u2, rfl, s1, s2⟩, hb⟩
  obtain ⟨C231, m232, j233, e1⟩ := sl_form s1
  obtain ⟨D234, p235, q236, e2⟩ := sl_form s2
  subst e1 e2
  have V_x := Lib.hid (V_x.out.below hb)
  have V_y := Lib.hid (V_y.out.below hb)
  have B237 := Lib.hid (below_step B227.out hb)
  clear B227
  clear s1 s2 hb
  go_upto_region 21 with fail
  have V_x := Lib.hid (V_x.out.below (boxb w230 (.slice C231 m232 j233) (.slice D234 p235 q236)))
  have V_y := Lib.hid (V_y.out.below (boxb w230 (.slice C231 m232 j233) (.slice D234 p235 q236)))
  have B238 := Lib.hid (below_step B237.out (boxb w230 (.slice C231 m232 j233) (.slice D234 p235 q236)))
  clear B237
  obtain ⟨g239, hgn⟩ : ∃ g, w230.heap.size = g := ⟨_, rfl⟩
  obtain ⟨w240, hww⟩ : ∃ W, w230.alloc (.cells #[.slice C231 m232 j233, .slice D234 p235 q236] 27) = W := ⟨_, rfl⟩
  rw [hww] at B238 V_x V_y ⊢
  rw [hgn]
  clear hww hgn
  go_wp2_with fail
  refine (HP2.out _ B238.out).mono ?_
  rintro e w241 ⟨v, rfl, ⟨u1, u2, rfl, s1, s2⟩, hb⟩
  obtain ⟨C242, m243, j244, e1⟩ := sl_form s1
  obtain ⟨D245, p246, q247, e2⟩ := sl_form s2
  subst e1 e2
  have V_x := Lib.hid (V_x.out.below hb)
  have V_y := Lib.hid (V_y.out.below hb)
  have B248 := Lib.hid (below_step B238.out hb)
  clear B238
  clear s1 s2 hb
  go_upto_region 22 with fail
  have V_x := Lib.hid (V_x.out.below (boxb w241 (.slice C242 m243 j244) (.slice D245 p246 q247)))
  have V_y := Lib.hid (V_y.out.below (boxb w241 (.slice C242 m243 j244) (.slice D245 p246 q247)))
  have B249 := Lib.hid (below_step B248.out (boxb w241 (.slice C242 m243 j244) (.slice D245 p246 q247)))
  clear B248
  obtain ⟨g250, hgn⟩ : ∃ g, w241.heap.size = g := ⟨_, rfl⟩
  obtain ⟨w251, hww⟩ : ∃ W, w241.alloc (.cells #[.slice C242 m243 j244, .slice D245 p246 q247] 27) = W := ⟨_, rfl⟩
  rw [hww] at B249 V_x V_y ⊢
  rw [hgn]
  clear hww hgn
  go_wp2_with fail
  refine (HP3.out _ B249.out).mono ?_
  rintro e w252 ⟨v, rfl, ⟨u1, u2, rfl, s1, s2⟩, hb⟩
  obtain ⟨C253, m254, j255, e1⟩ := sl_form s1
  obtain ⟨D256, p257, q258, e2⟩ := sl_form s2
  subst e1 e2
  have V_x := Lib.hid (V_x.out.below hb)
  have V_y := Lib.hid (V_y.out.below hb)
  have B259 := Lib.hid (below_step B249.out hb)
  clear B249
  clear s1 s2 hb
  go_upto_region 23 with fail
  have V_x := Lib.hid (V_x.out.below (boxb w252 (.slice C253 m254 j255) (.slice D256 p257 q258)))
  have V_y := Lib.hid (V_y.out.below (boxb w252 (.slice C253 m254 j255) (.slice D256 p257 q258)))
  have B260 := Lib.hid (below_step B259.out (boxb w252 (.slice C253 m254 j255) (.slice D256 p257 q258)))
  clear B259
  obtain ⟨g261, hgn⟩ : ∃ g, w252.heap.size = g := ⟨_, rfl⟩
  obtain ⟨w262, hww⟩ : ∃ W, w252.alloc (.cells #[.slice C253 m254 j255, .slice D256 p257 q258] 27) = W := ⟨_, rfl⟩
  rw [hww] at B260 V_x V_y ⊢
  rw [hgn]
  clear hww hgn
  obtain ⟨hc263, hc264, hf265, hf266⟩ := blk_cells2 V_x.out.b
  go_wp2_with fail
  refine (is_true (1) (3) (by omega) (by omega) V_x.out.k v13 (of_lit 1 3 1 3 (by decide) (by decide) (by decide) (by decide) (by decide))).mono ?_
  rintro e w267 ⟨rfl, hb⟩
  have V_x := Lib.hid (V_x.out.below hb)
  have V_y := Lib.hid (V_y.out.below hb)
  have B268 := Lib.hid (below_step B260.out hb)
  clear B260
  clear hb
  clear hc263 hc264 hf265 hf266
  clear V_x
  obtain ⟨hc269, hc270, hf271, hf272⟩ := blk_cells2 V_y.out.b
  go_wp2_with fail
  refine (is_true (3) (1) (by omega) (by omega) V_y.out.k v31 (of_lit 3 1 3 1 (by decide) (by decide) (by decide) (by decide) (by decide))).mono ?_
  rintro e w273 ⟨rfl, hb⟩
  have V_y := Lib.hid (V_y.out.below hb)
  have B274 := Lib.hid (below_step B268.out hb)
  clear B268
  clear hb
  clear hc269 hc270 hf271 hf272
  clear V_y
  go_wp2_with fail
  go_ret
  exact ⟨rfl, B274.out⟩
end Go.Proofs.YtbfhilbagojdnaaGreat
namespace Go.Proofs.YtbfhilbagojdnaaGreat
open Go.RowKit Wr Go.Proofs.YtbfhilbagojdnaaGreat.Nm
set_option linter.unusedVariables false
set_option maxRecDepth 100000

/-- A result that a box can hold. -/
def Gd5 (X : Rt × Nat) : Prop := OkR X.1 ∧ X.1.1.length ≤ 64 ∧ X.1.2.length ≤ 64
theorem gd_rk {w : World} {v : Value} {X : Rt × Nat} (h : Rv w v X.1) (hg : Gd5 X) : ∃ u1 u2, v = .agg #[u1, u2] ∧ Rk w u1 u2 X.1 := by
  obtain ⟨u1, u2, e, s1, s2⟩ := h
  have h1 := hg.2.1; have h2 := hg.2.2
  exact ⟨u1, u2, e, s1, s2, hg.1, by omega, by omega⟩
theorem Bx.put {W : World} {g : Nat} {A1 A2 : Option Addr} {n1 k1 n2 k2 : Nat} {r s : Rt} {B1 B2 : Option Addr} {m1 j1 m2 j2 : Nat} (h : Bx W g A1 n1 k1 A2 n2 k2 r) (hk : Rk W (.slice B1 m1 j1) (.slice B2 m2 j2) s) :
    Bx ((W.setCell ⟨g, 0, none⟩ (.slice B1 m1 j1)).setCell ⟨g, 1, none⟩ (.slice B2 m2 j2)) g B1 m1 j1 B2 m2 j2 s :=
  ⟨(h.b.put 0 _).put 1 _, sl_res hk.s1 h.b _ _ _ _ _ _, sl_res hk.s2 h.b _ _ _ _ _ _, hk.ok, hk.l1, hk.l2⟩
theorem Bx.far {W : World} {g g' : Nat} {A1 A2 : Option Addr} {n1 k1 n2 k2 : Nat} {r : Rt} {D1 D2 : Option Addr} {p1 q1 p2 q2 : Nat} {s : Rt} (h : Bx W g A1 n1 k1 A2 n2 k2 r) (h2 : Bx W g' D1 p1 q1 D2 p2 q2 s) (hne : g ≠ g') (B1 : Option Addr) (m1 j1 : Nat) (B2 : Option Addr) (m2 j2 : Nat) :
    Bx ((W.setCell ⟨g', 0, none⟩ (.slice B1 m1 j1)).setCell ⟨g', 1, none⟩ (.slice B2 m2 j2)) g A1 n1 k1 A2 n2 k2 r :=
  ⟨(h.b.far (p := ⟨g', 0, none⟩) hne _).far (p := ⟨g', 1, none⟩) hne _, sl_res h.k.s1 h2.b _ _ _ _ _ _, sl_res h.k.s2 h2.b _ _ _ _ _ _, h.k.ok, h.k.l1, h.k.l2⟩
end Go.Proofs.YtbfhilbagojdnaaGreat
namespace Go.Proofs.YtbfhilbagojdnaaGreat
open Go.RowKit Wr Go.Proofs.YtbfhilbagojdnaaGreat.Nm
set_option linter.unusedVariables false
set_option maxRecDepth 100000

end Go.Proofs.YtbfhilbagojdnaaGreat
