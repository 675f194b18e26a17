/-
  Texts of the proof, joined: Rr, Rs, Rj, Rb, Ma, Mb, Mc, Fd, Pa.
  No condition: lemmas.
-/
import Derived.Test.YtbfhilbagojdnaaGreatHr10
namespace Go.Proofs.YtbfhilbagojdnaaGreat
open Go.RowKit Wr Go.Proofs.YtbfhilbagojdnaaGreat.Nm
set_option linter.unusedVariables false
set_option maxRecDepth 100000

theorem Rk.rvalid {w : World} {v1 v2 : Value} {r : Rt} (h : Rk w v1 v2 r) : Calls Tryz.prog 67 #[.agg #[v1, v2]] w (VlP w r) := by
  have h1 := h.l1; have h2 := h.l2
  exact rvalid_sl h.s1 h.s2 h.ok.1 h.ok.2 (by omega) (by omega)
set_option maxHeartbeats 2000000 in
theorem rof_any (n d : Int) (w : World) (hn : -9223372036854775808 ≤ n ∧ n ≤ 9223372036854775807) (hd : -9223372036854775808 ≤ d ∧ d ≤ 9223372036854775807) : Calls Tryz.prog 25 #[.int .i64 n, .int .i64 d] w (RtP w (ofR n d)) := by
  suffices hgen : ∀ Res, Hid (ofR n d = Res) → Calls Tryz.prog 25 #[.int .i64 n, .int .i64 d] w (RtP w Res) from hgen _ (Lib.hid rfl)
  intro Res HRR
  have hre := HRR.out
  unfold ofR at hre
  have HR0 := Lib.hid (res0 w); have HB0 := Lib.hid (bel0 w)
  by_cases hc : n < 0 ∨ d ≤ 0
  · rw [if_pos hc] at hre
    subst hre
    clear HRR
    by_cases h1 : n < 0
    · clear hc
      go_enter Tryz.func25, Tryz.ntmps25
      go_upto_region 1 with (fail)
      generalize w.alloc (.cells #[.slice none 0 0, .slice none 0 0] 27) = W0 at HR0 HB0 ⊢
      obtain ⟨hc1, hc2, hf1, hf2⟩ := blk_cells2 HR0.out
      go_wp2_with fail
      have hbk := (((HR0.out).put 0 (.slice none 0 0)).put 1 (.slice none 0 0))
      have hbl := (((HB0.out).setCell (p := ⟨w.heap.size, 0, none⟩) (Nat.le_refl _) (.slice none 0 0)).setCell (p := ⟨w.heap.size, 1, none⟩) (Nat.le_refl _) (.slice none 0 0))
      refine bodyPost_ret (v := .tuple #[.agg #[(.slice none 0 0), (.slice none 0 0)], .int .i64 5]) ?_ rfl ⟨.agg #[(.slice none 0 0), (.slice none 0 0)], rfl, ⟨_, _, rfl, sl_res (Sl.nil _) HR0.out _ _ _ _ _ _, sl_res (Sl.nil _) HR0.out _ _ _ _ _ _⟩, hbl⟩
      have hr := run_loadVar_at (P := Tryz.prog) _ ⟨w.heap.size, 0, none⟩ 27 [(.slice none 0 0), (.slice none 0 0)] _ hbk.at Tryz.underlying27 rfl size28
      simp [results, Tryz.results25, asAddr, hr]
    · have h2 : d ≤ 0 := by omega
      clear hc
      go_enter Tryz.func25, Tryz.ntmps25
      go_upto_region 1 with (fail)
      generalize w.alloc (.cells #[.slice none 0 0, .slice none 0 0] 27) = W0 at HR0 HB0 ⊢
      obtain ⟨hc1, hc2, hf1, hf2⟩ := blk_cells2 HR0.out
      go_wp2_with fail
      have hbk := (((HR0.out).put 0 (.slice none 0 0)).put 1 (.slice none 0 0))
      have hbl := (((HB0.out).setCell (p := ⟨w.heap.size, 0, none⟩) (Nat.le_refl _) (.slice none 0 0)).setCell (p := ⟨w.heap.size, 1, none⟩) (Nat.le_refl _) (.slice none 0 0))
      refine bodyPost_ret (v := .tuple #[.agg #[(.slice none 0 0), (.slice none 0 0)], .int .i64 5]) ?_ rfl ⟨.agg #[(.slice none 0 0), (.slice none 0 0)], rfl, ⟨_, _, rfl, sl_res (Sl.nil _) HR0.out _ _ _ _ _ _, sl_res (Sl.nil _) HR0.out _ _ _ _ _ _⟩, hbl⟩
      have hr := run_loadVar_at (P := Tryz.prog) _ ⟨w.heap.size, 0, none⟩ 27 [(.slice none 0 0), (.slice none 0 0)] _ hbk.at Tryz.underlying27 rfl size28
      simp [results, Tryz.results25, asAddr, hr]
  · rw [if_neg hc] at hre
    subst hre
    clear HRR
    obtain ⟨x, rfl⟩ := Int.eq_ofNat_of_zero_le (show 0 ≤ n by omega)
    obtain ⟨y, rfl⟩ := Int.eq_ofNat_of_zero_le (show 0 ≤ d by omega)
    have h1 : ¬ ((x : Int) < 0) := by omega
    have h2 : ¬ ((y : Int) ≤ 0) := by omega
    have h0 : 0 < y := by omega
    rw [Int.toNat_natCast, Int.toNat_natCast]
    have hx : x < 9223372036854775808 := by omega
    have hy : y < 9223372036854775808 := by omega
    have HL1 := Lib.hid (fun W => whole_any x W hx)
    have HL2 := Lib.hid (fun W => whole_any y W hy)
    have hlx := lim_two (show x < 18446744073709551616 by omega)
    have hly := lim_two (show y < 18446744073709551616 by omega)
    have HLO := Lib.hid (fun W (v1 : Value) (hv1 : Sl W v1 (lim x)) (v2 : Value) (hv2 : Sl W v2 (lim y)) => rreduced_any hv1 hv2 h0 (by omega) (by omega))
    clear hc hlx hly h0
    go_enter Tryz.func25, Tryz.ntmps25
    go_wp2_with fail
    refine (HL1.out _).mono ?_
    rintro e w1 ⟨v1, rfl, s1, hb1⟩
    have S1 := Lib.hid s1; have HB1 := Lib.hid (below_step HB0.out hb1); have HR1 := Lib.hid (HR0.out.below hb1 HR0.out.lt)
    clear s1 hb1 HB0 HR0
    go_wp2_with fail
    refine (HL2.out _).mono ?_
    rintro e w2 ⟨v2, rfl, s2, hb2⟩
    have S2 := Lib.hid s2; have S1b := Lib.hid (S1.out.below hb2); have HB2 := Lib.hid (below_step HB1.out hb2); have HR2 := Lib.hid (HR1.out.below hb2 HR1.out.lt)
    clear s2 hb2 HB1 HR1
    go_wp2_with fail
    refine (HLO.out _ _ S1b.out _ S2.out).mono ?_
    rintro e w3 ⟨v, rfl, ⟨u1, u2, rfl, s1, s2⟩, hb2⟩
    have HRk := HR2.out.below hb2 HR2.out.lt
    obtain ⟨hc1, hc2, hf1, hf2⟩ := blk_cells2 HRk
    have T1 := Lib.hid s1; have T2 := Lib.hid s2; have HRK := Lib.hid HRk; have HBK := Lib.hid (below_step HB2.out hb2)
    obtain ⟨C1, m1, j1, e1⟩ := sl_form s1
    obtain ⟨C2, m2, j2, e2⟩ := sl_form s2
    clear hb2 s1 s2 HRk
    subst e1 e2
    go_wp2_with fail
    have hbk := (((HRK.out).put 0 (.slice C1 m1 j1)).put 1 (.slice C2 m2 j2))
    have hbl := (((HBK.out).setCell (p := ⟨w.heap.size, 0, none⟩) (Nat.le_refl _) (.slice C1 m1 j1)).setCell (p := ⟨w.heap.size, 1, none⟩) (Nat.le_refl _) (.slice C2 m2 j2))
    refine bodyPost_ret (v := .tuple #[.agg #[(.slice C1 m1 j1), (.slice C2 m2 j2)], .int .i64 (((lowR x y).2 : Nat) : Int)]) ?_ rfl ⟨.agg #[(.slice C1 m1 j1), (.slice C2 m2 j2)], rfl, ⟨_, _, rfl, sl_res T1.out HRK.out _ _ _ _ _ _, sl_res T2.out HRK.out _ _ _ _ _ _⟩, hbl⟩
    have hr := run_loadVar_at (P := Tryz.prog) _ ⟨w.heap.size, 0, none⟩ 27 [(.slice C1 m1 j1), (.slice C2 m2 j2)] _ hbk.at Tryz.underlying27 rfl size28
    simp [results, Tryz.results25, asAddr, hr]
end Go.Proofs.YtbfhilbagojdnaaGreat
namespace Go.Proofs.YtbfhilbagojdnaaGreat
open Go.RowKit Wr Go.Proofs.YtbfhilbagojdnaaGreat.Nm
set_option linter.unusedVariables false
set_option maxRecDepth 100000

theorem vr_rk {w : World} {u1 u2 : Value} {x y : Nat} (h1 : Sl w u1 (lim x)) (h2 : Sl w u2 (dl y)) (hv : Vr x y) : Rk w u1 u2 (lim x, dl y) := by
  obtain ⟨l1, l2, l3⟩ := Vr.len hv
  exact ⟨h1, h2, ⟨lim_ok x, dl_ok y⟩, by show (lim x).length ≤ 1000; omega, by show (dl y).length ≤ 1000; omega⟩
end Go.Proofs.YtbfhilbagojdnaaGreat
namespace Go.Proofs.YtbfhilbagojdnaaGreat
open Go.RowKit Wr Go.Proofs.YtbfhilbagojdnaaGreat.Nm
set_option linter.unusedVariables false
set_option maxRecDepth 100000

def PwI (w : World) (x y n gO : Nat) (a1 a2 : Value) (s8 : Value) (wr : World) : Prop := ∃ (i : Nat) (B1 B2 : Option Addr) (m3 m4 j3 j4 : Nat), i ≤ n ∧ s8 = .int .i64 ((i : Nat) : Int) ∧ Blk wr w.heap.size 27 [a1, a2] ∧ Blk wr (w.heap.size + 1) 27 [.slice none 0 0, .slice none 0 0] ∧ Blk wr gO 27 [.slice B1 m3 j3, .slice B2 m4 j4] ∧
  Sl wr (.slice B1 m3 j3) (lim (x ^ i)) ∧ Sl wr (.slice B2 m4 j4) (dl (y ^ i)) ∧ x ^ i < 4294967296 ^ 64 ∧ y ^ i < 4294967296 ^ 64 ∧ Below w.heap.size w wr
end Go.Proofs.YtbfhilbagojdnaaGreat
namespace Go.Proofs.YtbfhilbagojdnaaGreat
open Go.RowKit Wr Go.Proofs.YtbfhilbagojdnaaGreat.Nm
set_option linter.unusedVariables false
set_option maxRecDepth 100000

/-- What Around makes of a number. -/
def arI (n m : Int) : Int := (if n < 0 then -(n + 1) else n) % m
theorem arI_lo (n m : Int) (h : 0 < m) : 0 ≤ arI n m := Int.emod_nonneg _ (by omega)
theorem arI_hi (n m : Int) (h : 0 < m) : arI n m < m := Int.emod_lt_of_pos _ h
theorem around_any (n m : Int) (w : World) (hn : -9223372036854775808 ≤ n ∧ n ≤ 9223372036854775807) (hm : 0 < m ∧ m ≤ 4611686018427387904) : Calls Tryz.prog 8 #[.int .i64 n, .int .i64 m] w fun e w' => e = .returned (.int .i64 (arI n m)) ∧ w = w' := by
  by_cases h : n < 0
  · have e : arI n m = -(n + 1) % m := by unfold arI; rw [if_pos h]
    rw [e]
    have h1 : 0 ≤ -(n + 1) := by omega
    have h3 : ((m : Int) == 0) = false := by rw [beq_eq_false_iff_ne]; omega
    have h4 : m ≠ 0 := by omega
    have h5 : m ≠ -1 := by omega
    have h6 : (-(n + 1)).tmod m = -(n + 1) % m := Int.tmod_eq_emod_of_nonneg h1
    clear e
    go_enter Tryz.func8, Tryz.ntmps8
    go_wp2
    go_ret
    exact ⟨rfl, rfl⟩
  · have e : arI n m = n % m := by unfold arI; rw [if_neg h]
    rw [e]
    have h1 : 0 ≤ n := by omega
    have h3 : ((m : Int) == 0) = false := by rw [beq_eq_false_iff_ne]; omega
    have h4 : m ≠ 0 := by omega
    have h5 : m ≠ -1 := by omega
    have h6 : n.tmod m = n % m := Int.tmod_eq_emod_of_nonneg h1
    clear e
    go_enter Tryz.func8, Tryz.ntmps8
    go_wp2
    go_ret
    exact ⟨rfl, rfl⟩
theorem sameLimbs_false (A A2 : Option Addr) (n n2 c c2 : Nat) (w : World) (h : n ≠ n2) : Calls Tryz.prog 58 #[.slice A n c, .slice A2 n2 c2] w fun e w' => e = .returned (.bool false) ∧ ∃ q, w' = w.drewN q := by
  have hne : ((n : Int) != (n2 : Int)) = true := by rw [bne_iff_ne]; omega
  go_enter Tryz.func58, Tryz.ntmps58
  go_wp2
  go_ret
  exact ⟨rfl, 0, rfl⟩
set_option maxHeartbeats 2000000 in
theorem sameLimbs_any {v1 v2 : Value} {a b : List Nat} {w : World} (h1 : Sl w v1 a) (h2 : Sl w v2 b) (hl : a.length ≤ 1000000) : Calls Tryz.prog 58 #[v1, v2] w fun e w' => e = .returned (.bool (decide (a = b))) ∧ ∃ q, w' = w.drewN q := by
  obtain ⟨A, c, rfl, hc, hn, hr⟩ := h1
  obtain ⟨A2, c2, rfl, hc2, hn2, hr2⟩ := h2
  by_cases hab : a.length = b.length
  · obtain ⟨N, hN⟩ : ∃ n, n = b.length := ⟨_, rfl⟩
    obtain ⟨res, hres⟩ : ∃ r, r = decide (a = b) := ⟨_, rfl⟩
    rw [← hres]
    have HRE := Lib.hid hres
    have HA := Lib.hid (show a.length = N by omega)
    have HN := Lib.hid hN
    rw [HA.out, ← HN.out]
    have hNI : (N : Int) ≤ 1000000 := by omega
    clear hN hab hl hc hc2 hn hn2 hres
    go_enter Tryz.func58, Tryz.ntmps58
    go_wp2
    go_loopw [5] (fun s wr => ∃ k q : Nat, k ≤ N ∧ s = .int .i64 (k : Int) ∧ a.take k = b.take k ∧ w.drewN q = wr) (fun s _ => N - (intOf s).toNat)
    case atStart => exact ⟨0, 0, Nat.zero_le _, rfl, rfl, rfl⟩
    case round =>
      obtain ⟨j, q, hk, rfl, ht, rfl⟩ := hrel
      have HT := Lib.hid ht
      clear ht
      rcases Nat.lt_or_ge j N with hlt | hge
      · have hja : j < a.length := by have := HA.out; omega
        have hjb : j < b.length := by have := HN.out; omega
        obtain ⟨g, o, rfl, hg, hc1⟩ := limb_cell hr j hja
        obtain ⟨g2, o2, rfl, hg2, hc2⟩ := limb_cell hr2 j hjb
        have i1 : (j : Int) < (N : Int) := by omega
        by_cases he : a[j] = b[j]
        · have hne : (((a[j] : Nat) : Int) != ((b[j] : Nat) : Int)) = false := by rw [he]; simp
          have HE := Lib.hid (take_eq_step j hja hjb HT.out he)
          generalize a[j] = x at *
          generalize b[j] = y at *
          clear he hr hr2
          go_wp2
          go_quiet (fail)
          go_wp2
          go_roundw
          case rel => exact ⟨j + 1, _, by omega, by go_num, HE.out, rfl⟩
          case measure => simp only [intOf]; omega
        · have hne : (((a[j] : Nat) : Int) != ((b[j] : Nat) : Int)) = true := by rw [bne_iff_ne]; omega
          have HF := Lib.hid (show res = false by rw [HRE.out]; exact decide_eq_false (by rintro rfl; exact he rfl))
          generalize a[j] = x at *
          generalize b[j] = y at *
          clear he hr hr2
          go_wp2
          go_quiet (fail)
          go_wp2
          go_ret
          exact ⟨by rw [HF.out]; rfl, _, World.drewN_drewN _ _ _⟩
      · have hjN : j = N := by omega
        subst hjN
        have HF := Lib.hid (show res = true by
          rw [HRE.out]
          have h := HT.out
          rw [List.take_of_length_le (by rw [HA.out]; exact Nat.le_refl _), List.take_of_length_le (by rw [← HN.out]; exact Nat.le_refl _)] at h
          exact decide_eq_true h)
        clear hr hr2 hk hge
        go_wp2
        go_ret
        exact ⟨by rw [HF.out]; rfl, q, rfl⟩
  · rw [decide_eq_false (by intro e; exact hab (by rw [e]))]
    exact sameLimbs_false A A2 _ _ c c2 w hab
set_option maxHeartbeats 2000000 in
theorem rsame_any {v1 v2 u1 u2 : Value} {r s : Rt} {w : World} (hr : Rk w v1 v2 r) (hs : Rk w u1 u2 s) : Calls Tryz.prog 15 #[.agg #[v1, v2], .agg #[u1, u2]] w (SmP w (decide (r = s))) := by
  obtain ⟨A1, n1, k1, e1⟩ := sl_form hr.s1
  obtain ⟨A2, n2, k2, e2⟩ := sl_form hr.s2
  obtain ⟨A3, n3, k3, e3⟩ := sl_form hs.s1
  obtain ⟨A4, n4, k4, e4⟩ := sl_form hs.s2
  subst e1 e2 e3 e4
  have hb := boxesL w (.slice A1 n1 k1) (.slice A2 n2 k2) (.slice A3 n3 k3) (.slice A4 n4 k4)
  obtain ⟨b1, hb1⟩ : ∃ b, b = decide (r.1 = s.1) := ⟨_, rfl⟩
  obtain ⟨b2, hb2⟩ : ∃ b, b = decide (r.2 = s.2) := ⟨_, rfl⟩
  have hl1 := hr.l1; have hl2 := hr.l2
  have HE1 := Lib.hid (fun W (h : Below w.heap.size w W) => sameLimbs_any (hr.s1.below h) (hs.s1.below h) (by omega))
  have HE2 := Lib.hid (fun W (h : Below w.heap.size w W) => sameLimbs_any (hr.s2.below h) (hs.s2.below h) (by omega))
  rw [← hb1] at HE1
  rw [← hb2] at HE2
  have HR := Lib.hid (show decide (r = s) = (b1 && b2) by
    rw [hb1, hb2, Bool.eq_iff_iff]
    simp only [decide_eq_true_eq, Bool.and_eq_true]
    exact ⟨fun e => by rw [e]; exact ⟨rfl, rfl⟩, fun e => Prod.ext e.1 e.2⟩)
  have HX := Lib.hid hb.1; have HB := Lib.hid hb.2
  obtain ⟨hc1, hc2, hf1, hf2⟩ := blk_cells2 hb.1.1
  obtain ⟨hc3, hc4, hf3, hf4⟩ := blk_cells2 hb.1.2
  clear hr hs hb hb1 hb2 hl1 hl2
  go_enter Tryz.func15, Tryz.ntmps15
  go_wp2_with fail
  refine (HE1.out _ HB.out).mono ?_
  rintro e w1 ⟨rfl, q, rfl⟩
  have HB1 := Lib.hid (below_drewN HB.out q)
  cases b1 with
  | false =>
    go_wp2_with fail
    go_ret
    exact ⟨by rw [HR.out]; rfl, HB1.out⟩
  | true =>
    go_wp2_with fail
    refine (HE2.out _ HB1.out).mono ?_
    rintro e w2 ⟨rfl, q2, rfl⟩
    have HB2 := Lib.hid (below_drewN HB1.out q2)
    go_wp2_with fail
    go_ret
    exact ⟨by rw [HR.out, Bool.true_and]; rfl, by have h := HB2.out; rwa [World.drewN_drewN] at h⟩
end Go.Proofs.YtbfhilbagojdnaaGreat
namespace Go.Proofs.YtbfhilbagojdnaaGreat
open Go.RowKit Wr Go.Proofs.YtbfhilbagojdnaaGreat.Nm
set_option linter.unusedVariables false
set_option maxRecDepth 100000

/-- A valid ratio is returned. -/
def VrP (w : World) (Pd : Nat → Nat → Prop) (e : Ending) (w' : World) : Prop := ∃ x y u1 u2, e = .returned (.agg #[u1, u2]) ∧ Rk w' u1 u2 (lim x, dl y) ∧ Vr x y ∧ Pd x y ∧ Below w.heap.size w w'
theorem low_ok {x y : Nat} (hy : 0 < y) (hx : x < 4294967296 ^ 64) (hy2 : y < 4294967296 ^ 64) : ∃ a b, Vr a b ∧ lowR x y = ((lim a, dl b), 0) ∧ a * y = x * b ∧ a ≤ x ∧ b ≤ y := by
  obtain ⟨h1, h2⟩ := low_co x y hy
  have hg : 0 < Nat.gcd x y := Nat.gcd_pos_of_pos_right x hy
  have a1 : x / Nat.gcd x y ≤ x := Nat.div_le_self _ _
  have a2 : y / Nat.gcd x y ≤ y := Nat.div_le_self _ _
  refine ⟨x / Nat.gcd x y, y / Nat.gcd x y, ⟨h1, h2, by omega, by omega⟩, ?_, ?_, a1, a2⟩
  · unfold lowR madeR; rw [if_pos ⟨by omega, by omega⟩]
  · obtain ⟨p, hp⟩ := Nat.gcd_dvd_left x y
    obtain ⟨q, hq⟩ := Nat.gcd_dvd_right x y
    have e1 : x / Nat.gcd x y = p := by exact Nat.div_eq_of_eq_mul_right hg hp
    have e2 : y / Nat.gcd x y = q := Nat.div_eq_of_eq_mul_right hg hq
    rw [e1, e2]
    generalize Nat.gcd x y = g at hp hq
    rw [hp, hq, Nat.mul_left_comm, Nat.mul_assoc]
theorem w64 (x : Nat) (h : x < 9223372036854775808) : x < 4294967296 ^ 64 := by
  have : (4294967296 : Nat) ^ 2 ≤ 4294967296 ^ 64 := Nat.pow_le_pow_right (by omega) (by omega)
  have e : (4294967296 : Nat) ^ 2 = 18446744073709551616 := by decide
  omega
/-- What Of returns at numbers in range. -/
theorem of_small {n d : Int} (hn : 0 ≤ n) (hd : 0 < d) (hn2 : n < 9223372036854775808) (hd2 : d < 9223372036854775808) : ∃ a b, Vr a b ∧ ofR n d = ((lim a, dl b), 0) ∧ (a : Int) * d = n * b ∧ (a : Int) ≤ n ∧ (b : Int) ≤ d := by
  obtain ⟨x, rfl⟩ := Int.eq_ofNat_of_zero_le hn
  obtain ⟨y, rfl⟩ := Int.eq_ofNat_of_zero_le (show 0 ≤ d by omega)
  obtain ⟨a, b, hv, hl, hm, h1, h2⟩ := low_ok (x := x) (y := y) (by omega) (w64 x (by omega)) (w64 y (by omega))
  refine ⟨a, b, hv, ?_, ?_, by omega, by omega⟩
  · unfold ofR; rw [if_neg (by omega), Int.toNat_natCast, Int.toNat_natCast, hl]
  · exact_mod_cast hm
set_option maxHeartbeats 2000000 in
theorem made_ref (n d : Int) (w : World) (hn : -9223372036854775808 ≤ n ∧ n ≤ 9223372036854775807) (hd : -9223372036854775808 ≤ d ∧ d ≤ 9223372036854775807) : Calls Tryz.prog 40 #[.int .i64 n, .int .i64 d] w (VrP w fun x y => x < 1048576 ∧ y ≤ 1048576) := by
  have a1 := arI_lo n 1048576 (by omega); have a2 := arI_hi n 1048576 (by omega)
  have b1 := arI_lo d 1048576 (by omega); have b2 := arI_hi d 1048576 (by omega)
  have HA := Lib.hid (fun W => around_any n 1048576 W hn (by omega)); have HB := Lib.hid (fun W => around_any d 1048576 W hd (by omega))
  obtain ⟨p, hp⟩ : ∃ p, p = arI n 1048576 := ⟨_, rfl⟩
  obtain ⟨q, hq⟩ : ∃ p, p = arI d 1048576 := ⟨_, rfl⟩
  rw [← hp] at HA a1 a2
  rw [← hq] at HB b1 b2
  obtain ⟨x, y, hv, ho, _, hx, hy⟩ := of_small (n := p) (d := 1 + q) a1 (by omega) (by omega) (by omega)
  have HO := Lib.hid (fun W => rof_any p (1 + q) W (by omega) (by omega))
  rw [ho] at HO
  have HV := Lib.hid (And.intro hv (show x < 1048576 ∧ y ≤ 1048576 by omega))
  have HR0 := Lib.hid (res0 w); have HB0 := Lib.hid (bel0 w)
  clear hp hq hv ho hx hy hn hd
  go_enter Tryz.func40, Tryz.ntmps40
  go_upto_region 1 with (fail)
  generalize w.alloc (.cells #[.slice none 0 0, .slice none 0 0] 27) = W0 at HR0 HB0 ⊢
  have HR1 := HR0; have HB1 := HB0
  clear HR0 HB0
  go_wp2_with (go_at_call 8; first | ((with_reducible refine (HA.out _).mono ?_); rintro e w' ⟨rfl, rfl⟩) | ((with_reducible refine (HB.out _).mono ?_); rintro e w' ⟨rfl, rfl⟩))
  refine (HO.out _).mono ?_
  rintro e w2 ⟨v, rfl, ⟨u1, u2, rfl, s1, s2⟩, hb2⟩
  have HRk := HR1.out.below hb2 HR1.out.lt
  obtain ⟨hc1, hc2, hf1, hf2⟩ := blk_cells2 HRk
  have HRK := Lib.hid HRk; have HBK := Lib.hid (below_step HB1.out hb2)
  obtain ⟨C1, m1, j1, e1⟩ := sl_form s1
  obtain ⟨C2, m2, j2, e2⟩ := sl_form s2
  subst e1 e2
  have T1 := Lib.hid s1; have T2 := Lib.hid s2
  clear hb2 s1 s2 HRk
  go_upto_region 2 with (fail)
  have R3 := Lib.hid ((HRK.out).alloc (.cells #[.slice C1 m1 j1, .slice C2 m2 j2] 27))
  have B3 := Lib.hid ((HBK.out).alloc (HBK.out).size (.cells #[.slice C1 m1 j1, .slice C2 m2 j2] 27))
  have T3 := Lib.hid (T1.out.below (boxb w2 (.slice C1 m1 j1) (.slice C2 m2 j2)))
  have T4 := Lib.hid (T2.out.below (boxb w2 (.slice C1 m1 j1) (.slice C2 m2 j2)))
  have X3 := Lib.hid (box0 w2 (.slice C1 m1 j1) (.slice C2 m2 j2))
  clear T1 T2 HRK HBK hc1 hc2 hf1 hf2
  generalize w2.alloc (.cells #[.slice C1 m1 j1, .slice C2 m2 j2] 27) = w3 at R3 B3 T3 T4 X3 ⊢
  obtain ⟨hc1, hc2, hf1, hf2⟩ := blk_cells2 R3.out
  obtain ⟨hc3, hc4, hf3, hf4⟩ := blk_cells2 X3.out
  go_wp2_with fail
  have hbk := ((R3.out.put 0 (.slice C1 m1 j1)).put 1 (.slice C2 m2 j2))
  have hbl := ((B3.out.setCell (p := ⟨w.heap.size, 0, none⟩) (Nat.le_refl _) (.slice C1 m1 j1)).setCell (p := ⟨w.heap.size, 1, none⟩) (Nat.le_refl _) (.slice C2 m2 j2))
  have hs1 := sl_res T3.out R3.out C1 m1 j1 C2 m2 j2
  have hs2 := sl_res T4.out R3.out C1 m1 j1 C2 m2 j2
  refine bodyPost_ret (v := .agg #[(.slice C1 m1 j1), (.slice C2 m2 j2)]) ?_ rfl ⟨x, y, (.slice C1 m1 j1), (.slice C2 m2 j2), rfl, vr_rk hs1 hs2 HV.out.1, HV.out.1, HV.out.2, hbl⟩
  have hr := run_loadVar_at (P := Tryz.prog) _ ⟨w.heap.size, 0, none⟩ 27 [(.slice C1 m1 j1), (.slice C2 m2 j2)] _ hbk.at Tryz.underlying27 rfl size28
  simp [results, Tryz.results40, asAddr, hr]
set_option maxHeartbeats 2000000 in
theorem part_ref (n d : Int) (w : World) (hn : -9223372036854775808 ≤ n ∧ n ≤ 9223372036854775807) (hd : -9223372036854775808 ≤ d ∧ d ≤ 9223372036854775807) : Calls Tryz.prog 42 #[.int .i64 n, .int .i64 d] w (VrP w fun x y => x ≤ y ∧ y ≤ 24) := by
  have b1 := arI_lo d 24 (by omega); have b2 := arI_hi d 24 (by omega)
  have HB := Lib.hid (fun W => around_any d 24 W hd (by omega))
  obtain ⟨q, hq⟩ : ∃ p, p = arI d 24 := ⟨_, rfl⟩
  rw [← hq] at HB b1 b2
  have a1 := arI_lo n (1 + q + 1) (by omega); have a2 := arI_hi n (1 + q + 1) (by omega)
  have HA := Lib.hid (fun W => around_any n (1 + q + 1) W hn (by omega))
  obtain ⟨p, hp⟩ : ∃ p, p = arI n (1 + q + 1) := ⟨_, rfl⟩
  rw [← hp] at HA a1 a2
  obtain ⟨x, y, hv, ho, hm, hx, hy⟩ := of_small (n := p) (d := 1 + q) a1 (by omega) (by omega) (by omega)
  have hxy : x ≤ y := by
    rcases Nat.lt_or_ge y x with h | h
    · have h1 : (y : Int) * (1 + q) < (x : Int) * (1 + q) := Int.mul_lt_mul_of_pos_right (by omega) (by omega)
      have h2 : p * (y : Int) ≤ (1 + q) * (y : Int) := Int.mul_le_mul_of_nonneg_right (by omega) (by omega)
      rw [Int.mul_comm (1 + q)] at h2
      omega
    · exact h
  have HO := Lib.hid (fun W => rof_any p (1 + q) W (by omega) (by omega))
  rw [ho] at HO
  have HV := Lib.hid (And.intro hv (show x ≤ y ∧ y ≤ 24 by omega))
  have HR0 := Lib.hid (res0 w); have HB0 := Lib.hid (bel0 w)
  clear hp hq hv ho hx hy hn hd hm hxy
  go_enter Tryz.func42, Tryz.ntmps42
  go_upto_region 1 with (fail)
  generalize w.alloc (.cells #[.slice none 0 0, .slice none 0 0] 27) = W0 at HR0 HB0 ⊢
  have HR1 := HR0; have HB1 := HB0
  clear HR0 HB0
  go_wp2_with (go_at_call 8; first | ((with_reducible refine (HA.out _).mono ?_); rintro e w' ⟨rfl, rfl⟩) | ((with_reducible refine (HB.out _).mono ?_); rintro e w' ⟨rfl, rfl⟩))
  refine (HO.out _).mono ?_
  rintro e w2 ⟨v, rfl, ⟨u1, u2, rfl, s1, s2⟩, hb2⟩
  have HRk := HR1.out.below hb2 HR1.out.lt
  obtain ⟨hc1, hc2, hf1, hf2⟩ := blk_cells2 HRk
  have HRK := Lib.hid HRk; have HBK := Lib.hid (below_step HB1.out hb2)
  obtain ⟨C1, m1, j1, e1⟩ := sl_form s1
  obtain ⟨C2, m2, j2, e2⟩ := sl_form s2
  subst e1 e2
  have T1 := Lib.hid s1; have T2 := Lib.hid s2
  clear hb2 s1 s2 HRk
  go_upto_region 3 with (fail)
  have R3 := Lib.hid ((HRK.out).alloc (.cells #[.slice C1 m1 j1, .slice C2 m2 j2] 27))
  have B3 := Lib.hid ((HBK.out).alloc (HBK.out).size (.cells #[.slice C1 m1 j1, .slice C2 m2 j2] 27))
  have T3 := Lib.hid (T1.out.below (boxb w2 (.slice C1 m1 j1) (.slice C2 m2 j2)))
  have T4 := Lib.hid (T2.out.below (boxb w2 (.slice C1 m1 j1) (.slice C2 m2 j2)))
  have X3 := Lib.hid (box0 w2 (.slice C1 m1 j1) (.slice C2 m2 j2))
  clear T1 T2 HRK HBK hc1 hc2 hf1 hf2
  generalize w2.alloc (.cells #[.slice C1 m1 j1, .slice C2 m2 j2] 27) = w3 at R3 B3 T3 T4 X3 ⊢
  obtain ⟨hc1, hc2, hf1, hf2⟩ := blk_cells2 R3.out
  obtain ⟨hc3, hc4, hf3, hf4⟩ := blk_cells2 X3.out
  go_wp2_with fail
  have hbk := ((R3.out.put 0 (.slice C1 m1 j1)).put 1 (.slice C2 m2 j2))
  have hbl := ((B3.out.setCell (p := ⟨w.heap.size, 0, none⟩) (Nat.le_refl _) (.slice C1 m1 j1)).setCell (p := ⟨w.heap.size, 1, none⟩) (Nat.le_refl _) (.slice C2 m2 j2))
  have hs1 := sl_res T3.out R3.out C1 m1 j1 C2 m2 j2
  have hs2 := sl_res T4.out R3.out C1 m1 j1 C2 m2 j2
  refine bodyPost_ret (v := .agg #[(.slice C1 m1 j1), (.slice C2 m2 j2)]) ?_ rfl ⟨x, y, (.slice C1 m1 j1), (.slice C2 m2 j2), rfl, vr_rk hs1 hs2 HV.out.1, HV.out.1, HV.out.2, hbl⟩
  have hr := run_loadVar_at (P := Tryz.prog) _ ⟨w.heap.size, 0, none⟩ 27 [(.slice C1 m1 j1), (.slice C2 m2 j2)] _ hbk.at Tryz.underlying27 rfl size28
  simp [results, Tryz.results42, asAddr, hr]
end Go.Proofs.YtbfhilbagojdnaaGreat
namespace Go.Proofs.YtbfhilbagojdnaaGreat
open Go.RowKit Wr Go.Proofs.YtbfhilbagojdnaaGreat.Nm
set_option linter.unusedVariables false
set_option maxRecDepth 100000

def SzC : List Value := [.int .i64 0, .int .i64 1, .int .i64 2, .int .i64 3, .int .i64 31, .int .i64 32, .int .i64 33, .int .i64 63, .int .i64 64, .int .i64 65, .int .i64 66]
theorem sz_at (t : Nat) (h : t < 11) : ∃ s : Nat, s ≤ 66 ∧ SzC[t]? = some (.int .i64 ((s : Nat) : Int)) := by
  rcases (show t = 0 ∨ t = 1 ∨ t = 2 ∨ t = 3 ∨ t = 4 ∨ t = 5 ∨ t = 6 ∨ t = 7 ∨ t = 8 ∨ t = 9 ∨ t = 10 by omega) with rfl | rfl | rfl | rfl | rfl | rfl | rfl | rfl | rfl | rfl | rfl
  · exact ⟨0, by omega, rfl⟩
  · exact ⟨1, by omega, rfl⟩
  · exact ⟨2, by omega, rfl⟩
  · exact ⟨3, by omega, rfl⟩
  · exact ⟨31, by omega, rfl⟩
  · exact ⟨32, by omega, rfl⟩
  · exact ⟨33, by omega, rfl⟩
  · exact ⟨63, by omega, rfl⟩
  · exact ⟨64, by omega, rfl⟩
  · exact ⟨65, by omega, rfl⟩
  · exact ⟨66, by omega, rfl⟩
def MyC (u : Nat) : List Value := Lc [1, 0, 4294967295, 2147483648, 7, u]
theorem my_at (u t : Nat) (hu : u < 4294967296) (h : t < 6) : ∃ z : Nat, z < 4294967296 ∧ (MyC u)[t]? = some (.int .u32 ((z : Nat) : Int)) := by
  have hok : Ok [1, 0, 4294967295, 2147483648, 7, u] := by
    intro x hx
    simp only [List.mem_cons, List.not_mem_nil, or_false] at hx
    omega
  exact ⟨[1, 0, 4294967295, 2147483648, 7, u][t]'(by simpa using h), hok.get t (by simpa using h), Lc_get _ t (by simpa using h)⟩
def MnP (w : World) (e : Ending) (w' : World) : Prop := ∃ v x, e = .returned v ∧ Sl w' v (lim x) ∧ (lim x).length ≤ 66 ∧ Below w.heap.size w w'
set_option maxHeartbeats 4000000 in
theorem many_any (n : Nat) (w : World) (hn : n < 1073741824) : Calls Tryz.prog 93 #[.int .i64 ((n : Nat) : Int)] w (MnP w) := by
  have t1 := arI_lo n 11 (by omega); have t2 := arI_hi n 11 (by omega)
  have HA := Lib.hid (fun W => around_any n 11 W (by omega) (by omega))
  obtain ⟨t, ht⟩ := Int.eq_ofNat_of_zero_le t1
  rw [ht] at HA t2
  obtain ⟨sz, hsz, hcs⟩ := sz_at t (by omega)
  have hcell : (w.alloc (.cells #[.int .i64 0, .int .i64 1, .int .i64 2, .int .i64 3, .int .i64 31, .int .i64 32, .int .i64 33, .int .i64 63, .int .i64 64, .int .i64 65, .int .i64 66] 3)).cell? ⟨w.heap.size, t, none⟩ = some (.int .i64 ((sz : Nat) : Int)) := by have h := (Blk.new w 3 SzC).cell t; rw [hcs] at h; exact h
  have HB1 := Lib.hid ((Below.refl w.heap.size w).alloc (Nat.le_refl _) (.cells #[.int .i64 0, .int .i64 1, .int .i64 2, .int .i64 3, .int .i64 31, .int .i64 32, .int .i64 33, .int .i64 63, .int .i64 64, .int .i64 65, .int .i64 66] 3))
  obtain ⟨u, hu⟩ : ∃ u, u = n % 4294967296 := ⟨_, rfl⟩
  obtain ⟨a, ha⟩ : ∃ u, u = n / 11 % 6 := ⟨_, rfl⟩
  obtain ⟨b, hb⟩ : ∃ u, u = n / 66 % 6 := ⟨_, rfl⟩
  have huB : u < 4294967296 := by omega
  have haI : (n : Int) / 11 % 6 = (a : Int) := by omega
  have hbI : (n : Int) / 66 % 6 = (b : Int) := by omega
  have huI : IntKind.u32.wrap (n : Int) = (u : Int) := by rw [hu, IntKind.wrap_u32]; omega
  have ha6 : a < 6 := by omega
  have hb6 : b < 6 := by omega
  have hszI : (sz : Int) ≤ 66 := by omega
  have HUB := Lib.hid huB
  clear t1 ht hcs hu ha hb
  go_enter Tryz.func93, Tryz.ntmps93
  go_wp2_with (go_at_call 8; (with_reducible refine (HA.out _).mono ?_); rintro e w' ⟨rfl, rfl⟩)
  clear hcell
  go_loopw [4, 5] (fun s4 s5 wr => ∃ (i : Nat) (l : List Nat), i ≤ sz ∧ s5 = .int .i64 ((i : Nat) : Int) ∧ l.length = i ∧ Ok l ∧ wr.ownsRow w.heap.size 66 1 s4 i (Lc l) ∧ Below w.heap.size w wr) (fun _ s5 _ => sz - (intOf s5).toNat)
  case atStart => exact ⟨0, [], Nat.zero_le _, rfl, rfl, Ok.nil, World.ownsRow_nil _ _ _ _, HB1.out⟩
  case round =>
    clear HB1
    obtain ⟨i, l, hi, rfl, hlen, hok, hown, hbel⟩ := hrel
    have HOW := Lib.hid hown; have HBE := Lib.hid hbel; have HLO := Lib.hid (And.intro hlen hok)
    rcases Nat.lt_or_ge i sz with hlt | hge
    · have hiI : (i : Int) < (sz : Int) := by omega
      obtain ⟨cc, hcc⟩ : ∃ c, c = i % 2 := ⟨_, rfl⟩
      have hcI : (i : Int) % 2 = (cc : Int) := by omega
      obtain ⟨d, hd⟩ : ∃ d, d = cc * b := ⟨_, rfl⟩
      have hdI : (cc : Int) * (b : Int) = (d : Int) := by rw [hd]; simp
      have hd5 : d ≤ 5 := by
        have : cc * b ≤ 1 * 5 := Nat.mul_le_mul (by omega) (by omega)
        omega
      obtain ⟨t6, ht6⟩ : ∃ q, q = (a + 6 + d + 6) % 6 := ⟨_, rfl⟩
      have ht6I : ((a : Int) + 6 + (d : Int) + 6) % 6 = (t6 : Int) := by omega
      have ht66 : t6 < 6 := by omega
      obtain ⟨z, hz, hcz⟩ := my_at u t6 HUB.out ht66
      have hcell : (wr.alloc (.cells #[.int .u32 1, .int .u32 0, .int .u32 4294967295, .int .u32 2147483648, .int .u32 7, .int .u32 (u : Int)] 66)).cell? ⟨wr.heap.size, t6, none⟩ = some (.int .u32 ((z : Nat) : Int)) := by
        have h := (Blk.new wr 66 (MyC u)).cell t6
        rw [hcz] at h; exact h
      have hO6 := hown.alloc (.cells #[.int .u32 1, .int .u32 0, .int .u32 4294967295, .int .u32 2147483648, .int .u32 7, .int .u32 (u : Int)] 66)
      have hB6 := hbel.alloc hbel.size (.cells #[.int .u32 1, .int .u32 0, .int .u32 4294967295, .int .u32 2147483648, .int .u32 7, .int .u32 (u : Int)] 66)
      have HRD := Lib.hid (show Rd ((wr.alloc (.cells #[.int .u32 1, .int .u32 0, .int .u32 4294967295, .int .u32 2147483648, .int .u32 7, .int .u32 (u : Int)] 66)).alloc (.cells #[.int .u32 ((z : Nat) : Int)] 66)) (wr.heap.size + 1 + 1) (some ⟨wr.heap.size + 1, 0, none⟩) (Lc [z]) by have h := rd_one z (wr.alloc (.cells #[.int .u32 1, .int .u32 0, .int .u32 4294967295, .int .u32 2147483648, .int .u32 7, .int .u32 (u : Int)] 66)); simpa using h)
      have HOA := Lib.hid (hO6.alloc (.cells #[.int .u32 (z : Int)] 66))
      have HBA := Lib.hid (hB6.alloc hB6.size (.cells #[.int .u32 (z : Int)] 66))
      have HII := Lib.hid (show i + 1 ≤ 1073741824 ∧ i + 1 ≤ sz by omega)
      have HZ := Lib.hid hz
      clear hcc hd ht6 hcz hO6 hB6 hown hbel hlen hok hi hlt hz
      go_wp2_with (at_builtin; (refine wpList_append_lim rfl (.tmp 16) (.tmp 35) rfl w.heap.size _ i (Lc l) rfl HOA.out (some ⟨wr.heap.size + 1, 0, none⟩) 1 1 (wr.heap.size + 1 + 1) [z] rfl (fun e => by cases e) rfl HRD.out HII.out.1 HBA.out.size ?_))
      intro v' w' ho hg
      have hb := HBA.out.grown hg HBA.out.size (fun q e => (HOA.out.lt q e).1)
      rw [← Lc_append] at ho
      have HO := Lib.hid ho; have HB := Lib.hid hb
      clear ho hg hb hcell
      go_wp2
      go_roundw
      case rel => exact ⟨i + 1, l ++ [z], HII.out.2, by simp, by simp [HLO.out.1], HLO.out.2.append (Ok.cons HZ.out Ok.nil), HO.out, HB.out⟩
      case measure => simp only [intOf]; omega
    · have hie : i = sz := by omega
      subst hie
      obtain ⟨A', c', e, h1, h2, h3⟩ := own_form hown
      have HTR := Lib.hid (trim_any (show Sl wr u4 l from ⟨A', c', by rw [hlen]; exact e, by rw [hlen]; exact h1, h2, h3⟩) (by omega))
      rw [← lim_num l hok] at HTR
      have HLL := Lib.hid (show (lim (num l)).length ≤ 66 by rw [lim_num l hok]; have := dropz_len_le l; omega)
      clear hown hbel e h1 h2 h3 hlen hok hge hi
      go_wp2_with fail
      refine HTR.out.mono ?_
      rintro e w2 ⟨v, rfl, hs, hb⟩
      have HS := Lib.hid hs; have HB2 := Lib.hid (below_step HBE.out hb)
      clear hs hb
      go_wp2_with fail
      go_ret
      exact ⟨v, num l, rfl, HS.out, HLL.out, HB2.out⟩
end Go.Proofs.YtbfhilbagojdnaaGreat
namespace Go.Proofs.YtbfhilbagojdnaaGreat
open Go.RowKit Wr Go.Proofs.YtbfhilbagojdnaaGreat.Nm
set_option linter.unusedVariables false
set_option maxRecDepth 100000

def LgC (w : World) (s5 : Value) (wx : World) : Prop := ∃ y, Sl wx s5 (lim y) ∧ 0 < y ∧ (lim y).length ≤ 66 ∧ Blk wx w.heap.size 27 [.slice none 0 0, .slice none 0 0] ∧ Below w.heap.size w wx
theorem low_cases (x y : Nat) (hy : 0 < y) : (∃ a b, Vr a b ∧ lowR x y = ((lim a, dl b), 0)) ∨ lowR x y = (noR, 4) := by
  by_cases h : (lowR x y).2 = 0
  · obtain ⟨a, b, hv, e⟩ := low_vr hy h
    exact Or.inl ⟨a, b, hv, Prod.ext e h⟩
  · right
    unfold lowR madeR at h ⊢
    by_cases hc : x / Nat.gcd x y < 4294967296 ^ 64 ∧ y / Nat.gcd x y < 4294967296 ^ 64
    · rw [if_pos hc] at h; exact absurd rfl h
    · rw [if_neg hc]
set_option maxHeartbeats 4000000 in
theorem large_ref (n d : Int) (w : World) (hn : -9223372036854775808 ≤ n ∧ n ≤ 9223372036854775807) (hd : -9223372036854775808 ≤ d ∧ d ≤ 9223372036854775807) : Calls Tryz.prog 41 #[.int .i64 n, .int .i64 d] w (VrP w fun _ _ => True) := by
  have a1 := arI_lo n 1073741824 (by omega); have a2 := arI_hi n 1073741824 (by omega)
  have b1 := arI_lo d 1073741824 (by omega); have b2 := arI_hi d 1073741824 (by omega)
  have HA := Lib.hid (fun W => around_any n 1073741824 W hn (by omega)); have HB := Lib.hid (fun W => around_any d 1073741824 W hd (by omega))
  obtain ⟨p, hp⟩ := Int.eq_ofNat_of_zero_le a1
  obtain ⟨q, hq⟩ := Int.eq_ofNat_of_zero_le b1
  rw [hp] at HA a2
  rw [hq] at HB b2
  have HMp := Lib.hid (fun W => many_any p W (by omega)); have HMq := Lib.hid (fun W => many_any q W (by omega))
  have HMd := Lib.hid (fun W => made_ref n d W hn hd)
  have HR0 := Lib.hid (res0 w); have HB0 := Lib.hid (bel0 w)
  clear hp hq a1 b1 a2 b2 hn hd
  go_enter Tryz.func41, Tryz.ntmps41
  go_upto_region 1 with (fail)
  generalize w.alloc (.cells #[.slice none 0 0, .slice none 0 0] 27) = W0 at HR0 HB0 ⊢
  go_wp2_with (go_at_call 8; (with_reducible refine (HB.out _).mono ?_); rintro e w' ⟨rfl, rfl⟩)
  refine (HMq.out _).mono ?_
  rintro e w1 ⟨v1, y0, rfl, hs, hl, hb⟩
  have S1 := Lib.hid hs; have B1 := Lib.hid (below_step HB0.out hb); have R1 := Lib.hid (HR0.out.below hb HR0.out.lt)
  have HL := Lib.hid hl
  obtain ⟨A0, c0, e0, _, _, _⟩ := hs
  have hn0 : (lim y0).length = 0 ↔ y0 = 0 := lim_len0
  obtain ⟨ly, hly⟩ : ∃ l, l = (lim y0).length := ⟨_, rfl⟩
  rw [← hly] at e0 hn0
  subst e0
  clear hb hl hly HMq HB HB0 HR0
  go_upto_if 13 with fail
  go_cut [5] from 8 (fun s5 wx => LgC w s5 wx)
  case first =>
    by_cases hy : y0 = 0
    · have hl0 := hn0.2 hy
      subst hl0
      have hs := sl_one w1
      have hF : LgC w (.slice (some ⟨w1.heap.size, 0, none⟩) 1 1) (w1.alloc (.cells #[.int .u32 1] 66)) := ⟨1, by rw [lim_one]; exact hs, by omega, by rw [lim_one]; simp, R1.out.alloc _, B1.out.alloc B1.out.size _⟩
      have HF := Lib.hid hF
      clear hn0 hy hs hF S1
      go_wp2_with fail
      go_meet
      exact HF.out
    · have hne : ((ly : Int) == 0) = false := by rw [beq_eq_false_iff_ne]; intro h; exact hy (hn0.1 (by omega))
      have hF : LgC w (.slice A0 ly c0) w1 := ⟨y0, S1.out, by omega, HL.out, R1.out, B1.out⟩
      have HF := Lib.hid hF
      clear hn0 hy hF S1
      go_wp2_with fail
      go_meet
      exact HF.out
  case rest =>
    obtain ⟨y, hs, hy, hly, hr, hb⟩ := hcut
    clear S1 B1 R1 HL hn0
    have S2 := Lib.hid hs; have R2 := Lib.hid hr; have B2 := Lib.hid hb; have HY := Lib.hid (And.intro hy hly)
    clear hs hr hb hy hly
    go_wp2_with (go_at_call 8; (with_reducible refine (HA.out _).mono ?_); rintro e w' ⟨rfl, rfl⟩)
    refine (HMp.out _).mono ?_
    rintro e w3 ⟨v3, x, rfl, hs3, hl3, hb3⟩
    have S3 := Lib.hid (S2.out.below hb3); have HB1 := Lib.hid (below_step B2.out hb3); have HR1 := Lib.hid (R2.out.below hb3 R2.out.lt)
    have HRD := Lib.hid (rreduced_any hs3 S3.out HY.out.1 (by omega) (by have := HY.out.2; omega))
    have HLC := Lib.hid (low_cases x y HY.out.1)
    clear hs3 hl3 hb3 HMp HA S2 R2 B2 S3
    go_wp2_with fail
    refine HRD.out.mono ?_
    rcases HLC.out with ⟨a, b, hv, he⟩ | he
    · rw [he]
      have HV := Lib.hid hv
      clear he hv
      rintro e w2 ⟨v, rfl, ⟨u1, u2, rfl, s1, s2⟩, hb2⟩
      have HRk := HR1.out.below hb2 HR1.out.lt
      obtain ⟨hc1, hc2, hf1, hf2⟩ := blk_cells2 HRk
      have HRK := Lib.hid HRk; have HBK := Lib.hid (below_step HB1.out hb2)
      obtain ⟨C1, m1, j1, e1⟩ := sl_form s1
      obtain ⟨C2, m2, j2, e2⟩ := sl_form s2
      subst e1 e2
      have T1 := Lib.hid s1; have T2 := Lib.hid s2
      clear hb2 s1 s2 HRk
      go_upto_region 5 with (fail)
      have R3 := Lib.hid ((HRK.out).alloc (.cells #[.slice C1 m1 j1, .slice C2 m2 j2] 27))
      have B3 := Lib.hid ((HBK.out).alloc (HBK.out).size (.cells #[.slice C1 m1 j1, .slice C2 m2 j2] 27))
      have T3 := Lib.hid (T1.out.below (boxb w2 (.slice C1 m1 j1) (.slice C2 m2 j2)))
      have T4 := Lib.hid (T2.out.below (boxb w2 (.slice C1 m1 j1) (.slice C2 m2 j2)))
      have X3 := Lib.hid (box0 w2 (.slice C1 m1 j1) (.slice C2 m2 j2))
      clear T1 T2 HRK HBK hc1 hc2 hf1 hf2
      generalize w2.alloc (.cells #[.slice C1 m1 j1, .slice C2 m2 j2] 27) = w4 at R3 B3 T3 T4 X3 ⊢
      obtain ⟨hc1, hc2, hf1, hf2⟩ := blk_cells2 R3.out
      obtain ⟨hc3, hc4, hf3, hf4⟩ := blk_cells2 X3.out
      go_wp2_with fail
      have hbk := ((R3.out.put 0 (.slice C1 m1 j1)).put 1 (.slice C2 m2 j2))
      have hbl := ((B3.out.setCell (p := ⟨w.heap.size, 0, none⟩) (Nat.le_refl _) (.slice C1 m1 j1)).setCell (p := ⟨w.heap.size, 1, none⟩) (Nat.le_refl _) (.slice C2 m2 j2))
      have hs1 := sl_res T3.out R3.out C1 m1 j1 C2 m2 j2
      have hs2 := sl_res T4.out R3.out C1 m1 j1 C2 m2 j2
      refine bodyPost_ret (v := .agg #[(.slice C1 m1 j1), (.slice C2 m2 j2)]) ?_ rfl ⟨a, b, (.slice C1 m1 j1), (.slice C2 m2 j2), rfl, vr_rk hs1 hs2 HV.out, HV.out, trivial, hbl⟩
      have hr := run_loadVar_at (P := Tryz.prog) _ ⟨w.heap.size, 0, none⟩ 27 [(.slice C1 m1 j1), (.slice C2 m2 j2)] _ hbk.at Tryz.underlying27 rfl size28
      simp [results, Tryz.results41, asAddr, hr]
    · rw [he]
      clear he
      rintro e w2 ⟨v, rfl, ⟨u1, u2, rfl, s1, s2⟩, hb2⟩
      have HRk := HR1.out.below hb2 HR1.out.lt
      obtain ⟨hc1, hc2, hf1, hf2⟩ := blk_cells2 HRk
      have HRK := Lib.hid HRk; have HBK := Lib.hid (below_step HB1.out hb2)
      obtain ⟨C1, m1, j1, e1⟩ := sl_form s1
      obtain ⟨C2, m2, j2, e2⟩ := sl_form s2
      subst e1 e2
      have T1 := Lib.hid s1; have T2 := Lib.hid s2
      clear hb2 s1 s2 HRk
      go_upto_region 5 with (fail)
      have R3 := Lib.hid ((HRK.out).alloc (.cells #[.slice C1 m1 j1, .slice C2 m2 j2] 27))
      have B3 := Lib.hid ((HBK.out).alloc (HBK.out).size (.cells #[.slice C1 m1 j1, .slice C2 m2 j2] 27))
      clear T1 T2 HRK HBK hc1 hc2 hf1 hf2
      generalize w2.alloc (.cells #[.slice C1 m1 j1, .slice C2 m2 j2] 27) = w4 at R3 B3 ⊢
      go_wp2_with fail
      refine (HMd.out _).mono ?_
      rintro e w5 ⟨a, b, u1, u2, rfl, hk, hv, _, hb5⟩
      obtain ⟨D1, m3, j3, e1⟩ := sl_form hk.s1
      obtain ⟨D2, m4, j4, e2⟩ := sl_form hk.s2
      subst e1 e2
      have R5 := Lib.hid (R3.out.below hb5 R3.out.lt); have B5 := Lib.hid (below_step B3.out hb5); have K5 := Lib.hid hk; have HV := Lib.hid hv
      obtain ⟨hc1, hc2, hf1, hf2⟩ := blk_cells2 R5.out
      clear hk hv hb5 R3 B3
      go_wp2_with fail
      have hbk := ((R5.out.put 0 (.slice D1 m3 j3)).put 1 (.slice D2 m4 j4))
      have hbl := ((B5.out.setCell (p := ⟨w.heap.size, 0, none⟩) (Nat.le_refl _) (.slice D1 m3 j3)).setCell (p := ⟨w.heap.size, 1, none⟩) (Nat.le_refl _) (.slice D2 m4 j4))
      have hs1 := sl_res K5.out.s1 R5.out D1 m3 j3 D2 m4 j4
      have hs2 := sl_res K5.out.s2 R5.out D1 m3 j3 D2 m4 j4
      refine bodyPost_ret (v := .agg #[(.slice D1 m3 j3), (.slice D2 m4 j4)]) ?_ rfl ⟨a, b, (.slice D1 m3 j3), (.slice D2 m4 j4), rfl, vr_rk hs1 hs2 HV.out, HV.out, trivial, hbl⟩
      have hr := run_loadVar_at (P := Tryz.prog) _ ⟨w.heap.size, 0, none⟩ 27 [(.slice D1 m3 j3), (.slice D2 m4 j4)] _ hbk.at Tryz.underlying27 rfl size28
      simp [results, Tryz.results41, asAddr, hr]
end Go.Proofs.YtbfhilbagojdnaaGreat
namespace Go.Proofs.YtbfhilbagojdnaaGreat
open Go.RowKit Wr Go.Proofs.YtbfhilbagojdnaaGreat.Nm
set_option linter.unusedVariables false
set_option maxRecDepth 100000

/-- The number of a row of digits. -/
def decV (l : List UInt8) : Nat := l.foldl (fun v c => (c.toNat - 48) + 10 * v) 0
theorem decV_snoc (l : List UInt8) (k : Nat) (h : k < l.length) : decV (l.take (k + 1)) = (l[k].toNat - 48) + 10 * decV (l.take k) := by
  unfold decV; rw [List.take_succ_eq_append_getElem h, List.foldl_append]; rfl
theorem decV_len (l : List UInt8) (h : l.all digB = true) (k : Nat) (hk : k ≤ l.length) : (lim (decV (l.take k))).length ≤ k := by
  induction k with
  | zero => rw [List.take_zero]; show (lim 0).length ≤ 0; rw [lim_zero]; exact Nat.le_refl _
  | succ k ih =>
    have h1 := ih (by omega)
    rw [decV_snoc l k (by omega), lim_len, Nat.pow_succ]
    have h2 := lim_len.1 h1
    have h3 := of_decide_eq_true (List.all_eq_true.1 h _ (List.getElem_mem (show k < l.length by omega)))
    omega
def FdI (w : World) (base g n cap v c : Nat) (s6 s21 : Value) (wr : World) : Prop := ∃ i : Nat, i ≤ n ∧ s21 = .int .i64 ((i : Nat) : Int) ∧ s6 = .int .u64 ((decC v c i : Nat) : Int) ∧ wr.ownsRow base 66 1 (.slice (some ⟨g, 0, none⟩) n cap) n (Lc (tkL (lim v) (c + 10 * v) i)) ∧ w.grownBy wr (some g)
set_option maxHeartbeats 4000000 in
theorem fromDec_any (l : List UInt8) (w : World) (hall : l.all digB = true) (hl : l.length ≤ 617) : Calls Tryz.prog 82 #[.string ⟨l.toArray⟩] w (CpP w (lim (decV l))) := by
  obtain ⟨C, W, hC, hcv, hrd, hbl⟩ := bytes_of w ⟨l.toArray⟩
  have hsz : (⟨l.toArray⟩ : ByteArray).size = l.length := rfl
  rw [hsz] at hC hcv
  have hrd' : Rd W W.heap.size (some ⟨w.heap.size, 0, none⟩) (Bv l) := hrd
  have HB := Lib.hid hbl
  obtain ⟨n, hn⟩ : ∃ n, n = l.length := ⟨_, rfl⟩
  rw [← hn] at hcv hC
  have HN := Lib.hid hn
  have HR := Lib.hid hrd'
  have HALL := Lib.hid hall
  have hnI : (n : Int) ≤ 617 := by omega
  clear hrd hrd' hbl hn hl hsz hall
  go_enter Tryz.func82, Tryz.ntmps82
  go_wp2
  go_loopw [3, 12] (fun s3 s12 wr => ∃ k : Nat, k ≤ n ∧ s12 = .int .i64 (k : Int) ∧ wr.ownsRow W.heap.size 66 1 s3 (lim (decV (l.take k))).length (Lc (lim (decV (l.take k)))) ∧ Below W.heap.size W wr) (fun _ s12 _ => n - (intOf s12).toNat)
  case atStart => exact ⟨0, Nat.zero_le _, rfl, by rw [List.take_zero]; show World.ownsRow _ _ _ _ _ (lim 0).length (Lc (lim 0)); rw [lim_zero]; exact World.ownsRow_nil _ _ _ _, Below.refl _ _⟩
  case round =>
    clear hcv
    obtain ⟨k, hk, rfl, hown, hbel⟩ := hrel
    rcases Nat.lt_or_ge k n with hlt | hge
    · have hkl : k < l.length := by have := HN.out; omega
      obtain ⟨g0, o0, e1, hgB, hcell0⟩ := byte_cell HR.out k hkl
      cases e1
      rw [Nat.zero_add] at hcell0
      have hcell := (hbel.cell (p := ⟨w.heap.size, k, none⟩) hgB).trans hcell0
      have hd2 := of_decide_eq_true (List.all_eq_true.1 HALL.out _ (List.getElem_mem hkl))
      have hsn := decV_snoc l k hkl
      have hvl := decV_len l HALL.out k (by omega)
      obtain ⟨v, hv⟩ : ∃ v, v = decV (l.take k) := ⟨_, rfl⟩
      obtain ⟨b, hb⟩ : ∃ b, b = l[k].toNat := ⟨_, rfl⟩
      rw [← hb] at hcell hd2 hsn
      rw [← hv] at hown hvl hsn
      obtain ⟨c, hc⟩ : ∃ c, c = b - 48 := ⟨_, rfl⟩
      rw [← hc] at hsn
      have hcI : (b : Int) - 48 = (c : Int) := by omega
      have hc10 : c < 10 := by omega
      have HSN := Lib.hid hsn; have HOW := Lib.hid hown; have HBE := Lib.hid hbel
      have HKN := Lib.hid (show k + 1 ≤ n by omega)
      have hkI : (k : Int) < (n : Int) := by omega
      obtain ⟨m, hm⟩ : ∃ m, m = (lim v).length := ⟨_, rfl⟩
      have HM := Lib.hid hm
      obtain ⟨A3, c3, e3, hmc, _, _⟩ := own_form hown
      have hHB := HB.out
      clear hcell0 hv hb hc hsn hown hbel hgB hk hlt hkl hd2
      rw [← hm] at e3 hvl HOW hmc
      subst e3
      clear hm
      go_upto_block 2 with fail
      go_cut [6] from 13 to 45 (fun s6 wx => s6 = .int .u64 ((decC v c m : Nat) : Int) ∧ wx.ownsRow W.heap.size 66 1 (.slice A3 m c3) m (Lc (digs m (c + 10 * v))) ∧ Below W.heap.size W wx)
      case first =>
        rcases Nat.eq_zero_or_pos m with hm0 | hm0
        · have HF := Lib.hid (show wr.ownsRow W.heap.size 66 1 (.slice A3 m c3) m (Lc (digs m (c + 10 * v))) by
            have h := HOW.out
            have e : Lc (lim v) = Lc (digs m (c + 10 * v)) := by
              have h1 : lim v = [] := List.length_eq_zero_iff.1 (by rw [← HM.out]; exact hm0)
              rw [h1, hm0]; rfl
            rw [← e]; exact h)
          have HC := Lib.hid (show decC v c m = c by rw [hm0, decC_zero])
          have hm0I : (m : Int) = 0 := by omega
          subst hm0
          clear hm0I HOW
          go_wp2
          go_loopw [6, 21] (fun s6 s21 wx => s21 = .int .i64 0 ∧ s6 = .int .u64 ((c : Nat) : Int) ∧ wr = wx) (fun _ _ _ => 0)
          case atStart => exact ⟨rfl, rfl, rfl⟩
          case round =>
            obtain ⟨rfl, rfl, rfl⟩ := hrel
            go_wp2
            go_meet
            exact ⟨by rw [HC.out], HF.out, HBE.out⟩
        · obtain ⟨g, cap, e4, _, hgl⟩ := HOW.out.form hm0
          have hbas := (HOW.out.lt g (by rw [e4]; rfl)).1
          injection e4 with e5 e6 e7
          subst e5 e7
          have HST := Lib.hid (show FdI wr W.heap.size g m c3 v c (.int .u64 ((c : Nat) : Int)) (.int .i64 0) wr from ⟨0, Nat.zero_le _, rfl, by rw [decC_zero], by
            rw [show tkL (lim v) (c + 10 * v) 0 = lim v by simp [tkL, digs]]; exact HOW.out, grown_refl _ _⟩)
          have hmI : 0 < (m : Int) := by omega
          have HGB := Lib.hid (And.intro hbas hgl)
          clear HOW e6 hbas hgl hm0
          go_wp2
          go_loopw [6, 21] (fun s6 s21 wx => FdI wr W.heap.size g m c3 v c s6 s21 wx) (fun _ s21 _ => m - (intOf s21).toNat)
          case atStart => exact HST.out
          case round =>
            clear HST
            obtain ⟨i, hi, rfl, rfl, hown, hg⟩ := hrel
            rcases Nat.lt_or_ge i m with hlt | hge
            · have hil : i < (lim v).length := by rw [← HM.out]; exact hlt
              have hcell2 := own_cell hown i (by rw [tk_len _ _ i (by omega)]; exact hil)
              rw [tk_at _ _ i hil] at hcell2
              have hfr := hown.frozenAt i
              have hxd := at0_num (lim v) (lim_ok v) i
              rw [num_lim, at0_in _ i hil] at hxd
              obtain ⟨st1, st2⟩ := decC_step v c i
              rw [← hxd] at st1 st2
              have hcl := decC_lt v c i hc10
              have hx := (lim_ok v).get i hil
              obtain ⟨x, ex⟩ : ∃ x, x = (lim v)[i] := ⟨_, rfl⟩
              rw [← ex] at hcell2 st1 st2 hx
              obtain ⟨cr, ecr⟩ : ∃ z, z = decC v c i := ⟨_, rfl⟩
              rw [← ecr] at st1 st2 hcl ⊢
              have hput := own_put hown i ((cr + x * 10) % 4294967296)
              rw [tk_step _ _ i _ hil st2] at hput
              have HP := Lib.hid (And.intro hput (grown_put hg i (.int .u32 (((cr + x * 10) % 4294967296 : Nat) : Int))))
              have HE := Lib.hid (show (((cr + x * 10) % 4294967296 : Nat) : Int) = ((cr : Int) + (x : Int) * 10) % 4294967296 by omega)
              have HD := Lib.hid (show ((cr : Int) + (x : Int) * 10) / 4294967296 = ((decC v c (i + 1) : Nat) : Int) by rw [st1]; omega)
              have HIN := Lib.hid (show i + 1 ≤ m by omega)
              have hiI : (i : Int) < (m : Int) := by omega
              have hs1 : (x : Int) * 10 ≤ 42949672950 := by omega
              have hs2 : (cr : Int) + (x : Int) * 10 ≤ 42949672960 := by omega
              clear hput st1 st2 hxd ex ecr hown hg hi hlt hil hx hcl
              go_wp2
              go_roundw
              case rel =>
                refine ⟨i + 1, HIN.out, by go_num, by rw [HD.out], ?_, ?_⟩
                · rw [← HE.out]; exact HP.out.1
                · rw [← HE.out]; exact HP.out.2
              case measure => simp only [intOf]; omega
            · have him : i = m := by omega
              subst him
              rw [show tkL (lim v) (c + 10 * v) i = digs i (c + 10 * v) by unfold tkL; rw [List.drop_of_length_le (by rw [← HM.out]; exact Nat.le_refl _), List.append_nil]] at hown
              have HF := Lib.hid hown
              have HBF := Lib.hid (HBE.out.trans (grown_base hg HGB.out.1 HBE.out.size))
              clear hown hg hi hge
              go_wp2
              go_meet
              exact ⟨rfl, HF.out, HBF.out⟩
      case rest =>
        obtain ⟨rfl, hown, hbel⟩ := hcut
        obtain ⟨q1, q2⟩ := dec_end v c m HM.out hc10
        have hlt := decC_lt v c m hc10
        have HLV := Lib.hid (decV_len l HALL.out (k + 1) (by have := HKN.out; have := HN.out; omega))
        rw [HSN.out] at HLV
        obtain ⟨cr, hcr⟩ : ∃ z, z = decC v c m := ⟨_, rfl⟩
        rw [← hcr] at q1 q2 hlt
        rw [← hcr]
        by_cases h0 : cr = 0
        · have e := q1 h0
          have HF := Lib.hid (show wc.ownsRow W.heap.size 66 1 (.slice A3 m c3) (lim (decV (l.take (k + 1)))).length (Lc (lim (decV (l.take (k + 1))))) by
            rw [HSN.out, e, digs_len]; exact hown)
          have HBF := Lib.hid hbel
          subst h0
          clear q1 q2 hlt hcr e hown hbel HOW HBE
          go_wp2
          go_roundw
          case rel => exact ⟨k + 1, HKN.out, by go_num, HF.out, HBF.out⟩
          case measure => simp only [intOf]; omega
        · have e := q2 h0
          have hcrI : 0 < (cr : Int) := by omega
          have hcr2 : (cr : Int) % 4294967296 = (cr : Int) := by omega
          have HO2 := Lib.hid (hown.alloc (.cells #[.int .u32 (cr : Int)] 66))
          have HB3 := Lib.hid (hbel.alloc hbel.size (.cells #[.int .u32 (cr : Int)] 66))
          have HRD := Lib.hid (rd_one cr wc)
          have hbs := bsOne (cr : Int) wc
          have HEQ := Lib.hid e
          have HMB := Lib.hid (show m + 1 ≤ 1073741824 by omega)
          clear q1 q2 hcr e hown hbel HOW HBE h0
          go_wp2_with (at_builtin; (refine wpList_append_lim rfl (.tmp 41) (.tmp 44) rfl W.heap.size _ m (Lc (digs m (c + 10 * v))) rfl HO2.out (some ⟨wc.heap.size, 0, none⟩) 1 1 (wc.heap.size + 1) [cr] rfl (fun e => by cases e) rfl HRD.out HMB.out HB3.out.size ?_))
          intro v' w' ho hg
          have hb := HB3.out.grown hg HB3.out.size (fun q e => (HO2.out.lt q e).1)
          have HO := Lib.hid (show w'.ownsRow W.heap.size 66 1 v' (lim (decV (l.take (k + 1)))).length (Lc (lim (decV (l.take (k + 1))))) by
            rw [HSN.out, HEQ.out, List.length_append, digs_len, Lc_append]; exact ho)
          have HB4 := Lib.hid hb
          clear ho hg hb hbs
          go_wp2
          go_roundw
          case rel => exact ⟨k + 1, HKN.out, by go_num, HO.out, HB4.out⟩
          case measure => simp only [intOf]; omega
    · have hkn : k = n := by omega
      subst hkn
      rw [HN.out, List.take_length] at hown
      have HS := Lib.hid (own_sl hown); have HB2 := Lib.hid (below_step HB.out hbel)
      clear hown hbel hk hge
      go_wp2
      go_ret
      exact ⟨_, rfl, HS.out, HB2.out⟩
end Go.Proofs.YtbfhilbagojdnaaGreat
namespace Go.Proofs.YtbfhilbagojdnaaGreat
open Go.RowKit Wr Go.Proofs.YtbfhilbagojdnaaGreat.Nm
set_option linter.unusedVariables false
set_option maxRecDepth 100000

/-- What Parse returns. -/
def parseR (l : List UInt8) : Rt × Nat :=
  if rowOk (Lib.cut l [47]).1 = false ∨ ((Lib.cut l [47]).2.2 = true ∧ rowOk (Lib.cut l [47]).2.1 = false) then (noR, 2)
  else if 617 < (Lib.cut l [47]).1.length ∨ 617 < (Lib.cut l [47]).2.1.length then (noR, 4)
  else if 64 < (lim (decV (Lib.cut l [47]).1)).length ∨ 64 < (lim (decV (Lib.cut l [47]).2.1)).length then (noR, 4)
  else if ((Lib.cut l [47]).2.2 = true ∧ decV (Lib.cut l [47]).2.1 = 0) ∨ vld (lim (decV (Lib.cut l [47]).1), lim (decV (Lib.cut l [47]).2.1)) ≠ 0 then (noR, 1)
  else ((lim (decV (Lib.cut l [47]).1), lim (decV (Lib.cut l [47]).2.1)), 0)
theorem row_dig {l : List UInt8} (h : rowOk l = true) : l.all digB = true := by
  unfold rowOk at h; rw [Bool.and_eq_true] at h; exact h.1
theorem cut_facts (l : List UInt8) : (Lib.cut l [47]).1.length ≤ l.length ∧ (Lib.cut l [47]).2.1.length ≤ l.length ∧ ((Lib.cut l [47]).2.2 = false → (Lib.cut l [47]).2.1 = []) := by
  unfold Lib.cut
  split
  · refine ⟨by simp; omega, by simp, fun h => by cases h⟩
  · exact ⟨Nat.le_refl _, by simp, fun _ => rfl⟩
set_option maxHeartbeats 4000000 in
theorem parse_any (l : List UInt8) (w : World) (hM : MaxL w) (h2 : 2 < w.heap.size) (hl : l.length ≤ 100000) : Calls Tryz.prog 32 #[.string ⟨l.toArray⟩] w (RtP w (parseR l)) := by
  suffices hgen : ∀ Res, Hid (parseR l = Res) → Calls Tryz.prog 32 #[.string ⟨l.toArray⟩] w (RtP w Res) from hgen _ (Lib.hid rfl)
  intro Res HRR
  have hre := HRR.out
  unfold parseR at hre
  have HR0 := Lib.hid (res0 w); have HB0 := Lib.hid (bel0 w)
  have HC := Lib.hid (fun W (h : Below w.heap.size w W) => cut_any l W (hM.below h2 h) (by omega))
  obtain ⟨f1, f2, f3⟩ := cut_facts l
  obtain ⟨a, ha⟩ : ∃ a, a = (Lib.cut l [47]).1 := ⟨_, rfl⟩
  obtain ⟨b, hb⟩ : ∃ a, a = (Lib.cut l [47]).2.1 := ⟨_, rfl⟩
  obtain ⟨c, hc⟩ : ∃ a, a = (Lib.cut l [47]).2.2 := ⟨_, rfl⟩
  rw [← ha, ← hb, ← hc] at hre HC
  rw [← ha] at f1
  rw [← hb] at f2 f3
  rw [← hc] at f3
  have HIa := Lib.hid (fun W => isRow_any a W (by omega)); have HIb := Lib.hid (fun W => isRow_any b W (by omega))
  have HDa := Lib.hid (fun W (h : rowOk a = true) (h2 : a.length ≤ 617) => fromDec_any a W (row_dig h) h2)
  have HDb := Lib.hid (fun W (h : b.all digB = true) (h2 : b.length ≤ 617) => fromDec_any b W h h2)
  obtain ⟨ra, hra⟩ : ∃ q, q = rowOk a := ⟨_, rfl⟩
  obtain ⟨rb, hrb⟩ : ∃ q, q = rowOk b := ⟨_, rfl⟩
  have HRA := Lib.hid hra; have HRB := Lib.hid hrb
  rw [← hra] at hre HIa
  rw [← hrb] at hre HIb
  have HRE := Lib.hid hre; have HF3 := Lib.hid f3
  have HSA := Lib.hid (show (⟨a.toArray⟩ : ByteArray).size = a.length from rfl)
  have HSB := Lib.hid (show (⟨b.toArray⟩ : ByteArray).size = b.length from rfl)
  have HLL := Lib.hid (And.intro f1 f2)
  clear hre HRR ha hb hc hra hrb f1 f2 f3 hM h2
  go_enter Tryz.func32, Tryz.ntmps32
  go_upto_region 1 with (fail)
  generalize w.alloc (.cells #[.slice none 0 0, .slice none 0 0] 27) = W0 at HR0 HB0 ⊢
  go_wp2_with fail
  refine (HC.out _ HB0.out).mono ?_
  rintro e w1 ⟨rfl, q, rfl⟩
  have R0 := Lib.hid (show Blk (W0.drewN q) w.heap.size 27 [.slice none 0 0, .slice none 0 0] from HR0.out)
  have B0 := Lib.hid (below_drewN HB0.out q)
  clear HR0 HB0 HC
  generalize W0.drewN q = W1 at R0 B0 ⊢
  go_upto_region 2 with fail
  go_cut [25] from 15 (fun s25 wx => ∃ bad, s25 = .bool bad ∧ Hid (bad = (!ra || (c && !rb))) ∧ Blk wx w.heap.size 27 [.slice none 0 0, .slice none 0 0] ∧ Below w.heap.size w wx)
  case first =>
    go_wp2_with fail
    refine (HIa.out _).mono ?_
    rintro e w1 ⟨rfl, hb1⟩
    have R1 := Lib.hid (R0.out.below hb1 R0.out.lt); have B1 := Lib.hid (below_step B0.out hb1)
    clear hb1 R0 B0 HIa
    cases ra with
    | false =>
      clear HRE HDa HRA
      go_wp2_with fail
      go_meet
      exact ⟨true, rfl, Lib.hid rfl, R1.out, B1.out⟩
    | true =>
      cases c with
      | false =>
        clear HRE HDa HRA HF3
        go_wp2_with fail
        go_meet
        exact ⟨false, rfl, Lib.hid rfl, R1.out, B1.out⟩
      | true =>
        clear HRE HDa HRA HF3
        go_wp2_with fail
        refine (HIb.out _).mono ?_
        rintro e w2 ⟨rfl, hb2⟩
        have R2 := Lib.hid (R1.out.below hb2 R1.out.lt); have B2 := Lib.hid (below_step B1.out hb2)
        clear hb2 R1 B1 HIb
        cases rb with
        | false =>
          clear HRB
          go_wp2_with fail
          go_meet
          exact ⟨true, rfl, Lib.hid rfl, R2.out, B2.out⟩
        | true =>
          clear HRB
          go_wp2_with fail
          go_meet
          exact ⟨false, rfl, Lib.hid rfl, R2.out, B2.out⟩
  case rest =>
    obtain ⟨bad, rfl, hbad, hr, hb⟩ := hcut
    have R1 := Lib.hid hr; have B1 := Lib.hid hb
    clear R0 B0 HIa HIb hr hb
    obtain ⟨hc1, hc2, hf1, hf2⟩ := blk_cells2 R1.out
    cases bad with
    | true =>
      have hre := HRE.out
      rw [if_pos (by
        have h := hbad.out
        cases ra with
        | false => exact Or.inl rfl
        | true =>
          cases c with
          | false => cases h
          | true =>
            cases rb with
            | false => exact Or.inr ⟨rfl, rfl⟩
            | true => cases h)] at hre
      subst hre
      clear hbad
      go_wp2_with fail
      have hbk := (((R1.out).put 0 (.slice none 0 0)).put 1 (.slice none 0 0))
      have hbl := (((B1.out).setCell (p := ⟨w.heap.size, 0, none⟩) (Nat.le_refl _) (.slice none 0 0)).setCell (p := ⟨w.heap.size, 1, none⟩) (Nat.le_refl _) (.slice none 0 0))
      refine bodyPost_ret (v := .tuple #[.agg #[(.slice none 0 0), (.slice none 0 0)], .int .i64 2]) ?_ rfl ⟨.agg #[(.slice none 0 0), (.slice none 0 0)], rfl, ⟨_, _, rfl, sl_res (Sl.nil _) R1.out _ _ _ _ _ _, sl_res (Sl.nil _) R1.out _ _ _ _ _ _⟩, hbl⟩
      have hr := run_loadVar_at (P := Tryz.prog) _ ⟨w.heap.size, 0, none⟩ 27 [(.slice none 0 0), (.slice none 0 0)] _ hbk.at Tryz.underlying27 rfl size28
      simp [results, Tryz.results32, asAddr, hr]
    | false =>
      have hra : ra = true := by
        have h := hbad.out
        cases ra with
        | false => cases h
        | true => rfl
      have hrc : c = true → rb = true := by
        intro hc
        have h := hbad.out
        rw [hra, hc] at h
        cases rb with
        | false => cases h
        | true => rfl
      have hre := HRE.out
      rw [if_neg (by
        rintro (h | ⟨h1, h2⟩)
        · rw [hra] at h; cases h
        · rw [hrc h1] at h2; cases h2)] at hre
      have HBD := Lib.hid (show b.all digB = true by
        cases hcc : c with
        | false => rw [HF3.out hcc]; rfl
        | true => exact row_dig (by rw [← HRB.out]; exact hrc hcc))
      have HAD := Lib.hid (show rowOk a = true by rw [← HRA.out]; exact hra)
      have HRE := Lib.hid hre
      clear hre hbad hra hrc HF3 HRA HRB
      obtain ⟨la, hla⟩ : ∃ z, z = a.length := ⟨_, rfl⟩
      obtain ⟨lb, hlb⟩ : ∃ z, z = b.length := ⟨_, rfl⟩
      have hsa : (⟨a.toArray⟩ : ByteArray).size = la := by rw [hla]; rfl
      have hsb : (⟨b.toArray⟩ : ByteArray).size = lb := by rw [hlb]; rfl
      have hre := HRE.out
      rw [← hla, ← hlb] at hre
      have HLAB := Lib.hid (And.intro hla hlb)
      have hla3 : la ≤ 100000 := by have := HLL.out.1; omega
      have hlb3 : lb ≤ 100000 := by have := HLL.out.2; omega
      by_cases hbig : 617 < la ∨ 617 < lb
      · rw [if_pos hbig] at hre
        subst hre
        have hbigI : 617 < max (la : Int) (lb : Int) := by omega
        clear hbig hla hlb
        go_wp2_with fail
        have hbk := (((R1.out).put 0 (.slice none 0 0)).put 1 (.slice none 0 0))
        have hbl := (((B1.out).setCell (p := ⟨w.heap.size, 0, none⟩) (Nat.le_refl _) (.slice none 0 0)).setCell (p := ⟨w.heap.size, 1, none⟩) (Nat.le_refl _) (.slice none 0 0))
        refine bodyPost_ret (v := .tuple #[.agg #[(.slice none 0 0), (.slice none 0 0)], .int .i64 4]) ?_ rfl ⟨.agg #[(.slice none 0 0), (.slice none 0 0)], rfl, ⟨_, _, rfl, sl_res (Sl.nil _) R1.out _ _ _ _ _ _, sl_res (Sl.nil _) R1.out _ _ _ _ _ _⟩, hbl⟩
        have hr := run_loadVar_at (P := Tryz.prog) _ ⟨w.heap.size, 0, none⟩ 27 [(.slice none 0 0), (.slice none 0 0)] _ hbk.at Tryz.underlying27 rfl size28
        simp [results, Tryz.results32, asAddr, hr]
      · rw [if_neg hbig] at hre
        have hbigI : ¬ (617 < max (la : Int) (lb : Int)) := by omega
        have HDa1 := Lib.hid (fun W => HDa.out W HAD.out (by omega)); have HDb1 := Lib.hid (fun W => HDb.out W HBD.out (by omega))
        have hxl := decV_len a (row_dig HAD.out) a.length (Nat.le_refl _)
        have hyl := decV_len b HBD.out b.length (Nat.le_refl _)
        rw [List.take_length] at hxl hyl
        obtain ⟨x, hx⟩ : ∃ x, x = decV a := ⟨_, rfl⟩
        obtain ⟨y, hy⟩ : ∃ y, y = decV b := ⟨_, rfl⟩
        rw [← hx, ← hla] at hxl
        rw [← hy, ← hlb] at hyl
        have HXL := Lib.hid (show (lim x).length ≤ 617 ∧ (lim y).length ≤ 617 by omega)
        clear hxl hyl
        rw [← hx] at hre HDa1
        rw [← hy] at hre HDb1
        have HRE := Lib.hid hre
        clear hbig hla hlb hre HDa HDb hx hy hc1 hc2 hf1 hf2
        go_wp2_with fail
        refine (HDa1.out _).mono ?_
        rintro e w3 ⟨va, rfl, hs3, hb3⟩
        have R3 := Lib.hid (R1.out.below hb3 R1.out.lt); have B3 := Lib.hid (below_step B1.out hb3); have S3 := Lib.hid hs3
        clear hb3 hs3 R1 B1 HDa1
        go_wp2_with fail
        refine (HDb1.out _).mono ?_
        rintro e w4 ⟨vb, rfl, hs4, hb4⟩
        have R4 := Lib.hid (R3.out.below hb4 R3.out.lt); have B4 := Lib.hid (below_step B3.out hb4); have S4 := Lib.hid (S3.out.below hb4); have S5 := Lib.hid hs4
        clear hb4 hs4 R3 B3 S3 HDb1
        obtain ⟨A1, m1, j1, e1⟩ := sl_form S4.out
        obtain ⟨A2, m2, j2, e2⟩ := sl_form S5.out
        subst e1 e2
        have L1 := Lib.hid (sl_len S4.out); have L2 := Lib.hid (sl_len S5.out)
        go_upto_region 7 with fail
        have R6 := Lib.hid (R4.out.alloc (.cells #[.slice A1 m1 j1, .slice A2 m2 j2] 27))
        have B6 := Lib.hid (B4.out.alloc B4.out.size (.cells #[.slice A1 m1 j1, .slice A2 m2 j2] 27))
        have S6 := Lib.hid (S4.out.below (boxb w4 (.slice A1 m1 j1) (.slice A2 m2 j2))); have S7 := Lib.hid (S5.out.below (boxb w4 (.slice A1 m1 j1) (.slice A2 m2 j2)))
        have X6 := Lib.hid (box0 w4 (.slice A1 m1 j1) (.slice A2 m2 j2))
        have HGN := Lib.hid (show w.heap.size < w4.heap.size from R4.out.lt)
        obtain ⟨gn, hgn⟩ : ∃ g, w4.heap.size = g := ⟨_, rfl⟩
        obtain ⟨w6, hw6⟩ : ∃ W, w4.alloc (.cells #[.slice A1 m1 j1, .slice A2 m2 j2] 27) = W := ⟨_, rfl⟩
        rw [hw6] at R6 B6 S6 S7 X6
        rw [hgn] at X6 HGN
        rw [hw6, hgn]
        clear R4 B4 S4 S5 hw6 hgn
        obtain ⟨hc3, hc4, hf3, hf4⟩ := blk_cells2 X6.out
        obtain ⟨bf, hbf⟩ : ∃ q, q = decide (max m1 m2 ≤ 64) := ⟨_, rfl⟩
        have HFT := Lib.hid (fits_any A1 A2 m1 m2 j1 j2 bf w6 (by rw [L1.out]; have := HXL.out.1; omega) (by rw [L2.out]; have := HXL.out.2; omega) hbf)
        have HBF := Lib.hid hbf
        have HVL := Lib.hid (fun W (h : Below w6.heap.size w6 W) => valid_sl (S6.out.below h) (S7.out.below h) (lim_ok x) (lim_ok y) (by have := HXL.out.1; omega) (by have := HXL.out.2; omega))
        clear hbf
        go_wp2_with fail
        refine HFT.out.mono ?_
        rintro e w7 ⟨rfl, hb7⟩
        have R7 := Lib.hid (R6.out.below hb7 R6.out.lt); have B7 := Lib.hid (below_step B6.out hb7); have X7 := Lib.hid (X6.out.below hb7 X6.out.lt)
        have V7 := Lib.hid (HVL.out _ hb7)
        have S8 := Lib.hid (S6.out.below hb7); have S9 := Lib.hid (S7.out.below hb7)
        clear hb7 HFT HVL R6 B6 X6 S6 S7 hc3 hc4 hf3 hf4
        obtain ⟨hc1, hc2, hf1, hf2⟩ := blk_cells2 R7.out
        obtain ⟨hc3, hc4, hf3, hf4⟩ := blk_cells2 X7.out
        have hre := HRE.out
        rw [← L1.out, ← L2.out] at hre
        cases bf with
        | false =>
          have h := of_decide_eq_false HBF.out.symm
          rw [if_pos (by omega)] at hre
          subst hre
          clear h HBF V7
          go_wp2_with fail
          have hbk := (((R7.out).put 0 (.slice none 0 0)).put 1 (.slice none 0 0))
          have hbl := (((B7.out).setCell (p := ⟨w.heap.size, 0, none⟩) (Nat.le_refl _) (.slice none 0 0)).setCell (p := ⟨w.heap.size, 1, none⟩) (Nat.le_refl _) (.slice none 0 0))
          refine bodyPost_ret (v := .tuple #[.agg #[(.slice none 0 0), (.slice none 0 0)], .int .i64 4]) ?_ rfl ⟨.agg #[(.slice none 0 0), (.slice none 0 0)], rfl, ⟨_, _, rfl, sl_res (Sl.nil _) R7.out _ _ _ _ _ _, sl_res (Sl.nil _) R7.out _ _ _ _ _ _⟩, hbl⟩
          have hr := run_loadVar_at (P := Tryz.prog) _ ⟨w.heap.size, 0, none⟩ 27 [(.slice none 0 0), (.slice none 0 0)] _ hbk.at Tryz.underlying27 rfl size28
          simp [results, Tryz.results32, asAddr, hr]
        | true =>
          have h := of_decide_eq_true HBF.out.symm
          rw [if_neg (by omega)] at hre
          obtain ⟨vr, hvr⟩ : ∃ q, q = vld (lim x, lim y) := ⟨_, rfl⟩
          have hm2 : m2 = 0 ↔ y = 0 := by rw [L2.out]; exact lim_len0
          have HM2 := Lib.hid hm2
          have V8 := Lib.hid (show Calls Tryz.prog 62 #[.agg #[.slice A1 m1 j1, .slice A2 m2 j2]] w7 (fun e w' => e = .returned (.int .i64 ((vr : Nat) : Int)) ∧ Below w7.heap.size w7 w') by rw [hvr]; exact V7.out)
          rw [← hvr] at hre
          have HRE2 := Lib.hid hre
          clear h HBF V7 hvr hm2 hre HRE L1 L2
          by_cases hbn : c = true ∧ y = 0
          · obtain ⟨rfl, hy0⟩ := hbn
            have hm0 := HM2.out.2 hy0
            have hre := HRE2.out
            rw [if_pos (Or.inl ⟨rfl, hy0⟩)] at hre
            subst hre hm0
            clear hy0 HRE2 V8 HM2
            go_wp2_with fail
            have hbk := (((R7.out).put 0 (.slice none 0 0)).put 1 (.slice none 0 0))
            have hbl := (((B7.out).setCell (p := ⟨w.heap.size, 0, none⟩) (Nat.le_refl _) (.slice none 0 0)).setCell (p := ⟨w.heap.size, 1, none⟩) (Nat.le_refl _) (.slice none 0 0))
            refine bodyPost_ret (v := .tuple #[.agg #[(.slice none 0 0), (.slice none 0 0)], .int .i64 1]) ?_ rfl ⟨.agg #[(.slice none 0 0), (.slice none 0 0)], rfl, ⟨_, _, rfl, sl_res (Sl.nil _) R7.out _ _ _ _ _ _, sl_res (Sl.nil _) R7.out _ _ _ _ _ _⟩, hbl⟩
            have hr := run_loadVar_at (P := Tryz.prog) _ ⟨w.heap.size, 0, none⟩ 27 [(.slice none 0 0), (.slice none 0 0)] _ hbk.at Tryz.underlying27 rfl size28
            simp [results, Tryz.results32, asAddr, hr]
          · have hby : (decide (c = true) && decide (m2 = 0)) = false := by
              rw [Bool.eq_false_iff]
              intro h
              rw [Bool.and_eq_true, decide_eq_true_eq, decide_eq_true_eq] at h
              exact hbn ⟨h.1, HM2.out.1 h.2⟩
            have HBN := Lib.hid hbn
            have HBY := Lib.hid hby
            clear hbn hby
            go_upto_region 9 with fail
            go_cut [8] from 10 (fun s8 wx => s8 = .bool false ∧ w7 = wx)
            case first =>
              cases c with
              | false =>
                clear HBN HBY HRE2 V8
                go_wp2_with fail
                go_meet
                exact ⟨rfl, rfl⟩
              | true =>
                have hne : ((m2 : Int) == 0) = false := by
                  rw [beq_eq_false_iff_ne]; intro h
                  exact HBN.out ⟨rfl, HM2.out.1 (by omega)⟩
                clear HBN HBY HRE2 V8
                go_wp2_with fail
                go_meet
                exact ⟨rfl, rfl⟩
            case rest =>
              obtain ⟨rfl, rfl⟩ := hcut
              go_wp2_with fail
              refine V8.out.mono ?_
              rintro e w8 ⟨rfl, hb8⟩
              have R8 := Lib.hid (R7.out.below hb8 R7.out.lt); have B8 := Lib.hid (below_step B7.out hb8); have X8 := Lib.hid (X7.out.below hb8 X7.out.lt)
              have T1 := Lib.hid (S8.out.below hb8); have T2 := Lib.hid (S9.out.below hb8)
              clear hb8 V8 R7 B7 X7 S8 S9 hc1 hc2 hf1 hf2 hc3 hc4 hf3 hf4
              obtain ⟨hc1, hc2, hf1, hf2⟩ := blk_cells2 R8.out
              obtain ⟨hc3, hc4, hf3, hf4⟩ := blk_cells2 X8.out
              have hre := HRE2.out
              by_cases hv : vr = 0
              · rw [if_neg (by rintro (h | h); exact HBN.out h; exact h hv)] at hre
                subst hre hv
                clear HRE2 HBN
                go_wp2_with fail
                have hbk := (((R8.out).put 0 (.slice A1 m1 j1)).put 1 (.slice A2 m2 j2))
                have hbl := (((B8.out).setCell (p := ⟨w.heap.size, 0, none⟩) (Nat.le_refl _) (.slice A1 m1 j1)).setCell (p := ⟨w.heap.size, 1, none⟩) (Nat.le_refl _) (.slice A2 m2 j2))
                refine bodyPost_ret (v := .tuple #[.agg #[(.slice A1 m1 j1), (.slice A2 m2 j2)], .int .i64 0]) ?_ rfl ⟨.agg #[(.slice A1 m1 j1), (.slice A2 m2 j2)], rfl, ⟨_, _, rfl, sl_res T1.out R8.out _ _ _ _ _ _, sl_res T2.out R8.out _ _ _ _ _ _⟩, hbl⟩
                have hr := run_loadVar_at (P := Tryz.prog) _ ⟨w.heap.size, 0, none⟩ 27 [(.slice A1 m1 j1), (.slice A2 m2 j2)] _ hbk.at Tryz.underlying27 rfl size28
                simp [results, Tryz.results32, asAddr, hr]
              · rw [if_pos (Or.inr hv)] at hre
                subst hre
                have hne : (((vr : Nat) : Int) != 0) = true := by rw [bne_iff_ne]; omega
                clear HRE2 HBN hv
                go_wp2_with fail
                have hbk := (((R8.out).put 0 (.slice none 0 0)).put 1 (.slice none 0 0))
                have hbl := (((B8.out).setCell (p := ⟨w.heap.size, 0, none⟩) (Nat.le_refl _) (.slice none 0 0)).setCell (p := ⟨w.heap.size, 1, none⟩) (Nat.le_refl _) (.slice none 0 0))
                refine bodyPost_ret (v := .tuple #[.agg #[(.slice none 0 0), (.slice none 0 0)], .int .i64 1]) ?_ rfl ⟨.agg #[(.slice none 0 0), (.slice none 0 0)], rfl, ⟨_, _, rfl, sl_res (Sl.nil _) R8.out _ _ _ _ _ _, sl_res (Sl.nil _) R8.out _ _ _ _ _ _⟩, hbl⟩
                have hr := run_loadVar_at (P := Tryz.prog) _ ⟨w.heap.size, 0, none⟩ 27 [(.slice none 0 0), (.slice none 0 0)] _ hbk.at Tryz.underlying27 rfl size28
                simp [results, Tryz.results32, asAddr, hr]
end Go.Proofs.YtbfhilbagojdnaaGreat
