/-
  Texts of the proof, joined: Cm, Rt, Lo, Va, Al, Ad.
  No condition: lemmas.
-/
import Derived.Deep.LoopGhost
import Derived.OrdersHeld
import Derived.Test.YtbfhilbagojdnaaGreatHr5
namespace Go.Proofs.YtbfhilbagojdnaaGreat
open Go.RowKit Wr Go.Proofs.YtbfhilbagojdnaaGreat.Nm
set_option linter.unusedVariables false
set_option maxRecDepth 100000

def CmR (w : World) (G M k : Nat) (s0 s1 : Value) (wr : World) : Prop :=
  ∃ x y, Sl wr s0 (lim x) ∧ Sl wr s1 (lim y) ∧ Nat.gcd x y = G ∧ (0 < x ∨ 0 < y) ∧ x ≤ M ∧ y ≤ M ∧ meas x y = k ∧ Below w.heap.size w wr
theorem pos_lim {y : Nat} (h : 0 < y) : 0 < (lim y).length := by
  rcases Nat.eq_zero_or_pos (lim y).length with h0 | h0
  · have := lim_len0.1 h0; omega
  · exact h0
/-- One of the two ways of closer. -/
theorem closer_both (A A2 : Option Addr) (x y : Nat) (c c2 : Nat) (w : World) (h0 : 0 < y) (hbig : 64 < max (blen x) (blen y)) (hl : (lim x).length ≤ 100000) (hl2 : (lim y).length ≤ 100000) (hc : (lim x).length ≤ c) (hc2 : (lim y).length ≤ c2) (hn : A = none → c = 0) (hn2 : A2 = none → c2 = 0)
    (hr : Rd w w.heap.size A (Lc (lim x))) (hr2 : Rd w w.heap.size A2 (Lc (lim y))) : Calls Tryz.prog 126 #[.slice A (lim x).length c, .slice A2 (lim y).length c2] w (CloP w x y) := by
  rcases Nat.lt_or_ge x y with h | h
  · have := closer_swap A A2 (lim x) (lim y) c c2 w (lim_ok x) (lim_ok y) (dropz_lim x) (dropz_lim y) (by rw [num_lim, num_lim]; exact h) hl hl2 hc hc2 hn hn2 hr hr2
    rwa [num_lim, num_lim] at this
  · have h2 := blen_mono h
    have := closer_any A A2 (lim x) (lim y) c c2 w (lim_ok x) (lim_ok y) (dropz_lim x) (dropz_lim y) (by rw [num_lim, num_lim]; exact h) (by rw [num_lim]; exact h0) (by rw [num_lim]; omega) hl hl2 hc hc2 hn hn2 hr hr2
    rwa [num_lim, num_lim] at this
set_option maxHeartbeats 2000000 in
theorem common_lim (A A2 : Option Addr) (x y c c2 : Nat) (w : World) (h0 : 0 < x ∨ 0 < y) (hl : (lim x).length ≤ 100000) (hl2 : (lim y).length ≤ 100000) (hc : (lim x).length ≤ c) (hc2 : (lim y).length ≤ c2) (hn : A = none → c = 0) (hn2 : A2 = none → c2 = 0)
    (hr : Rd w w.heap.size A (Lc (lim x))) (hr2 : Rd w w.heap.size A2 (Lc (lim y))) : Calls Tryz.prog 101 #[.slice A (lim x).length c, .slice A2 (lim y).length c2] w (SlP w (Nat.gcd x y)) := by
  obtain ⟨G, hG⟩ : ∃ g, g = Nat.gcd x y := ⟨_, rfl⟩
  obtain ⟨M, hM⟩ : ∃ m, m = max x y := ⟨_, rfl⟩
  have hML : (lim M).length ≤ 100000 := by
    rw [hM]
    rcases Nat.le_total x y with h | h
    · rw [Nat.max_eq_right h]; exact hl2
    · rw [Nat.max_eq_left h]; exact hl
  have hst : CmR w G M (meas x y) (.slice A (lim x).length c) (.slice A2 (lim y).length c2) w :=
    ⟨x, y, ⟨A, c, rfl, hc, hn, hr⟩, ⟨A2, c2, rfl, hc2, hn2, hr2⟩, hG.symm, h0, by omega, by omega, rfl, Below.refl _ _⟩
  have HST := Lib.hid hst
  obtain ⟨K, hK⟩ : ∃ k, k = meas x y := ⟨_, rfl⟩
  rw [← hG]
  rw [← hK] at HST
  generalize (lim x).length = lx at *
  generalize (lim y).length = ly at *
  clear hst hG hM hK hr hr2 hn hn2 hc hc2 h0 hl hl2
  go_enter Tryz.func101, Tryz.ntmps101
  go_wp2
  go_loopg [0, 1] K (fun k s0 s1 wr => CmR w G M k s0 s1 wr)
  case atStart => exact HST.out
  case round =>
    clear HST
    obtain ⟨x, y, ⟨A, c, rfl, hc, hn, hr⟩, ⟨A2, c2, rfl, hc2, hn2, hr2⟩, hg, h0, hxM, hyM, hk, hbel⟩ := hrel
    have hlx : (lim x).length ≤ 100000 := Nat.le_trans (lim_mono hxM) hML
    have hly : (lim y).length ≤ 100000 := Nat.le_trans (lim_mono hyM) hML
    rcases Nat.eq_zero_or_pos y with hy | hy
    · subst hy
      have hl0 : (lim 0).length = 0 := by rw [lim_zero]; rfl
      rw [hl0]
      have hx : x = G := by rw [← hg, Nat.gcd_zero_right]
      subst hx
      have HS := Lib.hid (show Sl wr (.slice A (lim x).length c) (lim x) from ⟨A, c, rfl, hc, hn, hr⟩)
      have HB := Lib.hid hbel
      generalize (lim x).length = lx at *
      clear hc hn hr hc2 hn2 hr2 hg h0 hk hbel hl0 hly
      go_wp2
      go_ret
      exact ⟨_, rfl, HS.out, HB.out⟩
    · have hy1 := pos_lim hy
      have HBa := Lib.hid (fun W (h : wr = W) => bitLen_any A c (lim x) wr.heap.size W (lim_ok x) (dropz_lim x) (by rw [← h]; exact hr) (by omega))
      have HBb := Lib.hid (fun W (h : wr = W) => bitLen_any A2 c2 (lim y) wr.heap.size W (lim_ok y) (dropz_lim y) (by rw [← h]; exact hr2) (by omega))
      rw [num_lim] at HBa HBb
      obtain ⟨ba, hba⟩ : ∃ b, b = blen x := ⟨_, rfl⟩
      obtain ⟨bb, hbb⟩ : ∃ b, b = blen y := ⟨_, rfl⟩
      rw [← hba] at HBa
      rw [← hbb] at HBb
      by_cases hbig : 64 < max ba bb
      · have HCl := Lib.hid (fun W (h : wr = W) => closer_both A A2 x y c c2 W hy (by rw [← hba, ← hbb]; exact hbig) hlx hly hc hc2 hn hn2 (by rw [← h]; exact hr) (by rw [← h]; exact hr2))
        have hbigI : 64 < max (ba : Int) (bb : Int) := by omega
        have HB := Lib.hid hbel; have HG := Lib.hid hg; have HK := Lib.hid hk
        have hyI : (0 : Int) < ((lim y).length : Int) := by omega
        generalize (lim x).length = lx at *
        generalize (lim y).length = ly at *
        clear hc hn hr hc2 hn2 hr2 hg h0 hk hbel hba hbb
        go_wp2_with (go_at_call 64; first | ((with_reducible refine (HBa.out _ rfl).mono ?_); rintro e w' ⟨rfl, rfl⟩) | ((with_reducible refine (HBb.out _ rfl).mono ?_); rintro e w' ⟨rfl, rfl⟩))
        refine (HCl.out _ rfl).mono ?_
        rintro e w2 ⟨z1, z2, x', y', rfl, hs1, hs2, hg2, hm2, hx2, hy2, hp2, hb2⟩
        have HR := Lib.hid (show CmR w G M (meas x' y') z1 z2 w2 from ⟨x', y', hs1, hs2, by rw [hg2]; exact HG.out, Or.inl hp2, by omega, by omega, rfl, HB.out.trans (hb2.mono HB.out.size)⟩)
        have HMs := Lib.hid hm2
        clear hs1 hs2 hg2 hm2 hx2 hy2 hp2 hb2
        go_wp2
        go_roundg (meas x' y')
        case measure => rw [← HK.out]; exact HMs.out
        case rel => exact HR.out
      · have hx64 : x < 2 ^ 64 := blen_le.1 (by omega)
        have hy64 : y < 2 ^ 64 := blen_le.1 (by omega)
        have e64 : (2 : Nat) ^ 64 = 18446744073709551616 := by decide
        have HWa := Lib.hid (fun W (h : ∃ q, W = wr.drewN q) => wordAt_any A c (lim x) 0 wr.heap.size W (lim_ok x) (by obtain ⟨q, rfl⟩ := h; exact hr) (by omega) (by omega))
        have HWb := Lib.hid (fun W (h : ∃ q, W = wr.drewN q) => wordAt_any A2 c2 (lim y) 0 wr.heap.size W (lim_ok y) (by obtain ⟨q, rfl⟩ := h; exact hr2) (by omega) (by omega))
        rw [num_lim, Nat.pow_zero, Nat.div_one, Nat.mod_eq_of_lt hx64] at HWa
        rw [num_lim, Nat.pow_zero, Nat.div_one, Nat.mod_eq_of_lt hy64] at HWb
        rw [show ((0 : Nat) : Int) = 0 from rfl] at HWa HWb
        have HCw := Lib.hid (fun W => commonWord_any x y W (by omega) (by omega))
        have hG64 : G < 18446744073709551616 := by
          rw [← hg]
          have := Nat.le_of_dvd hy (Nat.gcd_dvd_right x y)
          omega
        have HLi := Lib.hid (fun W => limbsOf_any G W hG64)
        rw [hg] at HCw
        have hbigI : ¬ 64 < max (ba : Int) (bb : Int) := by omega
        have HB := Lib.hid hbel
        have hyI : (0 : Int) < ((lim y).length : Int) := by omega
        have hyE : (((lim y).length : Int) == 0) = false := by rw [beq_eq_false_iff_ne]; omega
        generalize (lim x).length = lx at *
        generalize (lim y).length = ly at *
        clear hc hn hr hc2 hn2 hr2 hg h0 hk hbel hba hbb e64 hx64 hy64 hG64
        go_wp2_with (go_at_call 64; first | ((with_reducible refine (HBa.out _ rfl).mono ?_); rintro e w' ⟨rfl, rfl⟩) | ((with_reducible refine (HBb.out _ rfl).mono ?_); rintro e w' ⟨rfl, rfl⟩))
        refine (HWa.out _ ⟨0, rfl⟩).mono ?_
        rintro e w1 ⟨rfl, q1, rfl⟩
        go_wp2_with fail
        refine (HWb.out _ ⟨q1, rfl⟩).mono ?_
        rintro e w1 ⟨rfl, q2, rfl⟩
        go_wp2_with fail
        refine (HCw.out _).mono ?_
        rintro e w1 ⟨rfl, q3, rfl⟩
        go_wp2_with fail
        refine (HLi.out _).mono ?_
        rintro e w1 ⟨v, rfl, hs, hb1⟩
        have HS := Lib.hid hs; have HB1 := Lib.hid hb1
        clear hs hb1
        go_wp2_with fail
        go_ret
        exact ⟨v, rfl, HS.out, (below_drewN HB.out _).trans (HB1.out.mono HB.out.size)⟩
end Go.Proofs.YtbfhilbagojdnaaGreat
namespace Go.Proofs.YtbfhilbagojdnaaGreat
open Go.RowKit Wr Go.Proofs.YtbfhilbagojdnaaGreat.Nm
set_option linter.unusedVariables false
set_option maxRecDepth 100000

/-- A ratio's value: its two slices. -/
def Rv (w : World) (v : Value) (r : Rt) : Prop := ∃ v1 v2, v = .agg #[v1, v2] ∧ Sl w v1 r.1 ∧ Sl w v2 r.2
theorem Rv.below {w w' : World} {v : Value} {r : Rt} (h : Rv w v r) (hb : Below w.heap.size w w') : Rv w' v r := by
  obtain ⟨v1, v2, e, h1, h2⟩ := h
  exact ⟨v1, v2, e, h1.below hb, h2.below hb⟩
theorem Rv.none (w : World) : Rv w (.agg #[.slice none 0 0, .slice none 0 0]) noR := ⟨_, _, rfl, Sl.nil w, Sl.nil w⟩
/-- The cells and the marks of the blocks that were there, behind a call. -/
theorem bcell {W w1 : World} (hb : Below W.heap.size W w1) : (∀ b o, b < W.heap.size → w1.cell? ⟨b, o, none⟩ = W.cell? ⟨b, o, none⟩) ∧ (∀ b o, b < W.heap.size → w1.frozen? ⟨b, o, none⟩ = W.frozen? ⟨b, o, none⟩) :=
  ⟨fun b o h => hb.cell (p := ⟨b, o, none⟩) h, fun b o h => hb.frozen (p := ⟨b, o, none⟩) h⟩
set_option maxHeartbeats 1000000 in
theorem fits_any (A A2 : Option Addr) (n n2 c c2 : Nat) (b : Bool) (w : World) (h1 : n ≤ 1048576) (h2 : n2 ≤ 1048576) (hb : b = decide (max n n2 ≤ 64)) :
    Calls Tryz.prog 83 #[.agg #[.slice A n c, .slice A2 n2 c2]] w fun e w' => e = .returned (.bool b) ∧ Below w.heap.size w w' := by
  have e : b = decide (max (n : Int) (n2 : Int) ≤ 64) := by
    rw [hb, Bool.eq_iff_iff]; simp; omega
  have HB := Lib.hid e
  clear e hb
  go_enter Tryz.func83, Tryz.ntmps83
  go_wp2
  go_ret
  exact ⟨by rw [HB.out]; rfl, (Below.refl _ _).alloc (Nat.le_refl _) _⟩
theorem one_bs (W : World) : (Instr.buildSlice 22 1 #[(0, .int .u32 1)]).run Tryz.prog W = .ok (.slice (some ⟨W.heap.size, 0, none⟩) 1 1) (W.alloc (.cells #[.int .u32 1] 66)) := by kernel_rfl
theorem sl_one (w : World) : Sl (w.alloc (.cells #[.int .u32 1] 66)) (.slice (some ⟨w.heap.size, 0, none⟩) 1 1) [1] :=
  ⟨_, 1, rfl, Nat.le_refl _, (fun e => by cases e), (Rd.of_blk0 (Blk.new w 66 (Lc [1]))).more (Blk.new w 66 (Lc [1])).lt⟩
theorem one_any (w : World) : Calls Tryz.prog 71 #[] w (CpP w [1]) := by
  have hbs := one_bs w
  go_enter Tryz.func71, Tryz.ntmps71
  go_wp2
  go_ret
  exact ⟨_, rfl, sl_one w, (Below.refl _ _).alloc (Nat.le_refl _) _⟩
def denL (d : List Nat) : List Nat := if d = [] then [1] else d
set_option maxHeartbeats 1000000 in
theorem denOf_any (A A2 : Option Addr) (n c c2 : Nat) (d : List Nat) (w : World) (h2 : d.length ≤ 1048576) (hc : d.length ≤ c2) (hn : A2 = none → c2 = 0) (hr : Rd w w.heap.size A2 (Lc d)) :
    Calls Tryz.prog 47 #[.agg #[.slice A n c, .slice A2 d.length c2]] w (CpP w (denL d)) := by
  rcases Nat.eq_zero_or_pos d.length with h0 | h0
  · obtain rfl := List.length_eq_zero_iff.1 h0
    clear hr hn hc h2 h0
    have hbs := one_bs (w.alloc (.cells #[.slice A n c, .slice A2 0 c2] 27))
    show Calls Tryz.prog 47 #[.agg #[.slice A n c, .slice A2 0 c2]] w _
    go_enter Tryz.func47, Tryz.ntmps47
    go_wp2_with (go_at_call 71; (with_reducible refine (one_any _).mono ?_); rintro e w' ⟨v, rfl, hs, hb⟩)
    go_ret
    exact ⟨v, rfl, hs, ((Below.refl w.heap.size w).alloc (Nat.le_refl _) _).trans (hb.mono (by simp))⟩
  · have hd : denL d = d := by unfold denL; rw [if_neg (by intro e; rw [e] at h0; simp at h0)]
    rw [hd]
    have hne : ((d.length : Int) == 0) = false := by rw [beq_eq_false_iff_ne]; omega
    have HS := Lib.hid (show Sl w (.slice A2 d.length c2) d from ⟨A2, c2, rfl, hc, hn, hr⟩)
    generalize hl : d.length = ld at *
    clear hr hn hc hd hl
    go_enter Tryz.func47, Tryz.ntmps47
    go_wp2
    go_ret
    exact ⟨.slice A2 ld c2, rfl, HS.out.below ((Below.refl w.heap.size w).alloc (Nat.le_refl _) _), (Below.refl w.heap.size w).alloc (Nat.le_refl _) _⟩
def RtP (w : World) (x : Rt × Nat) (e : Ending) (w' : World) : Prop := ∃ v, e = .returned (.tuple #[v, .int .i64 ((x.2 : Nat) : Int)]) ∧ Rv w' v x.1 ∧ Below w.heap.size w w'
theorem size28 {v1 v2 : Value} : (Tryz.prog.info? 27).map (·.size) = some [v1, v2].length := by kernel_rfl
def Nn : Value := .slice none 0 0
/-- The result's block, laid first: it reads as the ratio's two slices behind the store. -/
theorem res_blk {w W w1 : World} {v1 v2 : Value} (h : Blk W w.heap.size 27 [.slice none 0 0, .slice none 0 0]) (hb : Below W.heap.size W w1) : Blk ((w1.setCell ⟨w.heap.size, 0, none⟩ v1).setCell ⟨w.heap.size, 1, none⟩ v2) w.heap.size 27 [v1, v2] :=
  ((h.below hb h.lt).put 0 v1).put 1 v2
theorem res_below {w W w1 : World} {v1 v2 : Value} (h : Below w.heap.size w W) (hb : Below W.heap.size W w1) : Below w.heap.size w ((w1.setCell ⟨w.heap.size, 0, none⟩ v1).setCell ⟨w.heap.size, 1, none⟩ v2) :=
  ((h.trans (hb.mono h.size)).setCell (p := ⟨w.heap.size, 0, none⟩) (Nat.le_refl _) _).setCell (p := ⟨w.heap.size, 1, none⟩) (Nat.le_refl _) _
set_option maxHeartbeats 1000000 in
theorem made_any (A A2 : Option Addr) (x y c c2 : Nat) (w : World) (hy0 : 0 < y) (hl : (lim x).length ≤ 100000) (hl2 : (lim y).length ≤ 100000) (hc : (lim x).length ≤ c) (hc2 : (lim y).length ≤ c2) (hn : A = none → c = 0) (hn2 : A2 = none → c2 = 0)
    (hr : Rd w w.heap.size A (Lc (lim x))) (hr2 : Rd w w.heap.size A2 (Lc (lim y))) : Calls Tryz.prog 73 #[.slice A (lim x).length c, .slice A2 (lim y).length c2] w (RtP w (madeR x y)) := by
  have HI := Lib.hid (fun W (h : Below w.heap.size w W) => isOne_any A2 c2 (lim y) w.heap.size W (hr2.below h) (by omega))
  have S1 := Lib.hid (show Sl w (.slice A (lim x).length c) (lim x) from ⟨A, c, rfl, hc, hn, hr⟩)
  have S2 := Lib.hid (show Sl w (.slice A2 (lim y).length c2) (lim y) from ⟨A2, c2, rfl, hc2, hn2, hr2⟩)
  have hfit : ∀ b n2, n2 = (dl y).length → b = decide (max (lim x).length n2 ≤ 64) → 0 < y → madeR x y = if b = true then ((lim x, dl y), 0) else (noR, 4) := by
    intro b n2 hn2 hb hy
    unfold madeR
    have e1 := @lim_len x 64
    have e2 := dl_len y hy
    by_cases h : x < 4294967296 ^ 64 ∧ y < 4294967296 ^ 64
    · rw [if_pos h, if_pos (by rw [hb, decide_eq_true_iff, hn2]; have := e1.2 h.1; have := e2.2 h.2; omega)]
    · rw [if_neg h, if_neg (by
        rw [hb, decide_eq_true_iff, hn2]; intro hm
        exact h ⟨e1.1 (by omega), e2.1 (by omega)⟩)]
  by_cases h1 : y = 1
  · subst h1
    rw [show decide (lim 1 = [1]) = true by simp [lim_one]] at HI
    obtain ⟨b, hb⟩ : ∃ b, b = decide (max (lim x).length 0 ≤ 64) := ⟨_, rfl⟩
    have HF := Lib.hid (fun W => fits_any A none (lim x).length 0 c 0 b W (by omega) (by omega) hb)
    have HM0 := Lib.hid (hfit b 0 rfl hb (by omega))
    have hl1 : (lim 1).length = 1 := by rw [lim_one]; rfl
    have HZ := Lib.hid (((Blk.new w 27 [.slice none 0 0, .slice none 0 0]).alloc (.cells #[.slice A (lim x).length c, .slice none 0 0] 27)))
    have HW := Lib.hid (((Below.refl w.heap.size w).alloc (Nat.le_refl _) (.cells [.slice none 0 0, .slice none 0 0].toArray 27)).alloc (by simp) (.cells #[.slice A (lim x).length c, .slice none 0 0] 27))
    clear hr hr2 hn hn2 hb hfit S2
    rw [hl1] at HI ⊢
    clear hl1 hl2 hc2
    generalize (lim x).length = lx at *
    go_enter Tryz.func73, Tryz.ntmps73
    go_wp2_with (go_at_call 102; (with_reducible refine (HI.out _ (((Below.refl w.heap.size w).alloc (Nat.le_refl _) _).alloc (by simp) _)).mono ?_); rintro e w' ⟨rfl, rfl⟩)
    refine (HF.out _).mono ?_
    rintro e w1 ⟨rfl, hb1⟩
    obtain ⟨hc1, hf1⟩ := bcell hb1
    have S1' := Lib.hid (S1.out.below (res_below (v1 := .slice none 0 0) (v2 := .slice none 0 0) HW.out hb1))
    cases b with
    | true =>
      have HM := Lib.hid (show madeR x 1 = ((lim x, []), 0) from HM0.out)
      go_wp2
      have hbk := res_blk (v1 := (.slice A lx c)) (v2 := (.slice none 0 0)) HZ.out hb1
      have hbl := res_below (v1 := (.slice A lx c)) (v2 := (.slice none 0 0)) HW.out hb1
      refine bodyPost_ret (v := .tuple #[.agg #[(.slice A lx c), (.slice none 0 0)], .int .i64 0]) ?_ rfl ⟨.agg #[(.slice A lx c), (.slice none 0 0)], by rw [HM.out]; rfl, by rw [HM.out]; exact ⟨_, _, rfl, S1.out.below hbl, Sl.nil _⟩, hbl⟩
      have hr := run_loadVar_at (P := Tryz.prog) _ ⟨w.heap.size, 0, none⟩ 27 [(.slice A lx c), (.slice none 0 0)] _ hbk.at Tryz.underlying27 rfl size28
      simp [results, Tryz.results73, asAddr, hr]
    | false =>
      have HM := Lib.hid (show madeR x 1 = (noR, 4) from HM0.out)
      go_wp2
      have hbk := res_blk (v1 := (.slice none 0 0)) (v2 := (.slice none 0 0)) HZ.out hb1
      have hbl := res_below (v1 := (.slice none 0 0)) (v2 := (.slice none 0 0)) HW.out hb1
      refine bodyPost_ret (v := .tuple #[.agg #[(.slice none 0 0), (.slice none 0 0)], .int .i64 4]) ?_ rfl ⟨.agg #[(.slice none 0 0), (.slice none 0 0)], by rw [HM.out]; rfl, by rw [HM.out]; exact ⟨_, _, rfl, Sl.nil _, Sl.nil _⟩, hbl⟩
      have hr := run_loadVar_at (P := Tryz.prog) _ ⟨w.heap.size, 0, none⟩ 27 [(.slice none 0 0), (.slice none 0 0)] _ hbk.at Tryz.underlying27 rfl size28
      simp [results, Tryz.results73, asAddr, hr]
  · rw [show decide (lim y = [1]) = false by simp [lim_eq_one, h1]] at HI
    rcases Nat.eq_zero_or_pos y with hy | hy
    · exact absurd hy (by omega)
    obtain ⟨b, hb⟩ : ∃ b, b = decide (max (lim x).length (lim y).length ≤ 64) := ⟨_, rfl⟩
    have hdl : dl y = lim y := by unfold dl; rw [if_neg h1]
    have HF := Lib.hid (fun W => fits_any A A2 (lim x).length (lim y).length c c2 b W (by omega) (by omega) hb)
    have HM0 := Lib.hid (hfit b _ (by rw [hdl]) hb hy)
    rw [hdl] at HM0
    have HZ := Lib.hid (((Blk.new w 27 [.slice none 0 0, .slice none 0 0]).alloc (.cells #[.slice A (lim x).length c, .slice A2 (lim y).length c2] 27)))
    have HW := Lib.hid (((Below.refl w.heap.size w).alloc (Nat.le_refl _) (.cells [.slice none 0 0, .slice none 0 0].toArray 27)).alloc (by simp) (.cells #[.slice A (lim x).length c, .slice A2 (lim y).length c2] 27))
    clear hr hr2 hn hn2 hb hfit hdl
    generalize (lim x).length = lx at *
    generalize (lim y).length = ly at *
    go_enter Tryz.func73, Tryz.ntmps73
    go_wp2_with (go_at_call 102; (with_reducible refine (HI.out _ (((Below.refl w.heap.size w).alloc (Nat.le_refl _) _).alloc (by simp) _)).mono ?_); rintro e w' ⟨rfl, rfl⟩)
    refine (HF.out _).mono ?_
    rintro e w1 ⟨rfl, hb1⟩
    obtain ⟨hc1, hf1⟩ := bcell hb1
    cases b with
    | true =>
      have HM := Lib.hid (show madeR x y = ((lim x, lim y), 0) from HM0.out)
      go_wp2
      have hbk := res_blk (v1 := (.slice A lx c)) (v2 := (.slice A2 ly c2)) HZ.out hb1
      have hbl := res_below (v1 := (.slice A lx c)) (v2 := (.slice A2 ly c2)) HW.out hb1
      refine bodyPost_ret (v := .tuple #[.agg #[(.slice A lx c), (.slice A2 ly c2)], .int .i64 0]) ?_ rfl ⟨.agg #[(.slice A lx c), (.slice A2 ly c2)], by rw [HM.out]; rfl, by rw [HM.out]; exact ⟨_, _, rfl, S1.out.below hbl, S2.out.below hbl⟩, hbl⟩
      have hr := run_loadVar_at (P := Tryz.prog) _ ⟨w.heap.size, 0, none⟩ 27 [(.slice A lx c), (.slice A2 ly c2)] _ hbk.at Tryz.underlying27 rfl size28
      simp [results, Tryz.results73, asAddr, hr]
    | false =>
      have HM := Lib.hid (show madeR x y = (noR, 4) from HM0.out)
      go_wp2
      have hbk := res_blk (v1 := (.slice none 0 0)) (v2 := (.slice none 0 0)) HZ.out hb1
      have hbl := res_below (v1 := (.slice none 0 0)) (v2 := (.slice none 0 0)) HW.out hb1
      refine bodyPost_ret (v := .tuple #[.agg #[(.slice none 0 0), (.slice none 0 0)], .int .i64 4]) ?_ rfl ⟨.agg #[(.slice none 0 0), (.slice none 0 0)], by rw [HM.out]; rfl, by rw [HM.out]; exact ⟨_, _, rfl, Sl.nil _, Sl.nil _⟩, hbl⟩
      have hr := run_loadVar_at (P := Tryz.prog) _ ⟨w.heap.size, 0, none⟩ 27 [(.slice none 0 0), (.slice none 0 0)] _ hbk.at Tryz.underlying27 rfl size28
      simp [results, Tryz.results73, asAddr, hr]
end Go.Proofs.YtbfhilbagojdnaaGreat
namespace Go.Proofs.YtbfhilbagojdnaaGreat
open Go.RowKit Wr Go.Proofs.YtbfhilbagojdnaaGreat.Nm
set_option linter.unusedVariables false
set_option maxRecDepth 100000

theorem lim_short {a b : Nat} (h : a ≤ b) (hl : (lim b).length ≤ 100000) : (lim a).length ≤ 100000 := Nat.le_trans (lim_mono h) hl
/-- What a slice that reads as a number gives to a contract. -/
theorem common_sl {v1 v2 : Value} {x y : Nat} {w : World} (h1 : Sl w v1 (lim x)) (h2 : Sl w v2 (lim y)) (h0 : 0 < x ∨ 0 < y) (hl : (lim x).length ≤ 100000) (hl2 : (lim y).length ≤ 100000) : Calls Tryz.prog 101 #[v1, v2] w (SlP w (Nat.gcd x y)) := by
  obtain ⟨A, c, rfl, hc, hn, hr⟩ := h1
  obtain ⟨A2, c2, rfl, hc2, hn2, hr2⟩ := h2
  exact common_lim A A2 x y c c2 w h0 hl hl2 hc hc2 hn hn2 hr hr2
theorem divided_sl {v1 v2 : Value} {x y : Nat} {w : World} (h1 : Sl w v1 (lim x)) (h2 : Sl w v2 (lim y)) (h0 : 0 < y) (hl : (lim x).length ≤ 100000) (hl2 : (lim y).length ≤ 100000) : Calls Tryz.prog 63 #[v1, v2] w (DvP w x y) := by
  obtain ⟨A, c, rfl, hc, hn, hr⟩ := h1
  obtain ⟨A2, c2, rfl, hc2, hn2, hr2⟩ := h2
  have := divided_any A A2 (lim x) (lim y) c c2 w (lim_ok x) (lim_ok y) (dropz_lim x) (dropz_lim y) (pos_lim h0) hl hl2 hn hr hr2
  rwa [num_lim, num_lim] at this
theorem isOne_sl {v : Value} {x : Nat} {w : World} (h1 : Sl w v (lim x)) (hl : (lim x).length ≤ 100000) : Calls Tryz.prog 102 #[v] w fun e w' => e = .returned (.bool (decide (x = 1))) ∧ w = w' := by
  obtain ⟨A, c, rfl, hc, hn, hr⟩ := h1
  have := isOne_any A c (lim x) w.heap.size w hr (by omega)
  have e : decide (lim x = [1]) = decide (x = 1) := by rw [Bool.eq_iff_iff]; simp [lim_eq_one]
  rwa [e] at this
theorem made_sl {v1 v2 : Value} {x y : Nat} {w : World} (h1 : Sl w v1 (lim x)) (h2 : Sl w v2 (lim y)) (h0 : 0 < y) (hl : (lim x).length ≤ 100000) (hl2 : (lim y).length ≤ 100000) : Calls Tryz.prog 73 #[v1, v2] w (RtP w (madeR x y)) := by
  obtain ⟨A, c, rfl, hc, hn, hr⟩ := h1
  obtain ⟨A2, c2, rfl, hc2, hn2, hr2⟩ := h2
  exact made_any A A2 x y c c2 w h0 hl hl2 hc hc2 hn hn2 hr hr2
/-- The ratio's slices, in one block more. -/
theorem res0 (w : World) : Blk (w.alloc (.cells #[.slice none 0 0, .slice none 0 0] 27)) w.heap.size 27 [.slice none 0 0, .slice none 0 0] := Blk.new w 27 [.slice none 0 0, .slice none 0 0]
theorem bel0 (w : World) : Below w.heap.size w (w.alloc (.cells #[.slice none 0 0, .slice none 0 0] 27)) := (Below.refl _ _).alloc (Nat.le_refl _) _
theorem blk_cells2 {w : World} {g : Nat} {u v : Value} (h : Blk w g 27 [u, v]) : w.cell? ⟨g, 0, none⟩ = some u ∧ w.cell? ⟨g, 1, none⟩ = some v ∧ w.frozen? ⟨g, 0, none⟩ = false ∧ w.frozen? ⟨g, 1, none⟩ = false := ⟨h.cell 0, h.cell 1, h.frozen 0, h.frozen 1⟩
theorem sl_form {w : World} {v : Value} {l : List Nat} (h : Sl w v l) : ∃ A n c, v = .slice A n c := by
  obtain ⟨A, c, e, _⟩ := h; exact ⟨A, _, c, e⟩
theorem below_step {w W W' : World} (h : Below w.heap.size w W) (k : Below W.heap.size W W') : Below w.heap.size w W' := h.trans (k.mono h.size)
/-- A store of a slice into a ratio's block leaves each list of limbs as it is. -/
theorem sl_off {w : World} {g i : Nat} {v x : Value} {l : List Nat} {a a' : Option Addr} {b c b' c' : Nat} (h : Sl w v l) (hb : Blk w g 27 [.slice a b c, .slice a' b' c']) : Sl (w.setCell ⟨g, i, none⟩ x) v l := by
  obtain ⟨A, k, e, hc, hn, hr⟩ := h
  refine ⟨A, k, e, hc, hn, fun hne => ?_⟩
  obtain ⟨gg, o, e2, hlt, hcell⟩ := hr hne
  refine ⟨gg, o, e2, by simpa using hlt, fun j u hu => ?_⟩
  have hneq : gg ≠ g := by
    intro e3
    subst e3
    have h0 : 0 < l.length := by
      rcases Nat.eq_zero_or_pos l.length with h0 | h0
      · rw [List.length_eq_zero_iff.1 h0] at hne; exact absurd rfl hne
      · exact h0
    have h1 := hcell 0 _ (Lc_get l 0 h0)
    rw [hb.cell] at h1
    rcases (show o + 0 = 0 ∨ o + 0 = 1 ∨ 2 ≤ o + 0 by omega) with h2 | h2 | h2
    · rw [h2] at h1; cases h1
    · rw [h2] at h1; cases h1
    · rw [List.getElem?_eq_none (by simpa using h2)] at h1; cases h1
  have h4 := hcell j u hu
  have h5 : (w.setCell ⟨g, i, none⟩ x).cell? ⟨gg, o + j, none⟩ = w.cell? ⟨gg, o + j, none⟩ := by
    have hb2 : (w.setCell ⟨g, i, none⟩ x).heap[gg]? = w.heap[gg]? := Below.heap_setCell w ⟨g, i, none⟩ x gg hneq
    simp only [World.cell?, hb2]
  rw [h5]; exact h4
theorem sl_res {w : World} {g : Nat} {v : Value} {l : List Nat} {a a' : Option Addr} {b c b' c' : Nat} (h : Sl w v l) (hb : Blk w g 27 [.slice a b c, .slice a' b' c']) (p : Option Addr) (q r : Nat) (p' : Option Addr) (q' r' : Nat) :
    Sl ((w.setCell ⟨g, 0, none⟩ (.slice p q r)).setCell ⟨g, 1, none⟩ (.slice p' q' r')) v l :=
  sl_off (sl_off h hb) (hb.put 0 (.slice p q r))
set_option maxHeartbeats 1000000 in
theorem lowest_sl {v1 v2 : Value} {x y : Nat} {w : World} (h1 : Sl w v1 (lim x)) (h2 : Sl w v2 (lim y)) (h0 : 0 < y) (hl : (lim x).length ≤ 100000) (hl2 : (lim y).length ≤ 100000) : Calls Tryz.prog 55 #[v1, v2] w (RtP w (lowR x y)) := by
  have HC := Lib.hid (fun W (h : Below w.heap.size w W) => common_sl (h1.below h) (h2.below h) (Or.inr h0) hl hl2)
  obtain ⟨G, hG⟩ : ∃ g, g = Nat.gcd x y := ⟨_, rfl⟩
  have hG0 : 0 < G := by rw [hG]; exact Nat.gcd_pos_of_pos_right x h0
  have hGy : G ≤ y := by rw [hG]; exact Nat.le_of_dvd h0 (Nat.gcd_dvd_right x y)
  have hyG : 0 < y / G := Nat.div_pos hGy hG0
  have hGl := lim_short hGy hl2
  have hxl := lim_short (Nat.div_le_self x G) hl
  have hyl := lim_short (Nat.div_le_self y G) hl2
  rw [← hG] at HC
  have hlow : lowR x y = madeR (x / G) (y / G) := by unfold lowR; rw [hG]
  rw [hlow]
  have S1 := Lib.hid h1; have S2 := Lib.hid h2
  have HX := Lib.hid (And.intro hl hl2)
  clear h1 h2 hlow hG hl hl2
  have HR0 := Lib.hid (res0 w); have HB0 := Lib.hid (bel0 w)
  go_enter Tryz.func55, Tryz.ntmps55
  go_wp2_with fail
  refine (HC.out _ HB0.out).mono ?_
  rintro e w1 ⟨vg, rfl, hsg, hb1⟩
  have hb1' := below_step HB0.out hb1
  have hr1 := HR0.out.below hb1 HR0.out.lt
  have HSg := Lib.hid hsg
  have HI := Lib.hid (isOne_sl hsg hGl)
  have HB1 := Lib.hid hb1'; have HR1 := Lib.hid hr1
  clear hsg hb1 hb1' hr1 HC HB0 HR0
  by_cases g1 : G = 1
  · subst g1
    rw [show decide (1 = 1) = true from rfl] at HI
    rw [Nat.div_one, Nat.div_one] at *
    have HM := Lib.hid (made_sl (S1.out.below HB1.out) (S2.out.below HB1.out) h0 HX.out.1 HX.out.2)
    go_wp2_with (go_at_call 102; (with_reducible refine (HI.out).mono ?_); rintro e w' ⟨rfl, rfl⟩)
    refine (HM.out).mono ?_
    rintro e w2 ⟨v, rfl, ⟨u1, u2, rfl, s1, s2⟩, hb2⟩
    have HRk := HR1.out.below hb2 HR1.out.lt
    obtain ⟨c1, c2, f1, f2⟩ := blk_cells2 HRk
    have HBk := below_step HB1.out hb2
    have T1 := Lib.hid s1; have T2 := Lib.hid s2; have HRK := Lib.hid HRk; have HBK := Lib.hid HBk
    obtain ⟨A1, n1, k1, e1⟩ := sl_form s1
    obtain ⟨A2, n2, k2, e2⟩ := sl_form s2
    clear hb2 s1 s2 HRk HBk
    subst e1 e2
    go_wp2
    have hbk := (((HRK.out).put 0 (.slice A1 n1 k1)).put 1 (.slice A2 n2 k2))
    have hbl := (((HBK.out).setCell (p := ⟨w.heap.size, 0, none⟩) (Nat.le_refl _) (.slice A1 n1 k1)).setCell (p := ⟨w.heap.size, 1, none⟩) (Nat.le_refl _) (.slice A2 n2 k2))
    refine bodyPost_ret (v := .tuple #[.agg #[(.slice A1 n1 k1), (.slice A2 n2 k2)], .int .i64 (((madeR x y).2 : Nat) : Int)]) ?_ rfl ⟨.agg #[(.slice A1 n1 k1), (.slice A2 n2 k2)], rfl, ⟨_, _, rfl, sl_res T1.out HRK.out _ _ _ _ _ _, sl_res T2.out HRK.out _ _ _ _ _ _⟩, hbl⟩
    have hr := run_loadVar_at (P := Tryz.prog) _ ⟨w.heap.size, 0, none⟩ 27 [(.slice A1 n1 k1), (.slice A2 n2 k2)] _ hbk.at Tryz.underlying27 rfl size28
    simp [results, Tryz.results55, asAddr, hr]
  · rw [show decide (G = 1) = false by simp [g1]] at HI
    have HD1 := Lib.hid (divided_sl (S1.out.below HB1.out) HSg.out hG0 HX.out.1 hGl)
    go_wp2_with (go_at_call 102; (with_reducible refine (HI.out).mono ?_); rintro e w' ⟨rfl, rfl⟩)
    refine (HD1.out).mono ?_
    rintro e w2 ⟨d1, r1, rfl, sd1, sr1, hb2⟩
    have HB2 := Lib.hid (below_step HB1.out hb2)
    have HR2 := Lib.hid (HR1.out.below hb2 HR1.out.lt)
    have HSg2 := Lib.hid (HSg.out.below hb2)
    have D1 := Lib.hid sd1
    clear hb2 sd1 sr1 HD1
    have HD2 := Lib.hid (divided_sl (S2.out.below HB2.out) HSg2.out hG0 HX.out.2 hGl)
    go_wp2_with fail
    refine (HD2.out).mono ?_
    rintro e w3 ⟨d2, r2, rfl, sd2, sr2, hb3⟩
    have HB3 := Lib.hid (below_step HB2.out hb3)
    have HR3 := Lib.hid (HR2.out.below hb3 HR2.out.lt)
    have D1' := Lib.hid (D1.out.below hb3)
    have D2 := Lib.hid sd2
    clear hb3 sd2 sr2 HD2
    have HM := Lib.hid (made_sl D1'.out D2.out hyG hxl hyl)
    go_wp2_with fail
    refine (HM.out).mono ?_
    rintro e w4 ⟨v, rfl, ⟨u1, u2, rfl, s1, s2⟩, hb2⟩
    have HRk := HR3.out.below hb2 HR3.out.lt
    obtain ⟨c1, c2, f1, f2⟩ := blk_cells2 HRk
    have HBk := below_step HB3.out hb2
    have T1 := Lib.hid s1; have T2 := Lib.hid s2; have HRK := Lib.hid HRk; have HBK := Lib.hid HBk
    obtain ⟨A1, n1, k1, e1⟩ := sl_form s1
    obtain ⟨A2, n2, k2, e2⟩ := sl_form s2
    clear hb2 s1 s2 HRk HBk
    subst e1 e2
    go_wp2
    have hbk := (((HRK.out).put 0 (.slice A1 n1 k1)).put 1 (.slice A2 n2 k2))
    have hbl := (((HBK.out).setCell (p := ⟨w.heap.size, 0, none⟩) (Nat.le_refl _) (.slice A1 n1 k1)).setCell (p := ⟨w.heap.size, 1, none⟩) (Nat.le_refl _) (.slice A2 n2 k2))
    refine bodyPost_ret (v := .tuple #[.agg #[(.slice A1 n1 k1), (.slice A2 n2 k2)], .int .i64 (((madeR (x / G) (y / G)).2 : Nat) : Int)]) ?_ rfl ⟨.agg #[(.slice A1 n1 k1), (.slice A2 n2 k2)], rfl, ⟨_, _, rfl, sl_res T1.out HRK.out _ _ _ _ _ _, sl_res T2.out HRK.out _ _ _ _ _ _⟩, hbl⟩
    have hr := run_loadVar_at (P := Tryz.prog) _ ⟨w.heap.size, 0, none⟩ 27 [(.slice A1 n1 k1), (.slice A2 n2 k2)] _ hbk.at Tryz.underlying27 rfl size28
    simp [results, Tryz.results55, asAddr, hr]
end Go.Proofs.YtbfhilbagojdnaaGreat
namespace Go.Proofs.YtbfhilbagojdnaaGreat
open Go.RowKit Wr Go.Proofs.YtbfhilbagojdnaaGreat.Nm
set_option linter.unusedVariables false
set_option maxRecDepth 100000

theorem isProper_sl {v : Value} {l : List Nat} {w : World} (h1 : Sl w v l) (hl : l.length ≤ 100000) (b : Bool) (hb : decide (dropz l = l) = b) : Calls Tryz.prog 107 #[v] w fun e w' => e = .returned (.bool b) ∧ w = w' := by
  obtain ⟨A, c, rfl, hc, hn, hr⟩ := h1
  rw [← hb]
  exact isProper_any A c l w.heap.size w hr (by omega)
theorem isOne_list {v : Value} {l : List Nat} {w : World} (h1 : Sl w v l) (hl : l.length ≤ 100000) (b : Bool) (hb : decide (l = [1]) = b) : Calls Tryz.prog 102 #[v] w fun e w' => e = .returned (.bool b) ∧ w = w' := by
  obtain ⟨A, c, rfl, hc, hn, hr⟩ := h1
  rw [← hb]
  exact isOne_any A c l w.heap.size w hr (by omega)
theorem box0 (w : World) (u v : Value) : Blk (w.alloc (.cells #[u, v] 27)) w.heap.size 27 [u, v] := Blk.new w 27 [u, v]
theorem boxb (w : World) (u v : Value) : Below w.heap.size w (w.alloc (.cells #[u, v] 27)) := (Below.refl _ _).alloc (Nat.le_refl _) _
def VlP (w : World) (r : Rt) (e : Ending) (w' : World) : Prop := e = .returned (.int .i64 ((vld r : Nat) : Int)) ∧ Below w.heap.size w w'
set_option maxHeartbeats 1000000 in
theorem valid_sl {v1 v2 : Value} {n d : List Nat} {w : World} (h1 : Sl w v1 n) (h2 : Sl w v2 d) (hon : Ok n) (hod : Ok d) (hl : n.length ≤ 100000) (hl2 : d.length ≤ 100000) : Calls Tryz.prog 62 #[.agg #[v1, v2]] w (VlP w (n, d)) := by
  obtain ⟨b, hb⟩ : ∃ b, b = decide (max n.length d.length ≤ 64) := ⟨_, rfl⟩
  have S1 := Lib.hid h1; have S2 := Lib.hid h2
  obtain ⟨A, c, e1, hc, hn, hr⟩ := h1
  obtain ⟨A2, c2, e2, hc2, hn2, hr2⟩ := h2
  subst e1 e2
  have HF := Lib.hid (fun W => fits_any A A2 n.length d.length c c2 b W (by omega) (by omega) hb)
  have HV := Lib.hid (show (if b = true then (if dropz n ≠ n ∨ dropz d ≠ d then 1 else if d ≠ [] ∧ (d = [1] ∨ n = [] ∨ Nat.gcd (num n) (num d) ≠ 1) then 1 else 0) else 4) = vld (n, d) by
    unfold vld
    cases b with
    | true =>
      have h := of_decide_eq_true hb.symm
      have hneg : ¬ (64 < (n, d).1.length ∨ 64 < (n, d).2.length) := by show ¬ (64 < n.length ∨ 64 < d.length); omega
      rw [if_pos rfl, if_neg hneg]
    | false =>
      have h := of_decide_eq_false hb.symm
      have hpos : 64 < (n, d).1.length ∨ 64 < (n, d).2.length := by show 64 < n.length ∨ 64 < d.length; omega
      rw [if_neg (by simp), if_pos hpos])
  have HL := Lib.hid (And.intro hl hl2)
  obtain ⟨ln, hln⟩ : ∃ z, z = n.length := ⟨_, rfl⟩
  obtain ⟨ld, hld⟩ : ∃ z, z = d.length := ⟨_, rfl⟩
  rw [← hln] at S1 HF
  rw [← hld] at S2 HF
  rw [← hln, ← hld]
  have HLN := Lib.hid (And.intro hln hld)
  have hlnI : ln ≤ 100000 := by omega
  have hldI : ld ≤ 100000 := by omega
  have HX0 := Lib.hid (box0 w (.slice A ln c) (.slice A2 ld c2)); have HB0 := Lib.hid (boxb w (.slice A ln c) (.slice A2 ld c2))
  clear hb hc hn hr hc2 hn2 hr2 hln hld hl hl2
  go_enter Tryz.func62, Tryz.ntmps62
  go_wp2_with fail
  refine (HF.out _).mono ?_
  rintro e w1 ⟨rfl, hb1⟩
  have hx1 := HX0.out.below hb1 HX0.out.lt
  have hbl1 := below_step HB0.out hb1
  obtain ⟨c1, c2', f1, f2⟩ := blk_cells2 hx1
  have HX1 := Lib.hid hx1; have HB1 := Lib.hid hbl1
  have T1 := Lib.hid (S1.out.below hbl1); have T2 := Lib.hid (S2.out.below hbl1)
  clear hx1 hbl1 hb1 HF HX0 HB0
  cases b with
  | false =>
    have HE := Lib.hid (show vld (n, d) = 4 from HV.out.symm)
    clear HV
    go_wp2_with fail
    go_ret
    exact ⟨by rw [HE.out]; rfl, HB1.out⟩
  | true =>
    by_cases p1 : dropz n = n
    · have HP1 := Lib.hid (isProper_sl T1.out HL.out.1 true (by simp [p1]))
      by_cases p2 : dropz d = d
      · have HP2 := Lib.hid (isProper_sl T2.out HL.out.2 true (by simp [p2]))
        have hv2 : (if d ≠ [] ∧ (d = [1] ∨ n = [] ∨ Nat.gcd (num n) (num d) ≠ 1) then 1 else 0) = vld (n, d) := by
          have := HV.out; rw [if_pos rfl, if_neg (by simp [p1, p2])] at this; exact this
        have HV2 := Lib.hid hv2
        clear hv2 HV
        by_cases hd0 : d = []
        · have HE := Lib.hid (show vld (n, d) = 0 by rw [← HV2.out, if_neg (by simp [hd0])])
          have hld0 : ld = 0 := by rw [HLN.out.2, hd0]; rfl
          subst hld0
          clear HV2 p1 p2 hd0
          go_wp2_with (go_at_call 107; first | ((with_reducible refine (HP1.out).mono ?_); rintro e w' ⟨rfl, rfl⟩) | ((with_reducible refine (HP2.out).mono ?_); rintro e w' ⟨rfl, rfl⟩))
          go_ret
          exact ⟨by rw [HE.out]; rfl, HB1.out⟩
        · have hldp : 0 < ld := by rw [HLN.out.2]; rcases Nat.eq_zero_or_pos d.length with h | h; exact absurd (List.length_eq_zero_iff.1 h) hd0; exact h
          have hldI2 : (0 : Int) < (ld : Int) := by omega
          by_cases hd1 : d = [1]
          · have HE := Lib.hid (show vld (n, d) = 1 by rw [← HV2.out, if_pos ⟨hd0, Or.inl hd1⟩])
            have HO := Lib.hid (isOne_list T2.out HL.out.2 true (by simp [hd1]))
            clear HV2 p1 p2 hd0 hd1
            go_wp2_with (first | (go_at_call 107; first | ((with_reducible refine (HP1.out).mono ?_); rintro e w' ⟨rfl, rfl⟩) | ((with_reducible refine (HP2.out).mono ?_); rintro e w' ⟨rfl, rfl⟩)) | (go_at_call 102; (with_reducible refine (HO.out).mono ?_); rintro e w' ⟨rfl, rfl⟩))
            go_ret
            exact ⟨by rw [HE.out]; rfl, HB1.out⟩
          · have HO := Lib.hid (isOne_list T2.out HL.out.2 false (by simp [hd1]))
            by_cases hn0 : n = []
            · have HE := Lib.hid (show vld (n, d) = 1 by rw [← HV2.out, if_pos ⟨hd0, Or.inr (Or.inl hn0)⟩])
              have hln0 : ln = 0 := by rw [HLN.out.1, hn0]; rfl
              subst hln0
              clear HV2 p1 p2 hd0 hd1 hn0
              go_wp2_with (first | (go_at_call 107; first | ((with_reducible refine (HP1.out).mono ?_); rintro e w' ⟨rfl, rfl⟩) | ((with_reducible refine (HP2.out).mono ?_); rintro e w' ⟨rfl, rfl⟩)) | (go_at_call 102; (with_reducible refine (HO.out).mono ?_); rintro e w' ⟨rfl, rfl⟩))
              go_ret
              exact ⟨by rw [HE.out]; rfl, HB1.out⟩
            · have hlnp : ((ln : Int) == 0) = false := by
                rw [beq_eq_false_iff_ne, HLN.out.1]
                intro h; exact hn0 (List.length_eq_zero_iff.1 (by omega))
              have en := Prp.eq p1 hon
              have ed := Prp.eq p2 hod
              have hdp : 0 < num d := by
                rcases Nat.eq_zero_or_pos (num d) with h | h
                · rw [h, lim_zero] at ed; exact absurd ed hd0
                · exact h
              have T1' : Sl w1 (.slice A ln c) (lim (num n)) := by rw [← en]; exact T1.out
              have T2' : Sl w1 (.slice A2 ld c2) (lim (num d)) := by rw [← ed]; exact T2.out
              have HC := Lib.hid (common_sl T1' T2' (Or.inr hdp) (by rw [← en]; exact HL.out.1) (by rw [← ed]; exact HL.out.2))
              have hGl : (lim (Nat.gcd (num n) (num d))).length ≤ 100000 := lim_short (Nat.le_of_dvd hdp (Nat.gcd_dvd_right _ _)) (by rw [← ed]; exact HL.out.2)
              obtain ⟨G, hG⟩ : ∃ g, g = Nat.gcd (num n) (num d) := ⟨_, rfl⟩
              have hv3 : (if G ≠ 1 then 1 else 0) = vld (n, d) := by
                rw [← HV2.out, hG]
                by_cases hg : Nat.gcd (num n) (num d) ≠ 1
                · rw [if_pos hg, if_pos ⟨hd0, Or.inr (Or.inr hg)⟩]
                · rw [if_neg hg, if_neg (by rintro ⟨_, h | h | h⟩; exact hd1 h; exact hn0 h; exact hg h)]
              rw [← hG] at HC hGl
              have HV3 := Lib.hid hv3
              clear HV2 p1 p2 hd0 hd1 hn0 en ed T1' T2' hG hv3 hdp
              go_wp2_with (first | (go_at_call 107; first | ((with_reducible refine (HP1.out).mono ?_); rintro e w' ⟨rfl, rfl⟩) | ((with_reducible refine (HP2.out).mono ?_); rintro e w' ⟨rfl, rfl⟩)) | (go_at_call 102; (with_reducible refine (HO.out).mono ?_); rintro e w' ⟨rfl, rfl⟩))
              refine (HC.out).mono ?_
              rintro e w2 ⟨vg, rfl, hsg, hb2⟩
              have HB2 := Lib.hid (below_step HB1.out hb2)
              by_cases hg1 : G = 1
              · have HE := Lib.hid (show vld (n, d) = 0 by rw [← HV3.out, if_neg (by simp [hg1])])
                have HOg := Lib.hid (isOne_list hsg hGl true (by rw [hg1]; simp [lim_one]))
                clear hsg hb2 HV3 hg1
                go_wp2_with (go_at_call 102; (with_reducible refine (HOg.out).mono ?_); rintro e w' ⟨rfl, rfl⟩)
                go_ret
                exact ⟨by rw [HE.out]; rfl, HB2.out⟩
              · have HE := Lib.hid (show vld (n, d) = 1 by rw [← HV3.out, if_pos hg1])
                have HOg := Lib.hid (isOne_list hsg hGl false (by simp [lim_eq_one, hg1]))
                clear hsg hb2 HV3 hg1
                go_wp2_with (go_at_call 102; (with_reducible refine (HOg.out).mono ?_); rintro e w' ⟨rfl, rfl⟩)
                go_ret
                exact ⟨by rw [HE.out]; rfl, HB2.out⟩
      · have HP2 := Lib.hid (isProper_sl T2.out HL.out.2 false (by simp [p2]))
        have HE := Lib.hid (show vld (n, d) = 1 by rw [← HV.out, if_pos rfl, if_pos (Or.inr p2)])
        clear HV p1 p2
        go_wp2_with (go_at_call 107; first | ((with_reducible refine (HP1.out).mono ?_); rintro e w' ⟨rfl, rfl⟩) | ((with_reducible refine (HP2.out).mono ?_); rintro e w' ⟨rfl, rfl⟩))
        go_ret
        exact ⟨by rw [HE.out]; rfl, HB1.out⟩
    · have HP1 := Lib.hid (isProper_sl T1.out HL.out.1 false (by simp [p1]))
      have HE := Lib.hid (show vld (n, d) = 1 by rw [← HV.out, if_pos rfl, if_pos (Or.inl p1)])
      clear HV p1
      go_wp2_with (go_at_call 107; (with_reducible refine (HP1.out).mono ?_); rintro e w' ⟨rfl, rfl⟩)
      go_ret
      exact ⟨by rw [HE.out]; rfl, HB1.out⟩
end Go.Proofs.YtbfhilbagojdnaaGreat
namespace Go.Proofs.YtbfhilbagojdnaaGreat
open Go.RowKit Wr Go.Proofs.YtbfhilbagojdnaaGreat.Nm
set_option linter.unusedVariables false
set_option maxRecDepth 100000

theorem bsR (A1 A2 A3 A4 : Option Addr) (n1 n2 n3 n4 c1 c2 c3 c4 : Nat) (W : World) : (Instr.buildSlice 23 2 #[(0, .agg #[.slice A1 n1 c1, .slice A2 n2 c2]), (1, .agg #[.slice A3 n3 c3, .slice A4 n4 c4])]).run Tryz.prog W = .ok (.slice (some ⟨W.heap.size, 0, none⟩) 2 2) (W.alloc (.cells #[.slice A1 n1 c1, .slice A2 n2 c2, .slice A3 n3 c3, .slice A4 n4 c4] 27)) := by kernel_rfl
/-- A ratio's value, its lists limbs and not too long. -/
structure Rk (w : World) (v1 v2 : Value) (r : Rt) : Prop where
  s1 : Sl w v1 r.1
  s2 : Sl w v2 r.2
  ok : OkR r
  l1 : r.1.length ≤ 1000
  l2 : r.2.length ≤ 1000
theorem Rk.below {w w' : World} {v1 v2 : Value} {r : Rt} (h : Rk w v1 v2 r) (hb : Below w.heap.size w w') : Rk w' v1 v2 r := ⟨h.s1.below hb, h.s2.below hb, h.ok, h.l1, h.l2⟩
theorem Rk.valid {w : World} {v1 v2 : Value} {r : Rt} (h : Rk w v1 v2 r) : Calls Tryz.prog 62 #[.agg #[v1, v2]] w (VlP w r) := by
  have h1 := h.l1; have h2 := h.l2
  exact valid_sl h.s1 h.s2 h.ok.1 h.ok.2 (by omega) (by omega)
def AvP (w : World) (r s : Rt) (e : Ending) (w' : World) : Prop := e = .returned (.int .i64 ((bothE r s : Nat) : Int)) ∧ Below w.heap.size w w'
set_option maxHeartbeats 1000000 in
theorem allValid_any (g : Nat) (A1 A2 A3 A4 : Option Addr) (n1 n2 n3 n4 k1 k2 k3 k4 : Nat) (r s : Rt) (w : World) (hb : Blk w g 27 [.slice A1 n1 k1, .slice A2 n2 k2, .slice A3 n3 k3, .slice A4 n4 k4])
    (hr : Rk w (.slice A1 n1 k1) (.slice A2 n2 k2) r) (hs : Rk w (.slice A3 n3 k3) (.slice A4 n4 k4) s) : Calls Tryz.prog 44 #[.slice (some ⟨g, 0, none⟩) 2 2] w (AvP w r s) := by
  have HBK := Lib.hid hb; have HR := Lib.hid hr; have HS := Lib.hid hs
  clear hb hr hs
  go_enter Tryz.func44, Tryz.ntmps44
  go_wp2
  go_loopw [8] (fun s8 wr => ∃ k : Nat, k ≤ 2 ∧ s8 = .int .i64 k ∧ (1 ≤ k → vld r = 0) ∧ (2 ≤ k → vld s = 0) ∧ Below w.heap.size w wr) (fun s8 _ => 2 - (intOf s8).toNat)
  case atStart => exact ⟨0, by omega, rfl, by omega, by omega, Below.refl _ _⟩
  case round =>
    obtain ⟨k, hk, rfl, hv1, hv2, hbel⟩ := hrel
    have hbk := HBK.out.below hbel HBK.out.lt
    have c0 : wr.cell? ⟨g, 0, none⟩ = some (.slice A1 n1 k1) := hbk.cell 0
    have c1 : wr.cell? ⟨g, 1, none⟩ = some (.slice A2 n2 k2) := hbk.cell 1
    have c2 : wr.cell? ⟨g, 2, none⟩ = some (.slice A3 n3 k3) := hbk.cell 2
    have c3 : wr.cell? ⟨g, 3, none⟩ = some (.slice A4 n4 k4) := hbk.cell 3
    have HB := Lib.hid hbel
    rcases (show k = 0 ∨ k = 1 ∨ k = 2 by omega) with rfl | rfl | rfl
    · have HV := Lib.hid (fun W (h : Below wr.heap.size wr W) => ((HR.out.below hbel).below h).valid)
      have hbx := boxb wr (.slice A1 n1 k1) (.slice A2 n2 k2)
      have HBX := Lib.hid hbx
      clear hv1 hv2 hbel hbk hbx
      go_wp2_with fail
      refine (HV.out _ HBX.out).mono ?_
      rintro e w1 ⟨rfl, hb1⟩
      have HB1 := Lib.hid (below_step HB.out (below_step HBX.out hb1))
      clear hb1
      by_cases hz : vld r = 0
      · rw [hz]
        have HZ := Lib.hid hz
        clear hz
        go_wp2_with fail
        go_roundw
        case rel => exact ⟨1, by omega, rfl, fun _ => HZ.out, by omega, HB1.out⟩
        case measure => simp only [intOf]; omega
      · have hne : (((vld r : Nat) : Int) != 0) = true := by rw [bne_iff_ne]; omega
        have HE := Lib.hid (show bothE r s = vld r by unfold bothE; rw [if_pos hz])
        clear hz
        go_wp2_with fail
        go_ret
        exact ⟨by rw [HE.out]; rfl, HB1.out⟩
    · have HV := Lib.hid (fun W (h : Below wr.heap.size wr W) => ((HS.out.below hbel).below h).valid)
      have hbx := boxb wr (.slice A3 n3 k3) (.slice A4 n4 k4)
      have HBX := Lib.hid hbx
      have HV1 := Lib.hid (hv1 (by omega))
      clear hv1 hv2 hbel hbk hbx
      go_wp2_with fail
      refine (HV.out _ HBX.out).mono ?_
      rintro e w1 ⟨rfl, hb1⟩
      have HB1 := Lib.hid (below_step HB.out (below_step HBX.out hb1))
      clear hb1
      by_cases hz : vld s = 0
      · rw [hz]
        have HZ := Lib.hid hz
        clear hz
        go_wp2_with fail
        go_roundw
        case rel => exact ⟨2, by omega, rfl, fun _ => HV1.out, fun _ => HZ.out, HB1.out⟩
        case measure => simp only [intOf]; omega
      · have hne : (((vld s : Nat) : Int) != 0) = true := by rw [bne_iff_ne]; omega
        have HE := Lib.hid (show bothE r s = vld s by unfold bothE; rw [if_neg (by simp [HV1.out])])
        clear hz
        go_wp2_with fail
        go_ret
        exact ⟨by rw [HE.out]; rfl, HB1.out⟩
    · have HE := Lib.hid (show bothE r s = 0 by unfold bothE; rw [if_neg (by simp [hv1 (by omega)])]; exact hv2 (by omega))
      clear hv1 hv2 hbel hbk
      go_wp2_with fail
      go_ret
      exact ⟨by rw [HE.out]; rfl, HB.out⟩

theorem times_sl {v1 v2 : Value} {x y : Nat} {w : World} (h1 : Sl w v1 (lim x)) (h2 : Sl w v2 (lim y)) (hl : (lim x).length ≤ 50000) (hl2 : (lim y).length ≤ 50000) : Calls Tryz.prog 46 #[v1, v2] w (SlP w (x * y)) := by
  obtain ⟨A, c, rfl, hc, hn, hr⟩ := h1
  obtain ⟨A2, c2, rfl, hc2, hn2, hr2⟩ := h2
  have := times_any A A2 (lim x) (lim y) c c2 w (lim_ok x) (lim_ok y) hr hr2 (by omega) (by omega)
  rwa [num_lim, num_lim] at this
theorem plus_sl {v1 v2 : Value} {x y : Nat} {w : World} (h1 : Sl w v1 (lim x)) (h2 : Sl w v2 (lim y)) (hl : (lim x).length ≤ 50000) (hl2 : (lim y).length ≤ 50000) : Calls Tryz.prog 72 #[v1, v2] w (SlP w (x + y)) := by
  obtain ⟨A, c, rfl, hc, hn, hr⟩ := h1
  obtain ⟨A2, c2, rfl, hc2, hn2, hr2⟩ := h2
  have := plus_any A A2 (lim x) (lim y) c c2 w (lim_ok x) (lim_ok y) hr hr2 (by omega) (by omega)
  rwa [num_lim, num_lim] at this
theorem minus_sl {v1 v2 : Value} {x y : Nat} {w : World} (h1 : Sl w v1 (lim x)) (h2 : Sl w v2 (lim y)) (h : y ≤ x) (hl : (lim x).length ≤ 50000) (hl2 : (lim y).length ≤ 50000) : Calls Tryz.prog 56 #[v1, v2] w (SlP w (x - y)) := by
  obtain ⟨A, c, rfl, hc, hn, hr⟩ := h1
  obtain ⟨A2, c2, rfl, hc2, hn2, hr2⟩ := h2
  have := minus_any A A2 (lim x) (lim y) c c2 w (lim_ok x) (lim_ok y) hr hr2 (by omega) (by omega) (by rw [num_lim, num_lim]; exact h)
  rwa [num_lim, num_lim] at this
theorem compare_sl {v1 v2 : Value} {x y : Nat} {w : World} (h1 : Sl w v1 (lim x)) (h2 : Sl w v2 (lim y)) (hl : (lim x).length ≤ 50000) (hl2 : (lim y).length ≤ 50000) : Calls Tryz.prog 45 #[v1, v2] w fun e w' => e = .returned (.int .i64 (ord x y)) ∧ Below w.heap.size w w' := by
  obtain ⟨A, c, rfl, hc, hn, hr⟩ := h1
  obtain ⟨A2, c2, rfl, hc2, hn2, hr2⟩ := h2
  have := compare_any A A2 (lim x) (lim y) c c2 w.heap.size w (lim_ok x) (lim_ok y) (dropz_lim x) (dropz_lim y) hr hr2 (by omega) (by omega)
  rw [num_lim, num_lim] at this
  refine this.mono ?_
  rintro e w' ⟨rfl, q, rfl⟩
  exact ⟨rfl, below_drewN (Below.refl _ _) q⟩
/-- The denominator of a valid ratio. -/
theorem denOf_sl {v1 v2 : Value} {x y : Nat} {w : World} (h1 : Sl w v1 (lim x)) (h2 : Sl w v2 (dl y)) (h0 : 0 < y) (hl2 : (dl y).length ≤ 50000) : Calls Tryz.prog 47 #[.agg #[v1, v2]] w (SlP w y) := by
  obtain ⟨A, c, rfl, hc, hn, hr⟩ := h1
  obtain ⟨A2, c2, rfl, hc2, hn2, hr2⟩ := h2
  refine (denOf_any A A2 (lim x).length c c2 (dl y) w (by omega) hc2 hn2 hr2).mono ?_
  rintro e w' ⟨v, rfl, hs, hb⟩
  have e : denL (dl y) = lim y := by
    unfold denL dl
    by_cases h : y = 1
    · rw [if_pos h, if_pos rfl, h, lim_one]
    · rw [if_neg h, if_neg (by intro e; have := lim_nil.1 e; omega)]
  rw [e] at hs
  exact ⟨v, rfl, hs, hb⟩
/-- The lengths of a valid ratio's numbers. -/
theorem Vr.len {x y : Nat} (h : Vr x y) : (lim x).length ≤ 64 ∧ (lim y).length ≤ 64 ∧ (dl y).length ≤ 64 := ⟨lim_len.2 h.hx, lim_len.2 h.hy, (dl_len y h.pos).2 h.hy⟩
theorem lim_mul {x y a b : Nat} (h1 : (lim x).length ≤ a) (h2 : (lim y).length ≤ b) : (lim (x * y)).length ≤ a + b := by
  rw [lim_len, Nat.pow_add]
  exact Nat.mul_lt_mul'' (lim_len.1 h1) (lim_len.1 h2)
theorem lim_add {x y a : Nat} (h1 : (lim x).length ≤ a) (h2 : (lim y).length ≤ a) : (lim (x + y)).length ≤ a + 1 := by
  rw [lim_len, Nat.pow_succ]
  have := lim_len.1 h1; have := lim_len.1 h2
  omega
end Go.Proofs.YtbfhilbagojdnaaGreat
namespace Go.Proofs.YtbfhilbagojdnaaGreat
open Go.RowKit Wr Go.Proofs.YtbfhilbagojdnaaGreat.Nm
set_option linter.unusedVariables false
set_option maxRecDepth 100000

theorem boxes2 (w : World) (a1 a2 b1 b2 : Value) : Blk ((w.alloc (.cells #[a1, a2] 27)).alloc (.cells #[b1, b2] 27)) w.heap.size 27 [a1, a2] ∧ Blk ((w.alloc (.cells #[a1, a2] 27)).alloc (.cells #[b1, b2] 27)) (w.heap.size + 1) 27 [b1, b2] ∧ Below w.heap.size w ((w.alloc (.cells #[a1, a2] 27)).alloc (.cells #[b1, b2] 27)) :=
  ⟨(Blk.new w 27 [a1, a2]).alloc _, Blk.newAt (w.alloc (.cells #[a1, a2] 27)) _ 27 [b1, b2] (by simp), ((Below.refl _ _).alloc (Nat.le_refl _) _).alloc (by simp) _⟩
theorem boxes3 (w : World) (a1 a2 b1 b2 : Value) : (Blk (((w.alloc (.cells #[a1, a2] 27)).alloc (.cells #[b1, b2] 27)).alloc (.cells #[.slice none 0 0, .slice none 0 0] 27)) w.heap.size 27 [a1, a2] ∧ Blk (((w.alloc (.cells #[a1, a2] 27)).alloc (.cells #[b1, b2] 27)).alloc (.cells #[.slice none 0 0, .slice none 0 0] 27)) (w.heap.size + 1) 27 [b1, b2]) ∧
    Blk (((w.alloc (.cells #[a1, a2] 27)).alloc (.cells #[b1, b2] 27)).alloc (.cells #[.slice none 0 0, .slice none 0 0] 27)) (w.heap.size + 2) 27 [.slice none 0 0, .slice none 0 0] ∧ Below w.heap.size w (((w.alloc (.cells #[a1, a2] 27)).alloc (.cells #[b1, b2] 27)).alloc (.cells #[.slice none 0 0, .slice none 0 0] 27)) :=
  ⟨⟨(boxes2 w a1 a2 b1 b2).1.alloc _, (boxes2 w a1 a2 b1 b2).2.1.alloc _⟩, Blk.newAt ((w.alloc (.cells #[a1, a2] 27)).alloc (.cells #[b1, b2] 27)) _ 27 [.slice none 0 0, .slice none 0 0] (by simp), (boxes2 w a1 a2 b1 b2).2.2.alloc (boxes2 w a1 a2 b1 b2).2.2.size _⟩
theorem RtP.step {w W : World} {x : Rt × Nat} {e : Ending} {w' : World} (h : RtP W x e w') (hb : Below w.heap.size w W) : RtP w x e w' := by
  obtain ⟨v, e1, h1, h2⟩ := h
  exact ⟨v, e1, h1, below_step hb h2⟩
set_option maxHeartbeats 4000000 in
theorem added_sl
    {a1 a2 b1 b2 : Value} {x y x2 y2 : Nat} {w : World} (ha1 : Sl w a1 (lim x)) (ha2 : Sl w a2 (dl y)) (hb1 : Sl w b1 (lim x2)) (hb2 : Sl w b2 (dl y2)) (va : Vr x y) (vb : Vr x2 y2) :
    Calls Tryz.prog 50 #[.agg #[a1, a2], .agg #[b1, b2]] w (RtP w (lowR (x * y2 + x2 * y) (y * y2))) := by
  obtain ⟨la1, la2, la3⟩ := Vr.len va
  obtain ⟨lb1, lb2, lb3⟩ := Vr.len vb
  have HDA := Lib.hid (fun W (h : Below w.heap.size w W) => denOf_sl (ha1.below h) (ha2.below h) va.pos (by omega))
  have HDB := Lib.hid (fun W (h : Below w.heap.size w W) => denOf_sl (hb1.below h) (hb2.below h) vb.pos (by omega))
  have HTA := Lib.hid (fun W (h : Below w.heap.size w W) (v : Value) (hv : Sl W v (lim y2)) => times_sl (ha1.below h) hv (by omega) (by omega))
  have HTB := Lib.hid (fun W (h : Below w.heap.size w W) (v : Value) (hv : Sl W v (lim y)) => times_sl (hb1.below h) hv (by omega) (by omega))
  have HTD := Lib.hid (fun W (h : Below w.heap.size w W) (v1 : Value) (hv1 : Sl W v1 (lim y)) (v2 : Value) (hv2 : Sl W v2 (lim y2)) => times_sl hv1 hv2 (by omega) (by omega))
  have mA : (lim (x * y2)).length ≤ 128 := lim_mul la1 lb2
  have mB : (lim (x2 * y)).length ≤ 128 := lim_mul lb1 la2
  have mD : (lim (y * y2)).length ≤ 128 := lim_mul la2 lb2
  have hp : 0 < y * y2 := Nat.mul_pos va.pos vb.pos
  obtain ⟨A1, n1, k1, e1⟩ := sl_form ha1
  obtain ⟨A2, n2, k2, e2⟩ := sl_form ha2
  obtain ⟨A3, n3, k3, e3⟩ := sl_form hb1
  obtain ⟨A4, n4, k4, e4⟩ := sl_form hb2
  subst e1 e2 e3 e4
  have HPL := Lib.hid (fun W (h : Below w.heap.size w W) (v1 : Value) (hv1 : Sl W v1 (lim (x * y2))) (v2 : Value) (hv2 : Sl W v2 (lim (x2 * y))) => plus_sl hv1 hv2 (by omega) (by omega))
  have mP : (lim (x * y2 + x2 * y)).length ≤ 129 := lim_add mA mB
  have HLO := Lib.hid (fun W (h : Below w.heap.size w W) (v1 : Value) (hv1 : Sl W v1 (lim (x * y2 + x2 * y))) (v2 : Value) (hv2 : Sl W v2 (lim (y * y2))) => lowest_sl hv1 hv2 hp (by omega) (by omega))
  have bx := boxes3 w (.slice A1 n1 k1) (.slice A2 n2 k2) (.slice A3 n3 k3) (.slice A4 n4 k4)
  have HX0 := Lib.hid bx.1; have HR0 := Lib.hid bx.2.1; have HB0 := Lib.hid bx.2.2
  clear bx ha1 ha2 hb1 hb2 va vb la1 la2 la3 lb1 lb2 lb3 mA mB mD mP hp
  go_enter Tryz.func50, Tryz.ntmps50
  go_upto_region 1 with (fail)
  generalize (((w.alloc (.cells #[.slice A1 n1 k1, .slice A2 n2 k2] 27)).alloc (.cells #[.slice A3 n3 k3, .slice A4 n4 k4] 27)).alloc (.cells #[.slice none 0 0, .slice none 0 0] 27)) = W0 at HX0 HR0 HB0 ⊢
  go_cut [6] (fun s6 wx => ∃ vp, s6 = vp ∧ Hid ((Blk wx w.heap.size 27 [(.slice A1 n1 k1), (.slice A2 n2 k2)] ∧ Blk wx (w.heap.size + 1) 27 [(.slice A3 n3 k3), (.slice A4 n4 k4)]) ∧ Blk wx (w.heap.size + 2) 27 [.slice none 0 0, .slice none 0 0] ∧ Below w.heap.size w wx ∧ Sl wx vp (lim (x * y2 + x2 * y))))
  case first =>
    refine wp_region_held (S := fun W => Blk W w.heap.size 27 [(.slice A1 n1 k1), (.slice A2 n2 k2)] ∧ Blk W (w.heap.size + 1) 27 [(.slice A3 n3 k3), (.slice A4 n4 k4)]) (by kernel_rfl) ?_
    change wpAnyH _ _ _ _ _ _ _ _ (World.drew W0)
    have hs0 : Blk (World.drew W0) w.heap.size 27 [(.slice A1 n1 k1), (.slice A2 n2 k2)] ∧ Blk (World.drew W0) (w.heap.size + 1) 27 [(.slice A3 n3 k3), (.slice A4 n4 k4)] := HX0.out
    have BD : Hid (Below w.heap.size w (World.drew W0)) := Lib.hid (below_drewN HB0.out 1)
    have RD : Hid (Blk (World.drew W0) (w.heap.size + 2) 27 [.slice none 0 0, .slice none 0 0]) := HR0
    generalize World.drew W0 = Wd at hs0 BD RD ⊢
    refine wpAnyH_take (i := 0) (oi := { dst := some 7, op := Op.fieldAddr 27 (Operand.tmp 2) 0, type := 0, pos := "ratio.go:265", after := #[], guard := none }) (v := .pointer (some ⟨w.heap.size, 0, none⟩)) rfl (by kernel_rfl) (by kernel_rfl) (by kernel_rfl) (fun _ _ _ h => h) (Or.inl ⟨by rfl, fun W hW => ?y1⟩) hs0 ?_
    case y1 => go_simp
    try dsimp only [Act.put]
    try simp only [List.setIfInBounds_toArray, List.set_cons_zero, List.set_cons_succ]
    refine wpAnyH_take (i := 1) (oi := { dst := some 8, op := Op.load 22 (Operand.tmp 7), type := 22, pos := "ratio.go:265", after := #[{ on := 0, ground := Ground.data }], guard := none }) (v := (.slice A1 n1 k1)) rfl (by kernel_rfl) (by kernel_rfl) (by kernel_rfl) (fun _ _ _ h => h) (Or.inl ⟨by rfl, fun W hW => by have hcl : W.cell? ⟨w.heap.size, 0, none⟩ = some (.slice A1 n1 k1) := (Blk.cell hW.1 0).trans rfl; go_simp⟩) hs0 ?_
    try dsimp only [Act.put]
    try simp only [List.setIfInBounds_toArray, List.set_cons_zero, List.set_cons_succ]
    refine wpAnyH_take (i := 2) (oi := { dst := some 9, op := Op.load 27 (Operand.tmp 3), type := 27, pos := "ratio.go:265", after := #[], guard := none }) (v := .agg #[(.slice A3 n3 k3), (.slice A4 n4 k4)]) rfl (by kernel_rfl) (by kernel_rfl) (by kernel_rfl) (fun _ _ _ h => h) (Or.inl ⟨by rfl, fun W hW => by obtain ⟨hc1, hc2, _, _⟩ := blk_cells2 hW.2; go_simp⟩) hs0 ?_
    try dsimp only [Act.put]
    try simp only [List.setIfInBounds_toArray, List.set_cons_zero, List.set_cons_succ]
    refine wpAnyH_take (i := 5) (oi := { dst := some 12, op := Op.fieldAddr 27 (Operand.tmp 3) 0, type := 0, pos := "ratio.go:265", after := #[], guard := none }) (v := .pointer (some ⟨(w.heap.size + 1), 0, none⟩)) rfl (by kernel_rfl) (by kernel_rfl) (by kernel_rfl) (fun _ _ _ h => h) (Or.inl ⟨by rfl, fun W hW => ?y4⟩) hs0 ?_
    case y4 => go_simp
    try dsimp only [Act.put]
    try simp only [List.setIfInBounds_toArray, List.set_cons_zero, List.set_cons_succ]
    refine wpAnyH_take (i := 6) (oi := { dst := some 13, op := Op.load 22 (Operand.tmp 12), type := 22, pos := "ratio.go:265", after := #[{ on := 5, ground := Ground.data }], guard := none }) (v := (.slice A3 n3 k3)) rfl (by kernel_rfl) (by kernel_rfl) (by kernel_rfl) (fun _ _ _ h => h) (Or.inl ⟨by rfl, fun W hW => by have hcl : W.cell? ⟨(w.heap.size + 1), 0, none⟩ = some (.slice A3 n3 k3) := (Blk.cell hW.2 0).trans rfl; go_simp⟩) hs0 ?_
    try dsimp only [Act.put]
    try simp only [List.setIfInBounds_toArray, List.set_cons_zero, List.set_cons_succ]
    refine wpAnyH_take (i := 7) (oi := { dst := some 14, op := Op.load 27 (Operand.tmp 2), type := 27, pos := "ratio.go:265", after := #[], guard := none }) (v := .agg #[(.slice A1 n1 k1), (.slice A2 n2 k2)]) rfl (by kernel_rfl) (by kernel_rfl) (by kernel_rfl) (fun _ _ _ h => h) (Or.inl ⟨by rfl, fun W hW => by obtain ⟨hc1, hc2, _, _⟩ := blk_cells2 hW.1; go_simp⟩) hs0 ?_
    try dsimp only [Act.put]
    try simp only [List.setIfInBounds_toArray, List.set_cons_zero, List.set_cons_succ]
    refine wpAnyH_ready (rs := [3]) (by kernel_rfl) (by simp) ?_
    refine AllReadyH.cons (o := { dst := some 10, op := Op.call { callee := Callee.value (Operand.func 47), args := #[Operand.tmp 9], argTypes := #[27] }, type := 22, pos := "ratio.go:265", after := #[{ on := 2, ground := Ground.data }], guard := none }) rfl (fun K hK => ?_) AllReadyH.nil
    rw [if_pos (by rfl)]
    go_simp
    refine (HDB.out _ BD.out ).mono ?_; rintro e w7 ⟨v8, rfl, hs, hb⟩
    have B10 := Lib.hid (below_step BD.out hb)
    have hs11 := And.intro (hs0.1.below hb hs0.1.lt) (hs0.2.below hb hs0.2.lt)
    have R12 := Lib.hid (RD.out.below hb RD.out.lt)
    have S9 := Lib.hid hs
    clear hs hb
    go_wp2_with fail
    refine hK.out _ _ hs11 (fun _ => ?_)
    clear hK K
    try dsimp only [Act.put]
    try simp only [List.setIfInBounds_toArray, List.set_cons_zero, List.set_cons_succ]
    refine wpAnyH_ready (rs := [4]) (by kernel_rfl) (by simp) ?_
    refine AllReadyH.cons (o := { dst := some 11, op := Op.call { callee := Callee.value (Operand.func 46), args := #[Operand.tmp 8, Operand.tmp 10], argTypes := #[22, 22] }, type := 22, pos := "ratio.go:265", after := #[{ on := 1, ground := Ground.data }, { on := 3, ground := Ground.data }, { on := 3, ground := Ground.chain }], guard := none }) rfl (fun K hK => ?_) AllReadyH.nil
    rw [if_pos (by rfl)]
    go_simp
    refine (HTA.out _ B10.out _ S9.out).mono ?_; rintro e w13 ⟨v14, rfl, hs, hb⟩
    have B16 := Lib.hid (below_step B10.out hb)
    have hs17 := And.intro (hs11.1.below hb hs11.1.lt) (hs11.2.below hb hs11.2.lt)
    have R18 := Lib.hid (R12.out.below hb R12.out.lt)
    have S19 := Lib.hid (S9.out.below hb)
    have S15 := Lib.hid hs
    clear hs hb
    go_wp2_with fail
    refine hK.out _ _ hs17 (fun _ => ?_)
    clear hK K
    try dsimp only [Act.put]
    try simp only [List.setIfInBounds_toArray, List.set_cons_zero, List.set_cons_succ]
    refine wpAnyH_ready (rs := [8]) (by kernel_rfl) (by simp) ?_
    refine AllReadyH.cons (o := { dst := some 15, op := Op.call { callee := Callee.value (Operand.func 47), args := #[Operand.tmp 14], argTypes := #[27] }, type := 22, pos := "ratio.go:265", after := #[{ on := 7, ground := Ground.data }, { on := 4, ground := Ground.chain }], guard := none }) rfl (fun K hK => ?_) AllReadyH.nil
    rw [if_pos (by rfl)]
    go_simp
    refine (HDA.out _ B16.out ).mono ?_; rintro e w20 ⟨v21, rfl, hs, hb⟩
    have B23 := Lib.hid (below_step B16.out hb)
    have hs24 := And.intro (hs17.1.below hb hs17.1.lt) (hs17.2.below hb hs17.2.lt)
    have R25 := Lib.hid (R18.out.below hb R18.out.lt)
    have S26 := Lib.hid (S19.out.below hb)
    have S27 := Lib.hid (S15.out.below hb)
    have S22 := Lib.hid hs
    clear hs hb
    go_wp2_with fail
    refine hK.out _ _ hs24 (fun _ => ?_)
    clear hK K
    try dsimp only [Act.put]
    try simp only [List.setIfInBounds_toArray, List.set_cons_zero, List.set_cons_succ]
    refine wpAnyH_ready (rs := [9]) (by kernel_rfl) (by simp) ?_
    refine AllReadyH.cons (o := { dst := some 16, op := Op.call { callee := Callee.value (Operand.func 46), args := #[Operand.tmp 13, Operand.tmp 15], argTypes := #[22, 22] }, type := 22, pos := "ratio.go:265", after := #[{ on := 6, ground := Ground.data }, { on := 8, ground := Ground.data }, { on := 8, ground := Ground.chain }], guard := none }) rfl (fun K hK => ?_) AllReadyH.nil
    rw [if_pos (by rfl)]
    go_simp
    refine (HTB.out _ B23.out _ S22.out).mono ?_; rintro e w28 ⟨v29, rfl, hs, hb⟩
    have B31 := Lib.hid (below_step B23.out hb)
    have hs32 := And.intro (hs24.1.below hb hs24.1.lt) (hs24.2.below hb hs24.2.lt)
    have R33 := Lib.hid (R25.out.below hb R25.out.lt)
    have S34 := Lib.hid (S26.out.below hb)
    have S35 := Lib.hid (S27.out.below hb)
    have S36 := Lib.hid (S22.out.below hb)
    have S30 := Lib.hid hs
    clear hs hb
    go_wp2_with fail
    refine hK.out _ _ hs32 (fun _ => ?_)
    clear hK K
    try dsimp only [Act.put]
    try simp only [List.setIfInBounds_toArray, List.set_cons_zero, List.set_cons_succ]
    refine wpAnyH_ready (rs := [10]) (by kernel_rfl) (by simp) ?_
    refine AllReadyH.cons (o := { dst := some 17, op := Op.call { callee := Callee.value (Operand.func 72), args := #[Operand.tmp 11, Operand.tmp 16], argTypes := #[22, 22] }, type := 22, pos := "ratio.go:265", after := #[{ on := 4, ground := Ground.data }, { on := 9, ground := Ground.data }, { on := 9, ground := Ground.chain }], guard := none }) rfl (fun K hK => ?_) AllReadyH.nil
    rw [if_pos (by rfl)]
    go_simp
    refine (HPL.out _ B31.out _ S35.out _ S30.out).mono ?_; rintro e w37 ⟨v38, rfl, hs, hb⟩
    have B40 := Lib.hid (below_step B31.out hb)
    have hs41 := And.intro (hs32.1.below hb hs32.1.lt) (hs32.2.below hb hs32.2.lt)
    have R42 := Lib.hid (R33.out.below hb R33.out.lt)
    have S43 := Lib.hid (S34.out.below hb)
    have S44 := Lib.hid (S35.out.below hb)
    have S45 := Lib.hid (S36.out.below hb)
    have S46 := Lib.hid (S30.out.below hb)
    have S39 := Lib.hid hs
    clear hs hb
    go_wp2_with fail
    refine hK.out _ _ hs41 (fun _ => ?_)
    clear hK K
    try dsimp only [Act.put]
    try simp only [List.setIfInBounds_toArray, List.set_cons_zero, List.set_cons_succ]
    refine wpAnyH_take (i := 11) (oi := { dst := some 6, op := Op.assign (Operand.tmp 17), type := 22, pos := "ratio.go:265", after := #[{ on := 10, ground := Ground.data }, { on := 10, ground := Ground.chain }, { on := 0, ground := Ground.phase }, { on := 1, ground := Ground.phase }, { on := 2, ground := Ground.phase }, { on := 3, ground := Ground.phase }, { on := 4, ground := Ground.phase }, { on := 5, ground := Ground.phase }, { on := 6, ground := Ground.phase }, { on := 7, ground := Ground.phase }, { on := 8, ground := Ground.phase }, { on := 9, ground := Ground.phase }, { on := 10, ground := Ground.phase }], guard := none }) (v := v38) rfl (by kernel_rfl) (by kernel_rfl) (by kernel_rfl) (fun _ _ _ h => h) (Or.inl ⟨by rfl, fun W hW => ?y47⟩) hs41 ?_
    case y47 => go_simp
    try dsimp only [Act.put]
    try simp only [List.setIfInBounds_toArray, List.set_cons_zero, List.set_cons_succ]
    refine wpAnyH_done (by kernel_rfl) ?_ _
    try dsimp only [Act.put]
    try simp only [List.setIfInBounds_toArray, List.set_cons_zero, List.set_cons_succ]
    go_wp2_with fail
    go_meet
    exact ⟨v38, rfl, Lib.hid (And.intro hs41 (And.intro R42.out (And.intro B40.out S39.out)))⟩
  case rest =>
    obtain ⟨vp, rfl, hall⟩ := hcut
    have HX1 := Lib.hid hall.out.1; have HR1 := Lib.hid hall.out.2.1; have HB1 := Lib.hid hall.out.2.2.1; have PL1 := Lib.hid hall.out.2.2.2
    clear hall
    generalize wc = W1 at HX1 HR1 HB1 PL1 ⊢
    go_upto_region 2 with (fail)
    refine wp_region_held (S := fun W => Blk W w.heap.size 27 [(.slice A1 n1 k1), (.slice A2 n2 k2)] ∧ Blk W (w.heap.size + 1) 27 [(.slice A3 n3 k3), (.slice A4 n4 k4)]) (by kernel_rfl) ?_
    change wpAnyH _ _ _ _ _ _ _ _ (World.drew W1)
    have hs0 : Blk (World.drew W1) w.heap.size 27 [(.slice A1 n1 k1), (.slice A2 n2 k2)] ∧ Blk (World.drew W1) (w.heap.size + 1) 27 [(.slice A3 n3 k3), (.slice A4 n4 k4)] := HX1.out
    have BD : Hid (Below w.heap.size w (World.drew W1)) := Lib.hid (below_drewN HB1.out 1)
    have S1 : Hid (Sl (World.drew W1) u6 (lim (x * y2 + x2 * y))) := PL1
    have RD : Hid (Blk (World.drew W1) (w.heap.size + 2) 27 [.slice none 0 0, .slice none 0 0]) := HR1
    generalize World.drew W1 = Wd at hs0 BD S1 RD ⊢
    refine wpAnyH_take (i := 0) (oi := { dst := some 18, op := Op.move (Operand.tmp 6), type := 22, pos := "ratio.go:266", after := #[], guard := none }) (v := u6) rfl (by kernel_rfl) (by kernel_rfl) (by kernel_rfl) (fun _ _ _ h => h) (Or.inl ⟨by rfl, fun W hW => ?y2⟩) hs0 ?_
    case y2 => go_simp
    try dsimp only [Act.put]
    try simp only [List.setIfInBounds_toArray, List.set_cons_zero, List.set_cons_succ]
    refine wpAnyH_take (i := 1) (oi := { dst := some 19, op := Op.load 27 (Operand.tmp 2), type := 27, pos := "ratio.go:266", after := #[], guard := none }) (v := .agg #[(.slice A1 n1 k1), (.slice A2 n2 k2)]) rfl (by kernel_rfl) (by kernel_rfl) (by kernel_rfl) (fun _ _ _ h => h) (Or.inl ⟨by rfl, fun W hW => by obtain ⟨hc1, hc2, _, _⟩ := blk_cells2 hW.1; go_simp⟩) hs0 ?_
    try dsimp only [Act.put]
    try simp only [List.setIfInBounds_toArray, List.set_cons_zero, List.set_cons_succ]
    refine wpAnyH_take (i := 3) (oi := { dst := some 21, op := Op.load 27 (Operand.tmp 3), type := 27, pos := "ratio.go:266", after := #[], guard := none }) (v := .agg #[(.slice A3 n3 k3), (.slice A4 n4 k4)]) rfl (by kernel_rfl) (by kernel_rfl) (by kernel_rfl) (fun _ _ _ h => h) (Or.inl ⟨by rfl, fun W hW => by obtain ⟨hc1, hc2, _, _⟩ := blk_cells2 hW.2; go_simp⟩) hs0 ?_
    try dsimp only [Act.put]
    try simp only [List.setIfInBounds_toArray, List.set_cons_zero, List.set_cons_succ]
    refine wpAnyH_ready (rs := [2]) (by kernel_rfl) (by simp) ?_
    refine AllReadyH.cons (o := { dst := some 20, op := Op.call { callee := Callee.value (Operand.func 47), args := #[Operand.tmp 19], argTypes := #[27] }, type := 22, pos := "ratio.go:266", after := #[{ on := 1, ground := Ground.data }], guard := none }) rfl (fun K hK => ?_) AllReadyH.nil
    rw [if_pos (by rfl)]
    go_simp
    refine (HDA.out _ BD.out ).mono ?_; rintro e w5 ⟨v6, rfl, hs, hb⟩
    have B8 := Lib.hid (below_step BD.out hb)
    have hs9 := And.intro (hs0.1.below hb hs0.1.lt) (hs0.2.below hb hs0.2.lt)
    have R10 := Lib.hid (RD.out.below hb RD.out.lt)
    have S11 := Lib.hid (S1.out.below hb)
    have S7 := Lib.hid hs
    clear hs hb
    go_wp2_with fail
    refine hK.out _ _ hs9 (fun _ => ?_)
    clear hK K
    try dsimp only [Act.put]
    try simp only [List.setIfInBounds_toArray, List.set_cons_zero, List.set_cons_succ]
    refine wpAnyH_ready (rs := [4]) (by kernel_rfl) (by simp) ?_
    refine AllReadyH.cons (o := { dst := some 22, op := Op.call { callee := Callee.value (Operand.func 47), args := #[Operand.tmp 21], argTypes := #[27] }, type := 22, pos := "ratio.go:266", after := #[{ on := 3, ground := Ground.data }, { on := 2, ground := Ground.chain }], guard := none }) rfl (fun K hK => ?_) AllReadyH.nil
    rw [if_pos (by rfl)]
    go_simp
    refine (HDB.out _ B8.out ).mono ?_; rintro e w12 ⟨v13, rfl, hs, hb⟩
    have B15 := Lib.hid (below_step B8.out hb)
    have hs16 := And.intro (hs9.1.below hb hs9.1.lt) (hs9.2.below hb hs9.2.lt)
    have R17 := Lib.hid (R10.out.below hb R10.out.lt)
    have S18 := Lib.hid (S11.out.below hb)
    have S19 := Lib.hid (S7.out.below hb)
    have S14 := Lib.hid hs
    clear hs hb
    go_wp2_with fail
    refine hK.out _ _ hs16 (fun _ => ?_)
    clear hK K
    try dsimp only [Act.put]
    try simp only [List.setIfInBounds_toArray, List.set_cons_zero, List.set_cons_succ]
    refine wpAnyH_ready (rs := [5]) (by kernel_rfl) (by simp) ?_
    refine AllReadyH.cons (o := { dst := some 23, op := Op.call { callee := Callee.value (Operand.func 46), args := #[Operand.tmp 20, Operand.tmp 22], argTypes := #[22, 22] }, type := 22, pos := "ratio.go:266", after := #[{ on := 2, ground := Ground.data }, { on := 4, ground := Ground.data }, { on := 4, ground := Ground.chain }], guard := none }) rfl (fun K hK => ?_) AllReadyH.nil
    rw [if_pos (by rfl)]
    go_simp
    refine (HTD.out _ B15.out _ S19.out _ S14.out).mono ?_; rintro e w20 ⟨v21, rfl, hs, hb⟩
    have B23 := Lib.hid (below_step B15.out hb)
    have hs24 := And.intro (hs16.1.below hb hs16.1.lt) (hs16.2.below hb hs16.2.lt)
    have R25 := Lib.hid (R17.out.below hb R17.out.lt)
    have S26 := Lib.hid (S18.out.below hb)
    have S27 := Lib.hid (S19.out.below hb)
    have S28 := Lib.hid (S14.out.below hb)
    have S22 := Lib.hid hs
    clear hs hb
    go_wp2_with fail
    refine hK.out _ _ hs24 (fun _ => ?_)
    clear hK K
    try dsimp only [Act.put]
    try simp only [List.setIfInBounds_toArray, List.set_cons_zero, List.set_cons_succ]
    refine wpAnyH_ready (rs := [6]) (by kernel_rfl) (by simp) ?_
    refine AllReadyH.cons (o := { dst := some 24, op := Op.call { callee := Callee.value (Operand.func 55), args := #[Operand.tmp 18, Operand.tmp 23], argTypes := #[22, 22] }, type := 31, pos := "ratio.go:266", after := #[{ on := 0, ground := Ground.data }, { on := 5, ground := Ground.data }, { on := 5, ground := Ground.chain }], guard := none }) rfl (fun K hK => ?_) AllReadyH.nil
    rw [if_pos (by rfl)]
    go_simp
    refine (HLO.out _ B23.out _ S26.out _ S22.out).mono ?_; rintro e w29 ⟨q30, rfl, ⟨u1, u2, rfl, s1, s2⟩, hb⟩
    have B33 := Lib.hid (below_step B23.out hb)
    have hs34 := And.intro (hs24.1.below hb hs24.1.lt) (hs24.2.below hb hs24.2.lt)
    have R35 := Lib.hid (R25.out.below hb R25.out.lt)
    have S36 := Lib.hid (S26.out.below hb)
    have S37 := Lib.hid (S27.out.below hb)
    have S38 := Lib.hid (S28.out.below hb)
    have S39 := Lib.hid (S22.out.below hb)
    have S31 := Lib.hid s1
    have S32 := Lib.hid s2
    obtain ⟨C1, m1, j1, e1⟩ := sl_form s1
    obtain ⟨C2, m2, j2, e2⟩ := sl_form s2
    clear s1 s2 hb
    subst e1 e2
    go_wp2_with fail
    refine hK.out _ _ hs34 (fun _ => ?_)
    clear hK K
    try dsimp only [Act.put]
    try simp only [List.setIfInBounds_toArray, List.set_cons_zero, List.set_cons_succ]
    refine wpAnyH_take (i := 7) (oi := { dst := some 25, op := Op.extract (Operand.tmp 24) 0, type := 27, pos := "ratio.go:266", after := #[{ on := 6, ground := Ground.data }], guard := none }) (v := .agg #[.slice C1 m1 j1, .slice C2 m2 j2]) rfl (by kernel_rfl) (by kernel_rfl) (by kernel_rfl) (fun _ _ _ h => h) (Or.inl ⟨by rfl, fun W hW => ?y40⟩) hs34 ?_
    case y40 => go_simp
    try dsimp only [Act.put]
    try simp only [List.setIfInBounds_toArray, List.set_cons_zero, List.set_cons_succ]
    refine wpAnyH_take (i := 8) (oi := { dst := some 26, op := Op.extract (Operand.tmp 24) 1, type := 28, pos := "ratio.go:266", after := #[{ on := 6, ground := Ground.data }], guard := none }) (v := .int .i64 (((lowR (x * y2 + x2 * y) (y * y2)).2 : Nat) : Int)) rfl (by kernel_rfl) (by kernel_rfl) (by kernel_rfl) (fun _ _ _ h => h) (Or.inl ⟨by rfl, fun W hW => ?y41⟩) hs34 ?_
    case y41 => go_simp
    try dsimp only [Act.put]
    try simp only [List.setIfInBounds_toArray, List.set_cons_zero, List.set_cons_succ]
    refine wpAnyH_ready (rs := [9]) (by kernel_rfl) (by simp) ?_
    refine AllReadyH.cons (o := { dst := none, op := Op.store 27 (Operand.tmp 4) (Operand.tmp 25), type := 0, pos := "ratio.go:266", after := #[{ on := 7, ground := Ground.data }, { on := 6, ground := Ground.chain }, { on := 0, ground := Ground.phase }, { on := 1, ground := Ground.phase }, { on := 2, ground := Ground.phase }, { on := 3, ground := Ground.phase }, { on := 4, ground := Ground.phase }, { on := 5, ground := Ground.phase }, { on := 6, ground := Ground.phase }, { on := 7, ground := Ground.phase }, { on := 8, ground := Ground.phase }], guard := none }) rfl (fun K hK => ?_) AllReadyH.nil
    rw [if_pos (by rfl)]
    obtain ⟨hc1, hc2, hf1, hf2⟩ := blk_cells2 R35.out
    go_simp
    refine hK.out _ _ (And.intro ((hs34.1.far (p := ⟨w.heap.size + 2, 0, none⟩) (by simp) _).far (p := ⟨w.heap.size + 2, 1, none⟩) (by simp) _) ((hs34.2.far (p := ⟨w.heap.size + 2, 0, none⟩) (by simp) _).far (p := ⟨w.heap.size + 2, 1, none⟩) (by simp) _)) (fun _ => ?_)
    clear hK K
    try dsimp only [Act.put]
    try simp only [List.setIfInBounds_toArray, List.set_cons_zero, List.set_cons_succ]
    refine wpAnyH_take (i := 10) (oi := { dst := some 5, op := Op.assign (Operand.tmp 26), type := 28, pos := "ratio.go:266", after := #[{ on := 8, ground := Ground.data }, { on := 9, ground := Ground.chain }, { on := 0, ground := Ground.phase }, { on := 1, ground := Ground.phase }, { on := 2, ground := Ground.phase }, { on := 3, ground := Ground.phase }, { on := 4, ground := Ground.phase }, { on := 5, ground := Ground.phase }, { on := 6, ground := Ground.phase }, { on := 7, ground := Ground.phase }, { on := 8, ground := Ground.phase }, { on := 9, ground := Ground.phase }], guard := none }) (v := .int .i64 (((lowR (x * y2 + x2 * y) (y * y2)).2 : Nat) : Int)) rfl (by kernel_rfl) (by kernel_rfl) (by kernel_rfl) (fun _ _ _ h => h) (Or.inl ⟨by rfl, fun W hW => ?y42⟩) (And.intro ((hs34.1.far (p := ⟨w.heap.size + 2, 0, none⟩) (by simp) _).far (p := ⟨w.heap.size + 2, 1, none⟩) (by simp) _) ((hs34.2.far (p := ⟨w.heap.size + 2, 0, none⟩) (by simp) _).far (p := ⟨w.heap.size + 2, 1, none⟩) (by simp) _)) ?_
    case y42 => go_simp
    try dsimp only [Act.put]
    try simp only [List.setIfInBounds_toArray, List.set_cons_zero, List.set_cons_succ]
    refine wpAnyH_done (by kernel_rfl) ?_ _
    try dsimp only [Act.put]
    try simp only [List.setIfInBounds_toArray, List.set_cons_zero, List.set_cons_succ]
    go_wp2_with fail
    have hbk := (((R35.out).put 0 (.slice C1 m1 j1)).put 1 (.slice C2 m2 j2))
    have hbl := (((B33.out).setCell (p := ⟨w.heap.size + 2, 0, none⟩) (by simp) (.slice C1 m1 j1)).setCell (p := ⟨w.heap.size + 2, 1, none⟩) (by simp) (.slice C2 m2 j2))
    refine bodyPost_ret (v := .tuple #[.agg #[(.slice C1 m1 j1), (.slice C2 m2 j2)], .int .i64 (((lowR (x * y2 + x2 * y) (y * y2)).2 : Nat) : Int)]) ?_ rfl ⟨.agg #[(.slice C1 m1 j1), (.slice C2 m2 j2)], rfl, ⟨_, _, rfl, sl_res S31.out R35.out _ _ _ _ _ _, sl_res S32.out R35.out _ _ _ _ _ _⟩, hbl⟩
    have hr := run_loadVar_at (P := Tryz.prog) _ ⟨w.heap.size + 2, 0, none⟩ 27 [(.slice C1 m1 j1), (.slice C2 m2 j2)] _ hbk.at Tryz.underlying27 rfl size28
    simp [results, Tryz.results50, asAddr, hr]
end Go.Proofs.YtbfhilbagojdnaaGreat
