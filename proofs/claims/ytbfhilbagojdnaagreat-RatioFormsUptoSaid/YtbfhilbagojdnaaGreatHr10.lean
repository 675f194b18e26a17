/-
  Texts of the proof, joined: Rg, Rv, Ru.
  No condition: lemmas.
-/
import Derived.Deep.CutBlock
import Derived.Deep.LoopGhost
import Derived.Test.YtbfhilbagojdnaaGreatHr9
namespace Go.Proofs.YtbfhilbagojdnaaGreat
open Go.RowKit Wr Go.Proofs.YtbfhilbagojdnaaGreat.Nm
set_option linter.unusedVariables false
set_option maxRecDepth 100000

theorem rone_any {v : Value} {l : List Nat} {w : World} (h : Sl w v l) (hl : l.length ≤ 1000000) : Calls Tryz.prog 100 #[v] w fun e w' => e = .returned (.bool (decide (l = [1]))) ∧ w = w' := by
  obtain ⟨A, c, rfl, hcc, hnn, hr⟩ := h
  by_cases h1 : l.length = 1
  · obtain ⟨x, rfl⟩ := List.length_eq_one_iff.1 h1
    obtain ⟨g, o, rfl, hg, hc⟩ := limb_cell hr 0 (by simp)
    simp only [List.getElem_cons_zero, Nat.add_zero] at hc
    have e : decide ([x] = [1]) = ((x : Int) == 1) := by
      rw [Bool.eq_iff_iff]; simp; omega
    rw [e]
    clear hr e h1 hl hcc hnn
    show Calls Tryz.prog 100 #[.slice (some ⟨g, o, none⟩) 1 c] w _
    go_enter Tryz.func100, Tryz.ntmps100
    go_wp2
    go_ret
    exact ⟨rfl, rfl⟩
  · have e : decide (l = [1]) = false := by
      apply decide_eq_false; intro e; rw [e] at h1; exact h1 rfl
    rw [e]
    have hn : ((l.length : Int) == 1) = false := by rw [beq_eq_false_iff_ne]; omega
    generalize l.length = n at hl hn
    clear hr e h1 hcc hnn
    go_enter Tryz.func100, Tryz.ntmps100
    go_wp2
    go_ret
    exact ⟨rfl, rfl⟩
theorem rone_lim {v : Value} {x : Nat} {w : World} (h : Sl w v (lim x)) (hl : (lim x).length ≤ 1000000) (b : Bool) (hb : b = decide (x = 1)) : Calls Tryz.prog 100 #[v] w fun e w' => e = .returned (.bool b) ∧ w = w' := by
  have h2 := rone_any h hl
  rw [hb]
  have e : decide (lim x = [1]) = decide (x = 1) := by rw [Bool.eq_iff_iff]; simp [lim_eq_one]
  rwa [e] at h2
theorem rodd_lim {v : Value} {x : Nat} {w : World} (h : Sl w v (lim x)) (hl : (lim x).length ≤ 1000000) (b : Bool) (hb : b = decide (x % 2 = 1)) : Calls Tryz.prog 123 #[v] w fun e w' => e = .returned (.bool b) ∧ w = w' := by
  have h2 := odd_any h (lim_ok x) hl
  rw [num_lim] at h2; rw [hb]; exact h2
/-- Two own rows, apart from each other. -/
structure Pq (w : World) (B : Nat) (va vb : Value) (x y : Nat) : Prop where
  oa : w.ownsRow B 66 1 va (lim x).length (Lc (lim x))
  ob : w.ownsRow B 66 1 vb (lim y).length (Lc (lim y))
  ne : ∀ g, va.ownBlock = some g → vb.ownBlock ≠ some g
theorem Pq.swap {w : World} {B : Nat} {va vb : Value} {x y : Nat} (h : Pq w B va vb x y) : Pq w B vb va y x := ⟨h.ob, h.oa, fun g h1 h2 => h.ne g h2 h1⟩
def HqA (w : World) (B : Nat) (vb : Value) (x y : Nat) (e : Ending) (w' : World) : Prop := ∃ v, e = .returned v ∧ Pq w' B v vb x y ∧ Below B w w'
def HqB (w : World) (B : Nat) (va : Value) (x y : Nat) (e : Ending) (w' : World) : Prop := ∃ v, e = .returned v ∧ Pq w' B va v x y ∧ Below B w w'
theorem grown_base {w w' : World} {g B : Nat} (h : w.grownBy w' (some g)) (hg : B ≤ g) (hB : B ≤ w.heap.size) : Below B w w' :=
  ⟨h.os, h.tape, h.output, h.size, fun k hk => h.block k (by omega) (by intro e; injection e with e; omega)⟩
theorem Pq.halfA {w : World} {B : Nat} {va vb : Value} {x y : Nat} (h : Pq w B va vb x y) (hx : 0 < x) (hl : (lim x).length ≤ 100000) : Calls Tryz.prog 124 #[va] w (HqA w B vb (x / 2) y) := by
  obtain ⟨g, cap, e, _, _⟩ := h.oa.form (pos_lim hx)
  have hlt := h.oa.lt g (by rw [e]; rfl)
  have hoa := h.oa
  subst e
  have hh := half_own hoa (lim_ok x) (by omega)
  rw [num_lim] at hh
  refine hh.mono ?_
  rintro e w' ⟨rfl, ho, hg⟩
  refine ⟨_, rfl, ⟨ho, h.ob.kept hg ?_, ?_⟩, grown_base hg hlt.1 (by omega)⟩
  · exact Or.inr (h.ne g rfl)
  · intro g2 h2
    exact h.ne g2 h2
theorem Pq.halfB {w : World} {B : Nat} {va vb : Value} {x y : Nat} (h : Pq w B va vb x y) (hy : 0 < y) (hl : (lim y).length ≤ 100000) : Calls Tryz.prog 124 #[vb] w (HqB w B va x (y / 2)) :=
  (h.swap.halfA hy hl).mono fun _ _ ⟨v, e, hp, hb⟩ => ⟨v, e, hp.swap, hb⟩
theorem Pq.takeB {w : World} {B : Nat} {va vb : Value} {x y : Nat} (h : Pq w B va vb x y) (hy : 0 < y) (hle : x ≤ y) (hl : (lim y).length ≤ 100000) (hl2 : (lim x).length ≤ 100000) : Calls Tryz.prog 125 #[vb, va] w (HqB w B va x (y - x)) := by
  obtain ⟨g, cap, e, _, _⟩ := h.ob.form (pos_lim hy)
  have hlt := h.ob.lt g (by rw [e]; rfl)
  have hob := h.ob
  have hne : va.ownBlock ≠ some g := fun h2 => h.ne g h2 (by rw [e]; rfl)
  subst e
  have hh := take_own (v2 := va) (b := lim x) hob (lim_ok y) (by omega) (fun W hW => own_sl (h.oa.kept hW (Or.inr hne))) (lim_ok x) (by omega) (by rw [num_lim, num_lim]; exact hle)
  rw [num_lim, num_lim] at hh
  refine hh.mono ?_
  rintro e w' ⟨rfl, ho, hg⟩
  exact ⟨_, rfl, ⟨h.oa.kept hg (Or.inr hne), ho, fun g2 h2 h3 => h.ne g2 h2 h3⟩, grown_base hg hlt.1 (by omega)⟩
def Cm1 (w : World) (X Y k : Nat) (s5 s6 s7 : Value) (wr : World) : Prop := ∃ t x y : Nat, s5 = .int .i64 ((t : Nat) : Int) ∧ Pq wr w.heap.size s6 s7 x y ∧ 0 < x ∧ 2 ^ t * x = X ∧ 2 ^ t * y = Y ∧ x + y = k ∧ Below w.heap.size w wr
def Cm2 (w : World) (X Y : Nat) (s5 s6 s7 : Value) (wr : World) : Prop := ∃ t x y : Nat, s5 = .int .i64 ((t : Nat) : Int) ∧ Pq wr w.heap.size s6 s7 x y ∧ 0 < x ∧ 2 ^ t * x = X ∧ 2 ^ t * y = Y ∧ (y = 0 ∨ x % 2 = 1 ∨ y % 2 = 1) ∧ Below w.heap.size w wr
def Cm3 (w : World) (G M k : Nat) (s6 s7 : Value) (wr : World) : Prop := ∃ x y : Nat, Pq wr w.heap.size s6 s7 x y ∧ 0 < x ∧ Nat.gcd x y = G ∧ x ≤ M ∧ y ≤ M ∧ (y = 0 ∨ x % 2 = 1 ∨ y % 2 = 1) ∧ x + y = k ∧ Below w.heap.size w wr
set_option maxHeartbeats 4000000 in
theorem rcommon_any {v1 v2 : Value} {X Y : Nat} {w : World} (h1 : Sl w v1 (lim X)) (h2 : Sl w v2 (lim Y)) (hX : 0 < X) (hl : (lim X).length ≤ 40000) (hl2 : (lim Y).length ≤ 40000) : Calls Tryz.prog 99 #[v1, v2] w (SlP w (Nat.gcd X Y)) := by
  have T1 := Lib.hid (trim_own h1 (by omega))
  have T2 := Lib.hid (fun W (h : Below w.heap.size w W) => trim_own (h2.below h) (by omega))
  rw [dropz_lim] at T1 T2
  have HLX := Lib.hid hl; have HLY := Lib.hid hl2; have HX := Lib.hid hX
  clear h1 h2 hl hl2 hX
  go_enter Tryz.func99, Tryz.ntmps99
  go_wp2_with fail
  refine T1.out.mono ?_
  rintro e w1 ⟨va, rfl, ho1, hb1⟩
  have O1 := Lib.hid ho1; have B1 := Lib.hid hb1
  have T2a := Lib.hid (T2.out _ hb1)
  clear ho1 hb1 T1 T2
  go_wp2_with fail
  refine T2a.out.mono ?_
  rintro e w2 ⟨vb, rfl, ho2, hb2⟩
  have B2 := Lib.hid (below_step B1.out hb2)
  have HP := Lib.hid (show Pq w2 w.heap.size va vb X Y from ⟨own_below O1.out hb2, own_mono ho2 B1.out.size, fun g h1 h2 => by
    have a1 := (O1.out.lt g h1).2
    have a2 := (ho2.lt g h2).1
    omega⟩)
  clear ho2 hb2 T2a O1 B1
  go_upto_block 0 with fail
  go_cut [5, 6, 7] (fun s5 s6 s7 wx => Cm2 w X Y s5 s6 s7 wx)
  case first =>
    obtain ⟨K, hK⟩ : ∃ k, k = X + Y := ⟨_, rfl⟩
    go_wp2_with fail
    go_loopg [5, 6, 7] K (fun k s5 s6 s7 wr => Cm1 w X Y k s5 s6 s7 wr)
    case atStart => exact ⟨0, X, Y, rfl, HP.out, HX.out, by omega, by omega, hK.symm, B2.out⟩
    case round =>
      clear HP B2 hK
      obtain ⟨t, x, y, rfl, hp, hx0, hX, hY, hk, hbel⟩ := hrel
      have hpt := Nat.two_pow_pos t
      have hxX : x ≤ X := by rw [← hX]; exact Nat.le_mul_of_pos_left x hpt
      have hyY : y ≤ Y := by rw [← hY]; exact Nat.le_mul_of_pos_left y hpt
      have lx : (lim x).length ≤ 40000 := Nat.le_trans (lim_mono hxX) HLX.out
      have ly : (lim y).length ≤ 40000 := Nat.le_trans (lim_mono hyY) HLY.out
      have htl : t ≤ 1280000 := by
        have h3 : 2 ^ t ≤ X := by rw [← hX]; exact Nat.le_mul_of_pos_right _ hx0
        have h4 := lim_len.1 (Nat.le_refl (lim X).length)
        rw [B_two] at h4
        have h5 : 2 ^ t < 2 ^ (32 * (lim X).length) := Nat.lt_of_le_of_lt h3 h4
        have h6 := (Nat.pow_lt_pow_iff_right (by omega)).1 h5
        have h7 := HLX.out
        omega
      have HA := Lib.hid (fun b hb => rodd_lim (own_sl hp.oa) (by omega) b hb)
      have HB := Lib.hid (fun b hb => rodd_lim (own_sl hp.ob) (by omega) b hb)
      have HHA := Lib.hid (hp.halfA hx0 (by omega))
      have HQ := Lib.hid (And.intro hx0 (And.intro hX (And.intro hY hk)))
      have HP := Lib.hid hp; have HBE := Lib.hid hbel
      obtain ⟨A1, c1, e1, _, _, _⟩ := own_form hp.oa
      obtain ⟨A2, c2, e2, _, _, _⟩ := own_form hp.ob
      subst e1 e2
      have hny : (lim y).length = 0 ↔ y = 0 := lim_len0
      have HYY := Lib.hid hyY
      clear hp hbel hx0 hX hY hk hxX hyY hpt
      generalize (lim x).length = nx at *
      generalize (lim y).length = ny at *
      rcases Nat.eq_zero_or_pos y with hy | hy
      · have hn0 := hny.2 hy
        subst hn0
        obtain ⟨q1, q2, q3, q4⟩ := HQ.out
        have HF := Lib.hid (show Cm2 w X Y (.int .i64 ((t : Nat) : Int)) (.slice A1 nx c1) (.slice A2 0 c2) wr from ⟨t, x, y, rfl, HP.out, q1, q2, q3, Or.inl hy, HBE.out⟩)
        clear q1 q2 q3 q4 hny hy HP HBE HQ
        go_wp2_with fail
        go_meet
        exact HF.out
      · have hn1 : 0 < ny := by rcases Nat.eq_zero_or_pos ny with h | h; exact absurd (hny.1 h) (by omega); exact h
        have hn1I : (0 : Int) < (ny : Int) := by omega
        rcases (show x % 2 = 1 ∨ x % 2 = 0 by omega) with hx2 | hx2
        · have HA := Lib.hid (HA.out true (by rw [hx2]; rfl))
          obtain ⟨q1, q2, q3, q4⟩ := HQ.out
          have HF := Lib.hid (show Cm2 w X Y (.int .i64 ((t : Nat) : Int)) (.slice A1 nx c1) (.slice A2 ny c2) wr from ⟨t, x, y, rfl, HP.out, q1, q2, q3, Or.inr (Or.inl hx2), HBE.out⟩)
          clear q1 q2 q3 q4 hny hy HP HBE HQ HB HHA hx2
          go_wp2_with (go_at_call 123; (with_reducible refine HA.out.mono ?_); rintro e w' ⟨rfl, rfl⟩)
          go_meet
          exact HF.out
        · have HA := Lib.hid (HA.out false (by rw [hx2]; rfl))
          rcases (show y % 2 = 1 ∨ y % 2 = 0 by omega) with hy2 | hy2
          · have HB := Lib.hid (HB.out true (by rw [hy2]; rfl))
            obtain ⟨q1, q2, q3, q4⟩ := HQ.out
            have HF := Lib.hid (show Cm2 w X Y (.int .i64 ((t : Nat) : Int)) (.slice A1 nx c1) (.slice A2 ny c2) wr from ⟨t, x, y, rfl, HP.out, q1, q2, q3, Or.inr (Or.inr hy2), HBE.out⟩)
            clear q1 q2 q3 q4 hny hy HP HBE HQ HHA hx2 hy2
            go_wp2_with (go_at_call 123; first | ((with_reducible refine HA.out.mono ?_); rintro e w' ⟨rfl, rfl⟩) | ((with_reducible refine HB.out.mono ?_); rintro e w' ⟨rfl, rfl⟩))
            go_meet
            exact HF.out
          · have HB := Lib.hid (HB.out false (by rw [hy2]; rfl))
            obtain ⟨q1, q2, q3, q4⟩ := HQ.out
            have HX2 := Lib.hid (show 0 < x / 2 ∧ 2 ^ (t + 1) * (x / 2) = X ∧ 2 ^ (t + 1) * (y / 2) = Y ∧ x / 2 + y / 2 < x + y by
              refine ⟨by omega, ?_, ?_, by omega⟩
              · rw [Nat.pow_succ, Nat.mul_assoc, show 2 * (x / 2) = x by omega]; exact q2
              · rw [Nat.pow_succ, Nat.mul_assoc, show 2 * (y / 2) = y by omega]; exact q3)
            have htI : (t : Int) ≤ 1280000 := by omega
            have HYP := Lib.hid hy; have HK := Lib.hid q4
            clear q1 q2 q3 q4 hny hy HP HQ hx2 hy2
            go_wp2_with (go_at_call 123; first | ((with_reducible refine HA.out.mono ?_); rintro e w' ⟨rfl, rfl⟩) | ((with_reducible refine HB.out.mono ?_); rintro e w' ⟨rfl, rfl⟩))
            refine HHA.out.mono ?_
            rintro e w3 ⟨v3, rfl, hp3, hb3⟩
            have HHB := Lib.hid (hp3.halfB HYP.out (Nat.le_trans (Nat.le_trans (lim_mono HYY.out) HLY.out) (by omega)))
            have B3 := Lib.hid (HBE.out.trans hb3)
            clear hp3 hb3 HHA HA HB HBE
            go_wp2_with fail
            refine HHB.out.mono ?_
            rintro e w4 ⟨v4, rfl, hp4, hb4⟩
            have B4 := Lib.hid (B3.out.trans hb4)
            have HP4 := Lib.hid hp4
            clear hp4 hb4 HHB B3
            go_wp2_with fail
            go_roundg (x / 2 + y / 2)
            case measure => rw [← HK.out]; exact HX2.out.2.2.2
            case rel => exact ⟨t + 1, x / 2, y / 2, by go_num, HP4.out, HX2.out.1, HX2.out.2.1, HX2.out.2.2.1, rfl, B4.out⟩
  case rest =>
    obtain ⟨t, x0, y0, rfl, hp0, hx0, hX, hY, hpar, hbel⟩ := hcut
    have hG : Nat.gcd X Y = 2 ^ t * Nat.gcd x0 y0 := by rw [← hX, ← hY, Nat.gcd_mul_left]
    have hpt := Nat.two_pow_pos t
    obtain ⟨M, hM⟩ : ∃ m, m = max X Y := ⟨_, rfl⟩
    have hML : (lim M).length ≤ 40000 := by
      rw [hM]
      rcases Nat.le_total X Y with h | h
      · rw [Nat.max_eq_right h]; exact HLY.out
      · rw [Nat.max_eq_left h]; exact HLX.out
    have hxM : x0 ≤ M := by
      have : x0 ≤ X := by rw [← hX]; exact Nat.le_mul_of_pos_left x0 hpt
      omega
    have hyM : y0 ≤ M := by
      have : y0 ≤ Y := by rw [← hY]; exact Nat.le_mul_of_pos_left y0 hpt
      omega
    have htl : t ≤ 1280000 := by
      have h3 : 2 ^ t ≤ X := by rw [← hX]; exact Nat.le_mul_of_pos_right _ hx0
      have h4 := lim_len.1 (Nat.le_refl (lim X).length)
      rw [B_two] at h4
      have h5 : 2 ^ t < 2 ^ (32 * (lim X).length) := Nat.lt_of_le_of_lt h3 h4
      have h6 := (Nat.pow_lt_pow_iff_right (by omega)).1 h5
      have h7 := HLX.out
      omega
    obtain ⟨G, hg⟩ : ∃ g, g = Nat.gcd x0 y0 := ⟨_, rfl⟩
    rw [← hg] at hG
    have HG := Lib.hid hG; have HML := Lib.hid hML
    obtain ⟨K, hK⟩ : ∃ k, k = x0 + y0 := ⟨_, rfl⟩
    have hst : Cm3 w G M K _ _ _ := ⟨x0, y0, hp0, hx0, hg.symm, hxM, hyM, hpar, hK.symm, hbel⟩
    have HST := Lib.hid hst
    have htI : (t : Int) ≤ 1280000 := by omega
    clear hst hp0 hx0 hX hY hpar hbel hG hpt hM hML hxM hyM htl hg hK HP B2
    go_wp2_with fail
    go_loopg [6, 7] K (fun k s6 s7 wr => Cm3 w G M k s6 s7 wr)
    case atStart => exact HST.out
    case round =>
      clear HST
      obtain ⟨x, y, hp, hx0, hgc, hxM, hyM, hpar, hk, hbel⟩ := hrel
      have lx : (lim x).length ≤ 40000 := Nat.le_trans (lim_mono hxM) HML.out
      have ly : (lim y).length ≤ 40000 := Nat.le_trans (lim_mono hyM) HML.out
      rcases Nat.eq_zero_or_pos y with hy | hy
      · subst hy
        have hxG : x = G := by rw [← hgc, Nat.gcd_zero_right]
        subst hxG
        obtain ⟨A1, c1, e1, _, _, _⟩ := own_form hp.oa
        obtain ⟨A2, c2, e2, _, _, _⟩ := own_form hp.ob
        have S1 := Lib.hid (own_sl hp.oa)
        rw [lim_zero, List.length_nil] at e2
        subst e1 e2
        have HBE := Lib.hid hbel
        obtain ⟨nx, hnx⟩ : ∃ n, n = (lim x).length := ⟨_, rfl⟩
        rw [← hnx] at S1 ⊢
        clear hp hgc hxM hyM hpar hk hbel lx ly hnx hx0
        go_wp2_with fail
        have HST := Lib.hid S1.out
        go_loopw [6, 9] (fun s6 s9 wr => ∃ i : Nat, i ≤ t ∧ s9 = .int .i64 ((i : Nat) : Int) ∧ Sl wr s6 (lim (2 ^ i * x)) ∧ Below w.heap.size w wr) (fun _ s9 _ => t - (intOf s9).toNat)
        case atStart => exact ⟨0, Nat.zero_le _, rfl, by rw [Nat.pow_zero, Nat.one_mul]; exact S1.out, HBE.out⟩
        case round =>
          clear S1 HBE HST
          obtain ⟨i, hi, rfl, hs, hbel⟩ := hrel
          have HBE := Lib.hid hbel
          rcases Nat.lt_or_ge i t with hlt | hge
          · have hle : 2 ^ i * x ≤ X := by
              have h1 : 2 ^ i * x ≤ 2 ^ t * x := Nat.mul_le_mul_right _ (Nat.pow_le_pow_right (by omega) hi)
              rw [← HG.out] at h1
              exact Nat.le_trans h1 (Nat.le_of_dvd HX.out (Nat.gcd_dvd_left _ _))
            have hln := Nat.le_trans (lim_mono hle) HLX.out
            have HP := Lib.hid (rplus_lim hs hs (by omega) (by omega))
            have HE := Lib.hid (show 2 ^ i * x + 2 ^ i * x = 2 ^ (i + 1) * x by rw [Nat.pow_succ, Nat.mul_assoc, Nat.mul_comm 2 x, ← Nat.mul_assoc]; omega)
            have hiI : (i : Int) < (t : Int) := by omega
            have HI := Lib.hid (show i + 1 ≤ t by omega)
            clear hle hln hs hbel hi hlt
            go_wp2_with fail
            refine HP.out.mono ?_
            rintro e w3 ⟨v3, rfl, hs3, hb3⟩
            have S3 := Lib.hid hs3; have B3 := Lib.hid (below_step HBE.out hb3)
            clear hs3 hb3 HP HBE
            go_wp2_with fail
            go_roundw
            case rel =>
              have hr1 : ∃ i' : Nat, i' ≤ t ∧ Value.int .i64 ((i : Int) + 1) = .int .i64 ((i' : Nat) : Int) ∧ Sl w3 v3 (lim (2 ^ i' * x)) ∧ Below w.heap.size w w3 := ⟨i + 1, HI.out, by simp, by rw [← HE.out]; exact S3.out, B3.out⟩
              first | exact hr1 | ((repeat apply Exists.intro); exact ⟨hr1, rfl⟩)
            case measure => simp only [intOf]; omega
          · have hit : i = t := by omega
            subst hit
            have HS := Lib.hid hs
            clear hs hbel hi hge
            go_wp2_with fail
            go_ret
            exact ⟨_, rfl, by rw [HG.out]; exact HS.out, HBE.out⟩
      · have HGC := Lib.hid hgc; have HXM := Lib.hid hxM; have HYM := Lib.hid hyM; have HK := Lib.hid hk; have HY0 := Lib.hid hy
        have hpar2 : x % 2 = 1 ∨ y % 2 = 1 := by omega
        obtain ⟨KA, hKA⟩ : ∃ k, k = x := ⟨_, rfl⟩
        have HST := Lib.hid (show ∃ x', Pq wr w.heap.size u6 u7 x' y ∧ 0 < x' ∧ Nat.gcd x' y = G ∧ (x' % 2 = 1 ∨ y % 2 = 1) ∧ x' ≤ x ∧ x' = KA ∧ Below w.heap.size w wr from ⟨x, hp, hx0, hgc, hpar2, Nat.le_refl _, hKA.symm, hbel⟩)
        obtain ⟨A2, c2, e2, _, _, _⟩ := own_form hp.ob
        have hn1 := pos_lim hy
        obtain ⟨ny, hny⟩ : ∃ n, n = (lim y).length := ⟨_, rfl⟩
        rw [← hny] at e2 hn1
        subst e2
        have hn1I : (0 : Int) < (ny : Int) := by omega
        have hnD : decide (0 < ny) = true := decide_eq_true hn1
        clear hp hgc hxM hyM hpar hk hbel lx ly hpar2 hKA hny hx0 hn1
        go_wp2_with fail
        try simp only [hnD]
        go_loopg [6] KA (fun k s6 wr => ∃ x', Pq wr w.heap.size s6 (.slice A2 ny c2) x' y ∧ 0 < x' ∧ Nat.gcd x' y = G ∧ (x' % 2 = 1 ∨ y % 2 = 1) ∧ x' ≤ x ∧ x' = k ∧ Below w.heap.size w wr)
        case atStart => exact HST.out
        case round =>
          clear HST
          obtain ⟨x', hp, hx0, hgc, hpar, hxx, hk, hbel⟩ := hrel
          have lx : (lim x').length ≤ 40000 := Nat.le_trans (lim_mono (Nat.le_trans hxx HXM.out)) HML.out
          have HBE := Lib.hid hbel
          rcases (show x' % 2 = 1 ∨ x' % 2 = 0 by omega) with hx2 | hx2
          · have HA := Lib.hid (rodd_lim (own_sl hp.oa) (by omega) true (by rw [hx2]; rfl))
            obtain ⟨KB, hKB⟩ : ∃ k, k = y := ⟨_, rfl⟩
            have hst : ∃ y', Pq _ w.heap.size _ _ x' y' ∧ 0 < y' ∧ Nat.gcd x' y' = G ∧ y' ≤ y ∧ y' = KB ∧ Below w.heap.size w _ := ⟨y, hp, HY0.out, hgc, Nat.le_refl _, hKB.symm, hbel⟩
            have HST := Lib.hid hst
            have HX0 := Lib.hid hx0; have HX2 := Lib.hid hx2; have HXX := Lib.hid hxx; have LX := Lib.hid lx
            clear hst hp hgc hpar hxx hk hbel hx0 hx2 hKB lx
            go_wp2_with (go_at_call 123; (with_reducible refine HA.out.mono ?_); rintro e w' ⟨rfl, rfl⟩)
            go_loopg [7] KB (fun k s7 wr => ∃ y', Pq wr w.heap.size u6 s7 x' y' ∧ 0 < y' ∧ Nat.gcd x' y' = G ∧ y' ≤ y ∧ y' = k ∧ Below w.heap.size w wr)
            case atStart => exact HST.out
            case round =>
              clear HST HA
              obtain ⟨y', hp, hy0, hgc, hyy, hk, hbel⟩ := hrel
              have ly : (lim y').length ≤ 40000 := Nat.le_trans (lim_mono (Nat.le_trans hyy HYM.out)) HML.out
              have HBE := Lib.hid hbel
              rcases (show y' % 2 = 1 ∨ y' % 2 = 0 by omega) with hy2 | hy2
              · have HA := Lib.hid (rodd_lim (own_sl hp.ob) (by omega) true (by rw [hy2]; rfl))
                have lx := LX.out
                have HC := Lib.hid (rcompare_lim (own_sl hp.oa) (own_sl hp.ob) (by omega) (by omega))
                obtain ⟨o1, ho1⟩ : ∃ o, o = ord x' y' := ⟨_, rfl⟩
                rw [← ho1] at HC
                have hx0 := HX0.out; have hx2 := HX2.out; have hxx := HXX.out; have hxM := HXM.out; have hyM := HYM.out
                by_cases hgt : y' < x'
                · have ho : 0 < o1 := by rw [ho1]; unfold ord; rw [if_neg (by omega), if_neg (by omega)]; omega
                  have HT := Lib.hid (hp.swap.takeB hx0 (Nat.le_of_lt hgt) (by omega) (by omega))
                  have HN := Lib.hid (show Nat.gcd y' (x' - y') = G ∧ y' ≤ M ∧ x' - y' ≤ M ∧ y' + (x' - y') < x + y from
                    ⟨by rw [gcd_take y' x' (Nat.le_of_lt hgt), Nat.gcd_comm]; exact hgc, by omega, by omega, by have := HY0.out; omega⟩)
                  have HY2 := Lib.hid hy2; have HYP := Lib.hid hy0
                  clear hp hy0 hgc hyy hk hbel hy2 lx ly ho1 hgt hx0 hx2 hxx hxM hyM
                  go_wp2_with (first | (go_at_call 123; (with_reducible refine HA.out.mono ?_); rintro e w' ⟨rfl, rfl⟩) | (go_at_call 98; (with_reducible refine HC.out.mono ?_); rintro e w' ⟨rfl, rfl⟩))
                  refine HT.out.mono ?_
                  rintro e w3 ⟨v3, rfl, hp3, hb3⟩
                  have HP3 := Lib.hid hp3; have HB3 := Lib.hid (HBE.out.trans hb3)
                  clear hp3 hb3 HT HA HBE HC
                  go_wp2_with fail
                  go_roundg (y' + (x' - y'))
                  case measure => rw [← HK.out]; exact HN.out.2.2.2
                  case rel =>
                    have hr1 : Cm3 w G M (y' + (x' - y')) u7 v3 w3 := ⟨y', x' - y', HP3.out, HYP.out, HN.out.1, HN.out.2.1, HN.out.2.2.1, Or.inr (Or.inl HY2.out), rfl, HB3.out⟩
                    first | exact hr1 | ((repeat apply Exists.intro); exact ⟨hr1, rfl⟩)
                · have ho : ¬ (0 < o1) := by rw [ho1]; unfold ord; split <;> (try split) <;> omega
                  have HT := Lib.hid (hp.takeB hy0 (by omega) (by omega) (by omega))
                  have HN := Lib.hid (show Nat.gcd x' (y' - x') = G ∧ x' ≤ M ∧ y' - x' ≤ M ∧ x' + (y' - x') < x + y from
                    ⟨by rw [gcd_take x' y' (by omega)]; exact hgc, by omega, by omega, by omega⟩)
                  clear hp hy0 hgc hyy hk hbel hy2 lx ly ho1 hgt hx0 hx2 hxx hxM hyM
                  go_wp2_with (first | (go_at_call 123; (with_reducible refine HA.out.mono ?_); rintro e w' ⟨rfl, rfl⟩) | (go_at_call 98; (with_reducible refine HC.out.mono ?_); rintro e w' ⟨rfl, rfl⟩))
                  refine HT.out.mono ?_
                  rintro e w3 ⟨v3, rfl, hp3, hb3⟩
                  have HP3 := Lib.hid hp3; have HB3 := Lib.hid (HBE.out.trans hb3)
                  clear hp3 hb3 HT HA HBE HC
                  go_wp2_with fail
                  go_roundg (x' + (y' - x'))
                  case measure => rw [← HK.out]; exact HN.out.2.2.2
                  case rel =>
                    have hr1 : Cm3 w G M (x' + (y' - x')) u6 v3 w3 := ⟨x', y' - x', HP3.out, HX0.out, HN.out.1, HN.out.2.1, HN.out.2.2.1, Or.inr (Or.inl HX2.out), rfl, HB3.out⟩
                    first | exact hr1 | ((repeat apply Exists.intro); exact ⟨hr1, rfl⟩)
              · have HA := Lib.hid (rodd_lim (own_sl hp.ob) (by omega) false (by rw [hy2]; rfl))
                have HH := Lib.hid (hp.halfB hy0 (by omega))
                have HKK := Lib.hid hk
                have HN := Lib.hid (show 0 < y' / 2 ∧ Nat.gcd x' (y' / 2) = G ∧ y' / 2 ≤ y ∧ y' / 2 < y' by
                  refine ⟨by omega, ?_, by omega, by omega⟩
                  rw [← hgc, ← gcd_half_right x' (y' / 2) HX2.out, show 2 * (y' / 2) = y' by omega])
                clear hp hy0 hgc hyy hk hbel hy2 ly
                go_wp2_with (go_at_call 123; (with_reducible refine HA.out.mono ?_); rintro e w' ⟨rfl, rfl⟩)
                refine HH.out.mono ?_
                rintro e w3 ⟨v3, rfl, hp3, hb3⟩
                have HP3 := Lib.hid hp3; have HB3 := Lib.hid (HBE.out.trans hb3)
                clear hp3 hb3 HH HA HBE
                go_wp2_with fail
                go_roundg (y' / 2)
                case measure => rw [← HKK.out]; exact HN.out.2.2.2
                case rel =>
                  have hr1 : ∃ y'', Pq w3 w.heap.size u6 v3 x' y'' ∧ 0 < y'' ∧ Nat.gcd x' y'' = G ∧ y'' ≤ y ∧ y'' = y' / 2 ∧ Below w.heap.size w w3 := ⟨y' / 2, HP3.out, HN.out.1, HN.out.2.1, HN.out.2.2.1, rfl, HB3.out⟩
                  first | exact hr1 | ((repeat apply Exists.intro); exact ⟨hr1, rfl⟩)
          · have HA := Lib.hid (rodd_lim (own_sl hp.oa) (by omega) false (by rw [hx2]; rfl))
            have HH := Lib.hid (hp.halfA hx0 (by omega))
            have HKK := Lib.hid hk
            have hy1 : y % 2 = 1 := by omega
            have HN := Lib.hid (show 0 < x' / 2 ∧ Nat.gcd (x' / 2) y = G ∧ x' / 2 ≤ x ∧ x' / 2 < x' by
              refine ⟨by omega, ?_, by omega, by omega⟩
              rw [← hgc, ← gcd_half_left (x' / 2) y hy1, show 2 * (x' / 2) = x' by omega])
            have HY1 := Lib.hid hy1
            clear hp hgc hpar hxx hk hbel hx0 hx2 lx hy1
            go_wp2_with (go_at_call 123; (with_reducible refine HA.out.mono ?_); rintro e w' ⟨rfl, rfl⟩)
            refine HH.out.mono ?_
            rintro e w3 ⟨v3, rfl, hp3, hb3⟩
            have HP3 := Lib.hid hp3; have HB3 := Lib.hid (HBE.out.trans hb3)
            clear hp3 hb3 HH HA HBE
            go_wp2_with fail
            go_roundg (x' / 2)
            case measure => rw [← HKK.out]; exact HN.out.2.2.2
            case rel =>
              have hr1 : ∃ x'', Pq w3 w.heap.size v3 (.slice A2 ny c2) x'' y ∧ 0 < x'' ∧ Nat.gcd x'' y = G ∧ (x'' % 2 = 1 ∨ y % 2 = 1) ∧ x'' ≤ x ∧ x'' = x' / 2 ∧ Below w.heap.size w w3 := ⟨x' / 2, HP3.out, HN.out.1, HN.out.2.1, Or.inr HY1.out, HN.out.2.2.1, rfl, HB3.out⟩
              first | exact hr1 | ((repeat apply Exists.intro); exact ⟨hr1, rfl⟩)
end Go.Proofs.YtbfhilbagojdnaaGreat
namespace Go.Proofs.YtbfhilbagojdnaaGreat
open Go.RowKit Wr Go.Proofs.YtbfhilbagojdnaaGreat.Nm
set_option linter.unusedVariables false
set_option maxRecDepth 100000

set_option maxHeartbeats 1000000 in
theorem rden_any {v1 v2 : Value} {n d : List Nat} {w : World} (h1 : Sl w v1 n) (h2 : Sl w v2 d) (hl : d.length ≤ 1048576) : Calls Tryz.prog 54 #[.agg #[v1, v2]] w (CpP w (denL d)) := by
  obtain ⟨A, c, rfl, _, _, _⟩ := h1
  have S2 := Lib.hid h2
  obtain ⟨A2, c2, rfl, hc, hn, hr⟩ := h2
  rcases Nat.eq_zero_or_pos d.length with h0 | h0
  · obtain rfl := List.length_eq_zero_iff.1 h0
    clear hr hn hc S2 h0
    have hbs := one_bs (w.alloc (.cells #[.slice A n.length c, .slice A2 0 c2] 27))
    show Calls Tryz.prog 54 #[.agg #[.slice A n.length c, .slice A2 0 c2]] w _
    generalize n.length = ln at *
    go_enter Tryz.func54, Tryz.ntmps54
    go_wp2
    go_ret
    exact ⟨_, rfl, by have h := sl_one (w.alloc (.cells #[.slice A ln c, .slice A2 0 c2] 27)); rw [show denL [] = [1] from rfl]; simpa using h, ((Below.refl w.heap.size w).alloc (Nat.le_refl _) _).alloc (by simp) _⟩
  · have hd : denL d = d := by unfold denL; rw [if_neg (by intro e; rw [e] at h0; simp at h0)]
    rw [hd]
    have hne : ((d.length : Int) == 0) = false := by rw [beq_eq_false_iff_ne]; omega
    generalize hld : d.length = ld at *
    generalize n.length = ln at *
    clear hr hn hc hd hld
    go_enter Tryz.func54, Tryz.ntmps54
    go_wp2
    go_ret
    exact ⟨.slice A2 ld c2, rfl, S2.out.below ((Below.refl w.heap.size w).alloc (Nat.le_refl _) _), (Below.refl w.heap.size w).alloc (Nat.le_refl _) _⟩
def RdA (w : World) (a b : Nat) (s0 s1 : Value) (wx : World) : Prop := Sl wx s0 (lim a) ∧ Sl wx s1 (lim b) ∧ Blk wx w.heap.size 27 [.slice none 0 0, .slice none 0 0] ∧ Below w.heap.size w wx
def RdB (w : World) (a b : Nat) (s0 s1 : Value) (wx : World) : Prop := Sl wx s0 (lim a) ∧ Sl wx s1 (dl b) ∧ Blk wx w.heap.size 27 [.slice none 0 0, .slice none 0 0] ∧ Below w.heap.size w wx
theorem dl_len2 {b n : Nat} (h : (lim b).length ≤ n) : (dl b).length ≤ n := by unfold dl; split; exact Nat.zero_le _; exact h
theorem made_if {a b : Nat} (h0 : 0 < b) : madeR a b = if 64 < (lim a).length ∨ 64 < (dl b).length then (noR, 4) else ((lim a, dl b), 0) := by
  unfold madeR
  have h1 := lim_len (n := a) (k := 64)
  have h2 := dl_len b h0
  by_cases hc : a < 4294967296 ^ 64 ∧ b < 4294967296 ^ 64
  · have a1 := h1.2 hc.1; have a2 := h2.2 hc.2
    rw [if_pos hc, if_neg (by omega)]
  · rw [if_neg hc]
    rw [if_pos]
    by_cases h3 : 64 < (lim a).length
    · exact Or.inl h3
    · right
      have a1 := h1.1 (by omega)
      by_cases h4 : 64 < (dl b).length
      · exact h4
      · exact absurd ⟨a1, h2.1 (by omega)⟩ hc
set_option maxHeartbeats 2000000 in
theorem rreduced_any {v1 v2 : Value} {x y : Nat} {w : World} (h1 : Sl w v1 (lim x)) (h2 : Sl w v2 (lim y)) (h0 : 0 < y) (hl : (lim x).length ≤ 40000) (hl2 : (lim y).length ≤ 40000) : Calls Tryz.prog 51 #[v1, v2] w (RtP w (lowR x y)) := by
  have HR0 := Lib.hid (res0 w); have HB0 := Lib.hid (bel0 w)
  rcases Nat.eq_zero_or_pos x with hx0 | hx0
  · subst hx0
    have hlow : lowR 0 y = (noR, 0) := by
      unfold lowR madeR
      rw [Nat.gcd_zero_left, Nat.div_self h0, Nat.zero_div, if_pos ⟨Nat.pow_pos (by omega), Nat.one_lt_pow (by omega) (by omega)⟩, lim_zero, dl_one]; rfl
    have HL := Lib.hid hlow
    obtain ⟨A, c, e1, _, _, _⟩ := h1
    obtain ⟨A2, c2, e2, _, _, _⟩ := h2
    rw [lim_zero, List.length_nil] at e1
    subst e1 e2
    generalize (lim y).length = ly at *
    rw [hlow]
    clear hlow hl hl2
    go_enter Tryz.func51, Tryz.ntmps51
    go_upto_region 1 with (fail)
    generalize w.alloc (.cells #[.slice none 0 0, .slice none 0 0] 27) = W0 at HR0 HB0 ⊢
    obtain ⟨hc1, hc2, hf1, hf2⟩ := blk_cells2 HR0.out
    go_wp2_with fail
    have hbk := (((HR0.out).put 0 (.slice none 0 0)).put 1 (.slice none 0 0))
    have hbl := (((HB0.out).setCell (p := ⟨w.heap.size, 0, none⟩) (Nat.le_refl _) (.slice none 0 0)).setCell (p := ⟨w.heap.size, 1, none⟩) (Nat.le_refl _) (.slice none 0 0))
    refine bodyPost_ret (v := .tuple #[.agg #[(.slice none 0 0), (.slice none 0 0)], .int .i64 0]) ?_ rfl ⟨.agg #[(.slice none 0 0), (.slice none 0 0)], rfl, ⟨_, _, rfl, sl_res (Sl.nil _) HR0.out _ _ _ _ _ _, sl_res (Sl.nil _) HR0.out _ _ _ _ _ _⟩, hbl⟩
    have hr := run_loadVar_at (P := Tryz.prog) _ ⟨w.heap.size, 0, none⟩ 27 [(.slice none 0 0), (.slice none 0 0)] _ hbk.at Tryz.underlying27 rfl size28
    simp [results, Tryz.results51, asAddr, hr]
  · have hgx : 0 < Nat.gcd x y := Nat.gcd_pos_of_pos_right x h0
    obtain ⟨G, hG⟩ : ∃ g, g = Nat.gcd x y := ⟨_, rfl⟩
    rw [← hG] at hgx
    have hGy : G ≤ y := by rw [hG]; exact Nat.le_of_dvd h0 (Nat.gcd_dvd_right x y)
    have hyG : 0 < y / G := Nat.div_pos hGy hgx
    have HC := Lib.hid (fun W (h : Below w.heap.size w W) => rcommon_any (h2.below h) (h1.below h) h0 hl2 hl)
    rw [Nat.gcd_comm, ← hG] at HC
    have hlow : lowR x y = madeR (x / G) (y / G) := by unfold lowR; rw [hG]
    rw [hlow]
    have S1 := Lib.hid h1; have S2 := Lib.hid h2
    obtain ⟨A, c, e1, _, _, _⟩ := h1
    have hx1 := pos_lim hx0
    have HLX := Lib.hid hl; have HLY := Lib.hid hl2
    have HG := Lib.hid (And.intro hgx hGy)
    have HGL := Lib.hid (Nat.le_trans (lim_mono hGy) hl2)
    have HXG := Lib.hid (Nat.le_trans (lim_mono (Nat.div_le_self x G)) hl); have HYG := Lib.hid (Nat.le_trans (lim_mono (Nat.div_le_self y G)) hl2)
    have HY0 := Lib.hid hyG
    obtain ⟨nx, hnx⟩ : ∃ n, n = (lim x).length := ⟨_, rfl⟩
    rw [← hnx] at e1 hx1
    subst e1
    have hne : ((nx : Int) == 0) = false := by rw [beq_eq_false_iff_ne]; omega
    clear h2 hG hgx hGy hyG hlow hl hl2 hnx
    go_enter Tryz.func51, Tryz.ntmps51
    go_upto_region 1 with (fail)
    generalize w.alloc (.cells #[.slice none 0 0, .slice none 0 0] 27) = W0 at HR0 HB0 ⊢
    go_upto_region 4 with (go_at_call 99; (refine (HC.out _ HB0.out).mono ?_); rintro e w1 ⟨vg, rfl, hsg, hb1⟩)
    have HB1 := Lib.hid (below_step HB0.out hb1); have HR1 := Lib.hid (HR0.out.below hb1 HR0.out.lt)
    have SG := Lib.hid hsg
    have hb1' := below_step HB0.out hb1
    have S1a := Lib.hid (S1.out.below hb1'); have S2a := Lib.hid (S2.out.below hb1')
    obtain ⟨bg, hbg⟩ : ∃ b, b = decide (G = 1) := ⟨_, rfl⟩
    have HO := Lib.hid (rone_lim SG.out (by have := HGL.out; omega) bg hbg)
    have HBG := Lib.hid hbg
    clear hsg hb1 hb1' HC HB0 HR0 S1 S2 hbg
    go_upto_if 16 with (go_at_call 100; (with_reducible refine HO.out.mono ?_); rintro e w' ⟨rfl, rfl⟩)
    go_cut [0, 1] from 7 (fun s0 s1 wx => RdA w (x / G) (y / G) s0 s1 wx)
    case first =>
      cases bg with
      | true =>
        have g1 : G = 1 := of_decide_eq_true HBG.out.symm
        subst g1
        have hF : RdA w (x / 1) (y / 1) (.slice A nx c) v2 w1 := ⟨by rw [Nat.div_one]; exact S1a.out, by rw [Nat.div_one]; exact S2a.out, HR1.out, HB1.out⟩
        have HF := Lib.hid hF
        clear hF
        go_wp2_with fail
        go_meet
        exact HF.out
      | false =>
        have HD1 := Lib.hid (quo_any S1a.out SG.out HG.out.1 HLX.out HGL.out)
        go_wp2_with fail
        refine HD1.out.mono ?_
        rintro e w2 ⟨d1, r1, rfl, sd1, sr1, hb2⟩
        have B2 := Lib.hid (below_step HB1.out hb2); have R2 := Lib.hid (HR1.out.below hb2 HR1.out.lt)
        have D1 := Lib.hid sd1
        have HD2 := Lib.hid (quo_any (S2a.out.below hb2) (SG.out.below hb2) HG.out.1 HLY.out HGL.out)
        clear sd1 sr1 hb2 HD1 HB1 HR1
        go_wp2_with fail
        refine HD2.out.mono ?_
        rintro e w3 ⟨d2, r2, rfl, sd2, sr2, hb3⟩
        have hF : RdA w (x / G) (y / G) d1 d2 w3 := ⟨D1.out.below hb3, sd2, R2.out.below hb3 R2.out.lt, below_step B2.out hb3⟩
        have HF := Lib.hid hF
        clear hF sd2 sr2 hb3 HD2
        go_wp2_with fail
        go_meet
        exact HF.out
    case rest =>
      obtain ⟨s1, s2, hr, hb⟩ := hcut
      clear S1a S2a HR1 HB1 SG HLX HLY HGL HG HO HBG
      obtain ⟨a, ea⟩ : ∃ a, a = x / G := ⟨_, rfl⟩
      obtain ⟨b, eb⟩ : ∃ a, a = y / G := ⟨_, rfl⟩
      rw [← ea] at HXG s1
      rw [← eb] at HYG HY0 s2
      have HM := Lib.hid (show madeR (x / G) (y / G) = if 64 < (lim a).length ∨ 64 < (dl b).length then (noR, 4) else ((lim a, dl b), 0) by rw [← ea, ← eb]; exact made_if HY0.out)
      clear ea eb
      obtain ⟨b1, hb1⟩ : ∃ q, q = decide (b = 1) := ⟨_, rfl⟩
      have HO := Lib.hid (rone_lim s2 (by have := HYG.out; omega) b1 hb1)
      have HB1 := Lib.hid hb1
      have S1 := Lib.hid s1; have S2 := Lib.hid s2; have HR := Lib.hid hr; have HB := Lib.hid hb
      obtain ⟨A1, c1, e1, _, _, _⟩ := s1
      obtain ⟨n1, hn1⟩ : ∃ n, n = (lim a).length := ⟨_, rfl⟩
      rw [← hn1] at e1 HM HXG
      subst e1
      clear s2 hr hb hb1 hn1
      go_upto_if 30 with (go_at_call 100; (with_reducible refine HO.out.mono ?_); rintro e w' ⟨rfl, rfl⟩)
      go_cut [1] from 7 (fun s1' wx => RdB w a b (.slice A1 n1 c1) s1' wx)
      case first =>
        cases b1 with
        | true =>
          have g1 : b = 1 := of_decide_eq_true HB1.out.symm
          subst g1
          have hF : RdB w a 1 (.slice A1 n1 c1) (.slice none 0 0) wc := ⟨S1.out, Sl.nil _, HR.out, HB.out⟩
          have HF := Lib.hid hF
          clear hF
          go_wp2_with fail
          go_meet
          exact HF.out
        | false =>
          have g1 : ¬ b = 1 := of_decide_eq_false HB1.out.symm
          have hF : RdB w a b (.slice A1 n1 c1) _ wc := ⟨S1.out, by unfold dl; rw [if_neg g1]; exact S2.out, HR.out, HB.out⟩
          have HF := Lib.hid hF
          clear hF g1
          go_wp2_with fail
          go_meet
          exact HF.out
      case rest =>
        obtain ⟨t1, t2, hr, hb⟩ := hcut
        have hl2 := dl_len2 HYG.out
        have T1 := Lib.hid t1; have T2 := Lib.hid t2; have HRK := Lib.hid hr; have HBK := Lib.hid hb
        obtain ⟨A2, c2, e2, _, _, _⟩ := t2
        obtain ⟨n2, hn2⟩ : ∃ n, n = (dl b).length := ⟨_, rfl⟩
        rw [← hn2] at e2 HM hl2
        subst e2
        obtain ⟨hc1, hc2, hf1, hf2⟩ := blk_cells2 hr
        clear t1 hr hb hn2 S1 S2 HR HB HO HB1
        by_cases g1 : 64 < n1
        · have hg : (64 : Int) < (n1 : Int) := by omega
          have HE := Lib.hid (show madeR (x / G) (y / G) = (noR, 4) by rw [HM.out, if_pos (Or.inl g1)])
          clear g1 HM
          go_wp2_with fail
          have hbk := (((HRK.out).put 0 (.slice none 0 0)).put 1 (.slice none 0 0))
          have hbl := (((HBK.out).setCell (p := ⟨w.heap.size, 0, none⟩) (Nat.le_refl _) (.slice none 0 0)).setCell (p := ⟨w.heap.size, 1, none⟩) (Nat.le_refl _) (.slice none 0 0))
          refine bodyPost_ret (v := .tuple #[.agg #[(.slice none 0 0), (.slice none 0 0)], .int .i64 4]) ?_ rfl ⟨.agg #[(.slice none 0 0), (.slice none 0 0)], by rw [HE.out]; rfl, by rw [HE.out]; exact ⟨_, _, rfl, sl_res (Sl.nil _) HRK.out _ _ _ _ _ _, sl_res (Sl.nil _) HRK.out _ _ _ _ _ _⟩, hbl⟩
          have hr := run_loadVar_at (P := Tryz.prog) _ ⟨w.heap.size, 0, none⟩ 27 [(.slice none 0 0), (.slice none 0 0)] _ hbk.at Tryz.underlying27 rfl size28
          simp [results, Tryz.results51, asAddr, hr]
        · by_cases g2 : 64 < n2
          · have hg : ¬ ((64 : Int) < (n1 : Int)) := by omega
            have hg2 : (64 : Int) < (n2 : Int) := by omega
            have HE := Lib.hid (show madeR (x / G) (y / G) = (noR, 4) by rw [HM.out, if_pos (Or.inr g2)])
            clear g1 g2 HM
            go_wp2_with fail
            have hbk := (((HRK.out).put 0 (.slice none 0 0)).put 1 (.slice none 0 0))
            have hbl := (((HBK.out).setCell (p := ⟨w.heap.size, 0, none⟩) (Nat.le_refl _) (.slice none 0 0)).setCell (p := ⟨w.heap.size, 1, none⟩) (Nat.le_refl _) (.slice none 0 0))
            refine bodyPost_ret (v := .tuple #[.agg #[(.slice none 0 0), (.slice none 0 0)], .int .i64 4]) ?_ rfl ⟨.agg #[(.slice none 0 0), (.slice none 0 0)], by rw [HE.out]; rfl, by rw [HE.out]; exact ⟨_, _, rfl, sl_res (Sl.nil _) HRK.out _ _ _ _ _ _, sl_res (Sl.nil _) HRK.out _ _ _ _ _ _⟩, hbl⟩
            have hr := run_loadVar_at (P := Tryz.prog) _ ⟨w.heap.size, 0, none⟩ 27 [(.slice none 0 0), (.slice none 0 0)] _ hbk.at Tryz.underlying27 rfl size28
            simp [results, Tryz.results51, asAddr, hr]
          · have hg : ¬ ((64 : Int) < (n1 : Int)) := by omega
            have hg2 : ¬ (64 : Int) < (n2 : Int) := by omega
            have HE := Lib.hid (show madeR (x / G) (y / G) = ((lim a, dl b), 0) by rw [HM.out, if_neg (by omega)])
            clear g1 g2 HM
            go_wp2_with fail
            have hbk := (((HRK.out).put 0 (.slice A1 n1 c1)).put 1 (.slice A2 n2 c2))
            have hbl := (((HBK.out).setCell (p := ⟨w.heap.size, 0, none⟩) (Nat.le_refl _) (.slice A1 n1 c1)).setCell (p := ⟨w.heap.size, 1, none⟩) (Nat.le_refl _) (.slice A2 n2 c2))
            refine bodyPost_ret (v := .tuple #[.agg #[(.slice A1 n1 c1), (.slice A2 n2 c2)], .int .i64 0]) ?_ rfl ⟨.agg #[(.slice A1 n1 c1), (.slice A2 n2 c2)], by rw [HE.out]; rfl, by rw [HE.out]; exact ⟨_, _, rfl, sl_res T1.out HRK.out _ _ _ _ _ _, sl_res T2.out HRK.out _ _ _ _ _ _⟩, hbl⟩
            have hr := run_loadVar_at (P := Tryz.prog) _ ⟨w.heap.size, 0, none⟩ 27 [(.slice A1 n1 c1), (.slice A2 n2 c2)] _ hbk.at Tryz.underlying27 rfl size28
            simp [results, Tryz.results51, asAddr, hr]
end Go.Proofs.YtbfhilbagojdnaaGreat
namespace Go.Proofs.YtbfhilbagojdnaaGreat
open Go.RowKit Wr Go.Proofs.YtbfhilbagojdnaaGreat.Nm
set_option linter.unusedVariables false
set_option maxRecDepth 100000

theorem dropz_len_eq (l : List Nat) : (dropz l).length = l.length ↔ dropz l = l := by
  constructor
  · intro h
    have := dropz_take l
    rw [h, List.take_length] at this; exact this
  · intro h; rw [h]
theorem beq_len (a b : Nat) (q : Bool) (h : q = decide (a = b)) : (((a : Nat) : Int) == ((b : Nat) : Int)) = q := by
  rw [h, Bool.eq_iff_iff]; simp only [beq_iff_eq, decide_eq_true_eq]; omega
set_option maxHeartbeats 4000000 in
theorem rvalid_sl {v1 v2 : Value} {n d : List Nat} {w : World} (h1 : Sl w v1 n) (h2 : Sl w v2 d) (hon : Ok n) (hod : Ok d) (hl : n.length ≤ 40000) (hl2 : d.length ≤ 40000) : Calls Tryz.prog 67 #[.agg #[v1, v2]] w (VlP w (n, d)) := by
  have S1 := Lib.hid h1; have S2 := Lib.hid h2
  have HT1 := Lib.hid (fun W (h : Below w.heap.size w W) => trim_any (h1.below h) (by omega))
  have HT2 := Lib.hid (fun W (h : Below w.heap.size w W) => trim_any (h2.below h) (by omega))
  obtain ⟨A, c, e1, hc, hn, hr⟩ := h1
  obtain ⟨A2, c2, e2, hc2, hn2, hr2⟩ := h2
  subst e1 e2
  have HLL := Lib.hid (And.intro hl hl2); have HON := Lib.hid (And.intro hon hod)
  obtain ⟨ln, hln⟩ : ∃ z, z = n.length := ⟨_, rfl⟩
  obtain ⟨ld, hld⟩ : ∃ z, z = d.length := ⟨_, rfl⟩
  obtain ⟨m1, hm1⟩ : ∃ z, z = (dropz n).length := ⟨_, rfl⟩
  obtain ⟨m2, hm2⟩ : ∃ z, z = (dropz d).length := ⟨_, rfl⟩
  have HLN := Lib.hid (And.intro hln hld); have HM1 := Lib.hid hm1; have HM2 := Lib.hid hm2
  have hp1 : m1 = ln ↔ dropz n = n := by rw [hm1, hln]; exact dropz_len_eq n
  have hp2 : m2 = ld ↔ dropz d = d := by rw [hm2, hld]; exact dropz_len_eq d
  rw [← hln] at S1 HT1 hl
  rw [← hld] at S2 HT2 hl2
  rw [← hln, ← hld]
  have HX0 := Lib.hid (box0 w (.slice A ln c) (.slice A2 ld c2)); have HB0 := Lib.hid (boxb w (.slice A ln c) (.slice A2 ld c2))
  have HP1 := Lib.hid hp1; have HP2 := Lib.hid hp2
  clear hc hn hr hc2 hn2 hr2 hln hld hm1 hm2 hon hod hp1 hp2
  by_cases hbig : 64 < ln ∨ 64 < ld
  · have HE := Lib.hid (show vld (n, d) = 4 by unfold vld; rw [if_pos (by show 64 < n.length ∨ 64 < d.length; rw [← HLN.out.1, ← HLN.out.2]; exact hbig)])
    by_cases g1 : 64 < ln
    · have hg : (64 : Int) < (ln : Int) := by omega
      clear hbig g1
      go_enter Tryz.func67, Tryz.ntmps67
      go_wp2_with fail
      go_ret
      exact ⟨by rw [HE.out]; rfl, HB0.out⟩
    · have hg : ¬ (64 : Int) < (ln : Int) := by omega
      have hg2 : (64 : Int) < (ld : Int) := by omega
      clear hbig g1
      go_enter Tryz.func67, Tryz.ntmps67
      go_wp2_with fail
      go_ret
      exact ⟨by rw [HE.out]; rfl, HB0.out⟩
  · have hg : ¬ (64 : Int) < (ln : Int) := by omega
    have hg2 : ¬ (64 : Int) < (ld : Int) := by omega
    have HNB := Lib.hid (show ¬ (64 < (n, d).1.length ∨ 64 < (n, d).2.length) by show ¬ (64 < n.length ∨ 64 < d.length); rw [← HLN.out.1, ← HLN.out.2]; exact hbig)
    obtain ⟨pr, hpr⟩ : ∃ b, b = decide (dropz n = n ∧ dropz d = d) := ⟨_, rfl⟩
    have HPB := Lib.hid hpr
    clear hbig hpr
    go_enter Tryz.func67, Tryz.ntmps67
    go_upto_region 3 with fail
    generalize w.alloc (.cells #[.slice A ln c, .slice A2 ld c2] 27) = W0 at HX0 HB0 ⊢
    have HX := HX0; have HB := HB0
    clear HX0 HB0
    go_cut [3] (fun s3 wx => s3 = .bool pr ∧ Blk wx w.heap.size 27 [.slice A ln c, .slice A2 ld c2] ∧ Below w.heap.size w wx)
    case first =>
      by_cases p1 : m1 = ln
      · have HB1 := Lib.hid (beq_len m1 ln true (by simp [p1]))
        by_cases p2 : m2 = ld
        · have HB2 := Lib.hid (beq_len m2 ld true (by simp [p2]))
          have HPR := Lib.hid (show pr = true by rw [HPB.out]; exact decide_eq_true ⟨HP1.out.1 p1, HP2.out.1 p2⟩)
          clear p1 p2
          refine wp_region_held (S := fun W => Blk W w.heap.size 27 [.slice A ln c, .slice A2 ld c2]) (by kernel_rfl) ?_
          change wpAnyH _ _ _ _ _ _ _ _ (World.drew W0)
          have hs0 : Blk (World.drew W0) w.heap.size 27 [.slice A ln c, .slice A2 ld c2] := HX.out
          have BD : Hid (Below w.heap.size w (World.drew W0)) := Lib.hid (below_drewN HB.out 1)
          generalize World.drew W0 = Wd at hs0 BD ⊢
          refine wpAnyH_take (i := 0) (oi := { dst := some 14, op := Op.fieldAddr 27 (Operand.tmp 1) 0, type := 0, pos := "ref.go:192", after := #[], guard := none }) (v := .pointer (some ⟨w.heap.size, 0, none⟩)) rfl (by kernel_rfl) (by kernel_rfl) (by kernel_rfl) (fun _ _ _ h => h) (Or.inl ⟨by rfl, fun W hW => ?y1⟩) hs0 ?_
          case y1 => go_simp
          try dsimp only [Act.put]
          try simp only [List.setIfInBounds_toArray, List.set_cons_zero, List.set_cons_succ]
          refine wpAnyH_take (i := 1) (oi := { dst := some 15, op := Op.load 22 (Operand.tmp 14), type := 22, pos := "ref.go:192", after := #[{ on := 0, ground := Ground.data }], guard := none }) (v := .slice A ln c) rfl (by kernel_rfl) (by kernel_rfl) (by kernel_rfl) (fun _ _ _ h => h) (Or.inl ⟨by rfl, fun W hW => by have hcl : W.cell? ⟨w.heap.size, 0, none⟩ = some (.slice A ln c) := (Blk.cell hW 0).trans rfl; go_simp⟩) hs0 ?_
          try dsimp only [Act.put]
          try simp only [List.setIfInBounds_toArray, List.set_cons_zero, List.set_cons_succ]
          refine wpAnyH_take (i := 4) (oi := { dst := some 18, op := Op.fieldAddr 27 (Operand.tmp 1) 0, type := 0, pos := "ref.go:192", after := #[], guard := none }) (v := .pointer (some ⟨w.heap.size, 0, none⟩)) rfl (by kernel_rfl) (by kernel_rfl) (by kernel_rfl) (fun _ _ _ h => h) (Or.inl ⟨by rfl, fun W hW => ?y3⟩) hs0 ?_
          case y3 => go_simp
          try dsimp only [Act.put]
          try simp only [List.setIfInBounds_toArray, List.set_cons_zero, List.set_cons_succ]
          refine wpAnyH_take (i := 5) (oi := { dst := some 19, op := Op.load 22 (Operand.tmp 18), type := 22, pos := "ref.go:192", after := #[{ on := 4, ground := Ground.data }], guard := none }) (v := .slice A ln c) rfl (by kernel_rfl) (by kernel_rfl) (by kernel_rfl) (fun _ _ _ h => h) (Or.inl ⟨by rfl, fun W hW => by have hcl : W.cell? ⟨w.heap.size, 0, none⟩ = some (.slice A ln c) := (Blk.cell hW 0).trans rfl; go_simp⟩) hs0 ?_
          try dsimp only [Act.put]
          try simp only [List.setIfInBounds_toArray, List.set_cons_zero, List.set_cons_succ]
          refine wpAnyH_take (i := 6) (oi := { dst := some 20, op := Op.call { callee := Callee.builtin Builtin.len, args := #[Operand.tmp 19], argTypes := #[22] }, type := 3, pos := "ref.go:192", after := #[{ on := 5, ground := Ground.data }], guard := none }) (v := .int .i64 ((ln : Nat) : Int)) rfl (by kernel_rfl) (by kernel_rfl) (by kernel_rfl) (fun _ _ _ h => h) (Or.inl ⟨by rfl, fun W hW => ?y5⟩) hs0 ?_
          case y5 => go_simp
          try dsimp only [Act.put]
          try simp only [List.setIfInBounds_toArray, List.set_cons_zero, List.set_cons_succ]
          refine wpAnyH_ready (rs := [2]) (by kernel_rfl) (by simp) ?_
          refine AllReadyH.cons (o := { dst := some 16, op := Op.call { callee := Callee.value (Operand.func 86), args := #[Operand.tmp 15], argTypes := #[22] }, type := 22, pos := "ref.go:192", after := #[{ on := 1, ground := Ground.data }], guard := none }) rfl (fun K hK => ?_) AllReadyH.nil
          rw [if_pos (by rfl)]
          go_simp
          refine (HT1.out _ BD.out).mono ?_; rintro e w6 ⟨v, rfl, ⟨A', c', e2, _, _, _⟩, hb⟩
          have B8 := Lib.hid (below_step BD.out hb)
          have hs7 := hs0.below hb hs0.lt
          rw [← HM1.out] at e2
          subst e2
          clear hb
          go_wp2_with fail
          refine hK.out _ _ hs7 (fun _ => ?_)
          clear hK K
          try dsimp only [Act.put]
          try simp only [List.setIfInBounds_toArray, List.set_cons_zero, List.set_cons_succ]
          refine wpAnyH_take (i := 3) (oi := { dst := some 17, op := Op.call { callee := Callee.builtin Builtin.len, args := #[Operand.tmp 16], argTypes := #[22] }, type := 3, pos := "ref.go:192", after := #[{ on := 2, ground := Ground.data }], guard := none }) (v := .int .i64 ((m1 : Nat) : Int)) rfl (by kernel_rfl) (by kernel_rfl) (by kernel_rfl) (fun _ _ _ h => h) (Or.inl ⟨by rfl, fun W hW => ?y9⟩) hs7 ?_
          case y9 => go_simp
          try dsimp only [Act.put]
          try simp only [List.setIfInBounds_toArray, List.set_cons_zero, List.set_cons_succ]
          refine wpAnyH_take (i := 7) (oi := { dst := some 21, op := Op.binOp BinOp.eql 3 (Operand.tmp 17) (Operand.tmp 20) 3, type := 4, pos := "ref.go:192", after := #[{ on := 3, ground := Ground.data }, { on := 6, ground := Ground.data }], guard := none }) (v := .bool true) rfl (by kernel_rfl) (by kernel_rfl) (by kernel_rfl) (fun _ _ _ h => h) (Or.inl ⟨by rfl, fun W hW => by have h := HB1.out; go_simp⟩) hs7 ?_
          try dsimp only [Act.put]
          try simp only [List.setIfInBounds_toArray, List.set_cons_zero, List.set_cons_succ]
          refine wpAnyH_take (i := 8) (oi := { dst := some 22, op := Op.move (Operand.tmp 21), type := 4, pos := "ref.go:192", after := #[{ on := 7, ground := Ground.data }, { on := 2, ground := Ground.chain }], guard := none }) (v := .bool true) rfl (by kernel_rfl) (by kernel_rfl) (by kernel_rfl) (fun _ _ _ h => h) (Or.inl ⟨by rfl, fun W hW => ?y11⟩) hs7 ?_
          case y11 => go_simp
          try dsimp only [Act.put]
          try simp only [List.setIfInBounds_toArray, List.set_cons_zero, List.set_cons_succ]
          refine wpAnyH_take (i := 9) (oi := { dst := some 23, op := Op.fieldAddr 27 (Operand.tmp 1) 1, type := 0, pos := "ref.go:192", after := #[{ on := 8, ground := Ground.guard }], guard := some (8, true) }) (v := .pointer (some ⟨w.heap.size, 1, none⟩)) rfl (by kernel_rfl) (by kernel_rfl) (by kernel_rfl) (fun _ _ _ h => h) (Or.inl ⟨by rfl, fun W hW => ?y12⟩) hs7 ?_
          case y12 => go_simp
          try dsimp only [Act.put]
          try simp only [List.setIfInBounds_toArray, List.set_cons_zero, List.set_cons_succ]
          refine wpAnyH_take (i := 10) (oi := { dst := some 24, op := Op.load 22 (Operand.tmp 23), type := 22, pos := "ref.go:192", after := #[{ on := 9, ground := Ground.data }, { on := 8, ground := Ground.guard }], guard := some (8, true) }) (v := .slice A2 ld c2) rfl (by kernel_rfl) (by kernel_rfl) (by kernel_rfl) (fun _ _ _ h => h) (Or.inl ⟨by rfl, fun W hW => by have hcl : W.cell? ⟨w.heap.size, 1, none⟩ = some (.slice A2 ld c2) := (Blk.cell hW 1).trans rfl; go_simp⟩) hs7 ?_
          try dsimp only [Act.put]
          try simp only [List.setIfInBounds_toArray, List.set_cons_zero, List.set_cons_succ]
          refine wpAnyH_take (i := 13) (oi := { dst := some 27, op := Op.fieldAddr 27 (Operand.tmp 1) 1, type := 0, pos := "ref.go:192", after := #[{ on := 8, ground := Ground.guard }], guard := some (8, true) }) (v := .pointer (some ⟨w.heap.size, 1, none⟩)) rfl (by kernel_rfl) (by kernel_rfl) (by kernel_rfl) (fun _ _ _ h => h) (Or.inl ⟨by rfl, fun W hW => ?y14⟩) hs7 ?_
          case y14 => go_simp
          try dsimp only [Act.put]
          try simp only [List.setIfInBounds_toArray, List.set_cons_zero, List.set_cons_succ]
          refine wpAnyH_take (i := 14) (oi := { dst := some 28, op := Op.load 22 (Operand.tmp 27), type := 22, pos := "ref.go:192", after := #[{ on := 13, ground := Ground.data }, { on := 8, ground := Ground.guard }], guard := some (8, true) }) (v := .slice A2 ld c2) rfl (by kernel_rfl) (by kernel_rfl) (by kernel_rfl) (fun _ _ _ h => h) (Or.inl ⟨by rfl, fun W hW => by have hcl : W.cell? ⟨w.heap.size, 1, none⟩ = some (.slice A2 ld c2) := (Blk.cell hW 1).trans rfl; go_simp⟩) hs7 ?_
          try dsimp only [Act.put]
          try simp only [List.setIfInBounds_toArray, List.set_cons_zero, List.set_cons_succ]
          refine wpAnyH_take (i := 15) (oi := { dst := some 29, op := Op.call { callee := Callee.builtin Builtin.len, args := #[Operand.tmp 28], argTypes := #[22] }, type := 3, pos := "ref.go:192", after := #[{ on := 14, ground := Ground.data }, { on := 8, ground := Ground.guard }], guard := some (8, true) }) (v := .int .i64 ((ld : Nat) : Int)) rfl (by kernel_rfl) (by kernel_rfl) (by kernel_rfl) (fun _ _ _ h => h) (Or.inl ⟨by rfl, fun W hW => ?y16⟩) hs7 ?_
          case y16 => go_simp
          try dsimp only [Act.put]
          try simp only [List.setIfInBounds_toArray, List.set_cons_zero, List.set_cons_succ]
          refine wpAnyH_ready (rs := [11]) (by kernel_rfl) (by simp) ?_
          refine AllReadyH.cons (o := { dst := some 25, op := Op.call { callee := Callee.value (Operand.func 86), args := #[Operand.tmp 24], argTypes := #[22] }, type := 22, pos := "ref.go:192", after := #[{ on := 10, ground := Ground.data }, { on := 8, ground := Ground.chain }, { on := 8, ground := Ground.guard }], guard := some (8, true) }) rfl (fun K hK => ?_) AllReadyH.nil
          rw [if_pos (by rfl)]
          go_simp
          refine (HT2.out _ B8.out).mono ?_; rintro e w17 ⟨v, rfl, ⟨A', c', e2, _, _, _⟩, hb⟩
          have B19 := Lib.hid (below_step B8.out hb)
          have hs18 := hs7.below hb hs7.lt
          rw [← HM2.out] at e2
          subst e2
          clear hb
          go_wp2_with fail
          refine hK.out _ _ hs18 (fun _ => ?_)
          clear hK K
          try dsimp only [Act.put]
          try simp only [List.setIfInBounds_toArray, List.set_cons_zero, List.set_cons_succ]
          refine wpAnyH_take (i := 12) (oi := { dst := some 26, op := Op.call { callee := Callee.builtin Builtin.len, args := #[Operand.tmp 25], argTypes := #[22] }, type := 3, pos := "ref.go:192", after := #[{ on := 11, ground := Ground.data }, { on := 8, ground := Ground.guard }], guard := some (8, true) }) (v := .int .i64 ((m2 : Nat) : Int)) rfl (by kernel_rfl) (by kernel_rfl) (by kernel_rfl) (fun _ _ _ h => h) (Or.inl ⟨by rfl, fun W hW => ?y20⟩) hs18 ?_
          case y20 => go_simp
          try dsimp only [Act.put]
          try simp only [List.setIfInBounds_toArray, List.set_cons_zero, List.set_cons_succ]
          refine wpAnyH_take (i := 16) (oi := { dst := some 30, op := Op.binOp BinOp.eql 3 (Operand.tmp 26) (Operand.tmp 29) 3, type := 4, pos := "ref.go:192", after := #[{ on := 12, ground := Ground.data }, { on := 15, ground := Ground.data }, { on := 8, ground := Ground.guard }], guard := some (8, true) }) (v := .bool true) rfl (by kernel_rfl) (by kernel_rfl) (by kernel_rfl) (fun _ _ _ h => h) (Or.inl ⟨by rfl, fun W hW => by have h := HB2.out; go_simp⟩) hs18 ?_
          try dsimp only [Act.put]
          try simp only [List.setIfInBounds_toArray, List.set_cons_zero, List.set_cons_succ]
          refine wpAnyH_take (i := 17) (oi := { dst := some 31, op := Op.pick (Operand.tmp 22) (Operand.tmp 30) (Operand.const (Value.bool false)), type := 4, pos := "ref.go:192", after := #[{ on := 8, ground := Ground.data }, { on := 16, ground := Ground.data }], guard := none }) (v := .bool true) rfl (by kernel_rfl) (by kernel_rfl) (by kernel_rfl) (fun _ _ _ h => h) (Or.inl ⟨by rfl, fun W hW => ?y22⟩) hs18 ?_
          case y22 => go_simp
          try dsimp only [Act.put]
          try simp only [List.setIfInBounds_toArray, List.set_cons_zero, List.set_cons_succ]
          refine wpAnyH_take (i := 18) (oi := { dst := some 3, op := Op.assign (Operand.tmp 31), type := 4, pos := "ref.go:192", after := #[{ on := 17, ground := Ground.data }, { on := 11, ground := Ground.chain }, { on := 0, ground := Ground.phase }, { on := 1, ground := Ground.phase }, { on := 2, ground := Ground.phase }, { on := 3, ground := Ground.phase }, { on := 4, ground := Ground.phase }, { on := 5, ground := Ground.phase }, { on := 6, ground := Ground.phase }, { on := 7, ground := Ground.phase }, { on := 8, ground := Ground.phase }, { on := 9, ground := Ground.phase }, { on := 10, ground := Ground.phase }, { on := 11, ground := Ground.phase }, { on := 12, ground := Ground.phase }, { on := 13, ground := Ground.phase }, { on := 14, ground := Ground.phase }, { on := 15, ground := Ground.phase }, { on := 16, ground := Ground.phase }, { on := 17, ground := Ground.phase }], guard := none }) (v := .bool true) rfl (by kernel_rfl) (by kernel_rfl) (by kernel_rfl) (fun _ _ _ h => h) (Or.inl ⟨by rfl, fun W hW => ?y23⟩) hs18 ?_
          case y23 => go_simp
          try dsimp only [Act.put]
          try simp only [List.setIfInBounds_toArray, List.set_cons_zero, List.set_cons_succ]
          refine wpAnyH_done (by kernel_rfl) ?_ _
          try dsimp only [Act.put]
          try simp only [List.setIfInBounds_toArray, List.set_cons_zero, List.set_cons_succ]
          go_wp2_with fail
          go_meet
          exact ⟨by rw [HPR.out], hs18, B19.out⟩
        · have HB2 := Lib.hid (beq_len m2 ld false (by simp [p2]))
          have HPR := Lib.hid (show pr = false by rw [HPB.out]; exact decide_eq_false (fun h => p2 (HP2.out.2 h.2)))
          clear p1 p2
          refine wp_region_held (S := fun W => Blk W w.heap.size 27 [.slice A ln c, .slice A2 ld c2]) (by kernel_rfl) ?_
          change wpAnyH _ _ _ _ _ _ _ _ (World.drew W0)
          have hs0 : Blk (World.drew W0) w.heap.size 27 [.slice A ln c, .slice A2 ld c2] := HX.out
          have BD : Hid (Below w.heap.size w (World.drew W0)) := Lib.hid (below_drewN HB.out 1)
          generalize World.drew W0 = Wd at hs0 BD ⊢
          refine wpAnyH_take (i := 0) (oi := { dst := some 14, op := Op.fieldAddr 27 (Operand.tmp 1) 0, type := 0, pos := "ref.go:192", after := #[], guard := none }) (v := .pointer (some ⟨w.heap.size, 0, none⟩)) rfl (by kernel_rfl) (by kernel_rfl) (by kernel_rfl) (fun _ _ _ h => h) (Or.inl ⟨by rfl, fun W hW => ?y1⟩) hs0 ?_
          case y1 => go_simp
          try dsimp only [Act.put]
          try simp only [List.setIfInBounds_toArray, List.set_cons_zero, List.set_cons_succ]
          refine wpAnyH_take (i := 1) (oi := { dst := some 15, op := Op.load 22 (Operand.tmp 14), type := 22, pos := "ref.go:192", after := #[{ on := 0, ground := Ground.data }], guard := none }) (v := .slice A ln c) rfl (by kernel_rfl) (by kernel_rfl) (by kernel_rfl) (fun _ _ _ h => h) (Or.inl ⟨by rfl, fun W hW => by have hcl : W.cell? ⟨w.heap.size, 0, none⟩ = some (.slice A ln c) := (Blk.cell hW 0).trans rfl; go_simp⟩) hs0 ?_
          try dsimp only [Act.put]
          try simp only [List.setIfInBounds_toArray, List.set_cons_zero, List.set_cons_succ]
          refine wpAnyH_take (i := 4) (oi := { dst := some 18, op := Op.fieldAddr 27 (Operand.tmp 1) 0, type := 0, pos := "ref.go:192", after := #[], guard := none }) (v := .pointer (some ⟨w.heap.size, 0, none⟩)) rfl (by kernel_rfl) (by kernel_rfl) (by kernel_rfl) (fun _ _ _ h => h) (Or.inl ⟨by rfl, fun W hW => ?y3⟩) hs0 ?_
          case y3 => go_simp
          try dsimp only [Act.put]
          try simp only [List.setIfInBounds_toArray, List.set_cons_zero, List.set_cons_succ]
          refine wpAnyH_take (i := 5) (oi := { dst := some 19, op := Op.load 22 (Operand.tmp 18), type := 22, pos := "ref.go:192", after := #[{ on := 4, ground := Ground.data }], guard := none }) (v := .slice A ln c) rfl (by kernel_rfl) (by kernel_rfl) (by kernel_rfl) (fun _ _ _ h => h) (Or.inl ⟨by rfl, fun W hW => by have hcl : W.cell? ⟨w.heap.size, 0, none⟩ = some (.slice A ln c) := (Blk.cell hW 0).trans rfl; go_simp⟩) hs0 ?_
          try dsimp only [Act.put]
          try simp only [List.setIfInBounds_toArray, List.set_cons_zero, List.set_cons_succ]
          refine wpAnyH_take (i := 6) (oi := { dst := some 20, op := Op.call { callee := Callee.builtin Builtin.len, args := #[Operand.tmp 19], argTypes := #[22] }, type := 3, pos := "ref.go:192", after := #[{ on := 5, ground := Ground.data }], guard := none }) (v := .int .i64 ((ln : Nat) : Int)) rfl (by kernel_rfl) (by kernel_rfl) (by kernel_rfl) (fun _ _ _ h => h) (Or.inl ⟨by rfl, fun W hW => ?y5⟩) hs0 ?_
          case y5 => go_simp
          try dsimp only [Act.put]
          try simp only [List.setIfInBounds_toArray, List.set_cons_zero, List.set_cons_succ]
          refine wpAnyH_ready (rs := [2]) (by kernel_rfl) (by simp) ?_
          refine AllReadyH.cons (o := { dst := some 16, op := Op.call { callee := Callee.value (Operand.func 86), args := #[Operand.tmp 15], argTypes := #[22] }, type := 22, pos := "ref.go:192", after := #[{ on := 1, ground := Ground.data }], guard := none }) rfl (fun K hK => ?_) AllReadyH.nil
          rw [if_pos (by rfl)]
          go_simp
          refine (HT1.out _ BD.out).mono ?_; rintro e w6 ⟨v, rfl, ⟨A', c', e2, _, _, _⟩, hb⟩
          have B8 := Lib.hid (below_step BD.out hb)
          have hs7 := hs0.below hb hs0.lt
          rw [← HM1.out] at e2
          subst e2
          clear hb
          go_wp2_with fail
          refine hK.out _ _ hs7 (fun _ => ?_)
          clear hK K
          try dsimp only [Act.put]
          try simp only [List.setIfInBounds_toArray, List.set_cons_zero, List.set_cons_succ]
          refine wpAnyH_take (i := 3) (oi := { dst := some 17, op := Op.call { callee := Callee.builtin Builtin.len, args := #[Operand.tmp 16], argTypes := #[22] }, type := 3, pos := "ref.go:192", after := #[{ on := 2, ground := Ground.data }], guard := none }) (v := .int .i64 ((m1 : Nat) : Int)) rfl (by kernel_rfl) (by kernel_rfl) (by kernel_rfl) (fun _ _ _ h => h) (Or.inl ⟨by rfl, fun W hW => ?y9⟩) hs7 ?_
          case y9 => go_simp
          try dsimp only [Act.put]
          try simp only [List.setIfInBounds_toArray, List.set_cons_zero, List.set_cons_succ]
          refine wpAnyH_take (i := 7) (oi := { dst := some 21, op := Op.binOp BinOp.eql 3 (Operand.tmp 17) (Operand.tmp 20) 3, type := 4, pos := "ref.go:192", after := #[{ on := 3, ground := Ground.data }, { on := 6, ground := Ground.data }], guard := none }) (v := .bool true) rfl (by kernel_rfl) (by kernel_rfl) (by kernel_rfl) (fun _ _ _ h => h) (Or.inl ⟨by rfl, fun W hW => by have h := HB1.out; go_simp⟩) hs7 ?_
          try dsimp only [Act.put]
          try simp only [List.setIfInBounds_toArray, List.set_cons_zero, List.set_cons_succ]
          refine wpAnyH_take (i := 8) (oi := { dst := some 22, op := Op.move (Operand.tmp 21), type := 4, pos := "ref.go:192", after := #[{ on := 7, ground := Ground.data }, { on := 2, ground := Ground.chain }], guard := none }) (v := .bool true) rfl (by kernel_rfl) (by kernel_rfl) (by kernel_rfl) (fun _ _ _ h => h) (Or.inl ⟨by rfl, fun W hW => ?y11⟩) hs7 ?_
          case y11 => go_simp
          try dsimp only [Act.put]
          try simp only [List.setIfInBounds_toArray, List.set_cons_zero, List.set_cons_succ]
          refine wpAnyH_take (i := 9) (oi := { dst := some 23, op := Op.fieldAddr 27 (Operand.tmp 1) 1, type := 0, pos := "ref.go:192", after := #[{ on := 8, ground := Ground.guard }], guard := some (8, true) }) (v := .pointer (some ⟨w.heap.size, 1, none⟩)) rfl (by kernel_rfl) (by kernel_rfl) (by kernel_rfl) (fun _ _ _ h => h) (Or.inl ⟨by rfl, fun W hW => ?y12⟩) hs7 ?_
          case y12 => go_simp
          try dsimp only [Act.put]
          try simp only [List.setIfInBounds_toArray, List.set_cons_zero, List.set_cons_succ]
          refine wpAnyH_take (i := 10) (oi := { dst := some 24, op := Op.load 22 (Operand.tmp 23), type := 22, pos := "ref.go:192", after := #[{ on := 9, ground := Ground.data }, { on := 8, ground := Ground.guard }], guard := some (8, true) }) (v := .slice A2 ld c2) rfl (by kernel_rfl) (by kernel_rfl) (by kernel_rfl) (fun _ _ _ h => h) (Or.inl ⟨by rfl, fun W hW => by have hcl : W.cell? ⟨w.heap.size, 1, none⟩ = some (.slice A2 ld c2) := (Blk.cell hW 1).trans rfl; go_simp⟩) hs7 ?_
          try dsimp only [Act.put]
          try simp only [List.setIfInBounds_toArray, List.set_cons_zero, List.set_cons_succ]
          refine wpAnyH_take (i := 13) (oi := { dst := some 27, op := Op.fieldAddr 27 (Operand.tmp 1) 1, type := 0, pos := "ref.go:192", after := #[{ on := 8, ground := Ground.guard }], guard := some (8, true) }) (v := .pointer (some ⟨w.heap.size, 1, none⟩)) rfl (by kernel_rfl) (by kernel_rfl) (by kernel_rfl) (fun _ _ _ h => h) (Or.inl ⟨by rfl, fun W hW => ?y14⟩) hs7 ?_
          case y14 => go_simp
          try dsimp only [Act.put]
          try simp only [List.setIfInBounds_toArray, List.set_cons_zero, List.set_cons_succ]
          refine wpAnyH_take (i := 14) (oi := { dst := some 28, op := Op.load 22 (Operand.tmp 27), type := 22, pos := "ref.go:192", after := #[{ on := 13, ground := Ground.data }, { on := 8, ground := Ground.guard }], guard := some (8, true) }) (v := .slice A2 ld c2) rfl (by kernel_rfl) (by kernel_rfl) (by kernel_rfl) (fun _ _ _ h => h) (Or.inl ⟨by rfl, fun W hW => by have hcl : W.cell? ⟨w.heap.size, 1, none⟩ = some (.slice A2 ld c2) := (Blk.cell hW 1).trans rfl; go_simp⟩) hs7 ?_
          try dsimp only [Act.put]
          try simp only [List.setIfInBounds_toArray, List.set_cons_zero, List.set_cons_succ]
          refine wpAnyH_take (i := 15) (oi := { dst := some 29, op := Op.call { callee := Callee.builtin Builtin.len, args := #[Operand.tmp 28], argTypes := #[22] }, type := 3, pos := "ref.go:192", after := #[{ on := 14, ground := Ground.data }, { on := 8, ground := Ground.guard }], guard := some (8, true) }) (v := .int .i64 ((ld : Nat) : Int)) rfl (by kernel_rfl) (by kernel_rfl) (by kernel_rfl) (fun _ _ _ h => h) (Or.inl ⟨by rfl, fun W hW => ?y16⟩) hs7 ?_
          case y16 => go_simp
          try dsimp only [Act.put]
          try simp only [List.setIfInBounds_toArray, List.set_cons_zero, List.set_cons_succ]
          refine wpAnyH_ready (rs := [11]) (by kernel_rfl) (by simp) ?_
          refine AllReadyH.cons (o := { dst := some 25, op := Op.call { callee := Callee.value (Operand.func 86), args := #[Operand.tmp 24], argTypes := #[22] }, type := 22, pos := "ref.go:192", after := #[{ on := 10, ground := Ground.data }, { on := 8, ground := Ground.chain }, { on := 8, ground := Ground.guard }], guard := some (8, true) }) rfl (fun K hK => ?_) AllReadyH.nil
          rw [if_pos (by rfl)]
          go_simp
          refine (HT2.out _ B8.out).mono ?_; rintro e w17 ⟨v, rfl, ⟨A', c', e2, _, _, _⟩, hb⟩
          have B19 := Lib.hid (below_step B8.out hb)
          have hs18 := hs7.below hb hs7.lt
          rw [← HM2.out] at e2
          subst e2
          clear hb
          go_wp2_with fail
          refine hK.out _ _ hs18 (fun _ => ?_)
          clear hK K
          try dsimp only [Act.put]
          try simp only [List.setIfInBounds_toArray, List.set_cons_zero, List.set_cons_succ]
          refine wpAnyH_take (i := 12) (oi := { dst := some 26, op := Op.call { callee := Callee.builtin Builtin.len, args := #[Operand.tmp 25], argTypes := #[22] }, type := 3, pos := "ref.go:192", after := #[{ on := 11, ground := Ground.data }, { on := 8, ground := Ground.guard }], guard := some (8, true) }) (v := .int .i64 ((m2 : Nat) : Int)) rfl (by kernel_rfl) (by kernel_rfl) (by kernel_rfl) (fun _ _ _ h => h) (Or.inl ⟨by rfl, fun W hW => ?y20⟩) hs18 ?_
          case y20 => go_simp
          try dsimp only [Act.put]
          try simp only [List.setIfInBounds_toArray, List.set_cons_zero, List.set_cons_succ]
          refine wpAnyH_take (i := 16) (oi := { dst := some 30, op := Op.binOp BinOp.eql 3 (Operand.tmp 26) (Operand.tmp 29) 3, type := 4, pos := "ref.go:192", after := #[{ on := 12, ground := Ground.data }, { on := 15, ground := Ground.data }, { on := 8, ground := Ground.guard }], guard := some (8, true) }) (v := .bool false) rfl (by kernel_rfl) (by kernel_rfl) (by kernel_rfl) (fun _ _ _ h => h) (Or.inl ⟨by rfl, fun W hW => by have h := HB2.out; go_simp⟩) hs18 ?_
          try dsimp only [Act.put]
          try simp only [List.setIfInBounds_toArray, List.set_cons_zero, List.set_cons_succ]
          refine wpAnyH_take (i := 17) (oi := { dst := some 31, op := Op.pick (Operand.tmp 22) (Operand.tmp 30) (Operand.const (Value.bool false)), type := 4, pos := "ref.go:192", after := #[{ on := 8, ground := Ground.data }, { on := 16, ground := Ground.data }], guard := none }) (v := .bool false) rfl (by kernel_rfl) (by kernel_rfl) (by kernel_rfl) (fun _ _ _ h => h) (Or.inl ⟨by rfl, fun W hW => ?y22⟩) hs18 ?_
          case y22 => go_simp
          try dsimp only [Act.put]
          try simp only [List.setIfInBounds_toArray, List.set_cons_zero, List.set_cons_succ]
          refine wpAnyH_take (i := 18) (oi := { dst := some 3, op := Op.assign (Operand.tmp 31), type := 4, pos := "ref.go:192", after := #[{ on := 17, ground := Ground.data }, { on := 11, ground := Ground.chain }, { on := 0, ground := Ground.phase }, { on := 1, ground := Ground.phase }, { on := 2, ground := Ground.phase }, { on := 3, ground := Ground.phase }, { on := 4, ground := Ground.phase }, { on := 5, ground := Ground.phase }, { on := 6, ground := Ground.phase }, { on := 7, ground := Ground.phase }, { on := 8, ground := Ground.phase }, { on := 9, ground := Ground.phase }, { on := 10, ground := Ground.phase }, { on := 11, ground := Ground.phase }, { on := 12, ground := Ground.phase }, { on := 13, ground := Ground.phase }, { on := 14, ground := Ground.phase }, { on := 15, ground := Ground.phase }, { on := 16, ground := Ground.phase }, { on := 17, ground := Ground.phase }], guard := none }) (v := .bool false) rfl (by kernel_rfl) (by kernel_rfl) (by kernel_rfl) (fun _ _ _ h => h) (Or.inl ⟨by rfl, fun W hW => ?y23⟩) hs18 ?_
          case y23 => go_simp
          try dsimp only [Act.put]
          try simp only [List.setIfInBounds_toArray, List.set_cons_zero, List.set_cons_succ]
          refine wpAnyH_done (by kernel_rfl) ?_ _
          try dsimp only [Act.put]
          try simp only [List.setIfInBounds_toArray, List.set_cons_zero, List.set_cons_succ]
          go_wp2_with fail
          go_meet
          exact ⟨by rw [HPR.out], hs18, B19.out⟩
      · have HB1 := Lib.hid (beq_len m1 ln false (by simp [p1]))
        have HPR := Lib.hid (show pr = false by rw [HPB.out]; exact decide_eq_false (fun h => p1 (HP1.out.2 h.1)))
        clear p1
        refine wp_region_held (S := fun W => Blk W w.heap.size 27 [.slice A ln c, .slice A2 ld c2]) (by kernel_rfl) ?_
        change wpAnyH _ _ _ _ _ _ _ _ (World.drew W0)
        have hs0 : Blk (World.drew W0) w.heap.size 27 [.slice A ln c, .slice A2 ld c2] := HX.out
        have BD : Hid (Below w.heap.size w (World.drew W0)) := Lib.hid (below_drewN HB.out 1)
        generalize World.drew W0 = Wd at hs0 BD ⊢
        refine wpAnyH_take (i := 0) (oi := { dst := some 14, op := Op.fieldAddr 27 (Operand.tmp 1) 0, type := 0, pos := "ref.go:192", after := #[], guard := none }) (v := .pointer (some ⟨w.heap.size, 0, none⟩)) rfl (by kernel_rfl) (by kernel_rfl) (by kernel_rfl) (fun _ _ _ h => h) (Or.inl ⟨by rfl, fun W hW => ?y1⟩) hs0 ?_
        case y1 => go_simp
        try dsimp only [Act.put]
        try simp only [List.setIfInBounds_toArray, List.set_cons_zero, List.set_cons_succ]
        refine wpAnyH_take (i := 1) (oi := { dst := some 15, op := Op.load 22 (Operand.tmp 14), type := 22, pos := "ref.go:192", after := #[{ on := 0, ground := Ground.data }], guard := none }) (v := .slice A ln c) rfl (by kernel_rfl) (by kernel_rfl) (by kernel_rfl) (fun _ _ _ h => h) (Or.inl ⟨by rfl, fun W hW => by have hcl : W.cell? ⟨w.heap.size, 0, none⟩ = some (.slice A ln c) := (Blk.cell hW 0).trans rfl; go_simp⟩) hs0 ?_
        try dsimp only [Act.put]
        try simp only [List.setIfInBounds_toArray, List.set_cons_zero, List.set_cons_succ]
        refine wpAnyH_take (i := 4) (oi := { dst := some 18, op := Op.fieldAddr 27 (Operand.tmp 1) 0, type := 0, pos := "ref.go:192", after := #[], guard := none }) (v := .pointer (some ⟨w.heap.size, 0, none⟩)) rfl (by kernel_rfl) (by kernel_rfl) (by kernel_rfl) (fun _ _ _ h => h) (Or.inl ⟨by rfl, fun W hW => ?y3⟩) hs0 ?_
        case y3 => go_simp
        try dsimp only [Act.put]
        try simp only [List.setIfInBounds_toArray, List.set_cons_zero, List.set_cons_succ]
        refine wpAnyH_take (i := 5) (oi := { dst := some 19, op := Op.load 22 (Operand.tmp 18), type := 22, pos := "ref.go:192", after := #[{ on := 4, ground := Ground.data }], guard := none }) (v := .slice A ln c) rfl (by kernel_rfl) (by kernel_rfl) (by kernel_rfl) (fun _ _ _ h => h) (Or.inl ⟨by rfl, fun W hW => by have hcl : W.cell? ⟨w.heap.size, 0, none⟩ = some (.slice A ln c) := (Blk.cell hW 0).trans rfl; go_simp⟩) hs0 ?_
        try dsimp only [Act.put]
        try simp only [List.setIfInBounds_toArray, List.set_cons_zero, List.set_cons_succ]
        refine wpAnyH_take (i := 6) (oi := { dst := some 20, op := Op.call { callee := Callee.builtin Builtin.len, args := #[Operand.tmp 19], argTypes := #[22] }, type := 3, pos := "ref.go:192", after := #[{ on := 5, ground := Ground.data }], guard := none }) (v := .int .i64 ((ln : Nat) : Int)) rfl (by kernel_rfl) (by kernel_rfl) (by kernel_rfl) (fun _ _ _ h => h) (Or.inl ⟨by rfl, fun W hW => ?y5⟩) hs0 ?_
        case y5 => go_simp
        try dsimp only [Act.put]
        try simp only [List.setIfInBounds_toArray, List.set_cons_zero, List.set_cons_succ]
        refine wpAnyH_ready (rs := [2]) (by kernel_rfl) (by simp) ?_
        refine AllReadyH.cons (o := { dst := some 16, op := Op.call { callee := Callee.value (Operand.func 86), args := #[Operand.tmp 15], argTypes := #[22] }, type := 22, pos := "ref.go:192", after := #[{ on := 1, ground := Ground.data }], guard := none }) rfl (fun K hK => ?_) AllReadyH.nil
        rw [if_pos (by rfl)]
        go_simp
        refine (HT1.out _ BD.out).mono ?_; rintro e w6 ⟨v, rfl, ⟨A', c', e2, _, _, _⟩, hb⟩
        have B8 := Lib.hid (below_step BD.out hb)
        have hs7 := hs0.below hb hs0.lt
        rw [← HM1.out] at e2
        subst e2
        clear hb
        go_wp2_with fail
        refine hK.out _ _ hs7 (fun _ => ?_)
        clear hK K
        try dsimp only [Act.put]
        try simp only [List.setIfInBounds_toArray, List.set_cons_zero, List.set_cons_succ]
        refine wpAnyH_take (i := 3) (oi := { dst := some 17, op := Op.call { callee := Callee.builtin Builtin.len, args := #[Operand.tmp 16], argTypes := #[22] }, type := 3, pos := "ref.go:192", after := #[{ on := 2, ground := Ground.data }], guard := none }) (v := .int .i64 ((m1 : Nat) : Int)) rfl (by kernel_rfl) (by kernel_rfl) (by kernel_rfl) (fun _ _ _ h => h) (Or.inl ⟨by rfl, fun W hW => ?y9⟩) hs7 ?_
        case y9 => go_simp
        try dsimp only [Act.put]
        try simp only [List.setIfInBounds_toArray, List.set_cons_zero, List.set_cons_succ]
        refine wpAnyH_take (i := 7) (oi := { dst := some 21, op := Op.binOp BinOp.eql 3 (Operand.tmp 17) (Operand.tmp 20) 3, type := 4, pos := "ref.go:192", after := #[{ on := 3, ground := Ground.data }, { on := 6, ground := Ground.data }], guard := none }) (v := .bool false) rfl (by kernel_rfl) (by kernel_rfl) (by kernel_rfl) (fun _ _ _ h => h) (Or.inl ⟨by rfl, fun W hW => by have h := HB1.out; go_simp⟩) hs7 ?_
        try dsimp only [Act.put]
        try simp only [List.setIfInBounds_toArray, List.set_cons_zero, List.set_cons_succ]
        refine wpAnyH_take (i := 8) (oi := { dst := some 22, op := Op.move (Operand.tmp 21), type := 4, pos := "ref.go:192", after := #[{ on := 7, ground := Ground.data }, { on := 2, ground := Ground.chain }], guard := none }) (v := .bool false) rfl (by kernel_rfl) (by kernel_rfl) (by kernel_rfl) (fun _ _ _ h => h) (Or.inl ⟨by rfl, fun W hW => ?y11⟩) hs7 ?_
        case y11 => go_simp
        try dsimp only [Act.put]
        try simp only [List.setIfInBounds_toArray, List.set_cons_zero, List.set_cons_succ]
        refine wpAnyH_take (i := 9) (oi := { dst := some 23, op := Op.fieldAddr 27 (Operand.tmp 1) 1, type := 0, pos := "ref.go:192", after := #[{ on := 8, ground := Ground.guard }], guard := some (8, true) }) (v := undef) rfl (by kernel_rfl) (by kernel_rfl) (by kernel_rfl) (fun _ _ _ h => h) (Or.inr ⟨by rfl, rfl⟩) hs7 ?_
        try dsimp only [Act.put]
        try simp only [List.setIfInBounds_toArray, List.set_cons_zero, List.set_cons_succ]
        refine wpAnyH_take (i := 10) (oi := { dst := some 24, op := Op.load 22 (Operand.tmp 23), type := 22, pos := "ref.go:192", after := #[{ on := 9, ground := Ground.data }, { on := 8, ground := Ground.guard }], guard := some (8, true) }) (v := undef) rfl (by kernel_rfl) (by kernel_rfl) (by kernel_rfl) (fun _ _ _ h => h) (Or.inr ⟨by rfl, rfl⟩) hs7 ?_
        try dsimp only [Act.put]
        try simp only [List.setIfInBounds_toArray, List.set_cons_zero, List.set_cons_succ]
        refine wpAnyH_take (i := 11) (oi := { dst := some 25, op := Op.call { callee := Callee.value (Operand.func 86), args := #[Operand.tmp 24], argTypes := #[22] }, type := 22, pos := "ref.go:192", after := #[{ on := 10, ground := Ground.data }, { on := 8, ground := Ground.chain }, { on := 8, ground := Ground.guard }], guard := some (8, true) }) (v := undef) rfl (by kernel_rfl) (by kernel_rfl) (by kernel_rfl) (fun _ _ _ h => h) (Or.inr ⟨by rfl, rfl⟩) hs7 ?_
        try dsimp only [Act.put]
        try simp only [List.setIfInBounds_toArray, List.set_cons_zero, List.set_cons_succ]
        refine wpAnyH_take (i := 12) (oi := { dst := some 26, op := Op.call { callee := Callee.builtin Builtin.len, args := #[Operand.tmp 25], argTypes := #[22] }, type := 3, pos := "ref.go:192", after := #[{ on := 11, ground := Ground.data }, { on := 8, ground := Ground.guard }], guard := some (8, true) }) (v := undef) rfl (by kernel_rfl) (by kernel_rfl) (by kernel_rfl) (fun _ _ _ h => h) (Or.inr ⟨by rfl, rfl⟩) hs7 ?_
        try dsimp only [Act.put]
        try simp only [List.setIfInBounds_toArray, List.set_cons_zero, List.set_cons_succ]
        refine wpAnyH_take (i := 13) (oi := { dst := some 27, op := Op.fieldAddr 27 (Operand.tmp 1) 1, type := 0, pos := "ref.go:192", after := #[{ on := 8, ground := Ground.guard }], guard := some (8, true) }) (v := undef) rfl (by kernel_rfl) (by kernel_rfl) (by kernel_rfl) (fun _ _ _ h => h) (Or.inr ⟨by rfl, rfl⟩) hs7 ?_
        try dsimp only [Act.put]
        try simp only [List.setIfInBounds_toArray, List.set_cons_zero, List.set_cons_succ]
        refine wpAnyH_take (i := 14) (oi := { dst := some 28, op := Op.load 22 (Operand.tmp 27), type := 22, pos := "ref.go:192", after := #[{ on := 13, ground := Ground.data }, { on := 8, ground := Ground.guard }], guard := some (8, true) }) (v := undef) rfl (by kernel_rfl) (by kernel_rfl) (by kernel_rfl) (fun _ _ _ h => h) (Or.inr ⟨by rfl, rfl⟩) hs7 ?_
        try dsimp only [Act.put]
        try simp only [List.setIfInBounds_toArray, List.set_cons_zero, List.set_cons_succ]
        refine wpAnyH_take (i := 15) (oi := { dst := some 29, op := Op.call { callee := Callee.builtin Builtin.len, args := #[Operand.tmp 28], argTypes := #[22] }, type := 3, pos := "ref.go:192", after := #[{ on := 14, ground := Ground.data }, { on := 8, ground := Ground.guard }], guard := some (8, true) }) (v := undef) rfl (by kernel_rfl) (by kernel_rfl) (by kernel_rfl) (fun _ _ _ h => h) (Or.inr ⟨by rfl, rfl⟩) hs7 ?_
        try dsimp only [Act.put]
        try simp only [List.setIfInBounds_toArray, List.set_cons_zero, List.set_cons_succ]
        refine wpAnyH_take (i := 16) (oi := { dst := some 30, op := Op.binOp BinOp.eql 3 (Operand.tmp 26) (Operand.tmp 29) 3, type := 4, pos := "ref.go:192", after := #[{ on := 12, ground := Ground.data }, { on := 15, ground := Ground.data }, { on := 8, ground := Ground.guard }], guard := some (8, true) }) (v := undef) rfl (by kernel_rfl) (by kernel_rfl) (by kernel_rfl) (fun _ _ _ h => h) (Or.inr ⟨by rfl, rfl⟩) hs7 ?_
        try dsimp only [Act.put]
        try simp only [List.setIfInBounds_toArray, List.set_cons_zero, List.set_cons_succ]
        refine wpAnyH_take (i := 17) (oi := { dst := some 31, op := Op.pick (Operand.tmp 22) (Operand.tmp 30) (Operand.const (Value.bool false)), type := 4, pos := "ref.go:192", after := #[{ on := 8, ground := Ground.data }, { on := 16, ground := Ground.data }], guard := none }) (v := .bool false) rfl (by kernel_rfl) (by kernel_rfl) (by kernel_rfl) (fun _ _ _ h => h) (Or.inl ⟨by rfl, fun W hW => ?y20⟩) hs7 ?_
        case y20 => go_simp
        try dsimp only [Act.put]
        try simp only [List.setIfInBounds_toArray, List.set_cons_zero, List.set_cons_succ]
        refine wpAnyH_take (i := 18) (oi := { dst := some 3, op := Op.assign (Operand.tmp 31), type := 4, pos := "ref.go:192", after := #[{ on := 17, ground := Ground.data }, { on := 11, ground := Ground.chain }, { on := 0, ground := Ground.phase }, { on := 1, ground := Ground.phase }, { on := 2, ground := Ground.phase }, { on := 3, ground := Ground.phase }, { on := 4, ground := Ground.phase }, { on := 5, ground := Ground.phase }, { on := 6, ground := Ground.phase }, { on := 7, ground := Ground.phase }, { on := 8, ground := Ground.phase }, { on := 9, ground := Ground.phase }, { on := 10, ground := Ground.phase }, { on := 11, ground := Ground.phase }, { on := 12, ground := Ground.phase }, { on := 13, ground := Ground.phase }, { on := 14, ground := Ground.phase }, { on := 15, ground := Ground.phase }, { on := 16, ground := Ground.phase }, { on := 17, ground := Ground.phase }], guard := none }) (v := .bool false) rfl (by kernel_rfl) (by kernel_rfl) (by kernel_rfl) (fun _ _ _ h => h) (Or.inl ⟨by rfl, fun W hW => ?y21⟩) hs7 ?_
        case y21 => go_simp
        try dsimp only [Act.put]
        try simp only [List.setIfInBounds_toArray, List.set_cons_zero, List.set_cons_succ]
        refine wpAnyH_done (by kernel_rfl) ?_ _
        try dsimp only [Act.put]
        try simp only [List.setIfInBounds_toArray, List.set_cons_zero, List.set_cons_succ]
        go_wp2_with fail
        go_meet
        exact ⟨by rw [HPR.out], hs7, B8.out⟩
    case rest =>
      obtain ⟨rfl, hx, hb⟩ := hcut
      have HX1 := Lib.hid hx; have HB1 := Lib.hid hb
      obtain ⟨hc1, hc2, hf1, hf2⟩ := blk_cells2 hx
      have T1 := Lib.hid (S1.out.below hb); have T2 := Lib.hid (S2.out.below hb)
      clear HX HB HT1 HT2 HM1 HM2 HP1 HP2 S1 S2 hx hb
      cases pr with
      | false =>
        have HE := Lib.hid (show vld (n, d) = 1 by
          have h := of_decide_eq_false HPB.out.symm
          unfold vld
          rw [if_neg HNB.out, if_pos]
          by_cases h1 : dropz n = n
          · exact Or.inr (fun h2 => h ⟨h1, h2⟩)
          · exact Or.inl h1)
        clear HPB
        go_wp2_with fail
        go_ret
        exact ⟨by rw [HE.out]; rfl, HB1.out⟩
      | true =>
        obtain ⟨q1, q2⟩ := of_decide_eq_true HPB.out.symm
        have hv2 : (if d ≠ [] ∧ (d = [1] ∨ n = [] ∨ Nat.gcd (num n) (num d) ≠ 1) then 1 else 0) = vld (n, d) := by
          unfold vld
          have h2 : ¬ (dropz (n, d).1 ≠ (n, d).1 ∨ dropz (n, d).2 ≠ (n, d).2) := by show ¬ (dropz n ≠ n ∨ dropz d ≠ d); simp [q1, q2]
          rw [if_neg HNB.out, if_neg h2]
        have HV2 := Lib.hid hv2
        clear hv2 HNB HPB
        by_cases hd0 : d = []
        · have HE := Lib.hid (show vld (n, d) = 0 by rw [← HV2.out, if_neg (by simp [hd0])])
          have HO := Lib.hid (rone_any T2.out (by rw [hd0]; simp))
          rw [show decide (d = [1]) = false by simp [hd0]] at HO
          have hld0 : ld = 0 := by rw [HLN.out.2, hd0]; rfl
          rw [show d.length = 0 by rw [hd0]; rfl] at *
          subst hld0
          clear HV2 q1 q2 hd0
          by_cases hn0 : ln = 0
          · subst hn0
            go_wp2_with (go_at_call 100; (with_reducible refine HO.out.mono ?_); rintro e w' ⟨rfl, rfl⟩)
            go_ret
            exact ⟨by rw [HE.out]; rfl, HB1.out⟩
          · have hlnp : ((ln : Int) == 0) = false := by rw [beq_eq_false_iff_ne]; omega
            clear hn0
            go_wp2_with (go_at_call 100; (with_reducible refine HO.out.mono ?_); rintro e w' ⟨rfl, rfl⟩)
            go_ret
            exact ⟨by rw [HE.out]; rfl, HB1.out⟩
        · have hldp : 0 < ld := by rw [HLN.out.2]; rcases Nat.eq_zero_or_pos d.length with h | h; exact absurd (List.length_eq_zero_iff.1 h) hd0; exact h
          have hldI2 : (0 : Int) < (ld : Int) := by omega
          by_cases hd1 : d = [1]
          · have HE := Lib.hid (show vld (n, d) = 1 by rw [← HV2.out, if_pos ⟨hd0, Or.inl hd1⟩])
            have HO := Lib.hid (rone_any T2.out (by have := HLL.out.2; omega))
            rw [show decide (d = [1]) = true by simp [hd1]] at HO
            clear HV2 q1 q2 hd0 hd1
            go_wp2_with (go_at_call 100; (with_reducible refine HO.out.mono ?_); rintro e w' ⟨rfl, rfl⟩)
            go_ret
            exact ⟨by rw [HE.out]; rfl, HB1.out⟩
          · have HO := Lib.hid (rone_any T2.out (by have := HLL.out.2; omega))
            rw [show decide (d = [1]) = false by simp [hd1]] at HO
            by_cases hn0 : n = []
            · have HE := Lib.hid (show vld (n, d) = 1 by rw [← HV2.out, if_pos ⟨hd0, Or.inr (Or.inl hn0)⟩])
              have hln0 : ln = 0 := by rw [HLN.out.1, hn0]; rfl
              subst hln0
              clear HV2 q1 q2 hd0 hd1 hn0
              go_wp2_with (go_at_call 100; (with_reducible refine HO.out.mono ?_); rintro e w' ⟨rfl, rfl⟩)
              go_ret
              exact ⟨by rw [HE.out]; rfl, HB1.out⟩
            · have hlnp : ((ln : Int) == 0) = false := by
                rw [beq_eq_false_iff_ne, HLN.out.1]
                intro h; exact hn0 (List.length_eq_zero_iff.1 (by omega))
              have en := Prp.eq q1 HON.out.1
              have ed := Prp.eq q2 HON.out.2
              have hdp : 0 < num d := by
                rcases Nat.eq_zero_or_pos (num d) with h | h
                · rw [h, lim_zero] at ed; exact absurd ed hd0
                · exact h
              have T1' : Sl wc (.slice A ln c) (lim (num n)) := by rw [← en]; exact T1.out
              have T2' : Sl wc (.slice A2 ld c2) (lim (num d)) := by rw [← ed]; exact T2.out
              have HC := Lib.hid (rcommon_any T2' T1' hdp (by rw [← ed]; exact HLL.out.2) (by rw [← en]; exact HLL.out.1))
              rw [Nat.gcd_comm] at HC
              have hGl : (lim (Nat.gcd (num n) (num d))).length ≤ 100000 := lim_short (Nat.le_of_dvd hdp (Nat.gcd_dvd_right _ _)) (by rw [← ed]; have := HLL.out.2; omega)
              obtain ⟨G, hG⟩ : ∃ g, g = Nat.gcd (num n) (num d) := ⟨_, rfl⟩
              have hv3 : (if G ≠ 1 then 1 else 0) = vld (n, d) := by
                rw [← HV2.out, hG]
                by_cases hg : Nat.gcd (num n) (num d) ≠ 1
                · rw [if_pos hg, if_pos ⟨hd0, Or.inr (Or.inr hg)⟩]
                · rw [if_neg hg, if_neg (by rintro ⟨_, h | h | h⟩; exact hd1 h; exact hn0 h; exact hg h)]
              rw [← hG] at HC hGl
              have HV3 := Lib.hid hv3
              clear HV2 q1 q2 hd0 hd1 hn0 en ed T1' T2' hG hv3 hdp
              go_wp2_with (go_at_call 100; (with_reducible refine HO.out.mono ?_); rintro e w' ⟨rfl, rfl⟩)
              refine (HC.out).mono ?_
              rintro e w2 ⟨vg, rfl, hsg, hb2⟩
              have HB2 := Lib.hid (below_step HB1.out hb2)
              obtain ⟨bg, hbg⟩ : ∃ b, b = decide (G = 1) := ⟨_, rfl⟩
              have HO2 := Lib.hid (rone_lim hsg (by omega) bg hbg)
              have HE := Lib.hid (show vld (n, d) = if bg then 0 else 1 by
                rw [← HV3.out, hbg]
                by_cases h : G = 1
                · simp [h]
                · simp [h])
              clear hsg hb2 HV3 hbg HO hGl
              cases bg with
              | true =>
                go_wp2_with (go_at_call 100; (with_reducible refine (HO2.out).mono ?_); rintro e w' ⟨rfl, rfl⟩)
                go_ret
                exact ⟨by rw [HE.out]; rfl, HB2.out⟩
              | false =>
                go_wp2_with (go_at_call 100; (with_reducible refine (HO2.out).mono ?_); rintro e w' ⟨rfl, rfl⟩)
                go_ret
                exact ⟨by rw [HE.out]; rfl, HB2.out⟩
end Go.Proofs.YtbfhilbagojdnaaGreat
