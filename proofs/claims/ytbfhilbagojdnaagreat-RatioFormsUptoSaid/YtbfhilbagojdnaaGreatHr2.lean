/-
  Texts of the proof, joined: By, By2, RatM, RatF, RatS, RatL, RatO, Wo, Ls, Pl.
  No condition: lemmas.
-/
import Derived.Deep.OwnRows
import Derived.Lib.AppendZeros
import Derived.Test.YtbfhilbagojdnaaGreatHr1
namespace Go.Proofs.YtbfhilbagojdnaaGreat
open Go.RowKit Wr Go.Proofs.YtbfhilbagojdnaaGreat.Nm
set_option linter.unusedVariables false
set_option maxRecDepth 100000

/-- What is reached behind i limbs, if a limb is added. -/
def carT (R : List Nat) (a i : Nat) : Nat := num (R.take i) + a
theorem carT_div (R : List Nat) (a i : Nat) (hR : i < R.length) : carT R a (i + 1) / 4294967296 ^ i = carT R a i / 4294967296 ^ i + R[i] := by
  unfold carT
  rw [num_take_succ R i hR, show num (R.take i) + 4294967296 ^ i * R[i] + a = num (R.take i) + a + 4294967296 ^ i * R[i] by omega, Nat.add_mul_div_left _ _ (pow_pos i)]
theorem carT_next (R : List Nat) (a i : Nat) (hR : i < R.length) : carT R a (i + 1) / 4294967296 ^ (i + 1) = (R[i] + carT R a i / 4294967296 ^ i) / 4294967296 := by
  rw [Nat.pow_succ, ← Nat.div_div_eq_div_mul, carT_div R a i hR, Nat.add_comm]
theorem carT_digs (R : List Nat) (a i : Nat) (hR : i < R.length) : digs (i + 1) (carT R a (i + 1)) = digs i (carT R a i) ++ [(R[i] + carT R a i / 4294967296 ^ i) % 4294967296] := by
  rw [digs_snoc, carT_div R a i hR]
  congr 1
  · unfold carT
    rw [num_take_succ R i hR, show num (R.take i) + 4294967296 ^ i * R[i] + a = num (R.take i) + a + 4294967296 ^ i * R[i] by omega, digs_add]
  · rw [Nat.add_comm]
theorem carT_lt (R : List Nat) (a i : Nat) (hR : Ok R) (ha : a < 4294967296) (h1 : i ≤ R.length) : carT R a i / 4294967296 ^ i < 4294967296 := by
  rw [Nat.div_lt_iff_lt_mul (pow_pos i)]
  unfold carT
  have h := num_lt _ (hR.take i)
  rw [List.length_take, Nat.min_eq_left h1] at h
  have := pow_pos i
  omega

set_option maxHeartbeats 1000000 in
theorem addCarry_any (g : Nat) (pre post : List Value) (R : List Nat) (a c : Nat) (w : World) (hR : Ok R) (ha : a < 4294967296) (hn : R.length ≤ 1048576)
    (hp : pre.length ≤ 1048576) (hb : Row w g pre R post) :
    Calls Tryz.prog 115 #[.slice (some ⟨g, pre.length, none⟩) R.length c, .int .u32 (a : Int)] w fun e w' =>
      e = .returned (.int .u32 (((num R + a) / 4294967296 ^ R.length : Nat) : Int)) ∧ Row w' g pre (digs R.length (num R + a)) post ∧ w.grownBy w' (some g) := by
  obtain ⟨N, hN⟩ : ∃ N, N = R.length := ⟨_, rfl⟩
  obtain ⟨p, hpp⟩ : ∃ p, p = pre.length := ⟨_, rfl⟩
  obtain ⟨T, hT⟩ : ∃ T, T = num R + a := ⟨_, rfl⟩
  rw [← hN, ← hpp, ← hT]
  rw [← hN] at hn
  rw [← hpp] at hp
  have HN := Lib.hid hN; have HP := Lib.hid hpp; have HT := Lib.hid hT
  clear hN hpp hT
  go_enter Tryz.func115, Tryz.ntmps115
  go_wp2
  go_loopw [1, 8] (fun s1 s8 wr => ∃ k : Nat, k ≤ N ∧ s8 = .int .i64 k ∧ s1 = .int .u32 ((carT R a k / 4294967296 ^ k : Nat) : Int) ∧ Row wr g pre (digs k (carT R a k) ++ R.drop k) post ∧ w.grownBy wr (some g)) (fun _ s8 _ => N - (intOf s8).toNat)
  case atStart => exact ⟨0, Nat.zero_le _, rfl, by simp [carT, num], by simpa [digs] using hb, grown_refl _ _⟩
  case round =>
    obtain ⟨k, hk, rfl, rfl, hrow, hg⟩ := hrel
    by_cases hlt : k < N
    · have hkR : k < R.length := by have := HN.out; omega
      have hD := digs_len k (carT R a k)
      have hc1 := hrow.cell k (by simp [hD]; omega)
      rw [← HP.out] at hc1
      have e1 : (digs k (carT R a k) ++ R.drop k)[k]'(by simp [hD]; omega) = R[k] := by
        rw [List.getElem_append_right (by omega)]; simp [hD]
      rw [e1] at hc1
      have hf1 := Blk.frozen hrow (p + k)
      have hx := hR.get k hkR
      have hq := carT_lt R a k hR ha (by omega)
      have hdig := carT_digs R a k hkR
      have hnx := carT_next R a k hkR
      generalize carT R a k / 4294967296 ^ k = q at hdig hnx hq
      have hput := hrow.put k ((R[k] + q) % 4294967296) (by simp [hD]; omega)
      rw [← HP.out, set_snoc R _ k _ hkR hD, ← hdig] at hput
      have hgp := grown_put hg (p + k) (.int .u32 (((R[k] + q) % 4294967296 : Nat) : Int))
      generalize R[k] = x at *
      have HPut := Lib.hid hput
      have HGp := Lib.hid hgp
      have HNx := Lib.hid hnx
      clear hput hgp hdig hnx hrow hg hb hR e1 hD
      have i1 : (k : Int) < (N : Int) := by omega
      obtain ⟨v1, hv1⟩ : ∃ v, v = (x + q) % 4294967296 := ⟨_, rfl⟩
      obtain ⟨v2, hv2⟩ : ∃ v, v = (x + q) / 4294967296 := ⟨_, rfl⟩
      have HV1 := Lib.hid hv1; have HV2 := Lib.hid hv2
      clear hv1 hv2
      go_wp2_with (go_at_call 131; refine (add32_any x q _ hx hq).mono ?_; rintro e w' ⟨rfl, rfl⟩; rw [← HV1.out, ← HV2.out])
      go_roundw
      case rel =>
        refine ⟨k + 1, hlt, by go_num, ?_, ?_, ?_⟩
        · rw [HNx.out, HV2.out]
        · rw [HV1.out]; exact HPut.out
        · rw [HV1.out]; exact HGp.out
      case measure => simp only [intOf]; omega
    · obtain rfl : k = N := by omega
      have hq := carT_lt R a k hR ha (by rw [HN.out]; exact Nat.le_refl _)
      have hS : carT R a k = T := by rw [HN.out, HT.out]; unfold carT; rw [List.take_length]
      rw [hS] at hq hrow
      rw [hS]
      rw [List.drop_of_length_le (by rw [HN.out]; exact Nat.le_refl _), List.append_nil] at hrow
      generalize hQ : T / 4294967296 ^ k = q at hq ⊢
      have HQ := Lib.hid hQ
      have HRow := Lib.hid hrow
      have HG := Lib.hid hg
      clear hrow hg hS hb hQ
      go_wp2
      go_ret
      exact ⟨by rw [HQ.out]; rfl, HRow.out, HG.out⟩
end Go.Proofs.YtbfhilbagojdnaaGreat
namespace Go.Proofs.YtbfhilbagojdnaaGreat
open Go.RowKit Wr Go.Proofs.YtbfhilbagojdnaaGreat.Nm
set_option linter.unusedVariables false
set_option maxRecDepth 100000

theorem infoL : (Tryz.prog.info? 66).map (fun i => (i.zero, i.size, i.bytes)) = some (some (.int .u32 0), 1, 4) := by kernel_rfl
theorem mk22 (n : Nat) (h : n ≤ 1073741824) (W : World) : (Instr.makeSlice 22 (.int .i64 (n : Int)) (.int .i64 (n : Int))).run Tryz.prog W = .ok (.slice (some ⟨W.heap.size, 0, none⟩) n n) (W.alloc (.cells (Lc (List.replicate n 0)).toArray 66)) := by
  have h1 := run_make_row' (P := Tryz.prog) 22 66 (.int .u32 0) 4 Tryz.underlying22 infoL rfl .i64 .i64 n (by omega) (by omega) W
  have e : madeCells #[Value.int .u32 0] n = (Lc (List.replicate n 0)).toArray := by
    have := toList_madeCells_one (Value.int .u32 0) n
    rw [← Lc_rep, ← this]
  rw [e] at h1
  exact h1
theorem proper_sl {w : World} {g : Nat} {D : List Nat} {X : Nat} (hb : Blk w g 66 (Lc D)) (e : dropz D = lim X) : Sl w (.slice (some ⟨g, 0, none⟩) (dropz D).length (dropz D).length) (lim X) := by
  refine ⟨_, _, by rw [e], Nat.le_refl _, (fun e => by cases e), ?_⟩
  rw [← e]
  have h1 := (Rd.of_blk0 hb).take (dropz D).length
  rw [Lc_take, ← dropz_take] at h1
  exact h1.more hb.lt
theorem rep_set (j q : Nat) (D : List Nat) : (List.replicate (j + 1) 0 ++ D).set j q = List.replicate j 0 ++ q :: D := by
  rw [List.replicate_succ', List.append_assoc, List.set_append_right _ _ (by simp)]
  simp
def ByP (w : World) (l : List Nat) (d : Nat) (e : Ending) (w' : World) : Prop :=
  ∃ v, e = .returned (.tuple #[v, .int .u32 ((num l % d : Nat) : Int)]) ∧ Sl w' v (lim (num l / d)) ∧ Below w.heap.size w w'
set_option maxHeartbeats 1000000 in
theorem byLimb_any (A : Option Addr) (c : Nat) (l : List Nat) (d : Nat) (w : World) (hl : Ok l) (hn : l.length ≤ 1048576) (hr : Rd w w.heap.size A (Lc l)) (hd0 : 0 < d) (hd : d < 4294967296) :
    Calls Tryz.prog 109 #[.slice A l.length c, .int .u32 ((d : Nat) : Int)] w (ByP w l d) := by
  obtain ⟨N, hN⟩ : ∃ N, N = l.length := ⟨_, rfl⟩
  rw [← hN] at hn ⊢
  have HN := Lib.hid hN
  have hmk := mk22 N (by omega)
  clear hN
  go_enter Tryz.func109, Tryz.ntmps109
  go_wp2
  clear hmk
  go_loopw [7, 8] (fun s7 s8 wr => ∃ k : Nat, k ≤ N ∧ s8 = .int .i64 ((k : Int) - 1) ∧ s7 = .int .u32 ((num (l.drop k) % d : Nat) : Int) ∧ Blk wr w.heap.size 66 (Lc (List.replicate k 0 ++ digs (N - k) (num (l.drop k) / d))) ∧ Below w.heap.size w wr) (fun _ s8 _ => (intOf s8 + 1).toNat)
  case atStart =>
    refine ⟨N, Nat.le_refl _, rfl, ?_, ?_, (Below.refl _ _).alloc (Nat.le_refl _) _⟩
    · rw [List.drop_of_length_le (by rw [HN.out]; exact Nat.le_refl _)]; simp [num]
    · rw [Nat.sub_self]
      simp only [digs, List.append_nil]
      exact Blk.new w 66 (Lc (List.replicate N 0))
  case round =>
    obtain ⟨k, hk, rfl, rfl, hb, hbel⟩ := hrel
    rcases Nat.eq_zero_or_pos k with h0 | h0
    · subst h0
      rw [List.drop_zero] at hb ⊢
      rw [Nat.sub_zero] at hb
      simp only [List.replicate_zero, List.nil_append] at hb
      have hQ : num l / d < 4294967296 ^ N := by
        have := num_lt l hl
        rw [← HN.out] at this
        exact Nat.lt_of_le_of_lt (Nat.div_le_self _ _) this
      have hdz := dropz_digs N (num l / d) hQ
      have hlen := digs_len N (num l / d)
      have HB := Lib.hid hbel
      generalize hD : digs N (num l / d) = D at *
      generalize hr2 : num l % d = r at *
      have HR2 := Lib.hid hr2
      have HSL := Lib.hid (proper_sl hb hdz)
      have HLEN := Lib.hid hlen
      have HRD := Lib.hid (Rd.of_blk0 hb)
      clear hbel hdz hlen hb hQ hr hD hr2
      rw [← HLEN.out]
      rw [← HLEN.out] at hk hn
      go_wp2_with (go_at_call 97; refine (proper_any _ _ D _ _ HRD.out (by omega) (Nat.le_refl _)).mono ?_; rintro e w' ⟨rfl, rfl⟩)
      go_ret2
      exact ⟨.slice (some ⟨w.heap.size, 0, none⟩) (dropz D).length (dropz D).length, by rw [HR2.out]; rfl, HSL.out, HB.out⟩
    · obtain ⟨j, rfl⟩ : ∃ j, k = j + 1 := ⟨k - 1, by omega⟩
      have hj : j < l.length := by have := HN.out; omega
      have hrw : Rd wr w.heap.size A (Lc l) := hr.below hbel
      obtain ⟨g, o, rfl, hg, hcell⟩ := limb_cell hrw j hj
      have hx := hl.get j hj
      obtain ⟨q1, q2, q3⟩ := quo_step (num (l.drop (j + 1))) l[j] d hd0 hx
      rw [← num_drop_succ l j hj] at q1 q2
      have hq3 := q3 (by omega)
      have hrest : num (l.drop (j + 1)) % d < d := Nat.mod_lt _ hd0
      have hput := fun q => (hb.drewN q).put j (.int .u32 (((num (l.drop (j + 1)) % d * 4294967296 + l[j]) / d : Nat) : Int))
      have hsub : N - j = N - (j + 1) + 1 := by omega
      simp only [Lc_set, rep_set] at hput
      rw [← digs_cons _ _ _ hq3, ← hsub, ← q1] at hput
      have hbp := fun q => (below_drewN hbel q).setCell (p := ⟨w.heap.size, j, none⟩) (Nat.le_refl _) (.int .u32 (((num (l.drop (j + 1)) % d * 4294967296 + l[j]) / d : Nat) : Int))
      have hc2 : wr.cell? ⟨w.heap.size, j, none⟩ = some (.int .u32 0) := by
        rw [hb.cell, Lc_get _ _ (by simp; omega)]; simp
      have hf2 := hb.frozen j
      generalize hrr : num (l.drop (j + 1)) % d = r at *
      generalize l[j] = x at *
      have HPut := Lib.hid hput
      have HBP := Lib.hid hbp
      have Q2 := Lib.hid q2
      clear hput hbp q1 q2 q3 hb hbel hr hrw hsub hrr
      obtain ⟨v1, hv1⟩ : ∃ v, v = (r * 4294967296 + x) / d := ⟨_, rfl⟩
      obtain ⟨v2, hv2⟩ : ∃ v, v = (r * 4294967296 + x) % d := ⟨_, rfl⟩
      have HV1 := Lib.hid hv1; have HV2 := Lib.hid hv2
      clear hv1 hv2 hq3
      have i1 : (j : Int) < (N : Int) := by omega
      go_wp2_with (go_at_call 128; refine (div32_any r x d _ hrest hx hd).mono ?_; rintro e w' ⟨rfl, q, rfl⟩; rw [← HV1.out, ← HV2.out])
      go_roundw
      case rel =>
        refine ⟨j, by omega, by go_num, ?_, ?_, ?_⟩
        · rw [Q2.out, HV2.out]
        · rw [HV1.out]; exact HPut.out q
        · rw [HV1.out]; exact HBP.out q
      case measure => simp only [intOf]; omega
end Go.Proofs.YtbfhilbagojdnaaGreat
namespace Go.Proofs.YtbfhilbagojdnaaGreat
set_option linter.unusedVariables false
namespace Nm

/-- A ratio: the limbs of the numerator and of the denominator. -/
abbrev Rt := List Nat × List Nat
def noR : Rt := ([], [])
/-- The limbs of a denominator: none for 1. -/
def dl (y : Nat) : List Nat := if y = 1 then [] else lim y
def denN (d : List Nat) : Nat := if d = [] then 1 else num d
/-- What Valid says. -/
def vld (r : Rt) : Nat :=
  if 64 < r.1.length ∨ 64 < r.2.length then 4
  else if dropz r.1 ≠ r.1 ∨ dropz r.2 ≠ r.2 then 1
  else if r.2 ≠ [] ∧ (r.2 = [1] ∨ r.1 = [] ∨ Nat.gcd (num r.1) (num r.2) ≠ 1) then 1
  else 0
def OkR (r : Rt) : Prop := Ok r.1 ∧ Ok r.2
/-- A valid ratio of the numbers x and y. -/
structure Vr (x y : Nat) : Prop where
  pos : 0 < y
  co : Nat.gcd x y = 1
  hx : x < 4294967296 ^ 64
  hy : y < 4294967296 ^ 64
theorem dl_one : dl 1 = [] := rfl
theorem dl_ok (y : Nat) : Ok (dl y) := by
  unfold dl; split
  · exact Ok.nil
  · exact lim_ok y
theorem dl_den (y : Nat) (h : 0 < y) : denN (dl y) = y := by
  unfold denN dl
  by_cases h1 : y = 1
  · rw [if_pos h1, if_pos rfl, h1]
  · rw [if_neg h1, if_neg (by rw [lim_nil]; omega), num_lim]
theorem dl_len (y : Nat) (h : 0 < y) : (dl y).length ≤ 64 ↔ y < 4294967296 ^ 64 := by
  unfold dl
  by_cases h1 : y = 1
  · rw [if_pos h1, h1]
    exact ⟨fun _ => Nat.one_lt_pow (by omega) (by omega), fun _ => by simp⟩
  · rw [if_neg h1, lim_len]
theorem vld_of {x y : Nat} (h : Vr x y) : vld (lim x, dl y) = 0 := by
  unfold vld
  have l1 : (lim x).length ≤ 64 := lim_len.2 h.hx
  have l2 : (dl y).length ≤ 64 := (dl_len y h.pos).2 h.hy
  rw [if_neg (by dsimp only; omega)]
  have p1 : dropz (lim x) = lim x := dropz_lim x
  have p2 : dropz (dl y) = dl y := by
    unfold dl; split
    · rfl
    · exact dropz_lim y
  rw [if_neg (by dsimp only; rw [p1, p2]; simp)]
  rw [if_neg]
  dsimp only
  rintro ⟨hd, hc⟩
  unfold dl at hd hc
  by_cases h1 : y = 1
  · rw [if_pos h1] at hd; exact hd rfl
  · rw [if_neg h1] at hd hc
    rcases hc with hc | hc | hc
    · exact h1 (lim_eq_one.1 hc)
    · have hx := lim_nil.1 hc
      have := h.co
      rw [hx, Nat.gcd_zero_left] at this; exact h1 this
    · rw [num_lim, num_lim] at hc; exact hc h.co
theorem vld_to {r : Rt} (ho : OkR r) (h : vld r = 0) : ∃ x y, Vr x y ∧ r = (lim x, dl y) := by
  obtain ⟨n, d⟩ := r
  unfold vld at h
  dsimp only at h
  by_cases c1 : 64 < n.length ∨ 64 < d.length
  · rw [if_pos c1] at h; cases h
  rw [if_neg c1] at h
  by_cases c2 : dropz n ≠ n ∨ dropz d ≠ d
  · rw [if_pos c2] at h; cases h
  rw [if_neg c2] at h
  by_cases c3 : d ≠ [] ∧ (d = [1] ∨ n = [] ∨ Nat.gcd (num n) (num d) ≠ 1)
  · rw [if_pos c3] at h; cases h
  have e1 : dropz n = n := by
    by_cases e : dropz n = n
    · exact e
    · exact absurd (.inl e) c2
  have e2 : dropz d = d := by
    by_cases e : dropz d = d
    · exact e
    · exact absurd (.inr e) c2
  have f1 : n = lim (num n) := Prp.eq e1 ho.1
  have f2 : d = lim (num d) := Prp.eq e2 ho.2
  have hn : num n < 4294967296 ^ 64 := Nat.lt_of_lt_of_le (num_lt n ho.1) (Nat.pow_le_pow_right (by omega) (by omega))
  have hdl : num d < 4294967296 ^ 64 := Nat.lt_of_lt_of_le (num_lt d ho.2) (Nat.pow_le_pow_right (by omega) (by omega))
  by_cases hd : d = []
  · refine ⟨num n, 1, ⟨by omega, Nat.gcd_one_right _, hn, Nat.one_lt_pow (by omega) (by omega)⟩, ?_⟩
    rw [← f1, dl_one, hd]
  · have hd0 : num d ≠ 0 := fun e => hd (by rw [f2, e, lim_zero])
    have hd1 : d ≠ [1] := fun e => c3 ⟨hd, .inl e⟩
    have hg : Nat.gcd (num n) (num d) = 1 := by
      by_cases e : Nat.gcd (num n) (num d) = 1
      · exact e
      · exact absurd ⟨hd, .inr (.inr e)⟩ c3
    have hne : num d ≠ 1 := fun e => hd1 (by rw [f2, e, lim_one])
    refine ⟨num n, num d, ⟨by omega, hg, hn, hdl⟩, ?_⟩
    rw [← f1]
    unfold dl
    rw [if_neg hne, ← f2]
def madeR (x y : Nat) : Rt × Nat := if x < 4294967296 ^ 64 ∧ y < 4294967296 ^ 64 then ((lim x, dl y), 0) else (noR, 4)
def lowR (x y : Nat) : Rt × Nat := madeR (x / Nat.gcd x y) (y / Nat.gcd x y)
def bothE (a b : Rt) : Nat := if vld a ≠ 0 then vld a else vld b
def addR (a b : Rt) : Rt × Nat := if bothE a b ≠ 0 then (noR, bothE a b) else lowR (num a.1 * denN b.2 + num b.1 * denN a.2) (denN a.2 * denN b.2)
def subR (a b : Rt) : Rt × Nat := if bothE a b ≠ 0 then (noR, bothE a b) else if num a.1 * denN b.2 < num b.1 * denN a.2 then (noR, 5) else lowR (num a.1 * denN b.2 - num b.1 * denN a.2) (denN a.2 * denN b.2)
def mulR (a b : Rt) : Rt × Nat := if bothE a b ≠ 0 then (noR, bothE a b) else lowR (num a.1 * num b.1) (denN a.2 * denN b.2)
def divR (a b : Rt) : Rt × Nat := if bothE a b ≠ 0 then (noR, bothE a b) else if b.1 = [] then (noR, 5) else lowR (num a.1 * denN b.2) (denN a.2 * num b.1)
def cmpR (a b : Rt) : Int × Nat := if bothE a b ≠ 0 then (0, bothE a b) else (ord (num a.1 * denN b.2) (num b.1 * denN a.2), 0)
def ofR (n d : Int) : Rt × Nat := if n < 0 ∨ d ≤ 0 then (noR, 5) else lowR n.toNat d.toNat
theorem made_vr {x y : Nat} (hy : 0 < y) (hg : Nat.gcd x y = 1) (h : (madeR x y).2 = 0) : Vr x y := by
  unfold madeR at h
  by_cases c : x < 4294967296 ^ 64 ∧ y < 4294967296 ^ 64
  · exact ⟨hy, hg, c.1, c.2⟩
  · rw [if_neg c] at h; cases h
theorem low_co (x y : Nat) (hy : 0 < y) : 0 < y / Nat.gcd x y ∧ Nat.gcd (x / Nat.gcd x y) (y / Nat.gcd x y) = 1 := by
  have hg : 0 < Nat.gcd x y := Nat.gcd_pos_of_pos_right x hy
  exact ⟨Nat.div_pos (Nat.le_of_dvd hy (Nat.gcd_dvd_right x y)) hg, Nat.coprime_iff_gcd_eq_one.1 (Nat.coprime_div_gcd_div_gcd hg)⟩
end Nm
end Go.Proofs.YtbfhilbagojdnaaGreat
namespace Go.Proofs.YtbfhilbagojdnaaGreat
set_option linter.unusedVariables false
namespace Nm

end Nm
end Go.Proofs.YtbfhilbagojdnaaGreat
namespace Go.Proofs.YtbfhilbagojdnaaGreat
set_option linter.unusedVariables false
namespace Nm

/-- Numerator and denominator of the simplest number from an/ad to bn/bd. -/
def betw (an ad bn bd : Nat) : Nat × Nat :=
  if h : 0 < ad ∧ 0 < bd ∧ an % ad ≠ 0 ∧ bn < (an / ad + 1) * bd ∧ an / ad * bd ≤ bn then
    (an / ad * (betw bd (bn - an / ad * bd) ad (an % ad)).1 + (betw bd (bn - an / ad * bd) ad (an % ad)).2, (betw bd (bn - an / ad * bd) ad (an % ad)).1)
  else if an % ad = 0 then (an / ad, 1) else (an / ad + 1, 1)
termination_by ad + bd
decreasing_by
  all_goals
    have h1 := Nat.mod_lt an h.1
    have h2 := h.2.2.2.1
    have h3 := h.2.2.2.2
    have h4 := h.2.1
    rw [Nat.add_mul] at h2
    omega
/-- An interval of positive denominators. -/
structure Itv (an ad bn bd : Nat) : Prop where
  ha : 0 < ad
  hb : 0 < bd
  le : an * bd ≤ bn * ad
/-- A fraction in the interval. -/
def InI (an ad bn bd n d : Nat) : Prop := 0 < d ∧ an * d ≤ n * ad ∧ n * bd ≤ bn * d
theorem betw_int {an ad bn bd : Nat} (h : an % ad = 0) : betw an ad bn bd = (an / ad, 1) := by
  rw [betw, dif_neg (fun q => q.2.2.1 h), if_pos h]
theorem betw_next {an ad bn bd : Nat} (h : an % ad ≠ 0) (h2 : (an / ad + 1) * bd ≤ bn) : betw an ad bn bd = (an / ad + 1, 1) := by
  rw [betw, dif_neg (fun q => by have := q.2.2.2.1; omega), if_neg h]
/-- The inner interval: that of the reciprocals of the rests. -/
theorem Itv.inner {an ad bn bd : Nat} (h : Itv an ad bn bd) (h1 : an % ad ≠ 0) (h2 : bn < (an / ad + 1) * bd) : an / ad * bd < bn ∧ Itv bd (bn - an / ad * bd) ad (an % ad) := by
  have e := Nat.div_add_mod an ad
  obtain ⟨q, hq⟩ : ∃ q, q = an / ad := ⟨_, rfl⟩
  obtain ⟨r, hr⟩ : ∃ r, r = an % ad := ⟨_, rfl⟩
  rw [← hq, ← hr] at e
  rw [← hr] at h1
  rw [← hq] at h2
  rw [← hq, ← hr]
  have hle := h.le
  have e2 : an * bd = q * bd * ad + r * bd := by rw [← e, Nat.add_mul]; congr 1; ac_rfl
  have hlt : q * bd < bn := by
    apply Nat.lt_of_mul_lt_mul_right (a := ad)
    have : 0 < r * bd := Nat.mul_pos (by omega) h.hb
    omega
  refine ⟨hlt, by omega, by omega, ?_⟩
  have e3 : (bn - q * bd) * ad + q * bd * ad = bn * ad := by rw [← Nat.add_mul]; congr 1; omega
  have e4 : ad * (bn - q * bd) = (bn - q * bd) * ad := Nat.mul_comm _ _
  have e5 : bd * r = r * bd := Nat.mul_comm _ _
  omega
theorem betw_rec {an ad bn bd : Nat} (h : Itv an ad bn bd) (h1 : an % ad ≠ 0) (h2 : bn < (an / ad + 1) * bd) :
    betw an ad bn bd = (an / ad * (betw bd (bn - an / ad * bd) ad (an % ad)).1 + (betw bd (bn - an / ad * bd) ad (an % ad)).2, (betw bd (bn - an / ad * bd) ad (an % ad)).1) := by
  rw [betw, dif_pos ⟨h.ha, h.hb, h1, h2, Nat.le_of_lt (h.inner h1 h2).1⟩]
/-- It lies in the interval, is in its lowest form, and no fraction of the interval has a lesser numerator or denominator. -/
theorem betw_good : ∀ (k an ad bn bd : Nat), ad + bd ≤ k → Itv an ad bn bd → InI an ad bn bd (betw an ad bn bd).1 (betw an ad bn bd).2 ∧ Nat.gcd (betw an ad bn bd).1 (betw an ad bn bd).2 = 1 ∧
    ∀ n d, InI an ad bn bd n d → (betw an ad bn bd).1 ≤ n ∧ (betw an ad bn bd).2 ≤ d
  | 0, an, ad, bn, bd, hk, h => by have := h.ha; omega
  | k + 1, an, ad, bn, bd, hk, h => by
    have e := Nat.div_add_mod an ad
    have hrl := Nat.mod_lt an h.ha
    by_cases h1 : an % ad = 0
    · rw [betw_int h1]
      rw [h1, Nat.add_zero] at e
      refine ⟨⟨by omega, ?_, ?_⟩, Nat.gcd_one_right _, ?_⟩
      · show an * 1 ≤ an / ad * ad
        rw [Nat.mul_comm (an / ad)]; omega
      · show an / ad * bd ≤ bn * 1
        have hle := h.le
        apply Nat.le_of_mul_le_mul_right (c := ad) ?_ h.ha
        have e2 : an / ad * bd * ad = an * bd := by rw [← e, Nat.mul_div_cancel_left _ h.ha]; ac_rfl
        rw [Nat.mul_one]
        omega
      · rintro n d ⟨hd, h2, h3⟩
        refine ⟨?_, hd⟩
        show an / ad ≤ n
        have e3 : an * d = an / ad * d * ad := by
          conv => lhs; rw [← e]
          ac_rfl
        have h4 : an / ad * d ≤ n := by
          apply Nat.le_of_mul_le_mul_right (c := ad) ?_ h.ha
          omega
        have h5 : an / ad * 1 ≤ an / ad * d := Nat.mul_le_mul_left _ hd
        omega
    · by_cases h2 : (an / ad + 1) * bd ≤ bn
      · rw [betw_next h1 h2]
        refine ⟨⟨by omega, ?_, ?_⟩, Nat.gcd_one_right _, ?_⟩
        · show an * 1 ≤ (an / ad + 1) * ad
          rw [Nat.add_mul, Nat.mul_comm (an / ad)]; omega
        · show (an / ad + 1) * bd ≤ bn * 1
          omega
        · rintro n d ⟨hd, h3, h4⟩
          refine ⟨?_, hd⟩
          show an / ad + 1 ≤ n
          have h6 : an / ad * d < n := by
            apply Nat.lt_of_mul_lt_mul_right (a := ad)
            have e3 : an * d = an / ad * d * ad + an % ad * d := by
              conv => lhs; rw [← e]
              rw [Nat.add_mul]; congr 1; ac_rfl
            have : 0 < an % ad * d := Nat.mul_pos (by omega) hd
            omega
          have h5 : an / ad * 1 ≤ an / ad * d := Nat.mul_le_mul_left _ hd
          omega
      · have h2' : bn < (an / ad + 1) * bd := by omega
        obtain ⟨hlt, hin⟩ := h.inner h1 h2'
        rw [betw_rec h h1 h2']
        have hsm : (bn - an / ad * bd) + an % ad ≤ k := by
          have h9 := h2'
          rw [Nat.add_mul] at h9
          omega
        obtain ⟨⟨p1, p2, p3⟩, pg, pm⟩ := betw_good k bd (bn - an / ad * bd) ad (an % ad) hsm hin
        obtain ⟨R, hR⟩ : ∃ R, R = betw bd (bn - an / ad * bd) ad (an % ad) := ⟨_, rfl⟩
        rw [← hR] at p1 p2 p3 pg pm ⊢
        obtain ⟨rn, rd⟩ := R
        dsimp only at p1 p2 p3 pg pm ⊢
        obtain ⟨q, hq⟩ : ∃ q, q = an / ad := ⟨_, rfl⟩
        obtain ⟨r, hr⟩ : ∃ r, r = an % ad := ⟨_, rfl⟩
        obtain ⟨m, hm⟩ : ∃ m, m = bn - an / ad * bd := ⟨_, rfl⟩
        have hbn : bn = q * bd + m := by rw [hm, hq]; omega
        have han : an = q * ad + r := by rw [hq, hr, Nat.mul_comm]; omega
        rw [← hm] at p2 pm hin
        rw [← hr] at p3 pm hin h1
        rw [← hq]
        clear hm hq hr hlt h2 h2' hR
        have hrn : 0 < rn := by
          rcases Nat.eq_zero_or_pos rn with h0 | h0
          · subst h0
            have : 0 < bd * rd := Nat.mul_pos h.hb p1
            omega
          · exact h0
        refine ⟨⟨hrn, ?_, ?_⟩, ?_, ?_⟩
        · rw [han, Nat.add_mul, Nat.add_mul]
          have e1 : q * ad * rn = q * rn * ad := by ac_rfl
          have e2 : r * rn = rn * r := Nat.mul_comm _ _
          have e3 : rd * ad = ad * rd := Nat.mul_comm _ _
          omega
        · rw [hbn, Nat.add_mul, Nat.add_mul]
          have e1 : q * rn * bd = q * bd * rn := by ac_rfl
          have e2 : rd * bd = bd * rd := Nat.mul_comm _ _
          have e3 : m * rn = rn * m := Nat.mul_comm _ _
          omega
        · rw [Nat.gcd_comm, Nat.gcd_mul_right_add_right]; exact pg
        · rintro n d ⟨hd, h3, h4⟩
          have h6 : q * d < n := by
            apply Nat.lt_of_mul_lt_mul_right (a := ad)
            have e3 : an * d = q * d * ad + r * d := by rw [han, Nat.add_mul]; congr 1; ac_rfl
            have : 0 < r * d := Nat.mul_pos (by omega) hd
            omega
          obtain ⟨s, rfl⟩ : ∃ s, n = q * d + s := ⟨n - q * d, by omega⟩
          have hs : 0 < s := by omega
          have hi : InI bd m ad r d s := by
            refine ⟨hs, ?_, ?_⟩
            · rw [hbn, Nat.add_mul, Nat.add_mul] at h4
              have e1 : q * d * bd = q * bd * d := by ac_rfl
              have e2 : bd * s = s * bd := Nat.mul_comm _ _
              have e3 : d * m = m * d := Nat.mul_comm _ _
              omega
            · rw [han, Nat.add_mul, Nat.add_mul] at h3
              have e1 : q * ad * d = q * d * ad := by ac_rfl
              have e2 : d * r = r * d := Nat.mul_comm _ _
              have e3 : ad * s = s * ad := Nat.mul_comm _ _
              omega
          obtain ⟨m1, m2⟩ := pm d s hi
          refine ⟨?_, m1⟩
          have : q * rn ≤ q * d := Nat.mul_le_mul_left _ m1
          omega
end Nm
end Go.Proofs.YtbfhilbagojdnaaGreat
namespace Go.Proofs.YtbfhilbagojdnaaGreat
set_option linter.unusedVariables false
namespace Nm

end Nm
end Go.Proofs.YtbfhilbagojdnaaGreat
namespace Go.Proofs.YtbfhilbagojdnaaGreat
set_option linter.unusedVariables false
namespace Nm

theorem ord_zero (a b : Nat) : ord a b = 0 ↔ a = b := by
  unfold ord
  rcases Nat.lt_trichotomy a b with h | h | h
  · rw [if_pos h]; omega
  · subst h; rw [if_neg (by omega), if_pos rfl]; omega
  · rw [if_neg (by omega), if_neg (by omega)]; omega
end Nm
end Go.Proofs.YtbfhilbagojdnaaGreat
namespace Go.Proofs.YtbfhilbagojdnaaGreat
open Go.RowKit Wr Go.Proofs.YtbfhilbagojdnaaGreat.Nm
set_option linter.unusedVariables false
set_option maxRecDepth 100000

theorem bs2 (a b : Int) (W : World) : (Instr.buildSlice 22 2 #[(0, .int .u32 a), (1, .int .u32 b)]).run Tryz.prog W = .ok (.slice (some ⟨W.heap.size, 0, none⟩) 2 2) (W.alloc (.cells #[.int .u32 a, .int .u32 b] 66)) := by kernel_rfl
theorem proper2 (a b : Nat) (A : Option Addr) (B : Nat) (w : World) (hr : Rd w B A (Lc [a, b])) : Calls Tryz.prog 97 #[.slice A 2 2] w fun e w' => e = .returned (.slice A (dropz [a, b]).length (dropz [a, b]).length) ∧ w = w' :=
  proper_any A 2 [a, b] B w hr (by simp) (by simp)
def SlP (w : World) (x : Nat) (e : Ending) (w' : World) : Prop := ∃ v, e = .returned v ∧ Sl w' v (lim x) ∧ Below w.heap.size w w'
set_option maxHeartbeats 400000 in
theorem limbsOf_any (x : Nat) (w : World) (hx : x < 18446744073709551616) : Calls Tryz.prog 104 #[.int .u64 ((x : Nat) : Int)] w (SlP w x) := by
  obtain ⟨a, ha⟩ : ∃ a, a = x % 4294967296 := ⟨_, rfl⟩
  obtain ⟨b, hb⟩ : ∃ b, b = x / 4294967296 := ⟨_, rfl⟩
  have ea : ((x : Int) % 4294967296) = (a : Int) := by omega
  have eb : ((x : Int) / 4294967296) = (b : Int) := by omega
  have hbB : b < 4294967296 := by omega
  have hbs := bs2 (a : Int) (b : Int) w
  have hD : dropz [a, b] = lim x := by
    have e : digs 2 x = [a, b] := by
      simp only [digs]; rw [← ha, ← hb, Nat.mod_eq_of_lt hbB]
    rw [← e]; exact dropz_digs 2 x (by omega)
  have HD := Lib.hid hD
  have HBlk := Lib.hid (Blk.new w 66 (Lc [a, b]))
  have HBel := Lib.hid ((Below.refl w.heap.size w).alloc (Nat.le_refl _) (.cells (Lc [a, b]).toArray 66))
  change Hid (Blk (w.alloc (.cells #[.int .u32 (a : Int), .int .u32 (b : Int)] 66)) _ _ _) at HBlk
  change Hid (Below _ _ (w.alloc (.cells #[.int .u32 (a : Int), .int .u32 (b : Int)] 66))) at HBel
  clear ha hb hD
  go_enter Tryz.func104, Tryz.ntmps104
  go_wp2_with (go_at_call 97; refine (proper2 a b _ _ _ (Rd.of_blk0 HBlk.out)).mono ?_; rintro e w' ⟨rfl, rfl⟩)
  go_ret
  exact ⟨_, rfl, proper_sl HBlk.out HD.out, HBel.out⟩

set_option maxHeartbeats 400000 in
theorem bitLen_any (A : Option Addr) (c : Nat) (l : List Nat) (B : Nat) (w : World) (ho : Ok l) (hp : dropz l = l) (hr : Rd w B A (Lc l)) (hl : l.length ≤ 1048576) :
    Calls Tryz.prog 64 #[.slice A l.length c] w fun e w' => e = .returned (.int .i64 (blen (num l) : Nat)) ∧ w = w' := by
  by_cases h1 : l.length = 0
  · obtain rfl := List.length_eq_zero_iff.1 h1
    clear hr h1 hl hp ho
    go_enter Tryz.func64, Tryz.ntmps64
    go_wp2
    go_ret
    exact ⟨rfl, rfl⟩
  · obtain ⟨k, hk⟩ : ∃ k, l.length = k + 1 := ⟨l.length - 1, by omega⟩
    obtain ⟨g, o, rfl, hg, hc⟩ := limb_cell hr k (by omega)
    have hne := (prp_last l k hk).1 hp
    have hx := ho.get k (by omega)
    have e : blen (num l) = 32 * k + blen l[k] := by
      have h2 := num_take_succ l k (by omega)
      rw [List.take_of_length_le (by omega)] at h2
      have h3 := num_lt _ (ho.take k)
      rw [List.length_take, Nat.min_eq_left (by omega)] at h3
      exact blen_limbs l _ k _ h2 h3 hne
    rw [e]
    have hb32 : blen l[k] ≤ 32 := blen_le.2 hx
    have ec : ((32 * k + blen l[k] : Nat) : Int) = 32 * (k : Int) + (blen l[k] : Int) := by omega
    rw [ec]
    generalize l[k]'(by omega) = x at hc hx hb32
    have hn : (((k : Int) + 1) == 0) = false := by rw [beq_eq_false_iff_ne]; omega
    generalize hB : blen x = bx at hb32
    have HB := Lib.hid hB
    rw [hk] at hl ⊢
    clear hr h1 hk e ec hne hp ho hB
    go_enter Tryz.func64, Tryz.ntmps64
    go_wp2_with (go_at_call 112; refine (len32_any x _ hx).mono ?_; rintro e w' ⟨rfl, rfl⟩; rw [HB.out])
    go_ret
    exact ⟨rfl, rfl⟩

theorem ord_lens {a b : List Nat} (ha : Ok a) (hb : Ok b) (pa : dropz a = a) (pb : dropz b = b) (h : a.length < b.length) : num a < num b := by
  have e1 := Prp.eq pa ha
  have e2 := Prp.eq pb hb
  rw [e1, e2] at h
  exact ord_len _ _ h
theorem drop_eq_step {a b : List Nat} (j : Nat) (ha : j < a.length) (hb : j < b.length) (h : a.drop (j + 1) = b.drop (j + 1)) (he : a[j] = b[j]) : a.drop j = b.drop j := by
  rw [← List.getElem_cons_drop ha, ← List.getElem_cons_drop hb, h, he]
set_option maxHeartbeats 1000000 in
theorem compare_any (A A2 : Option Addr) (a b : List Nat) (c c2 B : Nat) (w : World) (ha : Ok a) (hb : Ok b) (pa : dropz a = a) (pb : dropz b = b) (hr : Rd w B A (Lc a)) (hr2 : Rd w B A2 (Lc b)) (hl : a.length ≤ 1048576) (hl2 : b.length ≤ 1048576) :
    Calls Tryz.prog 45 #[.slice A a.length c, .slice A2 b.length c2] w fun e w' => e = .returned (.int .i64 (ord (num a) (num b))) ∧ ∃ q, w' = w.drewN q := by
  obtain ⟨r, hr0⟩ : ∃ r, r = ord (num a) (num b) := ⟨_, rfl⟩
  rw [← hr0]
  have HR0 := Lib.hid hr0
  clear hr0
  by_cases hab : a.length = b.length
  · obtain ⟨N, hN⟩ : ∃ N, N = b.length := ⟨_, rfl⟩
    rw [← hN] at hab ⊢
    rw [hab] at hl ⊢
    have HN := Lib.hid hN
    have HA := Lib.hid hab
    have hb0 : ((N : Int) != (N : Int)) = false := by simp
    clear hN hab hl2
    go_enter Tryz.func45, Tryz.ntmps45
    go_wp2
    go_loopw [5] (fun s5 wr => ∃ k q : Nat, k ≤ N ∧ s5 = .int .i64 ((k : Int) - 1) ∧ a.drop k = b.drop k ∧ w.drewN q = wr) (fun s5 _ => (intOf s5 + 1).toNat)
    case atStart => exact ⟨N, 0, Nat.le_refl _, rfl, by rw [List.drop_of_length_le (by rw [HA.out]; exact Nat.le_refl _), List.drop_of_length_le (by rw [← HN.out]; exact Nat.le_refl _)], rfl⟩
    case round =>
      obtain ⟨k, q, hk, rfl, ht, rfl⟩ := hrel
      have HT := Lib.hid ht
      clear ht
      rcases Nat.eq_zero_or_pos k with h0 | h0
      · subst h0
        have e : a = b := by have := HT.out; simpa using this
        have hz : r = 0 := by rw [HR0.out, e, (ord_zero _ _).2 rfl]
        have HZ := Lib.hid hz
        clear e hz
        go_wp2
        go_ret
        exact ⟨by rw [HZ.out]; rfl, q, rfl⟩
      · obtain ⟨j, rfl⟩ : ∃ j, k = j + 1 := ⟨k - 1, by omega⟩
        have hja : j < a.length := by have := HA.out; omega
        have hjb : j < b.length := by have := HN.out; omega
        obtain ⟨g, o, rfl, hg, hc1⟩ := limb_cell hr j hja
        obtain ⟨g2, o2, rfl, hg2, hc2⟩ := limb_cell hr2 j hjb
        have i1 : (j : Int) < (N : Int) := by omega
        have hlen : a.length = b.length := by rw [HA.out, HN.out]
        by_cases he : a[j] = b[j]
        · have hne : (((a[j] : Nat) : Int) != ((b[j] : Nat) : Int)) = false := by rw [he]; simp
          have HE := Lib.hid (drop_eq_step j hja hjb HT.out he)
          generalize a[j] = x at *
          generalize b[j] = y at *
          clear he hr hr2 hlen
          go_wp2
          go_quiet (fail)
          go_wp2
          go_roundw
          case rel => exact ⟨j, _, by omega, by go_num, HE.out, rfl⟩
          case measure => simp only [intOf]; omega
        · have hne : (((a[j] : Nat) : Int) != ((b[j] : Nat) : Int)) = true := by rw [bne_iff_ne]; omega
          have hv : (a[j] < b[j] → r = -1) ∧ (b[j] < a[j] → r = 1) := by
            constructor
            · intro h
              have := ord_at a b ha hb hlen j hja HT.out h
              rw [HR0.out]; unfold ord; rw [if_pos this]
            · intro h
              have := ord_at b a hb ha hlen.symm j hjb HT.out.symm h
              rw [HR0.out]; unfold ord; rw [if_neg (by omega), if_neg (by omega)]
          have HV := Lib.hid hv
          generalize a[j] = x at *
          generalize b[j] = y at *
          clear he hr hr2 hlen hv
          go_wp2
          go_quiet (fail)
          go_wp2
          generalize hwq : (w.drewN q).drewN nq = wq
          have HWQ := Lib.hid (show wq = w.drewN (q + nq) by rw [← hwq, World.drewN_drewN])
          replace hc1 : wq.cell? ⟨g, o + j, none⟩ = some (.int .u32 (x : Int)) := by rw [← hwq]; exact hc1
          replace hc2 : wq.cell? ⟨g2, o2 + j, none⟩ = some (.int .u32 (y : Int)) := by rw [← hwq]; exact hc2
          clear hwq
          rcases Nat.lt_or_gt_of_ne (show x ≠ y by intro e; subst e; simp at hne) with h | h
          · have hd : decide (x < y) = true := by simpa using h
            have HRv := Lib.hid (HV.out.1 h)
            go_quiet (exact quiet_eq (order_t _))
            go_wp2
            go_ret
            exact ⟨by rw [HRv.out]; rfl, _, (congrArg (fun z => World.drewN z nq) HWQ.out).trans (World.drewN_drewN _ _ _)⟩
          · have hd : decide (x < y) = false := by simp; omega
            have HRv := Lib.hid (HV.out.2 h)
            go_quiet (exact quiet_eq (order_f _))
            go_wp2
            go_ret
            exact ⟨by rw [HRv.out]; rfl, _, (congrArg (fun z => World.drewN z nq) HWQ.out).trans (World.drewN_drewN _ _ _)⟩
  · have hb0 : ((a.length : Int) != (b.length : Int)) = true := by rw [bne_iff_ne]; omega
    rcases Nat.lt_or_gt_of_ne hab with h | h
    · have hd : decide (a.length < b.length) = true := by simpa using h
      have hv := ord_lens ha hb pa pb h
      have HV := Lib.hid (show r = -1 by rw [HR0.out]; unfold ord; rw [if_pos hv])
      clear hab hv hr hr2
      go_enter Tryz.func45, Tryz.ntmps45
      go_wp2_with (go_at_call 95; refine (order_t _).mono ?_; rintro e w' ⟨rfl, rfl⟩)
      go_ret
      exact ⟨by rw [HV.out]; rfl, 0, rfl⟩
    · have hd : decide (a.length < b.length) = false := by simp; omega
      have hv := ord_lens hb ha pb pa h
      have HV := Lib.hid (show r = 1 by rw [HR0.out]; unfold ord; rw [if_neg (by omega), if_neg (by omega)])
      clear hab hv hr hr2
      go_enter Tryz.func45, Tryz.ntmps45
      go_wp2_with (go_at_call 95; refine (order_f _).mono ?_; rintro e w' ⟨rfl, rfl⟩)
      go_ret
      exact ⟨by rw [HV.out]; rfl, 0, rfl⟩
end Go.Proofs.YtbfhilbagojdnaaGreat
namespace Go.Proofs.YtbfhilbagojdnaaGreat
open Go.RowKit Wr Go.Proofs.YtbfhilbagojdnaaGreat.Nm
set_option linter.unusedVariables false
set_option maxRecDepth 100000

theorem and_mask (t : Nat) (h : t < 18446744073709551616) : bits BinOp.and IntKind.u64 ((t : Nat) : Int) 4294967295 = ((t % 4294967296 : Nat) : Int) := by
  have h2 := u64_and_nat t 4294967295 (by omega) (by omega)
  have e : t &&& 4294967295 = t % 4294967296 := Nat.and_two_pow_sub_one_eq_mod t 32
  rw [e] at h2
  exact h2
theorem digs_rep (k N v : Nat) (D : List Nat) (hD : D.length = k) (h : k < N) : (D ++ List.replicate (N - k) 0).set k v = D ++ [v] ++ List.replicate (N - (k + 1)) 0 := by
  rw [List.set_append_right _ _ (by omega), hD, Nat.sub_self, show N - k = N - (k + 1) + 1 by omega, List.replicate_succ, List.set_cons_zero]
  simp
theorem less_limb (e f bo : Nat) (he : e < 4294967296) (hf : f < 4294967296) (hb : bo ≤ 1) : ∃ b' g : Nat, g < 4294967296 ∧ b' ≤ 1 ∧ e + 4294967296 * b' = f + bo + g ∧
    IntKind.u64.wrap (IntKind.u64.wrap ((e : Int) - (f : Int)) - (bo : Int)) / 9223372036854775808 = (b' : Int) ∧ IntKind.u64.wrap (IntKind.u64.wrap ((e : Int) - (f : Int)) - (bo : Int)) % 4294967296 = (g : Int) := by
  simp only [IntKind.wrap_u64]
  rcases Nat.lt_or_ge e (f + bo) with h | h
  · exact ⟨1, e + 4294967296 - f - bo, by omega, by omega, by omega, by omega, by omega⟩
  · exact ⟨0, e - f - bo, by omega, by omega, by omega, by omega, by omega⟩
set_option maxHeartbeats 1000000 in
theorem lessTimes_any (A A2 : Option Addr) (a b : List Nat) (u v c c2 : Nat) (w : World) (ha : Ok a) (hb : Ok b) (hu : u < 4294967296) (hv : v < 4294967296) (hr : Rd w w.heap.size A (Lc a)) (hr2 : Rd w w.heap.size A2 (Lc b))
    (hl : a.length ≤ 1048576) (hl2 : b.length ≤ 1048576) (hle : v * num b ≤ u * num a) (hlt : u * num a - v * num b < 4294967296 ^ (max a.length b.length)) :
    Calls Tryz.prog 103 #[.slice A a.length c, .int .u64 ((u : Nat) : Int), .slice A2 b.length c2, .int .u64 ((v : Nat) : Int)] w (SlP w (u * num a - v * num b)) := by
  obtain ⟨N, hN⟩ : ∃ N, N = max a.length b.length := ⟨_, rfl⟩
  obtain ⟨x, hx⟩ : ∃ x, x = num a := ⟨_, rfl⟩
  obtain ⟨y, hy⟩ : ∃ y, y = num b := ⟨_, rfl⟩
  have hxN : x < 4294967296 ^ N := by rw [hx]; exact Nat.lt_of_lt_of_le (num_lt a ha) (Nat.pow_le_pow_right (by omega) (by omega))
  have hyN : y < 4294967296 ^ N := by rw [hy]; exact Nat.lt_of_lt_of_le (num_lt b hb) (Nat.pow_le_pow_right (by omega) (by omega))
  have hatA (k : Nat) : at0 a k = x / 4294967296 ^ k % 4294967296 := by rw [hx]; exact at0_num a ha k
  have hatB (k : Nat) : at0 b k = y / 4294967296 ^ k % 4294967296 := by rw [hy]; exact at0_num b hb k
  rw [← hN, ← hx, ← hy] at hlt
  rw [← hx, ← hy] at hle ⊢
  have hNI : max (a.length : Int) (b.length : Int) = (N : Int) := by omega
  have hNl : N ≤ 1048576 := by omega
  have HL := Lib.hid (And.intro hle hlt)
  have HX := Lib.hid (And.intro hxN hyN)
  have HA := Lib.hid hatA; have HB := Lib.hid hatB
  have hmk := mk22 N (by omega)
  clear hN hx hy hle hlt hxN hyN hatA hatB
  go_enter Tryz.func103, Tryz.ntmps103
  go_wp2
  clear hmk
  go_loopw [10, 11, 12, 23] (fun s10 s11 s12 s23 wr => ∃ k bo d : Nat, k ≤ N ∧ s23 = .int .i64 k ∧ s10 = .int .u64 ((partN u x k / 4294967296 ^ k : Nat) : Int) ∧ s11 = .int .u64 ((partN v y k / 4294967296 ^ k : Nat) : Int) ∧ s12 = .int .u64 ((bo : Nat) : Int) ∧ Ls u x v y k bo d ∧ Blk wr w.heap.size 66 (Lc (digs k d ++ List.replicate (N - k) 0)) ∧ Below w.heap.size w wr) (fun _ _ _ s23 _ => N - (intOf s23).toNat)
  case atStart =>
    refine ⟨0, 0, 0, Nat.zero_le _, rfl, by rw [part_zero]; rfl, by rw [part_zero]; rfl, rfl, Ls.zero _ _ _ _, ?_, (Below.refl _ _).alloc (Nat.le_refl _) _⟩
    exact Blk.new w 66 (Lc (List.replicate N 0))
  case round =>
    obtain ⟨k, bo, d, hk, rfl, rfl, rfl, rfl, hls, hblk, hbel⟩ := hrel
    by_cases hlt : k < N
    · have hra : Rd wr w.heap.size A (Lc a) := hr.below hbel
      have hrb : Rd wr w.heap.size A2 (Lc b) := hr2.below hbel
      have hp1 := part_lt u x k hu
      have hp2 := part_lt v y k hv
      have hn1 := part_next u x k
      have hn2 := part_next v y k
      have hstep (e f b' g) := Ls.step (e := e) (f := f) (b' := b') (g := g) hls
      rw [← HA.out k] at hn1 hstep
      rw [← HB.out k] at hn2 hstep
      have hq1 := at0_lt a ha k
      have hq2 := at0_lt b hb k
      obtain ⟨X, hX⟩ : ∃ X, X = at0 a k := ⟨_, rfl⟩
      obtain ⟨Y, hY⟩ : ∃ Y, Y = at0 b k := ⟨_, rfl⟩
      rw [← hX] at hn1 hstep hq1
      rw [← hY] at hn2 hstep hq2
      generalize partN u x k / 4294967296 ^ k = P at *
      generalize partN v y k / 4294967296 ^ k = Q at *
      have b1 : (u : Int) * (X : Int) ≤ 18446744065119617025 := by
        have : u * X ≤ 4294967295 * 4294967295 := Nat.mul_le_mul (by omega) (by omega)
        have e : ((u * X : Nat) : Int) = (u : Int) * (X : Int) := by simp
        omega
      have b2 : (v : Int) * (Y : Int) ≤ 18446744065119617025 := by
        have : v * Y ≤ 4294967295 * 4294967295 := Nat.mul_le_mul (by omega) (by omega)
        have e : ((v * Y : Nat) : Int) = (v : Int) * (Y : Int) := by simp
        omega
      have c1 : 0 ≤ (u : Int) * (X : Int) := Int.mul_nonneg (by omega) (by omega)
      have c2' : 0 ≤ (v : Int) * (Y : Int) := Int.mul_nonneg (by omega) (by omega)
      obtain ⟨t1, ht1⟩ : ∃ t, t = P + u * X := ⟨_, rfl⟩
      obtain ⟨t2, ht2⟩ : ∃ t, t = Q + v * Y := ⟨_, rfl⟩
      have et1 : (P : Int) + (u : Int) * (X : Int) = ((t1 : Nat) : Int) := by rw [ht1]; simp
      have et2 : (Q : Int) + (v : Int) * (Y : Int) = ((t2 : Nat) : Int) := by rw [ht2]; simp
      rw [← ht1] at hn1 hstep
      rw [← ht2] at hn2 hstep
      have hand1 := and_mask t1 (by omega)
      have hand2 := and_mask t2 (by omega)
      obtain ⟨e, he⟩ : ∃ e, e = t1 % 4294967296 := ⟨_, rfl⟩
      obtain ⟨f, hf⟩ : ∃ f, f = t2 % 4294967296 := ⟨_, rfl⟩
      rw [← he] at hand1
      rw [← hf] at hand2
      have heB : e < 4294967296 := by omega
      have hfB : f < 4294967296 := by omega
      have hbo := hls.b
      have HSt := Lib.hid (fun b' g hg hb' heq => hstep e f b' g he hf hg hb' heq)
      have HN1 := Lib.hid hn1; have HN2 := Lib.hid hn2
      have HE := Lib.hid he; have HF := Lib.hid hf
      have hbl := hblk.frozen k
      have HBlk := Lib.hid hblk; have HBel := Lib.hid hbel
      have hc1 : wr.cell? ⟨w.heap.size, k, none⟩ = some (.int .u32 0) := by
        rw [hblk.cell, Lc_get _ _ (by simp [digs_len]; omega), List.getElem_append_right (by rw [digs_len]; exact Nat.le_refl _)]; simp
      have i1 : (k : Int) < (N : Int) := by omega
      have ht1b : t1 < 18446744073709551616 := by omega
      have ht2b : t2 < 18446744073709551616 := by omega
      have HD := Lib.hid hls.lt
      have HXY := Lib.hid (And.intro hX hY)
      have HT := Lib.hid (And.intro et1 et2)
      clear hblk hbel hn1 hn2 hstep hr hr2 he hf hls ht1 ht2 hX hY
      have HLA := Lib.hid (fun W (h : wr = W) => (limb_any A c a k w.heap.size W (by rw [← h]; exact hra) (by omega) (by omega)))
      have HLB := Lib.hid (fun W (h : wr = W) => (limb_any A2 c2 b k w.heap.size W (by rw [← h]; exact hrb) (by omega) (by omega)))
      rw [← HXY.out.1] at HLA
      rw [← HXY.out.2] at HLB
      clear hra hrb
      go_wp2_with (go_at_call 114; first | ((with_reducible refine (HLA.out _ rfl).mono ?_); rintro e w' ⟨rfl, rfl⟩) | ((with_reducible refine (HLB.out _ rfl).mono ?_); rintro e w' ⟨rfl, rfl⟩))
      go_roundw
      case rel =>
        obtain ⟨b', g', hg, hb', heq, e1, e2⟩ := less_limb e f bo heB hfB hbo
        rw [e1, e2]
        refine ⟨k + 1, b', _, hlt, by go_num, ?_, ?_, rfl, HSt.out b' g' hg hb' heq, ?_, HBel.out.setCell (p := ⟨w.heap.size, k, none⟩) (Nat.le_refl _) _⟩
        · rw [HN1.out]; rfl
        · rw [HN2.out]; rfl
        · have := HBlk.out.put k (.int .u32 ((g' : Nat) : Int))
          rw [Lc_set, digs_rep k N g' _ (digs_len _ _) hlt, ← digs_more k d g' HD.out hg] at this
          exact this
      case measure => simp only [intOf]; omega
    · obtain rfl : k = N := by omega
      have hall := hls.all HX.out.1 HX.out.2 HL.out.1 HL.out.2
      have hd := hls.lt
      rw [Nat.sub_self, List.replicate_zero, List.append_nil] at hblk
      have hdz := dropz_digs k d hd
      have hlen := digs_len k d
      have HSL := Lib.hid (proper_sl hblk hdz)
      have HRD := Lib.hid (Rd.of_blk0 hblk)
      have HBel := Lib.hid hbel
      have HAll := Lib.hid hall
      generalize digs k d = D at *
      have HLEN := Lib.hid hlen
      clear hall hd hblk hdz hlen hr hr2 hbel hls
      rw [← HLEN.out]
      rw [← HLEN.out] at hNl
      go_wp2_with (go_at_call 97; refine (proper_any _ _ D _ _ HRD.out (by omega) (Nat.le_refl _)).mono ?_; rintro e w' ⟨rfl, rfl⟩)
      go_ret
      exact ⟨.slice (some ⟨w.heap.size, 0, none⟩) (dropz D).length (dropz D).length, rfl, by rw [← HAll.out]; exact HSL.out, HBel.out⟩

theorem minus_any (A A2 : Option Addr) (a b : List Nat) (c c2 : Nat) (w : World) (ha : Ok a) (hb : Ok b) (hr : Rd w w.heap.size A (Lc a)) (hr2 : Rd w w.heap.size A2 (Lc b))
    (hl : a.length ≤ 1048576) (hl2 : b.length ≤ 1048576) (hle : num b ≤ num a) :
    Calls Tryz.prog 56 #[.slice A a.length c, .slice A2 b.length c2] w (SlP w (num a - num b)) := by
  have h1 : num a < 4294967296 ^ (max a.length b.length) := Nat.lt_of_lt_of_le (num_lt a ha) (Nat.pow_le_pow_right (by omega) (by omega))
  have HC := Lib.hid (fun W (h : w = W) => lessTimes_any A A2 a b 1 1 c c2 W ha hb (by omega) (by omega) (by rw [← h]; exact hr) (by rw [← h]; exact hr2) hl hl2 (by omega) (by omega))
  have e : 1 * num a - 1 * num b = num a - num b := by omega
  rw [e] at HC
  clear h1 e hr hr2
  go_enter Tryz.func56, Tryz.ntmps56
  go_wp2_with (go_at_call 103; refine (HC.out _ rfl).mono ?_; rintro e w' ⟨v, rfl, hs, hb⟩)
  go_ret
  exact ⟨v, rfl, hs, hb⟩
end Go.Proofs.YtbfhilbagojdnaaGreat
namespace Go.Proofs.YtbfhilbagojdnaaGreat
open Go.RowKit Wr Go.Proofs.YtbfhilbagojdnaaGreat.Nm
set_option linter.unusedVariables false
set_option maxRecDepth 100000

/-- A part of an own row. -/
theorem sl3 (g n c lo k : Nat) (h2 : lo + k ≤ c) : ∃ Ad : Option Addr, (0 < k → Ad = some ⟨g, lo, none⟩) ∧ ∀ W, (Instr.sliceAt 22 (.slice (some ⟨g, 0, none⟩) n c) (some (.int .i64 (lo : Int))) (some (.int .i64 ((lo : Int) + (k : Int)))) (some (.int .i64 ((lo : Int) + (k : Int))))).run Tryz.prog W = .ok (.slice Ad k k) W := by
  have he : Tryz.prog.elem 22 = 66 := by kernel_rfl
  have hu : Tryz.prog.underlying 22 = some (.slice (Tryz.prog.elem 22)) := by kernel_rfl
  refine ⟨some (if lo + k = lo then ⟨g, 0, none⟩ else (⟨g, 0, none⟩ : Addr).add (lo * 1)), ?_, ?_⟩
  · intro h
    rw [if_neg (by omega), Addr.add_lit, Nat.mul_one, Nat.zero_add]
  · intro W
    have h5 : (sizeOf 66).run Tryz.prog W = .ok 1 W := by kernel_rfl
    rw [run_sliceAt_slice W 22 _ _ _ _ hu, run_slice_lhm W 22 (some ⟨g, 0, none⟩) n c hu .i64 .i64 .i64 (lo : Int) ((lo : Int) + (k : Int)) ((lo : Int) + (k : Int)) (by omega) (by omega) (by omega) (by omega), he, h5]
    have e1 : ((lo : Int) + (k : Int)).toNat = lo + k := by omega
    simp only [Result.andThen, Int.toNat_natCast, e1, sliced, Option.map_some, Nat.add_sub_cancel_left]
    by_cases h : lo + k = lo
    · simp [h]
    · rw [if_neg (by omega)]; simp only [if_neg h, Nat.mul_one]
theorem addTimes_nil (Ad A2 : Option Addr) (m c c2 : Nat) (w : World) : Calls Tryz.prog 96 #[.slice Ad 0 c, .slice A2 0 c2, .int .u32 (m : Int)] w fun e w' => e = .returned (.int .u32 0) ∧ w = w' := by
  go_enter Tryz.func96, Tryz.ntmps96
  go_wp2
  go_loopw [7, 12] (fun s7 s12 wr => s12 = .int .i64 0 ∧ s7 = .int .u64 0 ∧ w = wr) (fun _ s12 _ => 0)
  case atStart => exact ⟨rfl, rfl, rfl⟩
  case round =>
    obtain ⟨rfl, rfl, rfl⟩ := hrel
    go_wp2
    go_ret
    exact ⟨rfl, rfl⟩
def AddP (w : World) (g : Nat) (pre post : List Value) (R : List Nat) (T : Nat) (e : Ending) (w' : World) : Prop :=
  e = .returned (.int .u32 ((T / 4294967296 ^ R.length : Nat) : Int)) ∧ Row w' g pre (digs R.length T) post ∧ w.grownBy w' (some g)
theorem addTimes_ad (g : Nat) (pre post : List Value) (R l : List Nat) (m c c2 : Nat) (Ad A2 : Option Addr) (w : World) (hR : Ok R) (hl : Ok l) (hm : m < 4294967296) (hlen : l.length = R.length) (hn : R.length ≤ 1048576)
    (hp : pre.length ≤ 1048576) (hAd : 0 < R.length → Ad = some ⟨g, pre.length, none⟩) (hb : Row w g pre R post) (hr : Rd w g A2 (Lc l)) :
    Calls Tryz.prog 96 #[.slice Ad R.length c, .slice A2 l.length c2, .int .u32 (m : Int)] w (AddP w g pre post R (num R + m * num l)) := by
  rcases Nat.eq_zero_or_pos R.length with h0 | h0
  · have e1 := List.length_eq_zero_iff.1 h0
    have e2 := List.length_eq_zero_iff.1 (hlen.trans h0)
    subst e1 e2
    refine (addTimes_nil Ad A2 m c c2 w).mono ?_
    rintro e w' ⟨rfl, rfl⟩
    exact ⟨by simp [num], by simpa [digs, num] using hb, grown_refl _ _⟩
  · rw [hAd h0]
    exact addTimes_any g pre post R l m c c2 A2 w hR hl hm hlen hn hp hb hr

theorem times_step (X P m k la : Nat) (hP : P < 4294967296 ^ (la + k)) (hm : m < 4294967296) (hX : X < 4294967296 ^ la) :
    digs (la + (k + 1)) (P + 4294967296 ^ k * (m * X)) = digs k P ++ (digs la (P / 4294967296 ^ k + m * X) ++ [(P / 4294967296 ^ k + m * X) / 4294967296 ^ la]) ∧ (P / 4294967296 ^ k + m * X) / 4294967296 ^ la < 4294967296 ∧ P / 4294967296 ^ k < 4294967296 ^ la := by
  have h1 : P / 4294967296 ^ k < 4294967296 ^ la := by rw [Nat.div_lt_iff_lt_mul (pow_pos k), ← Nat.pow_add]; exact hP
  have h2 : (P / 4294967296 ^ k + m * X) / 4294967296 ^ la < 4294967296 := by
    rw [Nat.div_lt_iff_lt_mul (pow_pos la)]
    have : m * X ≤ 4294967295 * X := Nat.mul_le_mul_right _ (by omega)
    omega
  refine ⟨?_, h2, h1⟩
  rw [show la + (k + 1) = k + (la + 1) by omega, digs_append k (la + 1), digs_add, Nat.add_mul_div_left _ _ (pow_pos k), digs_snoc la, Nat.mod_eq_of_lt h2]
theorem times_lt (X : Nat) (b : List Nat) (k la : Nat) (hX : X < 4294967296 ^ la) (hb : Ok b) (hk : k ≤ b.length) : X * num (b.take k) < 4294967296 ^ (la + k) := by
  have h := num_lt _ (hb.take k)
  rw [List.length_take, Nat.min_eq_left hk] at h
  rw [Nat.pow_add]
  exact Nat.lt_of_le_of_lt (Nat.mul_le_mul_left _ (Nat.le_of_lt h)) (Nat.mul_lt_mul_of_pos_right hX (pow_pos k))
theorem cells_split (k la : Nat) (P : Nat) (post : List Value) : Lc (digs (la + k) P) ++ post = Lc (digs k P) ++ (Lc (digs la (P / 4294967296 ^ k)) ++ post) := by
  rw [Nat.add_comm, digs_append, Lc_append, List.append_assoc]
theorem times_put {w : World} {g k la lb : Nat} {P T : Nat} (h : Row w g (Lc (digs k P)) (digs la T) (Lc (List.replicate (lb - k) 0))) (hk : k < lb) (qv : Nat) :
    w.cell? ⟨g, k + la, none⟩ = some (.int .u32 0) ∧ w.frozen? ⟨g, k + la, none⟩ = false ∧ Blk (w.setCell ⟨g, k + la, none⟩ (.int .u32 ((qv : Nat) : Int))) g 66 (Lc (digs k P ++ (digs la T ++ [qv])) ++ Lc (List.replicate (lb - (k + 1)) 0)) := by
  unfold Row at h
  have e : Lc (digs k P) ++ (Lc (digs la T) ++ Lc (List.replicate (lb - k) 0)) = Lc ((digs k P ++ digs la T) ++ List.replicate (lb - k) 0) := by rw [Lc_append, Lc_append, List.append_assoc]
  rw [e] at h
  have hlen : (digs k P ++ digs la T).length = k + la := by rw [List.length_append, digs_len, digs_len]
  refine ⟨?_, h.frozen _, ?_⟩
  · rw [h.cell, Lc_get _ _ (by rw [List.length_append, hlen, List.length_replicate]; omega), List.getElem_append_right (by omega)]; simp
  · have := h.put (k + la) (.int .u32 ((qv : Nat) : Int))
    rw [Lc_set, show lb - k = lb - (k + 1) + 1 by omega, List.replicate_succ, List.set_append_right _ _ (by omega), hlen, Nat.sub_self, List.set_cons_zero] at this
    have e2 : digs k P ++ digs la T ++ qv :: List.replicate (lb - (k + 1)) 0 = (digs k P ++ (digs la T ++ [qv])) ++ List.replicate (lb - (k + 1)) 0 := by simp
    rw [e2, Lc_append] at this
    exact this
set_option maxHeartbeats 2000000 in
theorem times_any (A A2 : Option Addr) (a b : List Nat) (c c2 : Nat) (w : World) (ha : Ok a) (hb : Ok b) (hr : Rd w w.heap.size A (Lc a)) (hr2 : Rd w w.heap.size A2 (Lc b)) (hl : a.length ≤ 100000) (hl2 : b.length ≤ 100000) :
    Calls Tryz.prog 46 #[.slice A a.length c, .slice A2 b.length c2] w (SlP w (num a * num b)) := by
  obtain ⟨la, hla⟩ : ∃ n, n = a.length := ⟨_, rfl⟩
  obtain ⟨lb, hlb⟩ : ∃ n, n = b.length := ⟨_, rfl⟩
  obtain ⟨X, hX⟩ : ∃ x, x = num a := ⟨_, rfl⟩
  have hXlt : X < 4294967296 ^ la := by rw [hX, hla]; exact num_lt a ha
  rw [← hla] at hl ⊢
  rw [← hlb] at hl2 ⊢
  rw [← hX]
  have HLA := Lib.hid hla; have HLB := Lib.hid hlb; have HX := Lib.hid hX; have HXL := Lib.hid hXlt
  have hmk := mk22 (la + lb) (by omega)
  have ec : ((la + lb : Nat) : Int) = (la : Int) + (lb : Int) := by omega
  rw [ec] at hmk
  have EC := Lib.hid ec
  clear hla hlb hX hXlt ec
  go_enter Tryz.func46, Tryz.ntmps46
  go_wp2
  clear hmk
  go_loopw [17] (fun s17 wr => ∃ k : Nat, k ≤ lb ∧ s17 = .int .i64 k ∧ Blk wr w.heap.size 66 (Lc (digs (la + k) (X * num (b.take k))) ++ Lc (List.replicate (lb - k) 0)) ∧ Below w.heap.size w wr) (fun s17 _ => lb - (intOf s17).toNat)
  case atStart =>
    refine ⟨0, Nat.zero_le _, rfl, ?_, (Below.refl _ _).alloc (Nat.le_refl _) _⟩
    have := Blk.new w 66 (Lc (List.replicate (la + lb) 0))
    rw [List.take_zero, show num [] = 0 from rfl, Nat.mul_zero, digs_zero, ← Lc_append, List.replicate_append_replicate]
    exact this
  case round =>
    obtain ⟨k, hk, rfl, hblk, hbel⟩ := hrel
    by_cases hlt : k < lb
    · have hkb : k < b.length := by have := HLB.out; omega
      have hrb : Rd wr w.heap.size A2 (Lc b) := hr2.below hbel
      have hra : Rd wr w.heap.size A (Lc a) := hr.below hbel
      obtain ⟨g2, o2, rfl, hg2, hc2⟩ := limb_cell hrb k hkb
      have hm := hb.get k hkb
      have hPlt := times_lt X b k la HXL.out hb (by omega)
      have hnx := num_take_succ b k hkb
      obtain ⟨hst, hq, hRl⟩ := times_step X (X * num (b.take k)) b[k] k la hPlt hm HXL.out
      have hP' : X * num (b.take (k + 1)) = X * num (b.take k) + 4294967296 ^ k * (b[k] * X) := by
        rw [hnx, Nat.mul_add, Nat.mul_left_comm, Nat.mul_comm X b[k]]
      rw [← hP'] at hst
      have HST := Lib.hid hst
      clear hst hnx hP' hPlt
      rw [cells_split] at hblk
      generalize X * num (b.take k) = P at *
      generalize b[k] = m at *
      have hRk : Ok (digs la (P / 4294967296 ^ k)) := digs_ok _ _
      have hRn : num (digs la (P / 4294967296 ^ k)) = P / 4294967296 ^ k := by rw [num_digs, Nat.mod_eq_of_lt hRl]
      obtain ⟨Ad, hAd, hsl⟩ := sl3 w.heap.size (la + lb) (la + lb) k la (by omega)
      have hAT := fun W (h : wr = W) => addTimes_ad w.heap.size (Lc (digs k P)) (Lc (List.replicate (lb - k) 0)) (digs la (P / 4294967296 ^ k)) a m la c Ad A W hRk ha hm (by rw [digs_len, ← HLA.out]) (by rw [digs_len]; omega) (by rw [Lc_len, digs_len]; omega) (by rw [digs_len, Lc_len, digs_len]; exact hAd) (by rw [← h]; exact hblk) (by rw [← h]; exact hra)
      rw [hRn, digs_len, ← HX.out, ← HLA.out] at hAT
      have HAT := Lib.hid hAT
      have HBel := Lib.hid hbel
      have HLT := Lib.hid hblk.lt
      obtain ⟨T, hT⟩ : ∃ T, T = P / 4294967296 ^ k + m * X := ⟨_, rfl⟩
      rw [← hT] at HAT HST hq
      obtain ⟨qv, hqv⟩ : ∃ q, q = T / 4294967296 ^ la := ⟨_, rfl⟩
      have HQV := Lib.hid hqv
      have hqB : qv < 4294967296 := by omega
      have hsl2 := hsl
      clear hblk hbel hra hrb hRk hRn hAd hr hr2 hT hRl hAT hq hqv
      have i1 : (k : Int) < (lb : Int) := by omega
      go_wp2_with fail
      refine (HAT.out _ rfl).mono ?_
      rintro e w1 ⟨rfl, hrow, hgr⟩
      rw [digs_len, ← HQV.out]
      rw [digs_len] at hrow
      obtain ⟨hc1, hf1, hput⟩ := times_put hrow hlt qv
      have hbel1 := HBel.out.grown hgr (Nat.le_of_lt HLT.out) (by intro q e; injection e with e; omega)
      have HB1 := Lib.hid (hbel1.setCell (p := ⟨w.heap.size, k + la, none⟩) (Nat.le_refl _) (.int .u32 ((qv : Nat) : Int)))
      have HP1 := Lib.hid hput
      clear hput hrow hgr hbel1 hsl hsl2 HAT
      have ei : ((k : Int) + (la : Int)).toNat = k + la := by omega
      have ej : (k : Int) + (la : Int) < (la : Int) + (lb : Int) := by omega
      have el : 0 ≤ (k : Int) + (la : Int) := by omega
      go_wp2
      go_roundw
      case rel =>
        refine ⟨k + 1, hlt, by go_num, ?_, HB1.out⟩
        rw [HST.out, ← HQV.out]
        exact HP1.out
      case measure => simp only [intOf]; omega
    · obtain rfl : k = lb := by omega
      rw [Nat.sub_self, List.replicate_zero, Lc_nil, List.append_nil, List.take_of_length_le (by rw [HLB.out]; exact Nat.le_refl _)] at hblk
      have hPlt := times_lt X b k la HXL.out hb (by rw [HLB.out]; exact Nat.le_refl _)
      rw [List.take_of_length_le (by rw [HLB.out]; exact Nat.le_refl _)] at hPlt
      have hdz := dropz_digs (la + k) (X * num b) hPlt
      have hlen := digs_len (la + k) (X * num b)
      have HSL := Lib.hid (proper_sl hblk hdz)
      have HRD := Lib.hid (Rd.of_blk0 hblk)
      have HBel := Lib.hid hbel
      generalize digs (la + k) (X * num b) = D at *
      have HLEN := Lib.hid hlen
      clear hblk hdz hlen hr hr2 hbel hPlt
      have hpr := fun W (h : wr = W) => proper_any (some ⟨w.heap.size, 0, none⟩) (la + k) D (w.heap.size + 1) W (by rw [← h]; exact HRD.out) (by rw [HLEN.out]; omega) (by rw [HLEN.out]; exact Nat.le_refl _)
      rw [HLEN.out] at hpr
      have HPR := Lib.hid hpr
      clear hpr
      go_wp2_with (go_at_call 97; refine (HPR.out _ rfl).mono ?_; rintro e w' ⟨rfl, rfl⟩)
      go_ret
      exact ⟨.slice (some ⟨w.heap.size, 0, none⟩) (dropz D).length (dropz D).length, rfl, HSL.out, HBel.out⟩
end Go.Proofs.YtbfhilbagojdnaaGreat
