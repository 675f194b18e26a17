/-
  The reference: tenth.
  No condition but the length.
-/
import Derived.Test.YtbfhilbagojdnaaGreatRx8
namespace Go.Proofs.YtbfhilbagojdnaaGreat
open Go.RowKit Wr Go.Proofs.YtbfhilbagojdnaaGreat.Nm
set_option linter.unusedVariables false
set_option maxRecDepth 100000

def TnP (w : World) (l : List Nat) (e : Ending) (w' : World) : Prop :=
  ∃ v, e = .returned (.tuple #[v, .int .i64 ((num l % 10 : Nat) : Int)]) ∧ Sl w' v (lim (num l / 10)) ∧ Below w.heap.size w w'
set_option maxHeartbeats 2000000 in
theorem tenth_any {v : Value} {l : List Nat} {w : World} (h : Sl w v l) (hl : Ok l) (hn : l.length ≤ 1000000) : Calls Tryz.prog 87 #[v] w (TnP w l) := by
  obtain ⟨A, c, rfl, hc, hnl, hr⟩ := h
  obtain ⟨N, hN⟩ : ∃ N, N = l.length := ⟨_, rfl⟩
  rw [← hN] at hn ⊢
  have HN := Lib.hid hN
  have hmk := mk22 N (by omega)
  clear hN hc hnl
  go_enter Tryz.func87, Tryz.ntmps87
  go_wp2
  clear hmk
  go_loopw [5, 6] (fun s5 s6 wr => ∃ k : Nat, k ≤ N ∧ s6 = .int .i64 ((k : Int) - 1) ∧ s5 = .int .u64 ((num (l.drop k) % 10 : Nat) : Int) ∧ Blk wr w.heap.size 66 (Lc (List.replicate k 0 ++ digs (N - k) (num (l.drop k) / 10))) ∧ Below w.heap.size w wr) (fun _ s6 _ => (intOf s6 + 1).toNat)
  case atStart =>
    refine ⟨N, Nat.le_refl _, rfl, ?_, ?_, (Below.refl _ _).alloc (Nat.le_refl _) _⟩
    · rw [List.drop_of_length_le (by rw [HN.out]; exact Nat.le_refl _)]; simp [num]
    · rw [Nat.sub_self]
      simp only [digs, List.append_nil]
      exact Blk.new w 66 (Lc (List.replicate N 0))
  case round =>
    obtain ⟨k, hk, rfl, rfl, hb, hbel⟩ := hrel
    rcases Nat.eq_zero_or_pos k with h0 | h0
    · subst h0
      rw [List.drop_zero] at hb ⊢
      rw [Nat.sub_zero] at hb
      simp only [List.replicate_zero, List.nil_append] at hb
      have hQ : num l / 10 < 4294967296 ^ N := by
        have := num_lt l hl
        rw [← HN.out] at this
        exact Nat.lt_of_le_of_lt (Nat.div_le_self _ _) this
      have hdz := dropz_digs N (num l / 10) hQ
      have hlen := digs_len N (num l / 10)
      have hr10 : num l % 10 < 10 := Nat.mod_lt _ (by decide)
      have HB := Lib.hid hbel
      generalize hD : digs N (num l / 10) = D at *
      generalize hr2 : num l % 10 = r at *
      have HR2 := Lib.hid hr2
      have HSL := Lib.hid (show Sl wr (.slice (some ⟨w.heap.size, 0, none⟩) N N) D from ⟨_, _, by rw [hlen], by rw [hlen]; exact Nat.le_refl _, (fun e => by cases e), (Rd.of_blk0 hb).more hb.lt⟩)
      have HT := Lib.hid (trim_any HSL.out (by rw [hlen]; exact hn))
      have HDZ := Lib.hid hdz
      have hw : IntKind.i64.wrap ((r : Nat) : Int) = ((r : Nat) : Int) := IntWalk.i64_in _ (by omega)
      clear hbel hdz hlen hb hQ hr hD hr2 hk hn
      go_wp2_with (go_at_call 86; refine HT.out.mono ?_; rintro e w2 ⟨v2, rfl, hs, hb⟩)
      have HS2 := Lib.hid hs; have HB2 := Lib.hid (below_step HB.out hb)
      go_ret2
      exact ⟨v2, by rw [HR2.out]; rfl, by rw [← HDZ.out]; exact HS2.out, HB2.out⟩
    · obtain ⟨j, rfl⟩ : ∃ j, k = j + 1 := ⟨k - 1, by omega⟩
      have hj : j < l.length := by have := HN.out; omega
      have hrw : Rd wr w.heap.size A (Lc l) := hr.below hbel
      obtain ⟨g, o, rfl, hg, hcell⟩ := limb_cell hrw j hj
      have hx := hl.get j hj
      obtain ⟨q1, q2, q3⟩ := quo_step (num (l.drop (j + 1))) l[j] 10 (by decide) hx
      rw [← num_drop_succ l j hj] at q1 q2
      have hq3 := q3 (by omega)
      have hrest : num (l.drop (j + 1)) % 10 < 10 := Nat.mod_lt _ (by decide)
      have hput := hb.put j (.int .u32 (((num (l.drop (j + 1)) % 10 * 4294967296 + l[j]) / 10 : Nat) : Int))
      have hsub : N - j = N - (j + 1) + 1 := by omega
      simp only [Lc_set, rep_set] at hput
      rw [← digs_cons _ _ _ hq3, ← hsub, ← q1] at hput
      have hbp := hbel.setCell (p := ⟨w.heap.size, j, none⟩) (Nat.le_refl _) (.int .u32 (((num (l.drop (j + 1)) % 10 * 4294967296 + l[j]) / 10 : Nat) : Int))
      have hc2 : wr.cell? ⟨w.heap.size, j, none⟩ = some (.int .u32 0) := by
        rw [hb.cell, Lc_get _ _ (by simp; omega)]; simp
      have hf2 := hb.frozen j
      generalize hrr : num (l.drop (j + 1)) % 10 = r at *
      generalize l[j] = x at *
      have HPut := Lib.hid hput
      have HBP := Lib.hid hbp
      have Q2 := Lib.hid q2
      clear hput hbp q1 q2 q3 hb hbel hr hrw hsub hrr
      obtain ⟨t, ht⟩ : ∃ v, v = r * 4294967296 + x := ⟨_, rfl⟩
      have hor := or_u64 r x (by omega) hx
      rw [← ht] at hor
      rw [← ht] at hq3
      have Q2' := Lib.hid Q2.out
      obtain ⟨v1, hv1⟩ : ∃ v, v = t / 10 := ⟨_, rfl⟩
      obtain ⟨v2, hv2⟩ : ∃ v, v = t % 10 := ⟨_, rfl⟩
      have HV1 := Lib.hid (show (r * 4294967296 + x) / 10 = v1 by rw [← ht, hv1]); have HV2 := Lib.hid (show (r * 4294967296 + x) % 10 = v2 by rw [← ht, hv2])
      have hd1 : (t : Int) / 10 = (v1 : Int) := by omega
      have hd2 : (t : Int).tdiv 10 = (v1 : Int) := by rw [Int.tdiv_eq_ediv_of_nonneg (by omega)]; omega
      have hm1 : (t : Int) % 10 = (v2 : Int) := by omega
      have hm2 : (t : Int).tmod 10 = (v2 : Int) := by rw [Int.tmod_eq_emod_of_nonneg (by omega)]; omega
      have hw1 : IntKind.u32.wrap (v1 : Int) = (v1 : Int) := IntWalk.u32_in _ (by omega)
      have hw0 : IntKind.u64.wrap (x : Int) = (x : Int) := IntWalk.u64_in _ (by omega)
      have hw2 : IntKind.u64.wrap ((r : Int) * 4294967296) = (r : Int) * 4294967296 := IntWalk.u64_in _ (by omega)
      have hw3 : IntKind.u64.wrap (v1 : Int) = (v1 : Int) := IntWalk.u64_in _ (by omega)
      have i1 : (j : Int) < (N : Int) := by omega
      clear hv1 hv2 hq3 ht hrest hx
      go_wp2
      go_roundw
      case rel =>
        refine ⟨j, by omega, by go_num, ?_, ?_, ?_⟩
        · rw [Q2.out, HV2.out]
        · have h := HPut.out; rw [HV1.out] at h; exact h
        · have h := HBP.out; rw [HV1.out] at h; exact h
      case measure => simp only [intOf]; omega
end Go.Proofs.YtbfhilbagojdnaaGreat
