/-
  The contract of the reference's Sum: SHA-256 of the bytes.
  Conditions: at most 2^39 bytes; the reference's table of the round constants is as the text lays it.
-/
import Derived.Test.YtfagpeacilfaaaaDoorRPad
import Derived.Test.YtfagpeacilfaaaaDoorHSum
import Derived.Outline
namespace Go.Proofs.YtfagpeacilfaaaaDoor
open Go.RowKit Wr Sh
set_option linter.unusedVariables false
attribute [local go_sem] xor_val and_val or_val add_val add_val' not_val

theorem fm_at : ∀ (l : List W) (q r : Nat), r < 4 → (l.flatMap bytes4)[4 * q + r]? = (l[q]?).bind fun x => (bytes4 x)[r]? := by
  intro l
  induction l with
  | nil => intro q r _; simp
  | cons x l ih =>
    intro q r hr
    rw [List.flatMap_cons]
    have hl : (bytes4 x).length = 4 := rfl
    cases q with
    | zero => rw [List.getElem?_append_left (by rw [hl]; omega)]; simp
    | succ q =>
      rw [List.getElem?_append_right (by rw [hl]; omega), hl, show 4 * (q + 1) + r - 4 = 4 * q + r by omega, ih q r hr]; rfl
theorem b4_at (x : W) (r k : Nat) (hr : r < 4) (hk : k = 24 - 8 * r) : (bytes4 x)[r]? = some (lo8 (x >>> k)) := by
  subst hk
  have : r = 0 ∨ r = 1 ∨ r = 2 ∨ r = 3 := by omega
  rcases this with rfl | rfl | rfl | rfl <;> simp [bytes4]
theorem lo8_val (x : W) (k : Nat) : val x / (2 ^ k : Int) % 256 = ((lo8 (x >>> k)).toNat : Int) := by
  unfold lo8 Sh.val
  rw [UInt8.toNat_ofNat', BitVec.toNat_ushiftRight, Nat.shiftRight_eq_div_pow]
  have : ((2 : Int) ^ k) = ((2 ^ k : Nat) : Int) := by simp
  rw [this, ← Int.natCast_ediv]; omega
/-- The byte number i of eight words. -/
theorem byte_at (v : S8) (i q r k : Nat) (hi : i < 32) (hq : i = 4 * q + r) (hr : r < 4) (hk : k = 24 - 8 * r) :
    ∃ (y : W) (c : UInt8), (U32 v.list)[q]? = some (.int .u32 (val y)) ∧ val y / (2 ^ k : Int) % 256 = (c.toNat : Int) ∧ v.bytes[i]? = some c := by
  have hq8 : q < v.list.length := by show q < 8; omega
  refine ⟨v.list[q], lo8 (v.list[q] >>> k), ?_, lo8_val _ _, ?_⟩
  · unfold U32; rw [List.getElem?_map, List.getElem?_eq_getElem hq8]; rfl
  · unfold S8.bytes
    rw [hq, fm_at _ q r hr, List.getElem?_eq_getElem hq8]
    exact b4_at _ r k hr hk

def outc (l : List UInt8) (i : Nat) : List UInt8 := l.take i ++ List.replicate (32 - i) 0
theorem outc_at (l : List UInt8) (i : Nat) (hl : l.length = 32) (hi : i < 32) : (B8 (outc l i))[i]? = some (.int .u8 0) := by
  unfold outc
  rw [B8_append, List.getElem?_append_right (by rw [B8_len, List.length_take]; omega), B8_len, List.length_take]
  rw [show i - min i l.length = 0 by omega, show 32 - i = (32 - (i + 1)) + 1 by omega, List.replicate_succ]; rfl
theorem outc_set (l : List UInt8) (i : Nat) (c : UInt8) (hl : l.length = 32) (hi : i < 32) (hc : l[i]? = some c) : (B8 (outc l i)).set i (.int .u8 (c.toNat : Int)) = B8 (outc l (i + 1)) := by
  have hil : i < l.length := by omega
  have hci : l[i] = c := by rw [List.getElem?_eq_getElem hil] at hc; exact Option.some.inj hc
  unfold outc
  rw [show 32 - i = (32 - (i + 1)) + 1 by omega, List.replicate_succ, List.take_succ_eq_append_getElem hil, hci, B8_append, B8_append, B8_append, List.set_append_right _ _ (by rw [B8_len, List.length_take]; omega), B8_len, List.length_take,
    show i - min i l.length = 0 by omega]
  simp [B8]
theorem outc_end (l : List UInt8) (hl : l.length = 32) : outc l 32 = l := by unfold outc; rw [List.take_of_length_le (by omega)]; simp
theorem pad_len (m : List UInt8) : (pad m).length = 64 * ((pad m).length / 64) := by
  have : (pad m).length % 64 = 0 := by
    unfold pad tail noughts
    simp only [List.length_append, List.length_cons, List.length_replicate, be8, List.length_map, List.length_range]
    omega
  omega
theorem pad_le (m : List UInt8) : (pad m).length ≤ m.length + 72 ∧ m.length + 9 ≤ (pad m).length := by
  unfold pad tail noughts
  simp only [List.length_append, List.length_cons, List.length_replicate, be8, List.length_map, List.length_range]
  omega

set_option maxRecDepth 100000 in
set_option maxHeartbeats 8000000 in
theorem rsum_go (m : List UInt8) (A : Option Addr) (c : Nat) (w : World) (hr : Rd w w.heap.size A (B8 m)) (hnil : A = none → c = 0) (hsz : m.length ≤ 549755813888) (ht : Tab 0 w) (R : List UInt8) (hR : Hid (R = sha m)) :
    Calls Tryd.prog 12 #[.slice A m.length c] w fun e w' => e = .returned (.agg (B8 R).toArray) ∧ Below w.heap.size w w' := by
  have HT := Lib.hid ht
  have HR := Lib.hid hr
  have HNIL := Lib.hid hnil
  obtain ⟨P, hP⟩ : ∃ P, P = pad m := ⟨_, rfl⟩
  obtain ⟨nb, hnb⟩ : ∃ n, n = P.length / 64 := ⟨_, rfl⟩
  obtain ⟨LP, hLP⟩ : ∃ n, n = P.length := ⟨_, rfl⟩
  have hLP64 : LP = 64 * nb := by rw [hLP, hnb, hP]; exact pad_len m
  have hLPs : LP ≤ 549755813888 + 72 ∧ 9 ≤ LP := by have := pad_le m; rw [← hP, ← hLP] at this; omega
  obtain ⟨N, hN⟩ : ∃ N, N = m.length := ⟨_, rfl⟩
  have HPAD : Hid (∀ W, Below w.heap.size w W → Calls Tryd.prog 28 #[.slice A N c] W fun e w' => ∃ g o c', e = .returned (.slice (some ⟨g, o, none⟩) LP c') ∧ W.heap.size ≤ g ∧ LP ≤ c' ∧ Rd w' w'.heap.size (some ⟨g, o, none⟩) (B8 P) ∧ Below W.heap.size W w') := Lib.hid (by
    intro W hW
    rw [hN]
    refine (padded_go m A c W (by omega) ((hr.below hW).more hW.size) hnil).mono ?_
    rintro e w' ⟨v', rfl, ho, hb⟩
    obtain ⟨A', c', rfl, h1, _, h3⟩ := own_form ho
    rw [← hP] at h1 h3 ⊢
    rw [← hLP] at h1 ⊢
    obtain ⟨g, o, rfl, _, _⟩ := h3 (by intro e; have := congrArg List.length e; rw [B8_len] at this; simp at this; rw [this] at hLP; simp at hLP; omega)
    exact ⟨g, o, c', rfl, (ho.lt g rfl).1, h1, h3, hb⟩)
  rw [← hN] at hsz ⊢
  have HP := Lib.hid hP
  have HNB := Lib.hid hnb
  have HLP := Lib.hid hLP
  have HL64 := Lib.hid hLP64
  have b30 : ∀ W : World, (Instr.build 30 #[(0, .int .u32 1779033703), (1, .int .u32 3144134277), (2, .int .u32 1013904242), (3, .int .u32 2773480762), (4, .int .u32 1359893119), (5, .int .u32 2600822924), (6, .int .u32 528734635), (7, .int .u32 1541459225)]).run Tryd.prog W = .ok (.agg (U32 init.list).toArray) W := fun _ => by kernel_rfl
  have HB0 := Lib.hid (((Below.refl w.heap.size w).alloc (Nat.le_refl _) (.cells (B8 (List.replicate 32 0)).toArray 24)).alloc (by simp) (.cells (U32 (List.replicate 8 0)).toArray 30))
  have hU8 : (U32 (List.replicate 8 0)).toArray.size = (U32 init.list).toArray.size := by rfl
  have HU8 := Lib.hid hU8
  have HBI := Lib.hid (((Below.refl w.heap.size w).alloc (Nat.le_refl _) (.cells (B8 (List.replicate 32 0)).toArray 24)).alloc (by simp) (.cells (U32 init.list).toArray 30))
  have HK0 := Lib.hid ((Blk.new w 24 (B8 (List.replicate 32 0))).alloc (.cells (U32 init.list).toArray 30))
  have HK1 := Lib.hid (Blk.newAt (w.alloc (.cells (B8 (List.replicate 32 0)).toArray 24)) (w.heap.size + 1) 30 (U32 init.list) (by simp))
  clear ht hr hnil hP hnb hLP hN hLP64 hU8
  go_enter Tryd.func12, Tryd.ntmps12
  go_wp2_with (first
    | (go_at_call 28; refine (HPAD.out _ HBI.out).mono ?_; rintro e w1 ⟨g1, o1, c1, rfl, hg1, hc1, hrd1, hb1⟩; have HGE := Lib.hid (show w.heap.size + 2 ≤ g1 by simpa using hg1); clear hg1; have HRD1 := Lib.hid hrd1; have HC1 := Lib.hid hc1; have HB1 := Lib.hid (HBI.out.trans (hb1.mono HBI.out.size)); have K0 := Lib.hid (HK0.out.below hb1 HK0.out.lt); have K1 := Lib.hid (HK1.out.below hb1 HK1.out.lt); clear hrd1 hc1 hb1))
  have HG1 := Lib.hid (show g1 < w1.heap.size by
    obtain ⟨g, o, e, hg, _⟩ := HRD1.out (by intro e; have := congrArg List.length e; rw [B8_len, ← HLP.out] at this; simp at this; omega)
    cases e; exact hg)
  have HLOC : Hid (∀ j u, (B8 P)[j]? = some u → w1.cell? ⟨g1, o1 + j, none⟩ = some u) := Lib.hid (by
    obtain ⟨g, o, e, hg, hc⟩ := HRD1.out (by intro e; have := congrArg List.length e; rw [B8_len, ← HLP.out] at this; simp at this; omega)
    cases e; exact hc)
  have HNE := Lib.hid (show w.heap.size + 1 < w1.heap.size from K1.out.lt)
  clear HPAD HBI HK0 HK1 HR HNIL b30 HB0 HU8 HRD1
  go_loopw [5] (fun s5 wr => ∃ k : Nat, k ≤ nb ∧ s5 = .int .i64 ((64 * k : Nat) : Int) ∧ Hid (Blk wr w.heap.size 24 (B8 (List.replicate 32 0))) ∧ Hid (Blk wr (w.heap.size + 1) 30 (U32 (blocks P k).list)) ∧ Hid (∀ b, b < w1.heap.size → b ≠ w.heap.size + 1 → wr.heap[b]? = w1.heap[b]?) ∧ Hid (Below w.heap.size w wr) ∧ Hid (w1.heap.size ≤ wr.heap.size)) (fun s5 _ => LP - (intOf s5).toNat)
  case atStart => exact ⟨0, Nat.zero_le _, rfl, K0, K1, Lib.hid (fun _ _ _ => rfl), HB1, Lib.hid (Nat.le_refl _)⟩
  case round =>
    clear K0 K1 HB1
    rename World => wr
    obtain ⟨k, hk, rfl, K0, K1, HSAME, HB1, HSZ⟩ := hrel
    by_cases hlt : k < nb
    · obtain ⟨a, ha⟩ : ∃ a : Nat, a = 64 * k := ⟨_, rfl⟩
      have haL : a + 64 ≤ LP := by have := HL64.out; omega
      have hac : a + 64 ≤ c1 := Nat.le_trans haL HC1.out
      have h1 : (a : Int) < (LP : Int) := by omega
      have q1 : IntKind.i64.wrap ((a : Int) + 64) = (a : Int) + 64 := IntWalk.i64_in _ (by omega)
      have g1' : (a : Int) + 64 ≤ (c1 : Int) := by omega
      have g2' : (a : Int) ≤ (a : Int) + 64 := by omega
      have t1 : ((a : Int) + 64).toNat = a + 64 := by omega
      rw [← ha]
      have HA := Lib.hid ha
      clear ha
      obtain ⟨b, hb⟩ : ∃ b, b = (P.drop a).take 64 := ⟨_, rfl⟩
      have hb64 : b.length = 64 := by rw [hb, List.length_take, List.length_drop, ← HLP.out]; omega
      have hrd : Rd wr wr.heap.size (some ⟨g1, o1 + a, none⟩) (B8 b) := by
        intro _
        refine ⟨g1, o1 + a, rfl, Nat.lt_of_lt_of_le HG1.out HSZ.out, fun j u hu => ?_⟩
        have hj : j < 64 := by have := (List.getElem?_eq_some_iff.1 hu).1; rw [B8_len, hb64] at this; exact this
        have h2 : (B8 P)[a + j]? = some u := by
          rw [← hu, hb]; unfold B8
          rw [List.getElem?_map, List.getElem?_map, List.getElem?_take_of_lt hj, List.getElem?_drop]
        have h3 := HLOC.out (a + j) u h2
        have h4 := HSAME.out g1 HG1.out (by have := HGE.out; omega)
        rw [Nat.add_assoc, ← h3]
        unfold World.cell?
        rw [h4]
      have HRD := Lib.hid hrd
      have Hb := Lib.hid hb
      have Hb64 := Lib.hid hb64
      obtain ⟨L, hL⟩ : ∃ L, L = sched b := ⟨_, rfl⟩
      have hl : L.length = 64 := by rw [hL]; exact wl_len b 48
      have HL0 := Lib.hid hL
      have HL := Lib.hid hl
      have HS := Lib.hid (show (U32 L).length = 64 by rw [U32_len, hl])
      have HCC := Lib.hid (show 64 ≤ c1 - a by omega)
      obtain ⟨v, hv⟩ : ∃ v, v = blocks P k := ⟨_, rfl⟩
      rw [← hv] at K1
      have Hv := Lib.hid hv
      clear hrd hb hb64 hL hl hv
      go_wp2_with (first
        | (go_at_call 29; refine (words_go b _ _ _ Hb64.out HRD.out HCC.out L HL0).mono ?_; rintro e w2 ⟨rfl, hb2⟩; have HB2 := Lib.hid hb2; clear hb2)
        | (with_reducible refine wpList_store_row rfl 55 (.tmp 6) (.tmp 34) rfl w2.heap.size (U32 L).toArray rfl rfl 55 _ (heap_alloc_new w2 _) (size55' _ HL.out) (by simp [HS.out]) (U32_one _) ?_))
      generalize hW : World.setRow _ _ _ = W1
      have hM : wr.heap.size ≤ w2.heap.size := HB2.out.size
      have hNM : w.heap.size + 1 < wr.heap.size := Nat.lt_of_lt_of_le HNE.out HSZ.out
      have f0 : Blk W1 w.heap.size 24 (B8 (List.replicate 32 0)) := by
        rw [← hW]; exact (((K0.out.below HB2.out (by omega)).alloc _).setRow (by omega) _)
      have f1 : Blk W1 (w.heap.size + 1) 30 (U32 v.list) := by
        rw [← hW]; exact (((K1.out.below HB2.out (by omega)).alloc _).setRow (by omega) _)
      have f5 : Blk W1 w2.heap.size 55 (U32 L) := by
        rw [← hW]; exact Blk.row (Blk.new w2 55 (U32 (List.replicate 64 0))) (U32 L)
      have hbel : Below wr.heap.size wr W1 := by
        rw [← hW]; exact belowRow (HB2.out.alloc hM _) hM _
      have HB := Lib.hid hbel
      clear hW HB2 hbel K0 K1
      obtain ⟨M, hM0⟩ : ∃ M, M = w2.heap.size := ⟨_, rfl⟩
      rw [← hM0] at f5 hM ⊢
      clear hM0
      have c0 : W1.cell? ⟨w.heap.size + 1, 0, none⟩ = some (.int .u32 (val v.a)) := f1.cell 0
      have c1 : W1.cell? ⟨w.heap.size + 1, 1, none⟩ = some (.int .u32 (val v.b)) := f1.cell 1
      have c2 : W1.cell? ⟨w.heap.size + 1, 2, none⟩ = some (.int .u32 (val v.c)) := f1.cell 2
      have c3 : W1.cell? ⟨w.heap.size + 1, 3, none⟩ = some (.int .u32 (val v.d)) := f1.cell 3
      have c4 : W1.cell? ⟨w.heap.size + 1, 4, none⟩ = some (.int .u32 (val v.e)) := f1.cell 4
      have c5 : W1.cell? ⟨w.heap.size + 1, 5, none⟩ = some (.int .u32 (val v.f)) := f1.cell 5
      have c6 : W1.cell? ⟨w.heap.size + 1, 6, none⟩ = some (.int .u32 (val v.g)) := f1.cell 6
      have c7 : W1.cell? ⟨w.heap.size + 1, 7, none⟩ = some (.int .u32 (val v.h)) := f1.cell 7
      go_quiet (fail)
      clear c0 c1 c2 c3 c4 c5 c6 c7
      generalize hq : W1.drewN nq = W2
      replace f0 : Blk W2 w.heap.size 24 (B8 (List.replicate 32 0)) := by rw [← hq]; exact f0.drewN _
      replace f1 : Blk W2 (w.heap.size + 1) 30 (U32 v.list) := by rw [← hq]; exact f1.drewN _
      replace f5 : Blk W2 M 55 (U32 L) := by rw [← hq]; exact f5.drewN _
      replace HB : Hid (Below wr.heap.size wr W2) := by rw [← hq]; exact Lib.hid (below_drewN HB.out _)
      clear hq nq
      go_wp2
      go_loopw [7, 8, 9, 10, 11, 12, 13, 14, 15] (fun s7 s8 s9 s10 s11 s12 s13 s14 s15 wy => ∃ (t : Nat) (s : S8), t ≤ 64 ∧ Hid (s = rnds v L t) ∧ s15 = .int .i64 t ∧
          s7 = .int .u32 (val s.a) ∧ s8 = .int .u32 (val s.b) ∧ s9 = .int .u32 (val s.c) ∧ s10 = .int .u32 (val s.d) ∧ s11 = .int .u32 (val s.e) ∧ s12 = .int .u32 (val s.f) ∧ s13 = .int .u32 (val s.g) ∧ s14 = .int .u32 (val s.h) ∧
          Blk wy w.heap.size 24 (B8 (List.replicate 32 0)) ∧ Blk wy (w.heap.size + 1) 30 (U32 v.list) ∧ Blk wy M 55 (U32 L) ∧ Hid (Below wr.heap.size wr wy))
        (fun _ _ _ _ _ _ _ _ s15 _ => 64 - (intOf s15).toNat)
      case atStart => exact ⟨0, v, by omega, Lib.hid rfl, rfl, rfl, rfl, rfl, rfl, rfl, rfl, rfl, rfl, f0, f1, f5, HB⟩
      case round =>
        clear f0 f1 f5 HB
        rename World => wy
        obtain ⟨t, s, ht, hs, rfl, rfl, rfl, rfl, rfl, rfl, rfl, rfl, rfl, f0, f1, f5, HB⟩ := hrel
        by_cases hlt2 : t < 64
        · have ht1 : (t : Int) < 64 := by omega
          obtain ⟨kk, Hk, ck⟩ : ∃ kk : W, Hid (kk = K t) ∧ wy.cell? ⟨0, t, none⟩ = some (.int .u32 (val kk)) := ⟨_, Lib.hid rfl, (HT.out.below (HB1.out.trans (HB.out.mono HB1.out.size)) HT.out.1).2 t hlt2⟩
          obtain ⟨x, Hx, cx⟩ : ∃ x : W, Hid (x = L.getD t 0) ∧ wy.cell? ⟨M, t, none⟩ = some (.int .u32 (val x)) := ⟨_, Lib.hid rfl, by
            have hL := HL.out
            rw [f5.cell, U32, List.getElem?_map, List.getD_eq_getElem?_getD, List.getElem?_eq_getElem (by omega)]; rfl⟩
          go_wp2
          go_quiet (exact Calls.quiet_of (rref_m _ _ _ (by decide)))
          generalize hq : wy.drewN nq = wz
          replace f0 : Blk wz w.heap.size 24 (B8 (List.replicate 32 0)) := by rw [← hq]; exact f0.drewN _
          replace f1 : Blk wz (w.heap.size + 1) 30 (U32 v.list) := by rw [← hq]; exact f1.drewN _
          replace f5 : Blk wz M 55 (U32 L) := by rw [← hq]; exact f5.drewN _
          replace HB : Hid (Below wr.heap.size wr wz) := by rw [← hq]; exact Lib.hid (below_drewN HB.out _)
          clear hq nq ck cx
          go_wp2_with (go_at_call 30; refine (rref_m _ _ _ (by decide)).mono ?_; rintro e w' ⟨rfl, n', rfl⟩)
          go_roundw
          case rel => exact ⟨t + 1, round s kk x, by omega, Lib.hid (by rw [hs.out, Hk.out, Hx.out]; rfl), by go_num, rfl, rfl, rfl, rfl, rfl, rfl, rfl, rfl, f0.drewN _, f1.drewN _, f5.drewN _, Lib.hid (below_drewN HB.out _)⟩
          case measure => simp only [intOf]; omega
        · have hS : s = rnds v L 64 := by rw [hs.out, show t = 64 by omega]
          have HSS := Lib.hid hS
          have c0 : wy.cell? ⟨w.heap.size + 1, 0, none⟩ = some (.int .u32 (val v.a)) := f1.cell 0
          have c1 : wy.cell? ⟨w.heap.size + 1, 1, none⟩ = some (.int .u32 (val v.b)) := f1.cell 1
          have c2 : wy.cell? ⟨w.heap.size + 1, 2, none⟩ = some (.int .u32 (val v.c)) := f1.cell 2
          have c3 : wy.cell? ⟨w.heap.size + 1, 3, none⟩ = some (.int .u32 (val v.d)) := f1.cell 3
          have c4 : wy.cell? ⟨w.heap.size + 1, 4, none⟩ = some (.int .u32 (val v.e)) := f1.cell 4
          have c5 : wy.cell? ⟨w.heap.size + 1, 5, none⟩ = some (.int .u32 (val v.f)) := f1.cell 5
          have c6 : wy.cell? ⟨w.heap.size + 1, 6, none⟩ = some (.int .u32 (val v.g)) := f1.cell 6
          have c7 : wy.cell? ⟨w.heap.size + 1, 7, none⟩ = some (.int .u32 (val v.h)) := f1.cell 7
          have F1 := Lib.hid (show wy.heap[w.heap.size + 1]? = some (.cells (U32 v.list).toArray 30 (0, 0)) from f1)
          have hUU := Lib.hid (show (U32 v.list).toArray.size = (U32 (v.add s).list).toArray.size from rfl)
          clear hS hs
          go_wp2_with (with_reducible refine wpList_store_row rfl 30 (.tmp 3) (.tmp 146) rfl (w.heap.size + 1) (U32 (v.add s).list).toArray rfl rfl 30 _ F1.out (size30' _ rfl) hUU.out (U32_one _) ?_)
          go_roundw
          case rel =>
            have hva : (Value.int IntKind.i64 ((a : Int) + 64)) = .int .i64 ((64 * (k + 1) : Nat) : Int) := by
              have := HA.out
              rw [show ((64 * (k + 1) : Nat) : Int) = (a : Int) + 64 by omega]
            have hbk : blocks P (k + 1) = v.add s := by
              rw [blocks, ← Hv.out, ← HA.out, ← Hb.out, compress, HSS.out, HL0.out]
            refine ⟨k + 1, hlt, hva, Lib.hid (f0.setRow (by omega) _), Lib.hid ?_, Lib.hid ?_, Lib.hid (belowRow (HB1.out.trans (HB.out.mono HB1.out.size)) (by omega) _), Lib.hid ?_⟩
            · rw [hbk]; exact f1.row _
            · intro b' h1 h2
              rw [heap_setRow_other _ _ _ _ h2, HB.out.block b' (Nat.lt_of_lt_of_le h1 HSZ.out), HSAME.out b' h1 h2]
            · exact Nat.le_trans HSZ.out (Nat.le_trans HB.out.size (by simp))
          case measure => simp only [intOf]; omega
    · obtain rfl : k = nb := by omega
      obtain ⟨v, hv⟩ : ∃ v, v = blocks P k := ⟨_, rfl⟩
      rw [← hv] at K1
      have HRv := Lib.hid (show R = v.bytes by rw [hR.out, sha, hv, HP.out, HNB.out, HP.out])
      have HRL := Lib.hid (show R.length = 32 by rw [hR.out]; exact sha_len _)
      have hge : ¬ (((64 * k : Nat) : Int) < (LP : Int)) := by have := HL64.out; omega
      clear hv hlt
      go_wp2_with fail
      generalize hW : wr.alloc _ = W1
      have hNM : w.heap.size + 1 < wr.heap.size := K1.out.lt
      have f0 : Blk W1 w.heap.size 24 (B8 (List.replicate 32 0)) := by rw [← hW]; exact K0.out.alloc _
      have f1 : Blk W1 (w.heap.size + 1) 30 (U32 v.list) := by rw [← hW]; exact K1.out.alloc _
      have f2 : Blk W1 wr.heap.size 24 (B8 (outc R 0)) := by rw [← hW]; exact Blk.new wr 24 (B8 (List.replicate 32 0))
      have HB : Hid (Below w.heap.size w W1) := by rw [← hW]; exact Lib.hid (HB1.out.alloc HB1.out.size _)
      obtain ⟨M, hM0⟩ : ∃ M, M = wr.heap.size := ⟨_, rfl⟩
      rw [← hM0] at f2 hNM ⊢
      clear hW hM0 K0 K1
      go_loopw [19] (fun s19 wy => ∃ i : Nat, i ≤ 32 ∧ s19 = .int .i64 i ∧ Blk wy w.heap.size 24 (B8 (List.replicate 32 0)) ∧ Blk wy (w.heap.size + 1) 30 (U32 v.list) ∧ Blk wy M 24 (B8 (outc R i)) ∧ Hid (Below w.heap.size w wy)) (fun s19 _ => 32 - (intOf s19).toNat)
      case atStart => exact ⟨0, by omega, rfl, f0, f1, f2, HB⟩
      case round =>
        clear f0 f1 f2 HB
        rename World => wy
        obtain ⟨i, hi, rfl, f0, f1, f2, HB⟩ := hrel
        by_cases hi32 : i < 32
        · obtain ⟨q, hq⟩ : ∃ q, q = i / 4 := ⟨_, rfl⟩
          obtain ⟨r, hr⟩ : ∃ r, r = i % 4 := ⟨_, rfl⟩
          obtain ⟨kk, hkk⟩ : ∃ kk, kk = 24 - 8 * r := ⟨_, rfl⟩
          obtain ⟨y, cc, hy, hc, hcc⟩ := byte_at v i q r kk hi32 (by omega) (by omega) hkk
          have cy : wy.cell? ⟨w.heap.size + 1, q, none⟩ = some (.int .u32 (val y)) := (f1.cell q).trans hy
          have co : wy.cell? ⟨M, i, none⟩ = some (.int .u8 0) := (f2.cell i).trans (outc_at R i HRL.out hi32)
          have fo := f2.frozen i
          have e1 : (i : Int) / 4 = (q : Int) := by omega
          have e2 : (i : Int) % 4 = (r : Int) := by omega
          have e3 : IntKind.i64.wrap (8 * (r : Int)) = 8 * (r : Int) := IntWalk.i64_in _ (by omega)
          have e4 : IntKind.i64.wrap (24 - 8 * (r : Int)) = (kk : Int) := by rw [IntWalk.i64_in _ (by omega)]; omega
          have g1' : (q : Int) < 8 := by omega
          have g2' : (i : Int) < 32 := by omega
          have Hset := Lib.hid (outc_set R i cc HRL.out hi32 (by rw [HRv.out]; exact hcc))
          have hk32 : (kk : Int) < 32 := by omega
          clear hq hr hkk hy hcc hi32
          go_wp2_with fail
          go_roundw
          case rel =>
            refine ⟨i + 1, by omega, by go_num, f0.far (show w.heap.size ≠ M by omega) _, f1.far (show w.heap.size + 1 ≠ M by omega) _, ?_, Lib.hid (HB.out.setCell (show w.heap.size ≤ M by omega) _)⟩
            have := f2.put i (.int .u8 (cc.toNat : Int))
            rw [Hset.out] at this
            exact this
          case measure => simp only [intOf]; omega
        · obtain rfl : i = 32 := by omega
          rw [outc_end R HRL.out] at f2
          have F2 := Lib.hid f2.at
          have F0 := Lib.hid (show wy.heap[w.heap.size]? = some (.cells (B8 (List.replicate 32 0)).toArray 24 (0, 0)) from f0)
          have HSZ2 := Lib.hid (show (B8 (List.replicate 32 0)).toArray.size = (B8 R).toArray.size by rw [List.size_toArray, List.size_toArray, B8_len, B8_len, HRL.out]; rfl)
          have hbel := HB.out
          clear f0 f1 f2
          go_wp2_with (first
            | (with_reducible refine wpList_load_at rfl 24 (.tmp 18) rfl ⟨M, 0, none⟩ rfl (B8 R) (.array 32 5) F2.out Tryd.underlying24 rfl (size24 _ HRL.out) ?_)
            | (with_reducible refine wpList_store_row rfl 24 (.tmp 2) (.tmp 163) rfl w.heap.size (B8 R).toArray rfl rfl 24 _ F0.out (size24' _ HRL.out) HSZ2.out (one8 _) ?_))
          refine bodyPost_ret (v := .agg (B8 R).toArray) ?_ rfl ⟨rfl, belowRow hbel (Nat.le_refl _) _⟩
          have hr := run_loadVar_row (P := Tryd.prog) _ w.heap.size 24 24 (B8 R).toArray (0, 0) (.array 32 5) (heap_setRow wy w.heap.size (B8 R).toArray _ 24 F0.out) Tryd.underlying24 rfl (size24' _ HRL.out)
          simp [results, Tryd.results12, asAddr, hr, Act.put]
end Go.Proofs.YtfagpeacilfaaaaDoor
