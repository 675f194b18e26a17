/-
  The contracts of the reference's Sum, Mac and Of (layer 2).
  Conditions: lengths; the reference's table of the round constants is as the text lays it.
-/
import Derived.Test.YtgonidjajmjniaaDoorRHashA
import Derived.Test.YtgonidjajmjniaaDoorAux
import Derived.Outline
import Derived.Test.YtgonidjajmjniaaDoorText
import Derived.Lib.AppendStr
import Derived.Test.YtgonidjajmjniaaDoorRWire
namespace Go.Proofs.YtgonidjajmjniaaDoor
open Go.RowKit Wr Sh
set_option linter.unusedVariables false
set_option maxRecDepth 100000
attribute [local go_sem] xor_val and_val or_val add_val add_val' not_val

theorem fm_at : ∀ (l : List W) (q r : Nat), r < 4 → (l.flatMap bytes4)[4 * q + r]? = (l[q]?).bind fun x => (bytes4 x)[r]? := by
  intro l
  induction l with
  | nil => intro q r _; simp
  | cons x l ih =>
    intro q r hr
    rw [List.flatMap_cons]
    have hl : (bytes4 x).length = 4 := rfl
    cases q with
    | zero => rw [List.getElem?_append_left (by rw [hl]; omega)]; simp
    | succ q =>
      rw [List.getElem?_append_right (by rw [hl]; omega), hl, show 4 * (q + 1) + r - 4 = 4 * q + r by omega, ih q r hr]; rfl
theorem b4_at (x : W) (r k : Nat) (hr : r < 4) (hk : k = 24 - 8 * r) : (bytes4 x)[r]? = some (lo8 (x >>> k)) := by
  subst hk
  have : r = 0 ∨ r = 1 ∨ r = 2 ∨ r = 3 := by omega
  rcases this with rfl | rfl | rfl | rfl <;> simp [bytes4]
theorem lo8_val (x : W) (k : Nat) : val x / (2 ^ k : Int) % 256 = ((lo8 (x >>> k)).toNat : Int) := by
  unfold lo8 Sh.val
  rw [UInt8.toNat_ofNat', BitVec.toNat_ushiftRight, Nat.shiftRight_eq_div_pow]
  have : ((2 : Int) ^ k) = ((2 ^ k : Nat) : Int) := by simp
  rw [this, ← Int.natCast_ediv]; omega
/-- The byte number i of eight words. -/
theorem byte_at (v : S8) (i q r k : Nat) (hi : i < 32) (hq : i = 4 * q + r) (hr : r < 4) (hk : k = 24 - 8 * r) :
    ∃ (y : W) (c : UInt8), (U32 v.list)[q]? = some (.int .u32 (val y)) ∧ val y / (2 ^ k : Int) % 256 = (c.toNat : Int) ∧ v.bytes[i]? = some c := by
  have hq8 : q < v.list.length := by show q < 8; omega
  refine ⟨v.list[q], lo8 (v.list[q] >>> k), ?_, lo8_val _ _, ?_⟩
  · unfold U32; rw [List.getElem?_map, List.getElem?_eq_getElem hq8]; rfl
  · unfold S8.bytes
    rw [hq, fm_at _ q r hr, List.getElem?_eq_getElem hq8]
    exact b4_at _ r k hr hk

def outc (l : List UInt8) (i : Nat) : List UInt8 := l.take i ++ List.replicate (32 - i) 0
theorem outc_at (l : List UInt8) (i : Nat) (hl : l.length = 32) (hi : i < 32) : (B8 (outc l i))[i]? = some (.int .u8 0) := by
  unfold outc
  rw [B8_append, List.getElem?_append_right (by rw [B8_len, List.length_take]; omega), B8_len, List.length_take]
  rw [show i - min i l.length = 0 by omega, show 32 - i = (32 - (i + 1)) + 1 by omega, List.replicate_succ]; rfl
theorem outc_set (l : List UInt8) (i : Nat) (c : UInt8) (hl : l.length = 32) (hi : i < 32) (hc : l[i]? = some c) : (B8 (outc l i)).set i (.int .u8 (c.toNat : Int)) = B8 (outc l (i + 1)) := by
  have hil : i < l.length := by omega
  have hci : l[i] = c := by rw [List.getElem?_eq_getElem hil] at hc; exact Option.some.inj hc
  unfold outc
  rw [show 32 - i = (32 - (i + 1)) + 1 by omega, List.replicate_succ, List.take_succ_eq_append_getElem hil, hci, B8_append, B8_append, B8_append, List.set_append_right _ _ (by rw [B8_len, List.length_take]; omega), B8_len, List.length_take,
    show i - min i l.length = 0 by omega]
  simp [B8]
theorem outc_end (l : List UInt8) (hl : l.length = 32) : outc l 32 = l := by unfold outc; rw [List.take_of_length_le (by omega)]; simp
theorem pad_len (m : List UInt8) : (pad m).length = 64 * ((pad m).length / 64) := by
  have : (pad m).length % 64 = 0 := by
    unfold pad tail noughts
    simp only [List.length_append, List.length_cons, List.length_replicate, be8, List.length_map, List.length_range]
    omega
  omega
theorem pad_le (m : List UInt8) : (pad m).length ≤ m.length + 72 ∧ m.length + 9 ≤ (pad m).length := by
  unfold pad tail noughts
  simp only [List.length_append, List.length_cons, List.length_replicate, be8, List.length_map, List.length_range]
  omega

set_option maxRecDepth 100000 in
set_option maxHeartbeats 8000000 in
theorem rsum_go (m : List UInt8) (A : Option Addr) (c : Nat) (w : World) (hr : Rd w w.heap.size A (B8 m)) (hnil : A = none → c = 0) (hsz : m.length ≤ 549755813888) (ht : Tab 0 w) (R : List UInt8) (hR : Hid (R = sha m)) :
    Calls Tryd.prog 64 #[.slice A m.length c] w fun e w' => e = .returned (.agg (B8 R).toArray) ∧ Below w.heap.size w w' := by
  have HT := Lib.hid ht
  have HR := Lib.hid hr
  have HNIL := Lib.hid hnil
  obtain ⟨P, hP⟩ : ∃ P, P = pad m := ⟨_, rfl⟩
  obtain ⟨nb, hnb⟩ : ∃ n, n = P.length / 64 := ⟨_, rfl⟩
  obtain ⟨LP, hLP⟩ : ∃ n, n = P.length := ⟨_, rfl⟩
  have hLP64 : LP = 64 * nb := by rw [hLP, hnb, hP]; exact pad_len m
  have hLPs : LP ≤ 549755813888 + 72 ∧ 9 ≤ LP := by have := pad_le m; rw [← hP, ← hLP] at this; omega
  obtain ⟨N, hN⟩ : ∃ N, N = m.length := ⟨_, rfl⟩
  have HPAD : Hid (∀ W, Below w.heap.size w W → Calls Tryd.prog 69 #[.slice A N c] W fun e w' => ∃ g o c', e = .returned (.slice (some ⟨g, o, none⟩) LP c') ∧ W.heap.size ≤ g ∧ LP ≤ c' ∧ Rd w' w'.heap.size (some ⟨g, o, none⟩) (B8 P) ∧ Below W.heap.size W w') := Lib.hid (by
    intro W hW
    rw [hN]
    refine (padded_go m A c W (by omega) ((hr.below hW).more hW.size) hnil).mono ?_
    rintro e w' ⟨v', rfl, ho, hb⟩
    obtain ⟨A', c', rfl, h1, _, h3⟩ := own_form ho
    rw [← hP] at h1 h3 ⊢
    rw [← hLP] at h1 ⊢
    obtain ⟨g, o, rfl, _, _⟩ := h3 (by intro e; have := congrArg List.length e; rw [B8_len] at this; simp at this; rw [this] at hLP; simp at hLP; omega)
    exact ⟨g, o, c', rfl, (ho.lt g rfl).1, h1, h3, hb⟩)
  rw [← hN] at hsz ⊢
  have HP := Lib.hid hP
  have HNB := Lib.hid hnb
  have HLP := Lib.hid hLP
  have HL64 := Lib.hid hLP64
  have b30 : ∀ W : World, (Instr.build 77 #[(0, .int .u32 1779033703), (1, .int .u32 3144134277), (2, .int .u32 1013904242), (3, .int .u32 2773480762), (4, .int .u32 1359893119), (5, .int .u32 2600822924), (6, .int .u32 528734635), (7, .int .u32 1541459225)]).run Tryd.prog W = .ok (.agg (U32 init.list).toArray) W := fun _ => by kernel_rfl
  have HB0 := Lib.hid (((Below.refl w.heap.size w).alloc (Nat.le_refl _) (.cells (B8 (List.replicate 32 0)).toArray 85)).alloc (by simp) (.cells (U32 (List.replicate 8 0)).toArray 77))
  have hU8 : (U32 (List.replicate 8 0)).toArray.size = (U32 init.list).toArray.size := by rfl
  have HU8 := Lib.hid hU8
  have HBI := Lib.hid (((Below.refl w.heap.size w).alloc (Nat.le_refl _) (.cells (B8 (List.replicate 32 0)).toArray 85)).alloc (by simp) (.cells (U32 init.list).toArray 77))
  have HK0 := Lib.hid ((Blk.new w 85 (B8 (List.replicate 32 0))).alloc (.cells (U32 init.list).toArray 77))
  have HK1 := Lib.hid (Blk.newAt (w.alloc (.cells (B8 (List.replicate 32 0)).toArray 85)) (w.heap.size + 1) 77 (U32 init.list) (by simp))
  clear ht hr hnil hP hnb hLP hN hLP64 hU8
  go_enter Tryd.func64, Tryd.ntmps64
  go_wp2_with (first
    | (go_at_call 69; refine (HPAD.out _ HBI.out).mono ?_; rintro e w1 ⟨g1, o1, c1, rfl, hg1, hc1, hrd1, hb1⟩; have HGE := Lib.hid (show w.heap.size + 2 ≤ g1 by simpa using hg1); clear hg1; have HRD1 := Lib.hid hrd1; have HC1 := Lib.hid hc1; have HB1 := Lib.hid (HBI.out.trans (hb1.mono HBI.out.size)); have K0 := Lib.hid (HK0.out.below hb1 HK0.out.lt); have K1 := Lib.hid (HK1.out.below hb1 HK1.out.lt); clear hrd1 hc1 hb1))
  have HG1 := Lib.hid (show g1 < w1.heap.size by
    obtain ⟨g, o, e, hg, _⟩ := HRD1.out (by intro e; have := congrArg List.length e; rw [B8_len, ← HLP.out] at this; simp at this; omega)
    cases e; exact hg)
  have HLOC : Hid (∀ j u, (B8 P)[j]? = some u → w1.cell? ⟨g1, o1 + j, none⟩ = some u) := Lib.hid (by
    obtain ⟨g, o, e, hg, hc⟩ := HRD1.out (by intro e; have := congrArg List.length e; rw [B8_len, ← HLP.out] at this; simp at this; omega)
    cases e; exact hc)
  have HNE := Lib.hid (show w.heap.size + 1 < w1.heap.size from K1.out.lt)
  clear HPAD HBI HK0 HK1 HR HNIL b30 HB0 HU8 HRD1
  go_loopw [5] (fun s5 wr => ∃ k : Nat, k ≤ nb ∧ s5 = .int .i64 ((64 * k : Nat) : Int) ∧ Hid (Blk wr w.heap.size 85 (B8 (List.replicate 32 0))) ∧ Hid (Blk wr (w.heap.size + 1) 77 (U32 (blocks P k).list)) ∧ Hid (∀ b, b < w1.heap.size → b ≠ w.heap.size + 1 → wr.heap[b]? = w1.heap[b]?) ∧ Hid (Below w.heap.size w wr) ∧ Hid (w1.heap.size ≤ wr.heap.size)) (fun s5 _ => LP - (intOf s5).toNat)
  case atStart => exact ⟨0, Nat.zero_le _, rfl, K0, K1, Lib.hid (fun _ _ _ => rfl), HB1, Lib.hid (Nat.le_refl _)⟩
  case round =>
    clear K0 K1 HB1
    rename World => wr
    obtain ⟨k, hk, rfl, K0, K1, HSAME, HB1, HSZ⟩ := hrel
    by_cases hlt : k < nb
    · obtain ⟨a, ha⟩ : ∃ a : Nat, a = 64 * k := ⟨_, rfl⟩
      have haL : a + 64 ≤ LP := by have := HL64.out; omega
      have hac : a + 64 ≤ c1 := Nat.le_trans haL HC1.out
      have h1 : (a : Int) < (LP : Int) := by omega
      have q1 : IntKind.i64.wrap ((a : Int) + 64) = (a : Int) + 64 := IntWalk.i64_in _ (by omega)
      have g1' : (a : Int) + 64 ≤ (c1 : Int) := by omega
      have g2' : (a : Int) ≤ (a : Int) + 64 := by omega
      have t1 : ((a : Int) + 64).toNat = a + 64 := by omega
      rw [← ha]
      have HA := Lib.hid ha
      clear ha
      obtain ⟨b, hb⟩ : ∃ b, b = (P.drop a).take 64 := ⟨_, rfl⟩
      have hb64 : b.length = 64 := by rw [hb, List.length_take, List.length_drop, ← HLP.out]; omega
      have hrd : Rd wr wr.heap.size (some ⟨g1, o1 + a, none⟩) (B8 b) := by
        intro _
        refine ⟨g1, o1 + a, rfl, Nat.lt_of_lt_of_le HG1.out HSZ.out, fun j u hu => ?_⟩
        have hj : j < 64 := by have := (List.getElem?_eq_some_iff.1 hu).1; rw [B8_len, hb64] at this; exact this
        have h2 : (B8 P)[a + j]? = some u := by
          rw [← hu, hb]; unfold B8
          rw [List.getElem?_map, List.getElem?_map, List.getElem?_take_of_lt hj, List.getElem?_drop]
        have h3 := HLOC.out (a + j) u h2
        have h4 := HSAME.out g1 HG1.out (by have := HGE.out; omega)
        rw [Nat.add_assoc, ← h3]
        unfold World.cell?
        rw [h4]
      have HRD := Lib.hid hrd
      have Hb := Lib.hid hb
      have Hb64 := Lib.hid hb64
      obtain ⟨L, hL⟩ : ∃ L, L = sched b := ⟨_, rfl⟩
      have hl : L.length = 64 := by rw [hL]; exact wl_len b 48
      have HL0 := Lib.hid hL
      have HL := Lib.hid hl
      have HS := Lib.hid (show (U32 L).length = 64 by rw [U32_len, hl])
      have HCC := Lib.hid (show 64 ≤ c1 - a by omega)
      obtain ⟨v, hv⟩ : ∃ v, v = blocks P k := ⟨_, rfl⟩
      rw [← hv] at K1
      have Hv := Lib.hid hv
      clear hrd hb hb64 hL hl hv
      go_wp2_with (first
        | (go_at_call 70; refine (words_go b _ _ _ Hb64.out HRD.out HCC.out L HL0).mono ?_; rintro e w2 ⟨rfl, hb2⟩; have HB2 := Lib.hid hb2; clear hb2)
        | (with_reducible refine wpList_store_row rfl 100 (.tmp 6) (.tmp 34) rfl w2.heap.size (U32 L).toArray rfl rfl 100 _ (heap_alloc_new w2 _) (size55' _ HL.out) (by simp [HS.out]) (U32_one _) ?_))
      generalize hW : World.setRow _ _ _ = W1
      have hM : wr.heap.size ≤ w2.heap.size := HB2.out.size
      have hNM : w.heap.size + 1 < wr.heap.size := Nat.lt_of_lt_of_le HNE.out HSZ.out
      have f0 : Blk W1 w.heap.size 85 (B8 (List.replicate 32 0)) := by
        rw [← hW]; exact (((K0.out.below HB2.out (by omega)).alloc _).setRow (by omega) _)
      have f1 : Blk W1 (w.heap.size + 1) 77 (U32 v.list) := by
        rw [← hW]; exact (((K1.out.below HB2.out (by omega)).alloc _).setRow (by omega) _)
      have f5 : Blk W1 w2.heap.size 100 (U32 L) := by
        rw [← hW]; exact Blk.row (Blk.new w2 100 (U32 (List.replicate 64 0))) (U32 L)
      have hbel : Below wr.heap.size wr W1 := by
        rw [← hW]; exact belowRow (HB2.out.alloc hM _) hM _
      have HB := Lib.hid hbel
      clear hW HB2 hbel K0 K1
      obtain ⟨M, hM0⟩ : ∃ M, M = w2.heap.size := ⟨_, rfl⟩
      rw [← hM0] at f5 hM ⊢
      clear hM0
      have c0 : W1.cell? ⟨w.heap.size + 1, 0, none⟩ = some (.int .u32 (val v.a)) := f1.cell 0
      have c1 : W1.cell? ⟨w.heap.size + 1, 1, none⟩ = some (.int .u32 (val v.b)) := f1.cell 1
      have c2 : W1.cell? ⟨w.heap.size + 1, 2, none⟩ = some (.int .u32 (val v.c)) := f1.cell 2
      have c3 : W1.cell? ⟨w.heap.size + 1, 3, none⟩ = some (.int .u32 (val v.d)) := f1.cell 3
      have c4 : W1.cell? ⟨w.heap.size + 1, 4, none⟩ = some (.int .u32 (val v.e)) := f1.cell 4
      have c5 : W1.cell? ⟨w.heap.size + 1, 5, none⟩ = some (.int .u32 (val v.f)) := f1.cell 5
      have c6 : W1.cell? ⟨w.heap.size + 1, 6, none⟩ = some (.int .u32 (val v.g)) := f1.cell 6
      have c7 : W1.cell? ⟨w.heap.size + 1, 7, none⟩ = some (.int .u32 (val v.h)) := f1.cell 7
      go_quiet (fail)
      clear c0 c1 c2 c3 c4 c5 c6 c7
      generalize hq : W1.drewN nq = W2
      replace f0 : Blk W2 w.heap.size 85 (B8 (List.replicate 32 0)) := by rw [← hq]; exact f0.drewN _
      replace f1 : Blk W2 (w.heap.size + 1) 77 (U32 v.list) := by rw [← hq]; exact f1.drewN _
      replace f5 : Blk W2 M 100 (U32 L) := by rw [← hq]; exact f5.drewN _
      replace HB : Hid (Below wr.heap.size wr W2) := by rw [← hq]; exact Lib.hid (below_drewN HB.out _)
      clear hq nq
      go_wp2
      go_loopw [7, 8, 9, 10, 11, 12, 13, 14, 15] (fun s7 s8 s9 s10 s11 s12 s13 s14 s15 wy => ∃ (t : Nat) (s : S8), t ≤ 64 ∧ Hid (s = rnds v L t) ∧ s15 = .int .i64 t ∧
          s7 = .int .u32 (val s.a) ∧ s8 = .int .u32 (val s.b) ∧ s9 = .int .u32 (val s.c) ∧ s10 = .int .u32 (val s.d) ∧ s11 = .int .u32 (val s.e) ∧ s12 = .int .u32 (val s.f) ∧ s13 = .int .u32 (val s.g) ∧ s14 = .int .u32 (val s.h) ∧
          Blk wy w.heap.size 85 (B8 (List.replicate 32 0)) ∧ Blk wy (w.heap.size + 1) 77 (U32 v.list) ∧ Blk wy M 100 (U32 L) ∧ Hid (Below wr.heap.size wr wy))
        (fun _ _ _ _ _ _ _ _ s15 _ => 64 - (intOf s15).toNat)
      case atStart => exact ⟨0, v, by omega, Lib.hid rfl, rfl, rfl, rfl, rfl, rfl, rfl, rfl, rfl, rfl, f0, f1, f5, HB⟩
      case round =>
        clear f0 f1 f5 HB
        rename World => wy
        obtain ⟨t, s, ht, hs, rfl, rfl, rfl, rfl, rfl, rfl, rfl, rfl, rfl, f0, f1, f5, HB⟩ := hrel
        by_cases hlt2 : t < 64
        · have ht1 : (t : Int) < 64 := by omega
          obtain ⟨kk, Hk, ck⟩ : ∃ kk : W, Hid (kk = K t) ∧ wy.cell? ⟨0, t, none⟩ = some (.int .u32 (val kk)) := ⟨_, Lib.hid rfl, (HT.out.below (HB1.out.trans (HB.out.mono HB1.out.size)) HT.out.1).2 t hlt2⟩
          obtain ⟨x, Hx, cx⟩ : ∃ x : W, Hid (x = L.getD t 0) ∧ wy.cell? ⟨M, t, none⟩ = some (.int .u32 (val x)) := ⟨_, Lib.hid rfl, by
            have hL := HL.out
            rw [f5.cell, U32, List.getElem?_map, List.getD_eq_getElem?_getD, List.getElem?_eq_getElem (by omega)]; rfl⟩
          go_wp2
          go_quiet (exact Calls.quiet_of (rref_m _ _ _ (by decide)))
          generalize hq : wy.drewN nq = wz
          replace f0 : Blk wz w.heap.size 85 (B8 (List.replicate 32 0)) := by rw [← hq]; exact f0.drewN _
          replace f1 : Blk wz (w.heap.size + 1) 77 (U32 v.list) := by rw [← hq]; exact f1.drewN _
          replace f5 : Blk wz M 100 (U32 L) := by rw [← hq]; exact f5.drewN _
          replace HB : Hid (Below wr.heap.size wr wz) := by rw [← hq]; exact Lib.hid (below_drewN HB.out _)
          clear hq nq ck cx
          go_wp2_with (go_at_call 71; refine (rref_m _ _ _ (by decide)).mono ?_; rintro e w' ⟨rfl, n', rfl⟩)
          go_roundw
          case rel => exact ⟨t + 1, round s kk x, by omega, Lib.hid (by rw [hs.out, Hk.out, Hx.out]; rfl), by go_num, rfl, rfl, rfl, rfl, rfl, rfl, rfl, rfl, f0.drewN _, f1.drewN _, f5.drewN _, Lib.hid (below_drewN HB.out _)⟩
          case measure => simp only [intOf]; omega
        · have hS : s = rnds v L 64 := by rw [hs.out, show t = 64 by omega]
          have HSS := Lib.hid hS
          have c0 : wy.cell? ⟨w.heap.size + 1, 0, none⟩ = some (.int .u32 (val v.a)) := f1.cell 0
          have c1 : wy.cell? ⟨w.heap.size + 1, 1, none⟩ = some (.int .u32 (val v.b)) := f1.cell 1
          have c2 : wy.cell? ⟨w.heap.size + 1, 2, none⟩ = some (.int .u32 (val v.c)) := f1.cell 2
          have c3 : wy.cell? ⟨w.heap.size + 1, 3, none⟩ = some (.int .u32 (val v.d)) := f1.cell 3
          have c4 : wy.cell? ⟨w.heap.size + 1, 4, none⟩ = some (.int .u32 (val v.e)) := f1.cell 4
          have c5 : wy.cell? ⟨w.heap.size + 1, 5, none⟩ = some (.int .u32 (val v.f)) := f1.cell 5
          have c6 : wy.cell? ⟨w.heap.size + 1, 6, none⟩ = some (.int .u32 (val v.g)) := f1.cell 6
          have c7 : wy.cell? ⟨w.heap.size + 1, 7, none⟩ = some (.int .u32 (val v.h)) := f1.cell 7
          have F1 := Lib.hid (show wy.heap[w.heap.size + 1]? = some (.cells (U32 v.list).toArray 77 (0, 0)) from f1)
          have hUU := Lib.hid (show (U32 v.list).toArray.size = (U32 (v.add s).list).toArray.size from rfl)
          clear hS hs
          go_wp2_with (with_reducible refine wpList_store_row rfl 77 (.tmp 3) (.tmp 146) rfl (w.heap.size + 1) (U32 (v.add s).list).toArray rfl rfl 77 _ F1.out (size30' _ rfl) hUU.out (U32_one _) ?_)
          go_roundw
          case rel =>
            have hva : (Value.int IntKind.i64 ((a : Int) + 64)) = .int .i64 ((64 * (k + 1) : Nat) : Int) := by
              have := HA.out
              rw [show ((64 * (k + 1) : Nat) : Int) = (a : Int) + 64 by omega]
            have hbk : blocks P (k + 1) = v.add s := by
              rw [blocks, ← Hv.out, ← HA.out, ← Hb.out, compress, HSS.out, HL0.out]
            refine ⟨k + 1, hlt, hva, Lib.hid (f0.setRow (by omega) _), Lib.hid ?_, Lib.hid ?_, Lib.hid (belowRow (HB1.out.trans (HB.out.mono HB1.out.size)) (by omega) _), Lib.hid ?_⟩
            · rw [hbk]; exact f1.row _
            · intro b' h1 h2
              rw [heap_setRow_other _ _ _ _ h2, HB.out.block b' (Nat.lt_of_lt_of_le h1 HSZ.out), HSAME.out b' h1 h2]
            · exact Nat.le_trans HSZ.out (Nat.le_trans HB.out.size (by simp))
          case measure => simp only [intOf]; omega
    · obtain rfl : k = nb := by omega
      obtain ⟨v, hv⟩ : ∃ v, v = blocks P k := ⟨_, rfl⟩
      rw [← hv] at K1
      have HRv := Lib.hid (show R = v.bytes by rw [hR.out, sha, hv, HP.out, HNB.out, HP.out])
      have HRL := Lib.hid (show R.length = 32 by rw [hR.out]; exact sha_len _)
      have hge : ¬ (((64 * k : Nat) : Int) < (LP : Int)) := by have := HL64.out; omega
      clear hv hlt
      go_wp2_with fail
      generalize hW : wr.alloc _ = W1
      have hNM : w.heap.size + 1 < wr.heap.size := K1.out.lt
      have f0 : Blk W1 w.heap.size 85 (B8 (List.replicate 32 0)) := by rw [← hW]; exact K0.out.alloc _
      have f1 : Blk W1 (w.heap.size + 1) 77 (U32 v.list) := by rw [← hW]; exact K1.out.alloc _
      have f2 : Blk W1 wr.heap.size 85 (B8 (outc R 0)) := by rw [← hW]; exact Blk.new wr 85 (B8 (List.replicate 32 0))
      have HB : Hid (Below w.heap.size w W1) := by rw [← hW]; exact Lib.hid (HB1.out.alloc HB1.out.size _)
      obtain ⟨M, hM0⟩ : ∃ M, M = wr.heap.size := ⟨_, rfl⟩
      rw [← hM0] at f2 hNM ⊢
      clear hW hM0 K0 K1
      go_loopw [19] (fun s19 wy => ∃ i : Nat, i ≤ 32 ∧ s19 = .int .i64 i ∧ Blk wy w.heap.size 85 (B8 (List.replicate 32 0)) ∧ Blk wy (w.heap.size + 1) 77 (U32 v.list) ∧ Blk wy M 85 (B8 (outc R i)) ∧ Hid (Below w.heap.size w wy)) (fun s19 _ => 32 - (intOf s19).toNat)
      case atStart => exact ⟨0, by omega, rfl, f0, f1, f2, HB⟩
      case round =>
        clear f0 f1 f2 HB
        rename World => wy
        obtain ⟨i, hi, rfl, f0, f1, f2, HB⟩ := hrel
        by_cases hi32 : i < 32
        · obtain ⟨q, hq⟩ : ∃ q, q = i / 4 := ⟨_, rfl⟩
          obtain ⟨r, hr⟩ : ∃ r, r = i % 4 := ⟨_, rfl⟩
          obtain ⟨kk, hkk⟩ : ∃ kk, kk = 24 - 8 * r := ⟨_, rfl⟩
          obtain ⟨y, cc, hy, hc, hcc⟩ := byte_at v i q r kk hi32 (by omega) (by omega) hkk
          have cy : wy.cell? ⟨w.heap.size + 1, q, none⟩ = some (.int .u32 (val y)) := (f1.cell q).trans hy
          have co : wy.cell? ⟨M, i, none⟩ = some (.int .u8 0) := (f2.cell i).trans (outc_at R i HRL.out hi32)
          have fo := f2.frozen i
          have e1 : (i : Int) / 4 = (q : Int) := by omega
          have e2 : (i : Int) % 4 = (r : Int) := by omega
          have e3 : IntKind.i64.wrap (8 * (r : Int)) = 8 * (r : Int) := IntWalk.i64_in _ (by omega)
          have e4 : IntKind.i64.wrap (24 - 8 * (r : Int)) = (kk : Int) := by rw [IntWalk.i64_in _ (by omega)]; omega
          have g1' : (q : Int) < 8 := by omega
          have g2' : (i : Int) < 32 := by omega
          have Hset := Lib.hid (outc_set R i cc HRL.out hi32 (by rw [HRv.out]; exact hcc))
          have hk32 : (kk : Int) < 32 := by omega
          clear hq hr hkk hy hcc hi32
          go_wp2_with fail
          go_roundw
          case rel =>
            refine ⟨i + 1, by omega, by go_num, f0.far (show w.heap.size ≠ M by omega) _, f1.far (show w.heap.size + 1 ≠ M by omega) _, ?_, Lib.hid (HB.out.setCell (show w.heap.size ≤ M by omega) _)⟩
            have := f2.put i (.int .u8 (cc.toNat : Int))
            rw [Hset.out] at this
            exact this
          case measure => simp only [intOf]; omega
        · obtain rfl : i = 32 := by omega
          rw [outc_end R HRL.out] at f2
          have F2 := Lib.hid f2.at
          have F0 := Lib.hid (show wy.heap[w.heap.size]? = some (.cells (B8 (List.replicate 32 0)).toArray 85 (0, 0)) from f0)
          have HSZ2 := Lib.hid (show (B8 (List.replicate 32 0)).toArray.size = (B8 R).toArray.size by rw [List.size_toArray, List.size_toArray, B8_len, B8_len, HRL.out]; rfl)
          have hbel := HB.out
          clear f0 f1 f2
          go_wp2_with (first
            | (with_reducible refine wpList_load_at rfl 85 (.tmp 18) rfl ⟨M, 0, none⟩ rfl (B8 R) (.array 32 5) F2.out Tryd.underlying85 rfl (size24 _ HRL.out) ?_)
            | (with_reducible refine wpList_store_row rfl 85 (.tmp 2) (.tmp 163) rfl w.heap.size (B8 R).toArray rfl rfl 85 _ F0.out (size24' _ HRL.out) HSZ2.out (one8 _) ?_))
          refine bodyPost_ret (v := .agg (B8 R).toArray) ?_ rfl ⟨rfl, belowRow hbel (Nat.le_refl _) _⟩
          have hr := run_loadVar_row (P := Tryd.prog) _ w.heap.size 85 85 (B8 R).toArray (0, 0) (.array 32 5) (heap_setRow wy w.heap.size (B8 R).toArray _ 85 F0.out) Tryd.underlying85 rfl (size24' _ HRL.out)
          simp [results, asAddr, hr, Act.put]
end Go.Proofs.YtgonidjajmjniaaDoor

namespace Go.Proofs.YtgonidjajmjniaaDoor
open Go.RowKit Wr Sh
set_option linter.unusedVariables false
set_option maxRecDepth 100000

theorem rsum_s (s : ByteArray) (A : Option Addr) (c : Nat) (w : World) (hr : Rd w w.heap.size A (B8 s.data.toList)) (hnil : A = none → c = 0) (hsz : s.size ≤ 549755813888) (ht : Tab 0 w) (R : List UInt8) (hR : Hid (R = sha s.data.toList)) :
    Calls Tryd.prog 64 #[.slice A s.size c] w fun e w' => e = .returned (.agg (B8 R).toArray) ∧ Below w.heap.size w w' := by
  have := rsum_go s.data.toList A c w hr hnil (by rw [size_l]; exact hsz) ht R hR
  rw [size_l] at this; exact this
theorem rsum_v (m : List UInt8) (v : Value) (base : Nat) (w0 w : World) (ho : w0.ownsRow base 5 1 v m.length (B8 m)) (hb : Below w0.heap.size w0 w) (hsz : m.length ≤ 549755813888) (ht : Tab 0 w) (R : List UInt8) (hR : Hid (R = sha m)) :
    Calls Tryd.prog 64 #[v] w fun e w' => e = .returned (.agg (B8 R).toArray) ∧ Below w.heap.size w w' := by
  obtain ⟨A, c, rfl, hc, hnil, hr⟩ := own_form (own_below ho hb)
  exact rsum_go m A c w hr hnil hsz ht R hR
/-- The byte number i of a key, zero behind its end. -/
def keyAt (k : ByteArray) (i : Nat) : UInt8 := k.data.toList.getD i 0
theorem ext64_at (k : ByteArray) (i : Nat) (hk : k.size ≤ 64) (hi : i < 64) : (ext64 k.data.toList)[i]? = some (keyAt k i) := by
  unfold ext64 keyAt
  rw [List.getD_eq_getElem?_getD]
  rcases Nat.lt_or_ge i k.size with h | h
  · have h2 : i < k.data.toList.length := by rw [size_l]; exact h
    rw [List.getElem?_append_left h2, List.getElem?_eq_getElem h2]; rfl
  · have h2 : k.data.toList.length ≤ i := by rw [size_l]; exact h
    rw [List.getElem?_append_right h2, List.getElem?_eq_none h2, List.getElem?_replicate, if_pos (by rw [size_l] at *; omega)]; rfl
theorem padk_succ (k : ByteArray) (c : UInt8) (i : Nat) (hk : k.size ≤ 64) (hi : i < 64) : (padk k.data.toList c).take (i + 1) = (padk k.data.toList c).take i ++ [keyAt k i ^^^ c] := by
  have hl : (padk k.data.toList c).length = 64 := padk_len _ _ (by rw [size_l]; exact hk)
  rw [List.take_succ_eq_append_getElem (by omega)]
  congr 2
  have h := ext64_at k i hk hi
  unfold padk
  rw [List.getElem_map]
  rw [List.getElem?_eq_getElem (by rw [ext64_len _ (by rw [size_l]; exact hk)]; exact hi)] at h
  rw [Option.some.inj h]

set_option maxRecDepth 100000 in
set_option maxHeartbeats 4000000 in
theorem padkey_go (key : ByteArray) (c : UInt8) (w : World) (hk : key.size ≤ 274877906944) (ht : Tab 0 w) (D : List UInt8) (hD : Hid (D = padk (hkey key.data.toList) c)) :
    Calls Tryd.prog 62 #[.string key, .int .u8 (c.toNat : Int)] w fun e w' => ∃ v', e = .returned v' ∧ w'.ownsRow w.heap.size 5 1 v' 64 (B8 D) ∧ Below w.heap.size w w' := by
  have HT := Lib.hid ht
  clear ht
  go_enter Tryd.func62, Tryd.ntmps62
  go_upto_if 12 with (fail)
  go_cut [5] (fun s5 wx => ∃ kk : ByteArray, s5 = .string kk ∧ kk.data.toList = hkey key.data.toList ∧ Below w.heap.size w wx)
  case first =>
    by_cases h64 : 64 < key.size
    · have hi64 : (64 : Int) < (key.size : Int) := by omega
      have hkk : hkey key.data.toList = sha key.data.toList := by unfold hkey; rw [size_l, if_pos h64]
      obtain ⟨S, hS⟩ : ∃ S, S = sha key.data.toList := ⟨_, rfl⟩
      have HS0 : Hid (S = sha key.data.toList) := Lib.hid hS
      have hSl : S.length = 32 := by rw [hS]; exact sha_len _
      have HSl := Lib.hid hSl
      have HKK := Lib.hid hkk
      clear hS hSl hkk h64
      go_wp2_with (first
        | (with_reducible refine wpList_bytes_of rfl 9 54 5 (.tmp 13) rfl key rfl Tryd.underlying9 Tryd.underlying54 Tryd.underlying5 ?_; intro C w3 hC hrd hb3; have HRD := Lib.hid hrd; have HB3 := Lib.hid hb3; clear hb3 hrd)
        | (go_at_call 64; refine (rsum_s key _ C w3 HRD.out (fun h => by cases h) (by omega) (HT.out.below HB3.out HT.out.1) S HS0).mono ?_; rintro e w4 ⟨rfl, hb4⟩; have HB4 := Lib.hid (HB3.out.trans (hb4.mono HB3.out.size)); clear hb4)
        | (go_at_call 63; refine (bytes32_any S _ HSl.out).mono ?_; rintro e w5 ⟨rfl, hb5⟩; have HB5 := Lib.hid (HB4.out.trans (hb5.mono HB4.out.size)); clear hb5))
      go_meet
      exact ⟨_, rfl, by rw [HKK.out, ← HS0.out], HB5.out⟩
    · have hi64 : ¬ (64 : Int) < (key.size : Int) := by omega
      have HKK := Lib.hid (show key.data.toList = hkey key.data.toList by unfold hkey; rw [size_l, if_neg h64])
      clear h64
      go_wp2_with fail
      go_meet
      exact ⟨_, rfl, HKK.out, Below.refl _ _⟩
  case rest =>
    obtain ⟨kk, rfl, hkk, hbw⟩ := hcut
    have hkl : kk.size ≤ 64 := by rw [← size_l, hkk]; exact hkey_le _
    have HD2 : Hid (D = padk kk.data.toList c) := Lib.hid (by rw [hD.out, hkk])
    have HB := Lib.hid hbw
    clear hkk hbw
    rename World => wa
    go_wp2_with fail
    go_loopw [6, 7] (fun s6 s7 wr => ∃ i : Nat, i ≤ 64 ∧ s7 = .int .i64 i ∧ Hid (wr.ownsRow w.heap.size 5 1 s6 i (B8 (D.take i))) ∧ Hid (Below w.heap.size w wr)) (fun _ s7 _ => 64 - (intOf s7).toNat)
    case atStart => exact ⟨0, by omega, rfl, Lib.hid (World.ownsRow_nil _ _ _ _), HB⟩
    case round =>
      clear HB
      rename World => wr
      obtain ⟨i, hi, rfl, HO, HB⟩ := hrel
      by_cases hlt : i < 64
      · have hlt' : (i : Int) < 64 := by omega
        obtain ⟨y, hy⟩ : ∃ y, y = keyAt kk i ^^^ c := ⟨_, rfl⟩
        have HN := Lib.hid (show D.take (i + 1) = D.take i ++ [y] by rw [HD2.out, padk_succ kk c i hkl hlt, hy])
        by_cases hin : i < kk.size
        · have hin' : (i : Int) < (kk.size : Int) := by omega
          obtain ⟨x, hx⟩ : ∃ x, x = kk[i] := ⟨_, rfl⟩
          have hix : ∀ W : World, (Instr.index 9 (.string kk) (.int .i64 (i : Int))).run Tryd.prog W = .ok (.int .u8 (x.toNat : Int)) W := by
            intro W
            rw [run_index_string W 9 kk _ _ Tryd.underlying9, dif_pos ⟨by omega, hin'⟩]
            simp only [Int.toNat_natCast, hx]
          have hxk : keyAt kk i = x := by
            unfold keyAt
            rw [hx, List.getD_eq_getElem?_getD, List.getElem?_eq_getElem (by rw [size_l]; exact hin)]; rfl
          have hxy : bits .xor .u8 (x.toNat : Int) (c.toNat : Int) = (y.toNat : Int) := by rw [hy, hxk]; exact xor_c x c _ rfl
          clear hx hxk hy
          go_wp2_with (at_builtin; refine wpList_append_rd rfl (.tmp 28) (.tmp 32) rfl w.heap.size _ i _ rfl (HO.out.alloc _) (some ⟨wr.heap.size, 0, none⟩) 1 1 _ [y] rfl (fun h => by cases h) rfl (rd_lit wr y) (by omega) (by have := HB.out.size; simp; omega) ?_; intro v4 w4 ho4 hg4; have HO4 := Lib.hid ho4; have HB4 := Lib.hid ((HB.out.alloc HB.out.size (.cells #[.int .u8 (y.toNat : Int)] 5)).grown hg4 (HB.out.alloc HB.out.size _).size (fun q hq => (HO.out.lt q hq).1)); clear ho4 hg4)
          go_roundw
          case rel =>
            refine ⟨i + 1, by omega, by go_num, Lib.hid ?_, HB4⟩
            have := HO4.out
            rw [← B8_append, ← HN.out] at this
            exact this
          case measure => simp only [intOf]; omega
        · have hin' : ¬ (i : Int) < (kk.size : Int) := by omega
          have hxk : keyAt kk i = 0 := by
            unfold keyAt
            rw [List.getD_eq_getElem?_getD, List.getElem?_eq_none (by rw [size_l]; omega)]; rfl
          have hxy : bits .xor .u8 0 (c.toNat : Int) = (y.toNat : Int) := by rw [hy, hxk]; exact xor_c 0 c _ rfl
          clear hxk hy
          go_wp2_with (at_builtin; refine wpList_append_rd rfl (.tmp 28) (.tmp 32) rfl w.heap.size _ i _ rfl (HO.out.alloc _) (some ⟨wr.heap.size, 0, none⟩) 1 1 _ [y] rfl (fun h => by cases h) rfl (rd_lit wr y) (by omega) (by have := HB.out.size; simp; omega) ?_; intro v4 w4 ho4 hg4; have HO4 := Lib.hid ho4; have HB4 := Lib.hid ((HB.out.alloc HB.out.size (.cells #[.int .u8 (y.toNat : Int)] 5)).grown hg4 (HB.out.alloc HB.out.size _).size (fun q hq => (HO.out.lt q hq).1)); clear ho4 hg4)
          go_roundw
          case rel =>
            refine ⟨i + 1, by omega, by go_num, Lib.hid ?_, HB4⟩
            have := HO4.out
            rw [← B8_append, ← HN.out] at this
            exact this
          case measure => simp only [intOf]; omega
      · obtain rfl : i = 64 := by omega
        have HF := Lib.hid (show D.take 64 = D from List.take_of_length_le (by rw [HD2.out, padk_len _ _ (by rw [size_l]; exact hkl)]; omega))
        go_wp2_with fail
        go_ret
        refine ⟨_, rfl, ?_, HB.out⟩
        have := HO.out
        rw [HF.out] at this
        exact this

set_option maxRecDepth 100000 in
set_option maxHeartbeats 4000000 in
theorem rmac_go (key text : ByteArray) (w : World) (hk : key.size ≤ 274877906944) (htx : text.size ≤ 274877906944) (ht : Tab 0 w) (R : List UInt8) (hR : Hid (R = mac key.data.toList text.data.toList)) :
    Calls Tryd.prog 52 #[.string key, .string text] w fun e w' => e = .returned (.string ⟨R.toArray⟩) ∧ Below w.heap.size w w' := by
  obtain ⟨i0, hi0, hz0, hz1, hz2⟩ := info_parts Tryd.info5
  have HT := Lib.hid ht
  clear ht
  obtain ⟨D, hD⟩ : ∃ D, D = padk (hkey key.data.toList) 0x36 := ⟨_, rfl⟩
  obtain ⟨E, hE⟩ : ∃ E, E = padk (hkey key.data.toList) 0x5c := ⟨_, rfl⟩
  have HD := Lib.hid hD
  have HE := Lib.hid hE
  have HDL := Lib.hid (show D.length = 64 by rw [hD]; exact padk_len _ _ (hkey_le _))
  have HEL := Lib.hid (show E.length = 64 by rw [hE]; exact padk_len _ _ (hkey_le _))
  obtain ⟨S, hS⟩ : ∃ S, S = sha (D ++ text.data.toList) := ⟨_, rfl⟩
  have HS := Lib.hid hS
  have HSL := Lib.hid (show S.length = 32 by rw [hS]; exact sha_len _)
  have HRR := Lib.hid (show R = sha (E ++ S) by rw [hR.out, hS, hD, hE]; rfl)
  have HRL := Lib.hid (show R.length = 32 by rw [HRR.out]; exact sha_len _)
  have HSS := Lib.hid (show (⟨S.toArray⟩ : ByteArray).size = 32 by show S.toArray.size = 32; rw [List.size_toArray, HSL.out])
  have P1 := Lib.hid (show ∀ W, Tab 0 W → Calls Tryd.prog 62 #[.string key, .int .u8 54] W fun e w' => ∃ v', e = .returned v' ∧ w'.ownsRow W.heap.size 5 1 v' 64 (B8 D) ∧ Below W.heap.size W w' from fun W hW => padkey_go key 0x36 W hk hW D HD)
  have P2 := Lib.hid (show ∀ W, Tab 0 W → Calls Tryd.prog 62 #[.string key, .int .u8 92] W fun e w' => ∃ v', e = .returned v' ∧ w'.ownsRow W.heap.size 5 1 v' 64 (B8 E) ∧ Below W.heap.size W w' from fun W hW => padkey_go key 0x5c W hk hW E HE)
  have HT1 : ∀ W, Below w.heap.size w W → Tab 0 W := fun W hW => HT.out.below hW HT.out.1
  clear hD hE hS
  go_enter Tryd.func52, Tryd.ntmps52
  go_wp2_with (first
    | (go_at_call 62; (with_reducible refine (P1.out _ HT.out).mono ?_); rintro e w1 ⟨v1, rfl, ho1, hb1⟩; have HO1 := Lib.hid ho1; have HB1 := Lib.hid hb1; clear ho1 hb1)
    | (at_builtin; refine Lib.wpList_append_own_string _ rfl (.tmp 9) (.tmp 10) 54 9 rfl w.heap.size 5 i0 Tryd.underlying54 Tryd.underlying9 hi0 hz0 hz1 hz2 v1 64 (B8 D) rfl HO1.out text rfl (by unfold maxLen; omega) (by omega) HB1.out.size ?_; intro v2 w2 ho2 hg2 _; have HO2 := Lib.hid (show w2.ownsRow w.heap.size 5 1 v2 (D ++ text.data.toList).length (B8 (D ++ text.data.toList)) by rw [strCells_B8, ← B8_append] at ho2; rw [List.length_append, HDL.out, size_l]; exact ho2); have HB2 := Lib.hid (HB1.out.grown hg2 HB1.out.size (fun q hq => (HO1.out.lt q hq).1)); clear ho2 hg2)
    | (go_at_call 62; (with_reducible refine (P2.out _ (HT1 _ HB2.out)).mono ?_); rintro e w3 ⟨v3, rfl, ho3, hb3⟩; have HO3 := Lib.hid ho3; have HC3 := Lib.hid hb3; have HB3 := Lib.hid (HB2.out.trans (hb3.mono HB2.out.size)); clear ho3 hb3)
    | (go_at_call 64; (with_reducible refine (rsum_v (D ++ text.data.toList) v2 _ w2 w3 HO2.out HC3.out (by rw [List.length_append, HDL.out, size_l]; omega) (HT1 _ HB3.out) S HS).mono ?_); rintro e w4 ⟨rfl, hb4⟩; have HC4 := Lib.hid hb4; have HB4 := Lib.hid (HB3.out.trans (hb4.mono HB3.out.size)); clear hb4)
    | (go_at_call 63; (with_reducible refine (bytes32_any S _ HSL.out).mono ?_); rintro e w5 ⟨rfl, hb5⟩; have HC5 := Lib.hid (HC4.out.trans (hb5.mono HC4.out.size)); have HB5 := Lib.hid (HB4.out.trans (hb5.mono HB4.out.size)); clear hb5)
    | (at_builtin; refine Lib.wpList_append_own_string _ rfl (.tmp 14) (.tmp 17) 54 9 rfl w2.heap.size 5 i0 Tryd.underlying54 Tryd.underlying9 hi0 hz0 hz1 hz2 v3 64 (B8 E) rfl (own_below HO3.out HC5.out) ⟨S.toArray⟩ rfl (by rw [HSS.out]; unfold maxLen; omega) (by rw [HSS.out]; omega) (by have := HC3.out.size; have := HC5.out.size; omega) ?_; intro v6 w6 ho6 hg6 _; have HO6 := Lib.hid (show w6.ownsRow w2.heap.size 5 1 v6 (E ++ S).length (B8 (E ++ S)) by rw [strCells_B8, ← B8_append, HSS.out] at ho6; rw [List.length_append, HEL.out, HSL.out]; exact ho6); have HB6 := Lib.hid (HB5.out.grown hg6 HB5.out.size (fun q hq => Nat.le_trans HB2.out.size (HO3.out.lt q hq).1)); clear ho6 hg6)
    | (go_at_call 64; (with_reducible refine (rsum_v (E ++ S) v6 _ w6 w6 HO6.out (Below.refl _ _) (by rw [List.length_append, HEL.out, HSL.out]; omega) (HT1 _ HB6.out) R HRR).mono ?_); rintro e w7 ⟨rfl, hb7⟩; have HB7 := Lib.hid (HB6.out.trans (hb7.mono HB6.out.size)); clear hb7)
    | (go_at_call 63; (with_reducible refine (bytes32_any R _ HRL.out).mono ?_); rintro e w8 ⟨rfl, hb8⟩; have HB8 := Lib.hid (HB7.out.trans (hb8.mono HB7.out.size)); clear hb8))
  go_ret
  exact ⟨rfl, HB8.out⟩
end Go.Proofs.YtgonidjajmjniaaDoor

namespace Go.Proofs.YtgonidjajmjniaaDoor
open Go.RowKit Wr Sh
set_option linter.unusedVariables false
set_option maxRecDepth 100000

def outs (l : List UInt8) (i : Nat) : List UInt8 := l.take i ++ List.replicate (16 - i) 0
theorem outs_at (l : List UInt8) (i : Nat) (hl : l.length = 32) (hi : i < 16) : (B8 (outs l i))[i]? = some (.int .u8 0) := by
  unfold outs
  rw [B8_append, List.getElem?_append_right (by rw [B8_len, List.length_take]; omega), B8_len, List.length_take]
  rw [show i - min i l.length = 0 by omega, show 16 - i = (16 - (i + 1)) + 1 by omega, List.replicate_succ]; rfl
theorem outs_set (l : List UInt8) (i : Nat) (c : UInt8) (hl : l.length = 32) (hi : i < 16) (hc : l[i]? = some c) : (B8 (outs l i)).set i (.int .u8 (c.toNat : Int)) = B8 (outs l (i + 1)) := by
  have hil : i < l.length := by omega
  have hci : l[i] = c := by rw [List.getElem?_eq_getElem hil] at hc; exact Option.some.inj hc
  unfold outs
  rw [show 16 - i = (16 - (i + 1)) + 1 by omega, List.replicate_succ, List.take_succ_eq_append_getElem hil, hci, B8_append, B8_append, B8_append, List.set_append_right _ _ (by rw [B8_len, List.length_take]; omega), B8_len, List.length_take,
    show i - min i l.length = 0 by omega]
  simp [B8]
theorem outs_end (l : List UInt8) : outs l 16 = l.take 16 := by unfold outs; simp
theorem size44r (L : List UInt8) (h : L.length = 16) : (Tryd.prog.info? 23).map (·.size) = some (B8 L).toArray.size := by rw [List.size_toArray, B8_len, h]; kernel_rfl
theorem size44q (L : List UInt8) (h : L.length = 16) : (Tryd.prog.info? 23).map (·.size) = some (B8 L).length := by rw [B8_len, h]; kernel_rfl

set_option maxRecDepth 100000 in
set_option maxHeartbeats 4000000 in
theorem short_go (m : List UInt8) (v : Value) (base : Nat) (w0 w : World) (ho : w0.ownsRow base 5 1 v m.length (B8 m)) (hb : Below w0.heap.size w0 w) (hsz : m.length ≤ 549755813888) (ht : Tab 0 w) (R : List UInt8) (hR : Hid (R = sha m)) :
    Calls Tryd.prog 57 #[v] w fun e w' => e = .returned (.agg (B8 (R.take 16)).toArray) ∧ Below w.heap.size w w' := by
  have HT := Lib.hid ht
  have HO := Lib.hid ho
  have HB := Lib.hid hb
  have HRL := Lib.hid (show R.length = 32 by rw [hR.out]; exact sha_len _)
  have HBR := Lib.hid (show (B8 R).length = 32 by rw [B8_len, HRL.out])
  obtain ⟨D, hD⟩ : ∃ D, D = R.take 16 := ⟨_, rfl⟩
  have HDL := Lib.hid (show D.length = 16 by rw [hD, List.length_take, HRL.out]; rfl)
  have HBD := Lib.hid (show (B8 D).length = 16 by rw [B8_len, HDL.out])
  rw [← hD]
  have HD := Lib.hid hD
  have HB0 := Lib.hid ((Below.refl w.heap.size w).alloc (Nat.le_refl _) (.cells (B8 (List.replicate 16 0)).toArray 23))
  have HK0 := Lib.hid (Blk.new w 23 (B8 (List.replicate 16 0)))
  have b44 : ∀ W : World, (Instr.build 23 #[]).run Tryd.prog W = .ok (.agg (B8 (List.replicate 16 0)).toArray) W := fun _ => by kernel_rfl
  clear ht ho hb hD
  go_enter Tryd.func57, Tryd.ntmps57
  go_upto_region 2 with (first
    | (go_at_call 64; refine (rsum_v m v base w0 _ HO.out (HB.out.trans (HB0.out.mono HB.out.size)) hsz (HT.out.below HB0.out HT.out.1) R hR).mono ?_; rintro e w1 ⟨rfl, hb1⟩; have HB1 := Lib.hid (HB0.out.trans (hb1.mono HB0.out.size)); have K0 := Lib.hid (HK0.out.below hb1 HK0.out.lt); clear hb1)
    | (with_reducible refine wpList_store_row rfl 85 (.tmp 3) (.tmp 7) rfl w1.heap.size (B8 R).toArray rfl rfl 85 _ (heap_alloc_new w1 _) (size24' _ HRL.out) (by simp [HBR.out]) (one8 _) ?_))
  generalize hW : World.setRow _ _ _ = W1
  have f0 : Blk W1 w.heap.size 23 (B8 (List.replicate 16 0)) := by
    rw [← hW]; exact (K0.out.alloc _).setRow (Nat.ne_of_lt K0.out.lt) _
  have f1 : Blk W1 w1.heap.size 85 (B8 R) := by
    rw [← hW]; exact Blk.row (Blk.new w1 85 (B8 (List.replicate 32 0))) (B8 R)
  have HBW : Hid (Below w.heap.size w W1) := by
    rw [← hW]; exact Lib.hid (belowRow (HB1.out.alloc HB1.out.size _) HB1.out.size _)
  have hNM : w.heap.size < w1.heap.size := K0.out.lt
  obtain ⟨M, hM0⟩ : ∃ M, M = w1.heap.size := ⟨_, rfl⟩
  rw [← hM0] at f1 hNM ⊢
  clear hW hM0 K0 HB1 HK0 HB0
  rename World => wx
  go_wp2_with fail
  generalize hW2 : World.alloc _ _ = W2
  have e0 : Blk W2 w.heap.size 23 (B8 (List.replicate 16 0)) := by rw [← hW2]; exact f0.alloc _
  have e1 : Blk W2 M 85 (B8 R) := by rw [← hW2]; exact f1.alloc _
  have e2 : Blk W2 wx.heap.size 23 (B8 (outs R 0)) := by rw [← hW2]; exact Blk.new wx 23 (B8 (List.replicate 16 0))
  have HB2 : Hid (Below w.heap.size w W2) := by rw [← hW2]; exact Lib.hid (HBW.out.alloc HBW.out.size _)
  have hMX : M < wx.heap.size := f1.lt
  obtain ⟨X, hX0⟩ : ∃ X, X = wx.heap.size := ⟨_, rfl⟩
  rw [← hX0] at e2 hMX ⊢
  clear hW2 hX0 f0 f1 HBW
  go_loopw [5] (fun s5 wy => ∃ i : Nat, i ≤ 16 ∧ s5 = .int .i64 i ∧ Blk wy w.heap.size 23 (B8 (List.replicate 16 0)) ∧ Blk wy M 85 (B8 R) ∧ Blk wy X 23 (B8 (outs R i)) ∧ Hid (Below w.heap.size w wy)) (fun s5 _ => 16 - (intOf s5).toNat)
  case atStart => exact ⟨0, by omega, rfl, e0, e1, e2, HB2⟩
  case round =>
    clear e0 e1 e2 HB2
    rename World => wy
    obtain ⟨i, hi, rfl, e0, e1, e2, HB2⟩ := hrel
    by_cases hlt : i < 16
    · have hiR : i < R.length := by have := HRL.out; omega
      obtain ⟨x, hx⟩ : ∃ x, x = R[i] := ⟨_, rfl⟩
      have cx : wy.cell? ⟨M, i, none⟩ = some (.int .u8 (x.toNat : Int)) := by rw [e1.cell, B8_get _ _ hiR, hx]
      have co : wy.cell? ⟨X, i, none⟩ = some (.int .u8 0) := (e2.cell i).trans (outs_at R i HRL.out hlt)
      have fo := e2.frozen i
      have g1 : (i : Int) < 32 := by omega
      have g2 : (i : Int) < 16 := by omega
      have Hset := Lib.hid (outs_set R i x HRL.out hlt (by rw [hx, List.getElem?_eq_getElem hiR]))
      clear hx hlt
      go_wp2_with fail
      go_roundw
      case rel =>
        refine ⟨i + 1, by omega, by go_num, e0.far (show w.heap.size ≠ X by omega) _, e1.far (show M ≠ X by omega) _, ?_, Lib.hid (HB2.out.setCell (show w.heap.size ≤ X by omega) _)⟩
        have := e2.put i (.int .u8 (x.toNat : Int))
        rw [Hset.out] at this
        exact this
      case measure => simp only [intOf]; omega
    · obtain rfl : i = 16 := by omega
      rw [outs_end R, ← HD.out] at e2
      have E2 := Lib.hid e2.at
      have E0 := Lib.hid (show wy.heap[w.heap.size]? = some (.cells (B8 (List.replicate 16 0)).toArray 23 (0, 0)) from e0)
      have HSZ2 := Lib.hid (show (B8 (List.replicate 16 0)).toArray.size = (B8 D).toArray.size by rw [List.size_toArray, List.size_toArray, B8_len, B8_len, HDL.out]; rfl)
      have hbel := HB2.out
      clear e0 e1 e2
      go_wp2_with (first
        | (with_reducible refine wpList_load_at rfl 23 (.tmp 4) rfl ⟨X, 0, none⟩ rfl (B8 D) (.array 16 5) E2.out Tryd.underlying23 rfl (size44q _ HDL.out) ?_)
        | (with_reducible refine wpList_store_row rfl 23 (.tmp 2) (.tmp 18) rfl w.heap.size (B8 D).toArray rfl rfl 23 _ E0.out (size44r _ HDL.out) HSZ2.out (one8 _) ?_))
      refine bodyPost_ret (v := .agg (B8 D).toArray) ?_ rfl ⟨rfl, belowRow hbel (Nat.le_refl _) _⟩
      have hr := run_loadVar_row (P := Tryd.prog) _ w.heap.size 23 23 (B8 D).toArray (0, 0) (.array 16 5) (heap_setRow wy w.heap.size (B8 D).toArray _ 23 E0.out) Tryd.underlying23 rfl (size44r _ HDL.out)
      simp [results, asAddr, hr, Act.put]

set_option maxRecDepth 100000 in
set_option maxHeartbeats 4000000 in
theorem input_tag (tag : Int) (t8 : UInt8) (h8 : IntKind.u8.wrap tag = (t8.toNat : Int)) (A : Option Addr) (l : List ByteArray) (c : Nat) (w : World) (hr : Rd w w.heap.size A (St l)) (hsz : (inp t8 l).length ≤ 274877906944) :
    Calls Tryd.prog 58 #[.int .i64 tag, .slice A l.length c] w fun e w' => ∃ v', e = .returned v' ∧ w'.ownsRow w.heap.size 5 1 v' (inp t8 l).length (B8 (inp t8 l)) ∧ Below w.heap.size w w' := by
  obtain ⟨N, hN⟩ : ∃ N, N = l.length := ⟨_, rfl⟩
  have hN40 : N ≤ 274877906944 := by rw [hN]; exact Nat.le_trans (inp_many t8 l) hsz
  have h8' : tag % 256 = (t8.toNat : Int) := by rw [← h8, IntKind.wrap_u8']
  rw [← hN]
  have HN := Lib.hid hN
  have HR := Lib.hid hr
  have HZ := Lib.hid hsz
  have HO := Lib.hid (World.ownsRow_lit (base := w.heap.size) (e := 5) (size := 1) w #[.int .u8 (t8.toNat : Int)] 1 (Nat.le_refl _) (by decide) rfl)
  have HB := Lib.hid ((Below.refl w.heap.size w).alloc (Nat.le_refl _) (.cells #[.int .u8 (t8.toNat : Int)] 5))
  clear hN hr hsz
  go_enter Tryd.func58, Tryd.ntmps58
  go_wp2_with fail
  go_loopw [5, 6] (fun s3 s4 wr => ∃ j k : Nat, j ≤ N ∧ s4 = .int .i64 j ∧ Hid (k = (inp t8 (l.take j)).length) ∧ wr.ownsRow w.heap.size 5 1 s3 k (B8 (inp t8 (l.take j))) ∧ Hid (Below w.heap.size w wr)) (fun _ s4 _ => N - (intOf s4).toNat)
  case atStart => exact ⟨0, 1, Nat.zero_le _, rfl, Lib.hid rfl, HO.out, HB⟩
  case round =>
  clear HO HB
  obtain ⟨j, k, hj, rfl, HK, ho, HB⟩ := hrel
  have HO := Lib.hid ho
  clear ho
  by_cases hlt : j < N
  · have hjl : j < l.length := by have := HN.out; omega
    obtain ⟨g, o, rfl, hg, hcell⟩ := HR.out (by intro e; have := congrArg List.length e; simp only [St, List.length_map, List.length_nil] at this; omega)
    have hcj : wr.cell? ⟨g, o + j, none⟩ = some (.string l[j]) := by
      rw [HB.out.cell (show (⟨g, o + j, none⟩ : Addr).block < _ from hg)]; exact hcell j _ (St_get l j hjl)
    have hle := inp_le t8 l (j + 1)
    rw [inp_succ t8 l j hjl, List.length_append, ← HK.out] at hle
    have hzz := HZ.out
    have hxs := inp_long t8 l j hjl
    obtain ⟨x, hx⟩ : ∃ x, x = l[j] := ⟨_, rfl⟩
    rw [← hx] at hcj hle hxs
    obtain ⟨L, hL⟩ : ∃ L, L = (encStr x.data.toList).length := ⟨_, rfl⟩
    rw [← hL] at hle
    have hkL : k + L ≤ 274877906944 := by omega
    have hx40 : x.size ≤ 1099511627776 := by omega
    have HX := Lib.hid hx
    have HL := Lib.hid hL
    clear hcell hx hL hle hzz hxs
    go_wp2_with (first
      | (go_at_call 67; refine (rbytes_any _ _ hx40).mono ?_; rintro e w2 ⟨v2, rfl, ho2, hb2⟩; obtain ⟨A2, c2, rfl, _, hn2, hrd2⟩ := own_form ho2; have HRD := Lib.hid hrd2; have HNL := Lib.hid hn2; have HB2 := Lib.hid hb2; clear ho2 hb2 hrd2 hn2; rw [← HL.out])
      | (at_builtin; refine wpList_append_rd rfl (.tmp 16) (.tmp 21) rfl w.heap.size _ k _ rfl (own_below HO.out HB2.out) A2 L c2 _ (encStr x.data.toList) rfl HNL.out HL.out.symm HRD.out (by omega) (Nat.le_trans HB.out.size HB2.out.size) ?_; intro v3 w3 ho3 hg3; have HO3 := Lib.hid ho3; have HB3 := Lib.hid ((HB.out.trans (HB2.out.mono HB.out.size)).grown hg3 (Nat.le_trans HB.out.size HB2.out.size) (fun q hq => (HO.out.lt q hq).1)); clear ho3 hg3))
    go_roundw
    case rel =>
      refine ⟨j + 1, k + L, hlt, by go_num, Lib.hid (by rw [inp_succ t8 l j hjl, List.length_append, ← HK.out, ← HX.out, ← HL.out]), ?_, HB3⟩
      have := HO3.out
      rw [← B8_append] at this
      rw [inp_succ t8 l j hjl, ← HX.out]
      exact this
    case measure => simp only [intOf]; omega
  · obtain rfl : j = N := by omega
    go_wp2_with fail
    go_ret
    refine ⟨_, rfl, ?_, HB.out⟩
    have h := HO.out
    rw [HK.out, List.take_of_length_le (by rw [← HN.out]; exact Nat.le_refl _)] at h
    exact h

set_option maxRecDepth 100000 in
set_option maxHeartbeats 4000000 in
theorem rof_go (tag : Int) (A : Option Addr) (l : List ByteArray) (c : Nat) (w : World) (hr : Rd w w.heap.size A (St l)) (t8 : UInt8) (ht8 : IntKind.u8.wrap tag = (t8.toNat : Int)) (hsz : (inp t8 l).length ≤ 274877906944) (ht : Tab 0 w)
    (R : List UInt8) (hR : Hid (R = sha (inp t8 l))) :
    Calls Tryd.prog 36 #[.int .i64 tag, .slice A l.length c] w fun e w' => e = .returned (.agg (B8 (R.take 16)).toArray) ∧ Below w.heap.size w w' := by
  have HT := Lib.hid ht
  have HT0 : ∀ W, Below w.heap.size w W → Tab 0 W := fun W hW => HT.out.below hW HT.out.1
  have HRL := Lib.hid (show R.length = 32 by rw [hR.out]; exact sha_len _)
  obtain ⟨D, hD⟩ : ∃ D, D = R.take 16 := ⟨_, rfl⟩
  have HDL := Lib.hid (show D.length = 16 by rw [hD, List.length_take, HRL.out]; rfl)
  obtain ⟨X, hX⟩ : ∃ X, X = inp t8 l := ⟨_, rfl⟩
  have HX := Lib.hid hX
  have HB0 := Lib.hid ((Below.refl w.heap.size w).alloc (Nat.le_refl _) (.cells (B8 (List.replicate 16 0)).toArray 23))
  have HK0 := Lib.hid (Blk.new w 23 (B8 (List.replicate 16 0)))
  have HIN := Lib.hid (show ∀ W, Below w.heap.size w W → Calls Tryd.prog 58 #[.int .i64 tag, .slice A l.length c] W fun e w' => ∃ v', e = .returned v' ∧ w'.ownsRow W.heap.size 5 1 v' X.length (B8 X) ∧ Below W.heap.size W w' from fun W hW => by
    rw [hX]
    exact input_tag tag t8 ht8 A l c W ((hr.below hW).more hW.size) hsz)
  have HSH := Lib.hid (show ∀ W1 W v base, W1.ownsRow base 5 1 v X.length (B8 X) → Below W1.heap.size W1 W → Tab 0 W → Calls Tryd.prog 57 #[v] W fun e w' => e = .returned (.agg (B8 D).toArray) ∧ Below W.heap.size W w' from fun W1 W v base ho hb hW => by
    rw [hD]
    exact short_go X v base W1 W ho hb (by rw [hX]; omega) hW R (Lib.hid (by rw [hX, hR.out])))
  rw [← hD]
  clear ht hr hD hX
  obtain ⟨n, hn⟩ : ∃ n, n = l.length := ⟨_, rfl⟩
  rw [← hn] at HIN ⊢
  clear hn
  go_enter Tryd.func36, Tryd.ntmps36
  have HSZ2 := Lib.hid (show (B8 (List.replicate 16 0)).toArray.size = (B8 D).toArray.size by rw [List.size_toArray, List.size_toArray, B8_len, B8_len, HDL.out]; rfl)
  go_wp2_with (first
    | (go_at_call 58; refine (HIN.out _ HB0.out).mono ?_; rintro e w1 ⟨v1, rfl, ho1, hb1⟩; have HO1 := Lib.hid ho1; have HB1 := Lib.hid (HB0.out.trans (hb1.mono HB0.out.size)); have K1 := Lib.hid (HK0.out.below hb1 HK0.out.lt); clear ho1 hb1)
    | (go_at_call 57; (with_reducible refine (HSH.out w1 w1 v1 _ HO1.out (Below.refl _ _) (HT0 _ HB1.out)).mono ?_); rintro e w2 ⟨rfl, hb2⟩; have HB2 := Lib.hid (HB1.out.trans (hb2.mono HB1.out.size)); have E0 := Lib.hid (show w2.heap[w.heap.size]? = some (.cells (B8 (List.replicate 16 0)).toArray 23 (0, 0)) from K1.out.below hb2 K1.out.lt); clear hb2)
    | (with_reducible refine wpList_store_row rfl 23 (.tmp 4) (.tmp 8) rfl w.heap.size (B8 D).toArray rfl rfl 23 _ E0.out (size44r _ HDL.out) HSZ2.out (one8 _) ?_))
  refine bodyPost_ret (v := .agg (B8 D).toArray) ?_ rfl ⟨rfl, belowRow HB2.out (Nat.le_refl _) _⟩
  have hr := run_loadVar_row (P := Tryd.prog) _ w.heap.size 23 23 (B8 D).toArray (0, 0) (.array 16 5) (heap_setRow w2 w.heap.size (B8 D).toArray _ 23 E0.out) Tryd.underlying23 rfl (size44r _ HDL.out)
  simp [results, asAddr, hr, Act.put]
end Go.Proofs.YtgonidjajmjniaaDoor

