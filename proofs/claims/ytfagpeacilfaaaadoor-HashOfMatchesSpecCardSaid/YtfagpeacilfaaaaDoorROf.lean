/-
  The contracts of the reference's Short and Of.
  Conditions: the input has at most 2^38 bytes; the reference's table of the round constants is as the text lays it.
-/
import Derived.Test.YtfagpeacilfaaaaDoorRMac
import Derived.Test.YtfagpeacilfaaaaDoorRInp
import Derived.Outline
namespace Go.Proofs.YtfagpeacilfaaaaDoor
open Go.RowKit Wr Sh
set_option linter.unusedVariables false

def outs (l : List UInt8) (i : Nat) : List UInt8 := l.take i ++ List.replicate (16 - i) 0
theorem outs_at (l : List UInt8) (i : Nat) (hl : l.length = 32) (hi : i < 16) : (B8 (outs l i))[i]? = some (.int .u8 0) := by
  unfold outs
  rw [B8_append, List.getElem?_append_right (by rw [B8_len, List.length_take]; omega), B8_len, List.length_take]
  rw [show i - min i l.length = 0 by omega, show 16 - i = (16 - (i + 1)) + 1 by omega, List.replicate_succ]; rfl
theorem outs_set (l : List UInt8) (i : Nat) (c : UInt8) (hl : l.length = 32) (hi : i < 16) (hc : l[i]? = some c) : (B8 (outs l i)).set i (.int .u8 (c.toNat : Int)) = B8 (outs l (i + 1)) := by
  have hil : i < l.length := by omega
  have hci : l[i] = c := by rw [List.getElem?_eq_getElem hil] at hc; exact Option.some.inj hc
  unfold outs
  rw [show 16 - i = (16 - (i + 1)) + 1 by omega, List.replicate_succ, List.take_succ_eq_append_getElem hil, hci, B8_append, B8_append, B8_append, List.set_append_right _ _ (by rw [B8_len, List.length_take]; omega), B8_len, List.length_take,
    show i - min i l.length = 0 by omega]
  simp [B8]
theorem outs_end (l : List UInt8) : outs l 16 = l.take 16 := by unfold outs; simp
theorem size44r (L : List UInt8) (h : L.length = 16) : (Tryd.prog.info? 44).map (·.size) = some (B8 L).toArray.size := by rw [List.size_toArray, B8_len, h]; kernel_rfl
theorem size44q (L : List UInt8) (h : L.length = 16) : (Tryd.prog.info? 44).map (·.size) = some (B8 L).length := by rw [B8_len, h]; kernel_rfl

set_option maxRecDepth 100000 in
set_option maxHeartbeats 4000000 in
theorem short_go (m : List UInt8) (v : Value) (base : Nat) (w0 w : World) (ho : w0.ownsRow base 5 1 v m.length (B8 m)) (hb : Below w0.heap.size w0 w) (hsz : m.length ≤ 549755813888) (ht : Tab 0 w) (R : List UInt8) (hR : Hid (R = sha m)) :
    Calls Tryd.prog 34 #[v] w fun e w' => e = .returned (.agg (B8 (R.take 16)).toArray) ∧ Below w.heap.size w w' := by
  have HT := Lib.hid ht
  have HO := Lib.hid ho
  have HB := Lib.hid hb
  have HRL := Lib.hid (show R.length = 32 by rw [hR.out]; exact sha_len _)
  have HBR := Lib.hid (show (B8 R).length = 32 by rw [B8_len, HRL.out])
  obtain ⟨D, hD⟩ : ∃ D, D = R.take 16 := ⟨_, rfl⟩
  have HDL := Lib.hid (show D.length = 16 by rw [hD, List.length_take, HRL.out]; rfl)
  have HBD := Lib.hid (show (B8 D).length = 16 by rw [B8_len, HDL.out])
  rw [← hD]
  have HD := Lib.hid hD
  have HB0 := Lib.hid ((Below.refl w.heap.size w).alloc (Nat.le_refl _) (.cells (B8 (List.replicate 16 0)).toArray 44))
  have HK0 := Lib.hid (Blk.new w 44 (B8 (List.replicate 16 0)))
  have b44 : ∀ W : World, (Instr.build 44 #[]).run Tryd.prog W = .ok (.agg (B8 (List.replicate 16 0)).toArray) W := fun _ => by kernel_rfl
  clear ht ho hb hD
  go_enter Tryd.func34, Tryd.ntmps34
  go_upto_region 2 with (first
    | (go_at_call 12; refine (rsum_v m v base w0 _ HO.out (HB.out.trans (HB0.out.mono HB.out.size)) hsz (HT.out.below HB0.out HT.out.1) R hR).mono ?_; rintro e w1 ⟨rfl, hb1⟩; have HB1 := Lib.hid (HB0.out.trans (hb1.mono HB0.out.size)); have K0 := Lib.hid (HK0.out.below hb1 HK0.out.lt); clear hb1)
    | (with_reducible refine wpList_store_row rfl 24 (.tmp 3) (.tmp 7) rfl w1.heap.size (B8 R).toArray rfl rfl 24 _ (heap_alloc_new w1 _) (size24' _ HRL.out) (by simp [HBR.out]) (one8 _) ?_))
  generalize hW : World.setRow _ _ _ = W1
  have f0 : Blk W1 w.heap.size 44 (B8 (List.replicate 16 0)) := by
    rw [← hW]; exact (K0.out.alloc _).setRow (Nat.ne_of_lt K0.out.lt) _
  have f1 : Blk W1 w1.heap.size 24 (B8 R) := by
    rw [← hW]; exact Blk.row (Blk.new w1 24 (B8 (List.replicate 32 0))) (B8 R)
  have HBW : Hid (Below w.heap.size w W1) := by
    rw [← hW]; exact Lib.hid (belowRow (HB1.out.alloc HB1.out.size _) HB1.out.size _)
  have hNM : w.heap.size < w1.heap.size := K0.out.lt
  obtain ⟨M, hM0⟩ : ∃ M, M = w1.heap.size := ⟨_, rfl⟩
  rw [← hM0] at f1 hNM ⊢
  clear hW hM0 K0 HB1 HK0 HB0
  rename World => wx
  go_wp2_with fail
  generalize hW2 : World.alloc _ _ = W2
  have e0 : Blk W2 w.heap.size 44 (B8 (List.replicate 16 0)) := by rw [← hW2]; exact f0.alloc _
  have e1 : Blk W2 M 24 (B8 R) := by rw [← hW2]; exact f1.alloc _
  have e2 : Blk W2 wx.heap.size 44 (B8 (outs R 0)) := by rw [← hW2]; exact Blk.new wx 44 (B8 (List.replicate 16 0))
  have HB2 : Hid (Below w.heap.size w W2) := by rw [← hW2]; exact Lib.hid (HBW.out.alloc HBW.out.size _)
  have hMX : M < wx.heap.size := f1.lt
  obtain ⟨X, hX0⟩ : ∃ X, X = wx.heap.size := ⟨_, rfl⟩
  rw [← hX0] at e2 hMX ⊢
  clear hW2 hX0 f0 f1 HBW
  go_loopw [5] (fun s5 wy => ∃ i : Nat, i ≤ 16 ∧ s5 = .int .i64 i ∧ Blk wy w.heap.size 44 (B8 (List.replicate 16 0)) ∧ Blk wy M 24 (B8 R) ∧ Blk wy X 44 (B8 (outs R i)) ∧ Hid (Below w.heap.size w wy)) (fun s5 _ => 16 - (intOf s5).toNat)
  case atStart => exact ⟨0, by omega, rfl, e0, e1, e2, HB2⟩
  case round =>
    clear e0 e1 e2 HB2
    rename World => wy
    obtain ⟨i, hi, rfl, e0, e1, e2, HB2⟩ := hrel
    by_cases hlt : i < 16
    · have hiR : i < R.length := by have := HRL.out; omega
      obtain ⟨x, hx⟩ : ∃ x, x = R[i] := ⟨_, rfl⟩
      have cx : wy.cell? ⟨M, i, none⟩ = some (.int .u8 (x.toNat : Int)) := by rw [e1.cell, B8_get _ _ hiR, hx]
      have co : wy.cell? ⟨X, i, none⟩ = some (.int .u8 0) := (e2.cell i).trans (outs_at R i HRL.out hlt)
      have fo := e2.frozen i
      have g1 : (i : Int) < 32 := by omega
      have g2 : (i : Int) < 16 := by omega
      have Hset := Lib.hid (outs_set R i x HRL.out hlt (by rw [hx, List.getElem?_eq_getElem hiR]))
      clear hx hlt
      go_wp2_with fail
      go_roundw
      case rel =>
        refine ⟨i + 1, by omega, by go_num, e0.far (show w.heap.size ≠ X by omega) _, e1.far (show M ≠ X by omega) _, ?_, Lib.hid (HB2.out.setCell (show w.heap.size ≤ X by omega) _)⟩
        have := e2.put i (.int .u8 (x.toNat : Int))
        rw [Hset.out] at this
        exact this
      case measure => simp only [intOf]; omega
    · obtain rfl : i = 16 := by omega
      rw [outs_end R, ← HD.out] at e2
      have E2 := Lib.hid e2.at
      have E0 := Lib.hid (show wy.heap[w.heap.size]? = some (.cells (B8 (List.replicate 16 0)).toArray 44 (0, 0)) from e0)
      have HSZ2 := Lib.hid (show (B8 (List.replicate 16 0)).toArray.size = (B8 D).toArray.size by rw [List.size_toArray, List.size_toArray, B8_len, B8_len, HDL.out]; rfl)
      have hbel := HB2.out
      clear e0 e1 e2
      go_wp2_with (first
        | (with_reducible refine wpList_load_at rfl 44 (.tmp 4) rfl ⟨X, 0, none⟩ rfl (B8 D) (.array 16 5) E2.out Tryd.underlying44 rfl (size44q _ HDL.out) ?_)
        | (with_reducible refine wpList_store_row rfl 44 (.tmp 2) (.tmp 18) rfl w.heap.size (B8 D).toArray rfl rfl 44 _ E0.out (size44r _ HDL.out) HSZ2.out (one8 _) ?_))
      refine bodyPost_ret (v := .agg (B8 D).toArray) ?_ rfl ⟨rfl, belowRow hbel (Nat.le_refl _) _⟩
      have hr := run_loadVar_row (P := Tryd.prog) _ w.heap.size 44 44 (B8 D).toArray (0, 0) (.array 16 5) (heap_setRow wy w.heap.size (B8 D).toArray _ 44 E0.out) Tryd.underlying44 rfl (size44r _ HDL.out)
      simp [results, Tryd.results34, asAddr, hr, Act.put]

set_option maxRecDepth 100000 in
set_option maxHeartbeats 4000000 in
theorem input_tag (tag : Int) (t8 : UInt8) (h8 : IntKind.u8.wrap tag = (t8.toNat : Int)) (A : Option Addr) (l : List ByteArray) (c : Nat) (w : World) (hr : Rd w w.heap.size A (St l)) (hsz : (inp t8 l).length ≤ 274877906944) :
    Calls Tryd.prog 23 #[.int .i64 tag, .slice A l.length c] w fun e w' => ∃ v', e = .returned v' ∧ w'.ownsRow w.heap.size 5 1 v' (inp t8 l).length (B8 (inp t8 l)) ∧ Below w.heap.size w w' := by
  obtain ⟨N, hN⟩ : ∃ N, N = l.length := ⟨_, rfl⟩
  have hN40 : N ≤ 274877906944 := by rw [hN]; exact Nat.le_trans (inp_many t8 l) hsz
  have h8' : tag % 256 = (t8.toNat : Int) := by rw [← h8, IntKind.wrap_u8']
  rw [← hN]
  have HN := Lib.hid hN
  have HR := Lib.hid hr
  have HZ := Lib.hid hsz
  have HO := Lib.hid (World.ownsRow_lit (base := w.heap.size) (e := 5) (size := 1) w #[.int .u8 (t8.toNat : Int)] 1 (Nat.le_refl _) (by decide) rfl)
  have HB := Lib.hid ((Below.refl w.heap.size w).alloc (Nat.le_refl _) (.cells #[.int .u8 (t8.toNat : Int)] 5))
  clear hN hr hsz
  go_enter Tryd.func23, Tryd.ntmps23
  go_wp2_with fail
  go_loopw [5, 6] (fun s3 s4 wr => ∃ j k : Nat, j ≤ N ∧ s4 = .int .i64 j ∧ Hid (k = (inp t8 (l.take j)).length) ∧ wr.ownsRow w.heap.size 5 1 s3 k (B8 (inp t8 (l.take j))) ∧ Hid (Below w.heap.size w wr)) (fun _ s4 _ => N - (intOf s4).toNat)
  case atStart => exact ⟨0, 1, Nat.zero_le _, rfl, Lib.hid rfl, HO.out, HB⟩
  case round =>
  clear HO HB
  obtain ⟨j, k, hj, rfl, HK, ho, HB⟩ := hrel
  have HO := Lib.hid ho
  clear ho
  by_cases hlt : j < N
  · have hjl : j < l.length := by have := HN.out; omega
    obtain ⟨g, o, rfl, hg, hcell⟩ := HR.out (by intro e; have := congrArg List.length e; simp only [St, List.length_map, List.length_nil] at this; omega)
    have hcj : wr.cell? ⟨g, o + j, none⟩ = some (.string l[j]) := by
      rw [HB.out.cell (show (⟨g, o + j, none⟩ : Addr).block < _ from hg)]; exact hcell j _ (St_get l j hjl)
    have hle := inp_le t8 l (j + 1)
    rw [inp_succ t8 l j hjl, List.length_append, ← HK.out] at hle
    have hzz := HZ.out
    have hxs := inp_long t8 l j hjl
    obtain ⟨x, hx⟩ : ∃ x, x = l[j] := ⟨_, rfl⟩
    rw [← hx] at hcj hle hxs
    obtain ⟨L, hL⟩ : ∃ L, L = (encStr x.data.toList).length := ⟨_, rfl⟩
    rw [← hL] at hle
    have hkL : k + L ≤ 274877906944 := by omega
    have hx40 : x.size ≤ 1099511627776 := by omega
    have HX := Lib.hid hx
    have HL := Lib.hid hL
    clear hcell hx hL hle hzz hxs
    go_wp2_with (first
      | (go_at_call 35; refine (rbytes_any _ _ hx40).mono ?_; rintro e w2 ⟨v2, rfl, ho2, hb2⟩; obtain ⟨A2, c2, rfl, _, hn2, hrd2⟩ := own_form ho2; have HRD := Lib.hid hrd2; have HNL := Lib.hid hn2; have HB2 := Lib.hid hb2; clear ho2 hb2 hrd2 hn2; rw [← HL.out])
      | (at_builtin; refine wpList_append_rd rfl (.tmp 16) (.tmp 21) rfl w.heap.size _ k _ rfl (own_below HO.out HB2.out) A2 L c2 _ (encStr x.data.toList) rfl HNL.out HL.out.symm HRD.out (by omega) (Nat.le_trans HB.out.size HB2.out.size) ?_; intro v3 w3 ho3 hg3; have HO3 := Lib.hid ho3; have HB3 := Lib.hid ((HB.out.trans (HB2.out.mono HB.out.size)).grown hg3 (Nat.le_trans HB.out.size HB2.out.size) (fun q hq => (HO.out.lt q hq).1)); clear ho3 hg3))
    go_roundw
    case rel =>
      refine ⟨j + 1, k + L, hlt, by go_num, Lib.hid (by rw [inp_succ t8 l j hjl, List.length_append, ← HK.out, ← HX.out, ← HL.out]), ?_, HB3⟩
      have := HO3.out
      rw [← B8_append] at this
      rw [inp_succ t8 l j hjl, ← HX.out]
      exact this
    case measure => simp only [intOf]; omega
  · obtain rfl : j = N := by omega
    go_wp2_with fail
    go_ret
    refine ⟨_, rfl, ?_, HB.out⟩
    have h := HO.out
    rw [HK.out, List.take_of_length_le (by rw [← HN.out]; exact Nat.le_refl _)] at h
    exact h

set_option maxRecDepth 100000 in
set_option maxHeartbeats 4000000 in
theorem rof_go (tag : Int) (A : Option Addr) (l : List ByteArray) (c : Nat) (w : World) (hr : Rd w w.heap.size A (St l)) (t8 : UInt8) (ht8 : IntKind.u8.wrap tag = (t8.toNat : Int)) (hsz : (inp t8 l).length ≤ 274877906944) (ht : Tab 0 w)
    (R : List UInt8) (hR : Hid (R = sha (inp t8 l))) :
    Calls Tryd.prog 22 #[.int .i64 tag, .slice A l.length c] w fun e w' => e = .returned (.agg (B8 (R.take 16)).toArray) ∧ Below w.heap.size w w' := by
  have HT := Lib.hid ht
  have HT0 : ∀ W, Below w.heap.size w W → Tab 0 W := fun W hW => HT.out.below hW HT.out.1
  have HRL := Lib.hid (show R.length = 32 by rw [hR.out]; exact sha_len _)
  obtain ⟨D, hD⟩ : ∃ D, D = R.take 16 := ⟨_, rfl⟩
  have HDL := Lib.hid (show D.length = 16 by rw [hD, List.length_take, HRL.out]; rfl)
  obtain ⟨X, hX⟩ : ∃ X, X = inp t8 l := ⟨_, rfl⟩
  have HX := Lib.hid hX
  have HB0 := Lib.hid ((Below.refl w.heap.size w).alloc (Nat.le_refl _) (.cells (B8 (List.replicate 16 0)).toArray 44))
  have HK0 := Lib.hid (Blk.new w 44 (B8 (List.replicate 16 0)))
  have HIN := Lib.hid (show ∀ W, Below w.heap.size w W → Calls Tryd.prog 23 #[.int .i64 tag, .slice A l.length c] W fun e w' => ∃ v', e = .returned v' ∧ w'.ownsRow W.heap.size 5 1 v' X.length (B8 X) ∧ Below W.heap.size W w' from fun W hW => by
    rw [hX]
    exact input_tag tag t8 ht8 A l c W ((hr.below hW).more hW.size) hsz)
  have HSH := Lib.hid (show ∀ W1 W v base, W1.ownsRow base 5 1 v X.length (B8 X) → Below W1.heap.size W1 W → Tab 0 W → Calls Tryd.prog 34 #[v] W fun e w' => e = .returned (.agg (B8 D).toArray) ∧ Below W.heap.size W w' from fun W1 W v base ho hb hW => by
    rw [hD]
    exact short_go X v base W1 W ho hb (by rw [hX]; omega) hW R (Lib.hid (by rw [hX, hR.out])))
  rw [← hD]
  clear ht hr hD hX
  obtain ⟨n, hn⟩ : ∃ n, n = l.length := ⟨_, rfl⟩
  rw [← hn] at HIN ⊢
  clear hn
  go_enter Tryd.func22, Tryd.ntmps22
  have HSZ2 := Lib.hid (show (B8 (List.replicate 16 0)).toArray.size = (B8 D).toArray.size by rw [List.size_toArray, List.size_toArray, B8_len, B8_len, HDL.out]; rfl)
  go_wp2_with (first
    | (go_at_call 23; refine (HIN.out _ HB0.out).mono ?_; rintro e w1 ⟨v1, rfl, ho1, hb1⟩; have HO1 := Lib.hid ho1; have HB1 := Lib.hid (HB0.out.trans (hb1.mono HB0.out.size)); have K1 := Lib.hid (HK0.out.below hb1 HK0.out.lt); clear ho1 hb1)
    | (go_at_call 34; (with_reducible refine (HSH.out w1 w1 v1 _ HO1.out (Below.refl _ _) (HT0 _ HB1.out)).mono ?_); rintro e w2 ⟨rfl, hb2⟩; have HB2 := Lib.hid (HB1.out.trans (hb2.mono HB1.out.size)); have E0 := Lib.hid (show w2.heap[w.heap.size]? = some (.cells (B8 (List.replicate 16 0)).toArray 44 (0, 0)) from K1.out.below hb2 K1.out.lt); clear hb2)
    | (with_reducible refine wpList_store_row rfl 44 (.tmp 4) (.tmp 8) rfl w.heap.size (B8 D).toArray rfl rfl 44 _ E0.out (size44r _ HDL.out) HSZ2.out (one8 _) ?_))
  refine bodyPost_ret (v := .agg (B8 D).toArray) ?_ rfl ⟨rfl, belowRow HB2.out (Nat.le_refl _) _⟩
  have hr := run_loadVar_row (P := Tryd.prog) _ w.heap.size 44 44 (B8 D).toArray (0, 0) (.array 16 5) (heap_setRow w2 w.heap.size (B8 D).toArray _ 44 E0.out) Tryd.underlying44 rfl (size44r _ HDL.out)
  simp [results, Tryd.results22, asAddr, hr, Act.put]
end Go.Proofs.YtfagpeacilfaaaaDoor
