/-
  The contract of the reference's Int, for integers below 0.
  No condition but that the integer is an int64.
-/
import Derived.Test.YtbfhilbagojdnaaGreatWRInt
namespace Go.Proofs.YtbfhilbagojdnaaGreat.W1
open Go.RowKit Go.Proofs.YtbfhilbagojdnaaGreat.Wr Go.Proofs.YtbfhilbagojdnaaGreat.W1.Wr
set_option linter.unusedVariables false
set_option maxRecDepth 100000
theorem xor255 (a : UInt8) : bits BinOp.xor IntKind.u8 (a.toNat : Int) ((255 : UInt8).toNat : Int) = 255 - (a.toNat : Int) := by
  have h : ∀ b : BitVec 8, (b ^^^ 255#8).toNat = 255 - b.toNat := by decide
  have := h a.toBitVec
  rw [xor8, UInt8.toNat_xor]
  have e : a.toNat ^^^ (255 : UInt8).toNat = 255 - a.toNat := by
    rw [BitVec.toNat_xor] at this; exact this
  have := a.toNat_lt
  omega
theorem enc_neg (n : Int) (m : Nat) (hm : (m : Int) = -1 - n) (h : n < 0) : enc n = (UInt8.ofNat (128 + (digs 8 m).length) ^^^ 255) :: (digs 8 m).map (· ^^^ 255) := by
  have : mag n = m := by unfold mag; rw [if_pos h]; omega
  unfold enc fl
  rw [if_pos h, this]
  rfl
set_option maxRecDepth 100000 in
set_option maxHeartbeats 4000000 in
theorem rint_neg (n : Int) (w : World) (h0 : n < 0) (h1 : -9223372036854775808 ≤ n) :
    Calls Tryz.prog 90 #[.int .i64 n] w fun e w' => ∃ v', e = .returned v' ∧ w'.ownsRow w.heap.size 5 1 v' (enc n).length (B8 (enc n)) ∧ Below w.heap.size w w' := by
  obtain ⟨m, hm⟩ : ∃ m : Nat, (m : Int) = -1 - n := ⟨(-1 - n).toNat, by omega⟩
  have hsub : IntKind.i64.wrap (-1 - n) = (m : Int) := by rw [IntWalk.i64_in _ (by omega)]; omega
  have hge : ¬ (0 ≤ n) := by omega
  have HM := Lib.hid hm
  have hm' : m < 9223372036854775808 := by omega
  clear hm
  go_enter Tryz.func90, Tryz.ntmps90
  go_wp2_with fail
  go_loopw [3, 4] (fun s3 s4 wr => ∃ (x j k : Nat) (es : List UInt8), s3 = .int .i64 (x : Int) ∧ x ≤ m ∧ k = es.length ∧ k + j = 8 ∧ Hid (x < 256 ^ j) ∧ Hid (digs 8 m = digs j x ++ es) ∧ wr.ownsRow w.heap.size 5 1 s4 k (B8 es.reverse) ∧ Hid (Below w.heap.size w wr))
    (fun s3 _ _ => (intOf s3).toNat)
  case atStart => exact ⟨m, 8, 0, [], rfl, Nat.le_refl _, rfl, rfl, Lib.hid (by omega), Lib.hid (by simp), World.ownsRow_nil _ _ _ _, Lib.hid (Below.refl _ _)⟩
  case round =>
  obtain ⟨x, j, k, es, rfl, hxm, hk, hkj, HX, HD, ho, HB⟩ := hrel
  obtain ⟨A3, c3, rfl, _, _, hrd⟩ := own_form ho
  have HO := Lib.hid ho
  have HK := Lib.hid hk
  clear ho hk
  by_cases hx0 : 0 < x
  · have hx0' : (0 : Int) < (x : Int) := by omega
    obtain ⟨y, hy⟩ : ∃ y, y = UInt8.ofNat (x % 256) := ⟨_, rfl⟩
    have hmod : (x : Int) % 256 = (y.toNat : Int) := by rw [hy, UInt8.toNat_ofNat']; omega
    have hmod' : (x : Int).tmod 256 = (y.toNat : Int) := by rw [Int.tmod_eq_emod_of_nonneg (by omega)]; exact hmod
    have hwy : IntKind.u8.wrap (y.toNat : Int) = (y.toNat : Int) := by rw [IntKind.wrap_u8']; have := y.toNat_lt; omega
    have hwy' : (y.toNat : Int) % 256 = (y.toNat : Int) := by have := y.toNat_lt; omega
    obtain ⟨q, hq⟩ : ∃ q, q = x / 256 := ⟨_, rfl⟩
    have hdiv : (x : Int) / 256 = (q : Int) := by omega
    have hdiv' : (x : Int).tdiv 256 = (q : Int) := by rw [Int.tdiv_eq_ediv_of_nonneg (by omega)]; exact hdiv
    have HY := Lib.hid hy
    have HQ := Lib.hid hq
    clear hy hq
    go_wp2_with (at_builtin; refine wpList_append_rd rfl (.tmp 16) (.tmp 20) rfl w.heap.size _ k _ rfl (HO.out.alloc _) (some ⟨wr.heap.size, 0, none⟩) 1 1 _ [y] rfl (fun h => by cases h) rfl (rd_lit wr y) (by omega) (by have := HB.out.size; simp; omega) ?_; intro v4 w4 ho4 hg4; have HO4 := Lib.hid ho4; have HB4 := Lib.hid ((HB.out.alloc HB.out.size (.cells #[.int .u8 (y.toNat : Int)] 5)).grown hg4 (HB.out.alloc HB.out.size _).size (fun q hq => (HO.out.lt q hq).1)); clear ho4 hg4)
    go_roundw
    case rel =>
      obtain ⟨i, rfl⟩ : ∃ i, j = i + 1 := by
        cases j with
        | zero => have := HX.out; simp at this; omega
        | succ i => exact ⟨i, rfl⟩
      refine ⟨q, i, k + 1, y :: es, by go_num, by have := HQ.out; omega, by have := HK.out; simp; omega, by omega, Lib.hid (by have := HX.out; rw [Nat.pow_succ] at this; rw [HQ.out, Nat.div_lt_iff_lt_mul (by decide)]; omega), Lib.hid (by rw [HD.out, digs_step i x (by omega), HQ.out, HY.out]; simp), ?_, HB4⟩
      have := HO4.out
      rw [← B8_append] at this
      simpa using this
    case measure => simp only [intOf]; have := HQ.out; omega
  · obtain rfl : x = 0 := by omega
    have hD : digs 8 m = es := by rw [HD.out, digs_zero]; rfl
    have hk8 : k ≤ 8 := by omega
    obtain ⟨z, hz⟩ : ∃ z, z = UInt8.ofNat (128 + k) ^^^ 255 := ⟨_, rfl⟩
    have hzi : (127 : Int) - (k : Int) = (z.toNat : Int) := by
      rw [hz, ← xor8, xor255, UInt8.toNat_ofNat']; omega
    have hwz : IntKind.u8.wrap (z.toNat : Int) = (z.toNat : Int) := by rw [IntKind.wrap_u8']; have := z.toNat_lt; omega
    have hwz' : (z.toNat : Int) % 256 = (z.toNat : Int) := by have := z.toNat_lt; omega
    have henc : enc n = z :: es.map (· ^^^ 255) := by rw [enc_neg n m HM.out h0, hD, hz, HK.out]
    have HE := Lib.hid henc
    have HRD := Lib.hid hrd
    have HON := Lib.hid (World.ownsRow_nil (wr.alloc (.cells #[.int .u8 (z.toNat : Int)] 5)) wr.heap.size 5 1)
    clear hD hz HD henc hrd HO HX hkj hx0
    go_wp2_with (at_builtin; refine wpList_append_rd rfl (.tmp 34) (.tmp 38) rfl wr.heap.size _ 0 [] rfl HON.out (some ⟨wr.heap.size, 0, none⟩) 1 1 _ [z] rfl (fun h => by cases h) rfl (rd_lit wr z) (by omega) (by simp) ?_; intro v5 w5 ho5 hg5; have HO5 := Lib.hid (show w5.ownsRow wr.heap.size 5 1 v5 (1 + 0) (B8 (z :: (es.map (· ^^^ 255)).take 0)) by simpa using ho5); have HB5 := Lib.hid (((Below.refl wr.heap.size wr).alloc (Nat.le_refl _) (.cells #[.int .u8 (z.toNat : Int)] 5)).grown hg5 (by simp) (fun q hq => (HON.out.lt q hq).1)); clear ho5 hg5)
    go_loopw [6, 7, 8] (fun s6 s7 s8 wq => ∃ p : Nat, p ≤ k ∧ s7 = .int .i64 ((k : Int) - 1 - (p : Int)) ∧ wq.ownsRow wr.heap.size 5 1 s6 (1 + p) (B8 (z :: (es.map (· ^^^ 255)).take p)) ∧ Hid (Below wr.heap.size wr wq))
      (fun _ s7 _ _ => (intOf s7 + 1).toNat)
    case atStart => exact ⟨0, Nat.zero_le _, by simp, HO5.out, HB5⟩
    case round =>
    clear HO5 HB5 HON
    obtain ⟨p, hp, rfl, ho6, HB6⟩ := hrel
    have HO6 := Lib.hid ho6
    clear ho6
    by_cases hlt : p < k
    · obtain ⟨q, hq⟩ : ∃ q : Nat, (q : Int) = (k : Int) - 1 - (p : Int) := ⟨k - 1 - p, by omega⟩
      rw [← hq]
      have hk := HK.out
      have hlen : (B8 es.reverse).length = k := by rw [B8_len, List.length_reverse, ← hk]
      obtain ⟨g, o, rfl, hg, hcell⟩ := HRD.out (by intro e; rw [e] at hlen; simp at hlen; omega)
      obtain ⟨d, hd⟩ : ∃ d, d = es[p]'(by omega) := ⟨_, rfl⟩
      have hcq : wr.cell? ⟨g, o + q, none⟩ = some (.int .u8 (d.toNat : Int)) := by
        rw [HB6.out.cell (show (⟨g, o + q, none⟩ : Addr).block < _ from hg)]
        refine hcell q _ ?_
        rw [B8_get es.reverse q (by rw [List.length_reverse]; omega), List.getElem_reverse]
        have : es.length - 1 - q = p := by omega
        simp only [this, hd]
      have hqk : (q : Int) < (k : Int) := by omega
      obtain ⟨f, hf⟩ : ∃ f, f = d ^^^ 255 := ⟨_, rfl⟩
      have h255 : (255 : Int) - (d.toNat : Int) = (f.toNat : Int) := by rw [hf, ← xor8, xor255]
      have hw255 : IntKind.u8.wrap (f.toNat : Int) = (f.toNat : Int) := by rw [IntKind.wrap_u8']; have := f.toNat_lt; omega
      have ht : Hid ((es.map (· ^^^ 255)).take (p + 1) = (es.map (· ^^^ 255)).take p ++ [f]) := Lib.hid (by rw [List.take_succ_eq_append_getElem (by simp; omega), hf, hd]; simp)
      have HQ := Lib.hid hq
      clear hk hlen hcell hd hq hf
      go_wp2_with (at_builtin; refine wpList_append_rd rfl (.tmp 54) (.tmp 56) rfl _ _ (1 + p) _ rfl (HO6.out.alloc _) (some ⟨wr.heap.size, 0, none⟩) 1 1 _ [f] rfl (fun h => by cases h) rfl (rd_lit wr f) (by omega) (by have := HB6.out.size; simp; omega) ?_; intro v7 w7 ho7 hg7; have HO7 := Lib.hid ho7; have HB7 := Lib.hid ((HB6.out.alloc HB6.out.size (.cells #[.int .u8 (f.toNat : Int)] 5)).grown hg7 (HB6.out.alloc HB6.out.size _).size (fun q hq => (HO6.out.lt q hq).1)); clear ho7 hg7)
      go_roundw
      case rel =>
        refine ⟨p + 1, hlt, by have := HQ.out; congr 1; omega, ?_, HB7⟩
        have := HO7.out
        rw [← B8_append, List.cons_append, ← ht.out] at this
        exact this
      case measure => simp only [intOf]; have := HQ.out; omega
    · obtain rfl : p = k := by omega
      go_wp2_with fail
      go_ret
      have hBw := HB.out
      refine ⟨_, rfl, ?_, hBw.trans (HB6.out.mono hBw.size)⟩
      have hfin := HO6.out
      rw [List.take_of_length_le (by rw [List.length_map, ← HK.out]; exact Nat.le_refl _), ← HE.out] at hfin
      have hl : (enc n).length = 1 + p := by rw [HE.out, HK.out]; simp; omega
      rw [hl]
      exact own_base hfin hBw.size
theorem rint_any (n : Int) (w : World) (h0 : -9223372036854775808 ≤ n) (h1 : n ≤ 9223372036854775807) :
    Calls Tryz.prog 90 #[.int .i64 n] w fun e w' => ∃ v', e = .returned v' ∧ w'.ownsRow w.heap.size 5 1 v' (enc n).length (B8 (enc n)) ∧ Below w.heap.size w w' := by
  by_cases h : n < 0
  · exact rint_neg n w h h0
  · exact rint_pos n w (by omega) h1
end Go.Proofs.YtbfhilbagojdnaaGreat.W1
