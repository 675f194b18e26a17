/-
  The contracts of wire.appendInt and wire.Int: they append, or return, the encoding of the integer.
  No condition but that the integer is an int64 and the slice is of the call's own making.
-/
import Derived.Test.YtbfhilbagojdnaaGreatHr13
import Derived.Test.YtbfhilbagojdnaaGreatWPure
import Derived.WalkKit
import Derived.WalkSpells
import Derived.WalkLawsBesides
import Derived.Deep.DeepCutAuto
import Derived.Lib.Hide
namespace Go.Proofs.YtbfhilbagojdnaaGreat.W1
open Go.RowKit Go.Proofs.YtbfhilbagojdnaaGreat.Wr Go.Proofs.YtbfhilbagojdnaaGreat.W1.Wr
set_option linter.unusedVariables false
set_option maxRecDepth 100000
theorem Tryz.info5 : (Tryz.prog.info? 5).map (fun i => (i.zero, i.size, i.bytes)) = some (some (.int .u8 0), 1, 1) := by kernel_rfl

/-- The array of digits behind some rounds. -/
def rowOf (f : UInt8) (j : Nat) (ds : List UInt8) : List Value := List.replicate (j + 1) (.int .u8 0) ++ B8 (ds.map (· ^^^ f))

theorem mod_neg (n : Int) (h0 : -9223372036854775808 ≤ n) (h1 : n < 0) : n % 18446744073709551616 = n + 18446744073709551616 := by omega
theorem wrap_u64 (n : Int) : IntKind.u64.wrap n = n % 18446744073709551616 := by simp [IntKind.wrap, IntKind.bits, IntKind.signed]
theorem max_u64 : IntKind.u64.max = ((18446744073709551615 : Nat) : Int) := by decide
theorem xor_max (a : Nat) (h : a < 18446744073709551616) : 18446744073709551615 ^^^ a = 18446744073709551615 - a := by
  have h1 : (BitVec.allOnes 64 ^^^ BitVec.ofNat 64 a) = ~~~ (BitVec.ofNat 64 a) := BitVec.allOnes_xor
  have h2 := congrArg BitVec.toNat h1
  rw [BitVec.toNat_xor, BitVec.toNat_not, BitVec.toNat_ofNat, BitVec.toNat_allOnes, Nat.mod_eq_of_lt (by omega)] at h2
  exact h2
theorem xor_neg (n : Int) (h0 : -9223372036854775808 ≤ n) (h1 : n < 0) : bits BinOp.xor IntKind.u64 IntKind.u64.max (IntKind.u64.wrap n) = ((mag n : Nat) : Int) := by
  have hw : IntKind.u64.wrap n = (((n + 18446744073709551616).toNat : Nat) : Int) := by rw [wrap_u64, mod_neg n h0 h1]; omega
  rw [hw, max_u64, u64_xor_nat _ _ (by omega) (by omega), xor_max _ (by omega)]
  unfold mag
  rw [if_pos h1]
  omega

theorem slice_row (g j : Nat) (hj : j ≤ 8) (W : World) : (Instr.sliceAt 119 (.pointer (some ⟨g, 0, none⟩)) (some (.int .i64 (j : Int))) none none).run Tryz.prog W = .ok (.slice (some ⟨g, j, none⟩) (9 - j) (9 - j)) W := by
  have h9 : Tryz.prog.arrayLen 119 = 9 := by kernel_rfl
  have he : Tryz.prog.elem 119 = 5 := by kernel_rfl
  have hu : Tryz.prog.underlying 119 = some (.array (Tryz.prog.arrayLen 119) (Tryz.prog.elem 119)) := by kernel_rfl
  have h5 : (sizeOf 5).run Tryz.prog W = .ok 1 W := by kernel_rfl
  rw [run_sliceAt_array_l W 119 ⟨g, 0, none⟩ hu .i64 (j : Int) (by omega) (by rw [h9]; omega), he, h5, h9]
  simp only [Result.andThen, slicedAt, Int.toNat_natCast, Nat.mul_one]
  rw [if_neg (by omega), Addr.add_lit, Nat.zero_add]
theorem wrap_pos (n : Int) (h0 : 0 ≤ n) (h1 : n ≤ 9223372036854775807) : IntKind.u64.wrap n = ((mag n : Nat) : Int) := by
  rw [wrap_u64]; unfold mag; rw [if_neg (by omega)]; omega
theorem xor8 (a b : UInt8) : bits BinOp.xor IntKind.u8 (a.toNat : Int) (b.toNat : Int) = ((a ^^^ b).toNat : Int) := by
  rw [u8_xor_nat _ _ a.toNat_lt b.toNat_lt, UInt8.toNat_xor]
theorem first_byte (f : UInt8) (j : Nat) (ds : List UInt8) (h : ds.length + j = 8) : bits BinOp.xor IntKind.u8 (136 - (j : Int)) (f.toNat : Int) = (((UInt8.ofNat (128 + ds.length)) ^^^ f).toNat : Int) := by
  rw [← xor8]
  congr 1
  rw [UInt8.toNat_ofNat']
  omega
theorem row_set (f c : UInt8) (j : Nat) (ds : List UInt8) : (rowOf f j ds).set j (.int .u8 ((c ^^^ f).toNat : Int)) = List.replicate j (.int .u8 0) ++ B8 ((c :: ds).map (· ^^^ f)) := by
  unfold rowOf
  rw [List.replicate_succ', List.append_assoc, List.set_append_right _ _ (by simp)]
  simp [B8]
theorem row_last {w wr : World} {M : Nat} {n : Int} (f : UInt8) (j : Nat) (ds : List UInt8) (h : ds.length + j = 8) (hb : Blk wr w.heap.size 119 (rowOf f j ds)) (hd : digs 8 M = ds) (hM : M = mag n) (hf : f = fl n) :
    ∀ i u, (B8 (enc n))[i]? = some u → (wr.setCell ⟨w.heap.size, j, none⟩ (.int .u8 (((UInt8.ofNat (128 + ds.length)) ^^^ f).toNat : Int))).cell? ((⟨w.heap.size, j, none⟩ : Addr).add i) = some u := by
  intro i u hu
  rw [Addr.add_lit, (hb.put j _).cell, row_set, List.getElem?_append_right (by simp)]
  rw [← hu]
  unfold enc
  subst hM hf hd
  simp
theorem row_step {w wr : World} (f : UInt8) (j m M : Nat) (ds : List UInt8) (hj : ds.length + j = 8) (hm : m < 256 ^ j) (h : m > 0) (hd : digs 8 M = digs j m ++ ds) (hb : Blk wr w.heap.size 119 (rowOf f j ds)) (hbel : Below w.heap.size w wr) :
    ∃ (m_1 j_1 : Nat) (es : List UInt8), Value.int IntKind.u64 ((m : Int) / 256) = Value.int IntKind.u64 (m_1 : Int) ∧ Value.int IntKind.i64 (j : Int) = Value.int IntKind.i64 ((j_1 : Int) + 1) ∧ es.length + j_1 = 8 ∧ m_1 < 256 ^ j_1 ∧ digs 8 M = digs j_1 m_1 ++ es ∧
      Blk (wr.setCell ⟨w.heap.size, j, none⟩ (.int .u8 (bits BinOp.xor IntKind.u8 ((m : Int) % 256) (f.toNat : Int)))) w.heap.size 119 (rowOf f j_1 es) ∧
      Below w.heap.size w (wr.setCell ⟨w.heap.size, j, none⟩ (.int .u8 (bits BinOp.xor IntKind.u8 ((m : Int) % 256) (f.toNat : Int)))) := by
  cases j with
  | zero => simp at hm; omega
  | succ i =>
    have hx : bits BinOp.xor IntKind.u8 ((m : Int) % 256) (f.toNat : Int) = ((UInt8.ofNat (m % 256) ^^^ f).toNat : Int) := by
      rw [← xor8]; congr 1; rw [UInt8.toNat_ofNat']; omega
    refine ⟨m / 256, i, UInt8.ofNat (m % 256) :: ds, by congr 1, by congr 1, by simp; omega, ?_, ?_, ?_, hbel.setCell (p := ⟨w.heap.size, i + 1, none⟩) (Nat.le_refl _) _⟩
    · rw [Nat.div_lt_iff_lt_mul (by decide)]; rw [Nat.pow_succ] at hm; omega
    · rw [hd, digs_step i m (by omega)]; simp
    · rw [hx]
      have := hb.put (i + 1) (.int .u8 ((UInt8.ofNat (m % 256) ^^^ f).toNat : Int))
      rw [row_set] at this
      exact this

set_option maxHeartbeats 400000 in
theorem appendInt_any (v : Value) (n : Int) (w : World) (B k : Nat) (xs : List UInt8) (hB : B ≤ w.heap.size) (hown : w.ownsRow B 5 1 v k (B8 xs))
  (hk : k ≤ 1099511627776) (h0 : -9223372036854775808 ≤ n) (h1 : n ≤ 9223372036854775807) :
    Calls Tryz.prog 117 #[v, .int .i64 n] w fun e w' => ∃ v', e = .returned v' ∧ w'.ownsRow B 5 1 v' (k + (enc n).length) (B8 (xs ++ enc n)) ∧ Below B w w' := by
  obtain ⟨i0, hi0, hz0, hz1, hz2⟩ := info_parts Tryz.info5
  have H0 := Lib.hid (mag_lt8 n h0 h1)
  go_enter Tryz.func117, Tryz.ntmps117
  go_wp2; go_step3
  go_upto_if 12 with (fail)
  go_cut [5, 6] (fun s5 s6 wx => s5 = .int .u64 (mag n) ∧ s6 = .int .u8 (fl n).toNat ∧ w = wx)
  case first =>
    rcases Int.lt_or_le n 0 with hn | hn
    · have hx := xor_neg n h0 hn
      have hf : fl n = 255 := by simp [fl, hn]
      go_wp2_with fail
      go_meet
      exact ⟨rfl, by rw [hf]; rfl, rfl⟩
    · have hx := wrap_pos n hn h1
      have hf : fl n = 0 := by simp [fl]; omega
      go_wp2_with fail
      go_meet
      exact ⟨by rw [hx], by rw [hf]; rfl, rfl⟩
  case rest =>
    obtain ⟨rfl, rfl, rfl⟩ := hcut
    obtain ⟨M, hM⟩ : ∃ M, M = mag n := ⟨_, rfl⟩
    obtain ⟨f, hf⟩ : ∃ f, f = fl n := ⟨_, rfl⟩
    rw [← hM, ← hf]
    have HM := Lib.hid hM
    have HF := Lib.hid hf
    clear hM hf
    go_wp2; go_step3
    go_wp2
    go_loopw [5, 8] (fun s5 s8 wr => ∃ (m j : Nat) (ds : List UInt8), s5 = .int .u64 m ∧ s8 = .int .i64 ((j : Int) + 1) ∧ ds.length + j = 8 ∧ m < 256 ^ j ∧ digs 8 M = digs j m ++ ds ∧ Blk wr w.heap.size 119 (rowOf f j ds) ∧ Below w.heap.size w wr)
      (fun _ s8 _ => (intOf s8).toNat)
    case atStart => exact ⟨M, 8, [], rfl, rfl, rfl, by rw [HM.out]; exact H0.out, by simp, Blk.new w 119 (rowOf f 8 []), (Below.refl _ _).alloc (Nat.le_refl _) _⟩
    case round =>
      obtain ⟨m, j, ds, rfl, rfl, hj, hm, hd, hb, hbel⟩ := hrel
      have Hd := Lib.hid hd
      clear hd
      have hj1 : j ≤ 8 := by omega
      have Hj := Lib.hid hj
      clear hj
      have hsl := slice_row w.heap.size j hj1
      have hm2 : m < 18446744073709551616 := Nat.lt_of_lt_of_le hm (by rw [← pow8]; exact Nat.pow_le_pow_right (by decide) hj1)
      have hc : wr.cell? ⟨w.heap.size, j, none⟩ = some (.int .u8 0) := by rw [hb.cell]; simp [rowOf, List.getElem?_append]
      have hf := hb.frozen j
      rcases Nat.eq_zero_or_pos m with h | h
      · subst h
        have hX := first_byte f j ds Hj.out
        have hrow := row_last f j ds Hj.out hb (by rw [Hd.out, digs_zero]; rfl) HM.out HF.out
        have hown' := own_below hown (hbel.setCell (p := ⟨w.heap.size, j, none⟩) (Nat.le_refl _) (.int .u8 (((UInt8.ofNat (128 + ds.length)) ^^^ f).toNat : Int)))
        have hbel' := hbel.setCell (p := ⟨w.heap.size, j, none⟩) (Nat.le_refl _) (.int .u8 (((UInt8.ofNat (128 + ds.length)) ^^^ f).toNat : Int))
        have hlen : (enc n).length = 9 - j := by rw [enc_len, ← HM.out, Hd.out, digs_zero]; simp; have := Hj.out; omega
        have Hrow := Lib.hid hrow
        have Hlen := Lib.hid hlen
        clear hrow hlen
        go_wp2_with (at_builtin; (refine wpList_append_own _ rfl (.tmp 35) (.tmp 37) 38 rfl B 5 i0 (.int .u8 0) 1 1 Tryz.underlying38 hi0 hz0 hz1 hz2 rfl (by decide) v k (B8 xs) rfl hown' ⟨w.heap.size, j, none⟩ (9 - j) (9 - j) (B8 (enc n)) rfl ?c0 ?c1 ?c2 ?c3 ?c4 ?c5 ?_))
        case c0 => rw [B8_len, Hlen.out]; omega
        case c1 => exact Hrow.out
        case c2 => exact B8_one _
        case c3 => unfold maxLen; omega
        case c4 => omega
        case c5 => exact Nat.le_trans hB hbel'.size
        · intro v' w' ho hg _
          go_wp2
          rw [Exit.noGoto_ret]
          go_ret
          refine ⟨v', rfl, ?_, ?_⟩
          · rw [Hlen.out, B8_append]; exact ho
          · exact (hbel'.mono hB).grown hg (Nat.le_trans hB hbel'.size) (fun q hq => (hown.lt q hq).1)
      · have hmne : ((m : Int) == 0) = false := by rw [beq_eq_false_iff_ne]; omega
        go_wp2_with fail
        go_roundw
        case rel => exact row_step f j m M ds Hj.out hm h Hd.out hb hbel
        case measure => simp only [intOf]; omega

set_option maxHeartbeats 400000 in
theorem int_any (n : Int) (w : World) (h0 : -9223372036854775808 ≤ n) (h1 : n ≤ 9223372036854775807) :
    Calls Tryz.prog 116 #[.int .i64 n] w fun e w' => ∃ v', e = .returned v' ∧ w'.ownsRow w.heap.size 5 1 v' (enc n).length (B8 (enc n)) ∧ Below w.heap.size w w' := by
  go_enter Tryz.func116, Tryz.ntmps116
  go_wp2_with (go_at_call 117; refine (appendInt_any _ n _ w.heap.size 0 [] (Nat.le_refl _) (World.ownsRow_nil _ _ _ _) (by omega) h0 h1).mono ?_; rintro e w' ⟨v', rfl, ho, hb⟩)
  go_ret
  exact ⟨v', rfl, by simpa using ho, hb⟩
end Go.Proofs.YtbfhilbagojdnaaGreat.W1
