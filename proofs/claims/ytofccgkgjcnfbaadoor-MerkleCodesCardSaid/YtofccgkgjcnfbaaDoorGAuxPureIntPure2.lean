/-
  Contracts and words of several parts of the program (Aux, Pure, Int, Pure2), one after the other.
  Conditions: those that each says.
-/
import Derived.Test.YtofccgkgjcnfbaaDoorSum
import Derived.Outline
import Derived.Laws.IdiomStrings
import Derived.Laws.AppendOwn
import Derived.Test.YtofccgkgjcnfbaaDoorProg
import Derived.Test.YtofccgkgjcnfbaaDoorGBitsRotShaMem
import Derived.WalkKit
import Derived.WalkSpells
import Derived.WalkLawsBesides
import Derived.Deep.DeepCutAuto
import Derived.Lib.Hide
set_option linter.unusedSimpArgs false
namespace Go.Proofs.YtofccgkgjcnfbaaDoor
open Go.RowKit Wr Sh
set_option linter.unusedVariables false
set_option maxRecDepth 100000
theorem sha_len (m : List UInt8) : (sha m).length = 32 := by simp [sha, S8.bytes, S8.list, bytes4]
def Z64 : List UInt8 := List.replicate 64 0
theorem part_z : Part [] Z64 0 init := part_nil
theorem begin_s (w : World) : Calls Tryd.prog 100 #[] w fun e w' => e = .returned (.agg (SC init Z64 0).toArray) ∧ Below w.heap.size w w' := begin_any w
theorem size_l (a : ByteArray) : a.data.toList.length = a.size := by simp
theorem wpList_bytes_of {P : Program} {w : World} {ops : Array Oper} {rest : List Oper} {o : Oper} {a : Act} {Q : Exit → Act → World → Prop} (hgd : o.guard = none) (src dst e : TypeId) (x : Operand) (ho : o.op = .convert src dst x)
  (s : ByteArray) (hx : a.eval x = .string s) (hs : P.underlying src = some .string) (hd : P.underlying dst = some (.slice e)) (he : P.underlying e = some (.int .u8))
  (h : ∀ (C : Nat) (W : World), s.size ≤ C → Rd W W.heap.size (some ⟨w.heap.size, 0, none⟩) (B8 s.data.toList) → Below w.heap.size w W → wpList P ops Q rest (a.put o.dst (.slice (some ⟨w.heap.size, 0, none⟩) s.size C)) W) :
  wpList P ops Q (o :: rest) a w := by
 refine wpList_plain hgd fun K hK => ?_
 have hrun := run_bytes_of_string (P := P) w src dst e s hs hd he
 have h2 := h (grownCap w s.size 0 e) _ (grownCap_ge w s.size 0 e) (fun _ => ⟨w.heap.size, 0, rfl, by simp, fun j u hu => by
  rw [Nat.zero_add]
  refine (cell_of_row _ w.heap.size j _ _ _ (heap_alloc_new w.drew _)).trans ?_
  have hj := (List.getElem?_eq_some_iff.1 hu).1
  rw [B8_len] at hj
  rw [B8_get _ _ hj] at hu
  rw [bytesRow_at s _ j (by simpa using hj), ← hu]
  rfl⟩) ((Below.refl w.heap.size w).drew.alloc (Nat.le_refl _) (.cells (bytesRow s (grownCap w s.size 0 e)) e ((bytesRow s (grownCap w s.size 0 e)).size, (bytesRow s (grownCap w s.size 0 e)).size + 1)))
 unfold Oper.wp execOp
 simp only [ho, hx, Sem.run_bind, hrun, Result.andThen_ok, Sem.run_pure]
 exact hK _ _ h2
end Go.Proofs.YtofccgkgjcnfbaaDoor
namespace Go.Proofs.YtofccgkgjcnfbaaDoor
namespace Wr
def digs : Nat → Nat → List UInt8
 | 0, _ => []
 | f + 1, m => if m = 0 then [] else digs f (m / 256) ++ [UInt8.ofNat (m % 256)]
def mag (n : Int) : Nat := if n < 0 then (-1 - n).toNat else n.toNat
def fl (n : Int) : UInt8 := if n < 0 then 255 else 0
def enc (n : Int) : List UInt8 := (UInt8.ofNat (128 + (digs 8 (mag n)).length) :: digs 8 (mag n)).map (· ^^^ fl n)
def val (l : List UInt8) : Nat := l.foldl (fun a c => a * 256 + c.toNat) 0
theorem digs_zero (f : Nat) : digs f 0 = [] := by cases f <;> simp [digs]
theorem digs_step (f m : Nat) (h : m ≠ 0) : digs (f + 1) m = digs f (m / 256) ++ [UInt8.ofNat (m % 256)] := by simp [digs, h]
theorem digs_len (f m : Nat) : (digs f m).length ≤ f := by
 induction f generalizing m with
 | zero => simp [digs]
 | succ f ih =>
  unfold digs
  split
  ·
   simp
  ·
   have := ih (m / 256)
   simp; omega
theorem val_snoc (l : List UInt8) (c : UInt8) : val (l ++ [c]) = val l * 256 + c.toNat := by simp [val]
theorem val_digs (f m : Nat) (h : m < 256 ^ f) : val (digs f m) = m := by
 induction f generalizing m with
 | zero => simp at h; subst h; rfl
 | succ f ih =>
  unfold digs
  split
  ·
   next h0 => subst h0; rfl
  ·
   have h2 : m / 256 < 256 ^ f := by rw [Nat.div_lt_iff_lt_mul (by decide)]; rw [Nat.pow_succ] at h; omega
   rw [val_snoc, ih _ h2]
   simp
   omega
theorem mag_lt (n : Int) (h0 : -9223372036854775808 ≤ n) (h1 : n ≤ 9223372036854775807) : mag n < 9223372036854775808 := by
 unfold mag; split <;> omega
theorem pow8 : (256 : Nat) ^ 8 = 18446744073709551616 := by decide
theorem mag_lt8 (n : Int) (h0 : -9223372036854775808 ≤ n) (h1 : n ≤ 9223372036854775807) : mag n < 256 ^ 8 := by
 have := mag_lt n h0 h1; rw [pow8]; omega
theorem enc_len (n : Int) : (enc n).length = 1 + (digs 8 (mag n)).length := by simp [enc]; omega
theorem enc_le (n : Int) : 1 ≤ (enc n).length ∧ (enc n).length ≤ 9 := by
 have := digs_len 8 (mag n)
 have := enc_len n
 omega
def flag (h : UInt8) : UInt8 := if h < 128 then 255 else 0
def cnt (h : UInt8) : Nat := (h ^^^ flag h).toNat - 128
def maxI : Nat := 9223372036854775807
theorem maxI_lt (m : Nat) : maxI < m ↔ 9223372036854775807 < m := Iff.rfl
def decInt : List UInt8 → Int × Nat × Nat
 | [] => (0, 0, 3)
 | h :: t =>
  if 8 < cnt h then (0, 0, 2)
  else if t.length < cnt h then (0, 0, 3)
  else if (0 < cnt h ∧ t.head? = some (flag h)) ∨ maxI < val ((t.take (cnt h)).map (· ^^^ flag h)) then (0, 0, 2)
  else (if flag h = 0 then (val ((t.take (cnt h)).map (· ^^^ flag h)) : Int) else -1 - (val ((t.take (cnt h)).map (· ^^^ flag h)) : Int), 1 + cnt h, 0)
theorem decInt_cons (h : UInt8) (t : List UInt8) : decInt (h :: t) = if 8 < cnt h then (0, 0, 2) else if t.length < cnt h then (0, 0, 3)
  else if (0 < cnt h ∧ t.head? = some (flag h)) ∨ maxI < val ((t.take (cnt h)).map (· ^^^ flag h)) then (0, 0, 2)
  else (if flag h = 0 then (val ((t.take (cnt h)).map (· ^^^ flag h)) : Int) else -1 - (val ((t.take (cnt h)).map (· ^^^ flag h)) : Int), 1 + cnt h, 0) := by
 simp only [decInt]
theorem byte_all (p : UInt8 → Prop) [DecidablePred p] (h : ∀ i : Fin 256, p (UInt8.ofNat i.val)) (c : UInt8) : p c := by
 have := h ⟨c.toNat, c.toNat_lt⟩
 simpa using this
theorem cnt_eq (h : UInt8) : (h ^^^ flag h).toNat = cnt h + 128 := by
 have : 128 ≤ (h ^^^ flag h).toNat := byte_all (fun h => 128 ≤ (h ^^^ flag h).toNat) (by decide +kernel) h
 unfold cnt; omega
theorem flag_cases (h : UInt8) : (flag h = 0 ∧ 128 ≤ h.toNat) ∨ (flag h = 255 ∧ h.toNat < 128) := by
 unfold flag
 split
 ·
  next hh => exact .inr ⟨rfl, by simpa [UInt8.lt_iff_toNat_lt] using hh⟩
 ·
  next hh => exact .inl ⟨rfl, by simpa [UInt8.lt_iff_toNat_lt] using hh⟩
theorem val_lt (l : List UInt8) : val l < 256 ^ l.length := by
 suffices h : ∀ r : List UInt8, val r.reverse < 256 ^ r.length by simpa using h l.reverse
 intro r
 induction r with
 | nil => simp [val]
 | cons c r ih =>
  rw [List.reverse_cons, val_snoc, List.length_cons, Nat.pow_succ]
  have := c.toNat_lt
  omega
end Wr
end Go.Proofs.YtofccgkgjcnfbaaDoor
namespace Go.Proofs.YtofccgkgjcnfbaaDoor
open Go.RowKit Wr
set_option linter.unusedVariables false
set_option maxRecDepth 100000
theorem Tryd.info5 : (Tryd.prog.info? 5).map (fun i => (i.zero, i.size, i.bytes)) = some (some (.int .u8 0), 1, 1) := by kernel_rfl
def rowOf (f : UInt8) (j : Nat) (ds : List UInt8) : List Value := List.replicate (j + 1) (.int .u8 0) ++ B8 (ds.map (· ^^^ f))
theorem mod_neg (n : Int) (h0 : -9223372036854775808 ≤ n) (h1 : n < 0) : n % 18446744073709551616 = n + 18446744073709551616 := by omega
theorem wrap_u64 (n : Int) : IntKind.u64.wrap n = n % 18446744073709551616 := by simp [IntKind.wrap, IntKind.bits, IntKind.signed]
theorem max_u64 : IntKind.u64.max = ((18446744073709551615 : Nat) : Int) := by decide
theorem xor_max (a : Nat) (h : a < 18446744073709551616) : 18446744073709551615 ^^^ a = 18446744073709551615 - a := by
 have h1 : (BitVec.allOnes 64 ^^^ BitVec.ofNat 64 a) = ~~~ (BitVec.ofNat 64 a) := BitVec.allOnes_xor
 have h2 := congrArg BitVec.toNat h1
 rw [BitVec.toNat_xor, BitVec.toNat_not, BitVec.toNat_ofNat, BitVec.toNat_allOnes, Nat.mod_eq_of_lt (by omega)] at h2
 exact h2
theorem xor_neg (n : Int) (h0 : -9223372036854775808 ≤ n) (h1 : n < 0) : bits BinOp.xor IntKind.u64 IntKind.u64.max (IntKind.u64.wrap n) = ((mag n : Nat) : Int) := by
 have hw : IntKind.u64.wrap n = (((n + 18446744073709551616).toNat : Nat) : Int) := by rw [wrap_u64, mod_neg n h0 h1]; omega
 rw [hw, max_u64, u64_xor_nat _ _ (by omega) (by omega), xor_max _ (by omega)]
 unfold mag
 rw [if_pos h1]
 omega
theorem slice_row (g j : Nat) (hj : j ≤ 8) (W : World) : (Instr.sliceAt 140 (.pointer (some ⟨g, 0, none⟩)) (some (.int .i64 (j : Int))) none none).run Tryd.prog W = .ok (.slice (some ⟨g, j, none⟩) (9 - j) (9 - j)) W := by
 have h9 : Tryd.prog.arrayLen 140 = 9 := by kernel_rfl
 have he : Tryd.prog.elem 140 = 5 := by kernel_rfl
 have hu : Tryd.prog.underlying 140 = some (.array (Tryd.prog.arrayLen 140) (Tryd.prog.elem 140)) := by kernel_rfl
 have h5 : (sizeOf 5).run Tryd.prog W = .ok 1 W := by kernel_rfl
 rw [run_sliceAt_array_l W 140 ⟨g, 0, none⟩ hu .i64 (j : Int) (by omega) (by rw [h9]; omega), he, h5, h9]
 simp only [Result.andThen, slicedAt, Int.toNat_natCast, Nat.mul_one]
 rw [if_neg (by omega), Addr.add_lit, Nat.zero_add]
theorem wrap_pos (n : Int) (h0 : 0 ≤ n) (h1 : n ≤ 9223372036854775807) : IntKind.u64.wrap n = ((mag n : Nat) : Int) := by
 rw [wrap_u64]; unfold mag; rw [if_neg (by omega)]; omega
theorem xor8 (a b : UInt8) : bits BinOp.xor IntKind.u8 (a.toNat : Int) (b.toNat : Int) = ((a ^^^ b).toNat : Int) := by
 rw [u8_xor_nat _ _ a.toNat_lt b.toNat_lt, UInt8.toNat_xor]
theorem first_byte (f : UInt8) (j : Nat) (ds : List UInt8) (h : ds.length + j = 8) : bits BinOp.xor IntKind.u8 (136 - (j : Int)) (f.toNat : Int) = (((UInt8.ofNat (128 + ds.length)) ^^^ f).toNat : Int) := by
 rw [← xor8]
 congr 1
 rw [UInt8.toNat_ofNat']
 omega
theorem row_set (f c : UInt8) (j : Nat) (ds : List UInt8) : (rowOf f j ds).set j (.int .u8 ((c ^^^ f).toNat : Int)) = List.replicate j (.int .u8 0) ++ B8 ((c :: ds).map (· ^^^ f)) := by
 unfold rowOf
 rw [List.replicate_succ', List.append_assoc, List.set_append_right _ _ (by simp)]
 simp [B8]
theorem row_last {w wr : World} {M : Nat} {n : Int} (f : UInt8) (j : Nat) (ds : List UInt8) (h : ds.length + j = 8) (hb : Blk wr w.heap.size 140 (rowOf f j ds)) (hd : digs 8 M = ds) (hM : M = mag n) (hf : f = fl n) :
  ∀ i u, (B8 (enc n))[i]? = some u → (wr.setCell ⟨w.heap.size, j, none⟩ (.int .u8 (((UInt8.ofNat (128 + ds.length)) ^^^ f).toNat : Int))).cell? ((⟨w.heap.size, j, none⟩ : Addr).add i) = some u := by
 intro i u hu
 rw [Addr.add_lit, (hb.put j _).cell, row_set, List.getElem?_append_right (by simp)]
 rw [← hu]
 unfold enc
 subst hM hf hd
 simp
theorem row_step {w wr : World} (f : UInt8) (j m M : Nat) (ds : List UInt8) (hj : ds.length + j = 8) (hm : m < 256 ^ j) (h : m > 0) (hd : digs 8 M = digs j m ++ ds) (hb : Blk wr w.heap.size 140 (rowOf f j ds)) (hbel : Below w.heap.size w wr) :
  ∃ (m_1 j_1 : Nat) (es : List UInt8), Value.int IntKind.u64 ((m : Int) / 256) = Value.int IntKind.u64 (m_1 : Int) ∧ Value.int IntKind.i64 (j : Int) = Value.int IntKind.i64 ((j_1 : Int) + 1) ∧ es.length + j_1 = 8 ∧ m_1 < 256 ^ j_1 ∧ digs 8 M = digs j_1 m_1 ++ es ∧
   Blk (wr.setCell ⟨w.heap.size, j, none⟩ (.int .u8 (bits BinOp.xor IntKind.u8 ((m : Int) % 256) (f.toNat : Int)))) w.heap.size 140 (rowOf f j_1 es) ∧
   Below w.heap.size w (wr.setCell ⟨w.heap.size, j, none⟩ (.int .u8 (bits BinOp.xor IntKind.u8 ((m : Int) % 256) (f.toNat : Int)))) := by
 cases j with
 | zero => simp at hm; omega
 | succ i =>
  have hx : bits BinOp.xor IntKind.u8 ((m : Int) % 256) (f.toNat : Int) = ((UInt8.ofNat (m % 256) ^^^ f).toNat : Int) := by
   rw [← xor8]; congr 1; rw [UInt8.toNat_ofNat']; omega
  refine ⟨m / 256, i, UInt8.ofNat (m % 256) :: ds, by congr 1, by congr 1, by simp; omega, ?_, ?_, ?_, hbel.setCell (p := ⟨w.heap.size, i + 1, none⟩) (Nat.le_refl _) _⟩
  ·
   rw [Nat.div_lt_iff_lt_mul (by decide)]; rw [Nat.pow_succ] at hm; omega
  ·
   rw [hd, digs_step i m (by omega)]; simp
  ·
   rw [hx]
   have := hb.put (i + 1) (.int .u8 ((UInt8.ofNat (m % 256) ^^^ f).toNat : Int))
   rw [row_set] at this
   exact this
set_option maxHeartbeats 400000 in
theorem appendInt_any (v : Value) (n : Int) (w : World) (B k : Nat) (xs : List UInt8) (hB : B ≤ w.heap.size) (hown : w.ownsRow B 5 1 v k (B8 xs))
 (hk : k ≤ 1099511627776) (h0 : -9223372036854775808 ≤ n) (h1 : n ≤ 9223372036854775807) :
  Calls Tryd.prog 69 #[v, .int .i64 n] w fun e w' => ∃ v', e = .returned v' ∧ w'.ownsRow B 5 1 v' (k + (enc n).length) (B8 (xs ++ enc n)) ∧ Below B w w' := by
 obtain ⟨i0, hi0, hz0, hz1, hz2⟩ := info_parts Tryd.info5
 have H0 := Lib.hid (mag_lt8 n h0 h1)
 go_enter Tryd.func69, Tryd.ntmps69
 go_wp2; go_step3
 go_upto_if 12 with (fail)
 go_cut [5, 6] (fun s5 s6 wx => s5 = .int .u64 (mag n) ∧ s6 = .int .u8 (fl n).toNat ∧ w = wx)
 case first =>
  rcases Int.lt_or_le n 0 with hn | hn
  ·
   have hx := xor_neg n h0 hn
   have hf : fl n = 255 := by simp [fl, hn]
   go_wp2_with fail
   go_meet
   exact ⟨rfl, by rw [hf]; rfl, rfl⟩
  ·
   have hx := wrap_pos n hn h1
   have hf : fl n = 0 := by simp [fl]; omega
   go_wp2_with fail
   go_meet
   exact ⟨by rw [hx], by rw [hf]; rfl, rfl⟩
 case rest =>
  obtain ⟨rfl, rfl, rfl⟩ := hcut
  obtain ⟨M, hM⟩ : ∃ M, M = mag n := ⟨_, rfl⟩
  obtain ⟨f, hf⟩ : ∃ f, f = fl n := ⟨_, rfl⟩
  rw [← hM, ← hf]
  have HM := Lib.hid hM
  have HF := Lib.hid hf
  clear hM hf
  go_wp2; go_step3
  go_wp2
  go_loopw [5, 8] (fun s5 s8 wr => ∃ (m j : Nat) (ds : List UInt8), s5 = .int .u64 m ∧ s8 = .int .i64 ((j : Int) + 1) ∧ ds.length + j = 8 ∧ m < 256 ^ j ∧ digs 8 M = digs j m ++ ds ∧ Blk wr w.heap.size 140 (rowOf f j ds) ∧ Below w.heap.size w wr)
   (fun _ s8 _ => (intOf s8).toNat)
  case atStart => exact ⟨M, 8, [], rfl, rfl, rfl, by rw [HM.out]; exact H0.out, by simp, Blk.new w 140 (rowOf f 8 []), (Below.refl _ _).alloc (Nat.le_refl _) _⟩
  case round =>
   obtain ⟨m, j, ds, rfl, rfl, hj, hm, hd, hb, hbel⟩ := hrel
   have Hd := Lib.hid hd
   clear hd
   have hj1 : j ≤ 8 := by omega
   have Hj := Lib.hid hj
   clear hj
   have hsl := slice_row w.heap.size j hj1
   have hm2 : m < 18446744073709551616 := Nat.lt_of_lt_of_le hm (by rw [← pow8]; exact Nat.pow_le_pow_right (by decide) hj1)
   have hc : wr.cell? ⟨w.heap.size, j, none⟩ = some (.int .u8 0) := by rw [hb.cell]; simp [rowOf, List.getElem?_append]
   have hf := hb.frozen j
   rcases Nat.eq_zero_or_pos m with h | h
   ·
    subst h
    have hX := first_byte f j ds Hj.out
    have hrow := row_last f j ds Hj.out hb (by rw [Hd.out, digs_zero]; rfl) HM.out HF.out
    have hown' := own_below hown (hbel.setCell (p := ⟨w.heap.size, j, none⟩) (Nat.le_refl _) (.int .u8 (((UInt8.ofNat (128 + ds.length)) ^^^ f).toNat : Int)))
    have hbel' := hbel.setCell (p := ⟨w.heap.size, j, none⟩) (Nat.le_refl _) (.int .u8 (((UInt8.ofNat (128 + ds.length)) ^^^ f).toNat : Int))
    have hlen : (enc n).length = 9 - j := by rw [enc_len, ← HM.out, Hd.out, digs_zero]; simp; have := Hj.out; omega
    have Hrow := Lib.hid hrow
    have Hlen := Lib.hid hlen
    clear hrow hlen
    go_wp2_with (at_builtin; (refine wpList_append_own _ rfl (.tmp 35) (.tmp 37) 39 rfl B 5 i0 (.int .u8 0) 1 1 Tryd.underlying39 hi0 hz0 hz1 hz2 rfl (by decide) v k (B8 xs) rfl hown' ⟨w.heap.size, j, none⟩ (9 - j) (9 - j) (B8 (enc n)) rfl ?c0 ?c1 ?c2 ?c3 ?c4 ?c5 ?_))
    case c0 => rw [B8_len, Hlen.out]; omega
    case c1 => exact Hrow.out
    case c2 => exact B8_one _
    case c3 => unfold maxLen; omega
    case c4 => omega
    case c5 => exact Nat.le_trans hB hbel'.size
    ·
     intro v' w' ho hg _
     go_wp2
     rw [Exit.noGoto_ret]
     go_ret
     refine ⟨v', rfl, ?_, ?_⟩
     ·
      rw [Hlen.out, B8_append]; exact ho
     ·
      exact (hbel'.mono hB).grown hg (Nat.le_trans hB hbel'.size) (fun q hq => (hown.lt q hq).1)
   ·
    have hmne : ((m : Int) == 0) = false := by rw [beq_eq_false_iff_ne]; omega
    go_wp2_with fail
    go_roundw
    case rel => exact row_step f j m M ds Hj.out hm h Hd.out hb hbel
    case measure => simp only [intOf]; omega
end Go.Proofs.YtofccgkgjcnfbaaDoor
namespace Go.Proofs.YtofccgkgjcnfbaaDoor
namespace Wr
theorem val_pos (l : List UInt8) (c : UInt8) (h : l.head? = some c) (hc : c ≠ 0) : 0 < val l := by
 suffices hs : ∀ r : List UInt8, r.reverse.head? = some c → 0 < val r.reverse by
  have := hs l.reverse (by simpa using h); simpa using this
 intro r
 induction r with
 | nil => intro h; simp at h
 | cons d r ih =>
  intro h
  rw [List.reverse_cons] at h ⊢
  rw [val_snoc]
  cases hr : r.reverse with
  | nil =>
   rw [hr] at h
   simp at h
   subst h
   have : d.toNat ≠ 0 := fun e => hc (UInt8.toNat.inj (by simpa using e))
   omega
  | cons x y =>
   have := ih (by rw [hr] at h ⊢; simpa using h)
   rw [hr] at this
   omega
theorem digs_val (f : Nat) (l : List UInt8) (hf : l.length ≤ f) (hz : l.head? ≠ some 0) : digs f (val l) = l := by
 suffices hs : ∀ (r : List UInt8) (f : Nat), r.length ≤ f → r.reverse.head? ≠ some 0 → digs f (val r.reverse) = r.reverse by
  have := hs l.reverse f (by simpa using hf) (by simpa using hz); simpa using this
 intro r
 induction r with
 | nil => intro f _ _; simp [val, digs_zero]
 | cons d r ih =>
  intro f hf hz
  obtain ⟨f, rfl⟩ : ∃ f', f = f' + 1 := ⟨f - 1, by simp at hf; omega⟩
  rw [List.reverse_cons, val_snoc]
  have hd := d.toNat_lt
  have hne : val r.reverse * 256 + d.toNat ≠ 0 := by
   have hp : 0 < val (r.reverse ++ [d]) := by
    cases hh : (r.reverse ++ [d]).head? with
    | none => simp at hh
    | some c =>
     refine val_pos _ c hh ?_
     intro e
     subst e
     exact hz (by rw [List.reverse_cons]; exact hh)
   rw [val_snoc] at hp
   omega
  rw [digs_step _ _ hne]
  have e1 : (val r.reverse * 256 + d.toNat) / 256 = val r.reverse := by omega
  have e2 : (val r.reverse * 256 + d.toNat) % 256 = d.toNat := by omega
  rw [e1, e2, UInt8.ofNat_toNat]
  congr 1
  cases hr : r.reverse with
  | nil => simp [val, digs_zero]
  | cons x y =>
   rw [← hr]
   refine ih f (by simp at hf; omega) ?_
   rw [List.reverse_cons, hr] at hz
   rw [hr]
   simpa using hz
theorem digs_head (f m : Nat) (h : m < 256 ^ f) : (digs f m).head? ≠ some 0 := by
 induction f generalizing m with
 | zero => simp [digs]
 | succ f ih =>
  unfold digs
  split
  ·
   simp
  ·
   next h0 =>
   have h2 : m / 256 < 256 ^ f := by rw [Nat.div_lt_iff_lt_mul (by decide)]; rw [Nat.pow_succ] at h; omega
   have := ih _ h2
   cases hd : digs f (m / 256) with
   | nil =>
    have hv := val_digs f _ h2
    rw [hd] at hv
    simp [val] at hv
    simp only [List.nil_append, List.head?_cons, ne_eq, Option.some.injEq]
    intro e
    have := congrArg UInt8.toNat e
    simp at this
    omega
   | cons x y =>
    rw [hd] at this
    simpa using this
theorem xor_self_right (a f : UInt8) : a ^^^ f ^^^ f = a := by rw [UInt8.xor_assoc]; simp
theorem map_xor (l : List UInt8) (f : UInt8) : (l.map (· ^^^ f)).map (· ^^^ f) = l := by
 rw [List.map_map]
 conv => rhs; rw [← List.map_id l]
 apply List.map_congr_left
 intro x _
 exact xor_self_right x f
theorem fl_cases (n : Int) : fl n = 0 ∨ fl n = 255 := by unfold fl; split <;> simp
theorem head_facts (k : Nat) (hk : k ≤ 8) (f : UInt8) (hf : f = 0 ∨ f = 255) : flag (UInt8.ofNat (128 + k) ^^^ f) = f ∧ cnt (UInt8.ofNat (128 + k) ^^^ f) = k := by
 have h : ∀ k : Fin 9, (flag (UInt8.ofNat (128 + k.val) ^^^ 0) = 0 ∧ cnt (UInt8.ofNat (128 + k.val) ^^^ 0) = k.val) ∧ (flag (UInt8.ofNat (128 + k.val) ^^^ 255) = 255 ∧ cnt (UInt8.ofNat (128 + k.val) ^^^ 255) = k.val) := by decide +kernel
 have := h ⟨k, by omega⟩
 rcases hf with rfl | rfl
 ·
  exact this.1
 ·
  exact this.2
theorem int_back (n : Int) : (if fl n = 0 then (mag n : Int) else -1 - (mag n : Int)) = n := by
 unfold fl mag
 by_cases h : n < 0
 ·
  simp [h]; omega
 ·
  simp [h]; omega
theorem decInt_enc (n : Int) (t : List UInt8) (h0 : -9223372036854775808 ≤ n) (h1 : n ≤ 9223372036854775807) : decInt (enc n ++ t) = (n, (enc n).length, 0) := by
 have hm := mag_lt n h0 h1
 have hm8 := mag_lt8 n h0 h1
 have hk := digs_len 8 (mag n)
 have hh := head_facts _ hk (fl n) (fl_cases n)
 have he : enc n ++ t = (UInt8.ofNat (128 + (digs 8 (mag n)).length) ^^^ fl n) :: ((digs 8 (mag n)).map (· ^^^ fl n) ++ t) := by simp [enc]
 have ht : (((digs 8 (mag n)).map (· ^^^ fl n) ++ t).take (digs 8 (mag n)).length).map (· ^^^ fl n) = digs 8 (mag n) := by
  rw [List.take_left' (by simp), map_xor]
 rw [he, decInt_cons, hh.1, hh.2, if_neg (by omega), if_neg (by simp), ht, val_digs 8 _ hm8, if_neg, int_back, enc_len]
 rintro (⟨hp, hx⟩ | hx)
 ·
  have hz := digs_head 8 (mag n) hm8
  cases hd : digs 8 (mag n) with
  | nil => rw [hd] at hp; simp at hp
  | cons x y =>
   rw [hd] at hx hz
   simp only [List.map_cons, List.cons_append, List.head?_cons, Option.some.injEq] at hx
   apply hz
   rw [List.head?_cons]
   congr 1
   have := congrArg (· ^^^ fl n) hx
   simpa [xor_self_right] using this
 ·
  rw [maxI_lt] at hx; omega
theorem decInt_cut (n : Int) (i : Nat) (hi : i < (enc n).length) : decInt ((enc n).take i) = (0, 0, 3) := by
 cases i with
 | zero => rfl
 | succ i =>
  have hk := digs_len 8 (mag n)
  have hh := head_facts _ hk (fl n) (fl_cases n)
  rw [enc_len] at hi
  have he : (enc n).take (i + 1) = (UInt8.ofNat (128 + (digs 8 (mag n)).length) ^^^ fl n) :: ((digs 8 (mag n)).map (· ^^^ fl n)).take i := by simp [enc]
  rw [he, decInt_cons, hh.1, hh.2, if_neg (by omega), if_pos]
  simp
  omega
theorem decInt_back (b : List UInt8) (n : Int) (u : Nat) (h : decInt b = (n, u, 0)) :
  u ≤ b.length ∧ b.take u = enc n ∧ u = (enc n).length ∧ -9223372036854775808 ≤ n ∧ n ≤ 9223372036854775807 := by
 cases b with
 | nil => simp [decInt] at h
 | cons c t =>
  rw [decInt_cons] at h
  split at h
  ·
   simp at h
  split at h
  ·
   simp at h
  split at h
  ·
   simp at h
  next h8 hs hb =>
  simp only [Prod.mk.injEq, and_true] at h
  obtain ⟨hn, hu⟩ := h
  have hm : ¬ 9223372036854775807 < val ((t.take (cnt c)).map (· ^^^ flag c)) := fun e => hb (.inr e)
  have hz : ((t.take (cnt c)).map (· ^^^ flag c)).head? ≠ some 0 := by
   intro e
   apply hb
   left
   cases t with
   | nil => simp at e
   | cons x y =>
    cases hk : cnt c with
    | zero => rw [hk] at e; simp at e
    | succ k =>
     rw [hk] at e
     simp at e
     refine ⟨by omega, ?_⟩
     rw [List.head?_cons, e]
  have hl : ((t.take (cnt c)).map (· ^^^ flag c)).length = cnt c := by simp; omega
  have hmag : mag n = val ((t.take (cnt c)).map (· ^^^ flag c)) ∧ fl n = flag c := by
   rcases flag_cases c with ⟨hf, _⟩ | ⟨hf, _⟩
   ·
    rw [if_pos hf] at hn
    unfold mag fl
    rw [if_neg (by omega), if_neg (by omega)]
    exact ⟨by omega, hf.symm⟩
   ·
    rw [if_neg (by rw [hf]; decide)] at hn
    unfold mag fl
    rw [if_pos (by omega), if_pos (by omega)]
    exact ⟨by omega, hf.symm⟩
  have hd : digs 8 (mag n) = (t.take (cnt c)).map (· ^^^ flag c) := by
   rw [hmag.1]; exact digs_val 8 _ (by omega) hz
  have henc : enc n = c :: t.take (cnt c) := by
   have hc : UInt8.ofNat (128 + cnt c) = c ^^^ flag c := by
    apply UInt8.toNat.inj
    have h1 := cnt_eq c
    have h2 := (c ^^^ flag c).toNat_lt
    rw [h1, UInt8.toNat_ofNat']
    omega
   unfold enc
   rw [hd, hl, hmag.2, List.map_cons, map_xor, hc, xor_self_right]
  have hlen : (enc n).length = 1 + cnt c := by rw [henc]; simp; omega
  refine ⟨by simp; omega, by rw [henc, ← hu, Nat.add_comm]; simp, by omega, ?_, ?_⟩
  ·
   rw [← hn]; split <;> omega
  ·
   rw [← hn]; split <;> omega
theorem decInt_err (b : List UInt8) : (decInt b).2.2 = 0 ∨ decInt b = (0, 0, 2) ∨ decInt b = (0, 0, 3) := by
 cases b with
 | nil => exact .inr (.inr rfl)
 | cons c t =>
  rw [decInt_cons]
  split
  ·
   simp
  split
  ·
   simp
  split
  ·
   simp
  ·
   exact .inl rfl
theorem decInt_le (b : List UInt8) : (decInt b).2.1 ≤ b.length := by
 rcases decInt_err b with h | h | h
 ·
  exact (decInt_back b (decInt b).1 (decInt b).2.1 (Prod.ext rfl (Prod.ext rfl h))).1
 ·
  rw [h]; exact Nat.zero_le _
 ·
  rw [h]; exact Nat.zero_le _
end Wr
end Go.Proofs.YtofccgkgjcnfbaaDoor
