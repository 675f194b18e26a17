/-
  The reference: Decimal.
  No condition but the length.
-/
import Derived.Test.YtbfhilbagojdnaaGreatTn
import Derived.Deep.LoopGhost
namespace Go.Proofs.YtbfhilbagojdnaaGreat
open Go.RowKit Wr Go.Proofs.YtbfhilbagojdnaaGreat.Nm
set_option linter.unusedVariables false
set_option maxRecDepth 100000

def DmR (w : World) (x k : Nat) (s3 s4 : Value) (wr : World) : Prop := ∃ (y : Nat) (t : List UInt8), y = k ∧ Sl wr s4 (lim y) ∧ s3 = .string ⟨t.toArray⟩ ∧ decX y ++ t = decX x ∧ y ≤ x ∧ Below w.heap.size w wr
theorem bytes_cons (b : UInt8) (t : List UInt8) : ((⟨#[b]⟩ : ByteArray) ++ (⟨t.toArray⟩ : ByteArray)) = ⟨(b :: t).toArray⟩ := by
  apply ByteArray.ext
  simp
theorem one_str (w : World) (b : UInt8) : (convert 38 9 (.slice (some ⟨w.heap.size, 0, none⟩) 1 1)).run Tryz.prog (w.alloc (.cells #[.int .u8 (b.toNat : Int)] 5)) = .ok (.string ⟨#[b]⟩) (w.alloc (.cells #[.int .u8 (b.toNat : Int)] 5)) := by
  refine run_convert_bytes_back (P := Tryz.prog) _ 38 9 5 ⟨w.heap.size, 0, none⟩ _ [b] Tryz.underlying38 Tryz.underlying5 Tryz.underlying9 (fun j hj => ?_)
  have hj0 : j = 0 := by simpa using hj
  subst hj0
  rw [Addr.add_lit]
  exact (Blk.new w 5 [.int .u8 (b.toNat : Int)]).cell 0
theorem decX_ten {x n : Nat} (h : (lim x).length ≤ n) : (decX x).length ≤ 10 * n := by
  refine decX_len _ x ?_
  have h1 := lim_len.1 h
  calc x < 4294967296 ^ n := h1
    _ ≤ (10 ^ 10) ^ n := Nat.pow_le_pow_left (by decide) n
    _ = 10 ^ (10 * n) := (Nat.pow_mul 10 10 n).symm
set_option maxHeartbeats 2000000 in
theorem rdec_any {v : Value} {x : Nat} {w : World} (h : Sl w v (lim x)) (hl : (lim x).length ≤ 1000000) : Calls Tryz.prog 34 #[v] w fun e w' => e = .returned (.string ⟨(decS x).toArray⟩) ∧ Below w.heap.size w w' := by
  have HT := Lib.hid (trim_any h hl)
  obtain ⟨A, n, c, rfl⟩ := sl_form h
  have hn := sl_len h
  have HLX : Hid (∀ y, y ≤ x → (lim y).length ≤ 1000000) := Lib.hid (fun y hy => Nat.le_trans (lim_mono hy) hl)
  have HDL := Lib.hid (decX_ten hl)
  rcases Nat.eq_zero_or_pos x with h0 | h0
  · subst h0
    rw [lim_zero] at hn
    subst hn
    clear h hl HT HLX HDL
    go_enter Tryz.func34, Tryz.ntmps34
    go_wp2
    go_ret
    exact ⟨rfl, Below.refl _ _⟩
  · have hne : ((n : Int) == 0) = false := by
      rw [beq_eq_false_iff_ne]
      have := lim_pos x (by omega)
      have hz : n ≠ 0 := by rw [hn, this]; simp
      omega
    have HX0 := Lib.hid h0
    rw [dropz_lim] at HT
    clear h hl hn h0
    go_enter Tryz.func34, Tryz.ntmps34
    go_wp2_with (go_at_call 86; refine HT.out.mono ?_; rintro e w1 ⟨v1, rfl, hs, hb⟩)
    have HST := Lib.hid (show DmR w x x (.string ⟨#[]⟩) v1 w1 from ⟨x, [], rfl, hs, rfl, List.append_nil _, Nat.le_refl _, hb⟩)
    clear hs hb HT hne
    go_loopg [3, 4] x (fun k s3 s4 wr => DmR w x k s3 s4 wr)
    case atStart => exact HST.out
    case round =>
      clear HST
      obtain ⟨y, t, hk, hs, rfl, hd, hyx, hbel⟩ := hrel
      obtain ⟨A, n, c, rfl⟩ := sl_form hs
      have hn := sl_len hs
      rcases Nat.eq_zero_or_pos y with h0 | h0
      · subst h0
        rw [lim_zero] at hn
        subst hn
        rw [decX_zero, List.nil_append] at hd
        have HD := Lib.hid (show t = decS x by unfold decS; rw [if_neg (by have := HX0.out; omega)]; exact hd)
        have HB := Lib.hid hbel
        clear hs hd hk hyx hbel
        go_wp2
        go_ret
        exact ⟨by rw [← HD.out]; rfl, HB.out⟩
      · have hnI : (0 : Int) < (n : Int) := by have := lim_pos y (by omega); rw [this] at hn; simp at hn; omega
        have HTN := Lib.hid (tenth_any hs (lim_ok y) (HLX.out y hyx))
        have htl : t.length ≤ 10000000 := by have h := congrArg List.length hd; rw [List.length_append] at h; have := HDL.out; omega
        obtain ⟨d, hdd⟩ : ∃ d, d = y % 10 := ⟨_, rfl⟩
        obtain ⟨b, hb⟩ : ∃ b : UInt8, b = UInt8.ofNat (48 + y % 10) := ⟨_, rfl⟩
        have hbt : b.toNat = 48 + d := by rw [hb, hdd, UInt8.toNat_ofNat']; omega
        have hw : IntKind.u8.wrap (48 + (d : Int)) = (b.toNat : Int) := by rw [IntKind.wrap_u8']; omega
        have hw2 : IntKind.i64.wrap (48 + (d : Int)) = 48 + (d : Int) := IntWalk.i64_in _ (by omega)
        have HTN2 := Lib.hid (show Calls Tryz.prog 87 #[.slice A n c] wr (fun e w' => ∃ v, e = .returned (.tuple #[v, .int .i64 ((d : Nat) : Int)]) ∧ Sl w' v (lim (y / 10)) ∧ Below wr.heap.size wr w') by
          have h := HTN.out
          unfold TnP at h
          rw [num_lim, ← hdd] at h
          exact h)
        have HREL := Lib.hid (show decX (y / 10) ++ (b :: t) = decX x by rw [← hd, decX_pos (by omega : y ≠ 0), ← hb, List.append_assoc]; rfl)
        have HB := Lib.hid hbel; have HK := Lib.hid hk; have HY := Lib.hid (And.intro h0 hyx)
        clear hs hn hd hbel hk hyx hdd hb hbt h0 HTN
        go_wp2_with (go_at_call 87; refine HTN2.out.mono ?_; rintro e w2 ⟨v2, rfl, hs, hb⟩; have HS2 := Lib.hid hs; have HB2 := Lib.hid (below_step HB.out hb); clear hs hb; have hcv := one_str w2 b; have hap := bytes_cons b t)
        go_roundg (y / 10)
        case measure => have := HY.out; have := HK.out; omega
        case rel =>
          have hal := (Below.refl w2.heap.size w2).alloc (Nat.le_refl _) (.cells #[.int .u8 (b.toNat : Int)] 5)
          exact ⟨y / 10, b :: t, rfl, HS2.out.below hal, by first | rfl | rw [hap], HREL.out, by have := HY.out; omega, below_step HB2.out hal⟩
end Go.Proofs.YtbfhilbagojdnaaGreat
