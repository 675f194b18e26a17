/-
  The contract of the reference's padded.
  Condition: the slice is no longer than a machine's.
-/
import Derived.Test.YtfagpeacilfaaaaDoorRWords
import Derived.Test.YtfagpeacilfaaaaDoorOf
import Derived.Lib.AppendZeros
import Derived.OwnWalk
namespace Go.Proofs.YtfagpeacilfaaaaDoor
open Go.RowKit Wr Sh
set_option linter.unusedVariables false

/-- An append of a slice of bytes that can be read, nil or not, to a slice of the call's own. -/
theorem wpList_append_rd {w : World} {ops : Array Oper} {rest : List Oper} {o : Oper} {a : Act} {Q : Exit → Act → World → Prop} (hgd : o.guard = none) (s x : Operand)
    (ho : o.op = .call { callee := .builtin .append, args := #[s, x], argTypes := #[22, 22] })
    (base : Nat) (v : Value) (n : Nat) (xs : List Value) (hs : a.eval s = v) (hown : w.ownsRow base 5 1 v n xs)
    (A : Option Addr) (m c B : Nat) (news : List UInt8) (hx : a.eval x = .slice A m c) (hnil : A = none → c = 0) (hl : news.length = m) (hr : Rd w B A (B8 news))
    (hbytes : n + m ≤ 140737488355328) (hbase : base ≤ w.heap.size)
    (h : ∀ v' w', w'.ownsRow base 5 1 v' (n + m) (xs ++ B8 news) → w.grownBy w' v.ownBlock → wpList Tryd.prog ops Q rest (a.put o.dst v') w') : wpList Tryd.prog ops Q (o :: rest) a w := by
  obtain ⟨i0, hi0, hz0, hz1, hz2⟩ := info_parts Tryd.info5
  by_cases hne : B8 news = []
  · have hm : m = 0 := by rw [← hl, ← B8_len, hne]; rfl
    clear hl; subst hm
    cases A with
    | none =>
      have hc := hnil rfl
      subst hc
      refine Lib.wpList_append_run w hgd s x 22 22 ho v _ hs hx v w (run_append_owned_none w base 22 _ 5 i0 1 Tryd.underlying22 hi0 v n xs hown) (h v w ?_ (World.grownBy.refl _ _))
      rw [hne, List.append_nil, Nat.add_zero]; exact hown
    | some ad =>
      exact wpList_append_own w hgd s x 22 ho base 5 i0 (.int .u8 0) 1 1 Tryd.underlying22 hi0 hz0 hz1 hz2 rfl (by decide) v n xs hs hown ad 0 c (B8 news) hx (by rw [hne]; rfl) (fun j u hu => by rw [hne] at hu; simp at hu) (B8_one _) (by unfold maxLen; omega) (by omega) hbase (fun v' w' h1 h2 _ => h v' w' h1 h2)
  · obtain ⟨g, off, rfl, hg, hcell⟩ := hr hne
    exact wpList_append_own w hgd s x 22 ho base 5 i0 (.int .u8 0) 1 1 Tryd.underlying22 hi0 hz0 hz1 hz2 rfl (by decide) v n xs hs hown ⟨g, off, none⟩ m c (B8 news) hx (by rw [B8_len, hl, Nat.mul_one]) (fun j u hu => by rw [Addr.add_lit]; exact hcell j u hu) (B8_one _) (by unfold maxLen; omega) (by omega) hbase (fun v' w' h1 h2 _ => h v' w' h1 h2)

/-- An append of one byte, written as a literal. -/
theorem rd_lit (w : World) (x : UInt8) : Rd (w.alloc (.cells #[.int .u8 (x.toNat : Int)] 5)) (w.heap.size + 1) (some ⟨w.heap.size, 0, none⟩) (B8 [x]) := by
  intro _
  refine ⟨w.heap.size, 0, rfl, by simp, fun j u hu => ?_⟩
  rw [Nat.zero_add, cell_of_row _ _ _ _ _ _ (heap_alloc_new w _)]
  simpa [B8] using hu
def lenOf : Value → Nat
  | .slice _ n _ => n
  | _ => 0
theorem lenOf_own {w : World} {base e size n : Nat} {v : Value} {xs : List Value} (h : w.ownsRow base e size v n xs) : lenOf v = n := by
  obtain ⟨A, c, rfl, _⟩ := own_form h
  rfl

set_option maxRecDepth 100000 in
set_option maxHeartbeats 4000000 in
theorem padded_go (b : List UInt8) (A : Option Addr) (c : Nat) (w : World) (hb : b.length ≤ 1099511627776) (hr : Rd w w.heap.size A (B8 b)) (hnil : A = none → c = 0) :
    Calls Tryd.prog 28 #[.slice A b.length c] w fun e w' => ∃ v', e = .returned v' ∧ w'.ownsRow w.heap.size 5 1 v' (pad b).length (B8 (pad b)) ∧ Below w.heap.size w w' := by
  obtain ⟨N, hN⟩ : ∃ N, N = b.length := ⟨_, rfl⟩
  rw [← hN] at hb ⊢
  have HN := Lib.hid hN
  have Hr := Lib.hid hr
  have HNil := Lib.hid hnil
  have HO := Lib.hid (World.ownsRow_lit (base := w.heap.size) (e := 5) (size := 1) w #[] 0 (Nat.le_refl _) (by decide) rfl)
  have HB0 := Lib.hid ((Below.refl w.heap.size w).alloc (Nat.le_refl _) (.cells #[] 5))
  clear hN hr hnil
  go_enter Tryd.func28, Tryd.ntmps28
  go_wp2_with (first
    | (at_builtin; refine wpList_append_rd rfl (.tmp 6) (.tmp 7) rfl w.heap.size _ 0 [] rfl HO.out A N c w.heap.size b rfl HNil.out HN.out.symm (Hr.out.below HB0.out) (by omega) HB0.out.size ?_; intro v1 w1 ho1 hg1; have HO1 := Lib.hid (show w1.ownsRow w.heap.size 5 1 v1 N (B8 b) by simpa using ho1); have HB1 := Lib.hid (HB0.out.grown hg1 HB0.out.size (fun q hq => (HO.out.lt q hq).1)); clear ho1 hg1)
    | (at_builtin; refine wpList_append_rd rfl (.tmp 9) (.tmp 10) rfl w.heap.size v1 N (B8 b) rfl (HO1.out.alloc _) (some ⟨w1.heap.size, 0, none⟩) 1 1 _ [128] rfl (fun h => by cases h) rfl (rd_lit w1 128) (by omega) (by have := HB1.out.size; simp; omega) ?_; intro v2 w2 ho2 hg2; have HO2 := Lib.hid (show w2.ownsRow w.heap.size 5 1 v2 (N + 1 + 0) (B8 (b ++ (128 :: List.replicate 0 0))) by rw [B8_append]; exact ho2); have HB2 := Lib.hid ((HB1.out.alloc HB1.out.size (.cells #[.int .u8 128] 5)).grown hg2 (HB1.out.alloc HB1.out.size _).size (fun q hq => (HO1.out.lt q hq).1)); clear ho2 hg2))
  obtain ⟨Z, hZ⟩ : ∃ Z, Z = noughts N := ⟨_, rfl⟩
  have hZ' : Z = (119 - N % 64) % 64 := hZ
  go_loopw [3] (fun s3 wr => ∃ k z : Nat, k = N + 1 + z ∧ z ≤ Z ∧ wr.ownsRow w.heap.size 5 1 s3 k (B8 (b ++ (128 :: List.replicate z 0))) ∧ Hid (Below w.heap.size w wr))
    (fun s3 _ => N + 1 + Z - lenOf s3)
  case atStart => exact ⟨N + 1 + 0, 0, rfl, by omega, HO2.out, HB2⟩
  case round =>
  clear HO HB0 HO1 HB1 HO2 HB2
  obtain ⟨k, z, hk, hz, ho3, HB3⟩ := hrel
  obtain ⟨A3, c3, rfl, _, _, _⟩ := own_form ho3
  have HO3 := Lib.hid ho3
  clear ho3
  by_cases hlt : z < Z
  · have hne : ((k : Int) % 64 == 56) = false := by rw [beq_eq_false_iff_ne]; omega
    have hne' : ¬ ((k : Int) % 64 = 56) := by omega
    have HK := Lib.hid hk
    clear hk
    go_wp2_with (at_builtin; refine wpList_append_rd rfl (.tmp 16) (.tmp 17) rfl w.heap.size _ k _ rfl (HO3.out.alloc _) (some ⟨wr.heap.size, 0, none⟩) 1 1 _ [0] rfl (fun h => by cases h) rfl (rd_lit wr 0) (by have := HK.out; omega) (by have := HB3.out.size; simp; omega) ?_; intro v4 w4 ho4 hg4; have HO4 := Lib.hid ho4; have HB4 := Lib.hid ((HB3.out.alloc HB3.out.size (.cells #[.int .u8 0] 5)).grown hg4 (HB3.out.alloc HB3.out.size _).size (fun q hq => (HO3.out.lt q hq).1)); clear ho4 hg4)
    go_roundw
    case rel =>
      refine ⟨k + 1, z + 1, by have := HK.out; omega, hlt, ?_, HB4⟩
      have := HO4.out
      rw [← B8_append, List.append_assoc, List.cons_append, ← List.replicate_succ'] at this
      exact this
    case measure =>
      have := lenOf_own HO4.out
      have := HK.out
      simp only [lenOf] at *
      omega
  · obtain rfl : z = Z := by omega
    have hne : ((k : Int) % 64 == 56) = true := by rw [beq_iff_eq]; omega
    have hne' : ((k : Int) % 64 = 56) := by omega
    have hown0 := HO3.out
    have HZ := Lib.hid hZ
    have HZ2 := Lib.hid hZ'
    have HK0 := Lib.hid hk
    clear hlt hz hne hZ hZ' hk
    go_wp2_with fail
    go_loopw [3, 5] (fun s3 s5 wr => ∃ k i : Nat, k = N + 1 + z + i ∧ i ≤ 8 ∧ s5 = .int .i64 i ∧ wr.ownsRow w.heap.size 5 1 s3 k (B8 (b ++ (128 :: (List.replicate z 0 ++ (be8 (8 * N)).take i)))) ∧ Hid (Below w.heap.size w wr))
      (fun _ s5 _ => 8 - (intOf s5).toNat)
    case atStart => exact ⟨k, 0, by have := HK0.out; omega, by omega, rfl, by simpa using hown0, HB3⟩
    case round =>
    clear HO3 HB3 hown0 hne' HK0
    obtain ⟨k, i, hk, hi, rfl, ho3, HB3⟩ := hrel
    obtain ⟨A5, c5, rfl, _, _, _⟩ := own_form ho3
    have HO3 := Lib.hid ho3
    have HK := Lib.hid hk
    have HKB := Lib.hid (show k ≤ 1099511627776 + 100 by have := HZ2.out; omega)
    clear ho3 hk
    by_cases hlt : i < 8
    · obtain ⟨x, hx⟩ : ∃ x, x = (8 * N) >>> (56 - 8 * i) := ⟨_, rfl⟩
      have hu8 : (8 * (N : Int)) / 2 ^ (56 - 8 * i) % 256 = ((UInt8.ofNat x).toNat : Int) := by rw [Int.mul_comm]; exact shift_n N i x hx
      obtain ⟨y, hy⟩ : ∃ y, y = UInt8.ofNat x := ⟨_, rfl⟩
      rw [← hy] at hu8
      have HX := Lib.hid hx
      have HY := Lib.hid hy
      clear hx hy
      go_wp2_with (at_builtin; refine wpList_append_rd rfl (.tmp 27) (.tmp 34) rfl w.heap.size _ k _ rfl (HO3.out.alloc _) (some ⟨wr.heap.size, 0, none⟩) 1 1 _ [y] rfl (fun h => by cases h) rfl (rd_lit wr (y)) (by have := HKB.out; omega) (by have := HB3.out.size; simp; omega) ?_; intro v4 w4 ho4 hg4; have HO4 := Lib.hid ho4; have HB4 := Lib.hid ((HB3.out.alloc HB3.out.size (.cells #[.int .u8 (y.toNat : Int)] 5)).grown hg4 (HB3.out.alloc HB3.out.size _).size (fun q hq => (HO3.out.lt q hq).1)); clear ho4 hg4)
      go_roundw
      case rel =>
        refine ⟨k + 1, i + 1, by have := HK.out; omega, hlt, by go_num, ?_, HB4⟩
        have := HO4.out
        have ht : (be8 (8 * N)).take (i + 1) = (be8 (8 * N)).take i ++ [y] := by
          rw [List.take_succ_eq_append_getElem (by rw [be8_len]; exact hlt)]
          congr 2
          rw [HY.out, HX.out]; simp [be8]
        rw [ht]
        rw [← B8_append] at this
        simpa using this
      case measure => simp only [intOf]; omega
    · obtain rfl : i = 8 := by omega
      go_wp2_with fail
      go_ret
      have hp : pad b = b ++ (128 :: (List.replicate z 0 ++ (be8 (8 * N)).take 8)) := by
        rw [List.take_of_length_le (by rw [be8_len]; exact Nat.le_refl _)]; unfold pad tail; rw [← HN.out, ← HZ.out]
      refine ⟨_, rfl, ?_, HB3.out⟩
      have hl : (pad b).length = k := by rw [hp, HK.out]; simp [be8_len]; have := HN.out; omega
      rw [hl, hp]; exact HO3.out
end Go.Proofs.YtfagpeacilfaaaaDoor
