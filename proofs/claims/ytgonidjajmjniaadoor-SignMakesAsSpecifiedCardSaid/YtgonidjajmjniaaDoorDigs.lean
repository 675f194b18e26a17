/-
  The digits of a digest, and the contract of sign's Digits.
  No condition.
-/
import Derived.Test.YtgonidjajmjniaaDoorDig
import Derived.Test.YtgonidjajmjniaaDoorMem
import Derived.StillTailTactics
import Derived.Lib.Hide
import Derived.IntWalk
import Derived.Outline
import Derived.BigQuiet
namespace Go.Proofs.YtgonidjajmjniaaDoor
open Go.RowKit Wr Sh
set_option linter.unusedVariables false
set_option maxRecDepth 100000

/-- A digit of the text. -/
def tdig (d : List UInt8) (i : Nat) : Nat := low (d.getD (i / 4) 0).toNat (3 - i % 4)
/-- What the first digits lack. -/
def lack (d : List UInt8) : Nat → Nat
  | 0 => 0
  | j + 1 => lack d j + (3 - tdig d j)
/-- A digit: of the text, or of the checksum. -/
def sdig (d : List UInt8) (i : Nat) : Nat := if i < 64 then tdig d i else low (lack d 64) (67 - i)
def digs (d : List UInt8) : List Nat := (List.range 68).map (sdig d)
/-- The cells of numbers. -/
def NI (l : List Nat) : List Value := l.map fun (n : Nat) => .int .i64 (n : Int)
/-- The first digits laid, the rest nought. -/
def fill (d : List UInt8) (j : Nat) : List Nat := (List.range j).map (sdig d) ++ List.replicate (68 - j) 0
theorem tdig_le (d : List UInt8) (i : Nat) : tdig d i ≤ 3 := low_le _ _
theorem sdig_le (d : List UInt8) (i : Nat) : sdig d i ≤ 3 := by unfold sdig; split <;> exact low_le _ _
theorem lack_le (d : List UInt8) (j : Nat) : lack d j ≤ 3 * j := by
  induction j with
  | zero => exact Nat.le_refl _
  | succ j ih => rw [lack]; omega
theorem fill_at (d : List UInt8) (j : Nat) (h : j < 68) : (NI (fill d j))[j]? = some (.int .i64 0) := by
  unfold NI fill
  rw [List.getElem?_map, List.getElem?_append_right (by simp)]
  simp [List.getElem?_replicate]
  omega
theorem fill_set (d : List UInt8) (j : Nat) (h : j < 68) : (NI (fill d j)).set j (.int .i64 (sdig d j : Nat)) = NI (fill d (j + 1)) := by
  unfold NI fill
  have e : 68 - j = (68 - (j + 1)) + 1 := by omega
  rw [List.range_succ, List.map_append (f := sdig d), e, List.replicate_succ, List.map_append, List.set_append_right _ _ (by simp)]
  simp
theorem fill_end (d : List UInt8) : fill d 68 = digs d := by simp [fill, digs]
theorem NI_0 : (List.replicate 68 (Value.int .i64 0)) = NI (fill [] 0) := by simp [NI, fill]
theorem fill_0 (d e : List UInt8) : fill d 0 = fill e 0 := rfl
theorem digs_len (d : List UInt8) : (digs d).length = 68 := by simp [digs]
theorem zero43 : ∀ W : World, (zeroValue 43).run Tryd.prog W = .ok (.agg (NI (fill [] 0)).toArray) W := fun _ => by kernel_rfl
theorem slice_h43 (g : Nat) (W : World) : (Instr.sliceAt 43 (.pointer (some ⟨g, 0, none⟩)) none (some (.int .i64 64)) none).run Tryd.prog W = .ok (.slice (some ⟨g, 0, none⟩) 64 68) W := by
  have h9 : Tryd.prog.arrayLen 43 = 68 := by kernel_rfl
  have he : Tryd.prog.elem 43 = 3 := by kernel_rfl
  have hu : Tryd.prog.underlying 43 = some (.array (Tryd.prog.arrayLen 43) (Tryd.prog.elem 43)) := by kernel_rfl
  have h5 : (sizeOf 3).run Tryd.prog W = .ok 1 W := by kernel_rfl
  rw [run_sliceAt_array_h W 43 ⟨g, 0, none⟩ hu .i64 (64 : Int) (by omega) (by rw [h9]; omega), he, h5, h9]
  simp [Result.andThen, slicedAt, Addr.add]
theorem slice_l43 (g : Nat) (W : World) : (Instr.sliceAt 43 (.pointer (some ⟨g, 0, none⟩)) (some (.int .i64 64)) none none).run Tryd.prog W = .ok (.slice (some ⟨g, 64, none⟩) 4 4) W := by
  have h9 : Tryd.prog.arrayLen 43 = 68 := by kernel_rfl
  have he : Tryd.prog.elem 43 = 3 := by kernel_rfl
  have hu : Tryd.prog.underlying 43 = some (.array (Tryd.prog.arrayLen 43) (Tryd.prog.elem 43)) := by kernel_rfl
  have h5 : (sizeOf 3).run Tryd.prog W = .ok 1 W := by kernel_rfl
  rw [run_sliceAt_array_l W 43 ⟨g, 0, none⟩ hu .i64 (64 : Int) (by omega) (by rw [h9]; omega), he, h5, h9]
  simp [Result.andThen, slicedAt, Addr.add]
theorem u8_getD (l : List UInt8) (j : Nat) (h : j < l.length) : (B8 l)[j]? = some (.int .u8 ((l.getD j 0).toNat : Int)) := by
  rw [B8_get l j h, List.getD_eq_getElem?_getD, List.getElem?_eq_getElem h]; rfl

set_option maxHeartbeats 4000000 in
theorem digits_any (d : List UInt8) (w : World) (hd : d.length = 16) :
    Calls Tryd.prog 10 #[.agg (B8 d).toArray] w fun e w' => ∃ g, e = .returned (.slice (some ⟨g, 0, none⟩) 68 68) ∧ Blk w' g 43 (NI (digs d)) ∧ w.heap.size ≤ g ∧ Below w.heap.size w w' := by
  have Hd := Lib.hid hd
  have hz := zero43
  have hs1 := slice_h43 (w.heap.size + 1)
  have hs2 := slice_l43 (w.heap.size + 1)
  clear hd
  go_enter Tryd.func10, Tryd.ntmps10
  go_wp2
  go_quiet (fail)
  go_wp2
  go_loopw [6, 13] (fun s6 s13 wr => ∃ j : Nat, j ≤ 64 ∧ s6 = .int .i64 (lack d j : Nat) ∧ s13 = .int .i64 j ∧ Blk wr w.heap.size 23 (B8 d) ∧ Blk wr (w.heap.size + 1) 43 (NI (fill d j)) ∧ Hid (Below w.heap.size w wr))
    (fun _ s13 _ => 64 - (intOf s13).toNat)
  case atStart =>
    refine ⟨0, by omega, rfl, rfl, ?_, ?_, Lib.hid ?_⟩
    · exact (Blk.new w 23 (B8 d)).alloc _
    · rw [fill_0 d []]; exact Blk.newAt _ _ 43 (NI (fill [] 0)) (by simp)
    · exact below_drewN (((Below.refl _ _).alloc (Nat.le_refl _) _).alloc (by simp) _) _
  case round =>
    obtain ⟨j, hj, rfl, rfl, b1, b2, hbel⟩ := hrel
    by_cases hlt : j < 64
    · obtain ⟨x, hx, c1⟩ : ∃ x : UInt8, x = d.getD (j / 4) 0 ∧ wr.cell? ⟨w.heap.size, j / 4, none⟩ = some (.int .u8 (x.toNat : Int)) := ⟨_, rfl, by rw [b1.cell, u8_getD d _ (by have := Hd.out; omega)]⟩
      obtain ⟨p, hp⟩ : ∃ p, p = 3 - j % 4 := ⟨_, rfl⟩
      obtain ⟨t, ht⟩ : ∃ t, t = sdig d j := ⟨_, rfl⟩
      obtain ⟨S, hS⟩ : ∃ S, S = lack d j := ⟨_, rfl⟩
      have q0 : wrap64 (x.toNat : Int) = (x.toNat : Int) := by have := x.toNat_lt; simp only [wrap64]; omega
      have q1 : IntKind.i64.wrap (3 - (j : Int) % 4) = (p : Int) := by rw [IntWalk.i64_in _ (by omega)]; omega
      have htl : t ≤ 3 := by rw [ht]; exact sdig_le d j
      have hSl : S ≤ 192 := by rw [hS]; have := lack_le d j; omega
      have HC := Lib.hid (show ∀ W, Calls Tryd.prog 21 #[.int .i64 (x.toNat : Int), .int .i64 (p : Int)] W fun e w' => e = .returned (.int .i64 (t : Nat)) ∧ W = w' from fun W => by
        have h := low_any x.toNat p W (by have := x.toNat_lt; omega) (by omega)
        rw [ht, show sdig d j = low x.toNat p by unfold sdig; rw [if_pos hlt, tdig, hx, hp]]; exact h)
      have c2 : wr.cell? ⟨w.heap.size + 1, j, none⟩ = some (.int .i64 0) := by rw [b2.cell]; exact fill_at d j (by omega)
      have f2 : wr.frozen? ⟨w.heap.size + 1, j, none⟩ = false := b2.frozen j
      have q2 : IntKind.i64.wrap (3 - (t : Int)) = 3 - (t : Int) := IntWalk.i64_in _ (by omega)
      have q3 : IntKind.i64.wrap ((S : Int) + (3 - (t : Int))) = (S : Int) + (3 - (t : Int)) := IntWalk.i64_in _ (by omega)
      have H0 := Lib.hid (And.intro ht hS)
      rw [← hS]
      clear hx hp ht hS
      go_wp2_with fail
      refine (HC.out _).mono ?_; rintro e w' ⟨rfl, rfl⟩
      go_wp2_with fail
      go_roundw
      case rel =>
        obtain ⟨ht, hS⟩ := H0.out
        refine ⟨j + 1, by omega, ?_, by go_num, b1.far (by simp) _, ?_, Lib.hid (hbel.out.setCell (by simp) _)⟩
        · rw [lack, ← hS, show tdig d j = t by rw [ht, sdig, if_pos hlt]]; go_num
        · have := b2.put j (.int .i64 (sdig d j : Nat))
          rw [fill_set d j (by omega), ← ht] at this
          exact this
      case measure => simp only [intOf]; omega
    · obtain rfl : j = 64 := by omega
      obtain ⟨S, hS⟩ : ∃ S, S = lack d 64 := ⟨_, rfl⟩
      have hSl : S ≤ 192 := by rw [hS]; exact lack_le d 64
      have HS := Lib.hid hS
      rw [← hS]
      have hl : (4 : Int) < 68 := by omega
      clear hS
      go_wp2_with fail
      go_loopw [38] (fun s38 wq => ∃ j : Nat, j ≤ 4 ∧ s38 = .int .i64 j ∧ Blk wq (w.heap.size + 1) 43 (NI (fill d (64 + j))) ∧ Hid (Below w.heap.size w wq))
        (fun s38 _ => 4 - (intOf s38).toNat)
      case atStart => exact ⟨0, by omega, rfl, b2, hbel⟩
      case round =>
        obtain ⟨j, hj, rfl, b2, hbel⟩ := hrel
        by_cases hlt : j < 4
        · obtain ⟨p, hp⟩ : ∃ p, p = 3 - j := ⟨_, rfl⟩
          obtain ⟨t, ht⟩ : ∃ t, t = sdig d (64 + j) := ⟨_, rfl⟩
          have q1 : IntKind.i64.wrap (3 - (j : Int)) = (p : Int) := by rw [IntWalk.i64_in _ (by omega)]; omega
          have HC := Lib.hid (show ∀ W, Calls Tryd.prog 21 #[.int .i64 (S : Int), .int .i64 (p : Int)] W fun e w' => e = .returned (.int .i64 (t : Nat)) ∧ W = w' from fun W => by
            have h := low_any S p W (by omega) (by omega)
            rw [ht, show sdig d (64 + j) = low S p by unfold sdig; rw [if_neg (by omega), HS.out, hp, show 67 - (64 + j) = 3 - j by omega]]; exact h)
          have c2 : wr.cell? ⟨w.heap.size + 1, 64 + j, none⟩ = some (.int .i64 0) := by rw [b2.cell]; exact fill_at d _ (by omega)
          have f2 : wr.frozen? ⟨w.heap.size + 1, 64 + j, none⟩ = false := b2.frozen _
          have H0 := Lib.hid ht
          clear hp ht
          go_wp2_with fail
          refine (HC.out _).mono ?_; rintro e w' ⟨rfl, rfl⟩
          go_wp2_with fail
          go_roundw
          case rel =>
            have h1 : ∃ i : Nat, i ≤ 4 ∧ Value.int .i64 ((j : Int) + 1) = .int .i64 (i : Int) ∧ Blk (wr.setCell ⟨w.heap.size + 1, 64 + j, none⟩ (.int .i64 (t : Int))) (w.heap.size + 1) 43 (NI (fill d (64 + i))) ∧
                Hid (Below w.heap.size w (wr.setCell ⟨w.heap.size + 1, 64 + j, none⟩ (.int .i64 (t : Int)))) := by
              refine ⟨j + 1, by omega, by go_num, ?_, Lib.hid (hbel.out.setCell (by simp) _)⟩
              have := b2.put (64 + j) (.int .i64 (sdig d (64 + j) : Nat))
              rw [fill_set d (64 + j) (by omega), ← H0.out] at this
              exact this
            (repeat apply Exists.intro); exact ⟨h1, rfl⟩
          case measure => simp [intOf]; omega
        · obtain rfl : j = 4 := by omega
          go_wp2_with fail
          go_ret
          exact ⟨w.heap.size + 1, rfl, by rw [← fill_end]; exact b2, by omega, hbel.out⟩
end Go.Proofs.YtgonidjajmjniaaDoor
