/-
  The contracts of the reference's Bytes32 and Text, and of the law's hex.
  No condition but the lengths.
-/
import Derived.Test.YtgonidjajmjniaaDoorMac
namespace Go.Proofs.YtgonidjajmjniaaDoor
open Go.RowKit Wr Sh
set_option linter.unusedVariables false
set_option maxRecDepth 100000
theorem own_bytes {w : World} {B : Nat} {v : Value} {l : List UInt8} (h : w.ownsRow B 5 1 v l.length (B8 l)) :
    (convert 54 9 v).run Tryd.prog w = .ok (.string ⟨l.toArray⟩) w ∨ l = [] := by
  rcases l with _ | ⟨x, l⟩
  · exact .inr rfl
  · left
    obtain ⟨A, c, rfl, _, _, hr⟩ := own_form h
    obtain ⟨g, o, rfl, hg, hc⟩ := hr (by simp [B8])
    exact run_convert_bytes_back (P := Tryd.prog) w 54 9 5 ⟨g, o, none⟩ c (x :: l) Tryd.underlying54 Tryd.underlying5 Tryd.underlying9 (fun j hj => by rw [Addr.add_lit]; exact hc j _ (B8_get _ _ hj))

set_option maxRecDepth 100000 in
set_option maxHeartbeats 4000000 in
theorem bytes32_any (h : List UInt8) (w : World) (hl : h.length = 32) :
    Calls Tryd.prog 63 #[.agg (B8 h).toArray] w fun e w' => e = .returned (.string ⟨h.toArray⟩) ∧ Below w.heap.size w w' := by
  obtain ⟨i0, hi0, hz0, hz1, hz2⟩ := info_parts Tryd.info5
  have HL := Lib.hid hl
  clear hl
  have HB0 := Lib.hid ((Below.refl w.heap.size w).alloc (Nat.le_refl _) (.cells (B8 h).toArray 85))
  have F0 := Blk.new w 85 (B8 h)
  go_enter Tryd.func63, Tryd.ntmps63
  go_wp2
  generalize w.alloc _ = W1 at HB0 F0 ⊢
  obtain ⟨N, hN⟩ : ∃ N, N = w.heap.size := ⟨_, rfl⟩
  have hNW : N < W1.heap.size := by rw [hN]; exact F0.lt
  rw [← hN] at F0 ⊢
  have HN := Lib.hid hN
  clear hN
  go_loopw [3, 4] (fun s3 s4 wr => ∃ i : Nat, i ≤ 32 ∧ s4 = .int .i64 i ∧ Blk wr N 85 (B8 h) ∧ wr.ownsRow (N + 1) 5 1 s3 i (B8 (h.take i)) ∧ Hid (Below w.heap.size w wr))
    (fun _ s4 _ => 32 - (intOf s4).toNat)
  case atStart => exact ⟨0, by omega, rfl, F0, World.ownsRow_nil _ _ _ _, HB0⟩
  case round =>
  clear F0 HB0
  obtain ⟨i, hi, rfl, f0, hown, HB⟩ := hrel
  by_cases hlt : i < 32
  · have hil : i < h.length := by have := HL.out; omega
    obtain ⟨x, hx⟩ : ∃ x, x = h[i] := ⟨_, rfl⟩
    have ci : wr.cell? ⟨N, i, none⟩ = some (.int .u8 (x.toNat : Int)) := by rw [f0.cell, B8_get _ _ hil, hx]
    have htk : Hid (h.take (i + 1) = h.take i ++ [x]) := Lib.hid (by rw [List.take_succ_eq_append_getElem hil, hx])
    have hNwr : N + 1 ≤ wr.heap.size := f0.lt
    clear hx
    go_wp2_with (at_builtin; (refine wpList_append_own _ rfl (.tmp 9) (.tmp 13) 54 rfl (N + 1) 5 i0 (.int .u8 0) 1 1 Tryd.underlying54 hi0 hz0 hz1 hz2 rfl (by decide) u3 i (B8 (h.take i)) rfl (hown.alloc _) ⟨wr.heap.size, 0, none⟩ 1 1 (B8 [x]) rfl ?c0 ?c1 ?c2 ?c3 ?c4 ?c5 ?_))
    case c0 => rfl
    case c1 =>
      intro j u hu
      rw [Addr.add_lit, Nat.zero_add, cell_of_row _ _ _ _ _ _ (heap_alloc_new wr _)]
      simpa [B8] using hu
    case c2 => exact B8_one _
    case c3 => unfold maxLen; omega
    case c4 => omega
    case c5 => simp; omega
    · intro v' w1 hown1 hgrow _
      have g0 : Blk w1 N 85 (B8 h) := (f0.alloc _).grown hgrow (fun e => by have := (hown.lt _ e.symm).1; omega)
      have hbel : Hid (Below w.heap.size w w1) := Lib.hid ((HB.out.alloc (by have := HN.out; omega) _).grown hgrow (by have := HN.out; simp; omega) (fun q hq => by have := (hown.lt _ hq).1; have := HN.out; omega))
      rw [← B8_append] at hown1
      have hown2 := hown1
      rw [← htk.out] at hown2
      clear hown hown1 hgrow f0 HB ci
      go_wp2
      go_roundw
      case rel => exact ⟨i + 1, by omega, by go_num, g0, hown2, hbel⟩
      case measure => simp only [intOf]; omega
  · have hfull : h.take i = h := List.take_of_length_le (by have := HL.out; omega)
    have hi32 : i = h.length := by have := HL.out; omega
    rw [hfull, hi32] at hown
    have hcv : (convert 54 9 u3).run Tryd.prog wr = .ok (.string ⟨h.toArray⟩) wr := by
      rcases own_bytes hown with h1 | h1
      · exact h1
      · have := HL.out; rw [h1] at this; simp at this
    have hbel := HB.out
    clear hown hfull f0 HB hi32
    go_wp2
    go_ret
    exact ⟨rfl, hbel⟩

set_option maxRecDepth 100000 in
set_option maxHeartbeats 4000000 in
theorem text_any (h : List UInt8) (w : World) (hl : h.length = 16) :
    Calls Tryd.prog 32 #[.agg (B8 h).toArray] w fun e w' => e = .returned (.string ⟨h.toArray⟩) ∧ Below w.heap.size w w' := by
  obtain ⟨i0, hi0, hz0, hz1, hz2⟩ := info_parts Tryd.info5
  have HL := Lib.hid hl
  clear hl
  have HB0 := Lib.hid ((Below.refl w.heap.size w).alloc (Nat.le_refl _) (.cells (B8 h).toArray 23))
  have F0 := Blk.new w 23 (B8 h)
  go_enter Tryd.func32, Tryd.ntmps32
  go_wp2
  generalize w.alloc _ = W1 at HB0 F0 ⊢
  obtain ⟨N, hN⟩ : ∃ N, N = w.heap.size := ⟨_, rfl⟩
  have hNW : N < W1.heap.size := by rw [hN]; exact F0.lt
  rw [← hN] at F0 ⊢
  have HN := Lib.hid hN
  clear hN
  go_loopw [3, 4] (fun s3 s4 wr => ∃ i : Nat, i ≤ 16 ∧ s4 = .int .i64 i ∧ Blk wr N 23 (B8 h) ∧ wr.ownsRow (N + 1) 5 1 s3 i (B8 (h.take i)) ∧ Hid (Below w.heap.size w wr))
    (fun _ s4 _ => 16 - (intOf s4).toNat)
  case atStart => exact ⟨0, by omega, rfl, F0, World.ownsRow_nil _ _ _ _, HB0⟩
  case round =>
  clear F0 HB0
  obtain ⟨i, hi, rfl, f0, hown, HB⟩ := hrel
  by_cases hlt : i < 16
  · have hil : i < h.length := by have := HL.out; omega
    obtain ⟨x, hx⟩ : ∃ x, x = h[i] := ⟨_, rfl⟩
    have ci : wr.cell? ⟨N, i, none⟩ = some (.int .u8 (x.toNat : Int)) := by rw [f0.cell, B8_get _ _ hil, hx]
    have htk : Hid (h.take (i + 1) = h.take i ++ [x]) := Lib.hid (by rw [List.take_succ_eq_append_getElem hil, hx])
    have hNwr : N + 1 ≤ wr.heap.size := f0.lt
    clear hx
    go_wp2_with (at_builtin; (refine wpList_append_own _ rfl (.tmp 9) (.tmp 13) 54 rfl (N + 1) 5 i0 (.int .u8 0) 1 1 Tryd.underlying54 hi0 hz0 hz1 hz2 rfl (by decide) u3 i (B8 (h.take i)) rfl (hown.alloc _) ⟨wr.heap.size, 0, none⟩ 1 1 (B8 [x]) rfl ?c0 ?c1 ?c2 ?c3 ?c4 ?c5 ?_))
    case c0 => rfl
    case c1 =>
      intro j u hu
      rw [Addr.add_lit, Nat.zero_add, cell_of_row _ _ _ _ _ _ (heap_alloc_new wr _)]
      simpa [B8] using hu
    case c2 => exact B8_one _
    case c3 => unfold maxLen; omega
    case c4 => omega
    case c5 => simp; omega
    · intro v' w1 hown1 hgrow _
      have g0 : Blk w1 N 23 (B8 h) := (f0.alloc _).grown hgrow (fun e => by have := (hown.lt _ e.symm).1; omega)
      have hbel : Hid (Below w.heap.size w w1) := Lib.hid ((HB.out.alloc (by have := HN.out; omega) _).grown hgrow (by have := HN.out; simp; omega) (fun q hq => by have := (hown.lt _ hq).1; have := HN.out; omega))
      rw [← B8_append] at hown1
      have hown2 := hown1
      rw [← htk.out] at hown2
      clear hown hown1 hgrow f0 HB ci
      go_wp2
      go_roundw
      case rel => exact ⟨i + 1, by omega, by go_num, g0, hown2, hbel⟩
      case measure => simp only [intOf]; omega
  · have hfull : h.take i = h := List.take_of_length_le (by have := HL.out; omega)
    have hi32 : i = h.length := by have := HL.out; omega
    rw [hfull, hi32] at hown
    have hcv : (convert 54 9 u3).run Tryd.prog wr = .ok (.string ⟨h.toArray⟩) wr := by
      rcases own_bytes hown with h1 | h1
      · exact h1
      · have := HL.out; rw [h1] at this; simp at this
    have hbel := HB.out
    clear hown hfull f0 HB hi32
    go_wp2
    go_ret
    exact ⟨rfl, hbel⟩
end Go.Proofs.YtgonidjajmjniaaDoor
