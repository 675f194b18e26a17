/-
  Contracts and words of several parts of the program (Sched, Comp, Str, Ext), one after the other.
  Conditions: those that each says.
-/
import Derived.Test.YtofccgkgjcnfbaaDoorZ
import Derived.Test.YtofccgkgjcnfbaaDoorGBitsRotShaMem
import Derived.StillTailTactics
import Derived.Lib.Hide
import Derived.IntWalk
import Derived.Outline
import Derived.Laws.CopyOwn
set_option linter.unusedSimpArgs false
namespace Go.Proofs.YtofccgkgjcnfbaaDoor
open Go.RowKit Wr Sh
set_option linter.unusedVariables false
def U32 (l : List W) : List Value := l.map fun x => .int .u32 (val x)
theorem B8_getD (l : List UInt8) (j : Nat) (h : j < l.length) : (B8 l)[j]? = some (.int .u8 ((l.getD j 0).toNat : Int)) := by
 rw [B8_get l j h, List.getD_eq_getElem?_getD, List.getElem?_eq_getElem h]; rfl
theorem U32_len (l : List W) : (U32 l).length = l.length := by simp [U32]
theorem U32_one (l : List W) : (U32 l).toArray.all (·.oneCell') = true := by
 simp only [List.all_toArray, List.all_eq_true]
 intro u hu
 obtain ⟨_, _, rfl⟩ := List.mem_map.1 hu
 rfl
theorem size55 (l : List W) (h : l.length = 64) : (Tryd.prog.info? 160).map (·.size) = some (U32 l).length := by
 rw [U32_len, h]; kernel_rfl
theorem size55' (l : List W) (h : l.length = 64) : (Tryd.prog.info? 160).map (·.size) = some (U32 l).toArray.size := size55 l h
def part1 (b : List UInt8) (j : Nat) : List W := (List.range j).map (be b) ++ List.replicate (64 - j) 0
theorem part1_at (b : List UInt8) (j : Nat) (h : j < 16) : (U32 (part1 b j))[j]? = some (.int .u32 0) := by
 unfold U32 part1
 rw [List.getElem?_map, List.getElem?_append_right (by simp)]
 simp [List.getElem?_replicate, val]
 omega
theorem part1_set (b : List UInt8) (j : Nat) (h : j < 16) : (U32 (part1 b j)).set j (.int .u32 (val (be b j))) = U32 (part1 b (j + 1)) := by
 unfold U32 part1
 have e : 64 - j = (64 - (j + 1)) + 1 := by omega
 rw [List.range_succ, List.map_append (f := be b), e, List.replicate_succ, List.map_append, List.set_append_right _ _ (by simp)]
 simp
theorem wl_len (b : List UInt8) (n : Nat) : (wl b n).length = 16 + n := by
 induction n with
 | zero => simp [wl]
 | succ n ih => simp [wl, ih]; omega
def part2 (b : List UInt8) (n : Nat) : List W := wl b n ++ List.replicate (48 - n) 0
theorem part12 (b : List UInt8) : part1 b 16 = part2 b 0 := rfl
theorem part2_end (b : List UInt8) : part2 b 48 = sched b := by simp [part2, sched]
theorem part2_get (b : List UInt8) (n t : Nat) (h : t < 16 + n) : (U32 (part2 b n))[t]? = some (.int .u32 (val ((wl b n).getD t 0))) := by
 unfold U32 part2
 have hl : t < (wl b n).length := by rw [wl_len]; exact h
 rw [List.getElem?_map, List.getElem?_append_left hl, List.getD_eq_getElem?_getD, List.getElem?_eq_getElem hl]
 rfl
theorem part2_at (b : List UInt8) (n : Nat) (h : n < 48) : (U32 (part2 b n))[16 + n]? = some (.int .u32 0) := by
 unfold U32 part2
 rw [List.getElem?_map, List.getElem?_append_right (by rw [wl_len]; omega), wl_len]
 simp [List.getElem?_replicate, val]
 omega
theorem part2_set (b : List UInt8) (n : Nat) (h : n < 48) : (U32 (part2 b n)).set (16 + n) (.int .u32 (val (ext (wl b n) (16 + n)))) = U32 (part2 b (n + 1)) := by
 unfold U32 part2
 have e : 48 - n = (48 - (n + 1)) + 1 := by omega
 have hl := wl_len b n
 rw [wl, e, List.replicate_succ, List.map_append, List.set_append_right _ _ (by simp [hl])]
 simp [hl]
theorem word4 (x0 x1 x2 x3 : UInt8) (b : List UInt8) (j m : Nat) (hm : m = 4 * j) (h0 : x0 = b.getD m 0) (h1 : x1 = b.getD (m + 1) 0) (h2 : x2 = b.getD (m + 2) 0) (h3 : x3 = b.getD (m + 3) 0) :
  bits .or .u32 (bits .or .u32 (bits .or .u32 (IntKind.u32.wrap (IntKind.u32.wrap (x0.toNat : Int) * 16777216)) (IntKind.u32.wrap (IntKind.u32.wrap (x1.toNat : Int) * 65536)))
   (IntKind.u32.wrap (IntKind.u32.wrap (x2.toNat : Int) * 256))) (IntKind.u32.wrap (x3.toNat : Int)) = (val (be b j)) := by
 have hn : ∀ x : UInt8, IntKind.u32.wrap (x.toNat : Int) = val (BitVec.ofNat 32 x.toNat) := by
  intro x
  unfold val
  rw [wrap_nat, BitVec.toNat_ofNat]
 have hs : ∀ (y : BitVec 32) (k p : Nat), p = 2 ^ k → IntKind.u32.wrap (val y * (p : Int)) = val (y <<< k) := by
  intro y k p hp
  rw [IntKind.wrap_u32', shl_val y k p hp]
 rw [hn, hn, hn, hn, show (16777216 : Int) = ((16777216 : Nat) : Int) from rfl, show (65536 : Int) = ((65536 : Nat) : Int) from rfl, show (256 : Int) = ((256 : Nat) : Int) from rfl,
  hs _ 24 _ rfl, hs _ 16 _ rfl, hs _ 8 _ rfl, or_val, or_val, or_val]
 subst hm h0 h1 h2 h3
 rfl
attribute [local go_sem] xor_val and_val or_val add_val add_val' shr_3 shr_10
set_option maxRecDepth 100000 in
set_option maxHeartbeats 4000000 in
theorem schedule_go (b : List UInt8) (w : World) (hb : b.length = 64) (L : List W) (HL0 : Hid (L = sched b)) :
  Calls Tryd.prog 115 #[.agg (B8 b).toArray] w fun e w' => e = .returned (.agg (U32 L).toArray) ∧ Below w.heap.size w w' := by
 have Hb := Lh hb
 clear hb
 go_enter Tryd.func115, Tryd.ntmps115
 go_wp2
 go_loopw [8] (fun s8 wr => ∃ j : Nat, j ≤ 16 ∧ s8 = .int .i64 j ∧ Blk wr w.heap.size 149 (B8 b) ∧ Blk wr (w.heap.size + 1) 160 (U32 (List.replicate 64 0)) ∧ Blk wr (w.heap.size + 1 + 1) 160 (U32 (part1 b j)) ∧ Below w.heap.size w wr)
  (fun s8 _ => 16 - (intOf s8).toNat)
 case atStart =>
  refine ⟨0, by omega, rfl, ?_, ?_, ?_, ?_⟩
  ·
   exact ((Blk.new w 149 (B8 b)).alloc _).alloc _
  ·
   exact (Blk.newAt (w.alloc (.cells (B8 b).toArray 149)) _ 160 (U32 (List.replicate 64 0)) (by simp)).alloc _
  ·
   exact Blk.newAt ((w.alloc (.cells (B8 b).toArray 149)).alloc (.cells (U32 (List.replicate 64 0)).toArray 160)) _ 160 (U32 (List.replicate 64 0)) (by simp)
  ·
   exact (((Below.refl _ _).alloc (Nat.le_refl _) _).alloc (by simp) _).alloc (by simp; omega) _
 case round =>
  obtain ⟨j, hj, rfl, b1, b2, b3, hbel⟩ := hrel
  by_cases hlt : j < 16
  ·
   have hB := Hb.out
   obtain ⟨m, hm⟩ : ∃ m, m = 4 * j := ⟨_, rfl⟩
   obtain ⟨x0, h0, c0⟩ : ∃ x : UInt8, x = b.getD (m) 0 ∧ wr.cell? ⟨w.heap.size, m, none⟩ = some (.int .u8 (x.toNat : Int)) := ⟨_, rfl, by rw [b1.cell, B8_getD b _ (by omega)]⟩
   obtain ⟨x1, h1, c1⟩ : ∃ x : UInt8, x = b.getD (m + 1) 0 ∧ wr.cell? ⟨w.heap.size, m + 1, none⟩ = some (.int .u8 (x.toNat : Int)) := ⟨_, rfl, by rw [b1.cell, B8_getD b _ (by omega)]⟩
   obtain ⟨x2, h2, c2⟩ : ∃ x : UInt8, x = b.getD (m + 2) 0 ∧ wr.cell? ⟨w.heap.size, m + 2, none⟩ = some (.int .u8 (x.toNat : Int)) := ⟨_, rfl, by rw [b1.cell, B8_getD b _ (by omega)]⟩
   obtain ⟨x3, h3, c3⟩ : ∃ x : UInt8, x = b.getD (m + 3) 0 ∧ wr.cell? ⟨w.heap.size, m + 3, none⟩ = some (.int .u8 (x.toNat : Int)) := ⟨_, rfl, by rw [b1.cell, B8_getD b _ (by omega)]⟩
   have H0 := Lh h0; have H1 := Lh h1; have H2 := Lh h2; have H3 := Lh h3
   clear h0 h1 h2 h3
   have q0 : IntKind.i64.wrap (4 * (j : Int)) = (m : Int) := by rw [IntWalk.i64_in _ (by omega)]; omega
   have q1 : IntKind.i64.wrap ((m : Int) + 1) = (m : Int) + 1 := IntWalk.i64_in _ (by omega)
   have q2 : IntKind.i64.wrap ((m : Int) + 2) = (m : Int) + 2 := IntWalk.i64_in _ (by omega)
   have q3 : IntKind.i64.wrap ((m : Int) + 3) = (m : Int) + 3 := IntWalk.i64_in _ (by omega)
   have g0 : (m : Int) < 64 := by omega
   have g1 : (m : Int) + 1 < 64 := by omega
   have g2 : (m : Int) + 2 < 64 := by omega
   have g3 : (m : Int) + 3 < 64 := by omega
   have p1 : 0 ≤ (m : Int) + 1 := by omega
   have p2 : 0 ≤ (m : Int) + 2 := by omega
   have p3 : 0 ≤ (m : Int) + 3 := by omega
   have t1 : ((m : Int) + 1).toNat = m + 1 := by omega
   have t2 : ((m : Int) + 2).toNat = m + 2 := by omega
   have t3 : ((m : Int) + 3).toNat = m + 3 := by omega
   have hj64 : (j : Int) < 64 := by omega
   have Hm := Lh hm
   clear hm hB
   go_wp2
   go_still_tail 31, (by kernel_rfl)
   change wpList _ _ _ _ _ wr.drew
   have hw4 := word4 x0 x1 x2 x3 b j m Hm.out H0.out H1.out H2.out H3.out
   have hc3 : wr.cell? ⟨w.heap.size + 1 + 1, j, none⟩ = some (.int .u32 0) := by rw [b3.cell]; exact part1_at b j hlt
   have hf3 : wr.frozen? ⟨w.heap.size + 1 + 1, j, none⟩ = false := b3.frozen j
   go_wp2
   go_roundw
   case rel =>
    refine ⟨j + 1, by omega, by go_num, b1.drew.far (by simp; omega) _, b2.drew.far (by simp) _, ?_, (hbel.drew).setCell (by simp; omega) _⟩
    have := b3.drew.put j (.int .u32 (val (be b j)))
    rw [part1_set b j hlt] at this
    exact this
   case measure => simp only [intOf]; omega
  ·
   rw [show j = 16 by omega, part12] at b3
   go_wp2
   go_loopw [5] (fun s5 wr => ∃ t n : Nat, n ≤ 48 ∧ t = n + 16 ∧ s5 = .int .i64 t ∧ Blk wr w.heap.size 149 (B8 b) ∧ Blk wr (w.heap.size + 1) 160 (U32 (List.replicate 64 0)) ∧ Blk wr (w.heap.size + 1 + 1) 160 (U32 (part2 b n)) ∧ Below w.heap.size w wr)
    (fun s5 _ => 64 - (intOf s5).toNat)
   case atStart => exact ⟨16, 0, by omega, rfl, rfl, b1, b2, b3, hbel⟩
   case round =>
   clear b1 b2 b3 hbel Hb hlt hj
   obtain ⟨t, n, hn0, hn, rfl, b1, b2, b3, hbel⟩ := hrel
   by_cases hlt : t < 64
   ·
    have ht0 : (t : Int) < 64 := by omega
    have ht1 : 16 ≤ t := by omega
    obtain ⟨a16, ha16⟩ : ∃ a : Nat, a = t - 16 := ⟨_, rfl⟩
    obtain ⟨v16, hv16, c16⟩ : ∃ v : W, v = (wl b n).getD (16 + n - 16) 0 ∧ wr.cell? ⟨w.heap.size + 1 + 1, a16, none⟩ = some (.int .u32 (val v)) := ⟨_, rfl, by rw [b3.cell, part2_get b n a16 (by omega), ha16, hn, Nat.add_comm n 16]⟩
    have q16 : IntKind.i64.wrap ((t : Int) - 16) = (a16 : Int) := by rw [IntWalk.i64_in _ (by omega)]; omega
    have g16 : (a16 : Int) < 64 := by omega
    have V16 := Lh hv16
    clear hv16 ha16
    obtain ⟨a15, ha15⟩ : ∃ a : Nat, a = t - 15 := ⟨_, rfl⟩
    obtain ⟨v15, hv15, c15⟩ : ∃ v : W, v = (wl b n).getD (16 + n - 15) 0 ∧ wr.cell? ⟨w.heap.size + 1 + 1, a15, none⟩ = some (.int .u32 (val v)) := ⟨_, rfl, by rw [b3.cell, part2_get b n a15 (by omega), ha15, hn, Nat.add_comm n 16]⟩
    have q15 : IntKind.i64.wrap ((t : Int) - 15) = (a15 : Int) := by rw [IntWalk.i64_in _ (by omega)]; omega
    have g15 : (a15 : Int) < 64 := by omega
    have V15 := Lh hv15
    clear hv15 ha15
    obtain ⟨a7, ha7⟩ : ∃ a : Nat, a = t - 7 := ⟨_, rfl⟩
    obtain ⟨v7, hv7, c7⟩ : ∃ v : W, v = (wl b n).getD (16 + n - 7) 0 ∧ wr.cell? ⟨w.heap.size + 1 + 1, a7, none⟩ = some (.int .u32 (val v)) := ⟨_, rfl, by rw [b3.cell, part2_get b n a7 (by omega), ha7, hn, Nat.add_comm n 16]⟩
    have q7 : IntKind.i64.wrap ((t : Int) - 7) = (a7 : Int) := by rw [IntWalk.i64_in _ (by omega)]; omega
    have g7 : (a7 : Int) < 64 := by omega
    have V7 := Lh hv7
    clear hv7 ha7
    obtain ⟨a2, ha2⟩ : ∃ a : Nat, a = t - 2 := ⟨_, rfl⟩
    obtain ⟨v2, hv2, c2⟩ : ∃ v : W, v = (wl b n).getD (16 + n - 2) 0 ∧ wr.cell? ⟨w.heap.size + 1 + 1, a2, none⟩ = some (.int .u32 (val v)) := ⟨_, rfl, by rw [b3.cell, part2_get b n a2 (by omega), ha2, hn, Nat.add_comm n 16]⟩
    have q2 : IntKind.i64.wrap ((t : Int) - 2) = (a2 : Int) := by rw [IntWalk.i64_in _ (by omega)]; omega
    have g2 : (a2 : Int) < 64 := by omega
    have V2 := Lh hv2
    clear hv2 ha2
    have Hn := Lh hn
    clear hn
    go_wp2
    go_quiet (exact Calls.quiet_of_same (rots_m _ _ _ (by decide)))
    generalize hqwq : wr.drewN nq = wq
    replace c16 : wq.cell? ⟨w.heap.size + 1 + 1, a16, none⟩ = some (.int .u32 (val v16)) := by rw [← hqwq]; exact c16
    replace c15 : wq.cell? ⟨w.heap.size + 1 + 1, a15, none⟩ = some (.int .u32 (val v15)) := by rw [← hqwq]; exact c15
    replace c7 : wq.cell? ⟨w.heap.size + 1 + 1, a7, none⟩ = some (.int .u32 (val v7)) := by rw [← hqwq]; exact c7
    replace c2 : wq.cell? ⟨w.heap.size + 1 + 1, a2, none⟩ = some (.int .u32 (val v2)) := by rw [← hqwq]; exact c2
    replace b1 : Blk wq w.heap.size 149 (B8 b) := by rw [← hqwq]; exact b1.drewN _
    replace b2 : Blk wq (w.heap.size + 1) 160 (U32 (List.replicate 64 0)) := by rw [← hqwq]; exact b2.drewN _
    replace b3 : Blk wq (w.heap.size + 1 + 1) 160 (U32 (part2 b n)) := by rw [← hqwq]; exact b3.drewN _
    replace hbel : Below w.heap.size w wq := by rw [← hqwq]; exact below_drewN hbel _
    clear hqwq nq
    go_wp2
    go_quiet (exact Calls.quiet_of_same (rots_m _ _ _ (by decide)))
    generalize hqwp : wq.drewN nq = wp
    replace c16 : wp.cell? ⟨w.heap.size + 1 + 1, a16, none⟩ = some (.int .u32 (val v16)) := by rw [← hqwp]; exact c16
    replace c15 : wp.cell? ⟨w.heap.size + 1 + 1, a15, none⟩ = some (.int .u32 (val v15)) := by rw [← hqwp]; exact c15
    replace c7 : wp.cell? ⟨w.heap.size + 1 + 1, a7, none⟩ = some (.int .u32 (val v7)) := by rw [← hqwp]; exact c7
    replace c2 : wp.cell? ⟨w.heap.size + 1 + 1, a2, none⟩ = some (.int .u32 (val v2)) := by rw [← hqwp]; exact c2
    replace b1 : Blk wp w.heap.size 149 (B8 b) := by rw [← hqwp]; exact b1.drewN _
    replace b2 : Blk wp (w.heap.size + 1) 160 (U32 (List.replicate 64 0)) := by rw [← hqwp]; exact b2.drewN _
    replace b3 : Blk wp (w.heap.size + 1 + 1) 160 (U32 (part2 b n)) := by rw [← hqwp]; exact b3.drewN _
    replace hbel : Below w.heap.size w wp := by rw [← hqwp]; exact below_drewN hbel _
    clear hqwp nq
    have hc3 : wp.cell? ⟨w.heap.size + 1 + 1, t, none⟩ = some (.int .u32 0) := by rw [b3.cell, Hn.out, Nat.add_comm n 16]; exact part2_at b n (by have := Hn.out; omega)
    have hf3 : wp.frozen? ⟨w.heap.size + 1 + 1, t, none⟩ = false := b3.frozen t
    go_wp2
    go_still_tail 15, (by kernel_rfl)
    change wpList _ _ _ _ _ wp.drew
    go_wp2
    go_roundw
    case rel =>
     refine ⟨t + 1, n + 1, by have := Hn.out; omega, by have := Hn.out; omega, by go_num, b1.drew.far (by simp; omega) _, b2.drew.far (by simp) _, ?_, (hbel.drew).setCell (by simp; omega) _⟩
     have hn := Hn.out
     have := b3.drew.put (16 + n) (.int .u32 (val (ext (wl b n) (16 + n))))
     rw [part2_set b n (by omega)] at this
     rw [show t = 16 + n by omega]
     have hv : ext (wl b n) (16 + n) = v16 + s0 v15 + v7 + s1 v2 := by rw [V16.out, V15.out, V7.out, V2.out]; rfl
     rw [hv] at this
     exact this
    case measure => simp only [intOf]; omega
   ·
    obtain rfl : t = 64 := by omega
    obtain rfl : n = 48 := by omega
    have b4 : Blk wr (w.heap.size + 1 + 1) 160 (U32 L) := by rw [HL0.out, ← part2_end]; exact b3
    have B2 := Lh (show wr.heap[w.heap.size + 1]? = some (.cells (U32 (List.replicate 64 0)).toArray 160 (0, 0)) from b2)
    have hl : L.length = 64 := by rw [HL0.out]; exact wl_len b 48
    have HL := Lh hl
    have HS := Lh (show (U32 (List.replicate 64 0)).toArray.size = (U32 L).toArray.size by simp [U32_len, hl])
    have B3 := Lh (b4.at)
    clear b1 b2 b3 b4 hl
    go_wp2_with (first
     | (with_reducible refine wpList_load_at rfl 160 (.tmp 3) rfl ⟨w.heap.size + 1 + 1, 0, none⟩ rfl (U32 L) (.array 64 147) B3.out Tryd.underlying160 rfl (size55 _ HL.out) ?_)
     | (with_reducible refine wpList_store_row rfl 160 (.tmp 2) (.tmp 96) rfl (w.heap.size + 1) (U32 L).toArray rfl rfl 160 _ B2.out (size55' _ HL.out) HS.out (U32_one _) ?_))
    refine bodyPost_ret (v := .agg (U32 L).toArray) ?_ rfl ⟨rfl, belowRow hbel (by omega) _⟩
    have hr := run_loadVar_row (P := Tryd.prog) _ (w.heap.size + 1) 160 160 (U32 L).toArray (0, 0) (.array 64 147) (heap_setRow wr (w.heap.size + 1) (U32 L).toArray _ 160 B2.out) Tryd.underlying160 rfl (size55' _ HL.out)
    simp [results, asAddr, hr]
end Go.Proofs.YtofccgkgjcnfbaaDoor
namespace Go.Proofs.YtofccgkgjcnfbaaDoor
open Go.RowKit Wr Sh
set_option linter.unusedVariables false
theorem not_go (x : W) : bits .xor .u32 (if IntKind.u32.signed = true then -1 else IntKind.u32.max) (val x) = val (~~~x) := by
 have h : (if IntKind.u32.signed = true then -1 else IntKind.u32.max) = val (BitVec.allOnes 32) := by rfl
 rw [h, xor_val, BitVec.xor_comm, BitVec.xor_allOnes]
attribute [local go_sem] xor_val and_val or_val add_val add_val' not_go
def Tab (g : Nat) (w : World) : Prop := g < w.heap.size ∧ ∀ t, t < 64 → w.cell? ⟨g, t, none⟩ = some (.int .u32 (val (K t)))
theorem Tab.below {g : Nat} {w w' : World} {B : Nat} (h : Tab g w) (hb : Below B w w') (hg : g < B) : Tab g w' :=
 ⟨Nat.lt_of_lt_of_le h.1 hb.size, fun t ht => (hb.cell (p := ⟨g, t, none⟩) hg).trans (h.2 t ht)⟩
theorem Tab.drewN {g : Nat} {w : World} (h : Tab g w) (n : Nat) : Tab g (w.drewN n) := h
def mix (v s : S8) (j : Nat) : List W := (v.add s).list.take j ++ v.list.drop j
theorem mix_at (v s : S8) (j : Nat) (h : j < 8) : ∃ x y : W,
  (∀ w : World, (Instr.index 148 (.agg #[.int .u32 (val s.a), .int .u32 (val s.b), .int .u32 (val s.c), .int .u32 (val s.d), .int .u32 (val s.e), .int .u32 (val s.f), .int .u32 (val s.g), .int .u32 (val s.h)]) (.int .i64 (j : Int))).run Tryd.prog w = .ok (.int .u32 (val x)) w) ∧
  (U32 (mix v s j))[j]? = some (.int .u32 (val y)) ∧ (U32 (mix v s j)).set j (.int .u32 (val (y + x))) = U32 (mix v s (j + 1)) := by
 have hj : j = 0 ∨ j = 1 ∨ j = 2 ∨ j = 3 ∨ j = 4 ∨ j = 5 ∨ j = 6 ∨ j = 7 := by omega
 rcases hj with rfl | rfl | rfl | rfl | rfl | rfl | rfl | rfl
 ·
  exact ⟨s.a, v.a, fun W => by kernel_rfl, rfl, rfl⟩
 ·
  exact ⟨s.b, v.b, fun W => by kernel_rfl, rfl, rfl⟩
 ·
  exact ⟨s.c, v.c, fun W => by kernel_rfl, rfl, rfl⟩
 ·
  exact ⟨s.d, v.d, fun W => by kernel_rfl, rfl, rfl⟩
 ·
  exact ⟨s.e, v.e, fun W => by kernel_rfl, rfl, rfl⟩
 ·
  exact ⟨s.f, v.f, fun W => by kernel_rfl, rfl, rfl⟩
 ·
  exact ⟨s.g, v.g, fun W => by kernel_rfl, rfl, rfl⟩
 ·
  exact ⟨s.h, v.h, fun W => by kernel_rfl, rfl, rfl⟩
theorem size30 (l : List W) (h : l.length = 8) : (Tryd.prog.info? 148).map (·.size) = some (U32 l).length := by
 rw [U32_len, h]; kernel_rfl
theorem size30' (l : List W) (h : l.length = 8) : (Tryd.prog.info? 148).map (·.size) = some (U32 l).toArray.size := size30 l h
theorem size31 (d : List UInt8) (h : d.length = 64) : (Tryd.prog.info? 149).map (·.size) = some (B8 d).length := by
 rw [B8_len, h]; kernel_rfl
theorem one8 (d : List UInt8) : (B8 d).toArray.all (·.oneCell') = true := by
 rw [Array.all_eq_true_iff_forall_mem]; intro u hu; exact B8_one d u (by simpa using hu)
set_option maxRecDepth 100000 in
set_option maxHeartbeats 4000000 in
theorem compress_go (v : S8) (b : List UInt8) (w : World) (hb : b.length = 64) (ht : Tab 1 w) (L : List W) (HL0 : Hid (L = sched b)) (R : List W) (HR : Hid (R = (compress v b).list)) :
  Calls Tryd.prog 113 #[.agg (U32 v.list).toArray, .agg (B8 b).toArray] w fun e w' => e = .returned (.agg (U32 R).toArray) ∧ Below w.heap.size w w' := by
 have Hb := Lh hb
 have HT := Lh ht
 clear hb ht
 have HC1 := Lh (fun O : Obj => Blk.at ((Blk.newAt (w.alloc (.cells (U32 v.list).toArray 148)) (w.heap.size + 1) 149 (B8 b) (by simp)).alloc O))
 have hl : L.length = 64 := by rw [HL0.out]; exact wl_len b 48
 have HL := Lh hl
 have HS := Lh (show (U32 L).length = 64 by rw [U32_len, hl])
 clear hl
 go_enter Tryd.func113, Tryd.ntmps113
 go_wp2_with (first
  | (with_reducible refine wpList_load_at rfl 149 (.tmp 3) rfl ⟨w.heap.size + 1, 0, none⟩ rfl (B8 b) (.array 64 5) (HC1.out _) Tryd.underlying149 rfl (size31 _ Hb.out) ?_)
  | (go_at_call 115; refine (schedule_go b _ Hb.out L HL0).mono ?_; rintro e w1 ⟨rfl, hb1⟩; have HB1 := Lh hb1; clear hb1)
  | (with_reducible refine wpList_store_row rfl 160 (.tmp 5) (.tmp 20) rfl w1.heap.size (U32 L).toArray rfl rfl 160 _ (heap_alloc_new w1 _) (size55' _ HL.out) (by simp [HS.out]) (U32_one _) ?_))
 generalize hW : World.setRow _ _ _ = W1
 have f1 : Blk W1 w.heap.size 148 (U32 v.list) := by
  rw [← hW]
  exact ((((((Blk.new w 148 (U32 v.list)).alloc _).alloc _).below HB1.out (by simp; omega)).alloc _).setRow (by have := HB1.out.size; simp at this; omega) _)
 have f3 : Blk W1 (w.heap.size + 1 + 1) 148 (U32 (List.replicate 8 0)) := by
  rw [← hW]
  exact ((((Blk.newAt ((w.alloc (.cells (U32 v.list).toArray 148)).alloc (.cells (B8 b).toArray 149)) (w.heap.size + 1 + 1) 148 (U32 (List.replicate 8 0)) (by simp)).below HB1.out (by simp)).alloc _).setRow (by have := HB1.out.size; simp at this; omega) _)
 have f5 : Blk W1 w1.heap.size 160 (U32 L) := by
  rw [← hW]
  exact Blk.row (Blk.new w1 160 (U32 (List.replicate 64 0))) (U32 L)
 have hM : w.heap.size + 1 + 1 + 1 ≤ w1.heap.size := by have := HB1.out.size; simp at this; omega
 have hbel : Below w.heap.size w W1 := by
  rw [← hW]
  exact belowRow ((((((Below.refl _ _).alloc (Nat.le_refl _) _).alloc (by simp) _).alloc (by simp; omega) _).trans (HB1.out.mono (by simp; omega))).alloc (by omega) _) (by omega) _
 have HB := Lh hbel
 clear hW HB1 HC1
 obtain ⟨M, hM0⟩ : ∃ M, M = w1.heap.size := ⟨_, rfl⟩
 rw [← hM0] at f5 hM ⊢
 clear hM0
 have c0 : W1.cell? ⟨w.heap.size, 0, none⟩ = some (.int .u32 (val v.a)) := f1.cell 0
 have c1 : W1.cell? ⟨w.heap.size, 1, none⟩ = some (.int .u32 (val v.b)) := f1.cell 1
 have c2 : W1.cell? ⟨w.heap.size, 2, none⟩ = some (.int .u32 (val v.c)) := f1.cell 2
 have c3 : W1.cell? ⟨w.heap.size, 3, none⟩ = some (.int .u32 (val v.d)) := f1.cell 3
 have c4 : W1.cell? ⟨w.heap.size, 4, none⟩ = some (.int .u32 (val v.e)) := f1.cell 4
 have c5 : W1.cell? ⟨w.heap.size, 5, none⟩ = some (.int .u32 (val v.f)) := f1.cell 5
 have c6 : W1.cell? ⟨w.heap.size, 6, none⟩ = some (.int .u32 (val v.g)) := f1.cell 6
 have c7 : W1.cell? ⟨w.heap.size, 7, none⟩ = some (.int .u32 (val v.h)) := f1.cell 7
 go_quiet (fail)
 clear c0 c1 c2 c3 c4 c5 c6 c7
 generalize hq : W1.drewN nq = W2
 replace f1 : Blk W2 w.heap.size 148 (U32 v.list) := by rw [← hq]; exact f1.drewN _
 replace f3 : Blk W2 (w.heap.size + 1 + 1) 148 (U32 (List.replicate 8 0)) := by rw [← hq]; exact f3.drewN _
 replace f5 : Blk W2 M 160 (U32 L) := by rw [← hq]; exact f5.drewN _
 replace HB : Hid (Below w.heap.size w W2) := by rw [← hq]; exact Lh (below_drewN HB.out _)
 clear hq nq
 go_wp2
 go_loopw [6, 7, 8, 9, 10, 11, 12, 13, 37] (fun s6 s7 s8 s9 s10 s11 s12 s13 s37 wr => ∃ (t : Nat) (s : S8), t ≤ 64 ∧ Hid (s = rnds v L t) ∧ s37 = .int .i64 t ∧
   s6 = .int .u32 (val s.a) ∧ s7 = .int .u32 (val s.b) ∧ s8 = .int .u32 (val s.c) ∧ s9 = .int .u32 (val s.d) ∧ s10 = .int .u32 (val s.e) ∧ s11 = .int .u32 (val s.f) ∧ s12 = .int .u32 (val s.g) ∧ s13 = .int .u32 (val s.h) ∧
   Blk wr w.heap.size 148 (U32 v.list) ∧ Blk wr (w.heap.size + 1 + 1) 148 (U32 (List.replicate 8 0)) ∧ Blk wr M 160 (U32 L) ∧ Hid (Below w.heap.size w wr))
  (fun _ _ _ _ _ _ _ _ s37 _ => 64 - (intOf s37).toNat)
 case atStart => exact ⟨0, v, by omega, Lh rfl, rfl, rfl, rfl, rfl, rfl, rfl, rfl, rfl, rfl, f1, f3, f5, HB⟩
 case round =>
 clear f1 f3 f5 HB
 obtain ⟨t, s, ht, hs, rfl, rfl, rfl, rfl, rfl, rfl, rfl, rfl, rfl, f1, f3, f5, HB⟩ := hrel
 by_cases hlt : t < 64
 ·
  have ht1 : (t : Int) < 64 := by omega
  have hL := HL.out
  obtain ⟨k, Hk, ck⟩ : ∃ k : W, Hid (k = K t) ∧ wr.cell? ⟨1, t, none⟩ = some (.int .u32 (val k)) := ⟨_, Lh rfl, (HT.out.below HB.out HT.out.1).2 t hlt⟩
  obtain ⟨x, Hx, cx⟩ : ∃ x : W, Hid (x = L.getD t 0) ∧ wr.cell? ⟨M, t, none⟩ = some (.int .u32 (val x)) := ⟨_, Lh rfl, by
   rw [f5.cell, U32, List.getElem?_map, List.getD_eq_getElem?_getD, List.getElem?_eq_getElem (by omega)]; rfl⟩
  clear hL
  go_wp2
  go_quiet (exact Calls.quiet_of_same (rots_m _ _ _ (by decide)))
  go_wp2_with (go_at_call 116; refine (rotr_m _ _ _ (by decide)).mono ?_; rintro e w' ⟨rfl, rfl⟩)
  go_roundw
  case rel => exact ⟨t + 1, round s k x, by omega, Lh (by rw [hs.out, Hk.out, Hx.out]; rfl), by go_num, rfl, rfl, rfl, rfl, rfl, rfl, rfl, rfl, f1.drewN _, f3.drewN _, f5.drewN _, Lh (below_drewN HB.out _)⟩
  case measure => simp only [intOf]; omega
 ·
  have hS : s = rnds v L 64 := by rw [hs.out, show t = 64 by omega]
  have HS := Lh hS
  clear hS hs f5 HL HT
  go_wp2
  go_loopw [109] (fun s109 wr => ∃ j : Nat, j ≤ 8 ∧ s109 = .int .i64 j ∧ Blk wr w.heap.size 148 (U32 (mix v s j)) ∧ Blk wr (w.heap.size + 1 + 1) 148 (U32 (List.replicate 8 0)) ∧ Hid (Below w.heap.size w wr))
   (fun s109 _ => 8 - (intOf s109).toNat)
  case atStart => exact ⟨0, by omega, rfl, f1, f3, HB⟩
  case round =>
  clear f1 f3 HB
  obtain ⟨j, hj, rfl, f1, f3, HB⟩ := hrel
  by_cases hj8 : j < 8
  ·
   obtain ⟨x, y, hix, hy, hset⟩ := mix_at v s j hj8
   have cj : wr.cell? ⟨w.heap.size, j, none⟩ = some (.int .u32 (val y)) := (f1.cell j).trans hy
   have fj := f1.frozen j
   have Hset := Lh hset
   clear hset hy
   go_wp2
   go_roundw
   case rel =>
    refine ⟨j + 1, by omega, by go_num, ?_, f3.far (show w.heap.size + 1 + 1 ≠ w.heap.size by omega) _, Lh (HB.out.setCell (Nat.le_refl _) _)⟩
    have := f1.put j (.int .u32 (val (y + x)))
    rw [Hset.out] at this
    exact this
   case measure => simp only [intOf]; omega
  ·
   have f2 : Blk wr w.heap.size 148 (U32 R) := by
    rw [HR.out]
    have : compress v b = v.add s := by rw [HS.out, HL0.out]; rfl
    rw [this]
    have h8 : j = 8 := by omega
    subst h8
    exact f1
   have hl8 : R.length = 8 := by rw [HR.out]; rfl
   have HL8 := Lh hl8
   have HU8 := Lh (show (U32 (List.replicate 8 0)).toArray.size = (U32 R).toArray.size by simp [U32_len, hl8])
   have F2 := Lh f2.at
   have F3 := Lh (show wr.heap[w.heap.size + 1 + 1]? = some (.cells (U32 (List.replicate 8 0)).toArray 148 (0, 0)) from f3)
   have hbel := HB.out
   clear f1 f2 f3 hl8 HS HB
   go_wp2_with (first
    | (with_reducible refine wpList_load_at rfl 148 (.tmp 2) rfl ⟨w.heap.size, 0, none⟩ rfl (U32 R) (.array 8 147) F2.out Tryd.underlying148 rfl (size30 _ HL8.out) ?_)
    | (with_reducible refine wpList_store_row rfl 148 (.tmp 4) (.tmp 120) rfl (w.heap.size + 1 + 1) (U32 R).toArray rfl rfl 148 _ F3.out (size30' _ HL8.out) HU8.out (U32_one _) ?_))
   refine bodyPost_ret (v := .agg (U32 R).toArray) ?_ rfl ⟨rfl, belowRow hbel (by omega) _⟩
   have hr := run_loadVar_row (P := Tryd.prog) _ (w.heap.size + 1 + 1) 148 148 (U32 R).toArray (0, 0) (.array 8 147) (heap_setRow wr (w.heap.size + 1 + 1) (U32 R).toArray _ 148 F3.out) Tryd.underlying148 rfl (size30' _ HL8.out)
   simp [results, asAddr, hr, Act.put]
end Go.Proofs.YtofccgkgjcnfbaaDoor
namespace Go.Proofs.YtofccgkgjcnfbaaDoor
open Go.RowKit Wr Sh
set_option linter.unusedVariables false
namespace Sh
theorem blocks_app (m t : List UInt8) : ∀ q, 64 * q ≤ m.length → blocks (m ++ t) q = blocks m q := by
 intro q
 induction q with
 | zero => intro _; rfl
 | succ q ih =>
  intro h
  show compress (blocks (m ++ t) q) (((m ++ t).drop (64 * q)).take 64) = compress (blocks m q) ((m.drop (64 * q)).take 64)
  rw [ih (by omega), List.drop_append_of_le_length (by omega), List.take_append_of_le_length (by simp; omega)]
structure Part (m rest : List UInt8) (h : Nat) (v : S8) : Prop where
 hv : v = blocks m (m.length / 64)
 hh : h = m.length % 64
 hl : rest.length = 64
 hr : rest.take h = m.drop (64 * (m.length / 64))
theorem Part.lt {m rest : List UInt8} {h : Nat} {v : S8} (p : Part m rest h v) : h < 64 := by rw [p.hh]; omega
theorem Part.some {m rest : List UInt8} {h : Nat} {v : S8} (p : Part m rest h v) (t : List UInt8) (ht : h + t.length < 64) : Part (m ++ t) (splice rest h t) (h + t.length) v := by
 obtain ⟨hv, hh, hl, hr⟩ := p
 have hq : (m ++ t).length / 64 = m.length / 64 := by rw [List.length_append]; omega
 refine ⟨?_, ?_, ?_, ?_⟩
 ·
  rw [hq, blocks_app m t _ (by omega)]; exact hv
 ·
  rw [List.length_append]; omega
 ·
  rw [length_splice _ _ _ (by omega)]; exact hl
 ·
  rw [hq, List.drop_append_of_le_length (by omega), ← hr, splice, ← List.append_assoc, List.take_append_of_le_length (by simp; omega)]
  rw [List.take_of_length_le (by simp; omega)]
theorem Part.full {m rest : List UInt8} {h : Nat} {v : S8} (p : Part m rest h v) (t : List UInt8) (ht : h + t.length = 64) : Part (m ++ t) (splice rest h t) 0 (compress v (splice rest h t)) := by
 obtain ⟨hv, hh, hl, hr⟩ := p
 have hq : (m ++ t).length / 64 = m.length / 64 + 1 := by rw [List.length_append]; omega
 have hs : splice rest h t = m.drop (64 * (m.length / 64)) ++ t := by
  rw [splice, hr, List.drop_eq_nil_of_le (show rest.length ≤ h + t.length by omega), List.append_nil]
 refine ⟨?_, ?_, ?_, ?_⟩
 ·
  rw [hq]
  show compress v _ = compress (blocks (m ++ t) (m.length / 64)) (((m ++ t).drop (64 * (m.length / 64))).take 64)
  rw [blocks_app m t _ (by omega), ← hv, List.drop_append_of_le_length (by omega), ← hs, List.take_of_length_le (by rw [length_splice _ _ _ (by omega)]; omega)]
 ·
  rw [List.length_append]; omega
 ·
  rw [length_splice _ _ _ (by omega)]; exact hl
 ·
  rw [hq, List.take_zero, List.drop_eq_nil_of_le (by rw [List.length_append]; omega)]
end Sh
def SC (v : S8) (rest : List UInt8) (n : Nat) : List Value := U32 v.list ++ (B8 rest ++ [.int .u64 (n : Int)])
theorem list8 (v : S8) : (U32 v.list).length = 8 := rfl
theorem SC_len (v : S8) (rest : List UInt8) (n : Nat) (h : rest.length = 64) : (SC v rest n).length = 73 := by
 simp [SC, list8, B8_len, h]
theorem SC_72 (v : S8) (rest : List UInt8) (n : Nat) (h : rest.length = 64) : (SC v rest n)[72]? = some (.int .u64 (n : Int)) := by
 unfold SC
 rw [List.getElem?_append_right (by rw [list8]; omega), list8, List.getElem?_append_right (by rw [B8_len]; omega), B8_len, h]
 rfl
theorem SC_set72 (v : S8) (rest : List UInt8) (n n' : Nat) (h : rest.length = 64) : (SC v rest n).set 72 (.int .u64 (n' : Int)) = SC v rest n' := by
 unfold SC
 rw [List.set_append_right _ _ (by rw [list8]; omega), list8, List.set_append_right _ _ (by rw [B8_len]; omega), B8_len, h]
 rfl
theorem SC_words (v : S8) (rest : List UInt8) (n : Nat) : ∀ (j : Nat) u, (U32 v.list)[j]? = some u → (SC v rest n)[j]? = some u := by
 intro j u hu
 have := (List.getElem?_eq_some_iff.1 hu).1
 unfold SC
 rw [List.getElem?_append_left this]; exact hu
theorem SC_rest (v : S8) (rest : List UInt8) (n : Nat) : ∀ (j : Nat) u, (B8 rest)[j]? = some u → (SC v rest n)[8 + j]? = some u := by
 intro j u hu
 have := (List.getElem?_eq_some_iff.1 hu).1
 unfold SC
 rw [List.getElem?_append_right (by rw [list8]; omega), list8, Nat.add_sub_cancel_left, List.getElem?_append_left this]; exact hu
theorem SC_splice (v : S8) (rest t : List UInt8) (n h : Nat) (hl : rest.length = 64) (ht : h + t.length ≤ 64) : splice (SC v rest n) (8 + h) (B8 t) = SC v (splice rest h t) n := by
 unfold SC splice
 have e : 8 + h + (B8 t).length - 8 = h + t.length := by rw [B8_len]; omega
 rw [List.take_append, list8, List.take_of_length_le (by rw [list8]; omega), Nat.add_sub_cancel_left, List.take_append_of_le_length (by rw [B8_len]; omega),
  List.drop_append, list8, List.drop_eq_nil_of_le (by rw [list8]; omega), e, List.drop_append_of_le_length (by rw [B8_len]; omega)]
 simp [B8, List.map_take, List.map_drop]
theorem SC_value (v v' : S8) (rest : List UInt8) (n : Nat) : splice (SC v rest n) 0 (U32 v'.list) = SC v' rest n := by
 unfold SC splice
 rw [List.take_zero, List.nil_append, Nat.zero_add, list8, List.drop_append_of_le_length (by rw [list8]; omega), List.drop_eq_nil_of_le (by rw [list8]; omega), List.nil_append]
theorem SC_one (v : S8) (rest : List UInt8) (n : Nat) : (SC v rest n).toArray.all (·.oneCell') = true := by
 rw [Array.all_eq_true_iff_forall_mem]; intro u hu
 have hu2 : u ∈ SC v rest n := by simpa using hu
 unfold SC at hu2
 rcases List.mem_append.1 hu2 with h | h
 ·
  obtain ⟨_, _, rfl⟩ := List.mem_map.1 h; rfl
 ·
  rcases List.mem_append.1 h with h | h
  ·
   exact B8_one _ _ h
  ·
   obtain rfl := List.mem_singleton.1 h; rfl
theorem U32_each (l : List W) : ∀ u ∈ U32 l, u.oneCell' = true := by
 intro u hu; obtain ⟨_, _, rfl⟩ := List.mem_map.1 hu; rfl
def IsS (m : List UInt8) (cs : List Value) : Prop := ∃ rest v, Part m rest (m.length % 64) v ∧ cs = SC v rest m.length
section
variable {P : Program}
theorem wpList_copy_at {w : World} {ops : Array Oper} {rest : List Oper} {o : Oper} {a : Act} {Q : Exit → Act → World → Prop} (hgd : o.guard = none) (d s : Operand) (dT sT : TypeId)
  (ho : o.op = .call { callee := .builtin .copy, args := #[d, s], argTypes := #[dT, sT] }) (elem : TypeId) (hu : P.underlying dT = some (.slice elem)) (hsz : (P.info? elem).map (·.size) = some 1)
  (g off dLen dCap : Nat) (ad : Addr) (sLen sCap : Nat) (hd : a.eval d = .slice (some ⟨g, off, none⟩) dLen dCap) (hs : a.eval s = .slice (some ad) sLen sCap)
  (cur : List Value) (t : TypeId) (hg : w.heap[g]? = some (.cells cur.toArray t (0, 0))) (cs : List Value) (n : Nat) (hl : cs.length = n) (hn : n = Nat.min sLen dLen)
  (hsrc : ∀ j v, cs[j]? = some v → w.cell? (ad.add j) = some v) (hfit : off + n ≤ cur.length) (h1 : ∀ v ∈ cs, v.oneCell' = true)
  (h : wpList P ops Q rest (a.put o.dst (goInt n)) (w.setRow g (splice cur off cs).toArray)) : wpList P ops Q (o :: rest) a w := by
 subst hl
 exact wpList_copy_own hgd d s dT sT ho elem hu hsz g off dLen dCap ad sLen sCap hd hs cur.toArray t hg cs hn hsrc (by simpa using hfit) h1 h
theorem wpList_store_at {w : World} {ops : Array Oper} {rest : List Oper} {o : Oper} {a : Act} {Q : Exit → Act → World → Prop} (hgd : o.guard = none) (ty : TypeId) (x y : Operand) (ho : o.op = .store ty x y)
  (g off : Nat) (cs : List Value) (hx : a.eval x = .pointer (some ⟨g, off, none⟩)) (hy : a.eval y = .agg cs.toArray)
  (t : TypeId) (cur : List Value) (hg : w.heap[g]? = some (.cells cur.toArray t (0, 0))) (hi : (P.info? ty).map (·.size) = some cs.length)
  (hfit : off + cs.length ≤ cur.length) (h1 : ∀ u ∈ cs, u.oneCell' = true)
  (h : wpList P ops Q rest (a.put o.dst undef) (w.setRow g (splice cur off cs).toArray)) : wpList P ops Q (o :: rest) a w := by
 refine wpList_plain hgd fun K hK => ?_
 have hst := run_storeCells_at P g off t cs 0 cur.toArray w hg (by simpa using hfit) h1
 have hrun : (storeVar ty ⟨g, off, none⟩ (.agg cs.toArray)).run P w = .ok () (w.setRow g (splice cur off cs).toArray) := by
  cases hq : P.info? ty with
  | none => simp [hq] at hi
  | some i =>
   have hs : i.size = cs.length := by simpa [hq] using hi
   simp [storeVar, sizeOf, typeInfo, hq, Value.cells, hs, hst, splice]
 unfold Oper.wp execOp
 simp only [ho, hx, hy, Instr.storeAt, Instr.sureAddr, Sem.run_bind, Sem.run_pure, Result.andThen_ok, hrun]
 exact hK _ _ h
end
end Go.Proofs.YtofccgkgjcnfbaaDoor
namespace Go.Proofs.YtofccgkgjcnfbaaDoor
open Go.RowKit Wr Sh
set_option linter.unusedVariables false
set_option maxRecDepth 100000
theorem size34 (cs : List Value) (h : cs.length = 73) : (Tryd.prog.info? 151).map (·.size) = some cs.length := by rw [h]; kernel_rfl
theorem size34' (cs : List Value) (h : cs.length = 73) : (Tryd.prog.info? 151).map (·.size) = some cs.toArray.size := size34 cs h
theorem size5 : (Tryd.prog.info? 5).map (·.size) = some 1 := by kernel_rfl
def ZS : List Value := SC ⟨0, 0, 0, 0, 0, 0, 0, 0⟩ (List.replicate 64 0) 0
theorem zero34 : ∀ W : World, (zeroValue 151).run Tryd.prog W = .ok (.agg ZS.toArray) W := fun _ => by kernel_rfl
theorem slice_arr (g h : Nat) (hh : h ≤ 64) (W : World) : (Instr.sliceAt 149 (.pointer (some ⟨g, 8, none⟩)) (some (.int .i64 (h : Int))) none none).run Tryd.prog W = .ok (.slice (some ⟨g, if h = 64 then 8 else 8 + h, none⟩) (64 - h) (64 - h)) W := by
 have h9 : Tryd.prog.arrayLen 149 = 64 := by kernel_rfl
 have he : Tryd.prog.elem 149 = 5 := by kernel_rfl
 have hu : Tryd.prog.underlying 149 = some (.array (Tryd.prog.arrayLen 149) (Tryd.prog.elem 149)) := by kernel_rfl
 have h5 : (sizeOf 5).run Tryd.prog W = .ok 1 W := by kernel_rfl
 rw [run_sliceAt_array_l W 149 ⟨g, 8, none⟩ hu .i64 (h : Int) (by omega) (by rw [h9]; omega), he, h5, h9]
 simp only [Result.andThen, slicedAt, Int.toNat_natCast, Nat.mul_one]
 by_cases h64 : h = 64
 ·
  subst h64; simp
 ·
  rw [if_neg (by omega), if_neg h64, Addr.add_lit]
theorem slice_from (A : Option Addr) (L c k : Nat) (h1 : k ≤ L) (h2 : L ≤ c) (W : World) : (Instr.sliceAt 39 (.slice A L c) (some (.int .i64 (k : Int))) none none).run Tryd.prog W = .ok (.slice (if c = k then A else A.map (·.add k)) (L - k) (c - k)) W := by
 have hu : Tryd.prog.underlying 39 = some (.slice (Tryd.prog.elem 39)) := by kernel_rfl
 have he : Tryd.prog.elem 39 = 5 := by kernel_rfl
 have h5 : (sizeOf 5).run Tryd.prog W = .ok 1 W := by kernel_rfl
 rw [run_sliceAt_slice W 39 _ _ _ _ hu, run_slice_l W 39 A L c hu .i64 k (by omega) (by omega), he, h5]
 simp only [Result.andThen, sliced, Int.toNat_natCast]
 by_cases h0 : c = k
 ·
  subst h0; simp
 ·
  cases A with
  | none => simp [h0]
  | some a => simp [h0, Addr.add]
set_option maxRecDepth 100000 in
set_option maxHeartbeats 4000000 in
theorem extB_go (m t rest : List UInt8) (v : S8) (n h : Nat) (A : Option Addr) (c : Nat) (w : World) (hp : Part m rest h v) (hn : n = m.length) (hr : Rd w w.heap.size A (B8 t)) (hc : t.length ≤ c) (hsz : n + t.length ≤ 1099511627776) (ht : Tab 1 w)
  (nt : Nat) (hnt : nt = n + t.length) (m' : List UInt8) (hm' : Hid (m' = m ++ t)) :
  Calls Tryd.prog 99 #[.agg (SC v rest n).toArray, .slice A t.length c] w fun e w' => ∃ rest' v', e = .returned (.agg (SC v' rest' nt).toArray) ∧ Part m' rest' (nt % 64) v' ∧ Below w.heap.size w w' := by
 have HP := Lh hp
 have HT := Lh ht
 have HN := Lh hn
 have HNT := Lh hnt
 have c72 : (SC v rest n)[72]? = some (.int .u64 (n : Int)) := SC_72 v rest n hp.hl
 have hset : (SC v rest n).set 72 (.int .u64 ((n : Int) + (t.length : Int))) = SC v rest nt := by
  rw [← SC_set72 v rest n nt hp.hl, hnt]; rfl
 have Hset := Lh hset
 have hh : (n : Int) % 64 = (h : Int) := by have := hp.hh; omega
 have hlt := hp.lt
 have z34 := zero34
 clear hp ht hn hnt hset
 go_enter Tryd.func99, Tryd.ntmps99
 go_wp2
 rw [Hset.out]
 generalize hW : World.alloc _ _ = W1
 have f1 : Blk W1 w.heap.size 151 (SC v rest nt) := by rw [← hW]; exact (Blk.new w 151 (SC v rest nt)).alloc _
 have f2 : Blk W1 (w.heap.size + 1) 151 ZS := by rw [← hW]; exact Blk.newAt _ _ 151 ZS (by simp)
 have hbel : Below w.heap.size w W1 := by rw [← hW]; exact ((Below.refl _ _).alloc (Nat.le_refl _) _).alloc (by simp) _
 have HB := Lh hbel
 have HR := Lh hr
 clear hW hbel c72 Hset z34 hr hh
 go_loopw [1, 5] (fun s1 s5 wr => ∃ (u r rest : List UInt8) (v : S8) (h : Nat) (A' : Option Addr) (c' : Nat), Hid (t = u ++ r) ∧ Hid (Part (m ++ u) rest h v) ∧ h < 64 ∧ r.length ≤ c' ∧ r.length ≤ 1099511627776 ∧ s1 = .slice A' r.length c' ∧ s5 = .int .i64 h ∧
   Hid (Rd wr w.heap.size A' (B8 r)) ∧ Blk wr w.heap.size 151 (SC v rest nt) ∧ Blk wr (w.heap.size + 1) 151 ZS ∧ Hid (Below w.heap.size w wr))
  (fun s1 _ _ => match s1 with | .slice _ n _ => n | _ => 0)
 case atStart => exact ⟨[], t, rest, v, h, A, c, Lh rfl, Lh (by rw [List.append_nil]; exact HP.out), hlt, hc, by omega, rfl, rfl, Lh (HR.out.below HB.out), f1, f2, HB⟩
 case round =>
 clear f1 f2 HB hlt hc
 obtain ⟨u, r, rest, v, h, A', c', hu, HP', hlt, hc, hr40, rfl, rfl, HR', f1, f2, HB⟩ := hrel
 by_cases hk : 0 < r.length
 ·
  obtain ⟨k, hkl⟩ : ∃ k, k = Nat.min r.length (64 - h) := ⟨_, rfl⟩
  have hk1 : 0 < k := by rw [hkl]; exact Nat.lt_min.2 ⟨hk, by omega⟩
  have hk2 : k ≤ r.length := by rw [hkl]; exact Nat.min_le_left _ _
  have hk3 : k ≤ 64 - h := by rw [hkl]; exact Nat.min_le_right _ _
  have hk5 : h + k ≤ 64 := by omega
  have hk4 : k = r.length ∨ h + k = 64 := by
   rcases Nat.le_total r.length (64 - h) with h1 | h1
   ·
    left; rw [hkl]; exact Nat.min_eq_left h1
   ·
    right; rw [hkl]; have : Nat.min r.length (64 - h) = 64 - h := Nat.min_eq_right h1; rw [this]; omega
  have hne : B8 r ≠ [] := by intro e; have := congrArg List.length e; rw [B8_len] at this; simp only [List.length_nil] at this; omega
  obtain ⟨g, o, rfl, hg, hcell⟩ := HR'.out hne
  have hrl : rest.length = 64 := HP'.out.hl
  have Hsrc : Hid (∀ j u, (B8 (r.take k))[j]? = some u → wr.cell? ((⟨g, o, none⟩ : Addr).add j) = some u) := Lh (fun j u hu => by
   rw [Addr.add_lit]
   refine hcell j u ?_
   have hj := (List.getElem?_eq_some_iff.1 hu).1
   rw [B8_len] at hj
   have hj2 : j < r.length := by simp at hj; omega
   rw [B8_get _ _ hj] at hu
   rw [B8_get _ _ hj2, ← hu]
   simp)
  have htl : (r.take k).length = k := by simp; omega
  obtain ⟨rest2, hrest2⟩ : ∃ rest2, rest2 = splice rest h (r.take k) := ⟨_, rfl⟩
  have HSP := Lh (show splice (SC v rest nt) (8 + h) (B8 (r.take k)) = SC v rest2 nt by rw [hrest2]; exact SC_splice v rest (r.take k) nt h hrl (by rw [htl]; omega))
  have HF1 := Lh (show wr.heap[w.heap.size]? = some (.cells (SC v rest nt).toArray 151 (0, 0)) from f1)
  have hfit := Lh (show 8 + h + k ≤ (SC v rest nt).length by rw [SC_len _ _ _ hrl]; omega)
  have HL := Lh (show (B8 (r.take k)).length = k by rw [B8_len, htl])
  have HK := Lh hkl
  have hsa : ∀ W : World, (Instr.sliceAt 149 (.pointer (some ⟨w.heap.size, 8, none⟩)) (some (.int .i64 (h : Int))) none none).run Tryd.prog W = .ok (.slice (some ⟨w.heap.size, 8 + h, none⟩) (64 - h) (64 - h)) W := by
   intro W
   rw [slice_arr _ h (by omega), if_neg (by omega)]
  have hsl := slice_from (some ⟨g, o, none⟩) r.length c' k hk2 hc
  have hcut := (HR'.out.cut k c' (by rw [B8_len]; exact hk2) (by rw [B8_len]; exact hc))
  rw [show (B8 r).drop k = B8 (r.drop k) by simp [B8]] at hcut
  obtain ⟨A2, hA2⟩ : ∃ A2, A2 = (if c' = k then some (⟨g, o, none⟩ : Addr) else (some (⟨g, o, none⟩ : Addr)).map (·.add k)) := ⟨_, rfl⟩
  rw [← hA2] at hsl hcut
  have HCUT := Lh hcut
  have HA2 := Lh hA2
  clear hcut hA2 hcell hkl hne
  have key : Hid (∃ v2 h2, Part (m ++ (u ++ r.take k)) rest2 h2 v2 ∧ ((h + k = 64 ∧ h2 = 0 ∧ v2 = compress v rest2) ∨ (h + k < 64 ∧ h2 = h + k ∧ v2 = v))) := Lh (by
   rw [← List.append_assoc, hrest2]
   rcases Nat.lt_or_ge (h + k) 64 with hlt' | hge
   ·
    exact ⟨v, h + k, by have := HP'.out.some (r.take k) (by rw [htl]; exact hlt'); rw [htl] at this; exact this, .inr ⟨hlt', rfl, rfl⟩⟩
   ·
    exact ⟨_, 0, HP'.out.full (r.take k) (by rw [htl]; omega), .inl ⟨by omega, rfl, rfl⟩⟩)
  have hr2l : rest2.length = 64 := by rw [hrest2, length_splice _ _ _ (by rw [htl, hrl]; omega)]; exact hrl
  have HR2 := Lh hr2l
  clear hrest2 hrl htl hr2l
  have HU2 : Hid (t = (u ++ r.take k) ++ r.drop k) := Lh (by rw [List.append_assoc, List.take_append_drop]; exact hu.out)
  obtain ⟨v2, h2, hp2, hcase⟩ := key.out
  have HP2 := Lh hp2
  have L0 : ∀ W : World, Blk W w.heap.size 151 (SC v rest2 nt) → Hid (∀ j u, (U32 v.list)[j]? = some u → W.cell? ((⟨w.heap.size, 0, none⟩ : Addr).add j) = some u) := fun W hW => Lh (fun j u hu => by
   rw [Addr.add_lit, Nat.zero_add, hW.cell]; exact SC_words v rest2 nt j u hu)
  have L8 : ∀ W : World, Blk W w.heap.size 151 (SC v rest2 nt) → Hid (∀ j u, (B8 rest2)[j]? = some u → W.cell? ((⟨w.heap.size, 8, none⟩ : Addr).add j) = some u) := fun W hW => Lh (fun j u hu => by
   rw [Addr.add_lit, hW.cell]; exact SC_rest v rest2 nt j u hu)
  have hfit0 := Lh (show 0 + (U32 v2.list).length ≤ (SC v rest2 nt).length by rw [SC_len _ _ _ HR2.out, list8]; omega)
  have g1 : Blk (wr.setRow w.heap.size (SC v rest2 nt).toArray) w.heap.size 151 (SC v rest2 nt) := f1.row _
  have g2 : Blk (wr.setRow w.heap.size (SC v rest2 nt).toArray) (w.heap.size + 1) 151 ZS := f2.setRow (by omega) _
  have g3 := Lh (belowRow HB.out (Nat.le_refl _) (SC v rest2 nt).toArray)
  have g4 := Lh (HR'.out.below (belowRow (Below.refl w.heap.size wr) (Nat.le_refl _) (SC v rest2 nt).toArray))
  have HC2 : Hid (Rd (wr.setRow w.heap.size (SC v rest2 nt).toArray) w.heap.size A2 (B8 (r.drop k))) := Lh (HCUT.out.below (belowRow (Below.refl w.heap.size wr) (Nat.le_refl _) (SC v rest2 nt).toArray))
  obtain ⟨W3, hW3⟩ : ∃ W3, W3 = wr.setRow w.heap.size (SC v rest2 nt).toArray := ⟨_, rfl⟩
  rw [← hW3] at g1 g2 g3 g4 HC2
  have HW3 := Lh hW3
  have TAB := Lh (HT.out.below g3.out HT.out.1)
  have l0 := L0 W3 g1
  have l8 := L8 W3 g1
  clear hW3 L0 L8 key hp2 f1 f2 HB HR' HCUT hu HP'
  by_cases hfull : h + k = 64
  ·
   have ht1 : ((h : Int) + (k : Int) == 64) = true := by rw [beq_iff_eq]; omega
   obtain ⟨rfl, hv2⟩ : h2 = 0 ∧ v2 = compress v rest2 := by
    rcases hcase with ⟨_, a, b⟩ | ⟨a, _, _⟩
    ·
     exact ⟨a, b⟩
    ·
     omega
   have HV2 : Hid (v2.list = (compress v rest2).list) := Lh (by rw [hv2])
   clear hcase hv2
   have HS30 : Hid (v2.list.length = 8) := Lh rfl
   have HG4 : ∀ w4, Hid (Below W3.heap.size W3 w4) → Hid (w4.heap[w.heap.size]? = some (.cells (SC v rest2 nt).toArray 151 (0, 0))) := fun w4 hb => Lh (g1.below hb.out g1.lt)
   go_wp2_with (first
    | (with_reducible refine wpList_copy_at rfl (.tmp 23) (.tmp 24) 39 39 rfl 5 Tryd.underlying39 size5 w.heap.size (8 + h) (64 - h) (64 - h) ⟨g, o, none⟩ r.length c' rfl rfl (SC v rest nt) 151 HF1.out (B8 (r.take k)) k HL.out HK.out Hsrc.out hfit.out (B8_one _) ?_; rw [HSP.out, ← HW3.out])
    | (with_reducible refine wpList_load_at rfl 148 (.tmp 34) rfl ⟨w.heap.size, 0, none⟩ rfl (U32 v.list) (.array 8 147) l0.out Tryd.underlying148 rfl (size30 _ rfl) ?_)
    | (with_reducible refine wpList_load_at rfl 149 (.tmp 36) rfl ⟨w.heap.size, 8, none⟩ rfl (B8 rest2) (.array 64 5) l8.out Tryd.underlying149 rfl (size31 _ HR2.out) ?_)
    | (go_at_call 113; refine (compress_go v rest2 W3 HR2.out TAB.out _ (Lh rfl) v2.list HV2).mono ?_; rintro e w4 ⟨rfl, hb4⟩; have HB4 := Lh hb4; clear hb4; have HG := HG4 w4 HB4)
    | (with_reducible refine wpList_store_at rfl 148 (.tmp 39) (.tmp 38) rfl w.heap.size 0 (U32 v2.list) rfl rfl 151 (SC v rest2 nt) HG.out (size30 _ HS30.out) hfit0.out (U32_each _) ?_; rw [SC_value]))
   go_roundw
   case rel =>
    have hb3 : Below w.heap.size W3 (w4.setRow w.heap.size (SC v2 rest2 nt).toArray) := belowRow (HB4.out.mono (Nat.le_of_lt g1.lt)) (Nat.le_refl _) _
    exact ⟨u ++ r.take k, r.drop k, rest2, v2, 0, A2, c' - k, HU2, HP2, by omega, by rw [List.length_drop]; omega, by rw [List.length_drop]; omega, by rw [List.length_drop], rfl,
     Lh (HC2.out.below hb3), (g1.below HB4.out g1.lt).row _, (g2.below HB4.out g2.lt).setRow (by omega) _, Lh (g3.out.trans hb3)⟩
   case measure => simp only []; omega
  ·
   have ht1 : ((h : Int) + (k : Int) == 64) = false := by rw [beq_eq_false_iff_ne]; omega
   obtain ⟨hlt2, rfl, rfl⟩ : h + k < 64 ∧ h2 = h + k ∧ v2 = v := by
    rcases hcase with ⟨a, _, _⟩ | h
    ·
     omega
    ·
     exact h
   clear hcase
   go_wp2_with (first
    | (with_reducible refine wpList_copy_at rfl (.tmp 23) (.tmp 24) 39 39 rfl 5 Tryd.underlying39 size5 w.heap.size (8 + h) (64 - h) (64 - h) ⟨g, o, none⟩ r.length c' rfl rfl (SC v2 rest nt) 151 HF1.out (B8 (r.take k)) k HL.out HK.out Hsrc.out hfit.out (B8_one _) ?_; rw [HSP.out, ← HW3.out]))
   go_roundw
   case rel =>
    exact ⟨u ++ r.take k, r.drop k, rest2, v2, h + k, A2, c' - k, HU2, HP2, hlt2, by rw [List.length_drop]; omega, by rw [List.length_drop]; omega, by rw [List.length_drop], by go_num,
     HC2, g1, g2, g3⟩
   case measure => simp only []; omega
 ·
  have hr0 : r = [] := List.eq_nil_of_length_eq_zero (by omega)
  have hut : t = u := by rw [hu.out, hr0, List.append_nil]
  have hPm : Part m' rest (nt % 64) v := by
   have h1 := HP'.out
   rw [hm'.out, hut]
   have h2 : h = nt % 64 := by rw [h1.hh, HNT.out, HN.out, hut, List.length_append]
   rw [← h2]; exact h1
  have HPM := Lh hPm
  have hrl := HP'.out.hl
  have HS73 := Lh (SC_len v rest nt hrl)
  have HUS := Lh (show ZS.toArray.size = (SC v rest nt).toArray.size by rw [List.size_toArray, List.size_toArray, SC_len v rest nt hrl]; rfl)
  have F1 := Lh f1.at
  have F2 := Lh (show wr.heap[w.heap.size + 1]? = some (.cells ZS.toArray 151 (0, 0)) from f2)
  have hbel := HB.out
  have hr00 : r.length = 0 := by omega
  clear f1 f2 HB HP' hu hPm hrl hr0 hut
  go_wp2_with (first
   | (with_reducible refine wpList_load_at rfl 151 (.tmp 2) rfl ⟨w.heap.size, 0, none⟩ rfl (SC v rest nt) (.struct #[{ name := "value", type := 148, offset := 0, embedded := false, tag := "", pkgPath := "culprit/hash", byteOffset := 0 }, { name := "rest", type := 149, offset := 8, embedded := false, tag := "", pkgPath := "culprit/hash", byteOffset := 32 }, { name := "size", type := 139, offset := 72, embedded := false, tag := "", pkgPath := "culprit/hash", byteOffset := 96 }]) F1.out Tryd.underlying151 rfl (size34 _ HS73.out) ?_)
   | (with_reducible refine wpList_store_row rfl 151 (.tmp 4) (.tmp 40) rfl (w.heap.size + 1) (SC v rest nt).toArray rfl rfl 151 _ F2.out (size34' _ HS73.out) HUS.out (SC_one _ _ _) ?_))
  refine bodyPost_ret (v := .agg (SC v rest nt).toArray) ?_ rfl ⟨rest, v, rfl, HPM.out, belowRow hbel (by omega) _⟩
  have hr := run_loadVar_row (P := Tryd.prog) _ (w.heap.size + 1) 151 151 (SC v rest nt).toArray (0, 0) (.struct #[{ name := "value", type := 148, offset := 0, embedded := false, tag := "", pkgPath := "culprit/hash", byteOffset := 0 }, { name := "rest", type := 149, offset := 8, embedded := false, tag := "", pkgPath := "culprit/hash", byteOffset := 32 }, { name := "size", type := 139, offset := 72, embedded := false, tag := "", pkgPath := "culprit/hash", byteOffset := 96 }]) (heap_setRow wr (w.heap.size + 1) (SC v rest nt).toArray _ 151 F2.out) Tryd.underlying151 rfl (size34' _ HS73.out)
  simp [results, asAddr, hr, Act.put]
end Go.Proofs.YtofccgkgjcnfbaaDoor
