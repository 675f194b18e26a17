/-
  The contract of hash.schedule.
  No condition.
-/
import Derived.Test.YtofccgkgjcnfbaaDoorRot
import Derived.Test.YtofccgkgjcnfbaaDoorMem
import Derived.StillTailTactics
import Derived.Lib.Hide
import Derived.IntWalk
import Derived.Outline
namespace Go.Proofs.YtofccgkgjcnfbaaDoor
open Go.RowKit Wr Sh
set_option linter.unusedVariables false
def U32 (l : List W) : List Value := l.map fun x => .int .u32 (val x)
theorem wz64 (w : World) : Blk (w.alloc (.cells (U32 (List.replicate 64 0)).toArray 160)) w.heap.size 160 (U32 (List.replicate 64 0)) := Blk.new w 160 _
theorem B8_getD (l : List UInt8) (j : Nat) (h : j < l.length) : (B8 l)[j]? = some (.int .u8 ((l.getD j 0).toNat : Int)) := by
  rw [B8_get l j h, List.getD_eq_getElem?_getD, List.getElem?_eq_getElem h]; rfl
theorem U32_len (l : List W) : (U32 l).length = l.length := by simp [U32]
theorem U32_one (l : List W) : (U32 l).toArray.all (·.oneCell') = true := by
  simp only [List.all_toArray, List.all_eq_true]
  intro u hu
  obtain ⟨_, _, rfl⟩ := List.mem_map.1 hu
  rfl
theorem size55 (l : List W) (h : l.length = 64) : (Tryd.prog.info? 160).map (·.size) = some (U32 l).length := by
  rw [U32_len, h]; kernel_rfl
theorem size55' (l : List W) (h : l.length = 64) : (Tryd.prog.info? 160).map (·.size) = some (U32 l).toArray.size := size55 l h
/-- The first words laid, the rest zero. -/
def part1 (b : List UInt8) (j : Nat) : List W := (List.range j).map (be b) ++ List.replicate (64 - j) 0

theorem part1_at (b : List UInt8) (j : Nat) (h : j < 16) : (U32 (part1 b j))[j]? = some (.int .u32 0) := by
  unfold U32 part1
  rw [List.getElem?_map, List.getElem?_append_right (by simp)]
  simp [List.getElem?_replicate, val]
  omega
theorem part1_set (b : List UInt8) (j : Nat) (h : j < 16) : (U32 (part1 b j)).set j (.int .u32 (val (be b j))) = U32 (part1 b (j + 1)) := by
  unfold U32 part1
  have e : 64 - j = (64 - (j + 1)) + 1 := by omega
  rw [List.range_succ, List.map_append (f := be b), e, List.replicate_succ, List.map_append, List.set_append_right _ _ (by simp)]
  simp
theorem wl_len (b : List UInt8) (n : Nat) : (wl b n).length = 16 + n := by
  induction n with
  | zero => simp [wl]
  | succ n ih => simp [wl, ih]; omega
/-- The first 16 + n words laid, the rest zero. -/
def part2 (b : List UInt8) (n : Nat) : List W := wl b n ++ List.replicate (48 - n) 0
theorem part12 (b : List UInt8) : part1 b 16 = part2 b 0 := rfl
theorem part2_end (b : List UInt8) : part2 b 48 = sched b := by simp [part2, sched]
theorem part2_get (b : List UInt8) (n t : Nat) (h : t < 16 + n) : (U32 (part2 b n))[t]? = some (.int .u32 (val ((wl b n).getD t 0))) := by
  unfold U32 part2
  have hl : t < (wl b n).length := by rw [wl_len]; exact h
  rw [List.getElem?_map, List.getElem?_append_left hl, List.getD_eq_getElem?_getD, List.getElem?_eq_getElem hl]
  rfl
theorem part2_at (b : List UInt8) (n : Nat) (h : n < 48) : (U32 (part2 b n))[16 + n]? = some (.int .u32 0) := by
  unfold U32 part2
  rw [List.getElem?_map, List.getElem?_append_right (by rw [wl_len]; omega), wl_len]
  simp [List.getElem?_replicate, val]
  omega
theorem part2_set (b : List UInt8) (n : Nat) (h : n < 48) : (U32 (part2 b n)).set (16 + n) (.int .u32 (val (ext (wl b n) (16 + n)))) = U32 (part2 b (n + 1)) := by
  unfold U32 part2
  have e : 48 - n = (48 - (n + 1)) + 1 := by omega
  have hl := wl_len b n
  rw [wl, e, List.replicate_succ, List.map_append, List.set_append_right _ _ (by simp [hl])]
  simp [hl]
theorem word4 (x0 x1 x2 x3 : UInt8) (b : List UInt8) (j m : Nat) (hm : m = 4 * j) (h0 : x0 = b.getD m 0) (h1 : x1 = b.getD (m + 1) 0) (h2 : x2 = b.getD (m + 2) 0) (h3 : x3 = b.getD (m + 3) 0) :
    bits .or .u32 (bits .or .u32 (bits .or .u32 (IntKind.u32.wrap (IntKind.u32.wrap (x0.toNat : Int) * 16777216)) (IntKind.u32.wrap (IntKind.u32.wrap (x1.toNat : Int) * 65536)))
      (IntKind.u32.wrap (IntKind.u32.wrap (x2.toNat : Int) * 256))) (IntKind.u32.wrap (x3.toNat : Int)) = (val (be b j)) := by
  have hn : ∀ x : UInt8, IntKind.u32.wrap (x.toNat : Int) = val (BitVec.ofNat 32 x.toNat) := by
    intro x
    unfold val
    rw [wrap_nat, BitVec.toNat_ofNat]
  have hs : ∀ (y : BitVec 32) (k p : Nat), p = 2 ^ k → IntKind.u32.wrap (val y * (p : Int)) = val (y <<< k) := by
    intro y k p hp
    rw [IntKind.wrap_u32', shl_val y k p hp]
  rw [hn, hn, hn, hn, show (16777216 : Int) = ((16777216 : Nat) : Int) from rfl, show (65536 : Int) = ((65536 : Nat) : Int) from rfl, show (256 : Int) = ((256 : Nat) : Int) from rfl,
    hs _ 24 _ rfl, hs _ 16 _ rfl, hs _ 8 _ rfl, or_val, or_val, or_val]
  subst hm h0 h1 h2 h3
  rfl
attribute [local go_sem] xor_val and_val or_val add_val add_val' shr_3 shr_10
set_option maxRecDepth 100000 in
set_option maxHeartbeats 4000000 in
theorem schedule_go (b : List UInt8) (w : World) (hb : b.length = 64) (L : List W) (HL0 : Hid (L = sched b)) :
    Calls Tryd.prog 115 #[.agg (B8 b).toArray] w fun e w' => e = .returned (.agg (U32 L).toArray) ∧ Below w.heap.size w w' := by
  have Hb := Lib.hid hb
  clear hb
  go_enter Tryd.func115, Tryd.ntmps115
  go_wp2
  go_loopw [8] (fun s8 wr => ∃ j : Nat, j ≤ 16 ∧ s8 = .int .i64 j ∧ Blk wr w.heap.size 149 (B8 b) ∧ Blk wr (w.heap.size + 1) 160 (U32 (List.replicate 64 0)) ∧ Blk wr (w.heap.size + 1 + 1) 160 (U32 (part1 b j)) ∧ Below w.heap.size w wr)
    (fun s8 _ => 16 - (intOf s8).toNat)
  case atStart =>
    refine ⟨0, by omega, rfl, ?_, ?_, ?_, ?_⟩
    · exact ((Blk.new w 149 (B8 b)).alloc _).alloc _
    · exact (Blk.newAt (w.alloc (.cells (B8 b).toArray 149)) _ 160 (U32 (List.replicate 64 0)) (by simp)).alloc _
    · exact Blk.newAt ((w.alloc (.cells (B8 b).toArray 149)).alloc (.cells (U32 (List.replicate 64 0)).toArray 160)) _ 160 (U32 (List.replicate 64 0)) (by simp)
    · exact (((Below.refl _ _).alloc (Nat.le_refl _) _).alloc (by simp) _).alloc (by simp; omega) _
  case round =>
    obtain ⟨j, hj, rfl, b1, b2, b3, hbel⟩ := hrel
    by_cases hlt : j < 16
    · have hB := Hb.out
      obtain ⟨m, hm⟩ : ∃ m, m = 4 * j := ⟨_, rfl⟩
      obtain ⟨x0, h0, c0⟩ : ∃ x : UInt8, x = b.getD (m) 0 ∧ wr.cell? ⟨w.heap.size, m, none⟩ = some (.int .u8 (x.toNat : Int)) := ⟨_, rfl, by rw [b1.cell, B8_getD b _ (by omega)]⟩
      obtain ⟨x1, h1, c1⟩ : ∃ x : UInt8, x = b.getD (m + 1) 0 ∧ wr.cell? ⟨w.heap.size, m + 1, none⟩ = some (.int .u8 (x.toNat : Int)) := ⟨_, rfl, by rw [b1.cell, B8_getD b _ (by omega)]⟩
      obtain ⟨x2, h2, c2⟩ : ∃ x : UInt8, x = b.getD (m + 2) 0 ∧ wr.cell? ⟨w.heap.size, m + 2, none⟩ = some (.int .u8 (x.toNat : Int)) := ⟨_, rfl, by rw [b1.cell, B8_getD b _ (by omega)]⟩
      obtain ⟨x3, h3, c3⟩ : ∃ x : UInt8, x = b.getD (m + 3) 0 ∧ wr.cell? ⟨w.heap.size, m + 3, none⟩ = some (.int .u8 (x.toNat : Int)) := ⟨_, rfl, by rw [b1.cell, B8_getD b _ (by omega)]⟩
      have H0 := Lib.hid h0; have H1 := Lib.hid h1; have H2 := Lib.hid h2; have H3 := Lib.hid h3
      clear h0 h1 h2 h3
      have q0 : IntKind.i64.wrap (4 * (j : Int)) = (m : Int) := by rw [IntWalk.i64_in _ (by omega)]; omega
      have q1 : IntKind.i64.wrap ((m : Int) + 1) = (m : Int) + 1 := IntWalk.i64_in _ (by omega)
      have q2 : IntKind.i64.wrap ((m : Int) + 2) = (m : Int) + 2 := IntWalk.i64_in _ (by omega)
      have q3 : IntKind.i64.wrap ((m : Int) + 3) = (m : Int) + 3 := IntWalk.i64_in _ (by omega)
      have g0 : (m : Int) < 64 := by omega
      have g1 : (m : Int) + 1 < 64 := by omega
      have g2 : (m : Int) + 2 < 64 := by omega
      have g3 : (m : Int) + 3 < 64 := by omega
      have p1 : 0 ≤ (m : Int) + 1 := by omega
      have p2 : 0 ≤ (m : Int) + 2 := by omega
      have p3 : 0 ≤ (m : Int) + 3 := by omega
      have t1 : ((m : Int) + 1).toNat = m + 1 := by omega
      have t2 : ((m : Int) + 2).toNat = m + 2 := by omega
      have t3 : ((m : Int) + 3).toNat = m + 3 := by omega
      have hj64 : (j : Int) < 64 := by omega
      have Hm := Lib.hid hm
      clear hm hB
      go_wp2
      go_still_tail 31, (by kernel_rfl)
      change wpList _ _ _ _ _ wr.drew
      have hw4 := word4 x0 x1 x2 x3 b j m Hm.out H0.out H1.out H2.out H3.out
      have hc3 : wr.cell? ⟨w.heap.size + 1 + 1, j, none⟩ = some (.int .u32 0) := by rw [b3.cell]; exact part1_at b j hlt
      have hf3 : wr.frozen? ⟨w.heap.size + 1 + 1, j, none⟩ = false := b3.frozen j
      go_wp2
      go_roundw
      case rel =>
        refine ⟨j + 1, by omega, by go_num, b1.drew.far (by simp; omega) _, b2.drew.far (by simp) _, ?_, (hbel.drew).setCell (by simp; omega) _⟩
        have := b3.drew.put j (.int .u32 (val (be b j)))
        rw [part1_set b j hlt] at this
        exact this
      case measure => simp only [intOf]; omega
    · rw [show j = 16 by omega, part12] at b3
      go_wp2
      go_loopw [5] (fun s5 wr => ∃ t n : Nat, n ≤ 48 ∧ t = n + 16 ∧ s5 = .int .i64 t ∧ Blk wr w.heap.size 149 (B8 b) ∧ Blk wr (w.heap.size + 1) 160 (U32 (List.replicate 64 0)) ∧ Blk wr (w.heap.size + 1 + 1) 160 (U32 (part2 b n)) ∧ Below w.heap.size w wr)
        (fun s5 _ => 64 - (intOf s5).toNat)
      case atStart => exact ⟨16, 0, by omega, rfl, rfl, b1, b2, b3, hbel⟩
      case round =>
      clear b1 b2 b3 hbel Hb hlt hj
      obtain ⟨t, n, hn0, hn, rfl, b1, b2, b3, hbel⟩ := hrel
      by_cases hlt : t < 64
      · have ht0 : (t : Int) < 64 := by omega
        have ht1 : 16 ≤ t := by omega
        obtain ⟨a16, ha16⟩ : ∃ a : Nat, a = t - 16 := ⟨_, rfl⟩
        obtain ⟨v16, hv16, c16⟩ : ∃ v : W, v = (wl b n).getD (16 + n - 16) 0 ∧ wr.cell? ⟨w.heap.size + 1 + 1, a16, none⟩ = some (.int .u32 (val v)) := ⟨_, rfl, by rw [b3.cell, part2_get b n a16 (by omega), ha16, hn, Nat.add_comm n 16]⟩
        have q16 : IntKind.i64.wrap ((t : Int) - 16) = (a16 : Int) := by rw [IntWalk.i64_in _ (by omega)]; omega
        have g16 : (a16 : Int) < 64 := by omega
        have V16 := Lib.hid hv16
        clear hv16 ha16
        obtain ⟨a15, ha15⟩ : ∃ a : Nat, a = t - 15 := ⟨_, rfl⟩
        obtain ⟨v15, hv15, c15⟩ : ∃ v : W, v = (wl b n).getD (16 + n - 15) 0 ∧ wr.cell? ⟨w.heap.size + 1 + 1, a15, none⟩ = some (.int .u32 (val v)) := ⟨_, rfl, by rw [b3.cell, part2_get b n a15 (by omega), ha15, hn, Nat.add_comm n 16]⟩
        have q15 : IntKind.i64.wrap ((t : Int) - 15) = (a15 : Int) := by rw [IntWalk.i64_in _ (by omega)]; omega
        have g15 : (a15 : Int) < 64 := by omega
        have V15 := Lib.hid hv15
        clear hv15 ha15
        obtain ⟨a7, ha7⟩ : ∃ a : Nat, a = t - 7 := ⟨_, rfl⟩
        obtain ⟨v7, hv7, c7⟩ : ∃ v : W, v = (wl b n).getD (16 + n - 7) 0 ∧ wr.cell? ⟨w.heap.size + 1 + 1, a7, none⟩ = some (.int .u32 (val v)) := ⟨_, rfl, by rw [b3.cell, part2_get b n a7 (by omega), ha7, hn, Nat.add_comm n 16]⟩
        have q7 : IntKind.i64.wrap ((t : Int) - 7) = (a7 : Int) := by rw [IntWalk.i64_in _ (by omega)]; omega
        have g7 : (a7 : Int) < 64 := by omega
        have V7 := Lib.hid hv7
        clear hv7 ha7
        obtain ⟨a2, ha2⟩ : ∃ a : Nat, a = t - 2 := ⟨_, rfl⟩
        obtain ⟨v2, hv2, c2⟩ : ∃ v : W, v = (wl b n).getD (16 + n - 2) 0 ∧ wr.cell? ⟨w.heap.size + 1 + 1, a2, none⟩ = some (.int .u32 (val v)) := ⟨_, rfl, by rw [b3.cell, part2_get b n a2 (by omega), ha2, hn, Nat.add_comm n 16]⟩
        have q2 : IntKind.i64.wrap ((t : Int) - 2) = (a2 : Int) := by rw [IntWalk.i64_in _ (by omega)]; omega
        have g2 : (a2 : Int) < 64 := by omega
        have V2 := Lib.hid hv2
        clear hv2 ha2
        have Hn := Lib.hid hn
        clear hn
        go_wp2
        go_quiet (exact Calls.quiet_of_same (rots_m _ _ _ (by decide)))
        generalize hqwq : wr.drewN nq = wq
        replace c16 : wq.cell? ⟨w.heap.size + 1 + 1, a16, none⟩ = some (.int .u32 (val v16)) := by rw [← hqwq]; exact c16
        replace c15 : wq.cell? ⟨w.heap.size + 1 + 1, a15, none⟩ = some (.int .u32 (val v15)) := by rw [← hqwq]; exact c15
        replace c7 : wq.cell? ⟨w.heap.size + 1 + 1, a7, none⟩ = some (.int .u32 (val v7)) := by rw [← hqwq]; exact c7
        replace c2 : wq.cell? ⟨w.heap.size + 1 + 1, a2, none⟩ = some (.int .u32 (val v2)) := by rw [← hqwq]; exact c2
        replace b1 : Blk wq w.heap.size 149 (B8 b) := by rw [← hqwq]; exact b1.drewN _
        replace b2 : Blk wq (w.heap.size + 1) 160 (U32 (List.replicate 64 0)) := by rw [← hqwq]; exact b2.drewN _
        replace b3 : Blk wq (w.heap.size + 1 + 1) 160 (U32 (part2 b n)) := by rw [← hqwq]; exact b3.drewN _
        replace hbel : Below w.heap.size w wq := by rw [← hqwq]; exact below_drewN hbel _
        clear hqwq nq
        go_wp2
        go_quiet (exact Calls.quiet_of_same (rots_m _ _ _ (by decide)))
        generalize hqwp : wq.drewN nq = wp
        replace c16 : wp.cell? ⟨w.heap.size + 1 + 1, a16, none⟩ = some (.int .u32 (val v16)) := by rw [← hqwp]; exact c16
        replace c15 : wp.cell? ⟨w.heap.size + 1 + 1, a15, none⟩ = some (.int .u32 (val v15)) := by rw [← hqwp]; exact c15
        replace c7 : wp.cell? ⟨w.heap.size + 1 + 1, a7, none⟩ = some (.int .u32 (val v7)) := by rw [← hqwp]; exact c7
        replace c2 : wp.cell? ⟨w.heap.size + 1 + 1, a2, none⟩ = some (.int .u32 (val v2)) := by rw [← hqwp]; exact c2
        replace b1 : Blk wp w.heap.size 149 (B8 b) := by rw [← hqwp]; exact b1.drewN _
        replace b2 : Blk wp (w.heap.size + 1) 160 (U32 (List.replicate 64 0)) := by rw [← hqwp]; exact b2.drewN _
        replace b3 : Blk wp (w.heap.size + 1 + 1) 160 (U32 (part2 b n)) := by rw [← hqwp]; exact b3.drewN _
        replace hbel : Below w.heap.size w wp := by rw [← hqwp]; exact below_drewN hbel _
        clear hqwp nq
        have hc3 : wp.cell? ⟨w.heap.size + 1 + 1, t, none⟩ = some (.int .u32 0) := by rw [b3.cell, Hn.out, Nat.add_comm n 16]; exact part2_at b n (by have := Hn.out; omega)
        have hf3 : wp.frozen? ⟨w.heap.size + 1 + 1, t, none⟩ = false := b3.frozen t
        go_wp2
        go_still_tail 15, (by kernel_rfl)
        change wpList _ _ _ _ _ wp.drew
        go_wp2
        go_roundw
        case rel =>
          refine ⟨t + 1, n + 1, by have := Hn.out; omega, by have := Hn.out; omega, by go_num, b1.drew.far (by simp; omega) _, b2.drew.far (by simp) _, ?_, (hbel.drew).setCell (by simp; omega) _⟩
          have hn := Hn.out
          have := b3.drew.put (16 + n) (.int .u32 (val (ext (wl b n) (16 + n))))
          rw [part2_set b n (by omega)] at this
          rw [show t = 16 + n by omega]
          have hv : ext (wl b n) (16 + n) = v16 + s0 v15 + v7 + s1 v2 := by rw [V16.out, V15.out, V7.out, V2.out]; rfl
          rw [hv] at this
          exact this
        case measure => simp only [intOf]; omega
      · obtain rfl : t = 64 := by omega
        obtain rfl : n = 48 := by omega
        have b4 : Blk wr (w.heap.size + 1 + 1) 160 (U32 L) := by rw [HL0.out, ← part2_end]; exact b3
        have B2 := Lib.hid (show wr.heap[w.heap.size + 1]? = some (.cells (U32 (List.replicate 64 0)).toArray 160 (0, 0)) from b2)
        have hl : L.length = 64 := by rw [HL0.out]; exact wl_len b 48
        have HL := Lib.hid hl
        have HS := Lib.hid (show (U32 (List.replicate 64 0)).toArray.size = (U32 L).toArray.size by simp [U32_len, hl])
        have B3 := Lib.hid (b4.at)
        clear b1 b2 b3 b4 hl
        go_wp2_with (first
          | (with_reducible refine wpList_load_at rfl 160 (.tmp 3) rfl ⟨w.heap.size + 1 + 1, 0, none⟩ rfl (U32 L) (.array 64 147) B3.out Tryd.underlying160 rfl (size55 _ HL.out) ?_)
          | (with_reducible refine wpList_store_row rfl 160 (.tmp 2) (.tmp 96) rfl (w.heap.size + 1) (U32 L).toArray rfl rfl 160 _ B2.out (size55' _ HL.out) HS.out (U32_one _) ?_))
        refine bodyPost_ret (v := .agg (U32 L).toArray) ?_ rfl ⟨rfl, belowRow hbel (by omega) _⟩
        have hr := run_loadVar_row (P := Tryd.prog) _ (w.heap.size + 1) 160 160 (U32 L).toArray (0, 0) (.array 64 147) (heap_setRow wr (w.heap.size + 1) (U32 L).toArray _ 160 B2.out) Tryd.underlying160 rfl (size55' _ HL.out)
        simp [results, asAddr, hr]
theorem schedule_any (b : List UInt8) (w : World) (hb : b.length = 64) :
    Calls Tryd.prog 115 #[.agg (B8 b).toArray] w fun e w' => e = .returned (.agg (U32 (sched b)).toArray) ∧ Below w.heap.size w w' :=
  schedule_go b w hb _ (Lib.hid rfl)
end Go.Proofs.YtofccgkgjcnfbaaDoor
