/-
  The contract of the reference's words.
  Condition: the slice has 64 bytes.
-/
import Derived.Test.YtfagpeacilfaaaaDoorSched
namespace Go.Proofs.YtfagpeacilfaaaaDoor
open Go.RowKit Wr Sh
set_option linter.unusedVariables false
attribute [local go_sem] xor_val and_val or_val add_val add_val' shr_3 shr_10
set_option maxRecDepth 100000 in
set_option maxHeartbeats 4000000 in
theorem words_go (b : List UInt8) (A : Option Addr) (c : Nat) (w : World) (hb : b.length = 64) (hr : Rd w w.heap.size A (B8 b)) (hc : 64 ≤ c) (L : List W) (HL0 : Hid (L = sched b)) :
    Calls Tryd.prog 29 #[.slice A 64 c] w fun e w' => e = .returned (.agg (U32 L).toArray) ∧ Below w.heap.size w w' := by
  obtain ⟨g, o, rfl, hg, hcell⟩ := hr (by intro e; have := congrArg List.length e; rw [B8_len, hb] at this; cases this)
  have Hb := Lib.hid hb
  have HC := Lib.hid hcell
  clear hb hr hcell
  go_enter Tryd.func29, Tryd.ntmps29
  go_wp2
  go_loopw [4] (fun s4 wr => ∃ j : Nat, j ≤ 16 ∧ s4 = .int .i64 j ∧ Blk wr w.heap.size 55 (U32 (List.replicate 64 0)) ∧ Blk wr (w.heap.size + 1) 55 (U32 (part1 b j)) ∧ Below w.heap.size w wr)
    (fun s4 _ => 16 - (intOf s4).toNat)
  case atStart =>
    refine ⟨0, by omega, rfl, ?_, ?_, ?_⟩
    · exact (Blk.new w 55 (U32 (List.replicate 64 0))).alloc _
    · exact Blk.newAt (w.alloc (.cells (U32 (List.replicate 64 0)).toArray 55)) _ 55 (U32 (List.replicate 64 0)) (by simp)
    · exact ((Below.refl _ _).alloc (Nat.le_refl _) _).alloc (by simp) _
  case round =>
    obtain ⟨j, hj, rfl, b2, b3, hbel⟩ := hrel
    by_cases hlt : j < 16
    · have hB := Hb.out
      obtain ⟨m, hm⟩ : ∃ m, m = 4 * j := ⟨_, rfl⟩
      obtain ⟨x0, h0, c0⟩ : ∃ x : UInt8, x = b.getD (m) 0 ∧ wr.cell? ⟨g, o + (m), none⟩ = some (.int .u8 (x.toNat : Int)) := ⟨_, rfl, by rw [hbel.cell (show (⟨g, o + (m), none⟩ : Addr).block < _ from hg)]; exact HC.out _ _ (B8_getD b _ (by omega))⟩
      obtain ⟨x1, h1, c1⟩ : ∃ x : UInt8, x = b.getD (m + 1) 0 ∧ wr.cell? ⟨g, o + (m + 1), none⟩ = some (.int .u8 (x.toNat : Int)) := ⟨_, rfl, by rw [hbel.cell (show (⟨g, o + (m + 1), none⟩ : Addr).block < _ from hg)]; exact HC.out _ _ (B8_getD b _ (by omega))⟩
      obtain ⟨x2, h2, c2⟩ : ∃ x : UInt8, x = b.getD (m + 2) 0 ∧ wr.cell? ⟨g, o + (m + 2), none⟩ = some (.int .u8 (x.toNat : Int)) := ⟨_, rfl, by rw [hbel.cell (show (⟨g, o + (m + 2), none⟩ : Addr).block < _ from hg)]; exact HC.out _ _ (B8_getD b _ (by omega))⟩
      obtain ⟨x3, h3, c3⟩ : ∃ x : UInt8, x = b.getD (m + 3) 0 ∧ wr.cell? ⟨g, o + (m + 3), none⟩ = some (.int .u8 (x.toNat : Int)) := ⟨_, rfl, by rw [hbel.cell (show (⟨g, o + (m + 3), none⟩ : Addr).block < _ from hg)]; exact HC.out _ _ (B8_getD b _ (by omega))⟩
      have H0 := Lib.hid h0; have H1 := Lib.hid h1; have H2 := Lib.hid h2; have H3 := Lib.hid h3
      clear h0 h1 h2 h3
      have q0 : IntKind.i64.wrap (4 * (j : Int)) = (m : Int) := by rw [IntWalk.i64_in _ (by omega)]; omega
      have q1 : IntKind.i64.wrap ((m : Int) + 1) = (m : Int) + 1 := IntWalk.i64_in _ (by omega)
      have q2 : IntKind.i64.wrap ((m : Int) + 2) = (m : Int) + 2 := IntWalk.i64_in _ (by omega)
      have q3 : IntKind.i64.wrap ((m : Int) + 3) = (m : Int) + 3 := IntWalk.i64_in _ (by omega)
      have g0 : (m : Int) < 64 := by omega
      have g1 : (m : Int) + 1 < 64 := by omega
      have g2 : (m : Int) + 2 < 64 := by omega
      have g3 : (m : Int) + 3 < 64 := by omega
      have p1 : 0 ≤ (m : Int) + 1 := by omega
      have p2 : 0 ≤ (m : Int) + 2 := by omega
      have p3 : 0 ≤ (m : Int) + 3 := by omega
      have t1 : ((m : Int) + 1).toNat = m + 1 := by omega
      have t2 : ((m : Int) + 2).toNat = m + 2 := by omega
      have t3 : ((m : Int) + 3).toNat = m + 3 := by omega
      have hj64 : (j : Int) < 64 := by omega
      have Hm := Lib.hid hm
      clear hm hB
      go_wp2
      go_still_tail 35, (by kernel_rfl)
      change wpList _ _ _ _ _ wr.drew
      have hw4 := word4 x0 x1 x2 x3 b j m Hm.out H0.out H1.out H2.out H3.out
      have hc3 : wr.cell? ⟨w.heap.size + 1, j, none⟩ = some (.int .u32 0) := by rw [b3.cell]; exact part1_at b j hlt
      have hf3 : wr.frozen? ⟨w.heap.size + 1, j, none⟩ = false := b3.frozen j
      go_wp2
      go_roundw
      case rel =>
        refine ⟨j + 1, by omega, by go_num, b2.drew.far (by simp) _, ?_, (hbel.drew).setCell (by simp) _⟩
        have := b3.drew.put j (.int .u32 (val (be b j)))
        rw [part1_set b j hlt] at this
        exact this
      case measure => simp only [intOf]; omega
    · rw [show j = 16 by omega, part12] at b3
      go_wp2
      go_loopw [5] (fun s5 wr => ∃ t n : Nat, n ≤ 48 ∧ t = n + 16 ∧ s5 = .int .i64 t ∧ Blk wr w.heap.size 55 (U32 (List.replicate 64 0)) ∧ Blk wr (w.heap.size + 1) 55 (U32 (part2 b n)) ∧ Below w.heap.size w wr)
        (fun s5 _ => 64 - (intOf s5).toNat)
      case atStart => exact ⟨16, 0, by omega, rfl, rfl, b2, b3, hbel⟩
      case round =>
      clear b2 b3 hbel Hb hlt hj
      obtain ⟨t, n, hn0, hn, rfl, b2, b3, hbel⟩ := hrel
      by_cases hlt : t < 64
      · have ht0 : (t : Int) < 64 := by omega
        have ht1 : 16 ≤ t := by omega
        obtain ⟨a16, ha16⟩ : ∃ a : Nat, a = t - 16 := ⟨_, rfl⟩
        obtain ⟨v16, hv16, c16⟩ : ∃ v : W, v = (wl b n).getD (16 + n - 16) 0 ∧ wr.cell? ⟨w.heap.size + 1, a16, none⟩ = some (.int .u32 (val v)) := ⟨_, rfl, by rw [b3.cell, part2_get b n a16 (by omega), ha16, hn, Nat.add_comm n 16]⟩
        have q16 : IntKind.i64.wrap ((t : Int) - 16) = (a16 : Int) := by rw [IntWalk.i64_in _ (by omega)]; omega
        have g16 : (a16 : Int) < 64 := by omega
        have V16 := Lib.hid hv16
        clear hv16 ha16
        obtain ⟨a15, ha15⟩ : ∃ a : Nat, a = t - 15 := ⟨_, rfl⟩
        obtain ⟨v15, hv15, c15⟩ : ∃ v : W, v = (wl b n).getD (16 + n - 15) 0 ∧ wr.cell? ⟨w.heap.size + 1, a15, none⟩ = some (.int .u32 (val v)) := ⟨_, rfl, by rw [b3.cell, part2_get b n a15 (by omega), ha15, hn, Nat.add_comm n 16]⟩
        have q15 : IntKind.i64.wrap ((t : Int) - 15) = (a15 : Int) := by rw [IntWalk.i64_in _ (by omega)]; omega
        have g15 : (a15 : Int) < 64 := by omega
        have V15 := Lib.hid hv15
        clear hv15 ha15
        obtain ⟨a7, ha7⟩ : ∃ a : Nat, a = t - 7 := ⟨_, rfl⟩
        obtain ⟨v7, hv7, c7⟩ : ∃ v : W, v = (wl b n).getD (16 + n - 7) 0 ∧ wr.cell? ⟨w.heap.size + 1, a7, none⟩ = some (.int .u32 (val v)) := ⟨_, rfl, by rw [b3.cell, part2_get b n a7 (by omega), ha7, hn, Nat.add_comm n 16]⟩
        have q7 : IntKind.i64.wrap ((t : Int) - 7) = (a7 : Int) := by rw [IntWalk.i64_in _ (by omega)]; omega
        have g7 : (a7 : Int) < 64 := by omega
        have V7 := Lib.hid hv7
        clear hv7 ha7
        obtain ⟨a2, ha2⟩ : ∃ a : Nat, a = t - 2 := ⟨_, rfl⟩
        obtain ⟨v2, hv2, c2⟩ : ∃ v : W, v = (wl b n).getD (16 + n - 2) 0 ∧ wr.cell? ⟨w.heap.size + 1, a2, none⟩ = some (.int .u32 (val v)) := ⟨_, rfl, by rw [b3.cell, part2_get b n a2 (by omega), ha2, hn, Nat.add_comm n 16]⟩
        have q2 : IntKind.i64.wrap ((t : Int) - 2) = (a2 : Int) := by rw [IntWalk.i64_in _ (by omega)]; omega
        have g2 : (a2 : Int) < 64 := by omega
        have V2 := Lib.hid hv2
        clear hv2 ha2
        have Hn := Lib.hid hn
        clear hn
        go_wp2
        go_quiet (exact Calls.quiet_of (rref_m _ _ _ (by decide)))
        generalize hqwq : wr.drewN nq = wq
        replace c16 : wq.cell? ⟨w.heap.size + 1, a16, none⟩ = some (.int .u32 (val v16)) := by rw [← hqwq]; exact c16
        replace c15 : wq.cell? ⟨w.heap.size + 1, a15, none⟩ = some (.int .u32 (val v15)) := by rw [← hqwq]; exact c15
        replace c7 : wq.cell? ⟨w.heap.size + 1, a7, none⟩ = some (.int .u32 (val v7)) := by rw [← hqwq]; exact c7
        replace c2 : wq.cell? ⟨w.heap.size + 1, a2, none⟩ = some (.int .u32 (val v2)) := by rw [← hqwq]; exact c2
        replace b2 : Blk wq (w.heap.size) 55 (U32 (List.replicate 64 0)) := by rw [← hqwq]; exact b2.drewN _
        replace b3 : Blk wq (w.heap.size + 1) 55 (U32 (part2 b n)) := by rw [← hqwq]; exact b3.drewN _
        replace hbel : Below w.heap.size w wq := by rw [← hqwq]; exact below_drewN hbel _
        clear hqwq nq
        go_wp2
        go_quiet (exact Calls.quiet_of (rref_m _ _ _ (by decide)))
        generalize hqwp : wq.drewN nq = wp
        replace c16 : wp.cell? ⟨w.heap.size + 1, a16, none⟩ = some (.int .u32 (val v16)) := by rw [← hqwp]; exact c16
        replace c15 : wp.cell? ⟨w.heap.size + 1, a15, none⟩ = some (.int .u32 (val v15)) := by rw [← hqwp]; exact c15
        replace c7 : wp.cell? ⟨w.heap.size + 1, a7, none⟩ = some (.int .u32 (val v7)) := by rw [← hqwp]; exact c7
        replace c2 : wp.cell? ⟨w.heap.size + 1, a2, none⟩ = some (.int .u32 (val v2)) := by rw [← hqwp]; exact c2
        replace b2 : Blk wp (w.heap.size) 55 (U32 (List.replicate 64 0)) := by rw [← hqwp]; exact b2.drewN _
        replace b3 : Blk wp (w.heap.size + 1) 55 (U32 (part2 b n)) := by rw [← hqwp]; exact b3.drewN _
        replace hbel : Below w.heap.size w wp := by rw [← hqwp]; exact below_drewN hbel _
        clear hqwp nq
        have hc3 : wp.cell? ⟨w.heap.size + 1, t, none⟩ = some (.int .u32 0) := by rw [b3.cell, Hn.out, Nat.add_comm n 16]; exact part2_at b n (by have := Hn.out; omega)
        have hf3 : wp.frozen? ⟨w.heap.size + 1, t, none⟩ = false := b3.frozen t
        go_wp2
        go_still_tail 15, (by kernel_rfl)
        change wpList _ _ _ _ _ wp.drew
        go_wp2
        go_roundw
        case rel =>
          refine ⟨t + 1, n + 1, by have := Hn.out; omega, by have := Hn.out; omega, by go_num, b2.drew.far (by simp) _, ?_, (hbel.drew).setCell (by simp) _⟩
          have hn := Hn.out
          have := b3.drew.put (16 + n) (.int .u32 (val (ext (wl b n) (16 + n))))
          rw [part2_set b n (by omega)] at this
          rw [show t = 16 + n by omega]
          have hv : ext (wl b n) (16 + n) = v16 + s0 v15 + v7 + s1 v2 := by rw [V16.out, V15.out, V7.out, V2.out]; rfl
          rw [hv] at this
          exact this
        case measure => simp only [intOf]; omega
      · obtain rfl : t = 64 := by omega
        obtain rfl : n = 48 := by omega
        have b4 : Blk wr (w.heap.size + 1) 55 (U32 L) := by rw [HL0.out, ← part2_end]; exact b3
        have B2 := Lib.hid (show wr.heap[w.heap.size]? = some (.cells (U32 (List.replicate 64 0)).toArray 55 (0, 0)) from b2)
        have hl : L.length = 64 := by rw [HL0.out]; exact wl_len b 48
        have HL := Lib.hid hl
        have HS := Lib.hid (show (U32 (List.replicate 64 0)).toArray.size = (U32 L).toArray.size by simp [U32_len, hl])
        have B3 := Lib.hid (b4.at)
        clear b2 b3 b4 hl
        go_wp2_with (first
          | (with_reducible refine wpList_load_at rfl 55 (.tmp 3) rfl ⟨w.heap.size + 1, 0, none⟩ rfl (U32 L) (.array 64 29) B3.out Tryd.underlying55 rfl (size55 _ HL.out) ?_)
          | (with_reducible refine wpList_store_row rfl 55 (.tmp 2) (.tmp 100) rfl (w.heap.size) (U32 L).toArray rfl rfl 55 _ B2.out (size55' _ HL.out) HS.out (U32_one _) ?_))
        refine bodyPost_ret (v := .agg (U32 L).toArray) ?_ rfl ⟨rfl, belowRow hbel (Nat.le_refl _) _⟩
        have hr := run_loadVar_row (P := Tryd.prog) _ (w.heap.size) 55 55 (U32 L).toArray (0, 0) (.array 64 29) (heap_setRow wr (w.heap.size) (U32 L).toArray _ 55 B2.out) Tryd.underlying55 rfl (size55' _ HL.out)
        simp [results, Tryd.results29, asAddr, hr]
theorem words_any (b : List UInt8) (A : Option Addr) (c : Nat) (w : World) (hb : b.length = 64) (hr : Rd w w.heap.size A (B8 b)) (hc : 64 ≤ c) :
    Calls Tryd.prog 29 #[.slice A 64 c] w fun e w' => e = .returned (.agg (U32 (sched b)).toArray) ∧ Below w.heap.size w w' :=
  words_go b A c w hb hr hc _ (Lib.hid rfl)
end Go.Proofs.YtfagpeacilfaaaaDoor
