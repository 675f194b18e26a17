/-
  The reference's words and padded (layer 2); an append of bytes that can be read.
  Conditions: lengths.
-/
import Derived.Test.YtgonidjajmjniaaDoorSched
import Derived.Test.YtgonidjajmjniaaDoorOf
import Derived.Lib.AppendZeros
import Derived.OwnWalk
namespace Go.Proofs.YtgonidjajmjniaaDoor
open Go.RowKit Wr Sh
set_option linter.unusedVariables false
set_option maxRecDepth 100000
attribute [local go_sem] xor_val and_val or_val add_val add_val' shr_3 shr_10
set_option maxRecDepth 100000 in
set_option maxHeartbeats 4000000 in
theorem words_go (b : List UInt8) (A : Option Addr) (c : Nat) (w : World) (hb : b.length = 64) (hr : Rd w w.heap.size A (B8 b)) (hc : 64 ≤ c) (L : List W) (HL0 : Hid (L = sched b)) :
    Calls Tryd.prog 70 #[.slice A 64 c] w fun e w' => e = .returned (.agg (U32 L).toArray) ∧ Below w.heap.size w w' := by
  obtain ⟨g, o, rfl, hg, hcell⟩ := hr (by intro e; have := congrArg List.length e; rw [B8_len, hb] at this; cases this)
  have Hb := Lib.hid hb
  have HC := Lib.hid hcell
  clear hb hr hcell
  go_enter Tryd.func70, Tryd.ntmps70
  go_wp2
  go_loopw [4] (fun s4 wr => ∃ j : Nat, j ≤ 16 ∧ s4 = .int .i64 j ∧ Blk wr w.heap.size 100 (U32 (List.replicate 64 0)) ∧ Blk wr (w.heap.size + 1) 100 (U32 (part1 b j)) ∧ Below w.heap.size w wr)
    (fun s4 _ => 16 - (intOf s4).toNat)
  case atStart =>
    refine ⟨0, by omega, rfl, ?_, ?_, ?_⟩
    · exact (Blk.new w 100 (U32 (List.replicate 64 0))).alloc _
    · exact Blk.newAt (w.alloc (.cells (U32 (List.replicate 64 0)).toArray 100)) _ 100 (U32 (List.replicate 64 0)) (by simp)
    · exact ((Below.refl _ _).alloc (Nat.le_refl _) _).alloc (by simp) _
  case round =>
    obtain ⟨j, hj, rfl, b2, b3, hbel⟩ := hrel
    by_cases hlt : j < 16
    · have hB := Hb.out
      obtain ⟨m, hm⟩ : ∃ m, m = 4 * j := ⟨_, rfl⟩
      obtain ⟨x0, h0, c0⟩ : ∃ x : UInt8, x = b.getD (m) 0 ∧ wr.cell? ⟨g, o + (m), none⟩ = some (.int .u8 (x.toNat : Int)) := ⟨_, rfl, by rw [hbel.cell (show (⟨g, o + (m), none⟩ : Addr).block < _ from hg)]; exact HC.out _ _ (B8_getD b _ (by omega))⟩
      obtain ⟨x1, h1, c1⟩ : ∃ x : UInt8, x = b.getD (m + 1) 0 ∧ wr.cell? ⟨g, o + (m + 1), none⟩ = some (.int .u8 (x.toNat : Int)) := ⟨_, rfl, by rw [hbel.cell (show (⟨g, o + (m + 1), none⟩ : Addr).block < _ from hg)]; exact HC.out _ _ (B8_getD b _ (by omega))⟩
      obtain ⟨x2, h2, c2⟩ : ∃ x : UInt8, x = b.getD (m + 2) 0 ∧ wr.cell? ⟨g, o + (m + 2), none⟩ = some (.int .u8 (x.toNat : Int)) := ⟨_, rfl, by rw [hbel.cell (show (⟨g, o + (m + 2), none⟩ : Addr).block < _ from hg)]; exact HC.out _ _ (B8_getD b _ (by omega))⟩
      obtain ⟨x3, h3, c3⟩ : ∃ x : UInt8, x = b.getD (m + 3) 0 ∧ wr.cell? ⟨g, o + (m + 3), none⟩ = some (.int .u8 (x.toNat : Int)) := ⟨_, rfl, by rw [hbel.cell (show (⟨g, o + (m + 3), none⟩ : Addr).block < _ from hg)]; exact HC.out _ _ (B8_getD b _ (by omega))⟩
      have H0 := Lib.hid h0; have H1 := Lib.hid h1; have H2 := Lib.hid h2; have H3 := Lib.hid h3
      clear h0 h1 h2 h3
      have q0 : IntKind.i64.wrap (4 * (j : Int)) = (m : Int) := by rw [IntWalk.i64_in _ (by omega)]; omega
      have q1 : IntKind.i64.wrap ((m : Int) + 1) = (m : Int) + 1 := IntWalk.i64_in _ (by omega)
      have q2 : IntKind.i64.wrap ((m : Int) + 2) = (m : Int) + 2 := IntWalk.i64_in _ (by omega)
      have q3 : IntKind.i64.wrap ((m : Int) + 3) = (m : Int) + 3 := IntWalk.i64_in _ (by omega)
      have g0 : (m : Int) < 64 := by omega
      have g1 : (m : Int) + 1 < 64 := by omega
      have g2 : (m : Int) + 2 < 64 := by omega
      have g3 : (m : Int) + 3 < 64 := by omega
      have p1 : 0 ≤ (m : Int) + 1 := by omega
      have p2 : 0 ≤ (m : Int) + 2 := by omega
      have p3 : 0 ≤ (m : Int) + 3 := by omega
      have t1 : ((m : Int) + 1).toNat = m + 1 := by omega
      have t2 : ((m : Int) + 2).toNat = m + 2 := by omega
      have t3 : ((m : Int) + 3).toNat = m + 3 := by omega
      have hj64 : (j : Int) < 64 := by omega
      have Hm := Lib.hid hm
      clear hm hB
      go_wp2
      go_still_tail 35, (by kernel_rfl)
      change wpList _ _ _ _ _ wr.drew
      have hw4 := word4 x0 x1 x2 x3 b j m Hm.out H0.out H1.out H2.out H3.out
      have hc3 : wr.cell? ⟨w.heap.size + 1, j, none⟩ = some (.int .u32 0) := by rw [b3.cell]; exact part1_at b j hlt
      have hf3 : wr.frozen? ⟨w.heap.size + 1, j, none⟩ = false := b3.frozen j
      go_wp2
      go_roundw
      case rel =>
        refine ⟨j + 1, by omega, by go_num, b2.drew.far (by simp) _, ?_, (hbel.drew).setCell (by simp) _⟩
        have := b3.drew.put j (.int .u32 (val (be b j)))
        rw [part1_set b j hlt] at this
        exact this
      case measure => simp only [intOf]; omega
    · rw [show j = 16 by omega, part12] at b3
      go_wp2
      go_loopw [5] (fun s5 wr => ∃ t n : Nat, n ≤ 48 ∧ t = n + 16 ∧ s5 = .int .i64 t ∧ Blk wr w.heap.size 100 (U32 (List.replicate 64 0)) ∧ Blk wr (w.heap.size + 1) 100 (U32 (part2 b n)) ∧ Below w.heap.size w wr)
        (fun s5 _ => 64 - (intOf s5).toNat)
      case atStart => exact ⟨16, 0, by omega, rfl, rfl, b2, b3, hbel⟩
      case round =>
      clear b2 b3 hbel Hb hlt hj
      obtain ⟨t, n, hn0, hn, rfl, b2, b3, hbel⟩ := hrel
      by_cases hlt : t < 64
      · have ht0 : (t : Int) < 64 := by omega
        have ht1 : 16 ≤ t := by omega
        obtain ⟨a16, ha16⟩ : ∃ a : Nat, a = t - 16 := ⟨_, rfl⟩
        obtain ⟨v16, hv16, c16⟩ : ∃ v : W, v = (wl b n).getD (16 + n - 16) 0 ∧ wr.cell? ⟨w.heap.size + 1, a16, none⟩ = some (.int .u32 (val v)) := ⟨_, rfl, by rw [b3.cell, part2_get b n a16 (by omega), ha16, hn, Nat.add_comm n 16]⟩
        have q16 : IntKind.i64.wrap ((t : Int) - 16) = (a16 : Int) := by rw [IntWalk.i64_in _ (by omega)]; omega
        have g16 : (a16 : Int) < 64 := by omega
        have V16 := Lib.hid hv16
        clear hv16 ha16
        obtain ⟨a15, ha15⟩ : ∃ a : Nat, a = t - 15 := ⟨_, rfl⟩
        obtain ⟨v15, hv15, c15⟩ : ∃ v : W, v = (wl b n).getD (16 + n - 15) 0 ∧ wr.cell? ⟨w.heap.size + 1, a15, none⟩ = some (.int .u32 (val v)) := ⟨_, rfl, by rw [b3.cell, part2_get b n a15 (by omega), ha15, hn, Nat.add_comm n 16]⟩
        have q15 : IntKind.i64.wrap ((t : Int) - 15) = (a15 : Int) := by rw [IntWalk.i64_in _ (by omega)]; omega
        have g15 : (a15 : Int) < 64 := by omega
        have V15 := Lib.hid hv15
        clear hv15 ha15
        obtain ⟨a7, ha7⟩ : ∃ a : Nat, a = t - 7 := ⟨_, rfl⟩
        obtain ⟨v7, hv7, c7⟩ : ∃ v : W, v = (wl b n).getD (16 + n - 7) 0 ∧ wr.cell? ⟨w.heap.size + 1, a7, none⟩ = some (.int .u32 (val v)) := ⟨_, rfl, by rw [b3.cell, part2_get b n a7 (by omega), ha7, hn, Nat.add_comm n 16]⟩
        have q7 : IntKind.i64.wrap ((t : Int) - 7) = (a7 : Int) := by rw [IntWalk.i64_in _ (by omega)]; omega
        have g7 : (a7 : Int) < 64 := by omega
        have V7 := Lib.hid hv7
        clear hv7 ha7
        obtain ⟨a2, ha2⟩ : ∃ a : Nat, a = t - 2 := ⟨_, rfl⟩
        obtain ⟨v2, hv2, c2⟩ : ∃ v : W, v = (wl b n).getD (16 + n - 2) 0 ∧ wr.cell? ⟨w.heap.size + 1, a2, none⟩ = some (.int .u32 (val v)) := ⟨_, rfl, by rw [b3.cell, part2_get b n a2 (by omega), ha2, hn, Nat.add_comm n 16]⟩
        have q2 : IntKind.i64.wrap ((t : Int) - 2) = (a2 : Int) := by rw [IntWalk.i64_in _ (by omega)]; omega
        have g2 : (a2 : Int) < 64 := by omega
        have V2 := Lib.hid hv2
        clear hv2 ha2
        have Hn := Lib.hid hn
        clear hn
        go_wp2
        go_quiet (exact Calls.quiet_of (rref_m _ _ _ (by decide)))
        generalize hqwq : wr.drewN nq = wq
        replace c16 : wq.cell? ⟨w.heap.size + 1, a16, none⟩ = some (.int .u32 (val v16)) := by rw [← hqwq]; exact c16
        replace c15 : wq.cell? ⟨w.heap.size + 1, a15, none⟩ = some (.int .u32 (val v15)) := by rw [← hqwq]; exact c15
        replace c7 : wq.cell? ⟨w.heap.size + 1, a7, none⟩ = some (.int .u32 (val v7)) := by rw [← hqwq]; exact c7
        replace c2 : wq.cell? ⟨w.heap.size + 1, a2, none⟩ = some (.int .u32 (val v2)) := by rw [← hqwq]; exact c2
        replace b2 : Blk wq (w.heap.size) 100 (U32 (List.replicate 64 0)) := by rw [← hqwq]; exact b2.drewN _
        replace b3 : Blk wq (w.heap.size + 1) 100 (U32 (part2 b n)) := by rw [← hqwq]; exact b3.drewN _
        replace hbel : Below w.heap.size w wq := by rw [← hqwq]; exact below_drewN hbel _
        clear hqwq nq
        go_wp2
        go_quiet (exact Calls.quiet_of (rref_m _ _ _ (by decide)))
        generalize hqwp : wq.drewN nq = wp
        replace c16 : wp.cell? ⟨w.heap.size + 1, a16, none⟩ = some (.int .u32 (val v16)) := by rw [← hqwp]; exact c16
        replace c15 : wp.cell? ⟨w.heap.size + 1, a15, none⟩ = some (.int .u32 (val v15)) := by rw [← hqwp]; exact c15
        replace c7 : wp.cell? ⟨w.heap.size + 1, a7, none⟩ = some (.int .u32 (val v7)) := by rw [← hqwp]; exact c7
        replace c2 : wp.cell? ⟨w.heap.size + 1, a2, none⟩ = some (.int .u32 (val v2)) := by rw [← hqwp]; exact c2
        replace b2 : Blk wp (w.heap.size) 100 (U32 (List.replicate 64 0)) := by rw [← hqwp]; exact b2.drewN _
        replace b3 : Blk wp (w.heap.size + 1) 100 (U32 (part2 b n)) := by rw [← hqwp]; exact b3.drewN _
        replace hbel : Below w.heap.size w wp := by rw [← hqwp]; exact below_drewN hbel _
        clear hqwp nq
        have hc3 : wp.cell? ⟨w.heap.size + 1, t, none⟩ = some (.int .u32 0) := by rw [b3.cell, Hn.out, Nat.add_comm n 16]; exact part2_at b n (by have := Hn.out; omega)
        have hf3 : wp.frozen? ⟨w.heap.size + 1, t, none⟩ = false := b3.frozen t
        go_wp2
        go_still_tail 15, (by kernel_rfl)
        change wpList _ _ _ _ _ wp.drew
        go_wp2
        go_roundw
        case rel =>
          refine ⟨t + 1, n + 1, by have := Hn.out; omega, by have := Hn.out; omega, by go_num, b2.drew.far (by simp) _, ?_, (hbel.drew).setCell (by simp) _⟩
          have hn := Hn.out
          have := b3.drew.put (16 + n) (.int .u32 (val (ext (wl b n) (16 + n))))
          rw [part2_set b n (by omega)] at this
          rw [show t = 16 + n by omega]
          have hv : ext (wl b n) (16 + n) = v16 + s0 v15 + v7 + s1 v2 := by rw [V16.out, V15.out, V7.out, V2.out]; rfl
          rw [hv] at this
          exact this
        case measure => simp only [intOf]; omega
      · obtain rfl : t = 64 := by omega
        obtain rfl : n = 48 := by omega
        have b4 : Blk wr (w.heap.size + 1) 100 (U32 L) := by rw [HL0.out, ← part2_end]; exact b3
        have B2 := Lib.hid (show wr.heap[w.heap.size]? = some (.cells (U32 (List.replicate 64 0)).toArray 100 (0, 0)) from b2)
        have hl : L.length = 64 := by rw [HL0.out]; exact wl_len b 48
        have HL := Lib.hid hl
        have HS := Lib.hid (show (U32 (List.replicate 64 0)).toArray.size = (U32 L).toArray.size by simp [U32_len, hl])
        have B3 := Lib.hid (b4.at)
        clear b2 b3 b4 hl
        go_wp2_with (first
          | (with_reducible refine wpList_load_at rfl 100 (.tmp 3) rfl ⟨w.heap.size + 1, 0, none⟩ rfl (U32 L) (.array 64 76) B3.out Tryd.underlying100 rfl (size55 _ HL.out) ?_)
          | (with_reducible refine wpList_store_row rfl 100 (.tmp 2) (.tmp 100) rfl (w.heap.size) (U32 L).toArray rfl rfl 100 _ B2.out (size55' _ HL.out) HS.out (U32_one _) ?_))
        refine bodyPost_ret (v := .agg (U32 L).toArray) ?_ rfl ⟨rfl, belowRow hbel (Nat.le_refl _) _⟩
        have hr := run_loadVar_row (P := Tryd.prog) _ (w.heap.size) 100 100 (U32 L).toArray (0, 0) (.array 64 76) (heap_setRow wr (w.heap.size) (U32 L).toArray _ 100 B2.out) Tryd.underlying100 rfl (size55' _ HL.out)
        simp [results, asAddr, hr]
theorem words_any (b : List UInt8) (A : Option Addr) (c : Nat) (w : World) (hb : b.length = 64) (hr : Rd w w.heap.size A (B8 b)) (hc : 64 ≤ c) :
    Calls Tryd.prog 70 #[.slice A 64 c] w fun e w' => e = .returned (.agg (U32 (sched b)).toArray) ∧ Below w.heap.size w w' :=
  words_go b A c w hb hr hc _ (Lib.hid rfl)
end Go.Proofs.YtgonidjajmjniaaDoor

namespace Go.Proofs.YtgonidjajmjniaaDoor
open Go.RowKit Wr Sh
set_option linter.unusedVariables false
set_option maxRecDepth 100000

/-- An append of a slice of bytes that can be read, nil or not, to a slice of the call's own. -/
theorem wpList_append_rd {w : World} {ops : Array Oper} {rest : List Oper} {o : Oper} {a : Act} {Q : Exit → Act → World → Prop} (hgd : o.guard = none) (s x : Operand)
    (ho : o.op = .call { callee := .builtin .append, args := #[s, x], argTypes := #[54, 54] })
    (base : Nat) (v : Value) (n : Nat) (xs : List Value) (hs : a.eval s = v) (hown : w.ownsRow base 5 1 v n xs)
    (A : Option Addr) (m c B : Nat) (news : List UInt8) (hx : a.eval x = .slice A m c) (hnil : A = none → c = 0) (hl : news.length = m) (hr : Rd w B A (B8 news))
    (hbytes : n + m ≤ 140737488355328) (hbase : base ≤ w.heap.size)
    (h : ∀ v' w', w'.ownsRow base 5 1 v' (n + m) (xs ++ B8 news) → w.grownBy w' v.ownBlock → wpList Tryd.prog ops Q rest (a.put o.dst v') w') : wpList Tryd.prog ops Q (o :: rest) a w := by
  obtain ⟨i0, hi0, hz0, hz1, hz2⟩ := info_parts Tryd.info5
  by_cases hne : B8 news = []
  · have hm : m = 0 := by rw [← hl, ← B8_len, hne]; rfl
    clear hl; subst hm
    cases A with
    | none =>
      have hc := hnil rfl
      subst hc
      refine Lib.wpList_append_run w hgd s x 54 54 ho v _ hs hx v w (run_append_owned_none w base 54 _ 5 i0 1 Tryd.underlying54 hi0 v n xs hown) (h v w ?_ (World.grownBy.refl _ _))
      rw [hne, List.append_nil, Nat.add_zero]; exact hown
    | some ad =>
      exact wpList_append_own w hgd s x 54 ho base 5 i0 (.int .u8 0) 1 1 Tryd.underlying54 hi0 hz0 hz1 hz2 rfl (by decide) v n xs hs hown ad 0 c (B8 news) hx (by rw [hne]; rfl) (fun j u hu => by rw [hne] at hu; simp at hu) (B8_one _) (by unfold maxLen; omega) (by omega) hbase (fun v' w' h1 h2 _ => h v' w' h1 h2)
  · obtain ⟨g, off, rfl, hg, hcell⟩ := hr hne
    exact wpList_append_own w hgd s x 54 ho base 5 i0 (.int .u8 0) 1 1 Tryd.underlying54 hi0 hz0 hz1 hz2 rfl (by decide) v n xs hs hown ⟨g, off, none⟩ m c (B8 news) hx (by rw [B8_len, hl, Nat.mul_one]) (fun j u hu => by rw [Addr.add_lit]; exact hcell j u hu) (B8_one _) (by unfold maxLen; omega) (by omega) hbase (fun v' w' h1 h2 _ => h v' w' h1 h2)

/-- An append of one byte, written as a literal. -/
theorem rd_lit (w : World) (x : UInt8) : Rd (w.alloc (.cells #[.int .u8 (x.toNat : Int)] 5)) (w.heap.size + 1) (some ⟨w.heap.size, 0, none⟩) (B8 [x]) := by
  intro _
  refine ⟨w.heap.size, 0, rfl, by simp, fun j u hu => ?_⟩
  rw [Nat.zero_add, cell_of_row _ _ _ _ _ _ (heap_alloc_new w _)]
  simpa [B8] using hu
def lenOf : Value → Nat
  | .slice _ n _ => n
  | _ => 0
theorem lenOf_own {w : World} {base e size n : Nat} {v : Value} {xs : List Value} (h : w.ownsRow base e size v n xs) : lenOf v = n := by
  obtain ⟨A, c, rfl, _⟩ := own_form h
  rfl

set_option maxRecDepth 100000 in
set_option maxHeartbeats 4000000 in
theorem padded_go (b : List UInt8) (A : Option Addr) (c : Nat) (w : World) (hb : b.length ≤ 1099511627776) (hr : Rd w w.heap.size A (B8 b)) (hnil : A = none → c = 0) :
    Calls Tryd.prog 69 #[.slice A b.length c] w fun e w' => ∃ v', e = .returned v' ∧ w'.ownsRow w.heap.size 5 1 v' (pad b).length (B8 (pad b)) ∧ Below w.heap.size w w' := by
  obtain ⟨N, hN⟩ : ∃ N, N = b.length := ⟨_, rfl⟩
  rw [← hN] at hb ⊢
  have HN := Lib.hid hN
  have Hr := Lib.hid hr
  have HNil := Lib.hid hnil
  have HO := Lib.hid (World.ownsRow_lit (base := w.heap.size) (e := 5) (size := 1) w #[] 0 (Nat.le_refl _) (by decide) rfl)
  have HB0 := Lib.hid ((Below.refl w.heap.size w).alloc (Nat.le_refl _) (.cells #[] 5))
  clear hN hr hnil
  go_enter Tryd.func69, Tryd.ntmps69
  go_wp2_with (first
    | (at_builtin; refine wpList_append_rd rfl (.tmp 6) (.tmp 7) rfl w.heap.size _ 0 [] rfl HO.out A N c w.heap.size b rfl HNil.out HN.out.symm (Hr.out.below HB0.out) (by omega) HB0.out.size ?_; intro v1 w1 ho1 hg1; have HO1 := Lib.hid (show w1.ownsRow w.heap.size 5 1 v1 N (B8 b) by simpa using ho1); have HB1 := Lib.hid (HB0.out.grown hg1 HB0.out.size (fun q hq => (HO.out.lt q hq).1)); clear ho1 hg1)
    | (at_builtin; refine wpList_append_rd rfl (.tmp 9) (.tmp 10) rfl w.heap.size v1 N (B8 b) rfl (HO1.out.alloc _) (some ⟨w1.heap.size, 0, none⟩) 1 1 _ [128] rfl (fun h => by cases h) rfl (rd_lit w1 128) (by omega) (by have := HB1.out.size; simp; omega) ?_; intro v2 w2 ho2 hg2; have HO2 := Lib.hid (show w2.ownsRow w.heap.size 5 1 v2 (N + 1 + 0) (B8 (b ++ (128 :: List.replicate 0 0))) by rw [B8_append]; exact ho2); have HB2 := Lib.hid ((HB1.out.alloc HB1.out.size (.cells #[.int .u8 128] 5)).grown hg2 (HB1.out.alloc HB1.out.size _).size (fun q hq => (HO1.out.lt q hq).1)); clear ho2 hg2))
  obtain ⟨Z, hZ⟩ : ∃ Z, Z = noughts N := ⟨_, rfl⟩
  have hZ' : Z = (119 - N % 64) % 64 := hZ
  go_loopw [3] (fun s3 wr => ∃ k z : Nat, k = N + 1 + z ∧ z ≤ Z ∧ wr.ownsRow w.heap.size 5 1 s3 k (B8 (b ++ (128 :: List.replicate z 0))) ∧ Hid (Below w.heap.size w wr))
    (fun s3 _ => N + 1 + Z - lenOf s3)
  case atStart => exact ⟨N + 1 + 0, 0, rfl, by omega, HO2.out, HB2⟩
  case round =>
  clear HO HB0 HO1 HB1 HO2 HB2
  obtain ⟨k, z, hk, hz, ho3, HB3⟩ := hrel
  obtain ⟨A3, c3, rfl, _, _, _⟩ := own_form ho3
  have HO3 := Lib.hid ho3
  clear ho3
  by_cases hlt : z < Z
  · have hne : ((k : Int) % 64 == 56) = false := by rw [beq_eq_false_iff_ne]; omega
    have hne' : ¬ ((k : Int) % 64 = 56) := by omega
    have HK := Lib.hid hk
    clear hk
    go_wp2_with (at_builtin; refine wpList_append_rd rfl (.tmp 16) (.tmp 17) rfl w.heap.size _ k _ rfl (HO3.out.alloc _) (some ⟨wr.heap.size, 0, none⟩) 1 1 _ [0] rfl (fun h => by cases h) rfl (rd_lit wr 0) (by have := HK.out; omega) (by have := HB3.out.size; simp; omega) ?_; intro v4 w4 ho4 hg4; have HO4 := Lib.hid ho4; have HB4 := Lib.hid ((HB3.out.alloc HB3.out.size (.cells #[.int .u8 0] 5)).grown hg4 (HB3.out.alloc HB3.out.size _).size (fun q hq => (HO3.out.lt q hq).1)); clear ho4 hg4)
    go_roundw
    case rel =>
      refine ⟨k + 1, z + 1, by have := HK.out; omega, hlt, ?_, HB4⟩
      have := HO4.out
      rw [← B8_append, List.append_assoc, List.cons_append, ← List.replicate_succ'] at this
      exact this
    case measure =>
      have := lenOf_own HO4.out
      have := HK.out
      simp only [lenOf] at *
      omega
  · obtain rfl : z = Z := by omega
    have hne : ((k : Int) % 64 == 56) = true := by rw [beq_iff_eq]; omega
    have hne' : ((k : Int) % 64 = 56) := by omega
    have hown0 := HO3.out
    have HZ := Lib.hid hZ
    have HZ2 := Lib.hid hZ'
    have HK0 := Lib.hid hk
    clear hlt hz hne hZ hZ' hk
    go_wp2_with fail
    go_loopw [3, 5] (fun s3 s5 wr => ∃ k i : Nat, k = N + 1 + z + i ∧ i ≤ 8 ∧ s5 = .int .i64 i ∧ wr.ownsRow w.heap.size 5 1 s3 k (B8 (b ++ (128 :: (List.replicate z 0 ++ (be8 (8 * N)).take i)))) ∧ Hid (Below w.heap.size w wr))
      (fun _ s5 _ => 8 - (intOf s5).toNat)
    case atStart => exact ⟨k, 0, by have := HK0.out; omega, by omega, rfl, by simpa using hown0, HB3⟩
    case round =>
    clear HO3 HB3 hown0 hne' HK0
    obtain ⟨k, i, hk, hi, rfl, ho3, HB3⟩ := hrel
    obtain ⟨A5, c5, rfl, _, _, _⟩ := own_form ho3
    have HO3 := Lib.hid ho3
    have HK := Lib.hid hk
    have HKB := Lib.hid (show k ≤ 1099511627776 + 100 by have := HZ2.out; omega)
    clear ho3 hk
    by_cases hlt : i < 8
    · obtain ⟨x, hx⟩ : ∃ x, x = (8 * N) >>> (56 - 8 * i) := ⟨_, rfl⟩
      have hu8 : (8 * (N : Int)) / 2 ^ (56 - 8 * i) % 256 = ((UInt8.ofNat x).toNat : Int) := by rw [Int.mul_comm]; exact shift_n N i x hx
      obtain ⟨y, hy⟩ : ∃ y, y = UInt8.ofNat x := ⟨_, rfl⟩
      rw [← hy] at hu8
      have HX := Lib.hid hx
      have HY := Lib.hid hy
      clear hx hy
      go_wp2_with (at_builtin; refine wpList_append_rd rfl (.tmp 27) (.tmp 34) rfl w.heap.size _ k _ rfl (HO3.out.alloc _) (some ⟨wr.heap.size, 0, none⟩) 1 1 _ [y] rfl (fun h => by cases h) rfl (rd_lit wr (y)) (by have := HKB.out; omega) (by have := HB3.out.size; simp; omega) ?_; intro v4 w4 ho4 hg4; have HO4 := Lib.hid ho4; have HB4 := Lib.hid ((HB3.out.alloc HB3.out.size (.cells #[.int .u8 (y.toNat : Int)] 5)).grown hg4 (HB3.out.alloc HB3.out.size _).size (fun q hq => (HO3.out.lt q hq).1)); clear ho4 hg4)
      go_roundw
      case rel =>
        refine ⟨k + 1, i + 1, by have := HK.out; omega, hlt, by go_num, ?_, HB4⟩
        have := HO4.out
        have ht : (be8 (8 * N)).take (i + 1) = (be8 (8 * N)).take i ++ [y] := by
          rw [List.take_succ_eq_append_getElem (by rw [be8_len]; exact hlt)]
          congr 2
          rw [HY.out, HX.out]; simp [be8]
        rw [ht]
        rw [← B8_append] at this
        simpa using this
      case measure => simp only [intOf]; omega
    · obtain rfl : i = 8 := by omega
      go_wp2_with fail
      go_ret
      have hp : pad b = b ++ (128 :: (List.replicate z 0 ++ (be8 (8 * N)).take 8)) := by
        rw [List.take_of_length_le (by rw [be8_len]; exact Nat.le_refl _)]; unfold pad tail; rw [← HN.out, ← HZ.out]
      refine ⟨_, rfl, ?_, HB3.out⟩
      have hl : (pad b).length = k := by rw [hp, HK.out]; simp [be8_len]; have := HN.out; omega
      rw [hl, hp]; exact HO3.out
end Go.Proofs.YtgonidjajmjniaaDoor

