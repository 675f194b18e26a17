/-
  The contracts of the reference's Int, Bytes, Input, Sum, Short, Of and Text.
  Conditions: lengths; the reference's table of the round constants is as the text lays it.
-/
import Derived.Test.YtofccgkgjcnfbaaDoorZ
import Derived.Test.YtofccgkgjcnfbaaDoorGSchedCompStrExt
import Derived.Test.YtofccgkgjcnfbaaDoorOf
import Derived.Lib.AppendZeros
import Derived.OwnWalk
import Derived.Test.YtofccgkgjcnfbaaDoorGAuxPureIntPure2
import Derived.Outline
import Derived.Lib.AppendStr
set_option linter.unusedSimpArgs false
namespace Go.Proofs.YtofccgkgjcnfbaaDoor
open Go.RowKit Wr Sh
set_option linter.unusedVariables false
set_option maxRecDepth 100000
attribute [local go_sem] xor_val and_val or_val add_val add_val' shr_3 shr_10
set_option maxRecDepth 100000 in
set_option maxHeartbeats 4000000 in
theorem words_go (b : List UInt8) (A : Option Addr) (c : Nat) (w : World) (hb : b.length = 64) (hr : Rd w w.heap.size A (B8 b)) (hc : 64 ≤ c) (L : List W) (HL0 : Hid (L = sched b)) :
  Calls Tryd.prog 111 #[.slice A 64 c] w fun e w' => e = .returned (.agg (U32 L).toArray) ∧ Below w.heap.size w w' := by
 obtain ⟨g, o, rfl, hg, hcell⟩ := hr (by intro e; have := congrArg List.length e; rw [B8_len, hb] at this; cases this)
 have Hb := Lh hb
 have HC := Lh hcell
 clear hb hr hcell
 go_enter Tryd.func111, Tryd.ntmps111
 go_wp2
 go_loopw [4] (fun s4 wr => ∃ j : Nat, j ≤ 16 ∧ s4 = .int .i64 j ∧ Blk wr w.heap.size 160 (U32 (List.replicate 64 0)) ∧ Blk wr (w.heap.size + 1) 160 (U32 (part1 b j)) ∧ Below w.heap.size w wr)
  (fun s4 _ => 16 - (intOf s4).toNat)
 case atStart =>
  refine ⟨0, by omega, rfl, ?_, ?_, ?_⟩
  ·
   exact (Blk.new w 160 (U32 (List.replicate 64 0))).alloc _
  ·
   exact Blk.newAt (w.alloc (.cells (U32 (List.replicate 64 0)).toArray 160)) _ 160 (U32 (List.replicate 64 0)) (by simp)
  ·
   exact ((Below.refl _ _).alloc (Nat.le_refl _) _).alloc (by simp) _
 case round =>
  obtain ⟨j, hj, rfl, b2, b3, hbel⟩ := hrel
  by_cases hlt : j < 16
  ·
   have hB := Hb.out
   obtain ⟨m, hm⟩ : ∃ m, m = 4 * j := ⟨_, rfl⟩
   obtain ⟨x0, h0, c0⟩ : ∃ x : UInt8, x = b.getD (m) 0 ∧ wr.cell? ⟨g, o + (m), none⟩ = some (.int .u8 (x.toNat : Int)) := ⟨_, rfl, by rw [hbel.cell (show (⟨g, o + (m), none⟩ : Addr).block < _ from hg)]; exact HC.out _ _ (B8_getD b _ (by omega))⟩
   obtain ⟨x1, h1, c1⟩ : ∃ x : UInt8, x = b.getD (m + 1) 0 ∧ wr.cell? ⟨g, o + (m + 1), none⟩ = some (.int .u8 (x.toNat : Int)) := ⟨_, rfl, by rw [hbel.cell (show (⟨g, o + (m + 1), none⟩ : Addr).block < _ from hg)]; exact HC.out _ _ (B8_getD b _ (by omega))⟩
   obtain ⟨x2, h2, c2⟩ : ∃ x : UInt8, x = b.getD (m + 2) 0 ∧ wr.cell? ⟨g, o + (m + 2), none⟩ = some (.int .u8 (x.toNat : Int)) := ⟨_, rfl, by rw [hbel.cell (show (⟨g, o + (m + 2), none⟩ : Addr).block < _ from hg)]; exact HC.out _ _ (B8_getD b _ (by omega))⟩
   obtain ⟨x3, h3, c3⟩ : ∃ x : UInt8, x = b.getD (m + 3) 0 ∧ wr.cell? ⟨g, o + (m + 3), none⟩ = some (.int .u8 (x.toNat : Int)) := ⟨_, rfl, by rw [hbel.cell (show (⟨g, o + (m + 3), none⟩ : Addr).block < _ from hg)]; exact HC.out _ _ (B8_getD b _ (by omega))⟩
   have H0 := Lh h0; have H1 := Lh h1; have H2 := Lh h2; have H3 := Lh h3
   clear h0 h1 h2 h3
   have q0 : IntKind.i64.wrap (4 * (j : Int)) = (m : Int) := by rw [IntWalk.i64_in _ (by omega)]; omega
   have q1 : IntKind.i64.wrap ((m : Int) + 1) = (m : Int) + 1 := IntWalk.i64_in _ (by omega)
   have q2 : IntKind.i64.wrap ((m : Int) + 2) = (m : Int) + 2 := IntWalk.i64_in _ (by omega)
   have q3 : IntKind.i64.wrap ((m : Int) + 3) = (m : Int) + 3 := IntWalk.i64_in _ (by omega)
   have g0 : (m : Int) < 64 := by omega
   have g1 : (m : Int) + 1 < 64 := by omega
   have g2 : (m : Int) + 2 < 64 := by omega
   have g3 : (m : Int) + 3 < 64 := by omega
   have p1 : 0 ≤ (m : Int) + 1 := by omega
   have p2 : 0 ≤ (m : Int) + 2 := by omega
   have p3 : 0 ≤ (m : Int) + 3 := by omega
   have t1 : ((m : Int) + 1).toNat = m + 1 := by omega
   have t2 : ((m : Int) + 2).toNat = m + 2 := by omega
   have t3 : ((m : Int) + 3).toNat = m + 3 := by omega
   have hj64 : (j : Int) < 64 := by omega
   have Hm := Lh hm
   clear hm hB
   go_wp2
   go_still_tail 35, (by kernel_rfl)
   change wpList _ _ _ _ _ wr.drew
   have hw4 := word4 x0 x1 x2 x3 b j m Hm.out H0.out H1.out H2.out H3.out
   have hc3 : wr.cell? ⟨w.heap.size + 1, j, none⟩ = some (.int .u32 0) := by rw [b3.cell]; exact part1_at b j hlt
   have hf3 : wr.frozen? ⟨w.heap.size + 1, j, none⟩ = false := b3.frozen j
   go_wp2
   go_roundw
   case rel =>
    refine ⟨j + 1, by omega, by go_num, b2.drew.far (by simp) _, ?_, (hbel.drew).setCell (by simp) _⟩
    have := b3.drew.put j (.int .u32 (val (be b j)))
    rw [part1_set b j hlt] at this
    exact this
   case measure => simp only [intOf]; omega
  ·
   rw [show j = 16 by omega, part12] at b3
   go_wp2
   go_loopw [5] (fun s5 wr => ∃ t n : Nat, n ≤ 48 ∧ t = n + 16 ∧ s5 = .int .i64 t ∧ Blk wr w.heap.size 160 (U32 (List.replicate 64 0)) ∧ Blk wr (w.heap.size + 1) 160 (U32 (part2 b n)) ∧ Below w.heap.size w wr)
    (fun s5 _ => 64 - (intOf s5).toNat)
   case atStart => exact ⟨16, 0, by omega, rfl, rfl, b2, b3, hbel⟩
   case round =>
   clear b2 b3 hbel Hb hlt hj
   obtain ⟨t, n, hn0, hn, rfl, b2, b3, hbel⟩ := hrel
   by_cases hlt : t < 64
   ·
    have ht0 : (t : Int) < 64 := by omega
    have ht1 : 16 ≤ t := by omega
    obtain ⟨a16, ha16⟩ : ∃ a : Nat, a = t - 16 := ⟨_, rfl⟩
    obtain ⟨v16, hv16, c16⟩ : ∃ v : W, v = (wl b n).getD (16 + n - 16) 0 ∧ wr.cell? ⟨w.heap.size + 1, a16, none⟩ = some (.int .u32 (val v)) := ⟨_, rfl, by rw [b3.cell, part2_get b n a16 (by omega), ha16, hn, Nat.add_comm n 16]⟩
    have q16 : IntKind.i64.wrap ((t : Int) - 16) = (a16 : Int) := by rw [IntWalk.i64_in _ (by omega)]; omega
    have g16 : (a16 : Int) < 64 := by omega
    have V16 := Lh hv16
    clear hv16 ha16
    obtain ⟨a15, ha15⟩ : ∃ a : Nat, a = t - 15 := ⟨_, rfl⟩
    obtain ⟨v15, hv15, c15⟩ : ∃ v : W, v = (wl b n).getD (16 + n - 15) 0 ∧ wr.cell? ⟨w.heap.size + 1, a15, none⟩ = some (.int .u32 (val v)) := ⟨_, rfl, by rw [b3.cell, part2_get b n a15 (by omega), ha15, hn, Nat.add_comm n 16]⟩
    have q15 : IntKind.i64.wrap ((t : Int) - 15) = (a15 : Int) := by rw [IntWalk.i64_in _ (by omega)]; omega
    have g15 : (a15 : Int) < 64 := by omega
    have V15 := Lh hv15
    clear hv15 ha15
    obtain ⟨a7, ha7⟩ : ∃ a : Nat, a = t - 7 := ⟨_, rfl⟩
    obtain ⟨v7, hv7, c7⟩ : ∃ v : W, v = (wl b n).getD (16 + n - 7) 0 ∧ wr.cell? ⟨w.heap.size + 1, a7, none⟩ = some (.int .u32 (val v)) := ⟨_, rfl, by rw [b3.cell, part2_get b n a7 (by omega), ha7, hn, Nat.add_comm n 16]⟩
    have q7 : IntKind.i64.wrap ((t : Int) - 7) = (a7 : Int) := by rw [IntWalk.i64_in _ (by omega)]; omega
    have g7 : (a7 : Int) < 64 := by omega
    have V7 := Lh hv7
    clear hv7 ha7
    obtain ⟨a2, ha2⟩ : ∃ a : Nat, a = t - 2 := ⟨_, rfl⟩
    obtain ⟨v2, hv2, c2⟩ : ∃ v : W, v = (wl b n).getD (16 + n - 2) 0 ∧ wr.cell? ⟨w.heap.size + 1, a2, none⟩ = some (.int .u32 (val v)) := ⟨_, rfl, by rw [b3.cell, part2_get b n a2 (by omega), ha2, hn, Nat.add_comm n 16]⟩
    have q2 : IntKind.i64.wrap ((t : Int) - 2) = (a2 : Int) := by rw [IntWalk.i64_in _ (by omega)]; omega
    have g2 : (a2 : Int) < 64 := by omega
    have V2 := Lh hv2
    clear hv2 ha2
    have Hn := Lh hn
    clear hn
    go_wp2
    go_quiet (exact Calls.quiet_of (rref_m _ _ _ (by decide)))
    generalize hqwq : wr.drewN nq = wq
    replace c16 : wq.cell? ⟨w.heap.size + 1, a16, none⟩ = some (.int .u32 (val v16)) := by rw [← hqwq]; exact c16
    replace c15 : wq.cell? ⟨w.heap.size + 1, a15, none⟩ = some (.int .u32 (val v15)) := by rw [← hqwq]; exact c15
    replace c7 : wq.cell? ⟨w.heap.size + 1, a7, none⟩ = some (.int .u32 (val v7)) := by rw [← hqwq]; exact c7
    replace c2 : wq.cell? ⟨w.heap.size + 1, a2, none⟩ = some (.int .u32 (val v2)) := by rw [← hqwq]; exact c2
    replace b2 : Blk wq (w.heap.size) 160 (U32 (List.replicate 64 0)) := by rw [← hqwq]; exact b2.drewN _
    replace b3 : Blk wq (w.heap.size + 1) 160 (U32 (part2 b n)) := by rw [← hqwq]; exact b3.drewN _
    replace hbel : Below w.heap.size w wq := by rw [← hqwq]; exact below_drewN hbel _
    clear hqwq nq
    go_wp2
    go_quiet (exact Calls.quiet_of (rref_m _ _ _ (by decide)))
    generalize hqwp : wq.drewN nq = wp
    replace c16 : wp.cell? ⟨w.heap.size + 1, a16, none⟩ = some (.int .u32 (val v16)) := by rw [← hqwp]; exact c16
    replace c15 : wp.cell? ⟨w.heap.size + 1, a15, none⟩ = some (.int .u32 (val v15)) := by rw [← hqwp]; exact c15
    replace c7 : wp.cell? ⟨w.heap.size + 1, a7, none⟩ = some (.int .u32 (val v7)) := by rw [← hqwp]; exact c7
    replace c2 : wp.cell? ⟨w.heap.size + 1, a2, none⟩ = some (.int .u32 (val v2)) := by rw [← hqwp]; exact c2
    replace b2 : Blk wp (w.heap.size) 160 (U32 (List.replicate 64 0)) := by rw [← hqwp]; exact b2.drewN _
    replace b3 : Blk wp (w.heap.size + 1) 160 (U32 (part2 b n)) := by rw [← hqwp]; exact b3.drewN _
    replace hbel : Below w.heap.size w wp := by rw [← hqwp]; exact below_drewN hbel _
    clear hqwp nq
    have hc3 : wp.cell? ⟨w.heap.size + 1, t, none⟩ = some (.int .u32 0) := by rw [b3.cell, Hn.out, Nat.add_comm n 16]; exact part2_at b n (by have := Hn.out; omega)
    have hf3 : wp.frozen? ⟨w.heap.size + 1, t, none⟩ = false := b3.frozen t
    go_wp2
    go_still_tail 15, (by kernel_rfl)
    change wpList _ _ _ _ _ wp.drew
    go_wp2
    go_roundw
    case rel =>
     refine ⟨t + 1, n + 1, by have := Hn.out; omega, by have := Hn.out; omega, by go_num, b2.drew.far (by simp) _, ?_, (hbel.drew).setCell (by simp) _⟩
     have hn := Hn.out
     have := b3.drew.put (16 + n) (.int .u32 (val (ext (wl b n) (16 + n))))
     rw [part2_set b n (by omega)] at this
     rw [show t = 16 + n by omega]
     have hv : ext (wl b n) (16 + n) = v16 + s0 v15 + v7 + s1 v2 := by rw [V16.out, V15.out, V7.out, V2.out]; rfl
     rw [hv] at this
     exact this
    case measure => simp only [intOf]; omega
   ·
    obtain rfl : t = 64 := by omega
    obtain rfl : n = 48 := by omega
    have b4 : Blk wr (w.heap.size + 1) 160 (U32 L) := by rw [HL0.out, ← part2_end]; exact b3
    have B2 := Lh (show wr.heap[w.heap.size]? = some (.cells (U32 (List.replicate 64 0)).toArray 160 (0, 0)) from b2)
    have hl : L.length = 64 := by rw [HL0.out]; exact wl_len b 48
    have HL := Lh hl
    have HS := Lh (show (U32 (List.replicate 64 0)).toArray.size = (U32 L).toArray.size by simp [U32_len, hl])
    have B3 := Lh (b4.at)
    clear b2 b3 b4 hl
    go_wp2_with (first
     | (with_reducible refine wpList_load_at rfl 160 (.tmp 3) rfl ⟨w.heap.size + 1, 0, none⟩ rfl (U32 L) (.array 64 147) B3.out Tryd.underlying160 rfl (size55 _ HL.out) ?_)
     | (with_reducible refine wpList_store_row rfl 160 (.tmp 2) (.tmp 100) rfl (w.heap.size) (U32 L).toArray rfl rfl 160 _ B2.out (size55' _ HL.out) HS.out (U32_one _) ?_))
    refine bodyPost_ret (v := .agg (U32 L).toArray) ?_ rfl ⟨rfl, belowRow hbel (Nat.le_refl _) _⟩
    have hr := run_loadVar_row (P := Tryd.prog) _ (w.heap.size) 160 160 (U32 L).toArray (0, 0) (.array 64 147) (heap_setRow wr (w.heap.size) (U32 L).toArray _ 160 B2.out) Tryd.underlying160 rfl (size55' _ HL.out)
    simp [results, asAddr, hr]
end Go.Proofs.YtofccgkgjcnfbaaDoor
namespace Go.Proofs.YtofccgkgjcnfbaaDoor
open Go.RowKit Wr Sh
set_option linter.unusedVariables false
set_option maxRecDepth 100000
theorem wpList_append_rd {w : World} {ops : Array Oper} {rest : List Oper} {o : Oper} {a : Act} {Q : Exit → Act → World → Prop} (hgd : o.guard = none) (s x : Operand)
  (ho : o.op = .call { callee := .builtin .append, args := #[s, x], argTypes := #[39, 39] })
  (base : Nat) (v : Value) (n : Nat) (xs : List Value) (hs : a.eval s = v) (hown : w.ownsRow base 5 1 v n xs)
  (A : Option Addr) (m c B : Nat) (news : List UInt8) (hx : a.eval x = .slice A m c) (hnil : A = none → c = 0) (hl : news.length = m) (hr : Rd w B A (B8 news))
  (hbytes : n + m ≤ 140737488355328) (hbase : base ≤ w.heap.size)
  (h : ∀ v' w', w'.ownsRow base 5 1 v' (n + m) (xs ++ B8 news) → w.grownBy w' v.ownBlock → wpList Tryd.prog ops Q rest (a.put o.dst v') w') : wpList Tryd.prog ops Q (o :: rest) a w := by
 obtain ⟨i0, hi0, hz0, hz1, hz2⟩ := info_parts Tryd.info5
 by_cases hne : B8 news = []
 ·
  have hm : m = 0 := by rw [← hl, ← B8_len, hne]; rfl
  clear hl; subst hm
  cases A with
  | none =>
   have hc := hnil rfl
   subst hc
   refine Lib.wpList_append_run w hgd s x 39 39 ho v _ hs hx v w (run_append_owned_none w base 39 _ 5 i0 1 Tryd.underlying39 hi0 v n xs hown) (h v w ?_ (World.grownBy.refl _ _))
   rw [hne, List.append_nil, Nat.add_zero]; exact hown
  | some ad =>
   exact wpList_append_own w hgd s x 39 ho base 5 i0 (.int .u8 0) 1 1 Tryd.underlying39 hi0 hz0 hz1 hz2 rfl (by decide) v n xs hs hown ad 0 c (B8 news) hx (by rw [hne]; rfl) (fun j u hu => by rw [hne] at hu; simp at hu) (B8_one _) (by unfold maxLen; omega) (by omega) hbase (fun v' w' h1 h2 _ => h v' w' h1 h2)
 ·
  obtain ⟨g, off, rfl, hg, hcell⟩ := hr hne
  exact wpList_append_own w hgd s x 39 ho base 5 i0 (.int .u8 0) 1 1 Tryd.underlying39 hi0 hz0 hz1 hz2 rfl (by decide) v n xs hs hown ⟨g, off, none⟩ m c (B8 news) hx (by rw [B8_len, hl, Nat.mul_one]) (fun j u hu => by rw [Addr.add_lit]; exact hcell j u hu) (B8_one _) (by unfold maxLen; omega) (by omega) hbase (fun v' w' h1 h2 _ => h v' w' h1 h2)
theorem rd_lit (w : World) (x : UInt8) : Rd (w.alloc (.cells #[.int .u8 (x.toNat : Int)] 5)) (w.heap.size + 1) (some ⟨w.heap.size, 0, none⟩) (B8 [x]) := by
 intro _
 refine ⟨w.heap.size, 0, rfl, by simp, fun j u hu => ?_⟩
 rw [Nat.zero_add, cell_of_row _ _ _ _ _ _ (heap_alloc_new w _)]
 simpa [B8] using hu
def lenOf : Value → Nat
 | .slice _ n _ => n
 | _ => 0
theorem lenOf_own {w : World} {base e size n : Nat} {v : Value} {xs : List Value} (h : w.ownsRow base e size v n xs) : lenOf v = n := by
 obtain ⟨A, c, rfl, _⟩ := own_form h
 rfl
set_option maxRecDepth 100000 in
set_option maxHeartbeats 4000000 in
theorem padded_go (b : List UInt8) (A : Option Addr) (c : Nat) (w : World) (hb : b.length ≤ 1099511627776) (hr : Rd w w.heap.size A (B8 b)) (hnil : A = none → c = 0) :
  Calls Tryd.prog 110 #[.slice A b.length c] w fun e w' => ∃ v', e = .returned v' ∧ w'.ownsRow w.heap.size 5 1 v' (pad b).length (B8 (pad b)) ∧ Below w.heap.size w w' := by
 obtain ⟨N, hN⟩ : ∃ N, N = b.length := ⟨_, rfl⟩
 rw [← hN] at hb ⊢
 have HN := Lh hN
 have Hr := Lh hr
 have HNil := Lh hnil
 have HO := Lh (World.ownsRow_lit (base := w.heap.size) (e := 5) (size := 1) w #[] 0 (Nat.le_refl _) (by decide) rfl)
 have HB0 := Lh ((Below.refl w.heap.size w).alloc (Nat.le_refl _) (.cells #[] 5))
 clear hN hr hnil
 go_enter Tryd.func110, Tryd.ntmps110
 go_wp2_with (first
  | (at_builtin; refine wpList_append_rd rfl (.tmp 6) (.tmp 7) rfl w.heap.size _ 0 [] rfl HO.out A N c w.heap.size b rfl HNil.out HN.out.symm (Hr.out.below HB0.out) (by omega) HB0.out.size ?_; intro v1 w1 ho1 hg1; have HO1 := Lh (show w1.ownsRow w.heap.size 5 1 v1 N (B8 b) by simpa using ho1); have HB1 := Lh (HB0.out.grown hg1 HB0.out.size (fun q hq => (HO.out.lt q hq).1)); clear ho1 hg1)
  | (at_builtin; refine wpList_append_rd rfl (.tmp 9) (.tmp 10) rfl w.heap.size v1 N (B8 b) rfl (HO1.out.alloc _) (some ⟨w1.heap.size, 0, none⟩) 1 1 _ [128] rfl (fun h => by cases h) rfl (rd_lit w1 128) (by omega) (by have := HB1.out.size; simp; omega) ?_; intro v2 w2 ho2 hg2; have HO2 := Lh (show w2.ownsRow w.heap.size 5 1 v2 (N + 1 + 0) (B8 (b ++ (128 :: List.replicate 0 0))) by rw [B8_append]; exact ho2); have HB2 := Lh ((HB1.out.alloc HB1.out.size (.cells #[.int .u8 128] 5)).grown hg2 (HB1.out.alloc HB1.out.size _).size (fun q hq => (HO1.out.lt q hq).1)); clear ho2 hg2))
 obtain ⟨Z, hZ⟩ : ∃ Z, Z = noughts N := ⟨_, rfl⟩
 have hZ' : Z = (119 - N % 64) % 64 := hZ
 go_loopw [3] (fun s3 wr => ∃ k z : Nat, k = N + 1 + z ∧ z ≤ Z ∧ wr.ownsRow w.heap.size 5 1 s3 k (B8 (b ++ (128 :: List.replicate z 0))) ∧ Hid (Below w.heap.size w wr))
  (fun s3 _ => N + 1 + Z - lenOf s3)
 case atStart => exact ⟨N + 1 + 0, 0, rfl, by omega, HO2.out, HB2⟩
 case round =>
 clear HO HB0 HO1 HB1 HO2 HB2
 obtain ⟨k, z, hk, hz, ho3, HB3⟩ := hrel
 obtain ⟨A3, c3, rfl, _, _, _⟩ := own_form ho3
 have HO3 := Lh ho3
 clear ho3
 by_cases hlt : z < Z
 ·
  have hne : ((k : Int) % 64 == 56) = false := by rw [beq_eq_false_iff_ne]; omega
  have hne' : ¬ ((k : Int) % 64 = 56) := by omega
  have HK := Lh hk
  clear hk
  go_wp2_with (at_builtin; refine wpList_append_rd rfl (.tmp 16) (.tmp 17) rfl w.heap.size _ k _ rfl (HO3.out.alloc _) (some ⟨wr.heap.size, 0, none⟩) 1 1 _ [0] rfl (fun h => by cases h) rfl (rd_lit wr 0) (by have := HK.out; omega) (by have := HB3.out.size; simp; omega) ?_; intro v4 w4 ho4 hg4; have HO4 := Lh ho4; have HB4 := Lh ((HB3.out.alloc HB3.out.size (.cells #[.int .u8 0] 5)).grown hg4 (HB3.out.alloc HB3.out.size _).size (fun q hq => (HO3.out.lt q hq).1)); clear ho4 hg4)
  go_roundw
  case rel =>
   refine ⟨k + 1, z + 1, by have := HK.out; omega, hlt, ?_, HB4⟩
   have := HO4.out
   rw [← B8_append, List.append_assoc, List.cons_append, ← List.replicate_succ'] at this
   exact this
  case measure =>
   have := lenOf_own HO4.out
   have := HK.out
   simp only [lenOf] at *
   omega
 ·
  obtain rfl : z = Z := by omega
  have hne : ((k : Int) % 64 == 56) = true := by rw [beq_iff_eq]; omega
  have hne' : ((k : Int) % 64 = 56) := by omega
  have hown0 := HO3.out
  have HZ := Lh hZ
  have HZ2 := Lh hZ'
  have HK0 := Lh hk
  clear hlt hz hne hZ hZ' hk
  go_wp2_with fail
  go_loopw [3, 5] (fun s3 s5 wr => ∃ k i : Nat, k = N + 1 + z + i ∧ i ≤ 8 ∧ s5 = .int .i64 i ∧ wr.ownsRow w.heap.size 5 1 s3 k (B8 (b ++ (128 :: (List.replicate z 0 ++ (be8 (8 * N)).take i)))) ∧ Hid (Below w.heap.size w wr))
   (fun _ s5 _ => 8 - (intOf s5).toNat)
  case atStart => exact ⟨k, 0, by have := HK0.out; omega, by omega, rfl, by simpa using hown0, HB3⟩
  case round =>
  clear HO3 HB3 hown0 hne' HK0
  obtain ⟨k, i, hk, hi, rfl, ho3, HB3⟩ := hrel
  obtain ⟨A5, c5, rfl, _, _, _⟩ := own_form ho3
  have HO3 := Lh ho3
  have HK := Lh hk
  have HKB := Lh (show k ≤ 1099511627776 + 100 by have := HZ2.out; omega)
  clear ho3 hk
  by_cases hlt : i < 8
  ·
   obtain ⟨x, hx⟩ : ∃ x, x = (8 * N) >>> (56 - 8 * i) := ⟨_, rfl⟩
   have hu8 : (8 * (N : Int)) / 2 ^ (56 - 8 * i) % 256 = ((UInt8.ofNat x).toNat : Int) := by rw [Int.mul_comm]; exact shift_n N i x hx
   obtain ⟨y, hy⟩ : ∃ y, y = UInt8.ofNat x := ⟨_, rfl⟩
   rw [← hy] at hu8
   have HX := Lh hx
   have HY := Lh hy
   clear hx hy
   go_wp2_with (at_builtin; refine wpList_append_rd rfl (.tmp 27) (.tmp 34) rfl w.heap.size _ k _ rfl (HO3.out.alloc _) (some ⟨wr.heap.size, 0, none⟩) 1 1 _ [y] rfl (fun h => by cases h) rfl (rd_lit wr (y)) (by have := HKB.out; omega) (by have := HB3.out.size; simp; omega) ?_; intro v4 w4 ho4 hg4; have HO4 := Lh ho4; have HB4 := Lh ((HB3.out.alloc HB3.out.size (.cells #[.int .u8 (y.toNat : Int)] 5)).grown hg4 (HB3.out.alloc HB3.out.size _).size (fun q hq => (HO3.out.lt q hq).1)); clear ho4 hg4)
   go_roundw
   case rel =>
    refine ⟨k + 1, i + 1, by have := HK.out; omega, hlt, by go_num, ?_, HB4⟩
    have := HO4.out
    have ht : (be8 (8 * N)).take (i + 1) = (be8 (8 * N)).take i ++ [y] := by
     rw [List.take_succ_eq_append_getElem (by rw [be8_len]; exact hlt)]
     congr 2
     rw [HY.out, HX.out]; simp [be8]
    rw [ht]
    rw [← B8_append] at this
    simpa using this
   case measure => simp only [intOf]; omega
  ·
   obtain rfl : i = 8 := by omega
   go_wp2_with fail
   go_ret
   have hp : pad b = b ++ (128 :: (List.replicate z 0 ++ (be8 (8 * N)).take 8)) := by
    rw [List.take_of_length_le (by rw [be8_len]; exact Nat.le_refl _)]; unfold pad tail; rw [← HN.out, ← HZ.out]
   refine ⟨_, rfl, ?_, HB3.out⟩
   have hl : (pad b).length = k := by rw [hp, HK.out]; simp [be8_len]; have := HN.out; omega
   rw [hl, hp]; exact HO3.out
end Go.Proofs.YtofccgkgjcnfbaaDoor
namespace Go.Proofs.YtofccgkgjcnfbaaDoor
open Go.RowKit Wr
set_option linter.unusedVariables false
set_option maxRecDepth 100000
theorem own_baseR {w : World} {base base' e size n : Nat} {v : Value} {xs : List Value} (h : w.ownsRow base e size v n xs) (hb : base' ≤ base) : w.ownsRow base' e size v n xs :=
 ⟨h.1, h.2.imp id (fun ⟨g, cap, cur, e1, h1, r⟩ => ⟨g, cap, cur, e1, Nat.le_trans hb h1, r⟩)⟩
theorem enc_pos (m : Nat) : enc (m : Int) = UInt8.ofNat (128 + (digs 8 m).length) :: digs 8 m := by
 unfold enc mag fl
 rw [if_neg (by omega), if_neg (by omega)]
 simp
set_option maxRecDepth 100000 in
set_option maxHeartbeats 4000000 in
theorem rint_pos (n : Int) (w : World) (h0 : 0 ≤ n) (h1 : n ≤ 9223372036854775807) :
  Calls Tryd.prog 79 #[.int .i64 n] w fun e w' => ∃ v', e = .returned v' ∧ w'.ownsRow w.heap.size 5 1 v' (enc n).length (B8 (enc n)) ∧ Below w.heap.size w w' := by
 obtain ⟨m, rfl⟩ : ∃ m : Nat, n = m := ⟨n.toNat, by omega⟩
 have hneg : ¬ ((m : Int) < 0) := by omega
 go_enter Tryd.func79, Tryd.ntmps79
 go_wp2_with fail
 go_loopw [3, 4] (fun s3 s4 wr => ∃ (x j k : Nat) (es : List UInt8), s3 = .int .i64 (x : Int) ∧ x ≤ m ∧ k = es.length ∧ k + j = 8 ∧ Hid (x < 256 ^ j) ∧ Hid (digs 8 m = digs j x ++ es) ∧ wr.ownsRow w.heap.size 5 1 s4 k (B8 es.reverse) ∧ Hid (Below w.heap.size w wr))
  (fun s3 _ _ => (intOf s3).toNat)
 case atStart => exact ⟨m, 8, 0, [], rfl, Nat.le_refl _, rfl, rfl, Lh (by omega), Lh (by simp), World.ownsRow_nil _ _ _ _, Lh (Below.refl _ _)⟩
 case round =>
 obtain ⟨x, j, k, es, rfl, hxm, hk, hkj, HX, HD, ho, HB⟩ := hrel
 obtain ⟨A3, c3, rfl, _, _, hrd⟩ := own_form ho
 have HO := Lh ho
 have HK := Lh hk
 clear ho hk
 by_cases hx0 : 0 < x
 ·
  have hx0' : (0 : Int) < (x : Int) := by omega
  obtain ⟨y, hy⟩ : ∃ y, y = UInt8.ofNat (x % 256) := ⟨_, rfl⟩
  have hmod : (x : Int) % 256 = (y.toNat : Int) := by rw [hy, UInt8.toNat_ofNat']; omega
  have hmod' : (x : Int).tmod 256 = (y.toNat : Int) := by rw [Int.tmod_eq_emod_of_nonneg (by omega)]; exact hmod
  have hwy : IntKind.u8.wrap (y.toNat : Int) = (y.toNat : Int) := by rw [IntKind.wrap_u8']; have := y.toNat_lt; omega
  have hwy' : (y.toNat : Int) % 256 = (y.toNat : Int) := by have := y.toNat_lt; omega
  obtain ⟨q, hq⟩ : ∃ q, q = x / 256 := ⟨_, rfl⟩
  have hdiv : (x : Int) / 256 = (q : Int) := by omega
  have hdiv' : (x : Int).tdiv 256 = (q : Int) := by rw [Int.tdiv_eq_ediv_of_nonneg (by omega)]; exact hdiv
  have HY := Lh hy
  have HQ := Lh hq
  clear hy hq
  go_wp2_with (at_builtin; refine wpList_append_rd rfl (.tmp 16) (.tmp 20) rfl w.heap.size _ k _ rfl (HO.out.alloc _) (some ⟨wr.heap.size, 0, none⟩) 1 1 _ [y] rfl (fun h => by cases h) rfl (rd_lit wr y) (by omega) (by have := HB.out.size; simp; omega) ?_; intro v4 w4 ho4 hg4; have HO4 := Lh ho4; have HB4 := Lh ((HB.out.alloc HB.out.size (.cells #[.int .u8 (y.toNat : Int)] 5)).grown hg4 (HB.out.alloc HB.out.size _).size (fun q hq => (HO.out.lt q hq).1)); clear ho4 hg4)
  go_roundw
  case rel =>
   obtain ⟨i, rfl⟩ : ∃ i, j = i + 1 := by
    cases j with
    | zero => have := HX.out; simp at this; omega
    | succ i => exact ⟨i, rfl⟩
   refine ⟨q, i, k + 1, y :: es, by go_num, by have := HQ.out; omega, by have := HK.out; simp; omega, by omega, Lh (by have := HX.out; rw [Nat.pow_succ] at this; rw [HQ.out, Nat.div_lt_iff_lt_mul (by decide)]; omega), Lh (by rw [HD.out, digs_step i x (by omega), HQ.out, HY.out]; simp), ?_, HB4⟩
   have := HO4.out
   rw [← B8_append] at this
   simpa using this
  case measure => simp only [intOf]; have := HQ.out; omega
 ·
  obtain rfl : x = 0 := by omega
  have hD : digs 8 m = es := by rw [HD.out, digs_zero]; rfl
  have hk8 : k ≤ 8 := by omega
  obtain ⟨z, hz⟩ : ∃ z, z = UInt8.ofNat (128 + k) := ⟨_, rfl⟩
  have hzi : (128 : Int) + (k : Int) = (z.toNat : Int) := by rw [hz, UInt8.toNat_ofNat']; omega
  have hwz : IntKind.u8.wrap (z.toNat : Int) = (z.toNat : Int) := by rw [IntKind.wrap_u8']; have := z.toNat_lt; omega
  have hwz' : (z.toNat : Int) % 256 = (z.toNat : Int) := by have := z.toNat_lt; omega
  have henc : enc (m : Int) = z :: es := by rw [enc_pos, hD, hz, HK.out]
  have HE := Lh henc
  have HRD := Lh hrd
  have HON := Lh (World.ownsRow_nil (wr.alloc (.cells #[.int .u8 (z.toNat : Int)] 5)) wr.heap.size 5 1)
  clear hD hz HD henc hrd HO HX hkj hx0
  go_wp2_with (at_builtin; refine wpList_append_rd rfl (.tmp 28) (.tmp 32) rfl wr.heap.size _ 0 [] rfl HON.out (some ⟨wr.heap.size, 0, none⟩) 1 1 _ [z] rfl (fun h => by cases h) rfl (rd_lit wr z) (by omega) (by simp) ?_; intro v5 w5 ho5 hg5; have HO5 := Lh (show w5.ownsRow wr.heap.size 5 1 v5 (1 + 0) (B8 (z :: es.take 0)) by simpa using ho5); have HB5 := Lh (((Below.refl wr.heap.size wr).alloc (Nat.le_refl _) (.cells #[.int .u8 (z.toNat : Int)] 5)).grown hg5 (by simp) (fun q hq => (HON.out.lt q hq).1)); clear ho5 hg5)
  go_loopw [6, 7, 8] (fun s6 s7 s8 wq => ∃ p : Nat, p ≤ k ∧ s7 = .int .i64 ((k : Int) - 1 - (p : Int)) ∧ wq.ownsRow wr.heap.size 5 1 s6 (1 + p) (B8 (z :: es.take p)) ∧ Hid (Below wr.heap.size wr wq))
   (fun _ s7 _ _ => (intOf s7 + 1).toNat)
  case atStart => exact ⟨0, Nat.zero_le _, by simp, HO5.out, HB5⟩
  case round =>
  clear HO5 HB5 HON
  obtain ⟨p, hp, rfl, ho6, HB6⟩ := hrel
  have HO6 := Lh ho6
  clear ho6
  by_cases hlt : p < k
  ·
   obtain ⟨q, hq⟩ : ∃ q : Nat, (q : Int) = (k : Int) - 1 - (p : Int) := ⟨k - 1 - p, by omega⟩
   rw [← hq]
   have hk := HK.out
   have hlen : (B8 es.reverse).length = k := by rw [B8_len, List.length_reverse, ← hk]
   obtain ⟨g, o, rfl, hg, hcell⟩ := HRD.out (by intro e; rw [e] at hlen; simp at hlen; omega)
   obtain ⟨d, hd⟩ : ∃ d, d = es[p]'(by omega) := ⟨_, rfl⟩
   have hcq : wr.cell? ⟨g, o + q, none⟩ = some (.int .u8 (d.toNat : Int)) := by
    rw [HB6.out.cell (show (⟨g, o + q, none⟩ : Addr).block < _ from hg)]
    refine hcell q _ ?_
    rw [B8_get es.reverse q (by rw [List.length_reverse]; omega), List.getElem_reverse]
    have : es.length - 1 - q = p := by omega
    simp only [this, hd]
   have hqk : (q : Int) < (k : Int) := by omega
   have ht : Hid (es.take (p + 1) = es.take p ++ [d]) := Lh (by rw [List.take_succ_eq_append_getElem (by omega), hd])
   have HQ := Lh hq
   clear hk hlen hcell hd hq
   go_wp2_with (at_builtin; refine wpList_append_rd rfl (.tmp 54) (.tmp 56) rfl _ _ (1 + p) _ rfl (HO6.out.alloc _) (some ⟨wr.heap.size, 0, none⟩) 1 1 _ [d] rfl (fun h => by cases h) rfl (rd_lit wr d) (by omega) (by have := HB6.out.size; simp; omega) ?_; intro v7 w7 ho7 hg7; have HO7 := Lh ho7; have HB7 := Lh ((HB6.out.alloc HB6.out.size (.cells #[.int .u8 (d.toNat : Int)] 5)).grown hg7 (HB6.out.alloc HB6.out.size _).size (fun q hq => (HO6.out.lt q hq).1)); clear ho7 hg7)
   go_roundw
   case rel =>
    refine ⟨p + 1, hlt, by have := HQ.out; congr 1; omega, ?_, HB7⟩
    have := HO7.out
    rw [← B8_append, List.cons_append, ← ht.out] at this
    exact this
   case measure => simp only [intOf]; have := HQ.out; omega
  ·
   obtain rfl : p = k := by omega
   go_wp2_with fail
   go_ret
   have hBw := HB.out
   refine ⟨_, rfl, ?_, hBw.trans (HB6.out.mono hBw.size)⟩
   have hfin := HO6.out
   rw [List.take_of_length_le (by rw [← HK.out]; exact Nat.le_refl _), ← HE.out] at hfin
   have hl : (enc (m : Int)).length = 1 + p := by rw [HE.out, HK.out]; simp; omega
   rw [hl]
   exact own_baseR hfin hBw.size
end Go.Proofs.YtofccgkgjcnfbaaDoor
namespace Go.Proofs.YtofccgkgjcnfbaaDoor
open Go.RowKit Wr
set_option linter.unusedVariables false
set_option maxRecDepth 100000
theorem xor255 (a : UInt8) : bits BinOp.xor IntKind.u8 (a.toNat : Int) ((255 : UInt8).toNat : Int) = 255 - (a.toNat : Int) := by
 have h : ∀ b : BitVec 8, (b ^^^ 255#8).toNat = 255 - b.toNat := by decide
 have := h a.toBitVec
 rw [xor8, UInt8.toNat_xor]
 have e : a.toNat ^^^ (255 : UInt8).toNat = 255 - a.toNat := by
  rw [BitVec.toNat_xor] at this; exact this
 have := a.toNat_lt
 omega
theorem enc_neg (n : Int) (m : Nat) (hm : (m : Int) = -1 - n) (h : n < 0) : enc n = (UInt8.ofNat (128 + (digs 8 m).length) ^^^ 255) :: (digs 8 m).map (· ^^^ 255) := by
 have : mag n = m := by unfold mag; rw [if_pos h]; omega
 unfold enc fl
 rw [if_pos h, this]
 rfl
set_option maxRecDepth 100000 in
set_option maxHeartbeats 4000000 in
theorem rint_neg (n : Int) (w : World) (h0 : n < 0) (h1 : -9223372036854775808 ≤ n) :
  Calls Tryd.prog 79 #[.int .i64 n] w fun e w' => ∃ v', e = .returned v' ∧ w'.ownsRow w.heap.size 5 1 v' (enc n).length (B8 (enc n)) ∧ Below w.heap.size w w' := by
 obtain ⟨m, hm⟩ : ∃ m : Nat, (m : Int) = -1 - n := ⟨(-1 - n).toNat, by omega⟩
 have hsub : IntKind.i64.wrap (-1 - n) = (m : Int) := by rw [IntWalk.i64_in _ (by omega)]; omega
 have hge : ¬ (0 ≤ n) := by omega
 have HM := Lh hm
 have hm' : m < 9223372036854775808 := by omega
 clear hm
 go_enter Tryd.func79, Tryd.ntmps79
 go_wp2_with fail
 go_loopw [3, 4] (fun s3 s4 wr => ∃ (x j k : Nat) (es : List UInt8), s3 = .int .i64 (x : Int) ∧ x ≤ m ∧ k = es.length ∧ k + j = 8 ∧ Hid (x < 256 ^ j) ∧ Hid (digs 8 m = digs j x ++ es) ∧ wr.ownsRow w.heap.size 5 1 s4 k (B8 es.reverse) ∧ Hid (Below w.heap.size w wr))
  (fun s3 _ _ => (intOf s3).toNat)
 case atStart => exact ⟨m, 8, 0, [], rfl, Nat.le_refl _, rfl, rfl, Lh (by omega), Lh (by simp), World.ownsRow_nil _ _ _ _, Lh (Below.refl _ _)⟩
 case round =>
 obtain ⟨x, j, k, es, rfl, hxm, hk, hkj, HX, HD, ho, HB⟩ := hrel
 obtain ⟨A3, c3, rfl, _, _, hrd⟩ := own_form ho
 have HO := Lh ho
 have HK := Lh hk
 clear ho hk
 by_cases hx0 : 0 < x
 ·
  have hx0' : (0 : Int) < (x : Int) := by omega
  obtain ⟨y, hy⟩ : ∃ y, y = UInt8.ofNat (x % 256) := ⟨_, rfl⟩
  have hmod : (x : Int) % 256 = (y.toNat : Int) := by rw [hy, UInt8.toNat_ofNat']; omega
  have hmod' : (x : Int).tmod 256 = (y.toNat : Int) := by rw [Int.tmod_eq_emod_of_nonneg (by omega)]; exact hmod
  have hwy : IntKind.u8.wrap (y.toNat : Int) = (y.toNat : Int) := by rw [IntKind.wrap_u8']; have := y.toNat_lt; omega
  have hwy' : (y.toNat : Int) % 256 = (y.toNat : Int) := by have := y.toNat_lt; omega
  obtain ⟨q, hq⟩ : ∃ q, q = x / 256 := ⟨_, rfl⟩
  have hdiv : (x : Int) / 256 = (q : Int) := by omega
  have hdiv' : (x : Int).tdiv 256 = (q : Int) := by rw [Int.tdiv_eq_ediv_of_nonneg (by omega)]; exact hdiv
  have HY := Lh hy
  have HQ := Lh hq
  clear hy hq
  go_wp2_with (at_builtin; refine wpList_append_rd rfl (.tmp 16) (.tmp 20) rfl w.heap.size _ k _ rfl (HO.out.alloc _) (some ⟨wr.heap.size, 0, none⟩) 1 1 _ [y] rfl (fun h => by cases h) rfl (rd_lit wr y) (by omega) (by have := HB.out.size; simp; omega) ?_; intro v4 w4 ho4 hg4; have HO4 := Lh ho4; have HB4 := Lh ((HB.out.alloc HB.out.size (.cells #[.int .u8 (y.toNat : Int)] 5)).grown hg4 (HB.out.alloc HB.out.size _).size (fun q hq => (HO.out.lt q hq).1)); clear ho4 hg4)
  go_roundw
  case rel =>
   obtain ⟨i, rfl⟩ : ∃ i, j = i + 1 := by
    cases j with
    | zero => have := HX.out; simp at this; omega
    | succ i => exact ⟨i, rfl⟩
   refine ⟨q, i, k + 1, y :: es, by go_num, by have := HQ.out; omega, by have := HK.out; simp; omega, by omega, Lh (by have := HX.out; rw [Nat.pow_succ] at this; rw [HQ.out, Nat.div_lt_iff_lt_mul (by decide)]; omega), Lh (by rw [HD.out, digs_step i x (by omega), HQ.out, HY.out]; simp), ?_, HB4⟩
   have := HO4.out
   rw [← B8_append] at this
   simpa using this
  case measure => simp only [intOf]; have := HQ.out; omega
 ·
  obtain rfl : x = 0 := by omega
  have hD : digs 8 m = es := by rw [HD.out, digs_zero]; rfl
  have hk8 : k ≤ 8 := by omega
  obtain ⟨z, hz⟩ : ∃ z, z = UInt8.ofNat (128 + k) ^^^ 255 := ⟨_, rfl⟩
  have hzi : (127 : Int) - (k : Int) = (z.toNat : Int) := by
   rw [hz, ← xor8, xor255, UInt8.toNat_ofNat']; omega
  have hwz : IntKind.u8.wrap (z.toNat : Int) = (z.toNat : Int) := by rw [IntKind.wrap_u8']; have := z.toNat_lt; omega
  have hwz' : (z.toNat : Int) % 256 = (z.toNat : Int) := by have := z.toNat_lt; omega
  have henc : enc n = z :: es.map (· ^^^ 255) := by rw [enc_neg n m HM.out h0, hD, hz, HK.out]
  have HE := Lh henc
  have HRD := Lh hrd
  have HON := Lh (World.ownsRow_nil (wr.alloc (.cells #[.int .u8 (z.toNat : Int)] 5)) wr.heap.size 5 1)
  clear hD hz HD henc hrd HO HX hkj hx0
  go_wp2_with (at_builtin; refine wpList_append_rd rfl (.tmp 34) (.tmp 38) rfl wr.heap.size _ 0 [] rfl HON.out (some ⟨wr.heap.size, 0, none⟩) 1 1 _ [z] rfl (fun h => by cases h) rfl (rd_lit wr z) (by omega) (by simp) ?_; intro v5 w5 ho5 hg5; have HO5 := Lh (show w5.ownsRow wr.heap.size 5 1 v5 (1 + 0) (B8 (z :: (es.map (· ^^^ 255)).take 0)) by simpa using ho5); have HB5 := Lh (((Below.refl wr.heap.size wr).alloc (Nat.le_refl _) (.cells #[.int .u8 (z.toNat : Int)] 5)).grown hg5 (by simp) (fun q hq => (HON.out.lt q hq).1)); clear ho5 hg5)
  go_loopw [6, 7, 8] (fun s6 s7 s8 wq => ∃ p : Nat, p ≤ k ∧ s7 = .int .i64 ((k : Int) - 1 - (p : Int)) ∧ wq.ownsRow wr.heap.size 5 1 s6 (1 + p) (B8 (z :: (es.map (· ^^^ 255)).take p)) ∧ Hid (Below wr.heap.size wr wq))
   (fun _ s7 _ _ => (intOf s7 + 1).toNat)
  case atStart => exact ⟨0, Nat.zero_le _, by simp, HO5.out, HB5⟩
  case round =>
  clear HO5 HB5 HON
  obtain ⟨p, hp, rfl, ho6, HB6⟩ := hrel
  have HO6 := Lh ho6
  clear ho6
  by_cases hlt : p < k
  ·
   obtain ⟨q, hq⟩ : ∃ q : Nat, (q : Int) = (k : Int) - 1 - (p : Int) := ⟨k - 1 - p, by omega⟩
   rw [← hq]
   have hk := HK.out
   have hlen : (B8 es.reverse).length = k := by rw [B8_len, List.length_reverse, ← hk]
   obtain ⟨g, o, rfl, hg, hcell⟩ := HRD.out (by intro e; rw [e] at hlen; simp at hlen; omega)
   obtain ⟨d, hd⟩ : ∃ d, d = es[p]'(by omega) := ⟨_, rfl⟩
   have hcq : wr.cell? ⟨g, o + q, none⟩ = some (.int .u8 (d.toNat : Int)) := by
    rw [HB6.out.cell (show (⟨g, o + q, none⟩ : Addr).block < _ from hg)]
    refine hcell q _ ?_
    rw [B8_get es.reverse q (by rw [List.length_reverse]; omega), List.getElem_reverse]
    have : es.length - 1 - q = p := by omega
    simp only [this, hd]
   have hqk : (q : Int) < (k : Int) := by omega
   obtain ⟨f, hf⟩ : ∃ f, f = d ^^^ 255 := ⟨_, rfl⟩
   have h255 : (255 : Int) - (d.toNat : Int) = (f.toNat : Int) := by rw [hf, ← xor8, xor255]
   have hw255 : IntKind.u8.wrap (f.toNat : Int) = (f.toNat : Int) := by rw [IntKind.wrap_u8']; have := f.toNat_lt; omega
   have ht : Hid ((es.map (· ^^^ 255)).take (p + 1) = (es.map (· ^^^ 255)).take p ++ [f]) := Lh (by rw [List.take_succ_eq_append_getElem (by simp; omega), hf, hd]; simp)
   have HQ := Lh hq
   clear hk hlen hcell hd hq hf
   go_wp2_with (at_builtin; refine wpList_append_rd rfl (.tmp 54) (.tmp 56) rfl _ _ (1 + p) _ rfl (HO6.out.alloc _) (some ⟨wr.heap.size, 0, none⟩) 1 1 _ [f] rfl (fun h => by cases h) rfl (rd_lit wr f) (by omega) (by have := HB6.out.size; simp; omega) ?_; intro v7 w7 ho7 hg7; have HO7 := Lh ho7; have HB7 := Lh ((HB6.out.alloc HB6.out.size (.cells #[.int .u8 (f.toNat : Int)] 5)).grown hg7 (HB6.out.alloc HB6.out.size _).size (fun q hq => (HO6.out.lt q hq).1)); clear ho7 hg7)
   go_roundw
   case rel =>
    refine ⟨p + 1, hlt, by have := HQ.out; congr 1; omega, ?_, HB7⟩
    have := HO7.out
    rw [← B8_append, List.cons_append, ← ht.out] at this
    exact this
   case measure => simp only [intOf]; have := HQ.out; omega
  ·
   obtain rfl : p = k := by omega
   go_wp2_with fail
   go_ret
   have hBw := HB.out
   refine ⟨_, rfl, ?_, hBw.trans (HB6.out.mono hBw.size)⟩
   have hfin := HO6.out
   rw [List.take_of_length_le (by rw [List.length_map, ← HK.out]; exact Nat.le_refl _), ← HE.out] at hfin
   have hl : (enc n).length = 1 + p := by rw [HE.out, HK.out]; simp; omega
   rw [hl]
   exact own_baseR hfin hBw.size
theorem rint_any (n : Int) (w : World) (h0 : -9223372036854775808 ≤ n) (h1 : n ≤ 9223372036854775807) :
  Calls Tryd.prog 79 #[.int .i64 n] w fun e w' => ∃ v', e = .returned v' ∧ w'.ownsRow w.heap.size 5 1 v' (enc n).length (B8 (enc n)) ∧ Below w.heap.size w w' := by
 by_cases h : n < 0
 ·
  exact rint_neg n w h h0
 ·
  exact rint_pos n w (by omega) h1
end Go.Proofs.YtofccgkgjcnfbaaDoor
namespace Go.Proofs.YtofccgkgjcnfbaaDoor
open Go.RowKit Wr
set_option linter.unusedVariables false
set_option maxRecDepth 100000
set_option maxRecDepth 100000 in
set_option maxHeartbeats 4000000 in
theorem rbytes_any (s : ByteArray) (w : World) (hs : s.size ≤ 1099511627776) :
  Calls Tryd.prog 88 #[.string s] w fun e w' => ∃ v', e = .returned v' ∧ w'.ownsRow w.heap.size 5 1 v' (encStr s.data.toList).length (B8 (encStr s.data.toList)) ∧ Below w.heap.size w w' := by
 go_enter Tryd.func88, Tryd.ntmps88
 have hel := enc_le (s.size : Int)
 go_wp2_with (first
  | (go_at_call 79; refine (rint_any _ _ (by omega) (by omega)).mono ?_; rintro e w1 ⟨v1, rfl, ho1, hb1⟩; have HO1 := Lh ho1; have HB1 := Lh hb1; clear ho1 hb1)
  | (refine wpList_bytes_of rfl 9 39 5 (.tmp 6) rfl s rfl Tryd.underlying9 Tryd.underlying39 Tryd.underlying5 ?_; intro C w2 hC hrd hb2; have HRD := Lh hrd; have HB2 := Lh hb2; clear hrd hb2)
  | (at_builtin; refine wpList_append_rd rfl (.tmp 5) (.tmp 7) rfl w.heap.size v1 _ _ rfl (own_below HO1.out HB2.out) _ s.size C _ s.data.toList rfl (fun h => by cases h) (size_list s) HRD.out (by omega) (Nat.le_trans HB1.out.size HB2.out.size) ?_; intro v3 w3 ho3 hg3; have HO3 := Lh ho3; have HB3 := Lh ((HB1.out.trans (HB2.out.mono HB1.out.size)).grown hg3 (Nat.le_trans HB1.out.size HB2.out.size) (fun q hq => (HO1.out.lt q hq).1)); clear ho3 hg3))
 go_ret
 refine ⟨_, rfl, ?_, HB3.out⟩
 have := HO3.out
 rw [← B8_append] at this
 unfold encStr
 rw [List.length_append, size_list]
 exact this
end Go.Proofs.YtofccgkgjcnfbaaDoor
namespace Go.Proofs.YtofccgkgjcnfbaaDoor
open Go.RowKit Wr Sh
set_option linter.unusedVariables false
set_option maxRecDepth 100000
end Go.Proofs.YtofccgkgjcnfbaaDoor
namespace Go.Proofs.YtofccgkgjcnfbaaDoor
open Go.RowKit Wr Sh
set_option linter.unusedVariables false
set_option maxRecDepth 100000
attribute [local go_sem] xor_val and_val or_val add_val add_val' not_val
theorem fm_at : ∀ (l : List W) (q r : Nat), r < 4 → (l.flatMap bytes4)[4 * q + r]? = (l[q]?).bind fun x => (bytes4 x)[r]? := by
 intro l
 induction l with
 | nil => intro q r _; simp
 | cons x l ih =>
  intro q r hr
  rw [List.flatMap_cons]
  have hl : (bytes4 x).length = 4 := rfl
  cases q with
  | zero => rw [List.getElem?_append_left (by rw [hl]; omega)]; simp
  | succ q =>
   rw [List.getElem?_append_right (by rw [hl]; omega), hl, show 4 * (q + 1) + r - 4 = 4 * q + r by omega, ih q r hr]; rfl
theorem b4_at (x : W) (r k : Nat) (hr : r < 4) (hk : k = 24 - 8 * r) : (bytes4 x)[r]? = some (lo8 (x >>> k)) := by
 subst hk
 have : r = 0 ∨ r = 1 ∨ r = 2 ∨ r = 3 := by omega
 rcases this with rfl | rfl | rfl | rfl <;> simp [bytes4]
theorem lo8_val (x : W) (k : Nat) : val x / (2 ^ k : Int) % 256 = ((lo8 (x >>> k)).toNat : Int) := by
 unfold lo8 Sh.val
 rw [UInt8.toNat_ofNat', BitVec.toNat_ushiftRight, Nat.shiftRight_eq_div_pow]
 have : ((2 : Int) ^ k) = ((2 ^ k : Nat) : Int) := by simp
 rw [this, ← Int.natCast_ediv]; omega
theorem byte_at (v : S8) (i q r k : Nat) (hi : i < 32) (hq : i = 4 * q + r) (hr : r < 4) (hk : k = 24 - 8 * r) :
  ∃ (y : W) (c : UInt8), (U32 v.list)[q]? = some (.int .u32 (val y)) ∧ val y / (2 ^ k : Int) % 256 = (c.toNat : Int) ∧ v.bytes[i]? = some c := by
 have hq8 : q < v.list.length := by show q < 8; omega
 refine ⟨v.list[q], lo8 (v.list[q] >>> k), ?_, lo8_val _ _, ?_⟩
 ·
  unfold U32; rw [List.getElem?_map, List.getElem?_eq_getElem hq8]; rfl
 ·
  unfold S8.bytes
  rw [hq, fm_at _ q r hr, List.getElem?_eq_getElem hq8]
  exact b4_at _ r k hr hk
def outc (l : List UInt8) (i : Nat) : List UInt8 := l.take i ++ List.replicate (32 - i) 0
theorem outc_at (l : List UInt8) (i : Nat) (hl : l.length = 32) (hi : i < 32) : (B8 (outc l i))[i]? = some (.int .u8 0) := by
 unfold outc
 rw [B8_append, List.getElem?_append_right (by rw [B8_len, List.length_take]; omega), B8_len, List.length_take]
 rw [show i - min i l.length = 0 by omega, show 32 - i = (32 - (i + 1)) + 1 by omega, List.replicate_succ]; rfl
theorem outc_set (l : List UInt8) (i : Nat) (c : UInt8) (hl : l.length = 32) (hi : i < 32) (hc : l[i]? = some c) : (B8 (outc l i)).set i (.int .u8 (c.toNat : Int)) = B8 (outc l (i + 1)) := by
 have hil : i < l.length := by omega
 have hci : l[i] = c := by rw [List.getElem?_eq_getElem hil] at hc; exact Option.some.inj hc
 unfold outc
 rw [show 32 - i = (32 - (i + 1)) + 1 by omega, List.replicate_succ, List.take_succ_eq_append_getElem hil, hci, B8_append, B8_append, B8_append, List.set_append_right _ _ (by rw [B8_len, List.length_take]; omega), B8_len, List.length_take,
  show i - min i l.length = 0 by omega]
 simp [B8]
theorem outc_end (l : List UInt8) (hl : l.length = 32) : outc l 32 = l := by unfold outc; rw [List.take_of_length_le (by omega)]; simp
theorem pad_len (m : List UInt8) : (pad m).length = 64 * ((pad m).length / 64) := by
 have : (pad m).length % 64 = 0 := by
  unfold pad tail noughts
  simp only [List.length_append, List.length_cons, List.length_replicate, be8, List.length_map, List.length_range]
  omega
 omega
theorem pad_le (m : List UInt8) : (pad m).length ≤ m.length + 72 ∧ m.length + 9 ≤ (pad m).length := by
 unfold pad tail noughts
 simp only [List.length_append, List.length_cons, List.length_replicate, be8, List.length_map, List.length_range]
 omega
set_option maxRecDepth 100000 in
set_option maxHeartbeats 8000000 in
theorem rsum_go (m : List UInt8) (A : Option Addr) (c : Nat) (w : World) (hr : Rd w w.heap.size A (B8 m)) (hnil : A = none → c = 0) (hsz : m.length ≤ 549755813888) (ht : Tab 0 w) (R : List UInt8) (hR : Hid (R = sha m)) :
  Calls Tryd.prog 98 #[.slice A m.length c] w fun e w' => e = .returned (.agg (B8 R).toArray) ∧ Below w.heap.size w w' := by
 have HT := Lh ht
 have HR := Lh hr
 have HNIL := Lh hnil
 obtain ⟨P, hP⟩ : ∃ P, P = pad m := ⟨_, rfl⟩
 obtain ⟨nb, hnb⟩ : ∃ n, n = P.length / 64 := ⟨_, rfl⟩
 obtain ⟨LP, hLP⟩ : ∃ n, n = P.length := ⟨_, rfl⟩
 have hLP64 : LP = 64 * nb := by rw [hLP, hnb, hP]; exact pad_len m
 have hLPs : LP ≤ 549755813888 + 72 ∧ 9 ≤ LP := by have := pad_le m; rw [← hP, ← hLP] at this; omega
 obtain ⟨N, hN⟩ : ∃ N, N = m.length := ⟨_, rfl⟩
 have HPAD : Hid (∀ W, Below w.heap.size w W → Calls Tryd.prog 110 #[.slice A N c] W fun e w' => ∃ g o c', e = .returned (.slice (some ⟨g, o, none⟩) LP c') ∧ W.heap.size ≤ g ∧ LP ≤ c' ∧ Rd w' w'.heap.size (some ⟨g, o, none⟩) (B8 P) ∧ Below W.heap.size W w') := Lh (by
  intro W hW
  rw [hN]
  refine (padded_go m A c W (by omega) ((hr.below hW).more hW.size) hnil).mono ?_
  rintro e w' ⟨v', rfl, ho, hb⟩
  obtain ⟨A', c', rfl, h1, _, h3⟩ := own_form ho
  rw [← hP] at h1 h3 ⊢
  rw [← hLP] at h1 ⊢
  obtain ⟨g, o, rfl, _, _⟩ := h3 (by intro e; have := congrArg List.length e; rw [B8_len] at this; simp at this; rw [this] at hLP; simp at hLP; omega)
  exact ⟨g, o, c', rfl, (ho.lt g rfl).1, h1, h3, hb⟩)
 rw [← hN] at hsz ⊢
 have HP := Lh hP
 have HNB := Lh hnb
 have HLP := Lh hLP
 have HL64 := Lh hLP64
 have b30 : ∀ W : World, (Instr.build 148 #[(0, .int .u32 1779033703), (1, .int .u32 3144134277), (2, .int .u32 1013904242), (3, .int .u32 2773480762), (4, .int .u32 1359893119), (5, .int .u32 2600822924), (6, .int .u32 528734635), (7, .int .u32 1541459225)]).run Tryd.prog W = .ok (.agg (U32 init.list).toArray) W := fun _ => by kernel_rfl
 have HB0 := Lh (((Below.refl w.heap.size w).alloc (Nat.le_refl _) (.cells (B8 (List.replicate 32 0)).toArray 145)).alloc (by simp) (.cells (U32 (List.replicate 8 0)).toArray 148))
 have hU8 : (U32 (List.replicate 8 0)).toArray.size = (U32 init.list).toArray.size := by rfl
 have HU8 := Lh hU8
 have HBI := Lh (((Below.refl w.heap.size w).alloc (Nat.le_refl _) (.cells (B8 (List.replicate 32 0)).toArray 145)).alloc (by simp) (.cells (U32 init.list).toArray 148))
 have HK0 := Lh ((Blk.new w 145 (B8 (List.replicate 32 0))).alloc (.cells (U32 init.list).toArray 148))
 have HK1 := Lh (Blk.newAt (w.alloc (.cells (B8 (List.replicate 32 0)).toArray 145)) (w.heap.size + 1) 148 (U32 init.list) (by simp))
 clear ht hr hnil hP hnb hLP hN hLP64 hU8
 go_enter Tryd.func98, Tryd.ntmps98
 go_wp2_with (first
  | (go_at_call 110; refine (HPAD.out _ HBI.out).mono ?_; rintro e w1 ⟨g1, o1, c1, rfl, hg1, hc1, hrd1, hb1⟩; have HGE := Lh (show w.heap.size + 2 ≤ g1 by simpa using hg1); clear hg1; have HRD1 := Lh hrd1; have HC1 := Lh hc1; have HB1 := Lh (HBI.out.trans (hb1.mono HBI.out.size)); have K0 := Lh (HK0.out.below hb1 HK0.out.lt); have K1 := Lh (HK1.out.below hb1 HK1.out.lt); clear hrd1 hc1 hb1))
 have HG1 := Lh (show g1 < w1.heap.size by
  obtain ⟨g, o, e, hg, _⟩ := HRD1.out (by intro e; have := congrArg List.length e; rw [B8_len, ← HLP.out] at this; simp at this; omega)
  cases e; exact hg)
 have HLOC : Hid (∀ j u, (B8 P)[j]? = some u → w1.cell? ⟨g1, o1 + j, none⟩ = some u) := Lh (by
  obtain ⟨g, o, e, hg, hc⟩ := HRD1.out (by intro e; have := congrArg List.length e; rw [B8_len, ← HLP.out] at this; simp at this; omega)
  cases e; exact hc)
 have HNE := Lh (show w.heap.size + 1 < w1.heap.size from K1.out.lt)
 clear HPAD HBI HK0 HK1 HR HNIL b30 HB0 HU8 HRD1
 go_loopw [5] (fun s5 wr => ∃ k : Nat, k ≤ nb ∧ s5 = .int .i64 ((64 * k : Nat) : Int) ∧ Hid (Blk wr w.heap.size 145 (B8 (List.replicate 32 0))) ∧ Hid (Blk wr (w.heap.size + 1) 148 (U32 (blocks P k).list)) ∧ Hid (∀ b, b < w1.heap.size → b ≠ w.heap.size + 1 → wr.heap[b]? = w1.heap[b]?) ∧ Hid (Below w.heap.size w wr) ∧ Hid (w1.heap.size ≤ wr.heap.size)) (fun s5 _ => LP - (intOf s5).toNat)
 case atStart => exact ⟨0, Nat.zero_le _, rfl, K0, K1, Lh (fun _ _ _ => rfl), HB1, Lh (Nat.le_refl _)⟩
 case round =>
  clear K0 K1 HB1
  rename World => wr
  obtain ⟨k, hk, rfl, K0, K1, HSAME, HB1, HSZ⟩ := hrel
  by_cases hlt : k < nb
  ·
   obtain ⟨a, ha⟩ : ∃ a : Nat, a = 64 * k := ⟨_, rfl⟩
   have haL : a + 64 ≤ LP := by have := HL64.out; omega
   have hac : a + 64 ≤ c1 := Nat.le_trans haL HC1.out
   have h1 : (a : Int) < (LP : Int) := by omega
   have q1 : IntKind.i64.wrap ((a : Int) + 64) = (a : Int) + 64 := IntWalk.i64_in _ (by omega)
   have g1' : (a : Int) + 64 ≤ (c1 : Int) := by omega
   have g2' : (a : Int) ≤ (a : Int) + 64 := by omega
   have t1 : ((a : Int) + 64).toNat = a + 64 := by omega
   rw [← ha]
   have HA := Lh ha
   clear ha
   obtain ⟨b, hb⟩ : ∃ b, b = (P.drop a).take 64 := ⟨_, rfl⟩
   have hb64 : b.length = 64 := by rw [hb, List.length_take, List.length_drop, ← HLP.out]; omega
   have hrd : Rd wr wr.heap.size (some ⟨g1, o1 + a, none⟩) (B8 b) := by
    intro _
    refine ⟨g1, o1 + a, rfl, Nat.lt_of_lt_of_le HG1.out HSZ.out, fun j u hu => ?_⟩
    have hj : j < 64 := by have := (List.getElem?_eq_some_iff.1 hu).1; rw [B8_len, hb64] at this; exact this
    have h2 : (B8 P)[a + j]? = some u := by
     rw [← hu, hb]; unfold B8
     rw [List.getElem?_map, List.getElem?_map, List.getElem?_take_of_lt hj, List.getElem?_drop]
    have h3 := HLOC.out (a + j) u h2
    have h4 := HSAME.out g1 HG1.out (by have := HGE.out; omega)
    rw [Nat.add_assoc, ← h3]
    unfold World.cell?
    rw [h4]
   have HRD := Lh hrd
   have Hb := Lh hb
   have Hb64 := Lh hb64
   obtain ⟨L, hL⟩ : ∃ L, L = sched b := ⟨_, rfl⟩
   have hl : L.length = 64 := by rw [hL]; exact wl_len b 48
   have HL0 := Lh hL
   have HL := Lh hl
   have HS := Lh (show (U32 L).length = 64 by rw [U32_len, hl])
   have HCC := Lh (show 64 ≤ c1 - a by omega)
   obtain ⟨v, hv⟩ : ∃ v, v = blocks P k := ⟨_, rfl⟩
   rw [← hv] at K1
   have Hv := Lh hv
   clear hrd hb hb64 hL hl hv
   go_wp2_with (first
    | (go_at_call 111; refine (words_go b _ _ _ Hb64.out HRD.out HCC.out L HL0).mono ?_; rintro e w2 ⟨rfl, hb2⟩; have HB2 := Lh hb2; clear hb2)
    | (with_reducible refine wpList_store_row rfl 160 (.tmp 6) (.tmp 34) rfl w2.heap.size (U32 L).toArray rfl rfl 160 _ (heap_alloc_new w2 _) (size55' _ HL.out) (by simp [HS.out]) (U32_one _) ?_))
   generalize hW : World.setRow _ _ _ = W1
   have hM : wr.heap.size ≤ w2.heap.size := HB2.out.size
   have hNM : w.heap.size + 1 < wr.heap.size := Nat.lt_of_lt_of_le HNE.out HSZ.out
   have f0 : Blk W1 w.heap.size 145 (B8 (List.replicate 32 0)) := by
    rw [← hW]; exact (((K0.out.below HB2.out (by omega)).alloc _).setRow (by omega) _)
   have f1 : Blk W1 (w.heap.size + 1) 148 (U32 v.list) := by
    rw [← hW]; exact (((K1.out.below HB2.out (by omega)).alloc _).setRow (by omega) _)
   have f5 : Blk W1 w2.heap.size 160 (U32 L) := by
    rw [← hW]; exact Blk.row (Blk.new w2 160 (U32 (List.replicate 64 0))) (U32 L)
   have hbel : Below wr.heap.size wr W1 := by
    rw [← hW]; exact belowRow (HB2.out.alloc hM _) hM _
   have HB := Lh hbel
   clear hW HB2 hbel K0 K1
   obtain ⟨M, hM0⟩ : ∃ M, M = w2.heap.size := ⟨_, rfl⟩
   rw [← hM0] at f5 hM ⊢
   clear hM0
   have c0 : W1.cell? ⟨w.heap.size + 1, 0, none⟩ = some (.int .u32 (val v.a)) := f1.cell 0
   have c1 : W1.cell? ⟨w.heap.size + 1, 1, none⟩ = some (.int .u32 (val v.b)) := f1.cell 1
   have c2 : W1.cell? ⟨w.heap.size + 1, 2, none⟩ = some (.int .u32 (val v.c)) := f1.cell 2
   have c3 : W1.cell? ⟨w.heap.size + 1, 3, none⟩ = some (.int .u32 (val v.d)) := f1.cell 3
   have c4 : W1.cell? ⟨w.heap.size + 1, 4, none⟩ = some (.int .u32 (val v.e)) := f1.cell 4
   have c5 : W1.cell? ⟨w.heap.size + 1, 5, none⟩ = some (.int .u32 (val v.f)) := f1.cell 5
   have c6 : W1.cell? ⟨w.heap.size + 1, 6, none⟩ = some (.int .u32 (val v.g)) := f1.cell 6
   have c7 : W1.cell? ⟨w.heap.size + 1, 7, none⟩ = some (.int .u32 (val v.h)) := f1.cell 7
   go_quiet (fail)
   clear c0 c1 c2 c3 c4 c5 c6 c7
   generalize hq : W1.drewN nq = W2
   replace f0 : Blk W2 w.heap.size 145 (B8 (List.replicate 32 0)) := by rw [← hq]; exact f0.drewN _
   replace f1 : Blk W2 (w.heap.size + 1) 148 (U32 v.list) := by rw [← hq]; exact f1.drewN _
   replace f5 : Blk W2 M 160 (U32 L) := by rw [← hq]; exact f5.drewN _
   replace HB : Hid (Below wr.heap.size wr W2) := by rw [← hq]; exact Lh (below_drewN HB.out _)
   clear hq nq
   go_wp2
   go_loopw [7, 8, 9, 10, 11, 12, 13, 14, 15] (fun s7 s8 s9 s10 s11 s12 s13 s14 s15 wy => ∃ (t : Nat) (s : S8), t ≤ 64 ∧ Hid (s = rnds v L t) ∧ s15 = .int .i64 t ∧
     s7 = .int .u32 (val s.a) ∧ s8 = .int .u32 (val s.b) ∧ s9 = .int .u32 (val s.c) ∧ s10 = .int .u32 (val s.d) ∧ s11 = .int .u32 (val s.e) ∧ s12 = .int .u32 (val s.f) ∧ s13 = .int .u32 (val s.g) ∧ s14 = .int .u32 (val s.h) ∧
     Blk wy w.heap.size 145 (B8 (List.replicate 32 0)) ∧ Blk wy (w.heap.size + 1) 148 (U32 v.list) ∧ Blk wy M 160 (U32 L) ∧ Hid (Below wr.heap.size wr wy))
    (fun _ _ _ _ _ _ _ _ s15 _ => 64 - (intOf s15).toNat)
   case atStart => exact ⟨0, v, by omega, Lh rfl, rfl, rfl, rfl, rfl, rfl, rfl, rfl, rfl, rfl, f0, f1, f5, HB⟩
   case round =>
    clear f0 f1 f5 HB
    rename World => wy
    obtain ⟨t, s, ht, hs, rfl, rfl, rfl, rfl, rfl, rfl, rfl, rfl, rfl, f0, f1, f5, HB⟩ := hrel
    by_cases hlt2 : t < 64
    ·
     have ht1 : (t : Int) < 64 := by omega
     obtain ⟨kk, Hk, ck⟩ : ∃ kk : W, Hid (kk = K t) ∧ wy.cell? ⟨0, t, none⟩ = some (.int .u32 (val kk)) := ⟨_, Lh rfl, (HT.out.below (HB1.out.trans (HB.out.mono HB1.out.size)) HT.out.1).2 t hlt2⟩
     obtain ⟨x, Hx, cx⟩ : ∃ x : W, Hid (x = L.getD t 0) ∧ wy.cell? ⟨M, t, none⟩ = some (.int .u32 (val x)) := ⟨_, Lh rfl, by
      have hL := HL.out
      rw [f5.cell, U32, List.getElem?_map, List.getD_eq_getElem?_getD, List.getElem?_eq_getElem (by omega)]; rfl⟩
     go_wp2
     go_quiet (exact Calls.quiet_of (rref_m _ _ _ (by decide)))
     generalize hq : wy.drewN nq = wz
     replace f0 : Blk wz w.heap.size 145 (B8 (List.replicate 32 0)) := by rw [← hq]; exact f0.drewN _
     replace f1 : Blk wz (w.heap.size + 1) 148 (U32 v.list) := by rw [← hq]; exact f1.drewN _
     replace f5 : Blk wz M 160 (U32 L) := by rw [← hq]; exact f5.drewN _
     replace HB : Hid (Below wr.heap.size wr wz) := by rw [← hq]; exact Lh (below_drewN HB.out _)
     clear hq nq ck cx
     go_wp2_with (go_at_call 112; refine (rref_m _ _ _ (by decide)).mono ?_; rintro e w' ⟨rfl, n', rfl⟩)
     go_roundw
     case rel => exact ⟨t + 1, round s kk x, by omega, Lh (by rw [hs.out, Hk.out, Hx.out]; rfl), by go_num, rfl, rfl, rfl, rfl, rfl, rfl, rfl, rfl, f0.drewN _, f1.drewN _, f5.drewN _, Lh (below_drewN HB.out _)⟩
     case measure => simp only [intOf]; omega
    ·
     have hS : s = rnds v L 64 := by rw [hs.out, show t = 64 by omega]
     have HSS := Lh hS
     have c0 : wy.cell? ⟨w.heap.size + 1, 0, none⟩ = some (.int .u32 (val v.a)) := f1.cell 0
     have c1 : wy.cell? ⟨w.heap.size + 1, 1, none⟩ = some (.int .u32 (val v.b)) := f1.cell 1
     have c2 : wy.cell? ⟨w.heap.size + 1, 2, none⟩ = some (.int .u32 (val v.c)) := f1.cell 2
     have c3 : wy.cell? ⟨w.heap.size + 1, 3, none⟩ = some (.int .u32 (val v.d)) := f1.cell 3
     have c4 : wy.cell? ⟨w.heap.size + 1, 4, none⟩ = some (.int .u32 (val v.e)) := f1.cell 4
     have c5 : wy.cell? ⟨w.heap.size + 1, 5, none⟩ = some (.int .u32 (val v.f)) := f1.cell 5
     have c6 : wy.cell? ⟨w.heap.size + 1, 6, none⟩ = some (.int .u32 (val v.g)) := f1.cell 6
     have c7 : wy.cell? ⟨w.heap.size + 1, 7, none⟩ = some (.int .u32 (val v.h)) := f1.cell 7
     have F1 := Lh (show wy.heap[w.heap.size + 1]? = some (.cells (U32 v.list).toArray 148 (0, 0)) from f1)
     have hUU := Lh (show (U32 v.list).toArray.size = (U32 (v.add s).list).toArray.size from rfl)
     clear hS hs
     go_wp2_with (with_reducible refine wpList_store_row rfl 148 (.tmp 3) (.tmp 146) rfl (w.heap.size + 1) (U32 (v.add s).list).toArray rfl rfl 148 _ F1.out (size30' _ rfl) hUU.out (U32_one _) ?_)
     go_roundw
     case rel =>
      have hva : (Value.int IntKind.i64 ((a : Int) + 64)) = .int .i64 ((64 * (k + 1) : Nat) : Int) := by
       have := HA.out
       rw [show ((64 * (k + 1) : Nat) : Int) = (a : Int) + 64 by omega]
      have hbk : blocks P (k + 1) = v.add s := by
       rw [blocks, ← Hv.out, ← HA.out, ← Hb.out, compress, HSS.out, HL0.out]
      refine ⟨k + 1, hlt, hva, Lh (f0.setRow (by omega) _), Lh ?_, Lh ?_, Lh (belowRow (HB1.out.trans (HB.out.mono HB1.out.size)) (by omega) _), Lh ?_⟩
      ·
       rw [hbk]; exact f1.row _
      ·
       intro b' h1 h2
       rw [heap_setRow_other _ _ _ _ h2, HB.out.block b' (Nat.lt_of_lt_of_le h1 HSZ.out), HSAME.out b' h1 h2]
      ·
       exact Nat.le_trans HSZ.out (Nat.le_trans HB.out.size (by simp))
     case measure => simp only [intOf]; omega
  ·
   obtain rfl : k = nb := by omega
   obtain ⟨v, hv⟩ : ∃ v, v = blocks P k := ⟨_, rfl⟩
   rw [← hv] at K1
   have HRv := Lh (show R = v.bytes by rw [hR.out, sha, hv, HP.out, HNB.out, HP.out])
   have HRL := Lh (show R.length = 32 by rw [hR.out]; exact sha_len _)
   have hge : ¬ (((64 * k : Nat) : Int) < (LP : Int)) := by have := HL64.out; omega
   clear hv hlt
   go_wp2_with fail
   generalize hW : wr.alloc _ = W1
   have hNM : w.heap.size + 1 < wr.heap.size := K1.out.lt
   have f0 : Blk W1 w.heap.size 145 (B8 (List.replicate 32 0)) := by rw [← hW]; exact K0.out.alloc _
   have f1 : Blk W1 (w.heap.size + 1) 148 (U32 v.list) := by rw [← hW]; exact K1.out.alloc _
   have f2 : Blk W1 wr.heap.size 145 (B8 (outc R 0)) := by rw [← hW]; exact Blk.new wr 145 (B8 (List.replicate 32 0))
   have HB : Hid (Below w.heap.size w W1) := by rw [← hW]; exact Lh (HB1.out.alloc HB1.out.size _)
   obtain ⟨M, hM0⟩ : ∃ M, M = wr.heap.size := ⟨_, rfl⟩
   rw [← hM0] at f2 hNM ⊢
   clear hW hM0 K0 K1
   go_loopw [19] (fun s19 wy => ∃ i : Nat, i ≤ 32 ∧ s19 = .int .i64 i ∧ Blk wy w.heap.size 145 (B8 (List.replicate 32 0)) ∧ Blk wy (w.heap.size + 1) 148 (U32 v.list) ∧ Blk wy M 145 (B8 (outc R i)) ∧ Hid (Below w.heap.size w wy)) (fun s19 _ => 32 - (intOf s19).toNat)
   case atStart => exact ⟨0, by omega, rfl, f0, f1, f2, HB⟩
   case round =>
    clear f0 f1 f2 HB
    rename World => wy
    obtain ⟨i, hi, rfl, f0, f1, f2, HB⟩ := hrel
    by_cases hi32 : i < 32
    ·
     obtain ⟨q, hq⟩ : ∃ q, q = i / 4 := ⟨_, rfl⟩
     obtain ⟨r, hr⟩ : ∃ r, r = i % 4 := ⟨_, rfl⟩
     obtain ⟨kk, hkk⟩ : ∃ kk, kk = 24 - 8 * r := ⟨_, rfl⟩
     obtain ⟨y, cc, hy, hc, hcc⟩ := byte_at v i q r kk hi32 (by omega) (by omega) hkk
     have cy : wy.cell? ⟨w.heap.size + 1, q, none⟩ = some (.int .u32 (val y)) := (f1.cell q).trans hy
     have co : wy.cell? ⟨M, i, none⟩ = some (.int .u8 0) := (f2.cell i).trans (outc_at R i HRL.out hi32)
     have fo := f2.frozen i
     have e1 : (i : Int) / 4 = (q : Int) := by omega
     have e2 : (i : Int) % 4 = (r : Int) := by omega
     have e3 : IntKind.i64.wrap (8 * (r : Int)) = 8 * (r : Int) := IntWalk.i64_in _ (by omega)
     have e4 : IntKind.i64.wrap (24 - 8 * (r : Int)) = (kk : Int) := by rw [IntWalk.i64_in _ (by omega)]; omega
     have g1' : (q : Int) < 8 := by omega
     have g2' : (i : Int) < 32 := by omega
     have Hset := Lh (outc_set R i cc HRL.out hi32 (by rw [HRv.out]; exact hcc))
     have hk32 : (kk : Int) < 32 := by omega
     clear hq hr hkk hy hcc hi32
     go_wp2_with fail
     go_roundw
     case rel =>
      refine ⟨i + 1, by omega, by go_num, f0.far (show w.heap.size ≠ M by omega) _, f1.far (show w.heap.size + 1 ≠ M by omega) _, ?_, Lh (HB.out.setCell (show w.heap.size ≤ M by omega) _)⟩
      have := f2.put i (.int .u8 (cc.toNat : Int))
      rw [Hset.out] at this
      exact this
     case measure => simp only [intOf]; omega
    ·
     obtain rfl : i = 32 := by omega
     rw [outc_end R HRL.out] at f2
     have F2 := Lh f2.at
     have F0 := Lh (show wy.heap[w.heap.size]? = some (.cells (B8 (List.replicate 32 0)).toArray 145 (0, 0)) from f0)
     have HSZ2 := Lh (show (B8 (List.replicate 32 0)).toArray.size = (B8 R).toArray.size by rw [List.size_toArray, List.size_toArray, B8_len, B8_len, HRL.out]; rfl)
     have hbel := HB.out
     clear f0 f1 f2
     go_wp2_with (first
      | (with_reducible refine wpList_load_at rfl 145 (.tmp 18) rfl ⟨M, 0, none⟩ rfl (B8 R) (.array 32 5) F2.out Tryd.underlying145 rfl (size24 _ HRL.out) ?_)
      | (with_reducible refine wpList_store_row rfl 145 (.tmp 2) (.tmp 163) rfl w.heap.size (B8 R).toArray rfl rfl 145 _ F0.out (size24' _ HRL.out) HSZ2.out (one8 _) ?_))
     refine bodyPost_ret (v := .agg (B8 R).toArray) ?_ rfl ⟨rfl, belowRow hbel (Nat.le_refl _) _⟩
     have hr := run_loadVar_row (P := Tryd.prog) _ w.heap.size 145 145 (B8 R).toArray (0, 0) (.array 32 5) (heap_setRow wy w.heap.size (B8 R).toArray _ 145 F0.out) Tryd.underlying145 rfl (size24' _ HRL.out)
     simp [results, asAddr, hr, Act.put]
end Go.Proofs.YtofccgkgjcnfbaaDoor
namespace Go.Proofs.YtofccgkgjcnfbaaDoor
open Go.RowKit Wr Sh
set_option linter.unusedVariables false
set_option maxRecDepth 100000
theorem rsum_v (m : List UInt8) (v : Value) (base : Nat) (w0 w : World) (ho : w0.ownsRow base 5 1 v m.length (B8 m)) (hb : Below w0.heap.size w0 w) (hsz : m.length ≤ 549755813888) (ht : Tab 0 w) (R : List UInt8) (hR : Hid (R = sha m)) :
  Calls Tryd.prog 98 #[v] w fun e w' => e = .returned (.agg (B8 R).toArray) ∧ Below w.heap.size w w' := by
 obtain ⟨A, c, rfl, hc, hnil, hr⟩ := own_form (own_below ho hb)
 exact rsum_go m A c w hr hnil hsz ht R hR
def keyAt (k : ByteArray) (i : Nat) : UInt8 := k.data.toList.getD i 0
def outs (l : List UInt8) (i : Nat) : List UInt8 := l.take i ++ List.replicate (16 - i) 0
theorem outs_at (l : List UInt8) (i : Nat) (hl : l.length = 32) (hi : i < 16) : (B8 (outs l i))[i]? = some (.int .u8 0) := by
 unfold outs
 rw [B8_append, List.getElem?_append_right (by rw [B8_len, List.length_take]; omega), B8_len, List.length_take]
 rw [show i - min i l.length = 0 by omega, show 16 - i = (16 - (i + 1)) + 1 by omega, List.replicate_succ]; rfl
theorem outs_set (l : List UInt8) (i : Nat) (c : UInt8) (hl : l.length = 32) (hi : i < 16) (hc : l[i]? = some c) : (B8 (outs l i)).set i (.int .u8 (c.toNat : Int)) = B8 (outs l (i + 1)) := by
 have hil : i < l.length := by omega
 have hci : l[i] = c := by rw [List.getElem?_eq_getElem hil] at hc; exact Option.some.inj hc
 unfold outs
 rw [show 16 - i = (16 - (i + 1)) + 1 by omega, List.replicate_succ, List.take_succ_eq_append_getElem hil, hci, B8_append, B8_append, B8_append, List.set_append_right _ _ (by rw [B8_len, List.length_take]; omega), B8_len, List.length_take,
  show i - min i l.length = 0 by omega]
 simp [B8]
theorem outs_end (l : List UInt8) : outs l 16 = l.take 16 := by unfold outs; simp
theorem size44r (L : List UInt8) (h : L.length = 16) : (Tryd.prog.info? 29).map (·.size) = some (B8 L).toArray.size := by rw [List.size_toArray, B8_len, h]; kernel_rfl
theorem size44q (L : List UInt8) (h : L.length = 16) : (Tryd.prog.info? 29).map (·.size) = some (B8 L).length := by rw [B8_len, h]; kernel_rfl
set_option maxRecDepth 100000 in
set_option maxHeartbeats 4000000 in
theorem short_go (m : List UInt8) (v : Value) (base : Nat) (w0 w : World) (ho : w0.ownsRow base 5 1 v m.length (B8 m)) (hb : Below w0.heap.size w0 w) (hsz : m.length ≤ 549755813888) (ht : Tab 0 w) (R : List UInt8) (hR : Hid (R = sha m)) :
  Calls Tryd.prog 74 #[v] w fun e w' => e = .returned (.agg (B8 (R.take 16)).toArray) ∧ Below w.heap.size w w' := by
 have HT := Lh ht
 have HO := Lh ho
 have HB := Lh hb
 have HRL := Lh (show R.length = 32 by rw [hR.out]; exact sha_len _)
 have HBR := Lh (show (B8 R).length = 32 by rw [B8_len, HRL.out])
 obtain ⟨D, hD⟩ : ∃ D, D = R.take 16 := ⟨_, rfl⟩
 have HDL := Lh (show D.length = 16 by rw [hD, List.length_take, HRL.out]; rfl)
 have HBD := Lh (show (B8 D).length = 16 by rw [B8_len, HDL.out])
 rw [← hD]
 have HD := Lh hD
 have HB0 := Lh ((Below.refl w.heap.size w).alloc (Nat.le_refl _) (.cells (B8 (List.replicate 16 0)).toArray 29))
 have HK0 := Lh (Blk.new w 29 (B8 (List.replicate 16 0)))
 have b44 : ∀ W : World, (Instr.build 29 #[]).run Tryd.prog W = .ok (.agg (B8 (List.replicate 16 0)).toArray) W := fun _ => by kernel_rfl
 clear ht ho hb hD
 go_enter Tryd.func74, Tryd.ntmps74
 go_upto_region 2 with (first
  | (go_at_call 98; refine (rsum_v m v base w0 _ HO.out (HB.out.trans (HB0.out.mono HB.out.size)) hsz (HT.out.below HB0.out HT.out.1) R hR).mono ?_; rintro e w1 ⟨rfl, hb1⟩; have HB1 := Lh (HB0.out.trans (hb1.mono HB0.out.size)); have K0 := Lh (HK0.out.below hb1 HK0.out.lt); clear hb1)
  | (with_reducible refine wpList_store_row rfl 145 (.tmp 3) (.tmp 7) rfl w1.heap.size (B8 R).toArray rfl rfl 145 _ (heap_alloc_new w1 _) (size24' _ HRL.out) (by simp [HBR.out]) (one8 _) ?_))
 generalize hW : World.setRow _ _ _ = W1
 have f0 : Blk W1 w.heap.size 29 (B8 (List.replicate 16 0)) := by
  rw [← hW]; exact (K0.out.alloc _).setRow (Nat.ne_of_lt K0.out.lt) _
 have f1 : Blk W1 w1.heap.size 145 (B8 R) := by
  rw [← hW]; exact Blk.row (Blk.new w1 145 (B8 (List.replicate 32 0))) (B8 R)
 have HBW : Hid (Below w.heap.size w W1) := by
  rw [← hW]; exact Lh (belowRow (HB1.out.alloc HB1.out.size _) HB1.out.size _)
 have hNM : w.heap.size < w1.heap.size := K0.out.lt
 obtain ⟨M, hM0⟩ : ∃ M, M = w1.heap.size := ⟨_, rfl⟩
 rw [← hM0] at f1 hNM ⊢
 clear hW hM0 K0 HB1 HK0 HB0
 rename World => wx
 go_wp2_with fail
 generalize hW2 : World.alloc _ _ = W2
 have e0 : Blk W2 w.heap.size 29 (B8 (List.replicate 16 0)) := by rw [← hW2]; exact f0.alloc _
 have e1 : Blk W2 M 145 (B8 R) := by rw [← hW2]; exact f1.alloc _
 have e2 : Blk W2 wx.heap.size 29 (B8 (outs R 0)) := by rw [← hW2]; exact Blk.new wx 29 (B8 (List.replicate 16 0))
 have HB2 : Hid (Below w.heap.size w W2) := by rw [← hW2]; exact Lh (HBW.out.alloc HBW.out.size _)
 have hMX : M < wx.heap.size := f1.lt
 obtain ⟨X, hX0⟩ : ∃ X, X = wx.heap.size := ⟨_, rfl⟩
 rw [← hX0] at e2 hMX ⊢
 clear hW2 hX0 f0 f1 HBW
 go_loopw [5] (fun s5 wy => ∃ i : Nat, i ≤ 16 ∧ s5 = .int .i64 i ∧ Blk wy w.heap.size 29 (B8 (List.replicate 16 0)) ∧ Blk wy M 145 (B8 R) ∧ Blk wy X 29 (B8 (outs R i)) ∧ Hid (Below w.heap.size w wy)) (fun s5 _ => 16 - (intOf s5).toNat)
 case atStart => exact ⟨0, by omega, rfl, e0, e1, e2, HB2⟩
 case round =>
  clear e0 e1 e2 HB2
  rename World => wy
  obtain ⟨i, hi, rfl, e0, e1, e2, HB2⟩ := hrel
  by_cases hlt : i < 16
  ·
   have hiR : i < R.length := by have := HRL.out; omega
   obtain ⟨x, hx⟩ : ∃ x, x = R[i] := ⟨_, rfl⟩
   have cx : wy.cell? ⟨M, i, none⟩ = some (.int .u8 (x.toNat : Int)) := by rw [e1.cell, B8_get _ _ hiR, hx]
   have co : wy.cell? ⟨X, i, none⟩ = some (.int .u8 0) := (e2.cell i).trans (outs_at R i HRL.out hlt)
   have fo := e2.frozen i
   have g1 : (i : Int) < 32 := by omega
   have g2 : (i : Int) < 16 := by omega
   have Hset := Lh (outs_set R i x HRL.out hlt (by rw [hx, List.getElem?_eq_getElem hiR]))
   clear hx hlt
   go_wp2_with fail
   go_roundw
   case rel =>
    refine ⟨i + 1, by omega, by go_num, e0.far (show w.heap.size ≠ X by omega) _, e1.far (show M ≠ X by omega) _, ?_, Lh (HB2.out.setCell (show w.heap.size ≤ X by omega) _)⟩
    have := e2.put i (.int .u8 (x.toNat : Int))
    rw [Hset.out] at this
    exact this
   case measure => simp only [intOf]; omega
  ·
   obtain rfl : i = 16 := by omega
   rw [outs_end R, ← HD.out] at e2
   have E2 := Lh e2.at
   have E0 := Lh (show wy.heap[w.heap.size]? = some (.cells (B8 (List.replicate 16 0)).toArray 29 (0, 0)) from e0)
   have HSZ2 := Lh (show (B8 (List.replicate 16 0)).toArray.size = (B8 D).toArray.size by rw [List.size_toArray, List.size_toArray, B8_len, B8_len, HDL.out]; rfl)
   have hbel := HB2.out
   clear e0 e1 e2
   go_wp2_with (first
    | (with_reducible refine wpList_load_at rfl 29 (.tmp 4) rfl ⟨X, 0, none⟩ rfl (B8 D) (.array 16 5) E2.out Tryd.underlying29 rfl (size44q _ HDL.out) ?_)
    | (with_reducible refine wpList_store_row rfl 29 (.tmp 2) (.tmp 18) rfl w.heap.size (B8 D).toArray rfl rfl 29 _ E0.out (size44r _ HDL.out) HSZ2.out (one8 _) ?_))
   refine bodyPost_ret (v := .agg (B8 D).toArray) ?_ rfl ⟨rfl, belowRow hbel (Nat.le_refl _) _⟩
   have hr := run_loadVar_row (P := Tryd.prog) _ w.heap.size 29 29 (B8 D).toArray (0, 0) (.array 16 5) (heap_setRow wy w.heap.size (B8 D).toArray _ 29 E0.out) Tryd.underlying29 rfl (size44r _ HDL.out)
   simp [results, asAddr, hr, Act.put]
set_option maxRecDepth 100000 in
set_option maxHeartbeats 4000000 in
theorem input_tag (tag : Int) (t8 : UInt8) (h8 : IntKind.u8.wrap tag = (t8.toNat : Int)) (A : Option Addr) (l : List ByteArray) (c : Nat) (w : World) (hr : Rd w w.heap.size A (St l)) (hsz : (inp t8 l).length ≤ 274877906944) :
  Calls Tryd.prog 75 #[.int .i64 tag, .slice A l.length c] w fun e w' => ∃ v', e = .returned v' ∧ w'.ownsRow w.heap.size 5 1 v' (inp t8 l).length (B8 (inp t8 l)) ∧ Below w.heap.size w w' := by
 obtain ⟨N, hN⟩ : ∃ N, N = l.length := ⟨_, rfl⟩
 have hN40 : N ≤ 274877906944 := by rw [hN]; exact Nat.le_trans (inp_many t8 l) hsz
 have h8' : tag % 256 = (t8.toNat : Int) := by rw [← h8, IntKind.wrap_u8']
 rw [← hN]
 have HN := Lh hN
 have HR := Lh hr
 have HZ := Lh hsz
 have HO := Lh (World.ownsRow_lit (base := w.heap.size) (e := 5) (size := 1) w #[.int .u8 (t8.toNat : Int)] 1 (Nat.le_refl _) (by decide) rfl)
 have HB := Lh ((Below.refl w.heap.size w).alloc (Nat.le_refl _) (.cells #[.int .u8 (t8.toNat : Int)] 5))
 clear hN hr hsz
 go_enter Tryd.func75, Tryd.ntmps75
 go_wp2_with fail
 go_loopw [5, 6] (fun s3 s4 wr => ∃ j k : Nat, j ≤ N ∧ s4 = .int .i64 j ∧ Hid (k = (inp t8 (l.take j)).length) ∧ wr.ownsRow w.heap.size 5 1 s3 k (B8 (inp t8 (l.take j))) ∧ Hid (Below w.heap.size w wr)) (fun _ s4 _ => N - (intOf s4).toNat)
 case atStart => exact ⟨0, 1, Nat.zero_le _, rfl, Lh rfl, HO.out, HB⟩
 case round =>
 clear HO HB
 obtain ⟨j, k, hj, rfl, HK, ho, HB⟩ := hrel
 have HO := Lh ho
 clear ho
 by_cases hlt : j < N
 ·
  have hjl : j < l.length := by have := HN.out; omega
  obtain ⟨g, o, rfl, hg, hcell⟩ := HR.out (by intro e; have := congrArg List.length e; simp only [St, List.length_map, List.length_nil] at this; omega)
  have hcj : wr.cell? ⟨g, o + j, none⟩ = some (.string l[j]) := by
   rw [HB.out.cell (show (⟨g, o + j, none⟩ : Addr).block < _ from hg)]; exact hcell j _ (St_get l j hjl)
  have hle := inp_le t8 l (j + 1)
  rw [inp_succ t8 l j hjl, List.length_append, ← HK.out] at hle
  have hzz := HZ.out
  have hxs := inp_long t8 l j hjl
  obtain ⟨x, hx⟩ : ∃ x, x = l[j] := ⟨_, rfl⟩
  rw [← hx] at hcj hle hxs
  obtain ⟨L, hL⟩ : ∃ L, L = (encStr x.data.toList).length := ⟨_, rfl⟩
  rw [← hL] at hle
  have hkL : k + L ≤ 274877906944 := by omega
  have hx40 : x.size ≤ 1099511627776 := by omega
  have HX := Lh hx
  have HL := Lh hL
  clear hcell hx hL hle hzz hxs
  go_wp2_with (first
   | (go_at_call 88; refine (rbytes_any _ _ hx40).mono ?_; rintro e w2 ⟨v2, rfl, ho2, hb2⟩; obtain ⟨A2, c2, rfl, _, hn2, hrd2⟩ := own_form ho2; have HRD := Lh hrd2; have HNL := Lh hn2; have HB2 := Lh hb2; clear ho2 hb2 hrd2 hn2; rw [← HL.out])
   | (at_builtin; refine wpList_append_rd rfl (.tmp 16) (.tmp 21) rfl w.heap.size _ k _ rfl (own_below HO.out HB2.out) A2 L c2 _ (encStr x.data.toList) rfl HNL.out HL.out.symm HRD.out (by omega) (Nat.le_trans HB.out.size HB2.out.size) ?_; intro v3 w3 ho3 hg3; have HO3 := Lh ho3; have HB3 := Lh ((HB.out.trans (HB2.out.mono HB.out.size)).grown hg3 (Nat.le_trans HB.out.size HB2.out.size) (fun q hq => (HO.out.lt q hq).1)); clear ho3 hg3))
  go_roundw
  case rel =>
   refine ⟨j + 1, k + L, hlt, by go_num, Lh (by rw [inp_succ t8 l j hjl, List.length_append, ← HK.out, ← HX.out, ← HL.out]), ?_, HB3⟩
   have := HO3.out
   rw [← B8_append] at this
   rw [inp_succ t8 l j hjl, ← HX.out]
   exact this
  case measure => simp only [intOf]; omega
 ·
  obtain rfl : j = N := by omega
  go_wp2_with fail
  go_ret
  refine ⟨_, rfl, ?_, HB.out⟩
  have h := HO.out
  rw [HK.out, List.take_of_length_le (by rw [← HN.out]; exact Nat.le_refl _)] at h
  exact h
theorem own_bytes {w : World} {B : Nat} {v : Value} {l : List UInt8} (h : w.ownsRow B 5 1 v l.length (B8 l)) :
  (convert 39 9 v).run Tryd.prog w = .ok (.string ⟨l.toArray⟩) w ∨ l = [] := by
 rcases l with _ | ⟨x, l⟩
 ·
  exact .inr rfl
 ·
  left
  obtain ⟨A, c, rfl, _, _, hr⟩ := own_form h
  obtain ⟨g, o, rfl, hg, hc⟩ := hr (by simp [B8])
  exact run_convert_bytes_back (P := Tryd.prog) w 39 9 5 ⟨g, o, none⟩ c (x :: l) Tryd.underlying39 Tryd.underlying5 Tryd.underlying9 (fun j hj => by rw [Addr.add_lit]; exact hc j _ (B8_get _ _ hj))
set_option maxRecDepth 100000 in
set_option maxHeartbeats 4000000 in
theorem text_any (h : List UInt8) (w : World) (hl : h.length = 16) :
  Calls Tryd.prog 80 #[.agg (B8 h).toArray] w fun e w' => e = .returned (.string ⟨h.toArray⟩) ∧ Below w.heap.size w w' := by
 obtain ⟨i0, hi0, hz0, hz1, hz2⟩ := info_parts Tryd.info5
 have HL := Lh hl
 clear hl
 have HB0 := Lh ((Below.refl w.heap.size w).alloc (Nat.le_refl _) (.cells (B8 h).toArray 29))
 have F0 := Blk.new w 29 (B8 h)
 go_enter Tryd.func80, Tryd.ntmps80
 go_wp2
 generalize w.alloc _ = W1 at HB0 F0 ⊢
 obtain ⟨N, hN⟩ : ∃ N, N = w.heap.size := ⟨_, rfl⟩
 have hNW : N < W1.heap.size := by rw [hN]; exact F0.lt
 rw [← hN] at F0 ⊢
 have HN := Lh hN
 clear hN
 go_loopw [3, 4] (fun s3 s4 wr => ∃ i : Nat, i ≤ 16 ∧ s4 = .int .i64 i ∧ Blk wr N 29 (B8 h) ∧ wr.ownsRow (N + 1) 5 1 s3 i (B8 (h.take i)) ∧ Hid (Below w.heap.size w wr))
  (fun _ s4 _ => 16 - (intOf s4).toNat)
 case atStart => exact ⟨0, by omega, rfl, F0, World.ownsRow_nil _ _ _ _, HB0⟩
 case round =>
 clear F0 HB0
 obtain ⟨i, hi, rfl, f0, hown, HB⟩ := hrel
 by_cases hlt : i < 16
 ·
  have hil : i < h.length := by have := HL.out; omega
  obtain ⟨x, hx⟩ : ∃ x, x = h[i] := ⟨_, rfl⟩
  have ci : wr.cell? ⟨N, i, none⟩ = some (.int .u8 (x.toNat : Int)) := by rw [f0.cell, B8_get _ _ hil, hx]
  have htk : Hid (h.take (i + 1) = h.take i ++ [x]) := Lh (by rw [List.take_succ_eq_append_getElem hil, hx])
  have hNwr : N + 1 ≤ wr.heap.size := f0.lt
  clear hx
  go_wp2_with (at_builtin; (refine wpList_append_own _ rfl (.tmp 9) (.tmp 13) 39 rfl (N + 1) 5 i0 (.int .u8 0) 1 1 Tryd.underlying39 hi0 hz0 hz1 hz2 rfl (by decide) u3 i (B8 (h.take i)) rfl (hown.alloc _) ⟨wr.heap.size, 0, none⟩ 1 1 (B8 [x]) rfl ?c0 ?c1 ?c2 ?c3 ?c4 ?c5 ?_))
  case c0 => rfl
  case c1 =>
   intro j u hu
   rw [Addr.add_lit, Nat.zero_add, cell_of_row _ _ _ _ _ _ (heap_alloc_new wr _)]
   simpa [B8] using hu
  case c2 => exact B8_one _
  case c3 => unfold maxLen; omega
  case c4 => omega
  case c5 => simp; omega
  ·
   intro v' w1 hown1 hgrow _
   have g0 : Blk w1 N 29 (B8 h) := (f0.alloc _).grown hgrow (fun e => by have := (hown.lt _ e.symm).1; omega)
   have hbel : Hid (Below w.heap.size w w1) := Lh ((HB.out.alloc (by have := HN.out; omega) _).grown hgrow (by have := HN.out; simp; omega) (fun q hq => by have := (hown.lt _ hq).1; have := HN.out; omega))
   rw [← B8_append] at hown1
   have hown2 := hown1
   rw [← htk.out] at hown2
   clear hown hown1 hgrow f0 HB ci
   go_wp2
   go_roundw
   case rel => exact ⟨i + 1, by omega, by go_num, g0, hown2, hbel⟩
   case measure => simp only [intOf]; omega
 ·
  have hfull : h.take i = h := List.take_of_length_le (by have := HL.out; omega)
  have hi32 : i = h.length := by have := HL.out; omega
  rw [hfull, hi32] at hown
  have hcv : (convert 39 9 u3).run Tryd.prog wr = .ok (.string ⟨h.toArray⟩) wr := by
   rcases own_bytes hown with h1 | h1
   ·
    exact h1
   ·
    have := HL.out; rw [h1] at this; simp at this
  have hbel := HB.out
  clear hown hfull f0 HB hi32
  go_wp2
  go_ret
  exact ⟨rfl, hbel⟩
end Go.Proofs.YtofccgkgjcnfbaaDoor
