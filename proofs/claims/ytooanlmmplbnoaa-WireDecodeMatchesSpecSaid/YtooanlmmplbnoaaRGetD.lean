/-
  The contract of the reference's GetDigests.
  Condition: at most 2^20 bytes.
-/
import Derived.Test.YtooanlmmplbnoaaRGets
namespace Go.Proofs.Ytooanlmmplbnoaa
open Go.RowKit Wr
set_option linter.unusedVariables false

/-- The first i bytes laid, the rest zero. -/
def outd (l : List UInt8) (i : Nat) : List UInt8 := l.take i ++ List.replicate (16 - i) 0
theorem outd_at (l : List UInt8) (i : Nat) (hl : l.length = 16) (hi : i < 16) : (B8 (outd l i))[i]? = some (.int .u8 0) := by
  unfold outd
  rw [B8_append, List.getElem?_append_right (by rw [B8_len, List.length_take]; omega), B8_len, List.length_take]
  rw [show i - min i l.length = 0 by omega, show 16 - i = (16 - (i + 1)) + 1 by omega, List.replicate_succ]; rfl
theorem outd_set (l : List UInt8) (i : Nat) (c : UInt8) (hl : l.length = 16) (hi : i < 16) (hc : l[i]? = some c) : (B8 (outd l i)).set i (.int .u8 (c.toNat : Int)) = B8 (outd l (i + 1)) := by
  have hil : i < l.length := by omega
  have hci : l[i] = c := by rw [List.getElem?_eq_getElem hil] at hc; exact Option.some.inj hc
  unfold outd
  rw [show 16 - i = (16 - (i + 1)) + 1 by omega, List.replicate_succ, List.take_succ_eq_append_getElem hil, hci, B8_append, B8_append, B8_append, List.set_append_right _ _ (by rw [B8_len, List.length_take]; omega), B8_len, List.length_take,
    show i - min i l.length = 0 by omega]
  simp [B8]
theorem outd_end (l : List UInt8) (hl : l.length = 16) : outd l 16 = l := by unfold outd; rw [List.take_of_length_le (by omega)]; simp
theorem build16 (D : List UInt8) (h : D.length = 16) : ∀ W : World, (Instr.buildSlice 24 1 #[(0, .agg (B8 D).toArray)]).run Try.prog W = .ok (.slice (some ⟨W.heap.size, 0, none⟩) 1 1) (W.alloc (.cells (B8 D).toArray 57)) := by
  match D, h with
  | [d0, d1, d2, d3, d4, d5, d6, d7, d8, d9, d10, d11, d12, d13, d14, d15], _ => intro W; kernel_rfl
theorem wpList_build16 {w : World} {ops : Array Oper} {rest : List Oper} {o : Oper} {a : Act} {Q : Exit → Act → World → Prop} (hgd : o.guard = none) (x : Operand) (ho : o.op = .buildSlice 24 1 #[(0, x)]) (D : List UInt8) (hx : a.eval x = .agg (B8 D).toArray) (h16 : D.length = 16)
    (h : wpList Try.prog ops Q rest (a.put o.dst (.slice (some ⟨w.heap.size, 0, none⟩) 1 1)) (w.alloc (.cells (B8 D).toArray 57))) : wpList Try.prog ops Q (o :: rest) a w :=
  wpList_plain hgd fun K hK => by
    have hb := build16 D h16 w
    unfold Oper.wp execOp
    simp only [ho, List.map_toArray, List.map_cons, List.map_nil, hx, Sem.run_bind, hb, Result.andThen_ok, Sem.run_pure]
    exact hK _ _ h
theorem Dg_more (acc : List (List UInt8)) (d : List UInt8) : Dg (acc ++ [d]) = Dg acc ++ B8 d := by simp [Dg, B8]

set_option maxRecDepth 100000 in
set_option maxHeartbeats 4000000 in
theorem rgetDigests_any (A : Option Addr) (b : List UInt8) (c : Nat) (w : World) (hr : Rd w w.heap.size A (B8 b)) (hc : b.length ≤ c) (hl : b.length ≤ 1048576) :
    Calls Try.prog 35 #[.slice A b.length c] w fun e w' => ∃ v', e = .returned (.tuple #[v', .int .i64 ((decDigs b).2.1 : Nat), .int .i64 ((decDigs b).2.2 : Nat)]) ∧
      w'.ownsRow w.heap.size 57 16 v' (decDigs b).1.length (Dg (decDigs b).1) ∧ Below w.heap.size w w' := by
  obtain ⟨i0, hi0, hz0, hz1, hz2⟩ := info_parts Try.info57
  have hcall := rcount_any A b c 16 w hr hc hl (by omega) (by omega)
  have hdef : decDigs b = if (decLen 16 b).2.2 ≠ 0 then ([], 0, (decLen 16 b).2.2) else decGo decDig b (decLen 16 b).1 (decLen 16 b).2.1 [] := rfl
  rcases hd : decLen 16 b with ⟨n, u, er⟩
  rw [hd] at hcall hdef
  simp only at hcall
  have HC := Lib.hid hcall
  clear hcall
  by_cases he : er = 0
  · subst he
    obtain ⟨b1, b2, b3, b4, b5⟩ := decLen_ok hd
    simp only [ne_eq, not_true_eq_false, if_false] at hdef
    obtain ⟨R, hR⟩ : ∃ R, R = decDigs b := ⟨_, rfl⟩
    rw [← hR]
    have HR := Lib.hid (show decGo decDig b n u [] = R by rw [hR, hdef])
    obtain ⟨L, hL⟩ : ∃ L, L = b.length := ⟨_, rfl⟩
    rw [← hL] at b4
    have hn : u + 16 * n ≤ L := by have := Nat.div_mul_le_self (L - u) 16; omega
    have HCELL := Lib.hid (show ∀ (W : World) (j : Nat) (x : UInt8), Below w.heap.size w W → b[j]? = some x → ∃ g o, A = some ⟨g, o, none⟩ ∧ W.cell? ⟨g, o + j, none⟩ = some (.int .u8 (x.toNat : Int)) from fun W j x hW hx => by
      have hj := (List.getElem?_eq_some_iff.1 hx).1
      obtain ⟨g, o, hA, hg, hcell⟩ := hr (by intro e; have := congrArg List.length e; rw [B8_len] at this; simp at this; subst this; simp at hj)
      refine ⟨g, o, hA, ?_⟩
      rw [hW.cell (show (⟨g, o + j, none⟩ : Addr).block < _ from hg)]
      refine hcell j _ ?_
      rw [B8_get _ _ hj]
      rw [List.getElem?_eq_getElem hj] at hx
      rw [Option.some.inj hx])
    rw [← hL] at HC hc hl b1 ⊢
    have HL := Lib.hid hL
    clear hd b2 b3 b4 hdef hL hR hr
    go_enter Try.func35, Try.ntmps35
    go_wp2_with (go_at_call 41; refine HC.out.mono ?_; rintro e w1 ⟨rfl, hb1⟩)
    have HB1 := Lib.hid hb1
    clear hb1
    go_loopw [6, 8, 9] (fun s6 s8 s9 wr => ∃ (k : Nat) (acc : List (List UInt8)), k ≤ n ∧ s9 = .int .i64 (k : Int) ∧ s6 = .int .i64 ((u + 16 * k : Nat) : Int) ∧ Hid (acc.length = k) ∧ Hid (decGo decDig b (n - k) (u + 16 * k) acc = R) ∧ Hid (wr.ownsRow w.heap.size 57 16 s8 k (Dg acc)) ∧ Hid (Below w.heap.size w wr)) (fun _ _ s9 _ => n - (intOf s9).toNat)
    case atStart => exact ⟨0, [], Nat.zero_le _, rfl, rfl, Lib.hid rfl, HR, Lib.hid (World.ownsRow_nil _ _ _ _), HB1⟩
    case round =>
      clear HB1
      rename World => wr
      obtain ⟨k, acc, hk, rfl, rfl, HA, HGO, HO, HB⟩ := hrel
      by_cases hlt : k < n
      · have hlt' : (k : Int) < (n : Int) := by omega
        obtain ⟨a, ha⟩ : ∃ a, a = u + 16 * k := ⟨_, rfl⟩
        have ha16 : a + 16 ≤ L := by omega
        obtain ⟨D, hD⟩ : ∃ D, D = (b.drop a).take 16 := ⟨_, rfl⟩
        have hDl : D.length = 16 := by rw [hD, List.length_take, List.length_drop, ← HL.out]; omega
        have hs : R = decGo decDig b (n - (k + 1)) (a + 16) (acc ++ [D]) := by
          have h1 := HGO.out
          rw [← ha, show n - k = (n - (k + 1)) + 1 by omega] at h1
          rw [← h1]
          have h2 : decDig (b.drop a) = (D, 16, 0) := by
            unfold decDig
            rw [if_neg (by rw [List.length_drop, ← HL.out]; omega), hD]
          show (if (decDig (b.drop a)).2.2 ≠ 0 then _ else _) = _
          rw [h2]; rfl
        rw [← ha]
        have HS := Lib.hid hs
        have HDL := Lib.hid hDl
        have HD := Lib.hid hD
        have HAU := Lib.hid ha
        have hwa : IntKind.i64.wrap ((a : Int) + 16) = (a : Int) + 16 := IntWalk.i64_in _ (by omega)
        clear hs hD hDl ha
        go_wp2_with fail
        generalize hW : World.alloc _ _ = W1
        have e0 : Blk W1 wr.heap.size 57 (B8 (outd D 0)) := by rw [← hW]; exact Blk.new wr 57 (B8 (List.replicate 16 0))
        have HBW : Hid (Below wr.heap.size wr W1) := by rw [← hW]; exact Lib.hid ((Below.refl _ _).alloc (Nat.le_refl _) _)
        have hMge : w.heap.size ≤ wr.heap.size := HB.out.size
        obtain ⟨M, hM⟩ : ∃ M, M = wr.heap.size := ⟨_, rfl⟩
        rw [← hM] at e0 hMge ⊢
        have HM := Lib.hid hM
        clear hW hM
        go_loopw [11] (fun s11 wy => ∃ i : Nat, i ≤ 16 ∧ s11 = .int .i64 i ∧ Blk wy M 57 (B8 (outd D i)) ∧ Hid (Below wr.heap.size wr wy)) (fun s11 _ => 16 - (intOf s11).toNat)
        case atStart => exact ⟨0, by omega, rfl, e0, HBW⟩
        case round =>
          clear e0 HBW
          rename World => wy
          obtain ⟨i, hi, rfl, e0, HBW⟩ := hrel
          by_cases hi16 : i < 16
          · have hiD : i < D.length := by have := HDL.out; omega
            obtain ⟨x, hx⟩ : ∃ x, x = D[i] := ⟨_, rfl⟩
            obtain ⟨q, hq⟩ : ∃ q, q = a + i := ⟨_, rfl⟩
            have hbq : b[q]? = some x := by
              have h1 : D[i]? = some x := by rw [List.getElem?_eq_getElem hiD, hx]
              rw [HD.out, List.getElem?_take_of_lt hi16, List.getElem?_drop] at h1
              rw [hq]; exact h1
            obtain ⟨g, o, rfl, hcx⟩ := HCELL.out wy q x (HB.out.trans (HBW.out.mono HB.out.size)) hbq
            have co : wy.cell? ⟨M, i, none⟩ = some (.int .u8 0) := (e0.cell i).trans (outd_at D i HDL.out hi16)
            have fo := e0.frozen i
            have hwq : IntKind.i64.wrap ((a : Int) + (i : Int)) = (q : Int) := by rw [IntWalk.i64_in _ (by omega)]; omega
            have hqL : (q : Int) < (L : Int) := by omega
            have hi16' : (i : Int) < 16 := by omega
            have Hset := Lib.hid (outd_set D i x HDL.out hi16 (by rw [List.getElem?_eq_getElem hiD, hx]))
            clear hx hq hbq hiD
            go_wp2_with fail
            go_roundw
            case rel =>
              refine ⟨i + 1, by omega, by go_num, ?_, Lib.hid (HBW.out.setCell (show wr.heap.size ≤ M by rw [HM.out]; exact Nat.le_refl _) _)⟩
              have := e0.put i (.int .u8 (x.toNat : Int))
              rw [Hset.out] at this
              exact this
            case measure => simp only [intOf]; omega
          · obtain rfl : i = 16 := by omega
            rw [outd_end D HDL.out] at e0
            have E0 := Lib.hid (show ∀ j v, (B8 D)[j]? = some v → wy.cell? ((⟨M, 0, none⟩ : Addr).add j) = some v from fun j v hv => by rw [Addr.add_lit, Nat.zero_add, e0.cell, hv])
            have HO2 := Lib.hid (own_below HO.out HBW.out)
            have HB2 := Lib.hid (HB.out.trans (HBW.out.mono HB.out.size))
            clear e0
            go_wp2_with (first
              | (with_reducible refine wpList_load_at rfl 57 (.tmp 10) rfl ⟨M, 0, none⟩ rfl (B8 D) (.array 16 5) E0.out Try.underlying57 rfl (size57 _ HDL.out) ?_)
              | (with_reducible refine wpList_build16 rfl (.tmp 39) rfl D rfl HDL.out ?_)
              | (at_builtin; refine wpList_append_own _ rfl (.tmp 38) (.tmp 40) 24 rfl w.heap.size 57 i0 _ 16 16 Try.underlying24 hi0 hz0 hz1 hz2 rfl (by decide) u8 k (Dg acc) rfl (HO2.out.alloc _) ⟨wy.heap.size, 0, none⟩ 1 1 (B8 D) rfl (by rw [B8_len, HDL.out]) ?c1 (B8_one _) (by unfold maxLen; omega) (by omega) (by have := HB2.out.size; simp; omega) ?_))
            case c1 =>
              intro j y hy
              rw [Addr.add_lit, Nat.zero_add, cell_of_row _ _ _ _ _ _ (heap_alloc_new wy _)]
              simpa using hy
            intro v3 w3 ho3 hg3 _
            have HB3 := Lib.hid ((HB2.out.alloc HB2.out.size (.cells (B8 D).toArray 57)).grown hg3 (HB2.out.alloc HB2.out.size _).size (fun q hq => (HO2.out.lt q hq).1))
            have HO3 := Lib.hid (show w3.ownsRow w.heap.size 57 16 v3 (k + 1) (Dg (acc ++ [D])) by rw [Dg_more]; exact ho3)
            clear ho3 hg3
            go_wp2_with fail
            go_roundw
            case rel =>
              have h16 := HAU.out
              have hv : (Value.int IntKind.i64 ((a : Int) + 16)) = .int .i64 ((u + 16 * (k + 1) : Nat) : Int) := by
                rw [show ((u + 16 * (k + 1) : Nat) : Int) = (a : Int) + 16 by omega]
              exact ⟨k + 1, acc ++ [D], hlt, by go_num, hv, Lib.hid (by rw [List.length_append, HA.out]; rfl), Lib.hid (by rw [show u + 16 * (k + 1) = a + 16 by omega]; exact HS.out.symm), HO3, HB3⟩
            case measure => simp only [intOf]; omega
      · obtain rfl : k = n := by omega
        have hs : R = (acc, u + 16 * k, 0) := by rw [← HGO.out, Nat.sub_self]; rfl
        subst hs
        go_wp2_with fail
        go_ret3
        exact ⟨_, rfl, by rw [HA.out]; exact HO.out, HB.out⟩
  · have hb := errB er he
    rw [if_pos he] at hdef
    rw [hdef]
    clear hdef hd
    go_enter Try.func35, Try.ntmps35
    go_wp2_with (go_at_call 41; refine HC.out.mono ?_; rintro e w' ⟨rfl, hb'⟩)
    go_ret3
    exact ⟨_, rfl, World.ownsRow_nil _ _ _ _, hb'⟩
end Go.Proofs.Ytooanlmmplbnoaa
