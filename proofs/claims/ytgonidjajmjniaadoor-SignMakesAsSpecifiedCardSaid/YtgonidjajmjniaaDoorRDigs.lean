/-
  The contract of the reference's Digits.
  No condition.
-/
import Derived.Test.YtgonidjajmjniaaDoorDigs
import Derived.OwnWalk
import Derived.Laws.AppendOwn
import Derived.Laws.AppendOwnNone
namespace Go.Proofs.YtgonidjajmjniaaDoor
open Go.RowKit Wr Sh
set_option linter.unusedVariables false
set_option maxRecDepth 100000

theorem Tryd.info3 : (Tryd.prog.info? 3).map (fun i => (i.zero, i.size, i.bytes)) = some (some (.int .i64 0), 1, 8) := by kernel_rfl
theorem NI_one (l : List Nat) : ∀ u ∈ NI l, u.oneCell' = true := by
  intro u hu
  obtain ⟨_, _, rfl⟩ := List.mem_map.1 hu
  rfl
/-- The first digits. -/
def pre (d : List UInt8) (j : Nat) : List Nat := (List.range j).map (sdig d)
theorem pre_succ (d : List UInt8) (j : Nat) : NI (pre d (j + 1)) = NI (pre d j) ++ NI [sdig d j] := by
  unfold NI pre; rw [List.range_succ, List.map_append, List.map_append]; rfl
/-- The digits of a byte. -/
def four (n : Nat) : List Nat := [n / 64, n / 16 % 4, n / 4 % 4, n % 4]

theorem four_at (d : List UInt8) (i k : Nat) (hi : i < 16) (hk : k < 4) : (NI (four (d.getD i 0).toNat))[k]? = some (.int .i64 (sdig d (4 * i + k) : Nat)) := by
  have e : sdig d (4 * i + k) = low (d.getD i 0).toNat (3 - k) := by
    unfold sdig tdig
    rw [if_pos (by omega), show (4 * i + k) / 4 = i by omega, show (4 * i + k) % 4 = k by omega]
  have hb := (d.getD i 0).toNat_lt
  rw [e]
  generalize (d.getD i 0).toNat = b at hb ⊢
  rcases (show k = 0 ∨ k = 1 ∨ k = 2 ∨ k = 3 by omega) with rfl | rfl | rfl | rfl
  · show some (Value.int .i64 ((b / 64 : Nat) : Int)) = some (.int .i64 ((b / 64 % 4 : Nat) : Int))
    rw [Nat.mod_eq_of_lt (by omega)]
  · rfl
  · rfl
  · show some (Value.int .i64 ((b % 4 : Nat) : Int)) = some (.int .i64 ((b / 1 % 4 : Nat) : Int))
    rw [Nat.div_one]
theorem four_cells (b : Nat) : (#[Value.int .i64 ((b : Int) / 64), .int .i64 ((b : Int) / 16 % 4), .int .i64 ((b : Int) / 4 % 4), .int .i64 ((b : Int) % 4)] : Array Value) = (NI (four b)).toArray := by
  simp [NI, four]

theorem digs_end (d : List UInt8) : NI (digs d) = NI (pre d 64) ++ NI (four (lack d 64)) := by
  have h : lack d 64 ≤ 192 := lack_le d 64
  have e (k : Nat) (hk : k < 4) : sdig d (64 + k) = low (lack d 64) (3 - k) := by
    unfold sdig
    rw [if_neg (by omega), show 67 - (64 + k) = 3 - k by omega]
  have h0 := pre_succ d 64
  have h1 := pre_succ d 65
  have h2 := pre_succ d 66
  have h3 := pre_succ d 67
  rw [show digs d = pre d 68 from rfl, h3, h2, h1, h0, show sdig d 64 = _ from e 0 (by omega), show sdig d 65 = _ from e 1 (by omega), show sdig d 66 = _ from e 2 (by omega), show sdig d 67 = _ from e 3 (by omega)]
  generalize lack d 64 = S at h
  have l0 : low S (3 - 0) = S / 64 := by show S / 64 % 4 = S / 64; omega
  have l1 : low S (3 - 1) = S / 16 % 4 := rfl
  have l2 : low S (3 - 2) = S / 4 % 4 := rfl
  have l3 : low S (3 - 3) = S % 4 := by show S / 1 % 4 = S % 4; rw [Nat.div_one]
  rw [l0, l1, l2, l3, List.append_assoc, List.append_assoc, List.append_assoc]
  rfl

set_option maxHeartbeats 4000000 in
theorem rdigits_any (d : List UInt8) (w : World) (hd : d.length = 16) :
    Calls Tryd.prog 11 #[.agg (B8 d).toArray] w fun e w' => ∃ v, e = .returned v ∧ w'.ownsRow (w.heap.size + 1) 3 1 v 68 (NI (digs d)) ∧ Below w.heap.size w w' := by
  obtain ⟨i0, hi0, hz0, hz1, hz2⟩ := info_parts Tryd.info3
  have Hd := Lib.hid hd
  clear hd
  go_enter Tryd.func11, Tryd.ntmps11
  go_wp2_with fail
  go_loopw [3, 4, 5] (fun s3 s4 s5 wr => ∃ i : Nat, i ≤ 16 ∧ s4 = .int .i64 (lack d (4 * i) : Nat) ∧ s5 = .int .i64 i ∧ Hid (wr.ownsRow (w.heap.size + 1) 3 1 s3 (4 * i) (NI (pre d (4 * i)))) ∧ Hid (Blk wr w.heap.size 23 (B8 d)) ∧ Hid (Below w.heap.size w wr))
    (fun _ _ s5 _ => 16 - (intOf s5).toNat)
  case atStart =>
    exact ⟨0, by omega, rfl, rfl, Lib.hid (World.ownsRow_nil _ _ _ _), Lib.hid (Blk.new w 23 (B8 d)), Lib.hid ((Below.refl _ _).alloc (Nat.le_refl _) _)⟩
  case round =>
    obtain ⟨i, hi, rfl, rfl, HO, HB, hbel⟩ := hrel
    by_cases hlt : i < 16
    · obtain ⟨b, hx, c1⟩ : ∃ b : Nat, b = (d.getD i 0).toNat ∧ wr.cell? ⟨w.heap.size, i, none⟩ = some (.int .u8 (b : Int)) := ⟨_, rfl, by rw [HB.out.cell, u8_getD d _ (by have := Hd.out; omega)]⟩
      have hbl : b < 256 := by rw [hx]; exact (d.getD i 0).toNat_lt
      have q0 : wrap64 (b : Int) = (b : Int) := by simp only [wrap64]; omega
      have Hx := Lib.hid hx
      have hd16 : decide ((i : Int) < 16) = true := by simp; omega
      have hi16 : (i : Int) < 16 := by omega
      clear hx
      go_wp2_with fail
      rw [four_cells]
      obtain ⟨W2, hW2⟩ : ∃ W, W = wr.alloc (.cells (NI (four b)).toArray 3) := ⟨_, rfl⟩
      obtain ⟨G, hG⟩ : ∃ G, G = wr.heap.size := ⟨_, rfl⟩
      have KG := Lib.hid (show Blk W2 G 3 (NI (four b)) by rw [hW2, hG]; exact Blk.new wr 3 (NI (four b)))
      have KB := Lib.hid (show Blk W2 w.heap.size 23 (B8 d) by rw [hW2]; exact HB.out.alloc _)
      have KO := Lib.hid (show W2.ownsRow (w.heap.size + 1) 3 1 u3 (4 * i) (NI (pre d (4 * i))) by rw [hW2]; exact HO.out.alloc _)
      have KN := Lib.hid (show ∀ q, u3.ownBlock = some q → q ≠ G from fun q hq => by have := (HO.out.lt q hq).2; omega)
      have KW := Lib.hid (show Below w.heap.size w W2 by rw [hW2]; exact hbel.out.alloc hbel.out.size _)
      have HGw := Lib.hid (show w.heap.size < G by have := HB.out.lt; omega)
      rw [← hW2, ← hG]
      clear c1 q0 HO HB hbel hW2 hG
      go_loopw [3, 4, 8] (fun s3 s4 s8 wq => ∃ k : Nat, k ≤ 4 ∧ s4 = .int .i64 (lack d (4 * i + k) : Nat) ∧ s8 = .int .i64 k ∧ Hid (wq.ownsRow (w.heap.size + 1) 3 1 s3 (4 * i + k) (NI (pre d (4 * i + k)))) ∧
          Hid (∀ q, s3.ownBlock = some q → q ≠ G) ∧ Hid (Blk wq G 3 (NI (four b))) ∧ Hid (Blk wq w.heap.size 23 (B8 d)) ∧ Hid (Below w.heap.size w wq))
        (fun _ _ s8 _ => 4 - (intOf s8).toNat)
      case atStart => exact ⟨0, by omega, rfl, rfl, KO, KN, KG, KB, KW⟩
      case round =>
        clear KO KN KG KB KW
        rename World => wq
        obtain ⟨k, hk, rfl, rfl, KO, KN, KG, KB, KW⟩ := hrel
        by_cases hkt : k < 4
        · obtain ⟨t, ht⟩ : ∃ t, t = sdig d (4 * i + k) := ⟨_, rfl⟩
          have c1 : wq.cell? ⟨G, k, none⟩ = some (.int .i64 (t : Int)) := by rw [KG.out.cell, Hx.out, ht]; exact four_at d i k hlt hkt
          obtain ⟨S, hS⟩ : ∃ S, S = lack d (4 * i + k) := ⟨_, rfl⟩
          have htl : t ≤ 3 := by rw [ht]; exact sdig_le d _
          have hSl : S ≤ 192 := by rw [hS]; have := lack_le d (4 * i + k); omega
          have hS1 : lack d (4 * i + (k + 1)) = S + (3 - t) := by
            rw [← Nat.add_assoc, lack, ← hS, ht]
            unfold sdig
            rw [if_pos (by omega)]
          have HT := Lib.hid (And.intro ht hS1)
          rw [← hS]
          clear ht hS hS1
          have r1 : IntKind.i64.wrap ((S : Int) + 3) = (S : Int) + 3 := IntWalk.i64_in _ (by omega)
          have r2 : IntKind.i64.wrap ((S : Int) + 3 - (t : Int)) = (S : Int) + 3 - (t : Int) := IntWalk.i64_in _ (by omega)
          go_wp2_with (at_builtin; refine wpList_append_lies _ rfl (.tmp 32) (.tmp 37) 25 rfl (w.heap.size + 1) 3 i0 (.int .i64 0) 1 8 Tryd.underlying25 hi0 hz0 hz1 hz2 rfl (by decide) _ (4 * i + k) (NI (pre d (4 * i + k))) rfl (KO.out.alloc _) ⟨wq.heap.size, 0, none⟩ 1 1 (NI [t]) rfl rfl ?c1 (NI_one _) (by decide) (by unfold maxLen; omega) (by omega) (by have := KB.out.lt; simp; omega) _ rfl ?_)
          case c1 =>
            intro j y hy
            rw [Addr.add_lit, Nat.zero_add, cell_of_row _ _ _ _ _ _ (heap_alloc_new wq _)]
            simpa [NI] using hy
          intro g cap w3 ho3 hg3 hat _
          have LG := Lib.hid (show Blk w3 G 3 (NI (four b)) from (KG.out.alloc _).grown hg3 (fun h => KN.out G h.symm rfl))
          have LB := Lib.hid (show Blk w3 w.heap.size 23 (B8 d) from (KB.out.alloc _).grown hg3 (fun h => by have := (KO.out.lt _ h.symm).1; omega))
          have LO := Lib.hid (show w3.ownsRow (w.heap.size + 1) 3 1 (.slice (some ⟨g, 0, none⟩) (4 * i + k + 1) cap) (4 * i + (k + 1)) (NI (pre d (4 * i + (k + 1)))) by
            rw [← Nat.add_assoc, pre_succ, ← HT.out.1]; exact ho3)
          have LN := Lib.hid (show ∀ q, (Value.slice (some ⟨g, 0, none⟩) (4 * i + k + 1) cap).ownBlock = some q → q ≠ G from fun q hq => by
            have e : g = q := by simpa [Value.ownBlock] using hq
            subst e
            rcases hat with h | h
            · exact KN.out _ h
            · rw [h]; have := KG.out.lt; simp; omega)
          have LW := Lib.hid ((KW.out.alloc KW.out.size (.cells (NI [t]).toArray 3)).grown hg3 (KW.out.alloc KW.out.size _).size (fun q hq => by have := (KO.out.lt q hq).1; omega))
          have c3 : w3.cell? ⟨G, k, none⟩ = some (.int .i64 (t : Int)) := by rw [LG.out.cell, Hx.out, HT.out.1]; exact four_at d i k hlt hkt
          clear ho3 hg3 hat c1
          go_wp2_with fail
          go_roundw
          case rel =>
            have h1 : ∃ q : Nat, q ≤ 4 ∧ Value.int .i64 ((S : Int) + 3 - (t : Int)) = .int .i64 (lack d (4 * i + q) : Nat) ∧ Value.int .i64 ((k : Int) + 1) = .int .i64 (q : Int) ∧
                Hid (w3.ownsRow (w.heap.size + 1) 3 1 (.slice (some ⟨g, 0, none⟩) (4 * i + k + 1) cap) (4 * i + q) (NI (pre d (4 * i + q)))) ∧
                Hid (∀ q, (Value.slice (some ⟨g, 0, none⟩) (4 * i + k + 1) cap).ownBlock = some q → q ≠ G) ∧ Hid (Blk w3 G 3 (NI (four b))) ∧ Hid (Blk w3 w.heap.size 23 (B8 d)) ∧ Hid (Below w.heap.size w w3) := by
              refine ⟨k + 1, by omega, ?_, by go_num, LO, LN, LG, LB, LW⟩
              rw [HT.out.2]
              have : (S : Int) + 3 - (t : Int) = ((S + (3 - t) : Nat) : Int) := by omega
              rw [this]
            first | exact h1 | ((repeat apply Exists.intro); exact ⟨h1, rfl⟩)
          case measure => first | (simp only [intOf]; omega) | (simp [intOf]; omega)
        · obtain rfl : k = 4 := by omega
          go_wp2_with fail
          go_roundw
          case rel => exact ⟨i + 1, by omega, by rw [Nat.mul_succ], by go_num, KO, KB, KW⟩
          case measure => simp only [intOf]; omega
    · obtain rfl : i = 16 := by omega
      obtain ⟨S, hS⟩ : ∃ S, S = lack d 64 := ⟨_, rfl⟩
      have hSl : S ≤ 192 := by rw [hS]; exact lack_le d 64
      rw [show lack d (4 * 16) = S from hS.symm]
      have HS := Lib.hid hS
      clear hS
      go_wp2_with (at_builtin; refine wpList_append_lies _ rfl (.tmp 46) (.tmp 57) 25 rfl (w.heap.size + 1) 3 i0 (.int .i64 0) 1 8 Tryd.underlying25 hi0 hz0 hz1 hz2 rfl (by decide) _ (4 * 16) (NI (pre d 64)) rfl (HO.out.alloc _) ⟨wr.heap.size, 0, none⟩ 4 4 (NI (four S)) rfl rfl ?c1 (NI_one _) (by decide) (by unfold maxLen; omega) (by omega) (by have := HB.out.lt; simp; omega) _ rfl ?_)
      case c1 =>
        intro j y hy
        rw [Addr.add_lit, Nat.zero_add, cell_of_row _ _ _ _ _ _ (heap_alloc_new wr _), four_cells]
        simpa using hy
      intro g cap w3 ho3 hg3 hat _
      have LW := Lib.hid ((hbel.out.alloc hbel.out.size _).grown hg3 (hbel.out.alloc hbel.out.size _).size (fun q hq => by have := (HO.out.lt q hq).1; omega))
      have LO := Lib.hid (show w3.ownsRow (w.heap.size + 1) 3 1 (.slice (some ⟨g, 0, none⟩) (4 * 16 + 4) cap) 68 (NI (digs d)) by
        rw [digs_end, ← HS.out]; exact ho3)
      clear ho3 hg3 hat
      go_wp2_with fail
      go_ret
      exact ⟨_, rfl, LO.out, LW.out⟩
end Go.Proofs.YtgonidjajmjniaaDoor
