/-
  The contract of the laws' sanity: it returns true.
  Condition: the table of the round constants is as the text lays it.
-/
import Derived.Test.YtfagpeacilfaaaaDoorExam
import Derived.ChangeKeysEq
import Derived.Laws.StructEq
import Derived.Lib.SlBytesConst
namespace Go.Proofs.YtfagpeacilfaaaaDoor
open Go.RowKit Wr Sh
set_option linter.unusedVariables false

theorem part5 (d : List UInt8) (i : Nat) (hi : i < d.length) (w : World) : (part 5 (B8 d).toArray (i * Tryd.prog.cellsOf 5)).run Tryd.prog w = .ok (.int .u8 (d[i].toNat : Int)) w := by
  have hc : Tryd.prog.cellsOf 5 = 1 := by kernel_rfl
  have ha : (isAgg 5).run Tryd.prog w = .ok false w := by kernel_rfl
  rw [hc, Nat.mul_one]
  simp [part, ha, B8, hi]
theorem eq5 (D : Nat) (n : Int) (w : World) : (Op.equalIn (D + 1) 5 (.int .u8 n) (.int .u8 n)).run Tryd.prog w = .ok true w := by
  simp [Op.equalIn, run_underlying Tryd.underlying5]
theorem items_same (D : Nat) (d : List UInt8) (w : World) : ∀ is : List Nat, (∀ i ∈ is, i < d.length) → (Op.eqItems (D + 1) 5 (Tryd.prog.cellsOf 5) (B8 d).toArray (B8 d).toArray is).run Tryd.prog w = .ok true w := by
  intro is
  induction is with
  | nil => intro _; simp [Op.eqItems]
  | cons i is ih =>
    intro h
    have hi := h i (by simp)
    simp only [Op.eqItems, Sem.run_bind, part5 d i hi w, Result.andThen_ok]
    rw [eq5]
    simpa using ih (fun j hj => h j (by simp [hj]))
theorem eql24 (d : List UInt8) (hd : d.length = 32) (w : World) : (binOp .eql 24 (.agg (B8 d).toArray) (.agg (B8 d).toArray)).run Tryd.prog w = .ok (.bool true) w := by
  obtain ⟨i0, hi0, _⟩ := info_parts Tryd.info5
  rw [run_eql_struct, show (10000 : Nat) = 9999 + 1 from rfl, run_equalIn_array w 9999 _ _ Tryd.underlying24 hi0, show (9999 : Nat) = 9998 + 1 from rfl, items_same 9998 d w _ (by intro i hi; rw [hd]; exact List.mem_range.1 hi)]
  rfl

theorem wpList_load_guarded {P : Program} {w : World} {ops : Array Oper} {rest : List Oper} {o : Oper} {a : Act} {Q : Exit → Act → World → Prop} (ty : TypeId) (x : Operand) (ho : o.op = .load ty x)
    (ad : Addr) (hx : a.eval x = .pointer (some ad)) (hw : Region.wanted o (yielded ops a.tmps) = true) (cs : List Value) (d : TypeDesc) (hc : ∀ j v, cs[j]? = some v → w.cell? (ad.add j) = some v)
    (hu : P.underlying ty = some d) (hd : (match d with | .struct _ | .array _ _ => true | _ => false) = true) (hi : (P.info? ty).map (·.size) = some cs.length)
    (h : wpList P ops Q rest (a.put o.dst (.agg cs.toArray)) w) : wpList P ops Q (o :: rest) a w :=
  wpList_step fun K hK => by rw [if_pos hw]; exact wp_load_at ty x ho ad hx cs d hc hu hd hi (hK _ _ h)
theorem rd_new_fr (W : World) (xs : List Value) (t : TypeId) (fr : Nat × Nat) : Rd (W.alloc (.cells xs.toArray t fr)) (W.alloc (.cells xs.toArray t fr)).heap.size (some ⟨W.heap.size, 0, none⟩) xs := by
  intro _
  refine ⟨W.heap.size, 0, rfl, by simp, fun j u hu => ?_⟩
  rw [Nat.zero_add, cell_of_row _ _ _ _ _ _ (heap_alloc_new W _)]
  simpa using hu

set_option maxRecDepth 100000 in
set_option maxHeartbeats 8000000 in
theorem sanity_go (w : World) (ht : Tab 1 w) (S D MR : List UInt8) (hS : Hid (S = sha [97, 98, 99])) (R8 : List UInt8) (hR8 : Hid (R8 = sha (inp 8 [⟨#[97]⟩, ⟨#[]⟩]))) (hD : Hid (D = R8.take 16))
    (hMR : Hid (MR = mac [74, 101, 102, 101] [119, 104, 97, 116, 32, 100, 111, 32, 121, 97, 32, 119, 97, 110, 116, 32, 102, 111, 114, 32, 110, 111, 116, 104, 105, 110, 103, 63])) :
    Calls Tryd.prog 10 #[] w fun e w' => e = .returned (.bool true) ∧ Below w.heap.size w w' := by
  have HT := Lib.hid ht
  clear ht
  have hSl : Hid (S.length = 32) := Lib.hid (by rw [hS.out]; exact sha_len _)
  have HB32 := Lib.hid (show (B8 S).length = 32 by rw [B8_len, hSl.out])
  have hDl : Hid (D.length = 16) := Lib.hid (by rw [hD.out, List.length_take, hR8.out, sha_len]; rfl)
  have HB16 := Lib.hid (show (B8 D).length = 16 by rw [B8_len, hDl.out])
  have HI44 := Lib.hid (show (Tryd.prog.info? 44).map (·.size) = some (B8 D).toArray.size by rw [List.size_toArray, B8_len, hDl.out]; kernel_rfl)
  have HL44 := Lib.hid (show (Tryd.prog.info? 44).map (·.size) = some (B8 D).length by rw [B8_len, hDl.out]; kernel_rfl)
  have kc := fun (w : World) (C : Array Value) (n c : Nat) => Lib.run_convert_bytes_const (P := Tryd.prog) w 22 5 C n c Tryd.underlying22 Tryd.underlying5
  go_enter Tryd.func10, Tryd.ntmps10
  go_upto_region 1 with (fail)
  go_cut [1] (fun s1 wx => ∃ g, s1 = .pointer (some ⟨g, 0, none⟩) ∧ Blk wx g 24 (B8 S) ∧ Below w.heap.size w wx)
  case first =>
    go_wp2_with (first
      | (go_at_call 11; refine (hsum_go [97, 98, 99] (some ⟨w.heap.size, 0, none⟩) 3 _ (rd_new_fr w (B8 [97, 98, 99]) 5 (3, 4)) (by decide) (by decide) (HT.out.below ((Below.refl w.heap.size w).alloc (Nat.le_refl _) _) HT.out.1) S hS).mono ?_; rintro e w1 ⟨rfl, hb1⟩; have HB1 := Lib.hid (((Below.refl w.heap.size w).alloc (Nat.le_refl _) _).trans (hb1.mono (by simp))); clear hb1)
      | (with_reducible refine wpList_store_row rfl 24 (.tmp 1) (.tmp 9) rfl w1.heap.size (B8 S).toArray rfl rfl 24 _ (heap_alloc_new w1 _) (size24' _ hSl.out) (by simp [HB32.out]) (one8 _) ?_))
    go_meet
    exact ⟨w1.heap.size, rfl, heap_setRow _ w1.heap.size (B8 S).toArray _ 24 (heap_alloc_new w1 _), belowRow (HB1.out.alloc HB1.out.size _) HB1.out.size _⟩
  case rest =>
    obtain ⟨g1, rfl, k1, hbw⟩ := hcut
    have HT1 := Lib.hid (HT.out.below hbw HT.out.1)
    have HB := Lib.hid hbw
    clear hbw kc
    go_upto_region 2 with (fail)
    go_cut [2] (fun s2 wx => ∃ g, s2 = .pointer (some ⟨g, 0, none⟩) ∧ Blk wx g 24 (B8 S) ∧ Blk wx g1 24 (B8 S) ∧ Below w.heap.size w wx)
    case first =>
      go_wp2_with (first
        | (go_at_call 14; refine (begin_s _).mono ?_; rintro e w1 ⟨rfl, hb1⟩; have HB1 := Lib.hid hb1; clear hb1; have st1 : True := trivial)
        | (go_at_call 15; have _t := st1; refine (add_go [] Z64 ⟨#[97]⟩ init 0 _ part_z rfl (by decide) (HT1.out.below HB1.out HT1.out.1) 1 rfl [97] (Lib.hid rfl)).mono ?_; rintro e w2 ⟨rest2, v2, rfl, hp2, hb2⟩; have HP2 := Lib.hid hp2; have HB2 := Lib.hid (HB1.out.trans (hb2.mono HB1.out.size)); clear hb2 hp2 st1 _t)
        | (go_at_call 15; refine (add_go [97] rest2 ⟨#[98, 99]⟩ v2 1 _ HP2.out rfl (by decide) (HT1.out.below HB2.out HT1.out.1) 3 rfl [97, 98, 99] (Lib.hid rfl)).mono ?_; rintro e w3 ⟨rest3, v3, rfl, hp3, hb3⟩; have HP3 := Lib.hid hp3; have HB3 := Lib.hid (HB2.out.trans (hb3.mono HB2.out.size)); clear hb3 hp3)
        | (go_at_call 17; refine (ssum_go [97, 98, 99] rest3 v3 3 _ HP3.out rfl (by decide) (HT1.out.below HB3.out HT1.out.1) S hS).mono ?_; rintro e w4 ⟨rfl, hb4⟩; have HB4 := Lib.hid (HB3.out.trans (hb4.mono HB3.out.size)); clear hb4)
        | (with_reducible refine wpList_store_row rfl 24 (.tmp 2) (.tmp 13) rfl w4.heap.size (B8 S).toArray rfl rfl 24 _ (heap_alloc_new w4 _) (size24' _ hSl.out) (by simp [HB32.out]) (one8 _) ?_))
      go_meet
      have k1' := k1.below HB4.out k1.lt
      exact ⟨w4.heap.size, rfl, heap_setRow _ w4.heap.size (B8 S).toArray _ 24 (heap_alloc_new w4 _), (k1'.alloc _).setRow (Nat.ne_of_lt k1'.lt) _, HB.out.trans (belowRow ((HB4.out.mono HB.out.size).alloc (Nat.le_trans HB.out.size HB4.out.size) _) (Nat.le_trans HB.out.size HB4.out.size) _)⟩
    case rest =>
      obtain ⟨g2, rfl, k2, k1', hbw⟩ := hcut
      have HT2 := Lib.hid (HT.out.below hbw HT.out.1)
      have HBB := Lib.hid hbw
      clear hbw k1 HT1 HB
      go_upto_region 3 with (fail)
      go_cut [3] (fun s3 wx => ∃ g, s3 = .pointer (some ⟨g, 0, none⟩) ∧ Blk wx g 44 (B8 D) ∧ Blk wx g2 24 (B8 S) ∧ Blk wx g1 24 (B8 S) ∧ Below w.heap.size w wx)
      case first =>
        have HOF : Hid (Calls Tryd.prog 21 #[.int .i64 8, .slice (some ⟨wc.heap.size, 0, none⟩) 2 2] (wc.alloc (.cells #[.string ⟨#[97]⟩, .string ⟨#[]⟩] 9)) fun e w' => e = .returned (.agg (B8 D).toArray) ∧ Below (wc.alloc (.cells #[.string ⟨#[97]⟩, .string ⟨#[]⟩] 9)).heap.size (wc.alloc (.cells #[.string ⟨#[97]⟩, .string ⟨#[]⟩] 9)) w') := Lib.hid (by
          have := of_go 8 (some ⟨wc.heap.size, 0, none⟩) [⟨#[97]⟩, ⟨#[]⟩] 2 (wc.alloc (.cells #[.string ⟨#[97]⟩, .string ⟨#[]⟩] 9)) (rd_new wc (St [⟨#[97]⟩, ⟨#[]⟩]) 9) (by decide) 8 (by decide) (by decide +kernel) (HT2.out.below ((Below.refl wc.heap.size wc).alloc (Nat.le_refl _) _) HT2.out.1) R8 hR8
          rw [← hD.out] at this
          exact this)
        go_wp2_with (first
          | (go_at_call 21; refine HOF.out.mono ?_; rintro e w5 ⟨rfl, hb5⟩; have HB5 := Lib.hid (((Below.refl wc.heap.size wc).alloc (Nat.le_refl _) _).trans (hb5.mono (by simp))); clear hb5)
          | (with_reducible refine wpList_store_row rfl 44 (.tmp 3) (.tmp 15) rfl w5.heap.size (B8 D).toArray rfl rfl 44 _ (heap_alloc_new w5 _) HI44.out (by simp [HB16.out]) (one8 _) ?_))
        go_meet
        have e1 := k1'.below HB5.out k1'.lt
        have e2 := k2.below HB5.out k2.lt
        exact ⟨w5.heap.size, rfl, heap_setRow _ w5.heap.size (B8 D).toArray _ 44 (heap_alloc_new w5 _), (e2.alloc _).setRow (Nat.ne_of_lt e2.lt) _, (e1.alloc _).setRow (Nat.ne_of_lt e1.lt) _, HBB.out.trans (belowRow ((HB5.out.mono HBB.out.size).alloc (Nat.le_trans HBB.out.size HB5.out.size) _) (Nat.le_trans HBB.out.size HB5.out.size) _)⟩
      case rest =>
        obtain ⟨g3, rfl, k3, k2', k1'', hbw⟩ := hcut
        have HT3 := Lib.hid (HT.out.below hbw HT.out.1)
        have HB := Lib.hid hbw
        have HLD1 : ∀ W, Below wc.heap.size wc W → Hid (∀ j x, (B8 S)[j]? = some x → W.cell? ((⟨g1, 0, none⟩ : Addr).add j) = some x) := fun W hW => Lib.hid (k1''.below hW k1''.lt).at
        have HLD2 : ∀ W, Below wc.heap.size wc W → Hid (∀ j x, (B8 S)[j]? = some x → W.cell? ((⟨g2, 0, none⟩ : Addr).add j) = some x) := fun W hW => Lib.hid (k2'.below hW k2'.lt).at
        have HLD3 : ∀ W, Below wc.heap.size wc W → Hid (∀ j x, (B8 D)[j]? = some x → W.cell? ((⟨g3, 0, none⟩ : Addr).add j) = some x) := fun W hW => Lib.hid (k3.below hW k3.lt).at
        have HMAC := Lib.hid (mac_go ⟨#[74, 101, 102, 101]⟩ ⟨#[119, 104, 97, 116, 32, 100, 111, 32, 121, 97, 32, 119, 97, 110, 116, 32, 102, 111, 114, 32, 110, 111, 116, 104, 105, 110, 103, 63]⟩ wc (by decide) (by decide) HT3.out MR hMR)
        have HEQ1 : Hid (∀ W, Calls Tryd.prog 24 #[.string ⟨#[97, 98]⟩, .string ⟨#[97, 98]⟩] W fun e w' => e = .returned (.bool true) ∧ Below W.heap.size W w') := Lib.hid (fun W => equal_any ⟨#[97, 98]⟩ ⟨#[97, 98]⟩ W (by decide) (by decide))
        have HEQ2 : Hid (∀ W, Calls Tryd.prog 24 #[.string ⟨#[97, 98]⟩, .string ⟨#[97, 99]⟩] W fun e w' => e = .returned (.bool false) ∧ Below W.heap.size W w') := Lib.hid (fun W => equal_any ⟨#[97, 98]⟩ ⟨#[97, 99]⟩ W (by decide) (by decide))
        have HEQ3 : Hid (∀ W, Calls Tryd.prog 24 #[.string ⟨#[]⟩, .string ⟨#[97]⟩] W fun e w' => e = .returned (.bool false) ∧ Below W.heap.size W w') := Lib.hid (fun W => equal_any ⟨#[]⟩ ⟨#[97]⟩ W (by decide) (by decide))
        have hMl : Hid (MR.length = 32) := Lib.hid (by rw [hMR.out]; exact sha_len _)
        have HX1 : Hid (∀ W, Calls Tryd.prog 25 #[.string ⟨S.toArray⟩] W fun e w' => e = .returned (.string ⟨(hexs S).toArray⟩) ∧ Below W.heap.size W w') := Lib.hid (fun W => hex_any ⟨S.toArray⟩ W (by show S.toArray.size ≤ _; rw [List.size_toArray, hSl.out]; decide))
        have HX2 : Hid (∀ W, Calls Tryd.prog 25 #[.string ⟨MR.toArray⟩] W fun e w' => e = .returned (.string ⟨(hexs MR).toArray⟩) ∧ Below W.heap.size W w') := Lib.hid (fun W => hex_any ⟨MR.toArray⟩ W (by show MR.toArray.size ≤ _; rw [List.size_toArray, hMl.out]; decide))
        have HX3 : Hid (∀ W, Calls Tryd.prog 25 #[.string ⟨D.toArray⟩] W fun e w' => e = .returned (.string ⟨(hexs D).toArray⟩) ∧ Below W.heap.size W w') := Lib.hid (fun W => hex_any ⟨D.toArray⟩ W (by show D.toArray.size ≤ _; rw [List.size_toArray, hDl.out]; decide))
        have hs1 : (hexs S == [98, 97, 55, 56, 49, 54, 98, 102, 56, 102, 48, 49, 99, 102, 101, 97, 52, 49, 52, 49, 52, 48, 100, 101, 53, 100, 97, 101, 50, 50, 50, 51, 98, 48, 48, 51, 54, 49, 97, 51, 57, 54, 49, 55, 55, 97, 57, 99, 98, 52, 49, 48, 102, 102, 54, 49, 102, 50, 48, 48, 49, 53, 97, 100]) = true := by rw [hS.out]; exact hex_abc
        have hs2 : (hexs MR == [53, 98, 100, 99, 99, 49, 52, 54, 98, 102, 54, 48, 55, 53, 52, 101, 54, 97, 48, 52, 50, 52, 50, 54, 48, 56, 57, 53, 55, 53, 99, 55, 53, 97, 48, 48, 51, 102, 48, 56, 57, 100, 50, 55, 51, 57, 56, 51, 57, 100, 101, 99, 53, 56, 98, 57, 54, 52, 101, 99, 51, 56, 52, 51]) = true := by rw [hMR.out]; exact hex_mac
        have hs3 : (hexs D == [51, 54, 99, 100, 53, 48, 56, 53, 48, 51, 50, 57, 102, 56, 56, 52, 48, 54, 101, 51, 49, 98, 98, 56, 97, 55, 100, 56, 102, 98, 54, 50]) = true := by rw [hD.out, hR8.out]; exact hex_of
        have he24 := eql24 S hSl.out
        clear hbw k1'' k2' k3 HT2 HBB
        go_wp2_with (first
          | (go_at_call 18; refine HMAC.out.mono ?_; rintro e w6 ⟨rfl, hb6⟩)
          | (go_at_call 24; (with_reducible refine (HEQ1.out _).mono ?_); rintro e w7 ⟨rfl, hb7⟩; replace hb7 : Below wc.heap.size wc w7 := hb6.trans (hb7.mono hb6.size); clear hb6)
          | (go_at_call 24; (with_reducible refine (HEQ2.out _).mono ?_); rintro e w8 ⟨rfl, hb8⟩; replace hb8 : Below wc.heap.size wc w8 := hb7.trans (hb8.mono hb7.size); clear hb7)
          | (go_at_call 24; (with_reducible refine (HEQ3.out _).mono ?_); rintro e w9 ⟨rfl, hb9⟩; replace hb9 : Below wc.heap.size wc w9 := hb8.trans (hb9.mono hb8.size); clear hb8)
          | (with_reducible refine wpList_load_at rfl 24 (.tmp 1) rfl ⟨g1, 0, none⟩ rfl (B8 S) (.array 32 5) (HLD1 _ (by assumption)).out Tryd.underlying24 rfl (size24 _ hSl.out) ?_)
          | (go_at_call 20; refine (bytes32_any S _ hSl.out).mono ?_; rintro e w10 ⟨rfl, hb10⟩; replace hb10 : Below wc.heap.size wc w10 := hb9.trans (hb10.mono hb9.size); clear hb9)
          | (go_at_call 25; (with_reducible refine (HX1.out _).mono ?_); rintro e w11 ⟨rfl, hb11⟩; replace hb11 : Below wc.heap.size wc w11 := hb10.trans (hb11.mono hb10.size); clear hb10)
          | (refine wpList_load_guarded 24 (.tmp 1) rfl ⟨g1, 0, none⟩ rfl (by rfl) (B8 S) (.array 32 5) (HLD1 _ hb11).out Tryd.underlying24 rfl (size24 _ hSl.out) ?_)
          | (refine wpList_load_guarded 24 (.tmp 2) rfl ⟨g2, 0, none⟩ rfl (by rfl) (B8 S) (.array 32 5) (HLD2 _ hb11).out Tryd.underlying24 rfl (size24 _ hSl.out) ?_)
          | (go_at_call 25; (with_reducible refine (HX2.out _).mono ?_); rintro e w12 ⟨rfl, hb12⟩; replace hb12 : Below wc.heap.size wc w12 := hb11.trans (hb12.mono hb11.size); clear hb11)
          | (refine wpList_load_guarded 44 (.tmp 3) rfl ⟨g3, 0, none⟩ rfl (by rfl) (B8 D) (.array 16 5) (HLD3 _ hb12).out Tryd.underlying44 rfl HL44.out ?_)
          | (go_at_call 26; (with_reducible refine (text_any D _ hDl.out).mono ?_); rintro e w13 ⟨rfl, hb13⟩; replace hb13 : Below wc.heap.size wc w13 := hb12.trans (hb13.mono hb12.size); clear hb12)
          | (go_at_call 25; (with_reducible refine (HX3.out _).mono ?_); rintro e w14 ⟨rfl, hb14⟩; replace hb14 : Below wc.heap.size wc w14 := hb13.trans (hb14.mono hb13.size); clear hb13))
        go_ret
        exact ⟨rfl, HB.out.trans (hb14.mono HB.out.size)⟩
theorem sanity_any (w : World) (ht : Tab 1 w) : Calls Tryd.prog 10 #[] w fun e w' => e = .returned (.bool true) ∧ Below w.heap.size w w' :=
  sanity_go w ht _ _ _ (Lib.hid rfl) _ (Lib.hid rfl) (Lib.hid rfl) (Lib.hid rfl)
end Go.Proofs.YtfagpeacilfaaaaDoor
