/-
  The contracts of hash.extend, over bytes and over strings.
  Conditions: at most 2^40 bytes in all; the table of the round constants is as the text lays it.
-/
import Derived.Test.YtofccgkgjcnfbaaDoorStr
namespace Go.Proofs.YtofccgkgjcnfbaaDoor
open Go.RowKit Wr Sh
set_option linter.unusedVariables false
set_option maxRecDepth 100000

theorem size34 (cs : List Value) (h : cs.length = 73) : (Tryd.prog.info? 151).map (·.size) = some cs.length := by rw [h]; kernel_rfl
theorem size34' (cs : List Value) (h : cs.length = 73) : (Tryd.prog.info? 151).map (·.size) = some cs.toArray.size := size34 cs h
theorem size5 : (Tryd.prog.info? 5).map (·.size) = some 1 := by kernel_rfl
def ZS : List Value := SC ⟨0, 0, 0, 0, 0, 0, 0, 0⟩ (List.replicate 64 0) 0

theorem zero34 : ∀ W : World, (zeroValue 151).run Tryd.prog W = .ok (.agg ZS.toArray) W := fun _ => by kernel_rfl

theorem slice_arr (g h : Nat) (hh : h ≤ 64) (W : World) : (Instr.sliceAt 149 (.pointer (some ⟨g, 8, none⟩)) (some (.int .i64 (h : Int))) none none).run Tryd.prog W = .ok (.slice (some ⟨g, if h = 64 then 8 else 8 + h, none⟩) (64 - h) (64 - h)) W := by
  have h9 : Tryd.prog.arrayLen 149 = 64 := by kernel_rfl
  have he : Tryd.prog.elem 149 = 5 := by kernel_rfl
  have hu : Tryd.prog.underlying 149 = some (.array (Tryd.prog.arrayLen 149) (Tryd.prog.elem 149)) := by kernel_rfl
  have h5 : (sizeOf 5).run Tryd.prog W = .ok 1 W := by kernel_rfl
  rw [run_sliceAt_array_l W 149 ⟨g, 8, none⟩ hu .i64 (h : Int) (by omega) (by rw [h9]; omega), he, h5, h9]
  simp only [Result.andThen, slicedAt, Int.toNat_natCast, Nat.mul_one]
  by_cases h64 : h = 64
  · subst h64; simp
  · rw [if_neg (by omega), if_neg h64, Addr.add_lit]
theorem slice_from (A : Option Addr) (L c k : Nat) (h1 : k ≤ L) (h2 : L ≤ c) (W : World) : (Instr.sliceAt 39 (.slice A L c) (some (.int .i64 (k : Int))) none none).run Tryd.prog W = .ok (.slice (if c = k then A else A.map (·.add k)) (L - k) (c - k)) W := by
  have hu : Tryd.prog.underlying 39 = some (.slice (Tryd.prog.elem 39)) := by kernel_rfl
  have he : Tryd.prog.elem 39 = 5 := by kernel_rfl
  have h5 : (sizeOf 5).run Tryd.prog W = .ok 1 W := by kernel_rfl
  rw [run_sliceAt_slice W 39 _ _ _ _ hu, run_slice_l W 39 A L c hu .i64 k (by omega) (by omega), he, h5]
  simp only [Result.andThen, sliced, Int.toNat_natCast]
  by_cases h0 : c = k
  · subst h0; simp
  · cases A with
    | none => simp [h0]
    | some a => simp [h0, Addr.add]

set_option maxRecDepth 100000 in
set_option maxHeartbeats 4000000 in
theorem extB_go (m t rest : List UInt8) (v : S8) (n h : Nat) (A : Option Addr) (c : Nat) (w : World) (hp : Part m rest h v) (hn : n = m.length) (hr : Rd w w.heap.size A (B8 t)) (hc : t.length ≤ c) (hsz : n + t.length ≤ 1099511627776) (ht : Tab 1 w)
    (nt : Nat) (hnt : nt = n + t.length) (m' : List UInt8) (hm' : Hid (m' = m ++ t)) :
    Calls Tryd.prog 99 #[.agg (SC v rest n).toArray, .slice A t.length c] w fun e w' => ∃ rest' v', e = .returned (.agg (SC v' rest' nt).toArray) ∧ Part m' rest' (nt % 64) v' ∧ Below w.heap.size w w' := by
  have HP := Lib.hid hp
  have HT := Lib.hid ht
  have HN := Lib.hid hn
  have HNT := Lib.hid hnt
  have c72 : (SC v rest n)[72]? = some (.int .u64 (n : Int)) := SC_72 v rest n hp.hl
  have hset : (SC v rest n).set 72 (.int .u64 ((n : Int) + (t.length : Int))) = SC v rest nt := by
    rw [← SC_set72 v rest n nt hp.hl, hnt]; rfl
  have Hset := Lib.hid hset
  have hh : (n : Int) % 64 = (h : Int) := by have := hp.hh; omega
  have hlt := hp.lt
  have z34 := zero34
  clear hp ht hn hnt hset
  go_enter Tryd.func99, Tryd.ntmps99
  go_wp2
  rw [Hset.out]
  generalize hW : World.alloc _ _ = W1
  have f1 : Blk W1 w.heap.size 151 (SC v rest nt) := by rw [← hW]; exact (Blk.new w 151 (SC v rest nt)).alloc _
  have f2 : Blk W1 (w.heap.size + 1) 151 ZS := by rw [← hW]; exact Blk.newAt _ _ 151 ZS (by simp)
  have hbel : Below w.heap.size w W1 := by rw [← hW]; exact ((Below.refl _ _).alloc (Nat.le_refl _) _).alloc (by simp) _
  have HB := Lib.hid hbel
  have HR := Lib.hid hr
  clear hW hbel c72 Hset z34 hr hh
  go_loopw [1, 5] (fun s1 s5 wr => ∃ (u r rest : List UInt8) (v : S8) (h : Nat) (A' : Option Addr) (c' : Nat), Hid (t = u ++ r) ∧ Hid (Part (m ++ u) rest h v) ∧ h < 64 ∧ r.length ≤ c' ∧ r.length ≤ 1099511627776 ∧ s1 = .slice A' r.length c' ∧ s5 = .int .i64 h ∧
      Hid (Rd wr w.heap.size A' (B8 r)) ∧ Blk wr w.heap.size 151 (SC v rest nt) ∧ Blk wr (w.heap.size + 1) 151 ZS ∧ Hid (Below w.heap.size w wr))
    (fun s1 _ _ => match s1 with | .slice _ n _ => n | _ => 0)
  case atStart => exact ⟨[], t, rest, v, h, A, c, Lib.hid rfl, Lib.hid (by rw [List.append_nil]; exact HP.out), hlt, hc, by omega, rfl, rfl, Lib.hid (HR.out.below HB.out), f1, f2, HB⟩
  case round =>
  clear f1 f2 HB hlt hc
  obtain ⟨u, r, rest, v, h, A', c', hu, HP', hlt, hc, hr40, rfl, rfl, HR', f1, f2, HB⟩ := hrel
  by_cases hk : 0 < r.length
  · obtain ⟨k, hkl⟩ : ∃ k, k = Nat.min r.length (64 - h) := ⟨_, rfl⟩
    have hk1 : 0 < k := by rw [hkl]; exact Nat.lt_min.2 ⟨hk, by omega⟩
    have hk2 : k ≤ r.length := by rw [hkl]; exact Nat.min_le_left _ _
    have hk3 : k ≤ 64 - h := by rw [hkl]; exact Nat.min_le_right _ _
    have hk5 : h + k ≤ 64 := by omega
    have hk4 : k = r.length ∨ h + k = 64 := by
      rcases Nat.le_total r.length (64 - h) with h1 | h1
      · left; rw [hkl]; exact Nat.min_eq_left h1
      · right; rw [hkl]; have : Nat.min r.length (64 - h) = 64 - h := Nat.min_eq_right h1; rw [this]; omega
    have hne : B8 r ≠ [] := by intro e; have := congrArg List.length e; rw [B8_len] at this; simp only [List.length_nil] at this; omega
    obtain ⟨g, o, rfl, hg, hcell⟩ := HR'.out hne
    have hrl : rest.length = 64 := HP'.out.hl
    have Hsrc : Hid (∀ j u, (B8 (r.take k))[j]? = some u → wr.cell? ((⟨g, o, none⟩ : Addr).add j) = some u) := Lib.hid (fun j u hu => by
      rw [Addr.add_lit]
      refine hcell j u ?_
      have hj := (List.getElem?_eq_some_iff.1 hu).1
      rw [B8_len] at hj
      have hj2 : j < r.length := by simp at hj; omega
      rw [B8_get _ _ hj] at hu
      rw [B8_get _ _ hj2, ← hu]
      simp)
    have htl : (r.take k).length = k := by simp; omega
    obtain ⟨rest2, hrest2⟩ : ∃ rest2, rest2 = splice rest h (r.take k) := ⟨_, rfl⟩
    have HSP := Lib.hid (show splice (SC v rest nt) (8 + h) (B8 (r.take k)) = SC v rest2 nt by rw [hrest2]; exact SC_splice v rest (r.take k) nt h hrl (by rw [htl]; omega))
    have HF1 := Lib.hid (show wr.heap[w.heap.size]? = some (.cells (SC v rest nt).toArray 151 (0, 0)) from f1)
    have hfit := Lib.hid (show 8 + h + k ≤ (SC v rest nt).length by rw [SC_len _ _ _ hrl]; omega)
    have HL := Lib.hid (show (B8 (r.take k)).length = k by rw [B8_len, htl])
    have HK := Lib.hid hkl
    have hsa : ∀ W : World, (Instr.sliceAt 149 (.pointer (some ⟨w.heap.size, 8, none⟩)) (some (.int .i64 (h : Int))) none none).run Tryd.prog W = .ok (.slice (some ⟨w.heap.size, 8 + h, none⟩) (64 - h) (64 - h)) W := by
      intro W
      rw [slice_arr _ h (by omega), if_neg (by omega)]
    have hsl := slice_from (some ⟨g, o, none⟩) r.length c' k hk2 hc
    have hcut := (HR'.out.cut k c' (by rw [B8_len]; exact hk2) (by rw [B8_len]; exact hc))
    rw [show (B8 r).drop k = B8 (r.drop k) by simp [B8]] at hcut
    obtain ⟨A2, hA2⟩ : ∃ A2, A2 = (if c' = k then some (⟨g, o, none⟩ : Addr) else (some (⟨g, o, none⟩ : Addr)).map (·.add k)) := ⟨_, rfl⟩
    rw [← hA2] at hsl hcut
    have HCUT := Lib.hid hcut
    have HA2 := Lib.hid hA2
    clear hcut hA2 hcell hkl hne
    have key : Hid (∃ v2 h2, Part (m ++ (u ++ r.take k)) rest2 h2 v2 ∧ ((h + k = 64 ∧ h2 = 0 ∧ v2 = compress v rest2) ∨ (h + k < 64 ∧ h2 = h + k ∧ v2 = v))) := Lib.hid (by
      rw [← List.append_assoc, hrest2]
      rcases Nat.lt_or_ge (h + k) 64 with hlt' | hge
      · exact ⟨v, h + k, by have := HP'.out.some (r.take k) (by rw [htl]; exact hlt'); rw [htl] at this; exact this, .inr ⟨hlt', rfl, rfl⟩⟩
      · exact ⟨_, 0, HP'.out.full (r.take k) (by rw [htl]; omega), .inl ⟨by omega, rfl, rfl⟩⟩)
    have hr2l : rest2.length = 64 := by rw [hrest2, length_splice _ _ _ (by rw [htl, hrl]; omega)]; exact hrl
    have HR2 := Lib.hid hr2l
    clear hrest2 hrl htl hr2l
    have HU2 : Hid (t = (u ++ r.take k) ++ r.drop k) := Lib.hid (by rw [List.append_assoc, List.take_append_drop]; exact hu.out)
    obtain ⟨v2, h2, hp2, hcase⟩ := key.out
    have HP2 := Lib.hid hp2
    have L0 : ∀ W : World, Blk W w.heap.size 151 (SC v rest2 nt) → Hid (∀ j u, (U32 v.list)[j]? = some u → W.cell? ((⟨w.heap.size, 0, none⟩ : Addr).add j) = some u) := fun W hW => Lib.hid (fun j u hu => by
      rw [Addr.add_lit, Nat.zero_add, hW.cell]; exact SC_words v rest2 nt j u hu)
    have L8 : ∀ W : World, Blk W w.heap.size 151 (SC v rest2 nt) → Hid (∀ j u, (B8 rest2)[j]? = some u → W.cell? ((⟨w.heap.size, 8, none⟩ : Addr).add j) = some u) := fun W hW => Lib.hid (fun j u hu => by
      rw [Addr.add_lit, hW.cell]; exact SC_rest v rest2 nt j u hu)
    have hfit0 := Lib.hid (show 0 + (U32 v2.list).length ≤ (SC v rest2 nt).length by rw [SC_len _ _ _ HR2.out, list8]; omega)
    have g1 : Blk (wr.setRow w.heap.size (SC v rest2 nt).toArray) w.heap.size 151 (SC v rest2 nt) := f1.row _
    have g2 : Blk (wr.setRow w.heap.size (SC v rest2 nt).toArray) (w.heap.size + 1) 151 ZS := f2.setRow (by omega) _
    have g3 := Lib.hid (belowRow HB.out (Nat.le_refl _) (SC v rest2 nt).toArray)
    have g4 := Lib.hid (HR'.out.below (belowRow (Below.refl w.heap.size wr) (Nat.le_refl _) (SC v rest2 nt).toArray))
    have HC2 : Hid (Rd (wr.setRow w.heap.size (SC v rest2 nt).toArray) w.heap.size A2 (B8 (r.drop k))) := Lib.hid (HCUT.out.below (belowRow (Below.refl w.heap.size wr) (Nat.le_refl _) (SC v rest2 nt).toArray))
    obtain ⟨W3, hW3⟩ : ∃ W3, W3 = wr.setRow w.heap.size (SC v rest2 nt).toArray := ⟨_, rfl⟩
    rw [← hW3] at g1 g2 g3 g4 HC2
    have HW3 := Lib.hid hW3
    have TAB := Lib.hid (HT.out.below g3.out HT.out.1)
    have l0 := L0 W3 g1
    have l8 := L8 W3 g1
    clear hW3 L0 L8 key hp2 f1 f2 HB HR' HCUT hu HP'
    by_cases hfull : h + k = 64
    · have ht1 : ((h : Int) + (k : Int) == 64) = true := by rw [beq_iff_eq]; omega
      obtain ⟨rfl, hv2⟩ : h2 = 0 ∧ v2 = compress v rest2 := by
        rcases hcase with ⟨_, a, b⟩ | ⟨a, _, _⟩
        · exact ⟨a, b⟩
        · omega
      have HV2 : Hid (v2.list = (compress v rest2).list) := Lib.hid (by rw [hv2])
      clear hcase hv2
      have HS30 : Hid (v2.list.length = 8) := Lib.hid rfl
      have HG4 : ∀ w4, Hid (Below W3.heap.size W3 w4) → Hid (w4.heap[w.heap.size]? = some (.cells (SC v rest2 nt).toArray 151 (0, 0))) := fun w4 hb => Lib.hid (g1.below hb.out g1.lt)
      go_wp2_with (first
        | (with_reducible refine wpList_copy_at rfl (.tmp 23) (.tmp 24) 39 39 rfl 5 Tryd.underlying39 size5 w.heap.size (8 + h) (64 - h) (64 - h) ⟨g, o, none⟩ r.length c' rfl rfl (SC v rest nt) 151 HF1.out (B8 (r.take k)) k HL.out HK.out Hsrc.out hfit.out (B8_one _) ?_; rw [HSP.out, ← HW3.out])
        | (with_reducible refine wpList_load_at rfl 148 (.tmp 34) rfl ⟨w.heap.size, 0, none⟩ rfl (U32 v.list) (.array 8 147) l0.out Tryd.underlying148 rfl (size30 _ rfl) ?_)
        | (with_reducible refine wpList_load_at rfl 149 (.tmp 36) rfl ⟨w.heap.size, 8, none⟩ rfl (B8 rest2) (.array 64 5) l8.out Tryd.underlying149 rfl (size31 _ HR2.out) ?_)
        | (go_at_call 113; refine (compress_go v rest2 W3 HR2.out TAB.out _ (Lib.hid rfl) v2.list HV2).mono ?_; rintro e w4 ⟨rfl, hb4⟩; have HB4 := Lib.hid hb4; clear hb4; have HG := HG4 w4 HB4)
        | (with_reducible refine wpList_store_at rfl 148 (.tmp 39) (.tmp 38) rfl w.heap.size 0 (U32 v2.list) rfl rfl 151 (SC v rest2 nt) HG.out (size30 _ HS30.out) hfit0.out (U32_each _) ?_; rw [SC_value]))
      go_roundw
      case rel =>
        have hb3 : Below w.heap.size W3 (w4.setRow w.heap.size (SC v2 rest2 nt).toArray) := belowRow (HB4.out.mono (Nat.le_of_lt g1.lt)) (Nat.le_refl _) _
        exact ⟨u ++ r.take k, r.drop k, rest2, v2, 0, A2, c' - k, HU2, HP2, by omega, by rw [List.length_drop]; omega, by rw [List.length_drop]; omega, by rw [List.length_drop], rfl,
          Lib.hid (HC2.out.below hb3), (g1.below HB4.out g1.lt).row _, (g2.below HB4.out g2.lt).setRow (by omega) _, Lib.hid (g3.out.trans hb3)⟩
      case measure => simp only []; omega
    · have ht1 : ((h : Int) + (k : Int) == 64) = false := by rw [beq_eq_false_iff_ne]; omega
      obtain ⟨hlt2, rfl, rfl⟩ : h + k < 64 ∧ h2 = h + k ∧ v2 = v := by
        rcases hcase with ⟨a, _, _⟩ | h
        · omega
        · exact h
      clear hcase
      go_wp2_with (first
        | (with_reducible refine wpList_copy_at rfl (.tmp 23) (.tmp 24) 39 39 rfl 5 Tryd.underlying39 size5 w.heap.size (8 + h) (64 - h) (64 - h) ⟨g, o, none⟩ r.length c' rfl rfl (SC v2 rest nt) 151 HF1.out (B8 (r.take k)) k HL.out HK.out Hsrc.out hfit.out (B8_one _) ?_; rw [HSP.out, ← HW3.out]))
      go_roundw
      case rel =>
        exact ⟨u ++ r.take k, r.drop k, rest2, v2, h + k, A2, c' - k, HU2, HP2, hlt2, by rw [List.length_drop]; omega, by rw [List.length_drop]; omega, by rw [List.length_drop], by go_num,
          HC2, g1, g2, g3⟩
      case measure => simp only []; omega
  · have hr0 : r = [] := List.eq_nil_of_length_eq_zero (by omega)
    have hut : t = u := by rw [hu.out, hr0, List.append_nil]
    have hPm : Part m' rest (nt % 64) v := by
      have h1 := HP'.out
      rw [hm'.out, hut]
      have h2 : h = nt % 64 := by rw [h1.hh, HNT.out, HN.out, hut, List.length_append]
      rw [← h2]; exact h1
    have HPM := Lib.hid hPm
    have hrl := HP'.out.hl
    have HS73 := Lib.hid (SC_len v rest nt hrl)
    have HUS := Lib.hid (show ZS.toArray.size = (SC v rest nt).toArray.size by rw [List.size_toArray, List.size_toArray, SC_len v rest nt hrl]; rfl)
    have F1 := Lib.hid f1.at
    have F2 := Lib.hid (show wr.heap[w.heap.size + 1]? = some (.cells ZS.toArray 151 (0, 0)) from f2)
    have hbel := HB.out
    have hr00 : r.length = 0 := by omega
    clear f1 f2 HB HP' hu hPm hrl hr0 hut
    go_wp2_with (first
      | (with_reducible refine wpList_load_at rfl 151 (.tmp 2) rfl ⟨w.heap.size, 0, none⟩ rfl (SC v rest nt) (.struct #[{ name := "value", type := 148, offset := 0, embedded := false, tag := "", pkgPath := "culprit/hash", byteOffset := 0 }, { name := "rest", type := 149, offset := 8, embedded := false, tag := "", pkgPath := "culprit/hash", byteOffset := 32 }, { name := "size", type := 139, offset := 72, embedded := false, tag := "", pkgPath := "culprit/hash", byteOffset := 96 }]) F1.out Tryd.underlying151 rfl (size34 _ HS73.out) ?_)
      | (with_reducible refine wpList_store_row rfl 151 (.tmp 4) (.tmp 40) rfl (w.heap.size + 1) (SC v rest nt).toArray rfl rfl 151 _ F2.out (size34' _ HS73.out) HUS.out (SC_one _ _ _) ?_))
    refine bodyPost_ret (v := .agg (SC v rest nt).toArray) ?_ rfl ⟨rest, v, rfl, HPM.out, belowRow hbel (by omega) _⟩
    have hr := run_loadVar_row (P := Tryd.prog) _ (w.heap.size + 1) 151 151 (SC v rest nt).toArray (0, 0) (.struct #[{ name := "value", type := 148, offset := 0, embedded := false, tag := "", pkgPath := "culprit/hash", byteOffset := 0 }, { name := "rest", type := 149, offset := 8, embedded := false, tag := "", pkgPath := "culprit/hash", byteOffset := 32 }, { name := "size", type := 139, offset := 72, embedded := false, tag := "", pkgPath := "culprit/hash", byteOffset := 96 }]) (heap_setRow wr (w.heap.size + 1) (SC v rest nt).toArray _ 151 F2.out) Tryd.underlying151 rfl (size34' _ HS73.out)
    simp [results, asAddr, hr, Act.put]
end Go.Proofs.YtofccgkgjcnfbaaDoor
