/-
  The contracts of the reference's Ints (layer 1), ints, digest, advance, node, start, leaf and Digest.
  Conditions: lengths of lists and strings; heights from 0 to 1000; the reference's table of the round constants is as the text lays it.
-/
import Derived.Test.YtgonidjajmjniaaDoorSigns
import Derived.Test.YtgonidjajmjniaaDoorRWire
import Derived.Test.YtgonidjajmjniaaDoorRHashB
namespace Go.Proofs.YtgonidjajmjniaaDoor
open Go.RowKit Wr Sh
set_option linter.unusedVariables false
set_option maxRecDepth 100000

set_option maxRecDepth 100000 in
set_option maxHeartbeats 4000000 in
theorem rints_any (A : Option Addr) (l : List Int) (c : Nat) (w : World) (hr : Rd w w.heap.size A (I64 l)) (hl : l.length ≤ 1073741824) (hi : ∀ x ∈ l, okInt x) :
    Calls Tryd.prog 61 #[.slice A l.length c] w fun e w' => ∃ v', e = .returned v' ∧ w'.ownsRow w.heap.size 5 1 v' (encInts l).length (B8 (encInts l)) ∧ Below w.heap.size w w' := by
  obtain ⟨N, hN⟩ : ∃ N, N = l.length := ⟨_, rfl⟩
  rw [← hN] at hl ⊢
  have HN := Lib.hid hN
  have HR := Lib.hid hr
  have HI := Lib.hid hi
  clear hN hr hi
  go_enter Tryd.func61, Tryd.ntmps61
  go_wp2_with (go_at_call 31; refine (rint_any _ _ (by omega) (by omega)).mono ?_; rintro e w1 ⟨v1, rfl, ho1, hb1⟩; have HO1 := Lib.hid ho1; have HB1 := Lib.hid hb1; clear ho1 hb1)
  go_loopw [3, 4] (fun s3 s4 wr => ∃ j k : Nat, j ≤ N ∧ s4 = .int .i64 j ∧ Hid (k = (partE enc l j).length) ∧ Hid (wr.ownsRow w.heap.size 5 1 s3 k (B8 (partE enc l j))) ∧ Hid (Below w.heap.size w wr))
    (fun _ s4 _ => N - (intOf s4).toNat)
  case atStart => exact ⟨0, _, Nat.zero_le _, rfl, Lib.hid rfl, by rw [partE_zero, ← HN.out]; exact HO1, HB1⟩
  case round =>
    clear HO1 HB1
    obtain ⟨j, k, hj, rfl, HK, HO, HB⟩ := hrel
    by_cases hlt : j < N
    · have hjl : j < l.length := by have := HN.out; omega
      obtain ⟨g, o, rfl, hg, hcell⟩ := HR.out (by intro e; have := congrArg List.length e; simp only [I64, List.length_map, List.length_nil] at this; omega)
      have hcj : wr.cell? ⟨g, o + j, none⟩ = some (.int .i64 l[j]) := by
        rw [HB.out.cell (show (⟨g, o + j, none⟩ : Addr).block < _ from hg)]; exact hcell j _ (I64_get l j hjl)
      have hb2 := HI.out l[j] (List.getElem_mem _)
      have hb3 := partE_len enc l 9 j (fun x _ => (enc_le x).2) (by have := HN.out; omega)
      rw [← HK.out] at hb3
      have HP := Lib.hid (partE_succ enc l j hjl)
      obtain ⟨x, hx⟩ : ∃ x, x = l[j] := ⟨_, rfl⟩
      rw [← hx] at hcj hb2 HP
      have he9 := enc_le x
      obtain ⟨L, hL⟩ : ∃ L, L = (enc x).length := ⟨_, rfl⟩
      rw [← hL] at he9
      have HL := Lib.hid hL
      clear hcell hx hL
      go_wp2_with (first
        | (go_at_call 31; refine (rint_any _ _ hb2.1 hb2.2).mono ?_; rintro e w2 ⟨v2, rfl, ho2, hb2'⟩; obtain ⟨A2, c2, rfl, _, hn2, hrd2⟩ := own_form ho2; have HRD := Lib.hid hrd2; have HNL := Lib.hid hn2; have HB2 := Lib.hid hb2'; clear ho2 hb2' hrd2 hn2; rw [← HL.out])
        | (at_builtin; refine wpList_append_rd rfl (.tmp 14) (.tmp 19) rfl w.heap.size _ k _ rfl (own_below HO.out HB2.out) A2 L c2 _ (enc x) rfl HNL.out HL.out.symm HRD.out (by omega) (Nat.le_trans HB.out.size HB2.out.size) ?_; intro v3 w3 ho3 hg3; have HO3 := Lib.hid ho3; have HB3 := Lib.hid ((HB.out.trans (HB2.out.mono HB.out.size)).grown hg3 (Nat.le_trans HB.out.size HB2.out.size) (fun q hq => (HO.out.lt q hq).1)); clear ho3 hg3))
      go_roundw
      case rel =>
        refine ⟨j + 1, k + L, hlt, by go_num, Lib.hid (by rw [HP.out, List.length_append, ← HK.out, ← HL.out]), Lib.hid ?_, HB3⟩
        have := HO3.out
        rw [← B8_append] at this
        rw [HP.out]
        exact this
      case measure => simp only [intOf]; omega
    · obtain rfl : j = N := by omega
      go_wp2_with fail
      go_ret
      refine ⟨_, rfl, ?_, HB.out⟩
      have h := HO.out
      rw [HK.out, HN.out, partE_all] at h
      exact h

set_option maxHeartbeats 400000 in
/-- The reference's ints of a list just built. -/
theorem rints_new (l : List Int) (n : Nat) (hn : n = l.length) (W0 : World) (g : Nat) (hg : g = W0.heap.size) (hl : n ≤ 1024) (hi : ∀ x ∈ l, okInt x) (E : List UInt8) (hE : Hid (E = encInts l)) (W1 : World) (hW1 : W1 = W0.alloc (.cells (I64 l).toArray 3)) :
    Calls Tryd.prog 51 #[.slice (some ⟨g, 0, none⟩) n n] W1 fun e w' => e = .returned (.string (bs E)) ∧ Below W1.heap.size W1 w' := by
  have hM0 : 0 < E.length := by rw [hE.out]; unfold encInts encList; rw [List.length_append]; have := (enc_le (l.length : Int)).1; omega
  have H : Hid (Calls Tryd.prog 61 #[.slice (some ⟨g, 0, none⟩) n n] W1 fun e w' => ∃ (A' : Option Addr) (c' : Nat), e = .returned (.slice A' E.length c') ∧ Rd w' w'.heap.size A' (B8 E) ∧ Below W1.heap.size W1 w') := Lib.hid (by
    subst hg hn hW1
    rw [hE.out]
    refine (rints_any _ l l.length _ (rd_new W0 (I64 l) 3) (by omega) hi).mono ?_
    rintro e w' ⟨v, rfl, ho, hb⟩
    obtain ⟨A', c', rfl, _, _, h3⟩ := own_form ho
    exact ⟨A', c', rfl, h3, hb⟩)
  obtain ⟨M, hM⟩ : ∃ M, M = E.length := ⟨_, rfl⟩
  rw [← hM] at H hM0
  have HM := Lib.hid hM
  clear hM hg hn hl hi hW1
  go_enter Tryd.func51, Tryd.ntmps51
  go_wp2_with fail
  refine H.out.mono ?_; rintro e w2 ⟨A2, c2, rfl, hr2, hb2⟩
  have hcv := conv_rd A2 E c2 _ w2 hr2 M HM.out hM0
  have B2 := Lib.hid hb2
  clear hr2 hb2
  go_wp2_with fail
  go_ret
  exact ⟨rfl, B2.out⟩
/-- The reference's Of of a list of parts just built. -/
theorem rof_new (tag : Int) (t8 : UInt8) (htag : IntKind.u8.wrap tag = (t8.toNat : Int)) (l : List ByteArray) (n : Nat) (hn : n = l.length) (hs : (inp t8 l).length ≤ 274877906944) (W0 : World) (g : Nat) (hg : g = W0.heap.size) (W1 : World) (hW1 : W1 = W0.alloc (.cells (St l).toArray 9)) (ht : Tab 0 W1) (D : List UInt8) (hD : Hid (D = dof t8 l)) :
    Calls Tryd.prog 36 #[.int .i64 tag, .slice (some ⟨g, 0, none⟩) n n] W1 fun e w' => e = .returned (.agg (B8 D).toArray) ∧ Below W1.heap.size W1 w' := by
  subst hg hn hW1
  rw [hD.out]
  exact rof_go tag (some ⟨W0.heap.size, 0, none⟩) l l.length _ (rd_new W0 (St l) 9) t8 htag hs ht _ (Lib.hid rfl)

/-- The first bytes laid. -/
def dfill (l : List UInt8) (j : Nat) : List UInt8 := l.take j ++ List.replicate (16 - j) 0
theorem dfill_at (l : List UInt8) (j : Nat) (hl : 16 ≤ l.length) (h : j < 16) : (B8 (dfill l j))[j]? = some (.int .u8 0) := by
  unfold B8 dfill
  rw [List.getElem?_map, List.getElem?_append_right (by simp; omega)]
  simp [List.getElem?_replicate]
  omega
theorem dfill_set (l : List UInt8) (j : Nat) (hl : 16 ≤ l.length) (h : j < 16) (c : UInt8) (hc : l[j]? = some c) : (B8 (dfill l j)).set j (.int .u8 (c.toNat : Int)) = B8 (dfill l (j + 1)) := by
  obtain ⟨h1, rfl⟩ := List.getElem?_eq_some_iff.1 hc
  unfold B8 dfill
  have e : 16 - j = (16 - (j + 1)) + 1 := by omega
  rw [List.take_succ_eq_append_getElem h1, e, List.replicate_succ, List.map_append, List.set_append_right _ _ (by simp; omega)]
  have e2 : j - (List.map (fun c : UInt8 => Value.int .u8 (c.toNat : Int)) (l.take j)).length = 0 := by simp; omega
  rw [e2, List.map_cons, List.set_cons_zero]
  simp only [List.map_append, List.map_cons, List.append_assoc, List.cons_append, List.nil_append]
theorem dfill_end (l : List UInt8) : dfill l 16 = l.take 16 := by simp [dfill]

set_option maxHeartbeats 2000000 in
theorem rdigest_any (s : ByteArray) (w : World) (hs : 16 ≤ s.size) (hs2 : s.size ≤ 9223372036854775807) (R : List UInt8) (hR : Hid (R = s.data.toList.take 16)) :
    Calls Tryd.prog 42 #[.string s] w fun e w' => e = .returned (.agg (B8 R).toArray) ∧ Below w.heap.size w w' := by
  have hl : 16 ≤ s.data.toList.length := by rw [size_l]; exact hs
  have HRl := Lib.hid (show R.length = 16 by rw [hR.out, List.length_take]; omega)
  have HL := Lib.hid hl
  have hZ := hZ16
  have KS := Lib.hid (show Blk ((w.alloc (.cells Z16.toArray 23)).alloc (.cells Z16.toArray 23)) w.heap.size 23 Z16 ∧ Blk ((w.alloc (.cells Z16.toArray 23)).alloc (.cells Z16.toArray 23)) (w.heap.size + 1) 23 (B8 (dfill s.data.toList 0)) ∧ Below w.heap.size w ((w.alloc (.cells Z16.toArray 23)).alloc (.cells Z16.toArray 23)) from ⟨(Blk.new w 23 Z16).alloc _, Blk.newAt _ _ 23 Z16 (by simp), ((Below.refl _ _).alloc (Nat.le_refl _) _).alloc (by simp) _⟩)
  clear hl
  go_enter Tryd.func42, Tryd.ntmps42
  go_wp2_with fail
  go_loopw [4] (fun s4 wr => ∃ j : Nat, j ≤ 16 ∧ s4 = .int .i64 (j : Int) ∧ Hid (Blk wr w.heap.size 23 Z16) ∧ Hid (Blk wr (w.heap.size + 1) 23 (B8 (dfill s.data.toList j))) ∧ Hid (Below w.heap.size w wr))
    (fun s4 _ => 16 - (intOf s4).toNat)
  case atStart => exact ⟨0, by omega, rfl, Lib.hid KS.out.1, Lib.hid KS.out.2.1, Lib.hid KS.out.2.2⟩
  case round =>
  obtain ⟨j, hj, rfl, hz, hd, hb⟩ := hrel
  clear KS
  by_cases hlt : j < 16
  · have hjs : j < s.size := by omega
    obtain ⟨x, hx⟩ : ∃ x, x = s[j] := ⟨_, rfl⟩
    have hxl : s.data.toList[j]? = some x := by
      rw [hx, List.getElem?_eq_getElem (by rw [size_l]; exact hjs)]; rfl
    have HSt := Lib.hid (dfill_set s.data.toList j HL.out hlt x hxl)
    have c2 : wr.cell? ⟨w.heap.size + 1, j, none⟩ = some (.int .u8 0) := by rw [hd.out.cell]; exact dfill_at _ j HL.out hlt
    have f2 : wr.frozen? ⟨w.heap.size + 1, j, none⟩ = false := hd.out.frozen j
    have HXx := Lib.hid hx
    clear hxl hx
    go_wp2_with fail
    go_roundw
    case rel =>
      refine ⟨j + 1, by omega, by go_num, Lib.hid (hz.out.far (by simp) _), Lib.hid ?_, Lib.hid (hb.out.setCell (by simp) _)⟩
      have := hd.out.put j (.int .u8 (x.toNat : Int))
      rw [HSt.out, HXx.out] at this
      exact this
    case measure => simp only [intOf]; omega
  · obtain rfl : j = 16 := by omega
    have hd2 := hd.out
    rw [dfill_end, ← hR.out] at hd2
    have HLD := Lib.hid hd2.at
    have HZ := Lib.hid (show wr.heap[w.heap.size]? = some (.cells Z16.toArray 23 (0, 0)) from hz.out)
    clear hd2 hd
    go_wp2_with (first
      | (with_reducible refine wpList_load_at rfl 23 (.tmp 3) rfl ⟨w.heap.size + 1, 0, none⟩ rfl (B8 R) (.array 16 5) HLD.out Tryd.underlying23 rfl (size23 _ HRl.out) ?_)
      | (with_reducible refine wpList_store_row rfl 23 (.tmp 2) (.tmp 14) rfl w.heap.size (B8 R).toArray rfl rfl 23 _ HZ.out (size23' _ HRl.out) (Z16_size _ HRl.out) (one8 _) ?_))
    refine bodyPost_ret (v := .agg (B8 R).toArray) ?_ rfl ⟨rfl, belowRow hb.out (Nat.le_refl _) _⟩
    have hr := run_loadVar_row (P := Tryd.prog) _ w.heap.size 23 23 (B8 R).toArray (0, 0) (.array 16 5) (heap_setRow wr w.heap.size (B8 R).toArray _ 23 HZ.out) Tryd.underlying23 rfl (size23' _ HRl.out)
    simp [results, asAddr, hr, Act.put]

set_option maxHeartbeats 4000000 in
theorem radvance_any (v : List UInt8) (i c F T : Int) (k : Nat) (w : World) (hv : v.length = 16) (hi : okInt i) (hc : okInt c) (hF0 : 0 ≤ F) (hT : Hid (T = F + (k : Int))) (hT1 : T ≤ 1000) (ht : Tab 0 w) (RF : List UInt8) (hR : Hid (RF = adv i c F v k)) :
    Calls Tryd.prog 33 #[.int .i64 i, .int .i64 c, .int .i64 F, .int .i64 T, .agg (B8 v).toArray] w fun e w' => e = .returned (.agg (B8 RF).toArray) ∧ Below w.heap.size w w' := by
  have hTa : T ≤ F + (k : Int) := by have := hT.out; omega
  have hTb : F + (k : Int) ≤ T := by have := hT.out; omega
  have HV := Lib.hid hv
  have HRl0 := Lib.hid (show RF.length = 16 by rw [hR.out]; exact adv_len _ _ _ _ hv _)
  have HTab := Lib.hid ht
  have HOI := Lib.hid (And.intro hi hc)
  have hZ := hZ16
  have KS := Lib.hid (show Keep w (adv i c F v 0) ((w.alloc (.cells (B8 v).toArray 23)).alloc (.cells Z16.toArray 23)) from ⟨(Blk.new w 23 (B8 v)).alloc _, Blk.newAt _ _ 23 Z16 (by simp), ((Below.refl _ _).alloc (Nat.le_refl _) _).alloc (by simp) _⟩)
  have HRR := hR
  clear hv hi hc ht hR
  go_enter Tryd.func33, Tryd.ntmps33
  go_wp2_with fail
  go_loopw [11] (fun s11 wr => ∃ j : Nat, j ≤ k ∧ s11 = .int .i64 (F + (j : Int)) ∧ Keep w (adv i c F v j) wr)
    (fun s11 _ => (T - intOf s11).toNat)
  case atStart => exact ⟨0, by omega, by simp, KS.out⟩
  case round =>
  obtain ⟨j, hj, rfl, hkp⟩ := hrel
  clear KS
  by_cases hlt : j < k
  · have hlt2 : F + (j : Int) < T := by omega
    obtain ⟨D, hD⟩ : ∃ D, D = adv i c F v j := ⟨_, rfl⟩
    rw [← hD] at hkp
    obtain ⟨E, hE⟩ : ∃ E, E = encInts [i, c, F + (j : Int)] := ⟨_, rfl⟩
    obtain ⟨M, hM⟩ : ∃ M, M = E.length := ⟨_, rfl⟩
    have hM1 : M ≤ 36 := by rw [hM, hE]; exact ints_le _
    have hM0 : 0 < M := by rw [hM, hE]; unfold encInts encList; rw [List.length_append]; have := (enc_le (([i, c, F + (j : Int)] : List Int).length : Int)).1; omega
    have HDl := Lib.hid (show D.length = 16 by rw [hD]; exact adv_len _ _ _ _ HV.out _)
    have HE := Lib.hid hE
    have HM := Lib.hid hM
    have HO := Lib.hid (ok3 HOI.out.1 HOI.out.2 (show okInt (F + (j : Int)) from ⟨by omega, by omega⟩))
    have HI := Lib.hid (inp_2 1 E D (by rw [← hM]; omega) (by rw [HDl.out]; omega))
    obtain ⟨R, hR'⟩ : ∃ R, R = dof 1 [bs E, bs D] := ⟨_, rfl⟩
    have HRA := Lib.hid (show R = adv i c F v (j + 1) by rw [hR', hE, hD]; rfl)
    have HR := Lib.hid hR'
    have HRl := Lib.hid (show R.length = 16 by rw [hR']; exact dof_len _ _)
    have HT := HTab
    clear hD hE hM hR'
    go_wp2_with fail
    refine wp_region_any (by kernel_rfl) ?_
    change wpAny _ _ _ _ _ _ _ (World.drew wr)
    have k0 : Keep w D (World.drew wr) := hkp.drew
    generalize World.drew wr = Wd at k0 ⊢
    refine wpAny_take (i := 0) (oi := { dst := some 18, op := Op.move (Operand.tmp 0), type := 3, pos := "ref.go:40", after := #[], guard := none }) (v := .int .i64 i) rfl (by kernel_rfl) (by kernel_rfl) (by kernel_rfl) (fun _ _ _ h => h) (Or.inl ⟨by rfl, fun W => ?y0⟩) ?_
    case y0 => go_simp
    try dsimp only [Act.put]
    try simp only [List.setIfInBounds_toArray, List.set_cons_zero, List.set_cons_succ]
    refine wpAny_take (i := 1) (oi := { dst := some 19, op := Op.move (Operand.tmp 1), type := 3, pos := "ref.go:40", after := #[], guard := none }) (v := .int .i64 c) rfl (by kernel_rfl) (by kernel_rfl) (by kernel_rfl) (fun _ _ _ h => h) (Or.inl ⟨by rfl, fun W => ?y1⟩) ?_
    case y1 => go_simp
    try dsimp only [Act.put]
    try simp only [List.setIfInBounds_toArray, List.set_cons_zero, List.set_cons_succ]
    refine wpAny_take (i := 2) (oi := { dst := some 20, op := Op.move (Operand.tmp 11), type := 3, pos := "ref.go:40", after := #[], guard := none }) (v := .int .i64 (F + (j : Int))) rfl (by kernel_rfl) (by kernel_rfl) (by kernel_rfl) (fun _ _ _ h => h) (Or.inl ⟨by rfl, fun W => ?y2⟩) ?_
    case y2 => go_simp
    try dsimp only [Act.put]
    try simp only [List.setIfInBounds_toArray, List.set_cons_zero, List.set_cons_succ]
    refine wpAny_ready (rs := [3, 5]) (by kernel_rfl) (by simp) ?_
    refine AllReady.cons (o := { dst := some 21, op := Op.buildSlice 25 3 #[(0, Operand.tmp 18), (1, Operand.tmp 19), (2, Operand.tmp 20)], type := 25, pos := "ref.go:40", after := #[{ on := 0, ground := Ground.data }, { on := 1, ground := Ground.data }, { on := 2, ground := Ground.data }], guard := none }) rfl (fun K hK => ?_) (AllReady.cons (o := { dst := some 23, op := Op.load 23 (Operand.tmp 9), type := 23, pos := "ref.go:40", after := #[], guard := none }) rfl (fun K hK => ?_) AllReady.nil)
    · rw [if_pos (by rfl)]
      have k1 := k0.alloc (.cells #[.int .i64 i, .int .i64 c, .int .i64 (F + (j : Int))] 3)
      go_simp
      (try (refine hK _ _ ?_; clear hK K))
      try dsimp only [Act.put]
      try simp only [List.setIfInBounds_toArray, List.set_cons_zero, List.set_cons_succ]
      refine wpAny_ready (rs := [4, 5]) (by kernel_rfl) (by simp) ?_
      refine AllReady.cons (o := { dst := some 22, op := Op.call { callee := Callee.value (Operand.func 51), args := #[Operand.tmp 21], argTypes := #[25] }, type := 9, pos := "ref.go:40", after := #[{ on := 3, ground := Ground.data }], guard := none }) rfl (fun K hK => ?_) (AllReady.cons (o := { dst := some 23, op := Op.load 23 (Operand.tmp 9), type := 23, pos := "ref.go:40", after := #[], guard := none }) rfl (fun K hK => ?_) AllReady.nil)
      · rw [if_pos (by rfl)]
        go_simp
        refine (rints_new [i, c, F + (j : Int)] 3 rfl Wd _ rfl (by omega) HO.out E HE _ rfl).mono ?_; rintro e w2 ⟨rfl, hb2⟩
        have k2 := k1.below hb2
        clear hb2
        go_wp2_with fail
        (try (refine hK _ _ ?_; clear hK K))
        try dsimp only [Act.put]
        try simp only [List.setIfInBounds_toArray, List.set_cons_zero, List.set_cons_succ]
        refine wpAny_ready (rs := [5]) (by kernel_rfl) (by simp) ?_
        refine AllReady.cons (o := { dst := some 23, op := Op.load 23 (Operand.tmp 9), type := 23, pos := "ref.go:40", after := #[], guard := none }) rfl (fun K hK => ?_) AllReady.nil
        rw [if_pos (by rfl)]
        refine wp_load_at 23 (.tmp 9) rfl ⟨w.heap.size, 0, none⟩ rfl (B8 D) (.array 16 5) k2.d.at Tryd.underlying23 rfl (size23 _ HDl.out) ?_
        refine hK _ _ ?_
        clear hK K
        try dsimp only [Act.put]
        try simp only [List.setIfInBounds_toArray, List.set_cons_zero, List.set_cons_succ]
        refine wpAny_ready (rs := [6]) (by kernel_rfl) (by simp) ?_
        refine AllReady.cons (o := { dst := some 24, op := Op.call { callee := Callee.value (Operand.func 32), args := #[Operand.tmp 23], argTypes := #[23] }, type := 9, pos := "ref.go:40", after := #[{ on := 5, ground := Ground.data }, { on := 4, ground := Ground.chain }], guard := none }) rfl (fun K hK => ?_) AllReady.nil
        rw [if_pos (by rfl)]
        go_simp
        refine (text_any D w2 HDl.out).mono ?_; rintro e w3 ⟨rfl, hb3⟩
        have k2b := k2.below hb3
        clear hb3
        go_wp2_with fail
        (try (refine hK _ _ ?_; clear hK K))
        try dsimp only [Act.put]
        try simp only [List.setIfInBounds_toArray, List.set_cons_zero, List.set_cons_succ]
        refine wpAny_ready (rs := [7]) (by kernel_rfl) (by simp) ?_
        refine AllReady.cons (o := { dst := some 25, op := Op.buildSlice 62 2 #[(0, Operand.tmp 22), (1, Operand.tmp 24)], type := 62, pos := "ref.go:40", after := #[{ on := 4, ground := Ground.data }, { on := 6, ground := Ground.data }], guard := none }) rfl (fun K hK => ?_) AllReady.nil
        rw [if_pos (by rfl)]
        go_simp
        (try (refine hK _ _ ?_; clear hK K))
        try dsimp only [Act.put]
        try simp only [List.setIfInBounds_toArray, List.set_cons_zero, List.set_cons_succ]
        refine wpAny_ready (rs := [8]) (by kernel_rfl) (by simp) ?_
        refine AllReady.cons (o := { dst := some 26, op := Op.call { callee := Callee.value (Operand.func 36), args := #[Operand.const (Value.int IntKind.i64 1), Operand.tmp 25], argTypes := #[3, 62] }, type := 23, pos := "ref.go:40", after := #[{ on := 7, ground := Ground.data }, { on := 6, ground := Ground.chain }], guard := none }) rfl (fun K hK => ?_) AllReady.nil
        rw [if_pos (by rfl)]
        go_simp
        have k3 := k2b.alloc (.cells #[.string (bs E), .string (bs D)] 9)
        refine (rof_new 1 1 (by rfl) [bs E, bs D] 2 rfl HI.out w3 _ rfl _ rfl (HT.out.below k3.b HT.out.1) R HR).mono ?_; rintro e w5 ⟨rfl, hb5⟩
        have k5 := k3.below hb5
        have K5 : w5.heap[w.heap.size]? = some (.cells (B8 D).toArray 23 (0, 0)) := k5.d
        clear hb5 k3
        go_wp2_with fail
        (try (refine hK _ _ ?_; clear hK K))
        try dsimp only [Act.put]
        try simp only [List.setIfInBounds_toArray, List.set_cons_zero, List.set_cons_succ]
        refine wpAny_ready (rs := [9]) (by kernel_rfl) (by simp) ?_
        refine AllReady.cons (o := { dst := none, op := Op.store 23 (Operand.tmp 9) (Operand.tmp 26), type := 0, pos := "ref.go:40", after := #[{ on := 8, ground := Ground.data }, { on := 8, ground := Ground.chain }, { on := 0, ground := Ground.phase }, { on := 1, ground := Ground.phase }, { on := 2, ground := Ground.phase }, { on := 3, ground := Ground.phase }, { on := 4, ground := Ground.phase }, { on := 5, ground := Ground.phase }, { on := 6, ground := Ground.phase }, { on := 7, ground := Ground.phase }, { on := 8, ground := Ground.phase }], guard := none }) rfl (fun K hK => ?_) AllReady.nil
        rw [if_pos (by rfl)]
        refine wp_store_row 23 (.tmp 9) (.tmp 26) rfl w.heap.size (B8 R).toArray rfl rfl 23 _ K5 (size23' _ HRl.out) (by rw [List.size_toArray, List.size_toArray, B8_len, B8_len, HRl.out, HDl.out]) (one8 _) ?_
        have X : Keep w (adv i c F v (j + 1)) (w5.setRow w.heap.size (B8 R).toArray) := by rw [← HRA.out]; exact k5.row R
        refine hK _ _ ?_
        clear hK K
        refine wpAny_done (by kernel_rfl) ?_ _
        try dsimp only [Act.put]
        try simp only [List.setIfInBounds_toArray, List.set_cons_zero, List.set_cons_succ]
        go_wp2_with fail
        go_roundw
        case rel => exact ⟨j + 1, by omega, by rw [Int.natCast_add, Int.natCast_one, Int.add_assoc], X⟩
        case measure => simp only [intOf]; omega
      · rw [if_pos (by rfl)]
        refine wp_load_at 23 (.tmp 9) rfl ⟨w.heap.size, 0, none⟩ rfl (B8 D) (.array 16 5) k1.d.at Tryd.underlying23 rfl (size23 _ HDl.out) ?_
        refine hK _ _ ?_
        clear hK K
        try dsimp only [Act.put]
        try simp only [List.setIfInBounds_toArray, List.set_cons_zero, List.set_cons_succ]
        refine wpAny_ready (rs := [4]) (by kernel_rfl) (by simp) ?_
        refine AllReady.cons (o := { dst := some 22, op := Op.call { callee := Callee.value (Operand.func 51), args := #[Operand.tmp 21], argTypes := #[25] }, type := 9, pos := "ref.go:40", after := #[{ on := 3, ground := Ground.data }], guard := none }) rfl (fun K hK => ?_) AllReady.nil
        rw [if_pos (by rfl)]
        go_simp
        refine (rints_new [i, c, F + (j : Int)] 3 rfl Wd _ rfl (by omega) HO.out E HE _ rfl).mono ?_; rintro e w2 ⟨rfl, hb2⟩
        have k2 := k1.below hb2
        clear hb2
        go_wp2_with fail
        (try (refine hK _ _ ?_; clear hK K))
        try dsimp only [Act.put]
        try simp only [List.setIfInBounds_toArray, List.set_cons_zero, List.set_cons_succ]
        refine wpAny_ready (rs := [6]) (by kernel_rfl) (by simp) ?_
        refine AllReady.cons (o := { dst := some 24, op := Op.call { callee := Callee.value (Operand.func 32), args := #[Operand.tmp 23], argTypes := #[23] }, type := 9, pos := "ref.go:40", after := #[{ on := 5, ground := Ground.data }, { on := 4, ground := Ground.chain }], guard := none }) rfl (fun K hK => ?_) AllReady.nil
        rw [if_pos (by rfl)]
        go_simp
        refine (text_any D w2 HDl.out).mono ?_; rintro e w3 ⟨rfl, hb3⟩
        have k2b := k2.below hb3
        clear hb3
        go_wp2_with fail
        (try (refine hK _ _ ?_; clear hK K))
        try dsimp only [Act.put]
        try simp only [List.setIfInBounds_toArray, List.set_cons_zero, List.set_cons_succ]
        refine wpAny_ready (rs := [7]) (by kernel_rfl) (by simp) ?_
        refine AllReady.cons (o := { dst := some 25, op := Op.buildSlice 62 2 #[(0, Operand.tmp 22), (1, Operand.tmp 24)], type := 62, pos := "ref.go:40", after := #[{ on := 4, ground := Ground.data }, { on := 6, ground := Ground.data }], guard := none }) rfl (fun K hK => ?_) AllReady.nil
        rw [if_pos (by rfl)]
        go_simp
        (try (refine hK _ _ ?_; clear hK K))
        try dsimp only [Act.put]
        try simp only [List.setIfInBounds_toArray, List.set_cons_zero, List.set_cons_succ]
        refine wpAny_ready (rs := [8]) (by kernel_rfl) (by simp) ?_
        refine AllReady.cons (o := { dst := some 26, op := Op.call { callee := Callee.value (Operand.func 36), args := #[Operand.const (Value.int IntKind.i64 1), Operand.tmp 25], argTypes := #[3, 62] }, type := 23, pos := "ref.go:40", after := #[{ on := 7, ground := Ground.data }, { on := 6, ground := Ground.chain }], guard := none }) rfl (fun K hK => ?_) AllReady.nil
        rw [if_pos (by rfl)]
        go_simp
        have k3 := k2b.alloc (.cells #[.string (bs E), .string (bs D)] 9)
        refine (rof_new 1 1 (by rfl) [bs E, bs D] 2 rfl HI.out w3 _ rfl _ rfl (HT.out.below k3.b HT.out.1) R HR).mono ?_; rintro e w5 ⟨rfl, hb5⟩
        have k5 := k3.below hb5
        have K5 : w5.heap[w.heap.size]? = some (.cells (B8 D).toArray 23 (0, 0)) := k5.d
        clear hb5 k3
        go_wp2_with fail
        (try (refine hK _ _ ?_; clear hK K))
        try dsimp only [Act.put]
        try simp only [List.setIfInBounds_toArray, List.set_cons_zero, List.set_cons_succ]
        refine wpAny_ready (rs := [9]) (by kernel_rfl) (by simp) ?_
        refine AllReady.cons (o := { dst := none, op := Op.store 23 (Operand.tmp 9) (Operand.tmp 26), type := 0, pos := "ref.go:40", after := #[{ on := 8, ground := Ground.data }, { on := 8, ground := Ground.chain }, { on := 0, ground := Ground.phase }, { on := 1, ground := Ground.phase }, { on := 2, ground := Ground.phase }, { on := 3, ground := Ground.phase }, { on := 4, ground := Ground.phase }, { on := 5, ground := Ground.phase }, { on := 6, ground := Ground.phase }, { on := 7, ground := Ground.phase }, { on := 8, ground := Ground.phase }], guard := none }) rfl (fun K hK => ?_) AllReady.nil
        rw [if_pos (by rfl)]
        refine wp_store_row 23 (.tmp 9) (.tmp 26) rfl w.heap.size (B8 R).toArray rfl rfl 23 _ K5 (size23' _ HRl.out) (by rw [List.size_toArray, List.size_toArray, B8_len, B8_len, HRl.out, HDl.out]) (one8 _) ?_
        have X : Keep w (adv i c F v (j + 1)) (w5.setRow w.heap.size (B8 R).toArray) := by rw [← HRA.out]; exact k5.row R
        refine hK _ _ ?_
        clear hK K
        refine wpAny_done (by kernel_rfl) ?_ _
        try dsimp only [Act.put]
        try simp only [List.setIfInBounds_toArray, List.set_cons_zero, List.set_cons_succ]
        go_wp2_with fail
        go_roundw
        case rel => exact ⟨j + 1, by omega, by rw [Int.natCast_add, Int.natCast_one, Int.add_assoc], X⟩
        case measure => simp only [intOf]; omega
    · rw [if_pos (by rfl)]
      refine wp_load_at 23 (.tmp 9) rfl ⟨w.heap.size, 0, none⟩ rfl (B8 D) (.array 16 5) k0.d.at Tryd.underlying23 rfl (size23 _ HDl.out) ?_
      refine hK _ _ ?_
      clear hK K
      try dsimp only [Act.put]
      try simp only [List.setIfInBounds_toArray, List.set_cons_zero, List.set_cons_succ]
      refine wpAny_ready (rs := [3]) (by kernel_rfl) (by simp) ?_
      refine AllReady.cons (o := { dst := some 21, op := Op.buildSlice 25 3 #[(0, Operand.tmp 18), (1, Operand.tmp 19), (2, Operand.tmp 20)], type := 25, pos := "ref.go:40", after := #[{ on := 0, ground := Ground.data }, { on := 1, ground := Ground.data }, { on := 2, ground := Ground.data }], guard := none }) rfl (fun K hK => ?_) AllReady.nil
      rw [if_pos (by rfl)]
      have k1 := k0.alloc (.cells #[.int .i64 i, .int .i64 c, .int .i64 (F + (j : Int))] 3)
      go_simp
      (try (refine hK _ _ ?_; clear hK K))
      try dsimp only [Act.put]
      try simp only [List.setIfInBounds_toArray, List.set_cons_zero, List.set_cons_succ]
      refine wpAny_ready (rs := [4]) (by kernel_rfl) (by simp) ?_
      refine AllReady.cons (o := { dst := some 22, op := Op.call { callee := Callee.value (Operand.func 51), args := #[Operand.tmp 21], argTypes := #[25] }, type := 9, pos := "ref.go:40", after := #[{ on := 3, ground := Ground.data }], guard := none }) rfl (fun K hK => ?_) AllReady.nil
      rw [if_pos (by rfl)]
      go_simp
      refine (rints_new [i, c, F + (j : Int)] 3 rfl Wd _ rfl (by omega) HO.out E HE _ rfl).mono ?_; rintro e w2 ⟨rfl, hb2⟩
      have k2 := k1.below hb2
      clear hb2
      go_wp2_with fail
      (try (refine hK _ _ ?_; clear hK K))
      try dsimp only [Act.put]
      try simp only [List.setIfInBounds_toArray, List.set_cons_zero, List.set_cons_succ]
      refine wpAny_ready (rs := [6]) (by kernel_rfl) (by simp) ?_
      refine AllReady.cons (o := { dst := some 24, op := Op.call { callee := Callee.value (Operand.func 32), args := #[Operand.tmp 23], argTypes := #[23] }, type := 9, pos := "ref.go:40", after := #[{ on := 5, ground := Ground.data }, { on := 4, ground := Ground.chain }], guard := none }) rfl (fun K hK => ?_) AllReady.nil
      rw [if_pos (by rfl)]
      go_simp
      refine (text_any D w2 HDl.out).mono ?_; rintro e w3 ⟨rfl, hb3⟩
      have k2b := k2.below hb3
      clear hb3
      go_wp2_with fail
      (try (refine hK _ _ ?_; clear hK K))
      try dsimp only [Act.put]
      try simp only [List.setIfInBounds_toArray, List.set_cons_zero, List.set_cons_succ]
      refine wpAny_ready (rs := [7]) (by kernel_rfl) (by simp) ?_
      refine AllReady.cons (o := { dst := some 25, op := Op.buildSlice 62 2 #[(0, Operand.tmp 22), (1, Operand.tmp 24)], type := 62, pos := "ref.go:40", after := #[{ on := 4, ground := Ground.data }, { on := 6, ground := Ground.data }], guard := none }) rfl (fun K hK => ?_) AllReady.nil
      rw [if_pos (by rfl)]
      go_simp
      (try (refine hK _ _ ?_; clear hK K))
      try dsimp only [Act.put]
      try simp only [List.setIfInBounds_toArray, List.set_cons_zero, List.set_cons_succ]
      refine wpAny_ready (rs := [8]) (by kernel_rfl) (by simp) ?_
      refine AllReady.cons (o := { dst := some 26, op := Op.call { callee := Callee.value (Operand.func 36), args := #[Operand.const (Value.int IntKind.i64 1), Operand.tmp 25], argTypes := #[3, 62] }, type := 23, pos := "ref.go:40", after := #[{ on := 7, ground := Ground.data }, { on := 6, ground := Ground.chain }], guard := none }) rfl (fun K hK => ?_) AllReady.nil
      rw [if_pos (by rfl)]
      go_simp
      have k3 := k2b.alloc (.cells #[.string (bs E), .string (bs D)] 9)
      refine (rof_new 1 1 (by rfl) [bs E, bs D] 2 rfl HI.out w3 _ rfl _ rfl (HT.out.below k3.b HT.out.1) R HR).mono ?_; rintro e w5 ⟨rfl, hb5⟩
      have k5 := k3.below hb5
      have K5 : w5.heap[w.heap.size]? = some (.cells (B8 D).toArray 23 (0, 0)) := k5.d
      clear hb5 k3
      go_wp2_with fail
      (try (refine hK _ _ ?_; clear hK K))
      try dsimp only [Act.put]
      try simp only [List.setIfInBounds_toArray, List.set_cons_zero, List.set_cons_succ]
      refine wpAny_ready (rs := [9]) (by kernel_rfl) (by simp) ?_
      refine AllReady.cons (o := { dst := none, op := Op.store 23 (Operand.tmp 9) (Operand.tmp 26), type := 0, pos := "ref.go:40", after := #[{ on := 8, ground := Ground.data }, { on := 8, ground := Ground.chain }, { on := 0, ground := Ground.phase }, { on := 1, ground := Ground.phase }, { on := 2, ground := Ground.phase }, { on := 3, ground := Ground.phase }, { on := 4, ground := Ground.phase }, { on := 5, ground := Ground.phase }, { on := 6, ground := Ground.phase }, { on := 7, ground := Ground.phase }, { on := 8, ground := Ground.phase }], guard := none }) rfl (fun K hK => ?_) AllReady.nil
      rw [if_pos (by rfl)]
      refine wp_store_row 23 (.tmp 9) (.tmp 26) rfl w.heap.size (B8 R).toArray rfl rfl 23 _ K5 (size23' _ HRl.out) (by rw [List.size_toArray, List.size_toArray, B8_len, B8_len, HRl.out, HDl.out]) (one8 _) ?_
      have X : Keep w (adv i c F v (j + 1)) (w5.setRow w.heap.size (B8 R).toArray) := by rw [← HRA.out]; exact k5.row R
      refine hK _ _ ?_
      clear hK K
      refine wpAny_done (by kernel_rfl) ?_ _
      try dsimp only [Act.put]
      try simp only [List.setIfInBounds_toArray, List.set_cons_zero, List.set_cons_succ]
      go_wp2_with fail
      go_roundw
      case rel => exact ⟨j + 1, by omega, by rw [Int.natCast_add, Int.natCast_one, Int.add_assoc], X⟩
      case measure => simp only [intOf]; omega
  · obtain rfl : j = k := by omega
    rw [← HRR.out] at hkp
    have HLD := Lib.hid hkp.d.at
    have HZR := Lib.hid (show wr.heap[w.heap.size + 1]? = some (.cells Z16.toArray 23 (0, 0)) from hkp.z)
    have hlt2 : ¬ F + (j : Int) < T := by omega
    go_wp2_with (first
      | (with_reducible refine wpList_load_at rfl 23 (.tmp 9) rfl ⟨w.heap.size, 0, none⟩ rfl (B8 RF) (.array 16 5) HLD.out Tryd.underlying23 rfl (size23 _ HRl0.out) ?_)
      | (with_reducible refine wpList_store_row rfl 23 (.tmp 10) (.tmp 27) rfl (w.heap.size + 1) (B8 RF).toArray rfl rfl 23 _ HZR.out (size23' _ HRl0.out) (Z16_size _ HRl0.out) (one8 _) ?_))
    refine bodyPost_ret (v := .agg (B8 RF).toArray) ?_ rfl ⟨rfl, belowRow hkp.b (by omega) _⟩
    have hr := run_loadVar_row (P := Tryd.prog) _ (w.heap.size + 1) 23 23 (B8 RF).toArray (0, 0) (.array 16 5) (heap_setRow wr (w.heap.size + 1) (B8 RF).toArray _ 23 HZR.out) Tryd.underlying23 rfl (size23' _ HRl0.out)
    simp [results, Tryd.results33, asAddr, hr]

set_option maxHeartbeats 1000000 in
theorem rnode_any (a b : List UInt8) (w : World) (ha : a.length = 16) (hb : b.length = 16) (ht : Tab 0 w) (R : List UInt8) (hR : Hid (R = nodeOf a b)) :
    Calls Tryd.prog 43 #[.agg (B8 a).toArray, .agg (B8 b).toArray] w fun e w' => e = .returned (.agg (B8 R).toArray) ∧ Below w.heap.size w w' := by
  have HI := Lib.hid (inp_2 4 a b (by omega) (by omega))
  have HT := Lib.hid ht
  have HA := Lib.hid ha
  have HBl := Lib.hid hb
  have HRl := Lib.hid (show R.length = 16 by rw [hR.out]; exact dof_len _ _)
  have HRn := Lib.hid (show R = dof 4 [bs a, bs b] by rw [hR.out]; rfl)
  have hZ := hZ16
  obtain ⟨W1, hW1⟩ : ∃ W, W = ((w.alloc (.cells (B8 a).toArray 23)).alloc (.cells (B8 b).toArray 23)).alloc (.cells Z16.toArray 23) := ⟨_, rfl⟩
  have K1 := Lib.hid (show Blk W1 w.heap.size 23 (B8 a) by rw [hW1]; exact ((Blk.new w 23 (B8 a)).alloc _).alloc _)
  have K2 := Lib.hid (show Blk W1 (w.heap.size + 1) 23 (B8 b) by rw [hW1]; exact (Blk.newAt _ _ 23 (B8 b) (by simp)).alloc _)
  have K3 := Lib.hid (show Blk W1 (w.heap.size + 1 + 1) 23 Z16 by rw [hW1]; exact Blk.newAt _ _ 23 Z16 (by simp))
  have B1 := Lib.hid (show Below w.heap.size w W1 by rw [hW1]; exact (((Below.refl _ _).alloc (Nat.le_refl _) _).alloc (by simp) _).alloc (by simp; omega) _)
  have HW := Lib.hid hW1
  clear hW1 ha hb ht hR
  go_enter Tryd.func43, Tryd.ntmps43
  go_wp2_with fail
  rw [← HW.out]
  refine wp_region_held (S := fun W => Blk W w.heap.size 23 (B8 a) ∧ Blk W (w.heap.size + 1) 23 (B8 b)) (by kernel_rfl) ?_
  change wpAnyH _ _ _ _ _ _ _ _ (World.drew W1)
  have hS0 : Blk (World.drew W1) w.heap.size 23 (B8 a) ∧ Blk (World.drew W1) (w.heap.size + 1) 23 (B8 b) := ⟨K1.out, K2.out⟩
  have BD := Lib.hid B1.out.drew
  have KZ : Blk (World.drew W1) (w.heap.size + 1 + 1) 23 Z16 := K3.out
  generalize World.drew W1 = Wd at hS0 BD KZ ⊢
  refine wpAnyH_take (i := 0) (oi := { dst := some 5, op := Op.load 23 (Operand.tmp 2), type := 23, pos := "ref.go:62", after := #[], guard := none }) (v := .agg (B8 a).toArray) rfl (by kernel_rfl) (by kernel_rfl) (by kernel_rfl) (fun _ _ _ h => h) (Or.inl ⟨by rfl, fun W hW => exec_load_row _ _ 23 (.tmp 2) rfl ⟨w.heap.size, 0, none⟩ rfl (B8 a) W (run_loadVar_at W _ 23 (B8 a) (.array 16 5) (Blk.at hW.1) Tryd.underlying23 rfl (size23 _ HA.out))⟩) hS0 ?_
  try dsimp only [Act.put]
  try simp only [List.setIfInBounds_toArray, List.set_cons_zero, List.set_cons_succ]
  refine wpAnyH_take (i := 2) (oi := { dst := some 7, op := Op.load 23 (Operand.tmp 3), type := 23, pos := "ref.go:62", after := #[], guard := none }) (v := .agg (B8 b).toArray) rfl (by kernel_rfl) (by kernel_rfl) (by kernel_rfl) (fun _ _ _ h => h) (Or.inl ⟨by rfl, fun W hW => exec_load_row _ _ 23 (.tmp 3) rfl ⟨w.heap.size + 1, 0, none⟩ rfl (B8 b) W (run_loadVar_at W _ 23 (B8 b) (.array 16 5) (Blk.at hW.2) Tryd.underlying23 rfl (size23 _ HBl.out))⟩) hS0 ?_
  try dsimp only [Act.put]
  try simp only [List.setIfInBounds_toArray, List.set_cons_zero, List.set_cons_succ]
  refine wpAnyH_ready (rs := [1]) (by kernel_rfl) (by simp) ?_
  refine AllReadyH.cons (o := { dst := some 6, op := Op.call { callee := Callee.value (Operand.func 32), args := #[Operand.tmp 5], argTypes := #[23] }, type := 9, pos := "ref.go:62", after := #[{ on := 0, ground := Ground.data }], guard := none }) rfl (fun K hK => ?_) AllReadyH.nil
  rw [if_pos (by rfl)]
  go_simp
  refine (text_any a Wd HA.out).mono ?_; rintro e w2 ⟨rfl, hb2⟩
  have hS2 := And.intro (hS0.1.below hb2 hS0.1.lt) (hS0.2.below hb2 hS0.2.lt)
  have B2 := Lib.hid (BD.out.trans (hb2.mono BD.out.size))
  have KZ2 := KZ.below hb2 KZ.lt
  clear hb2
  go_wp2_with fail
  refine hK.out _ _ hS2 (fun _ => ?_)
  clear hK K
  try dsimp only [Act.put]
  try simp only [List.setIfInBounds_toArray, List.set_cons_zero, List.set_cons_succ]
  refine wpAnyH_ready (rs := [3]) (by kernel_rfl) (by simp) ?_
  refine AllReadyH.cons (o := { dst := some 8, op := Op.call { callee := Callee.value (Operand.func 32), args := #[Operand.tmp 7], argTypes := #[23] }, type := 9, pos := "ref.go:62", after := #[{ on := 2, ground := Ground.data }, { on := 1, ground := Ground.chain }], guard := none }) rfl (fun K hK => ?_) AllReadyH.nil
  rw [if_pos (by rfl)]
  go_simp
  refine (text_any b w2 HBl.out).mono ?_; rintro e w3 ⟨rfl, hb3⟩
  have hS3 := And.intro (hS2.1.below hb3 hS2.1.lt) (hS2.2.below hb3 hS2.2.lt)
  have B3 := Lib.hid (B2.out.trans (hb3.mono B2.out.size))
  have KZ3 := KZ2.below hb3 KZ2.lt
  clear hb3
  go_wp2_with fail
  refine hK.out _ _ hS3 (fun _ => ?_)
  clear hK K
  try dsimp only [Act.put]
  try simp only [List.setIfInBounds_toArray, List.set_cons_zero, List.set_cons_succ]
  refine wpAnyH_ready (rs := [4]) (by kernel_rfl) (by simp) ?_
  refine AllReadyH.cons (o := { dst := some 9, op := Op.buildSlice 62 2 #[(0, Operand.tmp 6), (1, Operand.tmp 8)], type := 62, pos := "ref.go:62", after := #[{ on := 1, ground := Ground.data }, { on := 3, ground := Ground.data }], guard := none }) rfl (fun K hK => ?_) AllReadyH.nil
  rw [if_pos (by rfl)]
  go_simp
  refine hK.out _ _ ⟨hS3.1.alloc _, hS3.2.alloc _⟩ (fun _ => ?_)
  clear hK K
  try dsimp only [Act.put]
  try simp only [List.setIfInBounds_toArray, List.set_cons_zero, List.set_cons_succ]
  refine wpAnyH_ready (rs := [5]) (by kernel_rfl) (by simp) ?_
  refine AllReadyH.cons (o := { dst := some 10, op := Op.call { callee := Callee.value (Operand.func 36), args := #[Operand.const (Value.int IntKind.i64 4), Operand.tmp 9], argTypes := #[3, 62] }, type := 23, pos := "ref.go:62", after := #[{ on := 4, ground := Ground.data }, { on := 3, ground := Ground.chain }], guard := none }) rfl (fun K hK => ?_) AllReadyH.nil
  rw [if_pos (by rfl)]
  go_simp
  have B4 := Lib.hid (B3.out.alloc B3.out.size (.cells #[.string (bs a), .string (bs b)] 9))
  have hS4 := And.intro (hS3.1.alloc (.cells #[.string (bs a), .string (bs b)] 9)) (hS3.2.alloc (.cells #[.string (bs a), .string (bs b)] 9))
  have KZ4 := KZ3.alloc (.cells #[.string (bs a), .string (bs b)] 9)
  refine (rof_new 4 4 (by rfl) [bs a, bs b] 2 rfl HI.out w3 _ rfl _ rfl (HT.out.below B4.out HT.out.1) R HRn).mono ?_; rintro e w5 ⟨rfl, hb5⟩
  have B5 := Lib.hid (B4.out.trans (hb5.mono B4.out.size))
  have hS5 := And.intro (hS4.1.below hb5 hS4.1.lt) (hS4.2.below hb5 hS4.2.lt)
  have KZ5 : w5.heap[w.heap.size + 1 + 1]? = some (.cells Z16.toArray 23 (0, 0)) := KZ4.below hb5 KZ4.lt
  clear hb5
  go_wp2_with fail
  refine hK.out _ _ hS5 (fun _ => ?_)
  clear hK K
  try dsimp only [Act.put]
  try simp only [List.setIfInBounds_toArray, List.set_cons_zero, List.set_cons_succ]
  refine wpAnyH_ready (rs := [6]) (by kernel_rfl) (by simp) ?_
  refine AllReadyH.cons (o := { dst := none, op := Op.store 23 (Operand.tmp 4) (Operand.tmp 10), type := 0, pos := "ref.go:62", after := #[{ on := 5, ground := Ground.data }, { on := 5, ground := Ground.chain }, { on := 0, ground := Ground.phase }, { on := 1, ground := Ground.phase }, { on := 2, ground := Ground.phase }, { on := 3, ground := Ground.phase }, { on := 4, ground := Ground.phase }, { on := 5, ground := Ground.phase }], guard := none }) rfl (fun K hK => ?_) AllReadyH.nil
  rw [if_pos (by rfl)]
  refine wp_store_row 23 (.tmp 4) (.tmp 10) rfl (w.heap.size + 1 + 1) (B8 R).toArray rfl rfl 23 _ KZ5 (size23' _ HRl.out) (Z16_size _ HRl.out) (one8 _) ?_
  refine hK.out _ _ ⟨hS5.1.setRow (by omega) _, hS5.2.setRow (by omega) _⟩ (fun _ => ?_)
  clear hK K
  try dsimp only [Act.put]
  try simp only [List.setIfInBounds_toArray, List.set_cons_zero, List.set_cons_succ]
  refine wpAnyH_done (by kernel_rfl) ?_ _
  try dsimp only [Act.put]
  try simp only [List.setIfInBounds_toArray, List.set_cons_zero, List.set_cons_succ]
  go_wp2_with fail
  refine bodyPost_ret (v := .agg (B8 R).toArray) ?_ rfl ⟨rfl, belowRow B5.out (by omega) _⟩
  have hr := run_loadVar_row (P := Tryd.prog) _ (w.heap.size + 1 + 1) 23 23 (B8 R).toArray (0, 0) (.array 16 5) (heap_setRow w5 (w.heap.size + 1 + 1) (B8 R).toArray _ 23 KZ5) Tryd.underlying23 rfl (size23' _ HRl.out)
  simp [results, Tryd.results43, asAddr, hr]
end Go.Proofs.YtgonidjajmjniaaDoor

namespace Go.Proofs.YtgonidjajmjniaaDoor
open Go.RowKit Wr Sh
set_option linter.unusedVariables false
set_option maxRecDepth 100000

theorem bs_app (a b : List UInt8) : bs a ++ bs b = bs (a ++ b) := by
  unfold bs
  apply ByteArray.ext
  rw [ByteArray.data_append]
  apply Array.ext'
  simp

set_option maxHeartbeats 1000000 in
theorem rstart_any (sd : ByteArray) (i c : Int) (w : World) (hs : sd.size ≤ 1048576) (hi : okInt i) (hc : okInt c) (ht : Tab 0 w) (R : List UInt8) (hR : Hid (R = bot sd.data.toList i c)) :
    Calls Tryd.prog 34 #[.string sd, .int .i64 i, .int .i64 c] w fun e w' => e = .returned (.agg (B8 R).toArray) ∧ Below w.heap.size w w' := by
  obtain ⟨E, hE⟩ : ∃ E, E = encInts [i, c] := ⟨_, rfl⟩
  have hM1 : E.length ≤ 27 := by rw [hE]; exact ints_le _
  have hbE : (bs E).size ≤ 27 := by rw [bs_size]; exact hM1
  have HE := Lib.hid hE
  have HO := Lib.hid (ok2 hi hc)
  have HT := Lib.hid ht
  have hZ := hZ16
  have HRl := Lib.hid (show R.length = 16 by rw [hR.out]; exact bot_len _ _ _)
  clear hE hi hc ht
  have K0 := Lib.hid (Blk.new w 23 Z16)
  have B0 := Lib.hid ((Below.refl w.heap.size w).alloc (Nat.le_refl _) (.cells Z16.toArray 23))
  go_enter Tryd.func34, Tryd.ntmps34
  go_wp2_with fail
  obtain ⟨W1, hW1⟩ : ∃ W, W = w.alloc (.cells Z16.toArray 23) := ⟨_, rfl⟩
  rw [← hW1] at K0 B0
  rw [← hW1]
  have G1 : w.heap.size + 1 = W1.heap.size := by rw [hW1]; simp
  clear hW1
  have B1 := Lib.hid (B0.out.alloc B0.out.size (.cells #[.int .i64 i, .int .i64 c] 3))
  have K1 := Lib.hid (K0.out.alloc (.cells #[.int .i64 i, .int .i64 c] 3))
  refine (rints_new [i, c] 2 rfl W1 _ G1 (by omega) HO.out E HE _ rfl).mono ?_; rintro e w2 ⟨rfl, hb2⟩
  have B2 := Lib.hid (B1.out.trans (hb2.mono B1.out.size))
  have K2 := Lib.hid (K1.out.below hb2 K1.out.lt)
  clear hb2
  go_wp2_with fail
  obtain ⟨tx, htx⟩ : ∃ tx : ByteArray, tx = ({ data := #[99, 104, 97, 105, 110] } ++ bs E) := ⟨_, rfl⟩
  rw [← htx]
  have htl : tx.data.toList = chainL ++ E := by rw [htx, ByteArray.data_append, Array.toList_append, bs_list]; rfl
  have htz : tx.size ≤ 274877906944 := by rw [← size_l, htl, List.length_append]; show 5 + E.length ≤ _; omega
  obtain ⟨C, hC⟩ : ∃ C, C = mac sd.data.toList tx.data.toList := ⟨_, rfl⟩
  have HC := Lib.hid hC
  have hCl : C.length = 32 := by rw [hC]; exact sha_len _
  have HR2 := Lib.hid (show R = (bs C).data.toList.take 16 by rw [hR.out, bs_list, hC, htl, HE.out]; rfl)
  have hz := bs_size C
  clear htx hC htl
  refine (rmac_go sd tx _ (by omega) htz (HT.out.below B2.out HT.out.1) C HC).mono ?_; rintro e w3 ⟨rfl, hb3⟩
  have B3 := Lib.hid (B2.out.trans (hb3.mono B2.out.size))
  have K3 := Lib.hid (K2.out.below hb3 K2.out.lt)
  clear hb3
  go_wp2_with fail
  refine (rdigest_any (bs C) w3 (by omega) (by omega) R HR2).mono ?_; rintro e w5 ⟨rfl, hb5⟩
  have B5 := Lib.hid (B3.out.trans (hb5.mono B3.out.size))
  have K5 := Lib.hid (show w5.heap[w.heap.size]? = some (.cells Z16.toArray 23 (0, 0)) from K3.out.below hb5 K3.out.lt)
  clear hb5
  go_wp2_with (with_reducible refine wpList_store_row rfl 23 (.tmp 6) (.tmp 14) rfl w.heap.size (B8 R).toArray rfl rfl 23 _ K5.out (size23' _ HRl.out) (Z16_size _ HRl.out) (one8 _) ?_)
  refine bodyPost_ret (v := .agg (B8 R).toArray) ?_ rfl ⟨rfl, belowRow B5.out (Nat.le_refl _) _⟩
  have hr := run_loadVar_row (P := Tryd.prog) _ w.heap.size 23 23 (B8 R).toArray (0, 0) (.array 16 5) (heap_setRow w5 w.heap.size (B8 R).toArray _ 23 K5.out) Tryd.underlying23 rfl (size23' _ HRl.out)
  simp [results, Tryd.results34, asAddr, hr, Act.put]

/-- A part of 1088 bytes. -/
theorem inp_T (t : UInt8) (T : List UInt8) (h : T.length ≤ 1048576) : (inp t [bs T]).length ≤ 274877906944 := by
  have := inp_1 t (bs T)
  rw [bs_size] at this
  omega

set_option maxHeartbeats 4000000 in
theorem rleaf_any (sd : ByteArray) (i : Int) (w : World) (hs : sd.size ≤ 1048576) (hi : okInt i) (ht : Tab 0 w) (R : List UInt8) (hR : Hid (R = sleaf sd.data.toList i)) :
    Calls Tryd.prog 47 #[.string sd, .int .i64 i] w fun e w' => e = .returned (.agg (B8 R).toArray) ∧ Below w.heap.size w w' := by
  have HT := Lib.hid ht
  have HOI := Lib.hid hi
  have HRl := Lib.hid (show R.length = 16 by rw [hR.out]; exact dof_len _ _)
  have hZ := hZ16
  have KS := Lib.hid (show KeepZ w w.heap.size (w.alloc (.cells Z16.toArray 23)) from ⟨Blk.new w 23 Z16, (Below.refl _ _).alloc (Nat.le_refl _) _⟩)
  clear hi ht
  go_enter Tryd.func47, Tryd.ntmps47
  go_wp2_with fail
  go_loopw [5, 6] (fun s5 s6 wr => ∃ (c : Nat) (sv : ByteArray), c ≤ 68 ∧ s6 = .int .i64 (c : Int) ∧ s5 = .string sv ∧ Hid (sv = bs (topsOf sd.data.toList i c)) ∧ Hid (KeepZ w w.heap.size wr))
    (fun _ s6 _ => 68 - (intOf s6).toNat)
  case atStart => exact ⟨0, ⟨#[]⟩, by omega, rfl, rfl, Lib.hid rfl, KS⟩
  case round =>
  obtain ⟨c, sv, hc, rfl, rfl, hsv, hk⟩ := hrel
  clear KS
  by_cases hlt : c < 68
  · obtain ⟨D0, hD0⟩ : ∃ D, D = bot sd.data.toList i (c : Int) := ⟨_, rfl⟩
    obtain ⟨D, hD⟩ : ∃ D, D = adv i (c : Int) 0 D0 3 := ⟨_, rfl⟩
    have hl0 : D0.length = 16 := by rw [hD0]; exact bot_len _ _ _
    have hl3 : D.length = 16 := by rw [hD]; exact adv_len _ _ _ _ hl0 _
    have HX := Lib.hid (show sv ++ bs D = bs (topsOf sd.data.toList i (c + 1)) by rw [tops_succ, ← bs_app, hsv.out, hD, hD0])
    have hz1 : sv.size ≤ 1088 := by rw [hsv.out, bs_size, tops_len]; omega
    have hz2 : (bs D).size ≤ 16 := by rw [bs_size, hl3]; omega
    have H0 := Lib.hid hD0
    have H3 := Lib.hid hD
    have L0 := Lib.hid hl0
    have L3 := Lib.hid hl3
    have HOC := Lib.hid (show okInt (c : Int) from ⟨by omega, by omega⟩)
    clear hD0 hD hl0 hl3
    go_wp2_with fail
    refine (rstart_any sd i (c : Int) _ hs HOI.out HOC.out (HT.out.below hk.out.b HT.out.1) D0 H0).mono ?_; rintro e w1 ⟨rfl, hb1⟩
    have k1 := Lib.hid (hk.out.below hb1)
    clear hb1
    go_wp2_with fail
    refine (radvance_any D0 i (c : Int) 0 3 3 _ L0.out HOI.out HOC.out (by omega) (Lib.hid rfl) (by omega) (HT.out.below k1.out.b HT.out.1) D H3).mono ?_; rintro e w2 ⟨rfl, hb2⟩
    have k2 := Lib.hid (k1.out.below hb2)
    clear hb2
    go_wp2_with fail
    refine (text_any D w2 L3.out).mono ?_; rintro e w3 ⟨rfl, hb3⟩
    have k3 := Lib.hid (k2.out.below hb3)
    clear hb3
    rw [show (⟨D.toArray⟩ : ByteArray) = bs D from rfl]
    go_wp2_with fail
    go_roundw
    case rel => exact ⟨c + 1, _, by omega, by go_num, rfl, HX, k3⟩
    case measure => simp only [intOf]; omega
  · obtain rfl : c = 68 := by omega
    obtain ⟨T, hT⟩ : ∃ T, T = topsOf sd.data.toList i 68 := ⟨_, rfl⟩
    have hsb : sv = bs T := by rw [hsv.out, hT]
    subst hsb
    have hTl : T.length = 1088 := by rw [hT]; exact tops_len _ _ _
    obtain ⟨Q, hQ⟩ : ∃ Q, Q = dof 2 [bs T] := ⟨_, rfl⟩
    have HI1 := Lib.hid (inp_T 2 T (by omega))
    have hQl : Q.length = 16 := by rw [hQ]; exact dof_len _ _
    have HI2 := Lib.hid (inp_T 3 Q (by omega))
    have HQ := Lib.hid hQ
    have HQl := Lib.hid hQl
    have HRQ := Lib.hid (show R = dof 3 [bs Q] by rw [hR.out, hQ, hT]; rfl)
    clear hT hTl hQ hQl hsv
    have b1 := Lib.hid (hk.out.alloc (.cells #[.string (bs T)] 9))
    go_wp2_with fail
    refine (rof_new 2 2 (by rfl) [bs T] 1 rfl HI1.out _ _ rfl _ rfl (HT.out.below b1.out.b HT.out.1) Q HQ).mono ?_; rintro e w1 ⟨rfl, hb1⟩
    have k1 := Lib.hid (b1.out.below hb1)
    clear hb1
    obtain ⟨w2, hw2⟩ : ∃ W, W = (w1.alloc (.cells Z16.toArray 23)).setRow w1.heap.size (B8 Q).toArray := ⟨_, rfl⟩
    have k2 := Lib.hid (show KeepZ w w.heap.size w2 by rw [hw2]; exact (k1.out.alloc _).row _ (by have := k1.out.z.lt; omega) k1.out.b.size _)
    have A2 := Lib.hid (show Blk w2 w1.heap.size 23 (B8 Q) by rw [hw2]; exact (Blk.new w1 23 Z16).row _).at
    have HW2 := Lib.hid hw2
    clear hw2
    go_wp2_with (first
      | (with_reducible refine wpList_store_row rfl 23 (.tmp 7) (.tmp 24) rfl w1.heap.size (B8 Q).toArray rfl rfl 23 _ (heap_alloc_new w1 _) (size23' _ HQl.out) (Z16_size _ HQl.out) (one8 _) ?_; rw [← HW2.out])
      | (with_reducible refine wpList_load_at rfl 23 (.tmp 7) rfl ⟨w1.heap.size, 0, none⟩ rfl (B8 Q) (.array 16 5) A2.out Tryd.underlying23 rfl (size23 _ HQl.out) ?_))
    refine (text_any Q w2 HQl.out).mono ?_; rintro e w3 ⟨rfl, hb3⟩
    have k3 := Lib.hid (k2.out.below hb3)
    rw [show (⟨Q.toArray⟩ : ByteArray) = bs Q from rfl]
    clear hb3
    have b3 := Lib.hid (k3.out.alloc (.cells #[.string (bs Q)] 9))
    go_wp2_with fail
    refine (rof_new 3 3 (by rfl) [bs Q] 1 rfl HI2.out w3 _ rfl _ rfl (HT.out.below b3.out.b HT.out.1) R HRQ).mono ?_; rintro e w5 ⟨rfl, hb5⟩
    have k5 := Lib.hid (b3.out.below hb5)
    have K5 := Lib.hid (show w5.heap[w.heap.size]? = some (.cells Z16.toArray 23 (0, 0)) from k5.out.z)
    clear hb5
    go_wp2_with (with_reducible refine wpList_store_row rfl 23 (.tmp 4) (.tmp 28) rfl w.heap.size (B8 R).toArray rfl rfl 23 _ K5.out (size23' _ HRl.out) (Z16_size _ HRl.out) (one8 _) ?_)
    refine bodyPost_ret (v := .agg (B8 R).toArray) ?_ rfl ⟨rfl, belowRow k5.out.b (Nat.le_refl _) _⟩
    have hr := run_loadVar_row (P := Tryd.prog) _ w.heap.size 23 23 (B8 R).toArray (0, 0) (.array 16 5) (heap_setRow w5 w.heap.size (B8 R).toArray _ 23 K5.out) Tryd.underlying23 rfl (size23' _ HRl.out)
    simp [results, Tryd.results47, asAddr, hr, Act.put]

theorem rint_s (n : Int) (w : World) (h : okInt n) (E : List UInt8) (hE : Hid (E = enc n)) (M : Nat) (hM : Hid (M = E.length)) :
    Calls Tryd.prog 31 #[.int .i64 n] w fun e w' => ∃ (A' : Option Addr) (c' : Nat), e = .returned (.slice A' M c') ∧ Rd w' w'.heap.size A' (B8 E) ∧ Below w.heap.size w w' := by
  rw [hM.out, hE.out]
  refine (rint_any n w h.1 h.2).mono ?_
  rintro e w' ⟨v, rfl, ho, hb⟩
  obtain ⟨A', c', rfl, _, _, h3⟩ := own_form ho
  exact ⟨A', c', rfl, h3, hb⟩

set_option maxHeartbeats 2000000 in
theorem rdigest3_any (p : List UInt8) (n : Int) (m : ByteArray) (w : World) (hp : p.length = 16) (hn : okInt n) (hm : m.size ≤ 1073741824) (ht : Tab 0 w) (R : List UInt8) (hR : Hid (R = digOf p n m)) :
    Calls Tryd.prog 17 #[.agg (B8 p).toArray, .int .i64 n, .string m] w fun e w' => e = .returned (.agg (B8 R).toArray) ∧ Below w.heap.size w w' := by
  obtain ⟨E, hE⟩ : ∃ E, E = enc n := ⟨_, rfl⟩
  obtain ⟨M, hM⟩ : ∃ M, M = E.length := ⟨_, rfl⟩
  have hM0 : 0 < M := by rw [hM, hE]; exact (enc_le n).1
  have hM1 : M ≤ 9 := by rw [hM, hE]; exact (enc_le n).2
  have HI := Lib.hid (show (inp 5 [bs p, bs E, m]).length ≤ 274877906944 by
    have h1 := inp_cons 5 (bs p) [bs E, m]
    have h2 := inp_cons 5 (bs E) [m]
    have h3 := inp_cons 5 m []
    have h4 := inp_nil 5
    rw [bs_size] at h1 h2
    omega)
  have HE := Lib.hid hE
  have HM := Lib.hid hM
  have HN := Lib.hid hn
  have HT := Lib.hid ht
  have HPl := Lib.hid hp
  have HR2 := Lib.hid (show R = dof 5 [bs p, bs E, m] by rw [hR.out, HE.out]; rfl)
  have HRl := Lib.hid (show R.length = 16 by rw [hR.out]; exact dof_len _ _)
  have hZ := hZ16
  obtain ⟨W1, hW1⟩ : ∃ W, W = (w.alloc (.cells (B8 p).toArray 23)).alloc (.cells Z16.toArray 23) := ⟨_, rfl⟩
  have K1 := Lib.hid (show Blk W1 w.heap.size 23 (B8 p) by rw [hW1]; exact (Blk.new w 23 (B8 p)).alloc _).at
  have K2 := Lib.hid (show Blk W1 (w.heap.size + 1) 23 Z16 by rw [hW1]; exact Blk.newAt _ _ 23 Z16 (by simp))
  have B1 := Lib.hid (show Below w.heap.size w W1 by rw [hW1]; exact ((Below.refl _ _).alloc (Nat.le_refl _) _).alloc (by simp) _)
  have HW := Lib.hid hW1
  clear hE hM hn ht hp hR
  go_enter Tryd.func17, Tryd.ntmps17
  go_upto_region 1 with (fail)
  rw [← HW.out]
  clear hW1
  go_wp2_with (with_reducible refine wpList_load_at rfl 23 (.tmp 3) rfl ⟨w.heap.size, 0, none⟩ rfl (B8 p) (.array 16 5) K1.out Tryd.underlying23 rfl (size23 _ HPl.out) ?_)
  refine (text_any p W1 HPl.out).mono ?_; rintro e w2 ⟨rfl, hb2⟩
  rw [show (⟨p.toArray⟩ : ByteArray) = bs p from rfl]
  have B2 := Lib.hid (B1.out.trans (hb2.mono B1.out.size))
  have Z2 := Lib.hid (K2.out.below hb2 K2.out.lt)
  clear hb2
  go_wp2_with fail
  refine (rint_s n _ HN.out E HE M HM).mono ?_; rintro e w3 ⟨A3, c3, rfl, hr3, hb3⟩
  have B3 := Lib.hid (B2.out.trans (hb3.mono B2.out.size))
  have Z3 := Lib.hid (Z2.out.below hb3 Z2.out.lt)
  have hcv := conv_rd A3 E c3 _ w3 hr3 M HM.out hM0
  clear hb3 hr3
  have B4 := Lib.hid (B3.out.alloc B3.out.size (.cells #[.string (bs p), .string (bs E), .string m] 9))
  have Z4 := Lib.hid (Z3.out.alloc (.cells #[.string (bs p), .string (bs E), .string m] 9))
  go_wp2_with fail
  refine (rof_new 5 5 (by rfl) [bs p, bs E, m] 3 rfl HI.out w3 _ rfl _ rfl (HT.out.below B4.out HT.out.1) R HR2).mono ?_; rintro e w5 ⟨rfl, hb5⟩
  have B5 := Lib.hid (B4.out.trans (hb5.mono B4.out.size))
  have K5 := Lib.hid (show w5.heap[w.heap.size + 1]? = some (.cells Z16.toArray 23 (0, 0)) from Z4.out.below hb5 Z4.out.lt)
  clear hb5 hcv
  go_wp2_with (with_reducible refine wpList_store_row rfl 23 (.tmp 6) (.tmp 14) rfl (w.heap.size + 1) (B8 R).toArray rfl rfl 23 _ K5.out (size23' _ HRl.out) (Z16_size _ HRl.out) (one8 _) ?_)
  refine bodyPost_ret (v := .agg (B8 R).toArray) ?_ rfl ⟨rfl, belowRow B5.out (by omega) _⟩
  have hr := run_loadVar_row (P := Tryd.prog) _ (w.heap.size + 1) 23 23 (B8 R).toArray (0, 0) (.array 16 5) (heap_setRow w5 (w.heap.size + 1) (B8 R).toArray _ 23 K5.out) Tryd.underlying23 rfl (size23' _ HRl.out)
  simp [results, Tryd.results17, asAddr, hr, Act.put]
end Go.Proofs.YtgonidjajmjniaaDoor

