/-
  The law HashStreamsAgree returns true, whatever the pieces.
  Condition: both tables of the round constants are as the text lays them; strings and lists are no longer than a machine's.
-/
import Derived.Test.YtfagpeacilfaaaaDoorLawE
import Derived.Test.YtfagpeacilfaaaaDoorLawC
import Derived.Test.YtfagpeacilfaaaaDoorJoin
import Derived.Outline
namespace Go.Proofs.YtfagpeacilfaaaaDoor
open Go.RowKit Wr Sh
set_option linter.unusedVariables false

/-- Block g holds the stream to which the bytes m have been added. -/
def Strm (W : World) (g : Nat) (m : List UInt8) (rest : List UInt8) (v : S8) : Prop := Blk W g 34 (SC v rest m.length) ∧ Part m rest (m.length % 64) v
theorem Strm.below {W W' : World} {g B : Nat} {m rest : List UInt8} {v : S8} (h : Strm W g m rest v) (hb : Below B W W') (hg : g < B) : Strm W' g m rest v := ⟨h.1.below hb hg, h.2⟩
theorem data_app (a b : ByteArray) : (a ++ b).data.toList = a.data.toList ++ b.data.toList := by simp
theorem joined_few {l : List ByteArray} (h : few l = true) : (joined l).size ≤ 4800 := by
  obtain ⟨h1, h2⟩ := few_len h
  have : ∀ (l : List ByteArray) (a : ByteArray), (∀ s ∈ l, s.size ≤ 400) → (l.foldl (· ++ ·) a).size ≤ a.size + 400 * l.length := by
    intro l
    induction l with
    | nil => intro a _; simp
    | cons x l ih =>
      intro a hx
      have h3 := ih (a ++ x) (fun s hs => hx s (by simp [hs]))
      have h4 := hx x (by simp)
      rw [List.foldl_cons, List.length_cons]
      rw [ByteArray.size_append] at h3
      omega
  have h3 := this l ByteArray.empty h2
  unfold joined
  have : ByteArray.empty.size = 0 := rfl
  omega
abbrev D34 : TypeDesc := (.struct #[{ name := "value", type := 30, offset := 0, embedded := false, tag := "", pkgPath := "culprit/hash", byteOffset := 0 }, { name := "rest", type := 31, offset := 8, embedded := false, tag := "", pkgPath := "culprit/hash", byteOffset := 32 }, { name := "size", type := 32, offset := 72, embedded := false, tag := "", pkgPath := "culprit/hash", byteOffset := 96 }])
/-- One more string is added to a stream. -/
theorem add_s (m rest : List UInt8) (t : ByteArray) (v : S8) (w : World) (hp : Part m rest (m.length % 64) v) (hsz : m.length + t.size ≤ 1099511627776) (ht : Tab 1 w) (m' : List UInt8) (hm : Hid (m' = m ++ t.data.toList)) :
    Calls Tryd.prog 15 #[.agg (SC v rest m.length).toArray, .string t] w fun e w' => ∃ rest' v', e = .returned (.agg (SC v' rest' m'.length).toArray) ∧ Part m' rest' (m'.length % 64) v' ∧ Below w.heap.size w w' := by
  have hl : m'.length = m.length + t.size := by rw [hm.out, List.length_append, size_l]
  exact add_go m rest t v m.length w hp rfl hsz ht m'.length hl m' hm
theorem wpList_bytes_guarded {P : Program} {w : World} {ops : Array Oper} {rest : List Oper} {o : Oper} {a : Act} {Q : Exit → Act → World → Prop} (src dst e : TypeId) (x : Operand) (ho : o.op = .convert src dst x)
    (s : ByteArray) (hx : a.eval x = .string s) (hw : Region.wanted o (yielded ops a.tmps) = true) (hs : P.underlying src = some .string) (hd : P.underlying dst = some (.slice e)) (he : P.underlying e = some (.int .u8))
    (h : ∀ (C : Nat) (W : World), s.size ≤ C → Rd W W.heap.size (some ⟨w.heap.size, 0, none⟩) (B8 s.data.toList) → Below w.heap.size w W → wpList P ops Q rest (a.put o.dst (.slice (some ⟨w.heap.size, 0, none⟩) s.size C)) W) :
    wpList P ops Q (o :: rest) a w :=
  wpList_step fun K hK => by rw [if_pos hw]; exact wp_bytes_of src dst e x ho s hx hs hd he fun C W h1 h2 h3 => hK _ _ (h C W h1 h2 h3)

set_option maxRecDepth 100000 in
set_option maxHeartbeats 4000000 in
theorem streams_few (A : Option Addr) (l : List ByteArray) (c : Nat) (o : ByteArray) (a8 : UInt8) (w : World) (hr : Rd w w.heap.size A (St l)) (hn : l.length ≤ 281474976710656) (hs : ∀ s ∈ l, s.size ≤ 281474976710656) (ho : o.size ≤ 281474976710656) (ht : Tab 1 w)
    (hf : few l = false ∨ 400 < o.size) :
    Calls Tryd.prog 4 #[.slice A l.length c, .string o, .int .u8 (a8.toNat : Int)] w fun e w' => e = .returned (.bool true) ∧ Below w.heap.size w w' := by
  have HT := Lib.hid ht
  obtain ⟨F, hF⟩ : ∃ F, F = few l := ⟨_, rfl⟩
  obtain ⟨NL, hN⟩ : ∃ N, N = l.length := ⟨_, rfl⟩
  have HFEW := Lib.hid (show ∀ W, Below w.heap.size w W → Calls Tryd.prog 13 #[.slice A NL c] W fun e w' => e = .returned (.bool F) ∧ W = w' from fun W hW => by
    rw [hN]; exact few_any A l c W ((hr.below hW).more hW.size) hn hs F hF)
  rw [← hF] at hf
  rw [← hN] at hn ⊢
  clear ht hr hN hF hs
  cases F with
  | false =>
    clear hf
    go_enter Tryd.func4, Tryd.ntmps4
    go_wp2_with (first
      | (go_at_call 10; refine (sanity_any _ HT.out).mono ?_; rintro e w1 ⟨rfl, hb1⟩)
      | (go_at_call 13; (with_reducible refine (HFEW.out _ hb1).mono ?_); rintro e w2 ⟨rfl, rfl⟩))
    go_ret
    exact ⟨rfl, hb1⟩
  | true =>
    have h4 : (400 : Int) < (o.size : Int) := by
      rcases hf with h | h
      · cases h
      · omega
    clear hf
    go_enter Tryd.func4, Tryd.ntmps4
    go_wp2_with (first
      | (go_at_call 10; refine (sanity_any _ HT.out).mono ?_; rintro e w1 ⟨rfl, hb1⟩)
      | (go_at_call 13; (with_reducible refine (HFEW.out _ hb1).mono ?_); rintro e w2 ⟨rfl, rfl⟩))
    go_ret
    exact ⟨rfl, hb1⟩

set_option maxRecDepth 100000 in
set_option maxHeartbeats 8000000 in
theorem streams_go (A : Option Addr) (l : List ByteArray) (c : Nat) (o : ByteArray) (a8 : UInt8) (w : World) (hr : Rd w w.heap.size A (St l)) (hc : l.length ≤ c) (hnil : A = none → c = 0) (ho : o.size ≤ 400) (ht : Tab 1 w) (ht0 : Tab 0 w) (hf : few l = true)
    (K : Nat) (hK : Hid (K = a8.toNat % (l.length + 1))) (P Hd Fk R1 R2 R3 : List UInt8) (HP : Hid (P = (joined l).data.toList)) (HH : Hid (Hd = (joined (l.take K)).data.toList)) (HFk : Hid (Fk = Hd ++ o.data.toList))
    (HR1 : Hid (R1 = sha P)) (HR2 : Hid (R2 = sha Hd)) (HR3 : Hid (R3 = sha Fk)) :
    Calls Tryd.prog 4 #[.slice A l.length c, .string o, .int .u8 (a8.toNat : Int)] w fun e w' => e = .returned (.bool true) ∧ Below w.heap.size w w' := by
  have HT := Lib.hid ht
  have HT1 : ∀ W, Below w.heap.size w W → Tab 1 W := fun W hW => HT.out.below hW HT.out.1
  have HU := Lib.hid ht0
  have HT0 : ∀ W, Below w.heap.size w W → Tab 0 W := fun W hW => HU.out.below hW HU.out.1
  obtain ⟨NL, hN⟩ : ∃ N, N = l.length := ⟨_, rfl⟩
  obtain ⟨hn12, hs400⟩ := few_len hf
  have hJ := joined_few hf
  have HFEW := Lib.hid (show ∀ W, Below w.heap.size w W → Calls Tryd.prog 13 #[.slice A NL c] W fun e w' => e = .returned (.bool true) ∧ W = w' from fun W hW => by
    rw [hN]; exact few_any A l c W ((hr.below hW).more hW.size) (by omega) (fun s hs => by have := hs400 s hs; omega) true hf.symm)
  have hKN : K ≤ NL := by rw [hK.out, hN]; have := Nat.mod_lt a8.toNat (show 0 < l.length + 1 by omega); omega
  have HJ1 := Lib.hid (show ∀ W, Below w.heap.size w W → Calls Tryd.prog 16 #[.slice A NL c] W fun e w' => e = .returned (.string (joined l)) ∧ W = w' from fun W hW => by
    rw [hN]; exact joined_any A l c W ((hr.below hW).more hW.size) (by omega) (by omega))
  have HJ2 := Lib.hid (show ∀ W, Below w.heap.size w W → Calls Tryd.prog 16 #[.slice A K c] W fun e w' => e = .returned (.string (joined (l.take K))) ∧ W = w' from fun W hW => by
    have h1 := joined_any A (l.take K) c W (by
      have := (hr.below hW).more hW.size
      have h2 := this.take K
      unfold St at h2 ⊢
      rw [List.map_take]; exact h2) (by rw [List.length_take]; omega) (by have := joined_le l K; omega)
    rw [List.length_take, Nat.min_eq_left (by omega)] at h1
    exact h1)
  have HJL := Lib.hid (show ∀ i, (joined (l.take i)).size ≤ 4800 from fun i => Nat.le_trans (joined_le l i) hJ)
  have HRD := Lib.hid hr
  have HN := Lib.hid hN
  have HS400 := Lib.hid hs400
  have e1 : IntKind.i64.wrap (a8.toNat : Int) = (a8.toNat : Int) := IntWalk.i64_in _ (by have := a8.toNat_lt; omega)
  have e2 : IntKind.i64.wrap ((NL : Int) + 1) = (NL : Int) + 1 := IntWalk.i64_in _ (by omega)
  have e3 : (a8.toNat : Int) % ((NL : Int) + 1) = (K : Int) := by
    rw [hK.out, ← hN]
    have := Int.natCast_emod a8.toNat (NL + 1)
    rw [this]; rfl
  have e3' : (a8.toNat : Int).tmod ((NL : Int) + 1) = (K : Int) := by rw [Int.tmod_eq_emod_of_nonneg (by omega)]; exact e3
  have e4 : ¬ ((NL : Int) + 1 = 0) := by omega
  have e5 : IntKind.i64.wrap (K : Int) = (K : Int) := IntWalk.i64_in _ (by omega)
  have h4 : ¬ (400 : Int) < (o.size : Int) := by omega
  rw [← hN] at hc ⊢
  clear ht ht0 hr hN hs400 hf hJ
  go_enter Tryd.func4, Tryd.ntmps4
  go_upto_region 5 with (first
    | (go_at_call 10; refine (sanity_any _ HT.out).mono ?_; rintro e w1 ⟨rfl, hb1⟩)
    | (go_at_call 13; (with_reducible refine (HFEW.out _ hb1).mono ?_); rintro e w2 ⟨rfl, rfl⟩))
  have HB1 := Lib.hid hb1
  have HZ34 := zero34
  have z34 := HZ34
  have HSI := Lib.hid sizeZS
  have HSI34 := Lib.hid (size34' SI SI_len)
  clear e1 e2 e3 e3' e4 HFEW hb1
  go_cut [9] (fun s9 wx => ∃ g, s9 = .pointer (some ⟨g, 0, none⟩) ∧ Hid (Blk wx g 34 SI) ∧ Hid (Below w1.heap.size w1 wx) ∧ Hid (w1.heap.size ≤ g))
  case first =>
    go_wp2_with (first
      | (go_at_call 14; refine (begin_any _).mono ?_; rintro e w2 ⟨rfl, hb2⟩)
      | (with_reducible refine wpList_store_row rfl 34 (.tmp 9) (.tmp 32) rfl w2.heap.size SI.toArray rfl rfl 34 _ (heap_alloc_new w2 _) HSI34.out HSI.out SI_one ?_))
    go_meet
    exact ⟨w2.heap.size, rfl, Lib.hid (heap_setRow _ w2.heap.size SI.toArray _ 34 (heap_alloc_new w2 _)), Lib.hid (belowRow (hb2.alloc hb2.size _) hb2.size _), Lib.hid hb2.size⟩
  case rest =>
    obtain ⟨g9, rfl, K9, HB2, HG9⟩ := hcut
    rename World => wa
    have HBA := Lib.hid (HB1.out.trans (HB2.out.mono HB1.out.size))
    have HG9' := Lib.hid (show w.heap.size ≤ g9 from Nat.le_trans HB1.out.size HG9.out)
    have HGW := Lib.hid K9.out.lt
    clear z34 HB1 HB2 HG9
    go_wp2_with fail
    go_loopw [10] (fun s10 wr => ∃ (i : Nat) (m rest : List UInt8) (v : S8), i ≤ K ∧ s10 = .int .i64 i ∧ Hid (m = (joined (l.take i)).data.toList) ∧ Hid (Strm wr g9 m rest v) ∧ Hid (Below w.heap.size w wr) ∧ Hid (g9 < wr.heap.size)) (fun s10 _ => K - (intOf s10).toNat)
    case atStart =>
      refine ⟨0, [], List.replicate 64 0, init, Nat.zero_le _, rfl, Lib.hid rfl, Lib.hid ⟨K9.out, part_nil⟩, HBA, HGW⟩
    case round =>
      clear K9 HBA HGW
      rename World => wr
      obtain ⟨i, m, rest, v, hi, rfl, HM, HST, HB, HGW⟩ := hrel
      by_cases hlt : i < K
      · have hlt' : (i : Int) < (K : Int) := by omega
        have hiN : (i : Int) < (NL : Int) := by omega
        have hil : i < l.length := by rw [← HN.out]; omega
        obtain ⟨ga, oa, rfl, hga, hcella⟩ := HRD.out (by intro e; have := congrArg List.length e; simp only [St, List.length_map, List.length_nil] at this; omega)
        obtain ⟨x, hx⟩ : ∃ x, x = l[i] := ⟨_, rfl⟩
        have HCX := Lib.hid (show ∀ W, Below w.heap.size w W → W.cell? ⟨ga, oa + i, none⟩ = some (.string x) from fun W hW => by
          rw [hW.cell (show (⟨ga, oa + i, none⟩ : Addr).block < _ from hga), hx]; exact hcella i _ (St_get l i hil))
        have hxs : x.size ≤ 400 := by rw [hx]; exact HS400.out _ (List.getElem_mem hil)
        obtain ⟨m', hm'⟩ : ∃ m', m' = m ++ x.data.toList := ⟨_, rfl⟩
        have HM' := Lib.hid hm'
        have HMJ := Lib.hid (show m' = (joined (l.take (i + 1))).data.toList by rw [joined_succ l i hil, data_app, ← HM.out, ← hx, hm'])
        have hml : m.length ≤ 4800 := by rw [HM.out, size_l]; exact HJL.out i
        have hS0 : Below w.heap.size w wr.drew := HB.out.drew
        have HST0 := Lib.hid (show Strm wr.drew g9 m rest v from HST.out)
        clear hcella hx hm'
        go_wp2_with fail
        refine wp_region_held (S := fun W => Below w.heap.size w W) (by kernel_rfl) ?_
        change wpAnyH _ _ _ _ _ _ _ _ (World.drew wr)
        refine wpAnyH_take (i := 1) (oi := { dst := some 39, op := Op.move (Operand.tmp 0), type := 27, pos := "law.go:50", after := #[], guard := none }) (v := .slice (some ⟨ga, oa, none⟩) NL c) rfl (by kernel_rfl) (by kernel_rfl) (by kernel_rfl) (fun _ _ _ h => h) (Or.inl ⟨by rfl, fun W hW => ?y1⟩) hS0 ?_
        case y1 => go_simp
        try dsimp only [Act.put]
        try simp only [List.setIfInBounds_toArray, List.set_cons_zero, List.set_cons_succ]
        refine wpAnyH_take (i := 2) (oi := { dst := some 40, op := Op.move (Operand.tmp 10), type := 3, pos := "law.go:50", after := #[], guard := none }) (v := .int .i64 (i : Int)) rfl (by kernel_rfl) (by kernel_rfl) (by kernel_rfl) (fun _ _ _ h => h) (Or.inl ⟨by rfl, fun W hW => ?y2⟩) hS0 ?_
        case y2 => go_simp
        try dsimp only [Act.put]
        try simp only [List.setIfInBounds_toArray, List.set_cons_zero, List.set_cons_succ]
        refine wpAnyH_take (i := 3) (oi := { dst := some 41, op := Op.indexAddr 27 (Operand.tmp 39) (Operand.tmp 40), type := 0, pos := "law.go:50", after := #[{ on := 1, ground := Ground.data }, { on := 2, ground := Ground.data }], guard := none }) (v := .pointer (some ⟨ga, oa + i, none⟩)) rfl (by kernel_rfl) (by kernel_rfl) (by kernel_rfl) (fun _ _ _ h => h) (Or.inl ⟨by rfl, fun W hW => ?y3⟩) hS0 ?_
        case y3 => go_simp
        try dsimp only [Act.put]
        try simp only [List.setIfInBounds_toArray, List.set_cons_zero, List.set_cons_succ]
        refine wpAnyH_take (i := 4) (oi := { dst := some 42, op := Op.load 9 (Operand.tmp 41), type := 9, pos := "law.go:50", after := #[{ on := 3, ground := Ground.data }], guard := none }) (v := .string x) rfl (by kernel_rfl) (by kernel_rfl) (by kernel_rfl) (fun _ _ _ h => h) (Or.inl ⟨by rfl, fun W hW => ?y4⟩) hS0 ?_
        case y4 => (have hcx := HCX.out W hW; go_simp)
        try dsimp only [Act.put]
        try simp only [List.setIfInBounds_toArray, List.set_cons_zero, List.set_cons_succ]
        refine wpAnyH_ready (rs := [0]) (by kernel_rfl) (by simp) ?_
        refine AllReadyH.cons (o := { dst := some 38, op := Op.load 34 (Operand.tmp 9), type := 34, pos := "law.go:50", after := #[], guard := none }) rfl (fun K hK => ?_) AllReadyH.nil
        rw [if_pos (by rfl)]
        refine wp_load_at 34 (.tmp 9) rfl ⟨g9, 0, none⟩ rfl (SC v rest m.length) D34 HST0.out.1.at Tryd.underlying34 rfl (size34 _ (SC_len v rest _ HST0.out.2.hl)) ?_
        refine hK.out _ _ hS0 (fun _ => ?_)
        clear hK K
        try dsimp only [Act.put]
        try simp only [List.setIfInBounds_toArray, List.set_cons_zero, List.set_cons_succ]
        refine wpAnyH_ready (rs := [5]) (by kernel_rfl) (by simp) ?_
        refine AllReadyH.cons (o := { dst := some 43, op := Op.call { callee := Callee.value (Operand.func 15), args := #[Operand.tmp 38, Operand.tmp 42], argTypes := #[34, 9] }, type := 34, pos := "law.go:50", after := #[{ on := 0, ground := Ground.data }, { on := 4, ground := Ground.data }], guard := none }) rfl (fun K hK => ?_) AllReadyH.nil
        rw [if_pos (by rfl)]
        go_simp
        refine (add_s m rest x v _ HST0.out.2 (by omega) (HT1 _ hS0) m' HM').mono ?_
        rintro e w4 ⟨rest', v', rfl, hp', hb4⟩
        have hS1 : Below w.heap.size w w4 := hS0.trans (hb4.mono hS0.size)
        have HPP := Lib.hid hp'
        have HG4 := Lib.hid (show w4.heap[g9]? = some (.cells (SC v rest m.length).toArray 34 (0, 0)) from HST0.out.1.below hb4 HST0.out.1.lt)
        have hl4 : g9 < w4.heap.size := Nat.lt_of_lt_of_le HGW.out hb4.size
        clear hp' hb4
        go_wp2_with fail
        refine hK.out _ _ hS1 (fun _ => ?_)
        clear hK K
        try dsimp only [Act.put]
        try simp only [List.setIfInBounds_toArray, List.set_cons_zero, List.set_cons_succ]
        refine wpAnyH_ready (rs := [6]) (by kernel_rfl) (by simp) ?_
        refine AllReadyH.cons (o := { dst := none, op := Op.store 34 (Operand.tmp 9) (Operand.tmp 43), type := 0, pos := "law.go:50", after := #[{ on := 5, ground := Ground.data }, { on := 5, ground := Ground.chain }, { on := 0, ground := Ground.phase }, { on := 1, ground := Ground.phase }, { on := 2, ground := Ground.phase }, { on := 3, ground := Ground.phase }, { on := 4, ground := Ground.phase }, { on := 5, ground := Ground.phase }], guard := none }) rfl (fun K hK => ?_) AllReadyH.nil
        rw [if_pos (by rfl)]
        refine wp_store_row 34 (.tmp 9) (.tmp 43) rfl g9 (SC v' rest' m'.length).toArray rfl rfl 34 _ HG4.out (size34' _ (SC_len v' rest' _ HPP.out.hl)) (by rw [List.size_toArray, List.size_toArray, SC_len v rest _ HST0.out.2.hl, SC_len v' rest' _ HPP.out.hl]) (SC_one _ _ _) ?_
        have hS3 : Below w.heap.size w (w4.setRow g9 (SC v' rest' m'.length).toArray) := belowRow hS1 HG9'.out _
        have HST2 : Hid (Strm (w4.setRow g9 (SC v' rest' m'.length).toArray) g9 m' rest' v') := Lib.hid ⟨heap_setRow _ _ _ _ 34 HG4.out, HPP.out⟩
        have hg3 : g9 < (w4.setRow g9 (SC v' rest' m'.length).toArray).heap.size := by simpa using hl4
        refine hK.out _ _ hS3 (fun _ => ?_)
        clear hK K
        try dsimp only [Act.put]
        try simp only [List.setIfInBounds_toArray, List.set_cons_zero, List.set_cons_succ]
        refine wpAnyH_done (by kernel_rfl) ?_ _
        try dsimp only [Act.put]
        try simp only [List.setIfInBounds_toArray, List.set_cons_zero, List.set_cons_succ]
        go_wp2_with fail
        go_roundw
        case rel => exact ⟨i + 1, m', rest', v', hlt, by go_num, HMJ, HST2, Lib.hid hS3, Lib.hid hg3⟩
        case measure => simp only [intOf]; omega
      · obtain rfl : K = i := by omega
        have HMH := Lib.hid (show m = Hd by rw [HM.out, HH.out])
        have z34 := HZ34
        have HST1 := Lib.hid HST.out.1.at
        have HLN := Lib.hid (SC_len v rest m.length HST.out.2.hl)
        have HZS := Lib.hid (show ZS.toArray.size = (SC v rest m.length).toArray.size by rw [List.size_toArray, List.size_toArray, SC_len v rest _ HST.out.2.hl]; rfl)
        go_upto_region 10 with (fail)
        go_cut [11] (fun s11 wx => ∃ g, s11 = .pointer (some ⟨g, 0, none⟩) ∧ Hid (Strm wx g m rest v) ∧ Hid (Below wr.heap.size wr wx) ∧ Hid (wr.heap.size ≤ g))
        case first =>
          go_wp2_with (first
            | (with_reducible refine wpList_load_at rfl 34 (.tmp 9) rfl ⟨g9, 0, none⟩ rfl (SC v rest m.length) D34 HST1.out Tryd.underlying34 rfl (size34 _ HLN.out) ?_)
            | (with_reducible refine wpList_store_row rfl 34 (.tmp 11) (.tmp 44) rfl wr.heap.size (SC v rest m.length).toArray rfl rfl 34 _ (heap_alloc_new wr _) (size34' _ HLN.out) HZS.out (SC_one _ _ _) ?_))
          go_meet
          exact ⟨wr.heap.size, rfl, Lib.hid ⟨heap_setRow _ wr.heap.size (SC v rest m.length).toArray _ 34 (heap_alloc_new wr _), HST.out.2⟩, Lib.hid (belowRow ((Below.refl _ _).alloc (Nat.le_refl _) _) (Nat.le_refl _) _), Lib.hid (Nat.le_refl _)⟩
        case rest =>
          obtain ⟨g11, rfl, KE, HB2, HG11⟩ := hcut
          rename World => wc
          have HS9 := Lib.hid (HST.out.below HB2.out HGW.out)
          have HBC := Lib.hid (HB.out.trans (HB2.out.mono HB.out.size))
          have hg11 : w.heap.size ≤ g11 := Nat.le_trans HB.out.size HG11.out
          have hne : g9 ≠ g11 := by have := HGW.out; have := HG11.out; omega
          have HNE := Lib.hid hne
          have HG11' := Lib.hid hg11
          have hl9 := Lib.hid (show g9 < wc.heap.size from Nat.lt_of_lt_of_le HGW.out HB2.out.size)
          have hl11 := Lib.hid (show g11 < wc.heap.size from KE.out.1.lt)
          obtain ⟨rE, vE, hEE⟩ : ∃ rE vE, rE = rest ∧ vE = v := ⟨_, _, rfl, rfl⟩
          have HEQ := Lib.hid hEE
          have KE2 := Lib.hid (show Strm wc g11 Hd rE vE by rw [hEE.1, hEE.2, ← HMH.out]; exact KE.out)
          have HS9' := Lib.hid (show Strm wc g9 Hd rE vE by rw [hEE.1, hEE.2, ← HMH.out]; exact HS9.out)
          clear z34 HST HST1 HLN HZS HB HB2 HG11 HGW HM HMH hg11 hne hEE KE HS9 HEQ hi hlt
          go_wp2_with fail
          go_loopw [12] (fun s12 wr => ∃ (i : Nat) (m rest : List UInt8) (v : S8), i ≤ NL ∧ s12 = .int .i64 i ∧ Hid (m = (joined (l.take i)).data.toList) ∧ Hid (Strm wr g9 m rest v) ∧ Hid (Strm wr g11 Hd rE vE) ∧ Hid (Below w.heap.size w wr) ∧ Hid (g9 < wr.heap.size)) (fun s12 _ => NL - (intOf s12).toNat)
          case atStart => exact ⟨K, Hd, rE, vE, hKN, rfl, HH, HS9', KE2, HBC, hl9⟩
          case round =>
            clear HS9' KE2 HBC hl9 hl11
            rename World => wr
            obtain ⟨i, m, rest, v, hi, rfl, HM, HST, HSE, HB, HGW⟩ := hrel
            by_cases hlt : i < NL
            · have hiN : (i : Int) < (NL : Int) := by omega
              have hil : i < l.length := by rw [← HN.out]; omega
              obtain ⟨ga, oa, rfl, hga, hcella⟩ := HRD.out (by intro e; have := congrArg List.length e; simp only [St, List.length_map, List.length_nil] at this; omega)
              obtain ⟨x, hx⟩ : ∃ x, x = l[i] := ⟨_, rfl⟩
              have HCX := Lib.hid (show ∀ W, Below w.heap.size w W → W.cell? ⟨ga, oa + i, none⟩ = some (.string x) from fun W hW => by
                rw [hW.cell (show (⟨ga, oa + i, none⟩ : Addr).block < _ from hga), hx]; exact hcella i _ (St_get l i hil))
              have hxs : x.size ≤ 400 := by rw [hx]; exact HS400.out _ (List.getElem_mem hil)
              obtain ⟨m', hm'⟩ : ∃ m', m' = m ++ x.data.toList := ⟨_, rfl⟩
              have HM' := Lib.hid hm'
              have HMJ := Lib.hid (show m' = (joined (l.take (i + 1))).data.toList by rw [joined_succ l i hil, data_app, ← HM.out, ← hx, hm'])
              have hml : m.length ≤ 4800 := by rw [HM.out, size_l]; exact HJL.out i
              have hS0 : Below w.heap.size w wr.drew := HB.out.drew
              have HST0 := Lib.hid (show Strm wr.drew g9 m rest v from HST.out)
              have HSE0 := Lib.hid (show Strm wr.drew g11 Hd rE vE from HSE.out)
              clear hcella hx hm'
              go_wp2_with fail
              refine wp_region_held (S := fun W => Below w.heap.size w W) (by kernel_rfl) ?_
              change wpAnyH _ _ _ _ _ _ _ _ (World.drew wr)
              refine wpAnyH_take (i := 1) (oi := { dst := some 53, op := Op.move (Operand.tmp 0), type := 27, pos := "law.go:54", after := #[], guard := none }) (v := .slice (some ⟨ga, oa, none⟩) NL c) rfl (by kernel_rfl) (by kernel_rfl) (by kernel_rfl) (fun _ _ _ h => h) (Or.inl ⟨by rfl, fun W hW => ?y1⟩) hS0 ?_
              case y1 => go_simp
              try dsimp only [Act.put]
              try simp only [List.setIfInBounds_toArray, List.set_cons_zero, List.set_cons_succ]
              refine wpAnyH_take (i := 2) (oi := { dst := some 54, op := Op.move (Operand.tmp 12), type := 3, pos := "law.go:54", after := #[], guard := none }) (v := .int .i64 (i : Int)) rfl (by kernel_rfl) (by kernel_rfl) (by kernel_rfl) (fun _ _ _ h => h) (Or.inl ⟨by rfl, fun W hW => ?y2⟩) hS0 ?_
              case y2 => go_simp
              try dsimp only [Act.put]
              try simp only [List.setIfInBounds_toArray, List.set_cons_zero, List.set_cons_succ]
              refine wpAnyH_take (i := 3) (oi := { dst := some 55, op := Op.indexAddr 27 (Operand.tmp 53) (Operand.tmp 54), type := 0, pos := "law.go:54", after := #[{ on := 1, ground := Ground.data }, { on := 2, ground := Ground.data }], guard := none }) (v := .pointer (some ⟨ga, oa + i, none⟩)) rfl (by kernel_rfl) (by kernel_rfl) (by kernel_rfl) (fun _ _ _ h => h) (Or.inl ⟨by rfl, fun W hW => ?y3⟩) hS0 ?_
              case y3 => go_simp
              try dsimp only [Act.put]
              try simp only [List.setIfInBounds_toArray, List.set_cons_zero, List.set_cons_succ]
              refine wpAnyH_take (i := 4) (oi := { dst := some 56, op := Op.load 9 (Operand.tmp 55), type := 9, pos := "law.go:54", after := #[{ on := 3, ground := Ground.data }], guard := none }) (v := .string x) rfl (by kernel_rfl) (by kernel_rfl) (by kernel_rfl) (fun _ _ _ h => h) (Or.inl ⟨by rfl, fun W hW => ?y4⟩) hS0 ?_
              case y4 => (have hcx := HCX.out W hW; go_simp)
              try dsimp only [Act.put]
              try simp only [List.setIfInBounds_toArray, List.set_cons_zero, List.set_cons_succ]
              refine wpAnyH_ready (rs := [0]) (by kernel_rfl) (by simp) ?_
              refine AllReadyH.cons (o := { dst := some 52, op := Op.load 34 (Operand.tmp 9), type := 34, pos := "law.go:54", after := #[], guard := none }) rfl (fun K hK => ?_) AllReadyH.nil
              rw [if_pos (by rfl)]
              refine wp_load_at 34 (.tmp 9) rfl ⟨g9, 0, none⟩ rfl (SC v rest m.length) D34 HST0.out.1.at Tryd.underlying34 rfl (size34 _ (SC_len v rest _ HST0.out.2.hl)) ?_
              refine hK.out _ _ hS0 (fun _ => ?_)
              clear hK K
              try dsimp only [Act.put]
              try simp only [List.setIfInBounds_toArray, List.set_cons_zero, List.set_cons_succ]
              refine wpAnyH_ready (rs := [5]) (by kernel_rfl) (by simp) ?_
              refine AllReadyH.cons (o := { dst := some 57, op := Op.call { callee := Callee.value (Operand.func 15), args := #[Operand.tmp 52, Operand.tmp 56], argTypes := #[34, 9] }, type := 34, pos := "law.go:54", after := #[{ on := 0, ground := Ground.data }, { on := 4, ground := Ground.data }], guard := none }) rfl (fun K hK => ?_) AllReadyH.nil
              rw [if_pos (by rfl)]
              go_simp
              refine (add_s m rest x v _ HST0.out.2 (by omega) (HT1 _ hS0) m' HM').mono ?_
              rintro e w4 ⟨rest', v', rfl, hp', hb4⟩
              have hS1 : Below w.heap.size w w4 := hS0.trans (hb4.mono hS0.size)
              have HPP := Lib.hid hp'
              have HG4 := Lib.hid (show w4.heap[g9]? = some (.cells (SC v rest m.length).toArray 34 (0, 0)) from HST0.out.1.below hb4 HST0.out.1.lt)
              have hl4 : g9 < w4.heap.size := Nat.lt_of_lt_of_le HGW.out hb4.size
              have HE4 := Lib.hid (HSE0.out.below hb4 HSE0.out.1.lt)
              clear hp' hb4
              go_wp2_with fail
              refine hK.out _ _ hS1 (fun _ => ?_)
              clear hK K
              try dsimp only [Act.put]
              try simp only [List.setIfInBounds_toArray, List.set_cons_zero, List.set_cons_succ]
              refine wpAnyH_ready (rs := [6]) (by kernel_rfl) (by simp) ?_
              refine AllReadyH.cons (o := { dst := none, op := Op.store 34 (Operand.tmp 9) (Operand.tmp 57), type := 0, pos := "law.go:54", after := #[{ on := 5, ground := Ground.data }, { on := 5, ground := Ground.chain }, { on := 0, ground := Ground.phase }, { on := 1, ground := Ground.phase }, { on := 2, ground := Ground.phase }, { on := 3, ground := Ground.phase }, { on := 4, ground := Ground.phase }, { on := 5, ground := Ground.phase }], guard := none }) rfl (fun K hK => ?_) AllReadyH.nil
              rw [if_pos (by rfl)]
              refine wp_store_row 34 (.tmp 9) (.tmp 57) rfl g9 (SC v' rest' m'.length).toArray rfl rfl 34 _ HG4.out (size34' _ (SC_len v' rest' _ HPP.out.hl)) (by rw [List.size_toArray, List.size_toArray, SC_len v rest _ HST0.out.2.hl, SC_len v' rest' _ HPP.out.hl]) (SC_one _ _ _) ?_
              have hS3 : Below w.heap.size w (w4.setRow g9 (SC v' rest' m'.length).toArray) := belowRow hS1 HG9'.out _
              have HST2 : Hid (Strm (w4.setRow g9 (SC v' rest' m'.length).toArray) g9 m' rest' v') := Lib.hid ⟨heap_setRow _ _ _ _ 34 HG4.out, HPP.out⟩
              have hg3 : g9 < (w4.setRow g9 (SC v' rest' m'.length).toArray).heap.size := by simpa using hl4
              have HSE2 : Hid (Strm (w4.setRow g9 (SC v' rest' m'.length).toArray) g11 Hd rE vE) := Lib.hid ⟨HE4.out.1.setRow (Ne.symm HNE.out) _, HE4.out.2⟩
              refine hK.out _ _ hS3 (fun _ => ?_)
              clear hK K
              try dsimp only [Act.put]
              try simp only [List.setIfInBounds_toArray, List.set_cons_zero, List.set_cons_succ]
              refine wpAnyH_done (by kernel_rfl) ?_ _
              try dsimp only [Act.put]
              try simp only [List.setIfInBounds_toArray, List.set_cons_zero, List.set_cons_succ]
              go_wp2_with fail
              go_roundw
              case rel => exact ⟨i + 1, m', rest', v', hlt, by go_num, HMJ, HST2, HSE2, Lib.hid hS3, Lib.hid hg3⟩
              case measure => simp only [intOf]; omega
            · obtain rfl : NL = i := by omega
              have hmP : m = P := by rw [HM.out, HP.out, List.take_of_length_le (by rw [← HN.out]; exact Nat.le_refl _)]
              subst hmP
              have z34 := HZ34
              have HE1 := Lib.hid HSE.out.1.at
              have HLN := Lib.hid (SC_len vE rE Hd.length HSE.out.2.hl)
              have hHl : Hd.length ≤ 4800 := by rw [HH.out, size_l]; exact HJL.out K
              have HADD := Lib.hid (add_s Hd rE o vE wr HSE.out.2 (by omega) (HT1 _ HB.out) Fk HFk)
              go_upto_region 15 with (fail)
              go_cut [13] (fun s13 wx => ∃ (g : Nat) (rF : List UInt8) (vF : S8), s13 = .pointer (some ⟨g, 0, none⟩) ∧ Hid (Strm wx g Fk rF vF) ∧ Hid (Below wr.heap.size wr wx))
              case first =>
                go_wp2_with (first
                  | (with_reducible refine wpList_load_at rfl 34 (.tmp 11) rfl ⟨g11, 0, none⟩ rfl (SC vE rE Hd.length) D34 HE1.out Tryd.underlying34 rfl (size34 _ HLN.out) ?_)
                  | (go_at_call 15; (with_reducible refine HADD.out.mono ?_); rintro e w5 ⟨rF, vF, rfl, hpF, hb5⟩; have HPF := Lib.hid hpF; have HZF := Lib.hid (show ZS.toArray.size = (SC vF rF Fk.length).toArray.size by rw [List.size_toArray, List.size_toArray, SC_len vF rF _ hpF.hl]; rfl); have HSF := Lib.hid (size34' _ (SC_len vF rF Fk.length hpF.hl)); clear hpF)
                  | (with_reducible refine wpList_store_row rfl 34 (.tmp 13) (.tmp 60) rfl w5.heap.size (SC vF rF Fk.length).toArray rfl rfl 34 _ (heap_alloc_new w5 _) HSF.out HZF.out (SC_one _ _ _) ?_))
                go_meet
                exact ⟨w5.heap.size, rF, vF, rfl, Lib.hid ⟨heap_setRow _ w5.heap.size (SC vF rF Fk.length).toArray _ 34 (heap_alloc_new w5 _), HPF.out⟩, Lib.hid (belowRow (hb5.alloc hb5.size _) hb5.size _)⟩
              case rest =>
                obtain ⟨g13, rF, vF, rfl, KF, HB5⟩ := hcut
                rename World => wg
                have HBG := Lib.hid (HB.out.trans (HB5.out.mono HB.out.size))
                have K9 := Lib.hid (HST.out.below HB5.out HGW.out)
                have K11 := Lib.hid (HSE.out.below HB5.out HSE.out.1.lt)
                have HBW := Lib.hid (show ∀ W, Below wg.heap.size wg W → Below w.heap.size w W from fun W hW => HBG.out.trans (hW.mono HBG.out.size))
                have HL9 := Lib.hid (show ∀ W, Below wg.heap.size wg W → ∀ j x, (SC v rest m.length)[j]? = some x → W.cell? ((⟨g9, 0, none⟩ : Addr).add j) = some x from fun W hW => (K9.out.1.below hW K9.out.1.lt).at)
                have HL11 := Lib.hid (show ∀ W, Below wg.heap.size wg W → ∀ j x, (SC vE rE Hd.length)[j]? = some x → W.cell? ((⟨g11, 0, none⟩ : Addr).add j) = some x from fun W hW => (K11.out.1.below hW K11.out.1.lt).at)
                have HL13 := Lib.hid (show ∀ W, Below wg.heap.size wg W → ∀ j x, (SC vF rF Fk.length)[j]? = some x → W.cell? ((⟨g13, 0, none⟩ : Addr).add j) = some x from fun W hW => (KF.out.1.below hW KF.out.1.lt).at)
                obtain ⟨SW, hSW⟩ : ∃ s, s = joined l := ⟨_, rfl⟩
                obtain ⟨SH, hSH⟩ : ∃ s, s = joined (l.take K) := ⟨_, rfl⟩
                rw [← hSW] at HJ1
                rw [← hSH] at HJ2
                have hml : m.length ≤ 4800 := by rw [HM.out, size_l]; exact HJL.out NL
                have hSWs : SW.size ≤ 4800 := by rw [← size_l, hSW, ← HP.out]; exact hml
                have hSHs : SH.size ≤ 4800 := by rw [← size_l, hSH, ← HH.out]; exact hHl
                have hFs : (SH ++ o).size ≤ 5200 := by rw [ByteArray.size_append]; omega
                have hFl : Fk.length ≤ 5200 := by rw [HFk.out, List.length_append, size_l]; omega
                have Q1 := Lib.hid (show R1 = sha SW.data.toList by rw [HR1.out, HP.out, hSW])
                have Q2 := Lib.hid (show R2 = sha SH.data.toList by rw [HR2.out, HH.out, hSH])
                obtain ⟨SF, hSF⟩ : ∃ s, SH ++ o = s := ⟨_, rfl⟩
                have hSFs : SF.size ≤ 5200 := by rw [← hSF]; exact hFs
                have Q3 := Lib.hid (show R3 = sha SF.data.toList by rw [HR3.out, HFk.out, HH.out, ← hSF, data_app, hSH])
                have L1 := Lib.hid (show R1.length = 32 by rw [HR1.out]; exact sha_len _)
                have L2 := Lib.hid (show R2.length = 32 by rw [HR2.out]; exact sha_len _)
                have L3 := Lib.hid (show R3.length = 32 by rw [HR3.out]; exact sha_len _)
                clear z34 HE1 HLN HADD HST HSE HB HGW HB5 hSW hSH HJL HS400 hFs
                go_upto_region 18 with (first
                  | (go_at_call 16; (with_reducible refine (HJ1.out _ HBG.out).mono ?_); rintro e w6 ⟨rfl, rfl⟩)
                  | (go_at_call 16; (with_reducible refine (HJ2.out _ HBG.out).mono ?_); rintro e w6 ⟨rfl, rfl⟩))
                have hS : Below wg.heap.size wg wg := Below.refl _ _
                have PK9 := Lib.hid K9.out.2
                have PK11 := Lib.hid K11.out.2
                have PKF := Lib.hid KF.out.2
                have he1 := eql24 R1 L1.out
                have he2 := eql24 R2 L2.out
                have he3 := eql24 R3 L3.out
                go_wp2_with (first
                  | (refine wpList_load_guarded 34 (.tmp 9) rfl ⟨g9, 0, none⟩ rfl (by rfl) (SC v rest m.length) D34 (HL9.out _ hS) Tryd.underlying34 rfl (size34 _ (SC_len v rest _ K9.out.2.hl)) ?_)
                  | (refine wpList_load_guarded 34 (.tmp 11) rfl ⟨g11, 0, none⟩ rfl (by rfl) (SC vE rE Hd.length) D34 (HL11.out _ hS) Tryd.underlying34 rfl (size34 _ (SC_len vE rE _ K11.out.2.hl)) ?_)
                  | (refine wpList_load_guarded 34 (.tmp 13) rfl ⟨g13, 0, none⟩ rfl (by rfl) (SC vF rF Fk.length) D34 (HL13.out _ hS) Tryd.underlying34 rfl (size34 _ (SC_len vF rF _ KF.out.2.hl)) ?_)
                  | (go_at_call 17; (with_reducible refine (ssum_go m rest v m.length _ PK9.out rfl (by omega) (HT1 _ (HBW.out _ hS)) R1 HR1).mono ?_); rintro e wx1 ⟨rfl, hbx⟩; replace hS : Below wg.heap.size wg wx1 := hS.trans (hbx.mono hS.size); clear hbx)
                  | (go_at_call 17; (with_reducible refine (ssum_go Hd rE vE Hd.length _ PK11.out rfl (by omega) (HT1 _ (HBW.out _ hS)) R2 HR2).mono ?_); rintro e wx2 ⟨rfl, hbx⟩; replace hS : Below wg.heap.size wg wx2 := hS.trans (hbx.mono hS.size); clear hbx)
                  | (go_at_call 17; (with_reducible refine (ssum_go Fk rF vF Fk.length _ PKF.out rfl (by omega) (HT1 _ (HBW.out _ hS)) R3 HR3).mono ?_); rintro e wx3 ⟨rfl, hbx⟩; replace hS : Below wg.heap.size wg wx3 := hS.trans (hbx.mono hS.size); clear hbx)
                  | (refine wpList_bytes_guarded 9 22 5 (.tmp 71) rfl SW rfl (by rfl) Tryd.underlying9 Tryd.underlying22 Tryd.underlying5 ?_; intro C71 wy1 hC71 hrd71 hbx; have HRD71 := Lib.hid hrd71; replace hS : Below wg.heap.size wg wy1 := hS.trans (hbx.mono hS.size); clear hbx hrd71)
                  | (refine wpList_bytes_guarded 9 22 5 (.tmp 79) rfl SH rfl (by rfl) Tryd.underlying9 Tryd.underlying22 Tryd.underlying5 ?_; intro C79 wy2 hC79 hrd79 hbx; have HRD79 := Lib.hid hrd79; replace hS : Below wg.heap.size wg wy2 := hS.trans (hbx.mono hS.size); clear hbx hrd79)
                  | (refine wpList_bytes_guarded 9 22 5 (.tmp 89) rfl SF rfl (by rfl) Tryd.underlying9 Tryd.underlying22 Tryd.underlying5 ?_; intro C89 wy3 hC89 hrd89 hbx; have HRD89 := Lib.hid hrd89; replace hS : Below wg.heap.size wg wy3 := hS.trans (hbx.mono hS.size); clear hbx hrd89)
                  | (refine wpList_bytes_guarded 9 22 5 (.tmp 97) rfl SW rfl (by rfl) Tryd.underlying9 Tryd.underlying22 Tryd.underlying5 ?_; intro C97 wy4 hC97 hrd97 hbx; have HRD97 := Lib.hid hrd97; replace hS : Below wg.heap.size wg wy4 := hS.trans (hbx.mono hS.size); clear hbx hrd97)
                  | (go_at_call 12; (with_reducible refine (rsum_s SW _ C71 _ HRD71.out (fun h => by cases h) (by omega) (HT0 _ (HBW.out _ hS)) R1 Q1).mono ?_); rintro e wz1 ⟨rfl, hbx⟩; replace hS : Below wg.heap.size wg wz1 := hS.trans (hbx.mono hS.size); clear hbx HRD71)
                  | (go_at_call 12; (with_reducible refine (rsum_s SH _ C79 _ HRD79.out (fun h => by cases h) (by omega) (HT0 _ (HBW.out _ hS)) R2 Q2).mono ?_); rintro e wz2 ⟨rfl, hbx⟩; replace hS : Below wg.heap.size wg wz2 := hS.trans (hbx.mono hS.size); clear hbx HRD79)
                  | (go_at_call 12; (with_reducible refine (rsum_s SF _ C89 _ HRD89.out (fun h => by cases h) (by omega) (HT0 _ (HBW.out _ hS)) R3 Q3).mono ?_); rintro e wz3 ⟨rfl, hbx⟩; replace hS : Below wg.heap.size wg wz3 := hS.trans (hbx.mono hS.size); clear hbx HRD89)
                  | (go_at_call 11; (with_reducible refine (hsum_s SW _ C97 _ HRD97.out hC97 (by omega) (HT1 _ (HBW.out _ hS)) R1 Q1).mono ?_); rintro e wz4 ⟨rfl, hbx⟩; replace hS : Below wg.heap.size wg wz4 := hS.trans (hbx.mono hS.size); clear hbx HRD97))
                go_ret
                exact ⟨rfl, HBW.out _ hS⟩
theorem streams_walk (A : Option Addr) (l : List ByteArray) (c : Nat) (o : ByteArray) (a8 : UInt8) (w : World) (hr : Rd w w.heap.size A (St l)) (hc : l.length ≤ c) (hnil : A = none → c = 0) (hn : l.length ≤ 281474976710656) (hs : ∀ s ∈ l, s.size ≤ 281474976710656) (ho : o.size ≤ 281474976710656) (ht : Tab 1 w) (ht0 : Tab 0 w) :
    Calls Tryd.prog 4 #[.slice A l.length c, .string o, .int .u8 (a8.toNat : Int)] w fun e w' => e = .returned (.bool true) ∧ Below w.heap.size w w' := by
  cases hf : few l with
  | false => exact streams_few A l c o a8 w hr hn hs ho ht (.inl hf)
  | true =>
    rcases Nat.lt_or_ge 400 o.size with h | h
    · exact streams_few A l c o a8 w hr hn hs ho ht (.inr h)
    · exact streams_go A l c o a8 w hr hc hnil h ht ht0 hf _ (Lib.hid rfl) _ _ _ _ _ _ (Lib.hid rfl) (Lib.hid rfl) (Lib.hid rfl) (Lib.hid rfl) (Lib.hid rfl) (Lib.hid rfl)
end Go.Proofs.YtfagpeacilfaaaaDoor
