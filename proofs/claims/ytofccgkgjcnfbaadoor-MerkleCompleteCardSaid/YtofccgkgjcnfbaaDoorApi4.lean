/-
  The contract of merkle's CheckRange.
  Conditions: at most 2^30 leaves and sides, keys and values of at most 2^30 bytes; the table of the round constants is as the text lays it.
-/
import Derived.Test.YtofccgkgjcnfbaaDoorApi3
namespace Go.Proofs.YtofccgkgjcnfbaaDoor
open Go.RowKit Wr Sh
set_option linter.unusedVariables false
set_option maxRecDepth 100000

/-- The leaves that a call returned. -/
def LvR (b : Nat) (W : World) (L : List Lf) (n : Nat) (A : Option Addr) (c : Nat) : Prop :=
  n = L.length ∧ Rd W W.heap.size A (LC L) ∧ n ≤ c ∧ (A = none → c = 0) ∧ ∀ ad, A = some ad → b ≤ ad.block
theorem LvR.none (b : Nat) (W : World) : LvR b W [] 0 none 0 := ⟨rfl, fun h => absurd rfl h, Nat.le_refl _, fun _ => rfl, fun _ h => by cases h⟩
set_option maxHeartbeats 8000000 in
theorem checkRange_any (root : List UInt8) (k t : ByteArray) (p : Pf) (A1 A2 : Option Addr) (c1 c2 : Nat) (w : World) (hroot : root.length = 16) (hp : PfAt w w.heap.size p A1 A2 c1 c2) (ht : Tab 1 w) :
    Calls Tryd.prog 32 #[.agg (B8 root).toArray, .string k, .string t, .agg #[.int .i64 p.first, .int .i64 p.size, .slice A1 p.leaves.length c1, .slice A2 p.sides.length c2]] w fun e w' =>
      ∃ A n c, e = .returned (.tuple #[.slice A n c, .int .i64 (checkRangeR node lf top root k t p).2]) ∧ LvR w.heap.size w' (checkRangeR node lf top root k t p).1 n A c ∧ Below w.heap.size w w' := by
  obtain ⟨r, hr⟩ : ∃ r, r = checkRangeR node lf top root k t p := ⟨_, rfl⟩
  rw [← hr]
  have HR := Lib.hid hr
  clear hr
  obtain ⟨W1, hW1⟩ : ∃ W, W = (w.alloc (.cells (B8 root).toArray 29)).alloc (.cells #[.int .i64 p.first, .int .i64 p.size, .slice A1 p.leaves.length c1, .slice A2 p.sides.length c2] 50) := ⟨_, rfl⟩
  have hb1 : Below w.heap.size w W1 := by rw [hW1]; exact ((Below.refl w.heap.size w).alloc (Nat.le_refl _) _).alloc (by simp) _
  have HB1 := Lib.hid hb1
  have P1 := Lib.hid (show Blk W1 (w.heap.size + 1) 50 (PR p.first p.size (.slice A1 p.leaves.length c1) (.slice A2 p.sides.length c2)) by rw [hW1]; exact Blk.newAt _ _ 50 (PR p.first p.size (.slice A1 p.leaves.length c1) (.slice A2 p.sides.length c2)) (by simp))
  have R1 := Lib.hid (show Blk W1 w.heap.size 29 (B8 root) by rw [hW1]; exact (Blk.new w 29 (B8 root)).alloc _)
  have HRl := Lib.hid hroot
  have hp1 : PfAt W1 W1.heap.size p A1 A2 c1 c2 := ⟨(hp.r1.below hb1).more hb1.size, (hp.r2.below hb1).more hb1.size, hp.k1, hp.k2, hp.okl, hp.oks, hp.oki⟩
  have HU := Lib.hid (under_any root p A1 A2 c1 c2 W1 hroot hp1 (ht.below hb1 ht.1))
  have HW := Lib.hid hW1
  have L1 := Lib.hid P1.out.at
  have L0 := Lib.hid R1.out.at
  have HP := Lib.hid hp
  have HT := Lib.hid ht
  obtain ⟨f, sz, L, S⟩ := p
  dsimp only at *
  have hln := hp.okl.1
  cases hs : sl t k with
  | true =>
    have HE := Lib.hid (show r = ([], 5) by rw [HR.out]; unfold checkRangeR; rw [if_pos hs])
    have i1 : Op.bytesLess t.toList k.toList = true := by rw [lss_str]; exact hs
    have HB0 := Lib.hid (show Below w.heap.size w ((w.alloc (.cells (B8 root).toArray 29)).alloc (.cells #[.int .i64 f, .int .i64 sz, .slice A1 L.length c1, .slice A2 S.length c2] 50)) by rw [← HW.out]; exact hb1)
    clear hs hp hp1 hb1 hW1 ht hroot HU
    go_enter Tryd.func32, Tryd.ntmps32
    go_wp2_with fail
    go_ret2
    exact ⟨none, 0, 0, by rw [HE.out]; rfl, by rw [HE.out]; exact LvR.none _ _, HB0.out⟩
  | false =>
  have i1 : Op.bytesLess t.toList k.toList = false := by rw [lss_str]; exact hs
  cases hu : underB node lf top root ⟨f, sz, L, S⟩ with
  | false =>
    have HE := Lib.hid (show r = ([], 17) by rw [HR.out]; unfold checkRangeR; rw [if_neg (by rw [hs]; simp), if_neg (by rw [hu]; simp)])
    rw [hu] at HU
    clear hu hs hp hp1 hb1 hW1 ht hroot
    go_enter Tryd.func32, Tryd.ntmps32
    go_upto_region 1 with fail
    rw [← HW.out]
    go_wp2_with (first
      | (refine wpList_load_at rfl 29 (.tmp 4) rfl ⟨w.heap.size, 0, none⟩ rfl (B8 root) (.array 16 5) L0.out Tryd.underlying29 rfl (size29 _ HRl.out) ?_)
      | (refine wpList_load_at rfl 50 (.tmp 7) rfl ⟨w.heap.size + 1, 0, none⟩ rfl (PR f sz (.slice A1 L.length c1) (.slice A2 S.length c2)) _ L1.out Tryd.underlying50 rfl (size50L _ _ _ _) ?_)
      | (go_at_call 59; refine HU.out.mono ?_; rintro e w2 ⟨rfl, hb2⟩; have HB2 := Lib.hid hb2; clear hb2))
    go_ret2
    exact ⟨none, 0, 0, by rw [HE.out]; rfl, by rw [HE.out]; exact LvR.none _ _, HB1.out.trans (HB2.out.mono HB1.out.size)⟩
  | true =>
    have hform : formP ⟨f, sz, L, S⟩ = true := by unfold underB at hu; exact (Bool.and_eq_true_iff.1 hu).1
    have hf0 : 0 ≤ f ∧ f ≤ 4096 ∧ ord L := by
      unfold formP at hform
      simp only [Bool.and_eq_true, decide_eq_true_eq] at hform
      obtain ⟨⟨⟨h1, h2, h3, h4⟩, _⟩, h5⟩ := hform
      exact ⟨h3, by omega, (valid_ok h5).2.2⟩
    obtain ⟨f0, f1, ho⟩ := hf0
    obtain ⟨n, hn⟩ : ∃ n, n = cb L k := ⟨_, rfl⟩
    obtain ⟨q, hq⟩ : ∃ q, q = cb L t := ⟨_, rfl⟩
    have hql : q ≤ L.length := by rw [hq]; exact cb_le L t
    have hnq : n ≤ q := by rw [hn, hq]; exact cb_mono hs
    have HC : Hid (∀ W, Below w.heap.size w W → Calls Tryd.prog 54 #[.slice A1 L.length c1, .string k] W fun e w' => e = .returned (.int .i64 (n : Int)) ∧ Below W.heap.size W w') := Lib.hid (fun W hb => by
      rw [hn]; exact count_any A1 L c1 k W hln ho ((HP.out.r1.below hb).more hb.size))
    have HD : Hid (∀ W, Below w.heap.size w W → Calls Tryd.prog 54 #[.slice A1 L.length c1, .string t] W fun e w' => e = .returned (.int .i64 (q : Int)) ∧ Below W.heap.size W w') := Lib.hid (fun W hb => by
      rw [hq]; exact count_any A1 L c1 t W hln ho ((HP.out.r1.below hb).more hb.size))
    obtain ⟨b, hb⟩ : ∃ b, b = bndB f sz L.length n q := ⟨_, rfl⟩
    have HBD : Hid (∀ W, Calls Tryd.prog 60 #[.agg (PR f sz (.slice A1 L.length c1) (.slice A2 S.length c2)).toArray, .int .i64 (n : Int), .int .i64 (q : Int)] W fun en w' => en = .returned (.bool b) ∧ Below W.heap.size W w') := Lib.hid (fun W => by rw [hb]; exact bounded_any f sz A1 A2 L.length c1 S.length c2 n q W f0 (by omega) hln)
    have HE := Lib.hid (show r = if b = true then (cut L n q, 0) else ([], 17) by
      rw [HR.out]; unfold checkRangeR; rw [if_neg (by rw [hs]; simp), if_pos hu, ← hn, ← hq, hb]; rfl)
    rw [hu] at HU
    obtain ⟨AP, hAP⟩ : ∃ AP, AP = (if c1 = n then A1 else A1.map (·.add (n * 2))) := ⟨_, rfl⟩
    have hcap := HP.out.k1.1
    have hnl := HP.out.k1.2
    dsimp only at hcap hnl
    have HSL := Lib.hid (fun W => show (Instr.sliceAt 33 (.slice A1 L.length c1) (some (.int .i64 (n : Int))) (some (.int .i64 (q : Int))) none).run Tryd.prog W = .ok (.slice AP (q - n) (c1 - n)) W by rw [hAP]; exact slice33 A1 L.length c1 n q hnq hql hcap W)
    have HNP := Lib.hid (show AP = none → c1 - n = 0 by
      intro h; rw [hAP] at h
      split at h
      · omega
      · cases A1 with
        | none => have := hnl rfl; omega
        | some ad => simp at h)
    have HCL := Lib.hid (cut_len L n q hql)
    have HRP := Lib.hid (show Rd w w.heap.size AP (LC (cut L n q)) by rw [hAP]; exact rd_part HP.out.r1 c1 n q hnq hql hcap)
    clear hu hs hn hq ho hform hp hp1 hb1 hW1 ht hroot hb hAP
    go_enter Tryd.func32, Tryd.ntmps32
    go_upto_region 1 with fail
    rw [← HW.out]
    go_wp2_with (first
      | (refine wpList_load_at rfl 29 (.tmp 4) rfl ⟨w.heap.size, 0, none⟩ rfl (B8 root) (.array 16 5) L0.out Tryd.underlying29 rfl (size29 _ HRl.out) ?_)
      | (refine wpList_load_at rfl 50 (.tmp 7) rfl ⟨w.heap.size + 1, 0, none⟩ rfl (PR f sz (.slice A1 L.length c1) (.slice A2 S.length c2)) _ L1.out Tryd.underlying50 rfl (size50L _ _ _ _) ?_)
      | (go_at_call 59; refine HU.out.mono ?_; rintro e w2 ⟨rfl, hb2⟩; have HB2 := Lib.hid hb2; clear hb2))
    have P2 := Lib.hid (P1.out.below HB2.out P1.out.lt)
    have B2 := Lib.hid (HB1.out.trans (HB2.out.mono HB1.out.size))
    refine wp_region_held (S := fun W => W.cell? ⟨w.heap.size + 1, 2, none⟩ = some (.slice A1 L.length c1)) (by kernel_rfl) ?_
    change wpAnyH _ _ _ _ _ _ _ _ (World.drew w2)
    have BD := Lib.hid B2.out.drew
    have PD := Lib.hid P2.out.drew
    have hs0 : (World.drew w2).cell? ⟨w.heap.size + 1, 2, none⟩ = some (.slice A1 L.length c1) := (PD.out.cell 2).trans rfl
    generalize World.drew w2 = Wd at BD PD hs0 ⊢
    refine wpAnyH_take (i := 0) (oi := { dst := some 19, op := Op.fieldAddr 50 (Operand.tmp 7) 2, type := 0, pos := "merkle.go:99", after := #[], guard := none }) (v := .pointer (some ⟨w.heap.size + 1, 2, none⟩)) rfl (by kernel_rfl) (by kernel_rfl) (by kernel_rfl) (fun _ _ _ h => h) (Or.inl ⟨by rfl, fun W hW => ?y1⟩) hs0 ?_
    case y1 => go_simp
    try dsimp only [Act.put]
    try simp only [List.setIfInBounds_toArray, List.set_cons_zero, List.set_cons_succ]
    refine wpAnyH_take (i := 1) (oi := { dst := some 20, op := Op.load 33 (Operand.tmp 19), type := 33, pos := "merkle.go:99", after := #[{ on := 0, ground := Ground.data }], guard := none }) (v := .slice A1 L.length c1) rfl (by kernel_rfl) (by kernel_rfl) (by kernel_rfl) (fun _ _ _ h => h) (Or.inl ⟨by rfl, fun W hW => by have hcl := hW; go_simp⟩) hs0 ?_
    try dsimp only [Act.put]
    try simp only [List.setIfInBounds_toArray, List.set_cons_zero, List.set_cons_succ]
    refine wpAnyH_take (i := 2) (oi := { dst := some 21, op := Op.move (Operand.tmp 1), type := 9, pos := "merkle.go:99", after := #[], guard := none }) (v := .string k) rfl (by kernel_rfl) (by kernel_rfl) (by kernel_rfl) (fun _ _ _ h => h) (Or.inl ⟨by rfl, fun W hW => ?y3⟩) hs0 ?_
    case y3 => go_simp
    try dsimp only [Act.put]
    try simp only [List.setIfInBounds_toArray, List.set_cons_zero, List.set_cons_succ]
    refine wpAnyH_take (i := 4) (oi := { dst := some 23, op := Op.fieldAddr 50 (Operand.tmp 7) 2, type := 0, pos := "merkle.go:99", after := #[], guard := none }) (v := .pointer (some ⟨w.heap.size + 1, 2, none⟩)) rfl (by kernel_rfl) (by kernel_rfl) (by kernel_rfl) (fun _ _ _ h => h) (Or.inl ⟨by rfl, fun W hW => ?y4⟩) hs0 ?_
    case y4 => go_simp
    try dsimp only [Act.put]
    try simp only [List.setIfInBounds_toArray, List.set_cons_zero, List.set_cons_succ]
    refine wpAnyH_take (i := 5) (oi := { dst := some 24, op := Op.load 33 (Operand.tmp 23), type := 33, pos := "merkle.go:99", after := #[{ on := 4, ground := Ground.data }], guard := none }) (v := .slice A1 L.length c1) rfl (by kernel_rfl) (by kernel_rfl) (by kernel_rfl) (fun _ _ _ h => h) (Or.inl ⟨by rfl, fun W hW => by have hcl := hW; go_simp⟩) hs0 ?_
    try dsimp only [Act.put]
    try simp only [List.setIfInBounds_toArray, List.set_cons_zero, List.set_cons_succ]
    refine wpAnyH_take (i := 6) (oi := { dst := some 25, op := Op.move (Operand.tmp 2), type := 9, pos := "merkle.go:99", after := #[], guard := none }) (v := .string t) rfl (by kernel_rfl) (by kernel_rfl) (by kernel_rfl) (fun _ _ _ h => h) (Or.inl ⟨by rfl, fun W hW => ?y6⟩) hs0 ?_
    case y6 => go_simp
    try dsimp only [Act.put]
    try simp only [List.setIfInBounds_toArray, List.set_cons_zero, List.set_cons_succ]
    refine wpAnyH_ready (rs := [3]) (by kernel_rfl) (by simp) ?_
    refine AllReadyH.cons (o := { dst := some 22, op := Op.call { callee := Callee.value (Operand.func 54), args := #[Operand.tmp 20, Operand.tmp 21], argTypes := #[33, 9] }, type := 3, pos := "merkle.go:99", after := #[{ on := 1, ground := Ground.data }, { on := 2, ground := Ground.data }], guard := none }) rfl (fun K hK => ?_) AllReadyH.nil
    rw [if_pos (by rfl)]
    go_simp
    refine (HC.out _ BD.out).mono ?_; rintro e w3 ⟨rfl, hb3⟩
    have B3 := Lib.hid (BD.out.trans (hb3.mono BD.out.size))
    have P3 := Lib.hid (PD.out.below hb3 PD.out.lt)
    have hs3 : w3.cell? ⟨w.heap.size + 1, 2, none⟩ = some (.slice A1 L.length c1) := (P3.out.cell 2).trans rfl
    clear hb3
    go_wp2_with fail
    refine hK.out _ _ hs3 (fun _ => ?_)
    clear hK K
    try dsimp only [Act.put]
    try simp only [List.setIfInBounds_toArray, List.set_cons_zero, List.set_cons_succ]
    refine wpAnyH_ready (rs := [7]) (by kernel_rfl) (by simp) ?_
    refine AllReadyH.cons (o := { dst := some 26, op := Op.call { callee := Callee.value (Operand.func 54), args := #[Operand.tmp 24, Operand.tmp 25], argTypes := #[33, 9] }, type := 3, pos := "merkle.go:99", after := #[{ on := 5, ground := Ground.data }, { on := 6, ground := Ground.data }, { on := 3, ground := Ground.chain }], guard := none }) rfl (fun K hK => ?_) AllReadyH.nil
    rw [if_pos (by rfl)]
    go_simp
    refine (HD.out _ B3.out).mono ?_; rintro e w4 ⟨rfl, hb4⟩
    have B4 := Lib.hid (B3.out.trans (hb4.mono B3.out.size))
    have P4 := Lib.hid (P3.out.below hb4 P3.out.lt)
    have hs4 : w4.cell? ⟨w.heap.size + 1, 2, none⟩ = some (.slice A1 L.length c1) := (P4.out.cell 2).trans rfl
    clear hb4
    go_wp2_with fail
    refine hK.out _ _ hs4 (fun _ => ?_)
    clear hK K
    try dsimp only [Act.put]
    try simp only [List.setIfInBounds_toArray, List.set_cons_zero, List.set_cons_succ]
    refine wpAnyH_ready (rs := [8]) (by kernel_rfl) (by simp) ?_
    refine AllReadyH.cons (o := { dst := some 10, op := Op.assign (Operand.tmp 22), type := 3, pos := "merkle.go:99", after := #[{ on := 3, ground := Ground.data }, { on := 7, ground := Ground.chain }, { on := 0, ground := Ground.phase }, { on := 1, ground := Ground.phase }, { on := 2, ground := Ground.phase }, { on := 3, ground := Ground.phase }, { on := 4, ground := Ground.textOnly Departure.lateStores }, { on := 5, ground := Ground.textOnly Departure.lateStores }, { on := 6, ground := Ground.textOnly Departure.lateStores }, { on := 7, ground := Ground.textOnly Departure.lateStoresUnsure }], guard := none }) rfl (fun K hK => ?_) AllReadyH.nil
    rw [if_pos (by rfl)]
    go_simp
    refine hK.out _ _ hs4 (fun _ => ?_)
    clear hK K
    try dsimp only [Act.put]
    try simp only [List.setIfInBounds_toArray, List.set_cons_zero, List.set_cons_succ]
    refine wpAnyH_ready (rs := [9]) (by kernel_rfl) (by simp) ?_
    refine AllReadyH.cons (o := { dst := some 11, op := Op.assign (Operand.tmp 26), type := 3, pos := "merkle.go:99", after := #[{ on := 7, ground := Ground.data }, { on := 8, ground := Ground.chain }, { on := 0, ground := Ground.phase }, { on := 1, ground := Ground.phase }, { on := 2, ground := Ground.phase }, { on := 3, ground := Ground.phase }, { on := 4, ground := Ground.phase }, { on := 5, ground := Ground.phase }, { on := 6, ground := Ground.phase }, { on := 7, ground := Ground.phase }, { on := 8, ground := Ground.phase }], guard := none }) rfl (fun K hK => ?_) AllReadyH.nil
    rw [if_pos (by rfl)]
    go_simp
    refine hK.out _ _ hs4 (fun _ => ?_)
    clear hK K
    try dsimp only [Act.put]
    try simp only [List.setIfInBounds_toArray, List.set_cons_zero, List.set_cons_succ]
    refine wpAnyH_done (by kernel_rfl) ?_ _
    try dsimp only [Act.put]
    try simp only [List.setIfInBounds_toArray, List.set_cons_zero, List.set_cons_succ]
    have L4 := Lib.hid P4.out.at
    clear hs0 hs3 hs4 HU HC HD
    cases b with
    | false =>
      go_wp2_with (first
        | (refine wpList_load_at rfl 50 (.tmp 7) rfl ⟨w.heap.size + 1, 0, none⟩ rfl (PR f sz (.slice A1 L.length c1) (.slice A2 S.length c2)) _ L4.out Tryd.underlying50 rfl (size50L _ _ _ _) ?_)
        | (go_at_call 60; refine (HBD.out _).mono ?_; rintro e w5 ⟨rfl, hb5⟩; have HB5 := Lib.hid hb5; clear hb5))
      go_ret2
      exact ⟨none, 0, 0, by rw [HE.out]; rfl, by rw [HE.out]; exact LvR.none _ _, B4.out.trans (HB5.out.mono B4.out.size)⟩
    | true =>
      go_upto_region 8 with (first
        | (refine wpList_load_at rfl 50 (.tmp 7) rfl ⟨w.heap.size + 1, 0, none⟩ rfl (PR f sz (.slice A1 L.length c1) (.slice A2 S.length c2)) _ L4.out Tryd.underlying50 rfl (size50L _ _ _ _) ?_)
        | (go_at_call 60; refine (HBD.out _).mono ?_; rintro e w5 ⟨rfl, hb5⟩; have HB5 := Lib.hid hb5; clear hb5))
      have P5 := Lib.hid (P4.out.below HB5.out P4.out.lt)
      have B5 := Lib.hid (B4.out.trans (HB5.out.mono B4.out.size))
      have q5 : w5.cell? ⟨w.heap.size + 1, 2, none⟩ = some (.slice A1 L.length c1) := (P5.out.cell 2).trans rfl
      have hsl := HSL.out
      have hm1 : 0 + (q - n) ≤ 4294967296 := by omega
      go_wp2_with (at_builtin; refine wpList_append_leaves Tryd.underlying33 info41 rfl (.const (.slice none 0 0)) (.tmp 36) rfl w5.heap.size (.slice none 0 0) 0 [] rfl (World.ownsRow_nil _ _ _ _) AP (q - n) (c1 - n) w.heap.size (cut L n q) rfl HNP.out HCL.out (HRP.out.below B5.out) hm1 (Nat.le_refl _) ?_; intro v6 w6 ho6 hg6; obtain ⟨A6, c6, hv6, hc6, hn6, hr6⟩ := own_form ho6; subst hv6; have HO6 := Lib.hid ho6; have HG6 := Lib.hid hg6; have H6 := Lib.hid (And.intro hc6 (And.intro hn6 hr6)); clear ho6 hg6 hc6 hn6 hr6)
      go_ret2
      have hb6 : Below w5.heap.size w5 w6 := ⟨HG6.out.os, HG6.out.tape, HG6.out.output, HG6.out.size, fun k hk => HG6.out.block k hk (by simp [Value.ownBlock])⟩
      obtain ⟨hc6, hn6, hr6⟩ := H6.out
      refine ⟨A6, q - n, c6, by rw [HE.out]; rfl, ?_, B5.out.trans (hb6.mono B5.out.size)⟩
      rw [HE.out]
      refine ⟨HCL.out.symm, by simpa using hr6, by omega, hn6, fun ad e => ?_⟩
      subst e
      have := (HO6.out.lt ad.block rfl).1
      have := B5.out.size
      omega
end Go.Proofs.YtofccgkgjcnfbaaDoor
