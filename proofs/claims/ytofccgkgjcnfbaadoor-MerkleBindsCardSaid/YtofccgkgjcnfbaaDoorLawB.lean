/-
  The walk of the law MerkleBinds.
  Conditions: the tables of the round constants are as the text lays them.
-/
import Derived.Test.YtofccgkgjcnfbaaDoorLawR
import Derived.Test.YtofccgkgjcnfbaaDoorBents
import Derived.Test.YtofccgkgjcnfbaaDoorColl
import Derived.Test.YtofccgkgjcnfbaaDoorRMath3
namespace Go.Proofs.YtofccgkgjcnfbaaDoor
open Go.RowKit Wr Sh
set_option linter.unusedVariables false
set_option maxRecDepth 100000

/-- A list of leaves in its cell, also one that was changed. -/
def HasM (W : World) (B : Nat) (u : Value) : Prop := ∃ A L c, u = .slice A L.length c ∧ LsAt W B A L c ∧ L.length ≤ 12
theorem lists_atM {W : World} {B : Nat} {U0 U1 U2 : Value} (h0 : HasM W B U0) (h1 : HasM W B U1) (h2 : HasM W B U2) (i : Nat) (hi : i < 3) : ∃ U, [U0, U1, U2][i]? = some U ∧ HasM W B U := by
  have : i = 0 ∨ i = 1 ∨ i = 2 := by omega
  rcases this with rfl | rfl | rfl
  · exact ⟨U0, rfl, h0⟩
  · exact ⟨U1, rfl, h1⟩
  · exact ⟨U2, rfl, h2⟩
theorem s5_below {gl i j gx gy gw : Nat} {u v : Value} {R Q P : List Value} {W W' : World} (h : Blk W gx 29 R ∧ Blk W gy 29 Q ∧ W.cell? ⟨gl, i, none⟩ = some u ∧ W.cell? ⟨gl, j, none⟩ = some v ∧ Blk W gw 54 P) (hb : Below W.heap.size W W') : Blk W' gx 29 R ∧ Blk W' gy 29 Q ∧ W'.cell? ⟨gl, i, none⟩ = some u ∧ W'.cell? ⟨gl, j, none⟩ = some v ∧ Blk W' gw 54 P :=
  ⟨h.1.below hb h.1.lt, h.2.1.below hb h.2.1.lt, (hb.cell (p := ⟨gl, i, none⟩) (World.block_lt_of_cell? _ _ h.2.2.1)).trans h.2.2.1, (hb.cell (p := ⟨gl, j, none⟩) (World.block_lt_of_cell? _ _ h.2.2.2.1)).trans h.2.2.2.1, h.2.2.2.2.below hb h.2.2.2.2.lt⟩
theorem bent_leaves (L : List Lf) (A : Option Addr) (c n : Nat) (q by_ : Int) (w : World) (hn : n = L.length) (hn4 : n ≤ 11) (hM : ∀ x ∈ L, x.1.size ≤ 3 ∧ x.2.size ≤ 3) (h : LsAt w w.heap.size A L c) (hq : q = 4 ∨ q = 5 ∨ q = 6 ∨ q = 7) (hby : okInt by_) :
    Calls Tryd.prog 28 #[.agg #[.int .i64 0, .int .i64 0, .slice A n c, .slice none 0 0], .int .i64 q, .int .i64 by_] w fun e w' => ∃ (f sz : Int) (L' : List Lf) (n' m' : Nat) (A1 : Option Addr) (c1 : Nat) (A2 : Option Addr) (c2 : Nat), e = .returned (.agg (PR f sz (.slice A1 n' c1) (.slice A2 m' c2)).toArray) ∧ LsAt w' w'.heap.size A1 L' c1 ∧ n' = L'.length ∧ n' ≤ 12 ∧ Below w.heap.size w w' := by
  have := bent_any 0 0 L [] A none n 0 c 0 3 q q by_ w hn rfl (by omega) (by omega) hM h.rd Rd.nil h.nil (fun _ => rfl) (by simp) hq (by rcases hq with rfl | rfl | rfl | rfl <;> rfl) (by unfold okInt; omega) hby ⟨by decide, by decide⟩ ⟨by decide, by decide⟩ (by decide)
  refine Calls.mono this ?_
  rintro e w' ⟨f, sz, L', S', n', m', A1, c1, A2, c2, rfl, ho, _, hb, h1, _, _, h2, _, h3, _, _⟩
  obtain ⟨A', c', e1, h5, h6, h7⟩ := own_form ho
  cases e1
  exact ⟨f, sz, L', n', m', A1, c1, A2, c2, rfl, ⟨h7, by omega, h6, ⟨by omega, fun x hx => by have := h3 x hx; omega⟩⟩, h1, by omega, hb⟩
theorem rootR_nil : rootR [] = dof 4 [bs (enc 0)] := by
  rw [rootR_ok [] (by rfl), rootD_eq]; rfl
theorem valid_vals (L : List Lf) : validE L = 0 ∨ validE L = 1 ∨ validE L = 4 := by
  unfold validE; split
  · exact .inr (.inr rfl)
  · split
    · exact .inr (.inr rfl)
    · split
      · exact .inl rfl
      · exact .inr (.inl rfl)
set_option maxHeartbeats 16000000 in
theorem binds_walk (A : Option Addr) (l : List Int) (c : Nat) (A' : Option Addr) (l2 : List Int) (c' : Nat) (how by_ : Int) (w : World) (hl : l.length ≤ 281474976710656) (hr : Rd w w.heap.size A (I64 l)) (ho : ∀ x ∈ l, okInt x)
    (hl2 : l2.length ≤ 281474976710656) (hr2 : Rd w w.heap.size A' (I64 l2)) (ho2 : ∀ x ∈ l2, okInt x) (hhow : okInt how) (hby : okInt by_) (ht0 : Tab 0 w) (ht : Tab 1 w) :
    Calls Tryd.prog 9 #[.slice A l.length c, .slice A' l2.length c', .int .i64 how, .int .i64 by_] w fun e w' => e = .returned (.bool true) ∧ Below w.heap.size w w' := by
  have HT := Lib.hid ht
  have HT0 := Lib.hid ht0
  obtain ⟨La, hLa⟩ : ∃ L, L = genL l := ⟨_, rfl⟩
  obtain ⟨Lb, hLb⟩ : ∃ L, L = genL l2 := ⟨_, rfl⟩
  obtain ⟨N1, hN1⟩ : ∃ n, n = La.length := ⟨_, rfl⟩
  obtain ⟨N2, hN2⟩ : ∃ n, n = Lb.length := ⟨_, rfl⟩
  have HN1 := Lib.hid (show N1 = La.length ∧ N1 ≤ 11 from ⟨hN1, by rw [hN1, hLa]; exact genL_len l⟩)
  have HN2 := Lib.hid (show N2 = Lb.length ∧ N2 ≤ 11 from ⟨hN2, by rw [hN2, hLb]; exact genL_len l2⟩)
  have HMa := Lib.hid (show ∀ x ∈ La, x.1.size ≤ 3 ∧ x.2.size ≤ 3 from fun x hx => by rw [hLa] at hx; have := gls_sizes l _ x hx; omega)
  have HC0 := Lib.hid (show Calls Tryd.prog 10 #[.slice A l.length c] w fun e w' => ∃ A1 c1, e = .returned (.slice A1 N1 c1) ∧ LsAt w' w'.heap.size A1 La c1 ∧ Below w.heap.size w w' from by
    refine (leaves_any A l c w hl hr ho).mono ?_
    rintro e w' ⟨A1, c1, rfl, h1, h2, h3, h4⟩
    rw [hN1, hLa]; exact ⟨A1, c1, rfl, ⟨h3, h1, h2, genL_ok l⟩, h4⟩)
  have HC1 := Lib.hid (fun (W : World) (hb : Below w.heap.size w W) => show Calls Tryd.prog 10 #[.slice A' l2.length c'] W fun e w' => ∃ A1 c1, e = .returned (.slice A1 N2 c1) ∧ LsAt w' w'.heap.size A1 Lb c1 ∧ Below W.heap.size W w' from by
    refine (leaves_any A' l2 c' W hl2 ((hr2.below hb).more hb.size) ho2).mono ?_
    rintro e w' ⟨A1, c1, rfl, h1, h2, h3, h4⟩
    rw [hN2, hLb]; exact ⟨A1, c1, rfl, ⟨h3, h1, h2, genL_ok l2⟩, h4⟩)
  obtain ⟨q, hq⟩ : ∃ q : Nat, ar how 4 = (q : Int) := ⟨(ar how 4).toNat, by have := (ar_bounds how 4 (by decide)).1; omega⟩
  have hq4 : q < 4 := by have := (ar_bounds how 4 (by decide)).2; omega
  have HAR := Lib.hid (fun W => show Calls Tryd.prog 17 #[.int .i64 how, .int .i64 4] W fun e w' => e = .returned (.int .i64 (q : Int)) ∧ W = w' from by
    have := around_any how 4 hhow.1 (by have := hhow.2; omega) (by decide) (by decide) W
    rw [hq] at this
    exact this.mono fun e w' h => ⟨h.1, h.2.symm⟩)
  obtain ⟨hw, hhw⟩ : ∃ k : Nat, k = 4 + q := ⟨_, rfl⟩
  have hwI : (4 : Int) + (q : Int) = (hw : Int) := by omega
  have HB := Lib.hid (fun (W : World) (A1 : Option Addr) (c1 : Nat) (h : LsAt W W.heap.size A1 La c1) => bent_leaves La A1 c1 N1 (hw : Int) by_ W HN1.out.1 HN1.out.2 HMa.out h (by omega) hby)
  clear hl hr ho hl2 hr2 ho2 hhow hby ht0 ht hLa hLb hN1 hN2 hq hhw HMa
  generalize l.length = NA at HC0 ⊢
  generalize l2.length = NN at HC1 ⊢
  go_enter Tryd.func9, Tryd.ntmps9
  go_upto_region 2 with (go_at_call 10; refine HC0.out.mono ?_; rintro e w1 ⟨A1, c1, rfl, hls1, hb1⟩; have L1 := Lib.hid hls1; have Bs1 := Lib.hid hb1; clear hls1 hb1)
  go_wp2_with (go_at_call 17; refine (HAR.out _).mono ?_; rintro e wx ⟨rfl, rfl⟩)
  refine (HB.out w1 A1 c1 L1.out).mono ?_; rintro e w2 ⟨f3, s3, L3, N3, m3, A3, c3, A4, c4, rfl, hls3, hn3, hn12, hb2⟩
  have L3a := Lib.hid hls3
  have HN3 := Lib.hid (And.intro hn3 hn12)
  have Bs2 := Lib.hid (Bs1.out.trans (hb2.mono Bs1.out.size))
  have L1a := Lib.hid ((L1.out.below hb2).more hb2.size)
  obtain ⟨W4, hW4⟩ : ∃ W, W = (w2.alloc (.cells ZP.toArray 54)).setRow w2.heap.size (PR f3 s3 (.slice A3 N3 c3) (.slice A4 m3 c4)).toArray := ⟨_, rfl⟩
  have hb4 : Below w2.heap.size w2 W4 := by rw [hW4]; exact belowRow ((Below.refl _ _).alloc (Nat.le_refl _) _) (Nat.le_refl _) _
  have BW := Lib.hid (Bs2.out.trans (hb4.mono Bs2.out.size))
  have X4 := Lib.hid (show Blk W4 w2.heap.size 54 (PR f3 s3 (.slice A3 N3 c3) (.slice A4 m3 c4)) by rw [hW4]; exact (Blk.new w2 54 ZP).row _)
  have L1b := Lib.hid ((L1a.out.below hb4).more hb4.size)
  have L3b := Lib.hid ((L3a.out.below hb4).more hb4.size)
  have HE := Lib.hid hW4
  have hZ := hZP
  clear hls3 hn3 hn12 hb2 L1 L3a L1a hW4 hb4 HB HAR HC0
  go_upto_region 3 with (with_reducible refine wpList_store_row rfl 54 (.tmp 10) (.tmp 29) rfl w2.heap.size (PR f3 s3 (.slice A3 N3 c3) (.slice A4 m3 c4)).toArray rfl rfl 54 _ (heap_alloc_new w2 _) (size54A _ _ _ _) (ZP_PR _ _ _ _) (PR_one _ _ _ _ _ _ _ _) ?_)
  rw [← HE.out]
  dsimp only [Act.put]
  obtain ⟨gb, hgb⟩ : ∃ g, g = w2.heap.size := ⟨_, rfl⟩
  rw [← hgb] at X4 ⊢
  have HS4 := Lib.hid (show W4.cell? ⟨gb, 2, none⟩ = some (.slice A3 N3 c3) from (X4.out.cell 2).trans rfl)
  clear HE hgb X4
  go_cut [11] (fun s11 wx => ∃ gl A5 c5, s11 = .slice (some ⟨gl, 0, none⟩) 3 3 ∧ Hid (Blk wx gl 24 [.slice A1 N1 c1, .slice A5 N2 c5, .slice A3 N3 c3] ∧ LsAt wx wx.heap.size A5 Lb c5 ∧ Below W4.heap.size W4 wx))
  case first =>
    refine wp_region_held (S := fun W => W.cell? ⟨gb, 2, none⟩ = some (.slice A3 N3 c3)) (by kernel_rfl) ?_
    change wpAnyH _ _ _ _ _ _ _ _ (World.drew W4)
    have k0 := Lib.hid (Below.refl W4.heap.size W4).drew
    have hs0 : (World.drew W4).cell? ⟨gb, 2, none⟩ = some (.slice A3 N3 c3) := HS4.out
    generalize World.drew W4 = Wd at k0 hs0 ⊢
    refine wpAnyH_take (i := 0) (oi := { dst := some 30, op := Op.move (Operand.tmp 9), type := 24, pos := "law.go:246", after := #[], guard := none }) (v := .slice A1 N1 c1) rfl (by kernel_rfl) (by kernel_rfl) (by kernel_rfl) (fun _ _ _ h => h) (Or.inl ⟨by rfl, fun W hW => ?y1⟩) hs0 ?_
    case y1 => go_simp
    try dsimp only [Act.put]
    try simp only [List.setIfInBounds_toArray, List.set_cons_zero, List.set_cons_succ]
    refine wpAnyH_take (i := 1) (oi := { dst := some 31, op := Op.move (Operand.tmp 1), type := 22, pos := "law.go:246", after := #[], guard := none }) (v := .slice A' NN c') rfl (by kernel_rfl) (by kernel_rfl) (by kernel_rfl) (fun _ _ _ h => h) (Or.inl ⟨by rfl, fun W hW => ?y2⟩) hs0 ?_
    case y2 => go_simp
    try dsimp only [Act.put]
    try simp only [List.setIfInBounds_toArray, List.set_cons_zero, List.set_cons_succ]
    refine wpAnyH_take (i := 3) (oi := { dst := some 33, op := Op.fieldAddr 54 (Operand.tmp 10) 2, type := 0, pos := "law.go:246", after := #[], guard := none }) (v := .pointer (some ⟨gb, 2, none⟩)) rfl (by kernel_rfl) (by kernel_rfl) (by kernel_rfl) (fun _ _ _ h => h) (Or.inl ⟨by rfl, fun W hW => ?y3⟩) hs0 ?_
    case y3 => go_simp
    try dsimp only [Act.put]
    try simp only [List.setIfInBounds_toArray, List.set_cons_zero, List.set_cons_succ]
    refine wpAnyH_take (i := 4) (oi := { dst := some 34, op := Op.load 24 (Operand.tmp 33), type := 24, pos := "law.go:246", after := #[{ on := 3, ground := Ground.data }], guard := none }) (v := .slice A3 N3 c3) rfl (by kernel_rfl) (by kernel_rfl) (by kernel_rfl) (fun _ _ _ h => h) (Or.inl ⟨by rfl, fun W hW => by have hcl := hW; go_simp⟩) hs0 ?_
    try dsimp only [Act.put]
    try simp only [List.setIfInBounds_toArray, List.set_cons_zero, List.set_cons_succ]
    refine wpAnyH_ready (rs := [2]) (by kernel_rfl) (by simp) ?_
    refine AllReadyH.cons (o := { dst := some 32, op := Op.call { callee := Callee.value (Operand.func 10), args := #[Operand.tmp 31], argTypes := #[22] }, type := 24, pos := "law.go:246", after := #[{ on := 1, ground := Ground.data }], guard := none }) rfl (fun K hK => ?_) AllReadyH.nil
    rw [if_pos (by rfl)]
    have HCC := HC1.out Wd (BW.out.trans (k0.out.mono BW.out.size))
    go_simp
    refine HCC.mono ?_; rintro e w5 ⟨A5, c5, rfl, hls, hbt⟩
    clear HCC
    have k6 := Lib.hid (k0.out.trans (hbt.mono k0.out.size))
    have hs7 : w5.cell? ⟨gb, 2, none⟩ = some (.slice A3 N3 c3) := (hbt.cell (p := ⟨gb, 2, none⟩) (World.block_lt_of_cell? _ _ hs0)).trans hs0
    have o8 := Lib.hid hls
    clear hls hbt
    go_wp2_with fail
    refine hK.out _ _ hs7 (fun _ => ?_)
    clear hK K
    try dsimp only [Act.put]
    try simp only [List.setIfInBounds_toArray, List.set_cons_zero, List.set_cons_succ]
    refine wpAnyH_ready (rs := [5]) (by kernel_rfl) (by simp) ?_
    refine AllReadyH.cons (o := { dst := some 35, op := Op.buildSlice 27 3 #[(0, Operand.tmp 30), (1, Operand.tmp 32), (2, Operand.tmp 34)], type := 27, pos := "law.go:246", after := #[{ on := 0, ground := Ground.data }, { on := 2, ground := Ground.data }, { on := 4, ground := Ground.data }], guard := none }) rfl (fun K hK => ?_) AllReadyH.nil
    rw [if_pos (by rfl)]
    have hbt := (Below.refl w5.heap.size w5).alloc (Nat.le_refl _) (.cells #[.slice A1 N1 c1, .slice A5 N2 c5, .slice A3 N3 c3] 24)
    have k9 := Lib.hid (k6.out.trans (hbt.mono k6.out.size))
    have hs10 : (w5.alloc (.cells #[.slice A1 N1 c1, .slice A5 N2 c5, .slice A3 N3 c3] 24)).cell? ⟨gb, 2, none⟩ = some (.slice A3 N3 c3) := (hbt.cell (p := ⟨gb, 2, none⟩) (World.block_lt_of_cell? _ _ hs7)).trans hs7
    have o11 := Lib.hid ((o8.out.below hbt).more hbt.size)
    have b12 := Lib.hid (Blk.new w5 24 [.slice A1 N1 c1, .slice A5 N2 c5, .slice A3 N3 c3])
    clear hbt
    go_simp
    refine hK.out _ _ hs10 (fun _ => ?_)
    clear hK K
    try dsimp only [Act.put]
    try simp only [List.setIfInBounds_toArray, List.set_cons_zero, List.set_cons_succ]
    refine wpAnyH_take (i := 6) (oi := { dst := some 11, op := Op.assign (Operand.tmp 35), type := 27, pos := "law.go:246", after := #[{ on := 5, ground := Ground.data }, { on := 2, ground := Ground.chain }, { on := 0, ground := Ground.phase }, { on := 1, ground := Ground.phase }, { on := 2, ground := Ground.phase }, { on := 3, ground := Ground.phase }, { on := 4, ground := Ground.phase }, { on := 5, ground := Ground.phase }], guard := none }) (v := .slice (some ⟨w5.heap.size, 0, none⟩) 3 3) rfl (by kernel_rfl) (by kernel_rfl) (by kernel_rfl) (fun _ _ _ h => h) (Or.inl ⟨by rfl, fun W hW => ?y13⟩) hs10 ?_
    case y13 => go_simp
    try dsimp only [Act.put]
    try simp only [List.setIfInBounds_toArray, List.set_cons_zero, List.set_cons_succ]
    refine wpAnyH_done (by kernel_rfl) ?_ _
    try dsimp only [Act.put]
    try simp only [List.setIfInBounds_toArray, List.set_cons_zero, List.set_cons_succ]
    go_wp2_with fail
    go_meet
    exact ⟨w5.heap.size, A5, c5, rfl, Lib.hid ⟨b12.out, o11.out, k9.out⟩⟩
  case rest =>
  obtain ⟨gl, A5, c5, rfl, KE⟩ := hcut
  obtain ⟨W3, hW3⟩ : ∃ W, W = wc := ⟨_, rfl⟩
  rw [← hW3] at KE ⊢
  have Bs3 := Lib.hid (BW.out.trans (KE.out.2.2.mono BW.out.size))
  have KL := Lib.hid KE.out.1
  have U1 := Lib.hid (show HasM W3 W3.heap.size (.slice A1 N1 c1) from ⟨A1, La, c1, by rw [HN1.out.1], (L1b.out.below KE.out.2.2).more KE.out.2.2.size, by have := HN1.out; omega⟩)
  have U2 := Lib.hid (show HasM W3 W3.heap.size (.slice A5 N2 c5) from ⟨A5, Lb, c5, by rw [HN2.out.1], KE.out.2.1, by have := HN2.out; omega⟩)
  have U3 := Lib.hid (show HasM W3 W3.heap.size (.slice A3 N3 c3) from ⟨A3, L3, c3, by rw [HN3.out.1], (L3b.out.below KE.out.2.2).more KE.out.2.2.size, by have := HN3.out; omega⟩)
  have HU := Lib.hid (fun i hi => lists_atM U1.out U2.out U3.out i hi)
  have hgl3 : gl < W3.heap.size := KL.out.lt
  clear KE hW3 U1 U2 U3 L1b L3b HN1 HN2 HN3 HC1 HS4 BW Bs1 Bs2 hwI
  go_wp2_with fail
  go_loopw [12] (fun s12 wr => ∃ i : Nat, i ≤ 3 ∧ s12 = .int .i64 i ∧ Hid (Below W3.heap.size W3 wr)) (fun s12 _ => 3 - (intOf s12).toNat)
  case atStart => exact ⟨0, by omega, rfl, Lib.hid (Below.refl _ _)⟩
  case round =>
  obtain ⟨i, hi3, rfl, HB⟩ := hrel
  by_cases hlt : i < 3
  · obtain ⟨U, hU, Ai, Li, ci, rfl, hLSi, hL12i⟩ := HU.out i hlt
    have hltI : (i : Int) < 3 := by omega
    obtain ⟨Ni, hNi⟩ : ∃ n, n = Li.length := ⟨_, rfl⟩
    rw [← hNi] at hU
    have HCi := Lib.hid (show W3.cell? ⟨gl, i, none⟩ = some (.slice Ai Ni ci) from (KL.out.cell i).trans hU)
    have HNi := Lib.hid hNi
    have HL12i := Lib.hid hL12i
    have LSi := Lib.hid hLSi
    clear hU hLSi hL12i hNi
    go_wp2_with fail
    go_loopw [13] (fun s13 wr => ∃ j : Nat, j ≤ i ∧ s13 = .int .i64 j ∧ Hid (Below W3.heap.size W3 wr)) (fun s13 _ => i - (intOf s13).toNat)
    case atStart => exact ⟨0, by omega, rfl, HB⟩
    case round =>
    clear HB
    obtain ⟨j, hji, rfl, HB⟩ := hrel
    by_cases hjl : j < i
    · obtain ⟨U, hU, Aj, Lj, cj, rfl, hLSj, hL12j⟩ := HU.out j (by omega)
      have hjI : (j : Int) < (i : Int) := by omega
      have hj3I : (j : Int) < 3 := by omega
      obtain ⟨Nj, hNj⟩ : ∃ n, n = Lj.length := ⟨_, rfl⟩
      rw [← hNj] at hU
      have HCj := Lib.hid (show W3.cell? ⟨gl, j, none⟩ = some (.slice Aj Nj cj) from (KL.out.cell j).trans hU)
      have HNj := Lib.hid hNj
      have HL12j := Lib.hid hL12j
      have LSj := Lib.hid hLSj
      clear hU hLSj hL12j hNj
      obtain ⟨Ri, hRi⟩ : ∃ R, R = rootR Li := ⟨_, rfl⟩
      obtain ⟨Rj, hRj⟩ : ∃ R, R = rootR Lj := ⟨_, rfl⟩
      obtain ⟨Vi, hVi⟩ : ∃ R, R = validE Li := ⟨_, rfl⟩
      obtain ⟨Vj, hVj⟩ : ∃ R, R = validE Lj := ⟨_, rfl⟩
      have HRi := Lib.hid hRi
      have HRj := Lib.hid hRj
      have HVi := Lib.hid hVi
      have HVj := Lib.hid hVj
      have HLRi := Lib.hid (show Ri.length = 16 by rw [hRi]; exact rootR_len Li)
      have HLRj := Lib.hid (show Rj.length = 16 by rw [hRj]; exact rootR_len Lj)
      clear hRi hRj hVi hVj
      have HOi := Lib.hid (fun (W : World) (hb : Below W3.heap.size W3 W) => show Calls Tryd.prog 13 #[.slice Ai Ni ci] W fun e w' => ∃ A' c', e = .returned (.slice A' Ni c') ∧ LsAt w' w'.heap.size A' Li c' ∧ Below W.heap.size W w' from by
        have := own_any Ai Li ci W LSi.out.ok.1 ((LSi.out.below hb).more hb.size).rd
        rw [← HNi.out] at this
        refine this.mono ?_
        rintro e w' ⟨A', c', rfl, h1, h2, h3, h4⟩
        exact ⟨A', c', rfl, ⟨h3, by rw [← HNi.out]; exact h1, h2, LSi.out.ok⟩, h4⟩)
      have HOj := Lib.hid (fun (W : World) (hb : Below W3.heap.size W3 W) => show Calls Tryd.prog 13 #[.slice Aj Nj cj] W fun e w' => ∃ A' c', e = .returned (.slice A' Nj c') ∧ LsAt w' w'.heap.size A' Lj c' ∧ Below W.heap.size W w' from by
        have := own_any Aj Lj cj W LSj.out.ok.1 ((LSj.out.below hb).more hb.size).rd
        rw [← HNj.out] at this
        refine this.mono ?_
        rintro e w' ⟨A', c', rfl, h1, h2, h3, h4⟩
        exact ⟨A', c', rfl, ⟨h3, by rw [← HNj.out]; exact h1, h2, LSj.out.ok⟩, h4⟩)
      have HRTi := Lib.hid (fun (W : World) (A' : Option Addr) (c' : Nat) (hls : LsAt W W.heap.size A' Li c') (hb : Below W3.heap.size W3 W) => show Calls Tryd.prog 12 #[.slice A' Ni c'] W fun e w' => e = .returned (.tuple #[.agg (B8 Ri).toArray, .int .i64 Vi]) ∧ Below W.heap.size W w' from by
        have := root_any A' Li c' W hls (HT.out.below (Bs3.out.trans (hb.mono Bs3.out.size)) HT.out.1) Ri HRi
        rw [← HVi.out, ← HNi.out] at this; exact this)
      have HRTj := Lib.hid (fun (W : World) (A' : Option Addr) (c' : Nat) (hls : LsAt W W.heap.size A' Lj c') (hb : Below W3.heap.size W3 W) => show Calls Tryd.prog 12 #[.slice A' Nj c'] W fun e w' => e = .returned (.tuple #[.agg (B8 Rj).toArray, .int .i64 Vj]) ∧ Below W.heap.size W w' from by
        have := root_any A' Lj c' W hls (HT.out.below (Bs3.out.trans (hb.mono Bs3.out.size)) HT.out.1) Rj HRj
        rw [← HVj.out, ← HNj.out] at this; exact this)
      have hc1 : wr.cell? ⟨gl, i, none⟩ = some (.slice Ai Ni ci) := (HB.out.cell (p := ⟨gl, i, none⟩) hgl3).trans HCi.out
      go_wp2_with (go_at_call 13; refine (HOi.out wr HB.out).mono ?_; rintro e w5 ⟨Aa, ca, rfl, hoa, hb⟩; have Oa := Lib.hid hoa; have K1 := Lib.hid (HB.out.trans (hb.mono HB.out.size)); have D1 := Lib.hid hb; clear hb hoa)
      refine (HRTi.out w5 Aa ca Oa.out K1.out).mono ?_; rintro e w6 ⟨rfl, hb⟩
      have K2 := Lib.hid (K1.out.trans (hb.mono K1.out.size))
      obtain ⟨W6, hW5⟩ : ∃ W, W = (w6.alloc (.cells Z16.toArray 29)).setRow w6.heap.size (B8 Ri).toArray := ⟨_, rfl⟩
      have hb5 : Below w6.heap.size w6 W6 := by rw [hW5]; exact belowRow ((Below.refl _ _).alloc (Nat.le_refl _) _) (Nat.le_refl _) _
      have B6 := Lib.hid (K2.out.trans (hb5.mono K2.out.size))
      have DA := Lib.hid ((D1.out.trans (hb.mono D1.out.size)).trans (hb5.mono (Nat.le_trans D1.out.size hb.size)))
      have Xi := Lib.hid (show Blk W6 w6.heap.size 29 (B8 Ri) by rw [hW5]; exact (Blk.new w6 29 Z16).row _)
      have HE := Lib.hid hW5
      clear hW5 hb5 hb hc1 Oa K1 K2 D1 DA
      have hZ := hZ16
      go_upto_region 11 with (with_reducible refine wpList_store_row rfl 29 (.tmp 14) (.tmp 52) rfl w6.heap.size (B8 Ri).toArray rfl rfl 29 _ (heap_alloc_new w6 _) (size29' _ HLRi.out) (Z16_size _ HLRi.out) (one8 _) ?_)
      rw [← HE.out]
      clear HE hZ
      obtain ⟨gx, hg9⟩ : ∃ g, g = w6.heap.size := ⟨_, rfl⟩
      rw [← hg9] at Xi ⊢
      clear hg9
      have hc1 : W6.cell? ⟨gl, j, none⟩ = some (.slice Aj Nj cj) := (B6.out.cell (p := ⟨gl, j, none⟩) hgl3).trans HCj.out
      go_wp2_with (go_at_call 13; refine (HOj.out W6 B6.out).mono ?_; rintro e w7 ⟨Aa, ca, rfl, hoa, hb⟩; have Oa := Lib.hid hoa; have K1 := Lib.hid (B6.out.trans (hb.mono B6.out.size)); have D1 := Lib.hid hb; clear hb hoa)
      refine (HRTj.out w7 Aa ca Oa.out K1.out).mono ?_; rintro e w8 ⟨rfl, hb⟩
      have K2 := Lib.hid (K1.out.trans (hb.mono K1.out.size))
      obtain ⟨W8, hW5⟩ : ∃ W, W = (w8.alloc (.cells Z16.toArray 29)).setRow w8.heap.size (B8 Rj).toArray := ⟨_, rfl⟩
      have hb5 : Below w8.heap.size w8 W8 := by rw [hW5]; exact belowRow ((Below.refl _ _).alloc (Nat.le_refl _) _) (Nat.le_refl _) _
      have B8' := Lib.hid (K2.out.trans (hb5.mono K2.out.size))
      have DA := Lib.hid ((D1.out.trans (hb.mono D1.out.size)).trans (hb5.mono (Nat.le_trans D1.out.size hb.size)))
      have Xj := Lib.hid (show Blk W8 w8.heap.size 29 (B8 Rj) by rw [hW5]; exact (Blk.new w8 29 Z16).row _)
      have Xi := Lib.hid (Xi.out.below DA.out Xi.out.lt)
      have HE := Lib.hid hW5
      clear hW5 hb5 hb hc1 Oa K1 K2 D1 DA
      have hZ := hZ16
      go_upto_region 12 with (with_reducible refine wpList_store_row rfl 29 (.tmp 16) (.tmp 61) rfl w8.heap.size (B8 Rj).toArray rfl rfl 29 _ (heap_alloc_new w8 _) (size29' _ HLRj.out) (Z16_size _ HLRj.out) (one8 _) ?_)
      rw [← HE.out]
      clear HE hZ
      obtain ⟨gy, hg9⟩ : ∃ g, g = w8.heap.size := ⟨_, rfl⟩
      rw [← hg9] at Xj ⊢
      clear hg9
      have hvi := valid_vals Li
      have hvj := valid_vals Lj
      rw [← HVi.out] at hvi
      rw [← HVj.out] at hvj
      clear HOi HOj HRTi HRTj
      rcases hvi with hvi | hvi | hvi
      · rcases hvj with hvj | hvj | hvj
        · subst hvi hvj
          have hRi : Ri = rootD node lf top Li := by rw [HRi.out]; exact rootR_ok Li HVi.out.symm
          have hRj : Rj = rootD node lf top Lj := by rw [HRj.out]; exact rootR_ok Lj HVj.out.symm
          have HRD := Lib.hid (And.intro hRi hRj)
          clear hRi hRj
          go_upto_region 13 with fail
          have HS8 := Lib.hid (show W8.cell? ⟨gl, j, none⟩ = some (.slice Aj Nj cj) from (B8'.out.cell (p := ⟨gl, j, none⟩) hgl3).trans HCj.out)
          have hgl8 : gl < W8.heap.size := Nat.lt_of_lt_of_le hgl3 B8'.out.size
          have hZ := hZP
          go_cut [18] from 40 to 100 (fun s18 wx => ∃ gw, s18 = .pointer (some ⟨gw, 0, none⟩) ∧ Hid (Blk wx gw 54 (PR 0 (Nj : Int) (.slice Aj Nj cj) (.slice none 0 0)) ∧ Below W8.heap.size W8 wx))
          case first =>
            refine wp_region_held (S := fun W => W.cell? ⟨gl, j, none⟩ = some (.slice Aj Nj cj)) (by kernel_rfl) ?_
            change wpAnyH _ _ _ _ _ _ _ _ (World.drew W8)
            have k0 := Lib.hid (Below.refl W8.heap.size W8).drew
            have hs0 : (World.drew W8).cell? ⟨gl, j, none⟩ = some (.slice Aj Nj cj) := HS8.out
            generalize World.drew W8 = Wd at k0 hs0 ⊢
            refine wpAnyH_take (i := 0) (oi := { dst := some 69, op := Op.move (Operand.tmp 11), type := 27, pos := "law.go:254", after := #[], guard := none }) (v := .slice (some ⟨gl, 0, none⟩) 3 3) rfl (by kernel_rfl) (by kernel_rfl) (by kernel_rfl) (fun _ _ _ h => h) (Or.inl ⟨by rfl, fun W hW => ?y1⟩) hs0 ?_
            case y1 => go_simp
            try dsimp only [Act.put]
            try simp only [List.setIfInBounds_toArray, List.set_cons_zero, List.set_cons_succ]
            refine wpAnyH_take (i := 1) (oi := { dst := some 70, op := Op.move (Operand.tmp 13), type := 3, pos := "law.go:254", after := #[], guard := none }) (v := .int .i64 (j : Int)) rfl (by kernel_rfl) (by kernel_rfl) (by kernel_rfl) (fun _ _ _ h => h) (Or.inl ⟨by rfl, fun W hW => ?y2⟩) hs0 ?_
            case y2 => go_simp
            try dsimp only [Act.put]
            try simp only [List.setIfInBounds_toArray, List.set_cons_zero, List.set_cons_succ]
            refine wpAnyH_take (i := 2) (oi := { dst := some 71, op := Op.indexAddr 27 (Operand.tmp 69) (Operand.tmp 70), type := 0, pos := "law.go:254", after := #[{ on := 0, ground := Ground.data }, { on := 1, ground := Ground.data }], guard := none }) (v := .pointer (some ⟨gl, j, none⟩)) rfl (by kernel_rfl) (by kernel_rfl) (by kernel_rfl) (fun _ _ _ h => h) (Or.inl ⟨by rfl, fun W hW => ?y3⟩) hs0 ?_
            case y3 => go_simp
            try dsimp only [Act.put]
            try simp only [List.setIfInBounds_toArray, List.set_cons_zero, List.set_cons_succ]
            refine wpAnyH_take (i := 3) (oi := { dst := some 72, op := Op.load 24 (Operand.tmp 71), type := 24, pos := "law.go:254", after := #[{ on := 2, ground := Ground.data }], guard := none }) (v := .slice Aj Nj cj) rfl (by kernel_rfl) (by kernel_rfl) (by kernel_rfl) (fun _ _ _ h => h) (Or.inl ⟨by rfl, fun W hW => by have hcl := hW; go_simp⟩) hs0 ?_
            try dsimp only [Act.put]
            try simp only [List.setIfInBounds_toArray, List.set_cons_zero, List.set_cons_succ]
            refine wpAnyH_take (i := 4) (oi := { dst := some 73, op := Op.call { callee := Callee.builtin Builtin.len, args := #[Operand.tmp 72], argTypes := #[24] }, type := 3, pos := "law.go:254", after := #[{ on := 3, ground := Ground.data }], guard := none }) (v := .int .i64 (Nj : Int)) rfl (by kernel_rfl) (by kernel_rfl) (by kernel_rfl) (fun _ _ _ h => h) (Or.inl ⟨by rfl, fun W hW => ?y5⟩) hs0 ?_
            case y5 => go_simp
            try dsimp only [Act.put]
            try simp only [List.setIfInBounds_toArray, List.set_cons_zero, List.set_cons_succ]
            refine wpAnyH_take (i := 5) (oi := { dst := some 74, op := Op.move (Operand.tmp 11), type := 27, pos := "law.go:254", after := #[], guard := none }) (v := .slice (some ⟨gl, 0, none⟩) 3 3) rfl (by kernel_rfl) (by kernel_rfl) (by kernel_rfl) (fun _ _ _ h => h) (Or.inl ⟨by rfl, fun W hW => ?y6⟩) hs0 ?_
            case y6 => go_simp
            try dsimp only [Act.put]
            try simp only [List.setIfInBounds_toArray, List.set_cons_zero, List.set_cons_succ]
            refine wpAnyH_take (i := 6) (oi := { dst := some 75, op := Op.move (Operand.tmp 13), type := 3, pos := "law.go:254", after := #[], guard := none }) (v := .int .i64 (j : Int)) rfl (by kernel_rfl) (by kernel_rfl) (by kernel_rfl) (fun _ _ _ h => h) (Or.inl ⟨by rfl, fun W hW => ?y7⟩) hs0 ?_
            case y7 => go_simp
            try dsimp only [Act.put]
            try simp only [List.setIfInBounds_toArray, List.set_cons_zero, List.set_cons_succ]
            refine wpAnyH_take (i := 7) (oi := { dst := some 76, op := Op.indexAddr 27 (Operand.tmp 74) (Operand.tmp 75), type := 0, pos := "law.go:254", after := #[{ on := 5, ground := Ground.data }, { on := 6, ground := Ground.data }], guard := none }) (v := .pointer (some ⟨gl, j, none⟩)) rfl (by kernel_rfl) (by kernel_rfl) (by kernel_rfl) (fun _ _ _ h => h) (Or.inl ⟨by rfl, fun W hW => ?y8⟩) hs0 ?_
            case y8 => go_simp
            try dsimp only [Act.put]
            try simp only [List.setIfInBounds_toArray, List.set_cons_zero, List.set_cons_succ]
            refine wpAnyH_take (i := 8) (oi := { dst := some 77, op := Op.load 24 (Operand.tmp 76), type := 24, pos := "law.go:254", after := #[{ on := 7, ground := Ground.data }], guard := none }) (v := .slice Aj Nj cj) rfl (by kernel_rfl) (by kernel_rfl) (by kernel_rfl) (fun _ _ _ h => h) (Or.inl ⟨by rfl, fun W hW => by have hcl := hW; go_simp⟩) hs0 ?_
            try dsimp only [Act.put]
            try simp only [List.setIfInBounds_toArray, List.set_cons_zero, List.set_cons_succ]
            refine wpAnyH_take (i := 9) (oi := { dst := some 78, op := Op.build 54 #[(1, Operand.tmp 73), (2, Operand.tmp 77)], type := 54, pos := "law.go:254", after := #[{ on := 4, ground := Ground.data }, { on := 8, ground := Ground.data }], guard := none }) (v := .agg (PR 0 (Nj : Int) (.slice Aj Nj cj) (.slice none 0 0)).toArray) rfl (by kernel_rfl) (by kernel_rfl) (by kernel_rfl) (fun _ _ _ h => h) (Or.inl ⟨by rfl, fun W hW => by clear hZ; go_simp; rfl⟩) hs0 ?_
            try dsimp only [Act.put]
            try simp only [List.setIfInBounds_toArray, List.set_cons_zero, List.set_cons_succ]
            refine wpAnyH_ready (rs := [10]) (by kernel_rfl) (by simp) ?_
            refine AllReadyH.cons (o := { dst := some 18, op := Op.alloc 54, type := 0, pos := "law.go:254", after := #[], guard := none }) rfl (fun K hK => ?_) AllReadyH.nil
            rw [if_pos (by rfl)]
            have hbt := (Below.refl Wd.heap.size Wd).alloc (Nat.le_refl _) (.cells ZP.toArray 54)
            have k11 := Lib.hid (k0.out.trans (hbt.mono k0.out.size))
            have hs12 : (Wd.alloc (.cells ZP.toArray 54)).cell? ⟨gl, j, none⟩ = some (.slice Aj Nj cj) := (hbt.cell (p := ⟨gl, j, none⟩) (World.block_lt_of_cell? _ _ hs0)).trans hs0
            have z13 := Lib.hid (Blk.new Wd 54 ZP)
            have g14 := Lib.hid k0.out.size
            clear hbt
            go_simp
            refine hK.out _ _ hs12 (fun _ => ?_)
            clear hK K
            try dsimp only [Act.put]
            try simp only [List.setIfInBounds_toArray, List.set_cons_zero, List.set_cons_succ]
            refine wpAnyH_ready (rs := [11]) (by kernel_rfl) (by simp) ?_
            refine AllReadyH.cons (o := { dst := none, op := Op.store 54 (Operand.tmp 18) (Operand.tmp 78), type := 0, pos := "law.go:254", after := #[{ on := 10, ground := Ground.data }, { on := 9, ground := Ground.data }, { on := 0, ground := Ground.phase }, { on := 1, ground := Ground.phase }, { on := 2, ground := Ground.phase }, { on := 3, ground := Ground.phase }, { on := 4, ground := Ground.phase }, { on := 5, ground := Ground.phase }, { on := 6, ground := Ground.phase }, { on := 7, ground := Ground.phase }, { on := 8, ground := Ground.phase }, { on := 9, ground := Ground.phase }, { on := 10, ground := Ground.phase }], guard := none }) rfl (fun K hK => ?_) AllReadyH.nil
            rw [if_pos (by rfl)]
            have KE := Lib.hid (show Blk ((Wd.alloc (.cells ZP.toArray 54)).setRow Wd.heap.size (PR 0 (Nj : Int) (.slice Aj Nj cj) (.slice none 0 0)).toArray) Wd.heap.size 54 (PR 0 (Nj : Int) (.slice Aj Nj cj) (.slice none 0 0)) ∧ Below W8.heap.size W8 ((Wd.alloc (.cells ZP.toArray 54)).setRow Wd.heap.size (PR 0 (Nj : Int) (.slice Aj Nj cj) (.slice none 0 0)).toArray) from ⟨z13.out.row _, belowRow k11.out g14.out _⟩)
            have hs9 : ((Wd.alloc (.cells ZP.toArray 54)).setRow Wd.heap.size (PR 0 (Nj : Int) (.slice Aj Nj cj) (.slice none 0 0)).toArray).cell? ⟨gl, j, none⟩ = some (.slice Aj Nj cj) := (World.cell?_of_block (a := ⟨gl, j, none⟩) (heap_setRow_other _ _ _ _ (by have := g14.out; show gl ≠ _; have := hgl8; omega))).trans hs12
            refine wp_store_row 54 (.tmp 18) (.tmp 78) rfl (Wd.heap.size) (PR 0 (Nj : Int) (.slice Aj Nj cj) (.slice none 0 0)).toArray rfl rfl 54 _ (show ((Wd.alloc (.cells ZP.toArray 54))).heap[Wd.heap.size]? = _ from z13.out) (size54A _ _ _ _) (ZP_PR _ _ _ _) (PR_one _ _ _ _ _ _ _ _) ?_
            refine hK.out _ _ hs9 (fun _ => ?_)
            clear hK K
            try dsimp only [Act.put]
            try simp only [List.setIfInBounds_toArray, List.set_cons_zero, List.set_cons_succ]
            refine wpAnyH_done (by kernel_rfl) ?_ _
            try dsimp only [Act.put]
            try simp only [List.setIfInBounds_toArray, List.set_cons_zero, List.set_cons_succ]
            go_wp2_with fail
            go_meet
            exact ⟨Wd.heap.size, rfl, KE⟩
          case rest =>
            obtain ⟨gw, rfl, KE⟩ := hcut
            obtain ⟨W9, hW9⟩ : ∃ W, W = wc := ⟨_, rfl⟩
            rw [← hW9] at KE ⊢
            have B9 := Lib.hid (B8'.out.trans (KE.out.2.mono B8'.out.size))
            have HS9 := Lib.hid (show Blk W9 gx 29 (B8 Ri) ∧ Blk W9 gy 29 (B8 Rj) ∧ W9.cell? ⟨gl, i, none⟩ = some (.slice Ai Ni ci) ∧ W9.cell? ⟨gl, j, none⟩ = some (.slice Aj Nj cj) ∧ Blk W9 gw 54 (PR 0 (Nj : Int) (.slice Aj Nj cj) (.slice none 0 0)) from ⟨Xi.out.below KE.out.2 Xi.out.lt, Xj.out.below KE.out.2 Xj.out.lt, (B9.out.cell (p := ⟨gl, i, none⟩) hgl3).trans HCi.out, (B9.out.cell (p := ⟨gl, j, none⟩) hgl3).trans HCj.out, KE.out.1⟩)
            clear KE hW9 HS8 hgl8 hZ Xi Xj
            have HSM0 := Lib.hid (fun (W : World) (hb : Below W9.heap.size W9 W) => show Calls Tryd.prog 34 #[.slice Ai Ni ci, .slice Aj Nj cj] W fun e w' => e = .returned (.bool (decide (Li = Lj))) ∧ Below W.heap.size W w' from by
              have hb3 := B9.out.trans (hb.mono B9.out.size)
              exact same2_any Ai Aj Li Lj Ni Nj ci cj W HNi.out HNj.out (by have := HL12i.out; rw [← HNi.out] at this; omega) ((LSi.out.below hb3).more hb3.size).rd ((LSj.out.below hb3).more hb3.size).rd)
            go_upto_region 14 with fail
            go_cut [100] from 40 to 100 (fun s100 wx => s100 = .bool false ∧ Hid (Below W9.heap.size W9 wx))
            case first =>
              by_cases hE : Li = Lj
              · have hRR : Ri = Rj := by rw [HRD.out.1, HRD.out.2, hE]
                have HEQ := Lib.hid (fun (W : World) => show (Op.equalIn 10000 29 (.agg (B8 Ri).toArray) (.agg (B8 Rj).toArray)).run Tryd.prog W = .ok true W from by rw [← hRR]; exact eqi29s Ri HLRi.out W)
                have HSM := Lib.hid (fun (W : World) (hb : Below W9.heap.size W9 W) => show Calls Tryd.prog 34 #[.slice Ai Ni ci, .slice Aj Nj cj] W fun e w' => e = .returned (.bool true) ∧ Below W.heap.size W w' from by
                  have := HSM0.out W hb; rw [decide_eq_true hE] at this; exact this)
                clear hE hRR HSM0
                refine wp_region_held (S := fun W => Blk W gx 29 (B8 Ri) ∧ Blk W gy 29 (B8 Rj) ∧ W.cell? ⟨gl, i, none⟩ = some (.slice Ai Ni ci) ∧ W.cell? ⟨gl, j, none⟩ = some (.slice Aj Nj cj) ∧ Blk W gw 54 (PR 0 (Nj : Int) (.slice Aj Nj cj) (.slice none 0 0))) (by kernel_rfl) ?_
                change wpAnyH _ _ _ _ _ _ _ _ (World.drew W9)
                have k0 := Lib.hid (Below.refl W9.heap.size W9).drew
                have hs0 : Blk (World.drew W9) gx 29 (B8 Ri) ∧ Blk (World.drew W9) gy 29 (B8 Rj) ∧ (World.drew W9).cell? ⟨gl, i, none⟩ = some (.slice Ai Ni ci) ∧ (World.drew W9).cell? ⟨gl, j, none⟩ = some (.slice Aj Nj cj) ∧ Blk (World.drew W9) gw 54 (PR 0 (Nj : Int) (.slice Aj Nj cj) (.slice none 0 0)) := HS9.out
                generalize World.drew W9 = Wd at k0 hs0 ⊢
                refine wpAnyH_take (i := 0) (oi := { dst := some 79, op := Op.load 29 (Operand.tmp 14), type := 29, pos := "law.go:255", after := #[], guard := none }) (v := .agg (B8 Ri).toArray) rfl (by kernel_rfl) (by kernel_rfl) (by kernel_rfl) (fun _ _ _ h => h) (Or.inl ⟨by rfl, fun W hW => exec_load_row _ _ 29 (.tmp 14) rfl ⟨gx, 0, none⟩ rfl (B8 Ri) W (run_loadVar_at W _ 29 (B8 Ri) (.array 16 5) (Blk.at hW.1) Tryd.underlying29 rfl (size29 _ HLRi.out))⟩) hs0 ?_
                try dsimp only [Act.put]
                try simp only [List.setIfInBounds_toArray, List.set_cons_zero, List.set_cons_succ]
                refine wpAnyH_take (i := 1) (oi := { dst := some 80, op := Op.load 29 (Operand.tmp 16), type := 29, pos := "law.go:255", after := #[], guard := none }) (v := .agg (B8 Rj).toArray) rfl (by kernel_rfl) (by kernel_rfl) (by kernel_rfl) (fun _ _ _ h => h) (Or.inl ⟨by rfl, fun W hW => exec_load_row _ _ 29 (.tmp 16) rfl ⟨gy, 0, none⟩ rfl (B8 Rj) W (run_loadVar_at W _ 29 (B8 Rj) (.array 16 5) (Blk.at hW.2.1) Tryd.underlying29 rfl (size29 _ HLRj.out))⟩) hs0 ?_
                try dsimp only [Act.put]
                try simp only [List.setIfInBounds_toArray, List.set_cons_zero, List.set_cons_succ]
                refine wpAnyH_take (i := 2) (oi := { dst := some 81, op := Op.binOp BinOp.eql 29 (Operand.tmp 79) (Operand.tmp 80) 29, type := 4, pos := "law.go:255", after := #[{ on := 0, ground := Ground.data }, { on := 1, ground := Ground.data }], guard := none }) (v := .bool true) rfl (by kernel_rfl) (by kernel_rfl) (by kernel_rfl) (fun _ _ _ h => h) (Or.inl ⟨by rfl, fun W hW => by have heq := HEQ.out W; go_simp⟩) hs0 ?_
                try dsimp only [Act.put]
                try simp only [List.setIfInBounds_toArray, List.set_cons_zero, List.set_cons_succ]
                refine wpAnyH_take (i := 3) (oi := { dst := some 82, op := Op.move (Operand.tmp 11), type := 27, pos := "law.go:255", after := #[], guard := none }) (v := .slice (some ⟨gl, 0, none⟩) 3 3) rfl (by kernel_rfl) (by kernel_rfl) (by kernel_rfl) (fun _ _ _ h => h) (Or.inl ⟨by rfl, fun W hW => ?y4⟩) hs0 ?_
                case y4 => go_simp
                try dsimp only [Act.put]
                try simp only [List.setIfInBounds_toArray, List.set_cons_zero, List.set_cons_succ]
                refine wpAnyH_take (i := 4) (oi := { dst := some 83, op := Op.move (Operand.tmp 12), type := 3, pos := "law.go:255", after := #[], guard := none }) (v := .int .i64 (i : Int)) rfl (by kernel_rfl) (by kernel_rfl) (by kernel_rfl) (fun _ _ _ h => h) (Or.inl ⟨by rfl, fun W hW => ?y5⟩) hs0 ?_
                case y5 => go_simp
                try dsimp only [Act.put]
                try simp only [List.setIfInBounds_toArray, List.set_cons_zero, List.set_cons_succ]
                refine wpAnyH_take (i := 5) (oi := { dst := some 84, op := Op.indexAddr 27 (Operand.tmp 82) (Operand.tmp 83), type := 0, pos := "law.go:255", after := #[{ on := 3, ground := Ground.data }, { on := 4, ground := Ground.data }], guard := none }) (v := .pointer (some ⟨gl, i, none⟩)) rfl (by kernel_rfl) (by kernel_rfl) (by kernel_rfl) (fun _ _ _ h => h) (Or.inl ⟨by rfl, fun W hW => ?y6⟩) hs0 ?_
                case y6 => go_simp
                try dsimp only [Act.put]
                try simp only [List.setIfInBounds_toArray, List.set_cons_zero, List.set_cons_succ]
                refine wpAnyH_take (i := 6) (oi := { dst := some 85, op := Op.load 24 (Operand.tmp 84), type := 24, pos := "law.go:255", after := #[{ on := 5, ground := Ground.data }], guard := none }) (v := .slice Ai Ni ci) rfl (by kernel_rfl) (by kernel_rfl) (by kernel_rfl) (fun _ _ _ h => h) (Or.inl ⟨by rfl, fun W hW => by have hcl := hW.2.2.1; go_simp⟩) hs0 ?_
                try dsimp only [Act.put]
                try simp only [List.setIfInBounds_toArray, List.set_cons_zero, List.set_cons_succ]
                refine wpAnyH_take (i := 7) (oi := { dst := some 86, op := Op.move (Operand.tmp 11), type := 27, pos := "law.go:255", after := #[], guard := none }) (v := .slice (some ⟨gl, 0, none⟩) 3 3) rfl (by kernel_rfl) (by kernel_rfl) (by kernel_rfl) (fun _ _ _ h => h) (Or.inl ⟨by rfl, fun W hW => ?y8⟩) hs0 ?_
                case y8 => go_simp
                try dsimp only [Act.put]
                try simp only [List.setIfInBounds_toArray, List.set_cons_zero, List.set_cons_succ]
                refine wpAnyH_take (i := 8) (oi := { dst := some 87, op := Op.move (Operand.tmp 13), type := 3, pos := "law.go:255", after := #[], guard := none }) (v := .int .i64 (j : Int)) rfl (by kernel_rfl) (by kernel_rfl) (by kernel_rfl) (fun _ _ _ h => h) (Or.inl ⟨by rfl, fun W hW => ?y9⟩) hs0 ?_
                case y9 => go_simp
                try dsimp only [Act.put]
                try simp only [List.setIfInBounds_toArray, List.set_cons_zero, List.set_cons_succ]
                refine wpAnyH_take (i := 9) (oi := { dst := some 88, op := Op.indexAddr 27 (Operand.tmp 86) (Operand.tmp 87), type := 0, pos := "law.go:255", after := #[{ on := 7, ground := Ground.data }, { on := 8, ground := Ground.data }], guard := none }) (v := .pointer (some ⟨gl, j, none⟩)) rfl (by kernel_rfl) (by kernel_rfl) (by kernel_rfl) (fun _ _ _ h => h) (Or.inl ⟨by rfl, fun W hW => ?y10⟩) hs0 ?_
                case y10 => go_simp
                try dsimp only [Act.put]
                try simp only [List.setIfInBounds_toArray, List.set_cons_zero, List.set_cons_succ]
                refine wpAnyH_take (i := 10) (oi := { dst := some 89, op := Op.load 24 (Operand.tmp 88), type := 24, pos := "law.go:255", after := #[{ on := 9, ground := Ground.data }], guard := none }) (v := .slice Aj Nj cj) rfl (by kernel_rfl) (by kernel_rfl) (by kernel_rfl) (fun _ _ _ h => h) (Or.inl ⟨by rfl, fun W hW => by have hcl := hW.2.2.2.1; go_simp⟩) hs0 ?_
                try dsimp only [Act.put]
                try simp only [List.setIfInBounds_toArray, List.set_cons_zero, List.set_cons_succ]
                refine wpAnyH_ready (rs := [11]) (by kernel_rfl) (by simp) ?_
                refine AllReadyH.cons (o := { dst := some 90, op := Op.call { callee := Callee.value (Operand.func 34), args := #[Operand.tmp 85, Operand.tmp 89], argTypes := #[24, 24] }, type := 4, pos := "law.go:255", after := #[{ on := 6, ground := Ground.data }, { on := 10, ground := Ground.data }], guard := none }) rfl (fun K hK => ?_) AllReadyH.nil
                rw [if_pos (by rfl)]
                have HCC := HSM.out Wd k0.out
                go_simp
                refine HCC.mono ?_; rintro e w12 ⟨rfl, hbt⟩
                clear HCC
                have k13 := Lib.hid (k0.out.trans (hbt.mono k0.out.size))
                have hs14 := s5_below hs0 hbt
                clear hbt
                go_wp2_with fail
                refine hK.out _ _ hs14 (fun _ => ?_)
                clear hK K
                try dsimp only [Act.put]
                try simp only [List.setIfInBounds_toArray, List.set_cons_zero, List.set_cons_succ]
                refine wpAnyH_take (i := 12) (oi := { dst := some 91, op := Op.binOp BinOp.neq 4 (Operand.tmp 81) (Operand.tmp 90) 4, type := 4, pos := "law.go:255", after := #[{ on := 2, ground := Ground.data }, { on := 11, ground := Ground.data }], guard := none }) (v := .bool false) rfl (by kernel_rfl) (by kernel_rfl) (by kernel_rfl) (fun _ _ _ h => h) (Or.inl ⟨by rfl, fun W hW => ?y15⟩) hs14 ?_
                case y15 => go_simp
                try dsimp only [Act.put]
                try simp only [List.setIfInBounds_toArray, List.set_cons_zero, List.set_cons_succ]
                refine wpAnyH_take (i := 13) (oi := { dst := some 92, op := Op.move (Operand.tmp 91), type := 4, pos := "law.go:255", after := #[{ on := 12, ground := Ground.data }, { on := 11, ground := Ground.chain }], guard := none }) (v := .bool false) rfl (by kernel_rfl) (by kernel_rfl) (by kernel_rfl) (fun _ _ _ h => h) (Or.inl ⟨by rfl, fun W hW => ?y16⟩) hs14 ?_
                case y16 => go_simp
                try dsimp only [Act.put]
                try simp only [List.setIfInBounds_toArray, List.set_cons_zero, List.set_cons_succ]
                refine wpAnyH_take (i := 14) (oi := { dst := some 93, op := Op.move (Operand.tmp 11), type := 27, pos := "law.go:255", after := #[{ on := 13, ground := Ground.guard }], guard := some (13, true) }) (v := undef) rfl (by kernel_rfl) (by kernel_rfl) (by kernel_rfl) (fun _ _ _ h => h) (Or.inr ⟨by rfl, rfl⟩) hs14 ?_
                try dsimp only [Act.put]
                try simp only [List.setIfInBounds_toArray, List.set_cons_zero, List.set_cons_succ]
                refine wpAnyH_take (i := 15) (oi := { dst := some 94, op := Op.move (Operand.tmp 12), type := 3, pos := "law.go:255", after := #[{ on := 13, ground := Ground.guard }], guard := some (13, true) }) (v := undef) rfl (by kernel_rfl) (by kernel_rfl) (by kernel_rfl) (fun _ _ _ h => h) (Or.inr ⟨by rfl, rfl⟩) hs14 ?_
                try dsimp only [Act.put]
                try simp only [List.setIfInBounds_toArray, List.set_cons_zero, List.set_cons_succ]
                refine wpAnyH_take (i := 16) (oi := { dst := some 95, op := Op.indexAddr 27 (Operand.tmp 93) (Operand.tmp 94), type := 0, pos := "law.go:255", after := #[{ on := 14, ground := Ground.data }, { on := 15, ground := Ground.data }, { on := 13, ground := Ground.guard }], guard := some (13, true) }) (v := undef) rfl (by kernel_rfl) (by kernel_rfl) (by kernel_rfl) (fun _ _ _ h => h) (Or.inr ⟨by rfl, rfl⟩) hs14 ?_
                try dsimp only [Act.put]
                try simp only [List.setIfInBounds_toArray, List.set_cons_zero, List.set_cons_succ]
                refine wpAnyH_take (i := 17) (oi := { dst := some 96, op := Op.load 24 (Operand.tmp 95), type := 24, pos := "law.go:255", after := #[{ on := 16, ground := Ground.data }, { on := 13, ground := Ground.guard }], guard := some (13, true) }) (v := undef) rfl (by kernel_rfl) (by kernel_rfl) (by kernel_rfl) (fun _ _ _ h => h) (Or.inr ⟨by rfl, rfl⟩) hs14 ?_
                try dsimp only [Act.put]
                try simp only [List.setIfInBounds_toArray, List.set_cons_zero, List.set_cons_succ]
                refine wpAnyH_take (i := 18) (oi := { dst := some 97, op := Op.load 54 (Operand.tmp 18), type := 54, pos := "law.go:255", after := #[{ on := 13, ground := Ground.guard }], guard := some (13, true) }) (v := undef) rfl (by kernel_rfl) (by kernel_rfl) (by kernel_rfl) (fun _ _ _ h => h) (Or.inr ⟨by rfl, rfl⟩) hs14 ?_
                try dsimp only [Act.put]
                try simp only [List.setIfInBounds_toArray, List.set_cons_zero, List.set_cons_succ]
                refine wpAnyH_take (i := 19) (oi := { dst := some 98, op := Op.call { callee := Callee.value (Operand.func 45), args := #[Operand.tmp 96, Operand.tmp 97], argTypes := #[24, 54] }, type := 4, pos := "law.go:255", after := #[{ on := 17, ground := Ground.data }, { on := 18, ground := Ground.data }, { on := 13, ground := Ground.chain }, { on := 13, ground := Ground.guard }], guard := some (13, true) }) (v := undef) rfl (by kernel_rfl) (by kernel_rfl) (by kernel_rfl) (fun _ _ _ h => h) (Or.inr ⟨by rfl, rfl⟩) hs14 ?_
                try dsimp only [Act.put]
                try simp only [List.setIfInBounds_toArray, List.set_cons_zero, List.set_cons_succ]
                refine wpAnyH_take (i := 20) (oi := { dst := some 99, op := Op.unOp UnOp.not 4 (Operand.tmp 98), type := 4, pos := "law.go:255", after := #[{ on := 19, ground := Ground.data }, { on := 13, ground := Ground.guard }], guard := some (13, true) }) (v := undef) rfl (by kernel_rfl) (by kernel_rfl) (by kernel_rfl) (fun _ _ _ h => h) (Or.inr ⟨by rfl, rfl⟩) hs14 ?_
                try dsimp only [Act.put]
                try simp only [List.setIfInBounds_toArray, List.set_cons_zero, List.set_cons_succ]
                refine wpAnyH_take (i := 21) (oi := { dst := some 100, op := Op.pick (Operand.tmp 92) (Operand.tmp 99) (Operand.const (Value.bool false)), type := 4, pos := "law.go:255", after := #[{ on := 13, ground := Ground.data }, { on := 20, ground := Ground.data }], guard := none }) (v := .bool false) rfl (by kernel_rfl) (by kernel_rfl) (by kernel_rfl) (fun _ _ _ h => h) (Or.inl ⟨by rfl, fun W hW => ?y24⟩) hs14 ?_
                case y24 => go_simp
                try dsimp only [Act.put]
                try simp only [List.setIfInBounds_toArray, List.set_cons_zero, List.set_cons_succ]
                refine wpAnyH_done (by kernel_rfl) ?_ _
                try dsimp only [Act.put]
                try simp only [List.setIfInBounds_toArray, List.set_cons_zero, List.set_cons_succ]
                have KE := k13
                go_wp2_with fail
                go_meet
                exact ⟨rfl, KE⟩
              · have HSM := Lib.hid (fun (W : World) (hb : Below W9.heap.size W9 W) => show Calls Tryd.prog 34 #[.slice Ai Ni ci, .slice Aj Nj cj] W fun e w' => e = .returned (.bool false) ∧ Below W.heap.size W w' from by
                  have := HSM0.out W hb; rw [decide_eq_false hE] at this; exact this)
                by_cases hRR : Ri = Rj
                · have HEQ := Lib.hid (fun (W : World) => show (Op.equalIn 10000 29 (.agg (B8 Ri).toArray) (.agg (B8 Rj).toArray)).run Tryd.prog W = .ok true W from by rw [← hRR]; exact eqi29s Ri HLRi.out W)
                  have hcl : Clash (textsOf Li 0 [] Li.length ++ textsOf Lj 0 [] Lj.length) := by
                    refine Classical.byContradiction fun hno => hE (binds LSi.out.ok LSj.out.ok hno ?_)
                    rw [← HRD.out.1, ← HRD.out.2]; exact hRR
                  have HCO := Lib.hid (fun (W : World) (hb : Below W9.heap.size W9 W) => show Calls Tryd.prog 45 #[.slice Ai Ni ci, .agg (PR 0 (Nj : Int) (.slice Aj Nj cj) (.slice none 0 0)).toArray] W fun e w' => e = .returned (.bool true) ∧ Below W.heap.size W w' from by
                    have hb3 := B9.out.trans (hb.mono B9.out.size)
                    have hlj := (LSj.out.below hb3).more hb3.size
                    have hli := HL12i.out
                    have hlj12 := HL12j.out
                    exact collide_any Ai Li Ni ci ⟨0, (Nj : Int), Lj, []⟩ Aj none Nj 0 cj 0 0 Nj W HNi.out HNj.out rfl ((LSi.out.below hb3).more hb3.size).rd LSi.out.ok (by omega) ⟨hlj.rd, Rd.nil, ⟨hlj.cap, hlj.nil⟩, ⟨Nat.le_refl _, fun _ => rfl⟩, LSj.out.ok, ⟨Nat.zero_le _, fun d h => by cases h⟩, ⟨⟨by show (-9223372036854775808 : Int) ≤ 0; decide, by show (0 : Int) ≤ 9223372036854775807; decide⟩, ⟨by show (-9223372036854775808 : Int) ≤ (Nj : Int); omega, by show (Nj : Int) ≤ 9223372036854775807; rw [HNj.out]; omega⟩⟩⟩ rfl rfl (by rw [HNj.out]; omega) (by omega) (HT0.out.below (Bs3.out.trans (hb3.mono Bs3.out.size)) HT0.out.1) (by rw [HNj.out]; exact hcl))
                  clear hE hRR HSM0 hcl
                  refine wp_region_held (S := fun W => Blk W gx 29 (B8 Ri) ∧ Blk W gy 29 (B8 Rj) ∧ W.cell? ⟨gl, i, none⟩ = some (.slice Ai Ni ci) ∧ W.cell? ⟨gl, j, none⟩ = some (.slice Aj Nj cj) ∧ Blk W gw 54 (PR 0 (Nj : Int) (.slice Aj Nj cj) (.slice none 0 0))) (by kernel_rfl) ?_
                  change wpAnyH _ _ _ _ _ _ _ _ (World.drew W9)
                  have k0 := Lib.hid (Below.refl W9.heap.size W9).drew
                  have hs0 : Blk (World.drew W9) gx 29 (B8 Ri) ∧ Blk (World.drew W9) gy 29 (B8 Rj) ∧ (World.drew W9).cell? ⟨gl, i, none⟩ = some (.slice Ai Ni ci) ∧ (World.drew W9).cell? ⟨gl, j, none⟩ = some (.slice Aj Nj cj) ∧ Blk (World.drew W9) gw 54 (PR 0 (Nj : Int) (.slice Aj Nj cj) (.slice none 0 0)) := HS9.out
                  generalize World.drew W9 = Wd at k0 hs0 ⊢
                  refine wpAnyH_take (i := 0) (oi := { dst := some 79, op := Op.load 29 (Operand.tmp 14), type := 29, pos := "law.go:255", after := #[], guard := none }) (v := .agg (B8 Ri).toArray) rfl (by kernel_rfl) (by kernel_rfl) (by kernel_rfl) (fun _ _ _ h => h) (Or.inl ⟨by rfl, fun W hW => exec_load_row _ _ 29 (.tmp 14) rfl ⟨gx, 0, none⟩ rfl (B8 Ri) W (run_loadVar_at W _ 29 (B8 Ri) (.array 16 5) (Blk.at hW.1) Tryd.underlying29 rfl (size29 _ HLRi.out))⟩) hs0 ?_
                  try dsimp only [Act.put]
                  try simp only [List.setIfInBounds_toArray, List.set_cons_zero, List.set_cons_succ]
                  refine wpAnyH_take (i := 1) (oi := { dst := some 80, op := Op.load 29 (Operand.tmp 16), type := 29, pos := "law.go:255", after := #[], guard := none }) (v := .agg (B8 Rj).toArray) rfl (by kernel_rfl) (by kernel_rfl) (by kernel_rfl) (fun _ _ _ h => h) (Or.inl ⟨by rfl, fun W hW => exec_load_row _ _ 29 (.tmp 16) rfl ⟨gy, 0, none⟩ rfl (B8 Rj) W (run_loadVar_at W _ 29 (B8 Rj) (.array 16 5) (Blk.at hW.2.1) Tryd.underlying29 rfl (size29 _ HLRj.out))⟩) hs0 ?_
                  try dsimp only [Act.put]
                  try simp only [List.setIfInBounds_toArray, List.set_cons_zero, List.set_cons_succ]
                  refine wpAnyH_take (i := 2) (oi := { dst := some 81, op := Op.binOp BinOp.eql 29 (Operand.tmp 79) (Operand.tmp 80) 29, type := 4, pos := "law.go:255", after := #[{ on := 0, ground := Ground.data }, { on := 1, ground := Ground.data }], guard := none }) (v := .bool true) rfl (by kernel_rfl) (by kernel_rfl) (by kernel_rfl) (fun _ _ _ h => h) (Or.inl ⟨by rfl, fun W hW => by have heq := HEQ.out W; go_simp⟩) hs0 ?_
                  try dsimp only [Act.put]
                  try simp only [List.setIfInBounds_toArray, List.set_cons_zero, List.set_cons_succ]
                  refine wpAnyH_take (i := 3) (oi := { dst := some 82, op := Op.move (Operand.tmp 11), type := 27, pos := "law.go:255", after := #[], guard := none }) (v := .slice (some ⟨gl, 0, none⟩) 3 3) rfl (by kernel_rfl) (by kernel_rfl) (by kernel_rfl) (fun _ _ _ h => h) (Or.inl ⟨by rfl, fun W hW => ?y4⟩) hs0 ?_
                  case y4 => go_simp
                  try dsimp only [Act.put]
                  try simp only [List.setIfInBounds_toArray, List.set_cons_zero, List.set_cons_succ]
                  refine wpAnyH_take (i := 4) (oi := { dst := some 83, op := Op.move (Operand.tmp 12), type := 3, pos := "law.go:255", after := #[], guard := none }) (v := .int .i64 (i : Int)) rfl (by kernel_rfl) (by kernel_rfl) (by kernel_rfl) (fun _ _ _ h => h) (Or.inl ⟨by rfl, fun W hW => ?y5⟩) hs0 ?_
                  case y5 => go_simp
                  try dsimp only [Act.put]
                  try simp only [List.setIfInBounds_toArray, List.set_cons_zero, List.set_cons_succ]
                  refine wpAnyH_take (i := 5) (oi := { dst := some 84, op := Op.indexAddr 27 (Operand.tmp 82) (Operand.tmp 83), type := 0, pos := "law.go:255", after := #[{ on := 3, ground := Ground.data }, { on := 4, ground := Ground.data }], guard := none }) (v := .pointer (some ⟨gl, i, none⟩)) rfl (by kernel_rfl) (by kernel_rfl) (by kernel_rfl) (fun _ _ _ h => h) (Or.inl ⟨by rfl, fun W hW => ?y6⟩) hs0 ?_
                  case y6 => go_simp
                  try dsimp only [Act.put]
                  try simp only [List.setIfInBounds_toArray, List.set_cons_zero, List.set_cons_succ]
                  refine wpAnyH_take (i := 6) (oi := { dst := some 85, op := Op.load 24 (Operand.tmp 84), type := 24, pos := "law.go:255", after := #[{ on := 5, ground := Ground.data }], guard := none }) (v := .slice Ai Ni ci) rfl (by kernel_rfl) (by kernel_rfl) (by kernel_rfl) (fun _ _ _ h => h) (Or.inl ⟨by rfl, fun W hW => by have hcl := hW.2.2.1; go_simp⟩) hs0 ?_
                  try dsimp only [Act.put]
                  try simp only [List.setIfInBounds_toArray, List.set_cons_zero, List.set_cons_succ]
                  refine wpAnyH_take (i := 7) (oi := { dst := some 86, op := Op.move (Operand.tmp 11), type := 27, pos := "law.go:255", after := #[], guard := none }) (v := .slice (some ⟨gl, 0, none⟩) 3 3) rfl (by kernel_rfl) (by kernel_rfl) (by kernel_rfl) (fun _ _ _ h => h) (Or.inl ⟨by rfl, fun W hW => ?y8⟩) hs0 ?_
                  case y8 => go_simp
                  try dsimp only [Act.put]
                  try simp only [List.setIfInBounds_toArray, List.set_cons_zero, List.set_cons_succ]
                  refine wpAnyH_take (i := 8) (oi := { dst := some 87, op := Op.move (Operand.tmp 13), type := 3, pos := "law.go:255", after := #[], guard := none }) (v := .int .i64 (j : Int)) rfl (by kernel_rfl) (by kernel_rfl) (by kernel_rfl) (fun _ _ _ h => h) (Or.inl ⟨by rfl, fun W hW => ?y9⟩) hs0 ?_
                  case y9 => go_simp
                  try dsimp only [Act.put]
                  try simp only [List.setIfInBounds_toArray, List.set_cons_zero, List.set_cons_succ]
                  refine wpAnyH_take (i := 9) (oi := { dst := some 88, op := Op.indexAddr 27 (Operand.tmp 86) (Operand.tmp 87), type := 0, pos := "law.go:255", after := #[{ on := 7, ground := Ground.data }, { on := 8, ground := Ground.data }], guard := none }) (v := .pointer (some ⟨gl, j, none⟩)) rfl (by kernel_rfl) (by kernel_rfl) (by kernel_rfl) (fun _ _ _ h => h) (Or.inl ⟨by rfl, fun W hW => ?y10⟩) hs0 ?_
                  case y10 => go_simp
                  try dsimp only [Act.put]
                  try simp only [List.setIfInBounds_toArray, List.set_cons_zero, List.set_cons_succ]
                  refine wpAnyH_take (i := 10) (oi := { dst := some 89, op := Op.load 24 (Operand.tmp 88), type := 24, pos := "law.go:255", after := #[{ on := 9, ground := Ground.data }], guard := none }) (v := .slice Aj Nj cj) rfl (by kernel_rfl) (by kernel_rfl) (by kernel_rfl) (fun _ _ _ h => h) (Or.inl ⟨by rfl, fun W hW => by have hcl := hW.2.2.2.1; go_simp⟩) hs0 ?_
                  try dsimp only [Act.put]
                  try simp only [List.setIfInBounds_toArray, List.set_cons_zero, List.set_cons_succ]
                  refine wpAnyH_ready (rs := [11]) (by kernel_rfl) (by simp) ?_
                  refine AllReadyH.cons (o := { dst := some 90, op := Op.call { callee := Callee.value (Operand.func 34), args := #[Operand.tmp 85, Operand.tmp 89], argTypes := #[24, 24] }, type := 4, pos := "law.go:255", after := #[{ on := 6, ground := Ground.data }, { on := 10, ground := Ground.data }], guard := none }) rfl (fun K hK => ?_) AllReadyH.nil
                  rw [if_pos (by rfl)]
                  have HCC := HSM.out Wd k0.out
                  go_simp
                  refine HCC.mono ?_; rintro e w12 ⟨rfl, hbt⟩
                  clear HCC
                  have k13 := Lib.hid (k0.out.trans (hbt.mono k0.out.size))
                  have hs14 := s5_below hs0 hbt
                  clear hbt
                  go_wp2_with fail
                  refine hK.out _ _ hs14 (fun _ => ?_)
                  clear hK K
                  try dsimp only [Act.put]
                  try simp only [List.setIfInBounds_toArray, List.set_cons_zero, List.set_cons_succ]
                  refine wpAnyH_take (i := 12) (oi := { dst := some 91, op := Op.binOp BinOp.neq 4 (Operand.tmp 81) (Operand.tmp 90) 4, type := 4, pos := "law.go:255", after := #[{ on := 2, ground := Ground.data }, { on := 11, ground := Ground.data }], guard := none }) (v := .bool true) rfl (by kernel_rfl) (by kernel_rfl) (by kernel_rfl) (fun _ _ _ h => h) (Or.inl ⟨by rfl, fun W hW => ?y15⟩) hs14 ?_
                  case y15 => go_simp
                  try dsimp only [Act.put]
                  try simp only [List.setIfInBounds_toArray, List.set_cons_zero, List.set_cons_succ]
                  refine wpAnyH_take (i := 13) (oi := { dst := some 92, op := Op.move (Operand.tmp 91), type := 4, pos := "law.go:255", after := #[{ on := 12, ground := Ground.data }, { on := 11, ground := Ground.chain }], guard := none }) (v := .bool true) rfl (by kernel_rfl) (by kernel_rfl) (by kernel_rfl) (fun _ _ _ h => h) (Or.inl ⟨by rfl, fun W hW => ?y16⟩) hs14 ?_
                  case y16 => go_simp
                  try dsimp only [Act.put]
                  try simp only [List.setIfInBounds_toArray, List.set_cons_zero, List.set_cons_succ]
                  refine wpAnyH_take (i := 14) (oi := { dst := some 93, op := Op.move (Operand.tmp 11), type := 27, pos := "law.go:255", after := #[{ on := 13, ground := Ground.guard }], guard := some (13, true) }) (v := .slice (some ⟨gl, 0, none⟩) 3 3) rfl (by kernel_rfl) (by kernel_rfl) (by kernel_rfl) (fun _ _ _ h => h) (Or.inl ⟨by rfl, fun W hW => ?y17⟩) hs14 ?_
                  case y17 => go_simp
                  try dsimp only [Act.put]
                  try simp only [List.setIfInBounds_toArray, List.set_cons_zero, List.set_cons_succ]
                  refine wpAnyH_take (i := 15) (oi := { dst := some 94, op := Op.move (Operand.tmp 12), type := 3, pos := "law.go:255", after := #[{ on := 13, ground := Ground.guard }], guard := some (13, true) }) (v := .int .i64 (i : Int)) rfl (by kernel_rfl) (by kernel_rfl) (by kernel_rfl) (fun _ _ _ h => h) (Or.inl ⟨by rfl, fun W hW => ?y18⟩) hs14 ?_
                  case y18 => go_simp
                  try dsimp only [Act.put]
                  try simp only [List.setIfInBounds_toArray, List.set_cons_zero, List.set_cons_succ]
                  refine wpAnyH_take (i := 16) (oi := { dst := some 95, op := Op.indexAddr 27 (Operand.tmp 93) (Operand.tmp 94), type := 0, pos := "law.go:255", after := #[{ on := 14, ground := Ground.data }, { on := 15, ground := Ground.data }, { on := 13, ground := Ground.guard }], guard := some (13, true) }) (v := .pointer (some ⟨gl, i, none⟩)) rfl (by kernel_rfl) (by kernel_rfl) (by kernel_rfl) (fun _ _ _ h => h) (Or.inl ⟨by rfl, fun W hW => ?y19⟩) hs14 ?_
                  case y19 => go_simp
                  try dsimp only [Act.put]
                  try simp only [List.setIfInBounds_toArray, List.set_cons_zero, List.set_cons_succ]
                  refine wpAnyH_take (i := 17) (oi := { dst := some 96, op := Op.load 24 (Operand.tmp 95), type := 24, pos := "law.go:255", after := #[{ on := 16, ground := Ground.data }, { on := 13, ground := Ground.guard }], guard := some (13, true) }) (v := .slice Ai Ni ci) rfl (by kernel_rfl) (by kernel_rfl) (by kernel_rfl) (fun _ _ _ h => h) (Or.inl ⟨by rfl, fun W hW => by have hcl := hW.2.2.1; go_simp⟩) hs14 ?_
                  try dsimp only [Act.put]
                  try simp only [List.setIfInBounds_toArray, List.set_cons_zero, List.set_cons_succ]
                  refine wpAnyH_take (i := 18) (oi := { dst := some 97, op := Op.load 54 (Operand.tmp 18), type := 54, pos := "law.go:255", after := #[{ on := 13, ground := Ground.guard }], guard := some (13, true) }) (v := .agg (PR 0 (Nj : Int) (.slice Aj Nj cj) (.slice none 0 0)).toArray) rfl (by kernel_rfl) (by kernel_rfl) (by kernel_rfl) (fun _ _ _ h => h) (Or.inl ⟨by rfl, fun W hW => exec_load_row _ _ 54 (.tmp 18) rfl ⟨gw, 0, none⟩ rfl (PR 0 (Nj : Int) (.slice Aj Nj cj) (.slice none 0 0)) W (run_loadVar_at W _ 54 (PR 0 (Nj : Int) (.slice Aj Nj cj) (.slice none 0 0)) _ (Blk.at hW.2.2.2.2) Tryd.underlying54 rfl (size54L _ _ _ _))⟩) hs14 ?_
                  try dsimp only [Act.put]
                  try simp only [List.setIfInBounds_toArray, List.set_cons_zero, List.set_cons_succ]
                  refine wpAnyH_ready (rs := [19]) (by kernel_rfl) (by simp) ?_
                  refine AllReadyH.cons (o := { dst := some 98, op := Op.call { callee := Callee.value (Operand.func 45), args := #[Operand.tmp 96, Operand.tmp 97], argTypes := #[24, 54] }, type := 4, pos := "law.go:255", after := #[{ on := 17, ground := Ground.data }, { on := 18, ground := Ground.data }, { on := 13, ground := Ground.chain }, { on := 13, ground := Ground.guard }], guard := some (13, true) }) rfl (fun K hK => ?_) AllReadyH.nil
                  rw [if_pos (by rfl)]
                  have HCC := HCO.out w12 k13.out
                  go_simp
                  refine HCC.mono ?_; rintro e w22 ⟨rfl, hbt⟩
                  clear HCC
                  have k23 := Lib.hid (k13.out.trans (hbt.mono k13.out.size))
                  have hs24 := s5_below hs14 hbt
                  clear hbt
                  go_wp2_with fail
                  refine hK.out _ _ hs24 (fun _ => ?_)
                  clear hK K
                  try dsimp only [Act.put]
                  try simp only [List.setIfInBounds_toArray, List.set_cons_zero, List.set_cons_succ]
                  refine wpAnyH_take (i := 20) (oi := { dst := some 99, op := Op.unOp UnOp.not 4 (Operand.tmp 98), type := 4, pos := "law.go:255", after := #[{ on := 19, ground := Ground.data }, { on := 13, ground := Ground.guard }], guard := some (13, true) }) (v := .bool false) rfl (by kernel_rfl) (by kernel_rfl) (by kernel_rfl) (fun _ _ _ h => h) (Or.inl ⟨by rfl, fun W hW => ?y25⟩) hs24 ?_
                  case y25 => go_simp
                  try dsimp only [Act.put]
                  try simp only [List.setIfInBounds_toArray, List.set_cons_zero, List.set_cons_succ]
                  refine wpAnyH_take (i := 21) (oi := { dst := some 100, op := Op.pick (Operand.tmp 92) (Operand.tmp 99) (Operand.const (Value.bool false)), type := 4, pos := "law.go:255", after := #[{ on := 13, ground := Ground.data }, { on := 20, ground := Ground.data }], guard := none }) (v := .bool false) rfl (by kernel_rfl) (by kernel_rfl) (by kernel_rfl) (fun _ _ _ h => h) (Or.inl ⟨by rfl, fun W hW => ?y26⟩) hs24 ?_
                  case y26 => go_simp
                  try dsimp only [Act.put]
                  try simp only [List.setIfInBounds_toArray, List.set_cons_zero, List.set_cons_succ]
                  refine wpAnyH_done (by kernel_rfl) ?_ _
                  try dsimp only [Act.put]
                  try simp only [List.setIfInBounds_toArray, List.set_cons_zero, List.set_cons_succ]
                  have KE := k23
                  go_wp2_with fail
                  go_meet
                  exact ⟨rfl, KE⟩
                · have HEQ := Lib.hid (fun (W : World) => show (Op.equalIn 10000 29 (.agg (B8 Ri).toArray) (.agg (B8 Rj).toArray)).run Tryd.prog W = .ok false W from by rw [eqi29 Ri Rj HLRi.out HLRj.out W, beq_eq_false_iff_ne.2 hRR])
                  clear hE hRR HSM0
                  refine wp_region_held (S := fun W => Blk W gx 29 (B8 Ri) ∧ Blk W gy 29 (B8 Rj) ∧ W.cell? ⟨gl, i, none⟩ = some (.slice Ai Ni ci) ∧ W.cell? ⟨gl, j, none⟩ = some (.slice Aj Nj cj) ∧ Blk W gw 54 (PR 0 (Nj : Int) (.slice Aj Nj cj) (.slice none 0 0))) (by kernel_rfl) ?_
                  change wpAnyH _ _ _ _ _ _ _ _ (World.drew W9)
                  have k0 := Lib.hid (Below.refl W9.heap.size W9).drew
                  have hs0 : Blk (World.drew W9) gx 29 (B8 Ri) ∧ Blk (World.drew W9) gy 29 (B8 Rj) ∧ (World.drew W9).cell? ⟨gl, i, none⟩ = some (.slice Ai Ni ci) ∧ (World.drew W9).cell? ⟨gl, j, none⟩ = some (.slice Aj Nj cj) ∧ Blk (World.drew W9) gw 54 (PR 0 (Nj : Int) (.slice Aj Nj cj) (.slice none 0 0)) := HS9.out
                  generalize World.drew W9 = Wd at k0 hs0 ⊢
                  refine wpAnyH_take (i := 0) (oi := { dst := some 79, op := Op.load 29 (Operand.tmp 14), type := 29, pos := "law.go:255", after := #[], guard := none }) (v := .agg (B8 Ri).toArray) rfl (by kernel_rfl) (by kernel_rfl) (by kernel_rfl) (fun _ _ _ h => h) (Or.inl ⟨by rfl, fun W hW => exec_load_row _ _ 29 (.tmp 14) rfl ⟨gx, 0, none⟩ rfl (B8 Ri) W (run_loadVar_at W _ 29 (B8 Ri) (.array 16 5) (Blk.at hW.1) Tryd.underlying29 rfl (size29 _ HLRi.out))⟩) hs0 ?_
                  try dsimp only [Act.put]
                  try simp only [List.setIfInBounds_toArray, List.set_cons_zero, List.set_cons_succ]
                  refine wpAnyH_take (i := 1) (oi := { dst := some 80, op := Op.load 29 (Operand.tmp 16), type := 29, pos := "law.go:255", after := #[], guard := none }) (v := .agg (B8 Rj).toArray) rfl (by kernel_rfl) (by kernel_rfl) (by kernel_rfl) (fun _ _ _ h => h) (Or.inl ⟨by rfl, fun W hW => exec_load_row _ _ 29 (.tmp 16) rfl ⟨gy, 0, none⟩ rfl (B8 Rj) W (run_loadVar_at W _ 29 (B8 Rj) (.array 16 5) (Blk.at hW.2.1) Tryd.underlying29 rfl (size29 _ HLRj.out))⟩) hs0 ?_
                  try dsimp only [Act.put]
                  try simp only [List.setIfInBounds_toArray, List.set_cons_zero, List.set_cons_succ]
                  refine wpAnyH_take (i := 2) (oi := { dst := some 81, op := Op.binOp BinOp.eql 29 (Operand.tmp 79) (Operand.tmp 80) 29, type := 4, pos := "law.go:255", after := #[{ on := 0, ground := Ground.data }, { on := 1, ground := Ground.data }], guard := none }) (v := .bool false) rfl (by kernel_rfl) (by kernel_rfl) (by kernel_rfl) (fun _ _ _ h => h) (Or.inl ⟨by rfl, fun W hW => by have heq := HEQ.out W; go_simp⟩) hs0 ?_
                  try dsimp only [Act.put]
                  try simp only [List.setIfInBounds_toArray, List.set_cons_zero, List.set_cons_succ]
                  refine wpAnyH_take (i := 3) (oi := { dst := some 82, op := Op.move (Operand.tmp 11), type := 27, pos := "law.go:255", after := #[], guard := none }) (v := .slice (some ⟨gl, 0, none⟩) 3 3) rfl (by kernel_rfl) (by kernel_rfl) (by kernel_rfl) (fun _ _ _ h => h) (Or.inl ⟨by rfl, fun W hW => ?y4⟩) hs0 ?_
                  case y4 => go_simp
                  try dsimp only [Act.put]
                  try simp only [List.setIfInBounds_toArray, List.set_cons_zero, List.set_cons_succ]
                  refine wpAnyH_take (i := 4) (oi := { dst := some 83, op := Op.move (Operand.tmp 12), type := 3, pos := "law.go:255", after := #[], guard := none }) (v := .int .i64 (i : Int)) rfl (by kernel_rfl) (by kernel_rfl) (by kernel_rfl) (fun _ _ _ h => h) (Or.inl ⟨by rfl, fun W hW => ?y5⟩) hs0 ?_
                  case y5 => go_simp
                  try dsimp only [Act.put]
                  try simp only [List.setIfInBounds_toArray, List.set_cons_zero, List.set_cons_succ]
                  refine wpAnyH_take (i := 5) (oi := { dst := some 84, op := Op.indexAddr 27 (Operand.tmp 82) (Operand.tmp 83), type := 0, pos := "law.go:255", after := #[{ on := 3, ground := Ground.data }, { on := 4, ground := Ground.data }], guard := none }) (v := .pointer (some ⟨gl, i, none⟩)) rfl (by kernel_rfl) (by kernel_rfl) (by kernel_rfl) (fun _ _ _ h => h) (Or.inl ⟨by rfl, fun W hW => ?y6⟩) hs0 ?_
                  case y6 => go_simp
                  try dsimp only [Act.put]
                  try simp only [List.setIfInBounds_toArray, List.set_cons_zero, List.set_cons_succ]
                  refine wpAnyH_take (i := 6) (oi := { dst := some 85, op := Op.load 24 (Operand.tmp 84), type := 24, pos := "law.go:255", after := #[{ on := 5, ground := Ground.data }], guard := none }) (v := .slice Ai Ni ci) rfl (by kernel_rfl) (by kernel_rfl) (by kernel_rfl) (fun _ _ _ h => h) (Or.inl ⟨by rfl, fun W hW => by have hcl := hW.2.2.1; go_simp⟩) hs0 ?_
                  try dsimp only [Act.put]
                  try simp only [List.setIfInBounds_toArray, List.set_cons_zero, List.set_cons_succ]
                  refine wpAnyH_take (i := 7) (oi := { dst := some 86, op := Op.move (Operand.tmp 11), type := 27, pos := "law.go:255", after := #[], guard := none }) (v := .slice (some ⟨gl, 0, none⟩) 3 3) rfl (by kernel_rfl) (by kernel_rfl) (by kernel_rfl) (fun _ _ _ h => h) (Or.inl ⟨by rfl, fun W hW => ?y8⟩) hs0 ?_
                  case y8 => go_simp
                  try dsimp only [Act.put]
                  try simp only [List.setIfInBounds_toArray, List.set_cons_zero, List.set_cons_succ]
                  refine wpAnyH_take (i := 8) (oi := { dst := some 87, op := Op.move (Operand.tmp 13), type := 3, pos := "law.go:255", after := #[], guard := none }) (v := .int .i64 (j : Int)) rfl (by kernel_rfl) (by kernel_rfl) (by kernel_rfl) (fun _ _ _ h => h) (Or.inl ⟨by rfl, fun W hW => ?y9⟩) hs0 ?_
                  case y9 => go_simp
                  try dsimp only [Act.put]
                  try simp only [List.setIfInBounds_toArray, List.set_cons_zero, List.set_cons_succ]
                  refine wpAnyH_take (i := 9) (oi := { dst := some 88, op := Op.indexAddr 27 (Operand.tmp 86) (Operand.tmp 87), type := 0, pos := "law.go:255", after := #[{ on := 7, ground := Ground.data }, { on := 8, ground := Ground.data }], guard := none }) (v := .pointer (some ⟨gl, j, none⟩)) rfl (by kernel_rfl) (by kernel_rfl) (by kernel_rfl) (fun _ _ _ h => h) (Or.inl ⟨by rfl, fun W hW => ?y10⟩) hs0 ?_
                  case y10 => go_simp
                  try dsimp only [Act.put]
                  try simp only [List.setIfInBounds_toArray, List.set_cons_zero, List.set_cons_succ]
                  refine wpAnyH_take (i := 10) (oi := { dst := some 89, op := Op.load 24 (Operand.tmp 88), type := 24, pos := "law.go:255", after := #[{ on := 9, ground := Ground.data }], guard := none }) (v := .slice Aj Nj cj) rfl (by kernel_rfl) (by kernel_rfl) (by kernel_rfl) (fun _ _ _ h => h) (Or.inl ⟨by rfl, fun W hW => by have hcl := hW.2.2.2.1; go_simp⟩) hs0 ?_
                  try dsimp only [Act.put]
                  try simp only [List.setIfInBounds_toArray, List.set_cons_zero, List.set_cons_succ]
                  refine wpAnyH_ready (rs := [11]) (by kernel_rfl) (by simp) ?_
                  refine AllReadyH.cons (o := { dst := some 90, op := Op.call { callee := Callee.value (Operand.func 34), args := #[Operand.tmp 85, Operand.tmp 89], argTypes := #[24, 24] }, type := 4, pos := "law.go:255", after := #[{ on := 6, ground := Ground.data }, { on := 10, ground := Ground.data }], guard := none }) rfl (fun K hK => ?_) AllReadyH.nil
                  rw [if_pos (by rfl)]
                  have HCC := HSM.out Wd k0.out
                  go_simp
                  refine HCC.mono ?_; rintro e w12 ⟨rfl, hbt⟩
                  clear HCC
                  have k13 := Lib.hid (k0.out.trans (hbt.mono k0.out.size))
                  have hs14 := s5_below hs0 hbt
                  clear hbt
                  go_wp2_with fail
                  refine hK.out _ _ hs14 (fun _ => ?_)
                  clear hK K
                  try dsimp only [Act.put]
                  try simp only [List.setIfInBounds_toArray, List.set_cons_zero, List.set_cons_succ]
                  refine wpAnyH_take (i := 12) (oi := { dst := some 91, op := Op.binOp BinOp.neq 4 (Operand.tmp 81) (Operand.tmp 90) 4, type := 4, pos := "law.go:255", after := #[{ on := 2, ground := Ground.data }, { on := 11, ground := Ground.data }], guard := none }) (v := .bool false) rfl (by kernel_rfl) (by kernel_rfl) (by kernel_rfl) (fun _ _ _ h => h) (Or.inl ⟨by rfl, fun W hW => ?y15⟩) hs14 ?_
                  case y15 => go_simp
                  try dsimp only [Act.put]
                  try simp only [List.setIfInBounds_toArray, List.set_cons_zero, List.set_cons_succ]
                  refine wpAnyH_take (i := 13) (oi := { dst := some 92, op := Op.move (Operand.tmp 91), type := 4, pos := "law.go:255", after := #[{ on := 12, ground := Ground.data }, { on := 11, ground := Ground.chain }], guard := none }) (v := .bool false) rfl (by kernel_rfl) (by kernel_rfl) (by kernel_rfl) (fun _ _ _ h => h) (Or.inl ⟨by rfl, fun W hW => ?y16⟩) hs14 ?_
                  case y16 => go_simp
                  try dsimp only [Act.put]
                  try simp only [List.setIfInBounds_toArray, List.set_cons_zero, List.set_cons_succ]
                  refine wpAnyH_take (i := 14) (oi := { dst := some 93, op := Op.move (Operand.tmp 11), type := 27, pos := "law.go:255", after := #[{ on := 13, ground := Ground.guard }], guard := some (13, true) }) (v := undef) rfl (by kernel_rfl) (by kernel_rfl) (by kernel_rfl) (fun _ _ _ h => h) (Or.inr ⟨by rfl, rfl⟩) hs14 ?_
                  try dsimp only [Act.put]
                  try simp only [List.setIfInBounds_toArray, List.set_cons_zero, List.set_cons_succ]
                  refine wpAnyH_take (i := 15) (oi := { dst := some 94, op := Op.move (Operand.tmp 12), type := 3, pos := "law.go:255", after := #[{ on := 13, ground := Ground.guard }], guard := some (13, true) }) (v := undef) rfl (by kernel_rfl) (by kernel_rfl) (by kernel_rfl) (fun _ _ _ h => h) (Or.inr ⟨by rfl, rfl⟩) hs14 ?_
                  try dsimp only [Act.put]
                  try simp only [List.setIfInBounds_toArray, List.set_cons_zero, List.set_cons_succ]
                  refine wpAnyH_take (i := 16) (oi := { dst := some 95, op := Op.indexAddr 27 (Operand.tmp 93) (Operand.tmp 94), type := 0, pos := "law.go:255", after := #[{ on := 14, ground := Ground.data }, { on := 15, ground := Ground.data }, { on := 13, ground := Ground.guard }], guard := some (13, true) }) (v := undef) rfl (by kernel_rfl) (by kernel_rfl) (by kernel_rfl) (fun _ _ _ h => h) (Or.inr ⟨by rfl, rfl⟩) hs14 ?_
                  try dsimp only [Act.put]
                  try simp only [List.setIfInBounds_toArray, List.set_cons_zero, List.set_cons_succ]
                  refine wpAnyH_take (i := 17) (oi := { dst := some 96, op := Op.load 24 (Operand.tmp 95), type := 24, pos := "law.go:255", after := #[{ on := 16, ground := Ground.data }, { on := 13, ground := Ground.guard }], guard := some (13, true) }) (v := undef) rfl (by kernel_rfl) (by kernel_rfl) (by kernel_rfl) (fun _ _ _ h => h) (Or.inr ⟨by rfl, rfl⟩) hs14 ?_
                  try dsimp only [Act.put]
                  try simp only [List.setIfInBounds_toArray, List.set_cons_zero, List.set_cons_succ]
                  refine wpAnyH_take (i := 18) (oi := { dst := some 97, op := Op.load 54 (Operand.tmp 18), type := 54, pos := "law.go:255", after := #[{ on := 13, ground := Ground.guard }], guard := some (13, true) }) (v := undef) rfl (by kernel_rfl) (by kernel_rfl) (by kernel_rfl) (fun _ _ _ h => h) (Or.inr ⟨by rfl, rfl⟩) hs14 ?_
                  try dsimp only [Act.put]
                  try simp only [List.setIfInBounds_toArray, List.set_cons_zero, List.set_cons_succ]
                  refine wpAnyH_take (i := 19) (oi := { dst := some 98, op := Op.call { callee := Callee.value (Operand.func 45), args := #[Operand.tmp 96, Operand.tmp 97], argTypes := #[24, 54] }, type := 4, pos := "law.go:255", after := #[{ on := 17, ground := Ground.data }, { on := 18, ground := Ground.data }, { on := 13, ground := Ground.chain }, { on := 13, ground := Ground.guard }], guard := some (13, true) }) (v := undef) rfl (by kernel_rfl) (by kernel_rfl) (by kernel_rfl) (fun _ _ _ h => h) (Or.inr ⟨by rfl, rfl⟩) hs14 ?_
                  try dsimp only [Act.put]
                  try simp only [List.setIfInBounds_toArray, List.set_cons_zero, List.set_cons_succ]
                  refine wpAnyH_take (i := 20) (oi := { dst := some 99, op := Op.unOp UnOp.not 4 (Operand.tmp 98), type := 4, pos := "law.go:255", after := #[{ on := 19, ground := Ground.data }, { on := 13, ground := Ground.guard }], guard := some (13, true) }) (v := undef) rfl (by kernel_rfl) (by kernel_rfl) (by kernel_rfl) (fun _ _ _ h => h) (Or.inr ⟨by rfl, rfl⟩) hs14 ?_
                  try dsimp only [Act.put]
                  try simp only [List.setIfInBounds_toArray, List.set_cons_zero, List.set_cons_succ]
                  refine wpAnyH_take (i := 21) (oi := { dst := some 100, op := Op.pick (Operand.tmp 92) (Operand.tmp 99) (Operand.const (Value.bool false)), type := 4, pos := "law.go:255", after := #[{ on := 13, ground := Ground.data }, { on := 20, ground := Ground.data }], guard := none }) (v := .bool false) rfl (by kernel_rfl) (by kernel_rfl) (by kernel_rfl) (fun _ _ _ h => h) (Or.inl ⟨by rfl, fun W hW => ?y24⟩) hs14 ?_
                  case y24 => go_simp
                  try dsimp only [Act.put]
                  try simp only [List.setIfInBounds_toArray, List.set_cons_zero, List.set_cons_succ]
                  refine wpAnyH_done (by kernel_rfl) ?_ _
                  try dsimp only [Act.put]
                  try simp only [List.setIfInBounds_toArray, List.set_cons_zero, List.set_cons_succ]
                  have KE := k13
                  go_wp2_with fail
                  go_meet
                  exact ⟨rfl, KE⟩
            case rest =>
              obtain ⟨rfl, KE⟩ := hcut
              have K9 := Lib.hid (B9.out.trans (KE.out.mono B9.out.size))
              clear KE
              go_wp2_with fail
              go_roundw
              case rel => exact ⟨j + 1, by omega, by go_num, K9⟩
              case measure => simp only [intOf]; omega
        · subst hvi hvj
          go_wp2_with fail
          go_roundw
          case rel => exact ⟨j + 1, by omega, by go_num, B8'⟩
          case measure => simp only [intOf]; omega
        · subst hvi hvj
          go_wp2_with fail
          go_roundw
          case rel => exact ⟨j + 1, by omega, by go_num, B8'⟩
          case measure => simp only [intOf]; omega
      · subst hvi
        go_wp2_with fail
        go_roundw
        case rel => exact ⟨j + 1, by omega, by go_num, B8'⟩
        case measure => simp only [intOf]; omega
      · subst hvi
        go_wp2_with fail
        go_roundw
        case rel => exact ⟨j + 1, by omega, by go_num, B8'⟩
        case measure => simp only [intOf]; omega
    · have hnl : ¬ (j : Int) < (i : Int) := by omega
      go_wp2_with fail
      go_roundw
      case rel => exact ⟨i + 1, by omega, by go_num, HB⟩
      case measure => simp only [intOf]; omega
  · obtain rfl : i = 3 := by omega
    have Bw := Lib.hid (Bs3.out.trans (HB.out.mono Bs3.out.size))
    obtain ⟨RE, hRE⟩ : ∃ R, R = rootR [] := ⟨_, rfl⟩
    have HRE := Lib.hid hRE
    have HLRE := Lib.hid (show RE.length = 16 by rw [hRE]; exact rootR_len [])
    obtain ⟨E0, hE0⟩ : ∃ E, E = enc 0 := ⟨_, rfl⟩
    have HE0 := Lib.hid hE0
    have HE1 := Lib.hid (show 1 = E0.length by rw [hE0]; rfl)
    have HRT := Lib.hid (show Calls Tryd.prog 12 #[.slice none 0 0] wr fun e w' => e = .returned (.tuple #[.agg (B8 RE).toArray, .int .i64 0]) ∧ Below wr.heap.size wr w' from
      root_any none [] 0 wr ⟨Rd.nil, Nat.le_refl _, fun _ => rfl, ⟨by decide, fun x h => by cases h⟩⟩ (HT.out.below Bw.out HT.out.1) RE HRE)
    clear hRE hE0 hlt HU HB
    go_wp2_with fail
    refine HRT.out.mono ?_; rintro e w9 ⟨rfl, hb⟩
    have B9 := Lib.hid (Bw.out.trans (hb.mono Bw.out.size))
    obtain ⟨W10, hW10⟩ : ∃ W, W = (w9.alloc (.cells Z16.toArray 29)).setRow w9.heap.size (B8 RE).toArray := ⟨_, rfl⟩
    have hb10 : Below w9.heap.size w9 W10 := by rw [hW10]; exact belowRow ((Below.refl _ _).alloc (Nat.le_refl _) _) (Nat.le_refl _) _
    have B10 := Lib.hid (B9.out.trans (hb10.mono B9.out.size))
    have R10 := Lib.hid (show Blk W10 w9.heap.size 29 (B8 RE) by rw [hW10]; exact (Blk.new w9 29 Z16).row _)
    have HE := Lib.hid hW10
    have hZ := hZ16
    clear hW10 hb10 hb HRT B9 Bw
    go_upto_region 17 with (with_reducible refine wpList_store_row rfl 29 (.tmp 19) (.tmp 103) rfl w9.heap.size (B8 RE).toArray rfl rfl 29 _ (heap_alloc_new w9 _) (size29' _ HLRE.out) (Z16_size _ HLRE.out) (one8 _) ?_)
    rw [← HE.out]
    clear HE hZ
    obtain ⟨ge, hge⟩ : ∃ g, g = w9.heap.size := ⟨_, rfl⟩
    rw [← hge] at R10 ⊢
    clear hge
    have HOF := Lib.hid (fun (W : World) (A : Option Addr) (hr : Rd W W.heap.size A (St [bs E0])) (hb : Below W10.heap.size W10 W) => show Calls Tryd.prog 46 #[.int .i64 4, .slice A 1 1] W fun e w' => e = .returned (.agg (B8 RE).toArray) ∧ Below W.heap.size W w' from by
      have := rof_go 4 A [bs E0] 1 W hr 4 (by rfl) (inp_1 4 (bs E0) (by rw [bs_size, ← HE1.out]; decide)) (HT0.out.below (B10.out.trans (hb.mono B10.out.size)) HT0.out.1) _ (Lib.hid rfl)
      rw [HRE.out, rootR_nil, ← HE0.out]; exact this)
    have HLV := Lib.hid (fun (W : World) (hb : Below W10.heap.size W10 W) => lives_any W (HT.out.below (B10.out.trans (hb.mono B10.out.size)) HT.out.1))
    go_cut [8] (fun s8 wx => s8 = .bool true ∧ Hid (Below W10.heap.size W10 wx))
    case first =>
      refine wp_region_held (S := fun W => Blk W ge 29 (B8 RE)) (by kernel_rfl) ?_
      change wpAnyH _ _ _ _ _ _ _ _ (World.drew W10)
      have k0 := Lib.hid (Below.refl W10.heap.size W10).drew
      have hs0 : Blk (World.drew W10) ge 29 (B8 RE) := R10.out
      generalize World.drew W10 = Wd at k0 hs0 ⊢
      refine wpAnyH_take (i := 0) (oi := { dst := some 105, op := Op.move (Operand.tmp 20), type := 30, pos := "law.go:261", after := #[], guard := none }) (v := .int .i64 0) rfl (by kernel_rfl) (by kernel_rfl) (by kernel_rfl) (fun _ _ _ h => h) (Or.inl ⟨by rfl, fun W hW => ?y1⟩) hs0 ?_
      case y1 => go_simp
      try dsimp only [Act.put]
      try simp only [List.setIfInBounds_toArray, List.set_cons_zero, List.set_cons_succ]
      refine wpAnyH_take (i := 1) (oi := { dst := some 106, op := Op.binOp BinOp.eql 30 (Operand.tmp 105) (Operand.const (Value.int IntKind.i64 0)) 30, type := 4, pos := "law.go:261", after := #[{ on := 0, ground := Ground.data }], guard := none }) (v := .bool true) rfl (by kernel_rfl) (by kernel_rfl) (by kernel_rfl) (fun _ _ _ h => h) (Or.inl ⟨by rfl, fun W hW => ?y2⟩) hs0 ?_
      case y2 => go_simp
      try dsimp only [Act.put]
      try simp only [List.setIfInBounds_toArray, List.set_cons_zero, List.set_cons_succ]
      refine wpAnyH_take (i := 2) (oi := { dst := some 107, op := Op.move (Operand.tmp 106), type := 4, pos := "law.go:261", after := #[{ on := 1, ground := Ground.data }], guard := none }) (v := .bool true) rfl (by kernel_rfl) (by kernel_rfl) (by kernel_rfl) (fun _ _ _ h => h) (Or.inl ⟨by rfl, fun W hW => ?y3⟩) hs0 ?_
      case y3 => go_simp
      try dsimp only [Act.put]
      try simp only [List.setIfInBounds_toArray, List.set_cons_zero, List.set_cons_succ]
      refine wpAnyH_take (i := 3) (oi := { dst := some 108, op := Op.load 29 (Operand.tmp 19), type := 29, pos := "law.go:261", after := #[{ on := 2, ground := Ground.guard }], guard := some (2, true) }) (v := .agg (B8 RE).toArray) rfl (by kernel_rfl) (by kernel_rfl) (by kernel_rfl) (fun _ _ _ h => h) (Or.inl ⟨by rfl, fun W hW => exec_load_row _ _ 29 (.tmp 19) rfl ⟨ge, 0, none⟩ rfl (B8 RE) W (run_loadVar_at W _ 29 (B8 RE) (.array 16 5) (Blk.at hW) Tryd.underlying29 rfl (size29 _ HLRE.out))⟩) hs0 ?_
      try dsimp only [Act.put]
      try simp only [List.setIfInBounds_toArray, List.set_cons_zero, List.set_cons_succ]
      refine wpAnyH_ready (rs := [4]) (by kernel_rfl) (by simp) ?_
      refine AllReadyH.cons (o := { dst := some 109, op := Op.call { callee := Callee.value (Operand.func 47), args := #[Operand.const (Value.int IntKind.i64 0)], argTypes := #[3] }, type := 39, pos := "law.go:261", after := #[{ on := 2, ground := Ground.chain }, { on := 2, ground := Ground.guard }], guard := some (2, true) }) rfl (fun K hK => ?_) AllReadyH.nil
      rw [if_pos (by rfl)]
      have HCC := int_s 0 Wd ⟨by decide, by decide⟩ E0 HE0 1 HE1
      go_simp
      refine HCC.mono ?_; rintro e w5 ⟨A6, c6, rfl, _, hrd6, hbt⟩
      clear HCC
      have k6 := Lib.hid (k0.out.trans (hbt.mono k0.out.size))
      have hs7 := hs0.below hbt hs0.lt
      have R6 := Lib.hid hrd6
      clear hrd6 hbt
      go_wp2_with fail
      refine hK.out _ _ hs7 (fun _ => ?_)
      clear hK K
      try dsimp only [Act.put]
      try simp only [List.setIfInBounds_toArray, List.set_cons_zero, List.set_cons_succ]
      refine wpAnyH_ready (rs := [5]) (by kernel_rfl) (by simp) ?_
      refine AllReadyH.cons (o := { dst := some 110, op := Op.convert 39 9 (Operand.tmp 109), type := 9, pos := "law.go:261", after := #[{ on := 4, ground := Ground.data }, { on := 2, ground := Ground.guard }], guard := some (2, true) }) rfl (fun K hK => ?_) AllReadyH.nil
      rw [if_pos (by rfl)]
      have hcv := conv_rd A6 E0 c6 _ w5 R6.out 1 HE1.out (by decide)
      go_simp
      clear hcv
      refine hK.out _ _ hs7 (fun _ => ?_)
      clear hK K
      try dsimp only [Act.put]
      try simp only [List.setIfInBounds_toArray, List.set_cons_zero, List.set_cons_succ]
      refine wpAnyH_ready (rs := [6]) (by kernel_rfl) (by simp) ?_
      refine AllReadyH.cons (o := { dst := some 111, op := Op.buildSlice 47 1 #[(0, Operand.tmp 110)], type := 47, pos := "law.go:261", after := #[{ on := 5, ground := Ground.data }, { on := 2, ground := Ground.guard }], guard := some (2, true) }) rfl (fun K hK => ?_) AllReadyH.nil
      rw [if_pos (by rfl)]
      have hbt := (Below.refl w5.heap.size w5).alloc (Nat.le_refl _) (.cells #[.string (bs E0)] 9)
      have R7 := Lib.hid (rd_new w5 (St [bs E0]) 9)
      have k8 := Lib.hid (k6.out.trans (hbt.mono k6.out.size))
      have hs9 := hs7.below hbt hs7.lt
      clear hbt
      go_simp
      refine hK.out _ _ hs9 (fun _ => ?_)
      clear hK K
      try dsimp only [Act.put]
      try simp only [List.setIfInBounds_toArray, List.set_cons_zero, List.set_cons_succ]
      refine wpAnyH_ready (rs := [7]) (by kernel_rfl) (by simp) ?_
      refine AllReadyH.cons (o := { dst := some 112, op := Op.call { callee := Callee.value (Operand.func 46), args := #[Operand.const (Value.int IntKind.i64 4), Operand.tmp 111], argTypes := #[3, 47] }, type := 29, pos := "law.go:261", after := #[{ on := 6, ground := Ground.data }, { on := 4, ground := Ground.chain }, { on := 2, ground := Ground.guard }], guard := some (2, true) }) rfl (fun K hK => ?_) AllReadyH.nil
      rw [if_pos (by rfl)]
      have HCC := HOF.out (w5.alloc (.cells #[.string (bs E0)] 9)) (some ⟨w5.heap.size, 0, none⟩) R7.out k8.out
      go_simp
      refine HCC.mono ?_; rintro e w10 ⟨rfl, hbt⟩
      clear HCC
      have k11 := Lib.hid (k8.out.trans (hbt.mono k8.out.size))
      have hs12 := hs9.below hbt hs9.lt
      clear hbt
      go_wp2_with fail
      refine hK.out _ _ hs12 (fun _ => ?_)
      clear hK K
      try dsimp only [Act.put]
      try simp only [List.setIfInBounds_toArray, List.set_cons_zero, List.set_cons_succ]
      refine wpAnyH_take (i := 8) (oi := { dst := some 113, op := Op.binOp BinOp.eql 29 (Operand.tmp 108) (Operand.tmp 112) 29, type := 4, pos := "law.go:261", after := #[{ on := 3, ground := Ground.data }, { on := 7, ground := Ground.data }, { on := 2, ground := Ground.guard }], guard := some (2, true) }) (v := .bool true) rfl (by kernel_rfl) (by kernel_rfl) (by kernel_rfl) (fun _ _ _ h => h) (Or.inl ⟨by rfl, fun W hW => by have heq := eqi29s RE HLRE.out W; go_simp⟩) hs12 ?_
      try dsimp only [Act.put]
      try simp only [List.setIfInBounds_toArray, List.set_cons_zero, List.set_cons_succ]
      refine wpAnyH_take (i := 9) (oi := { dst := some 114, op := Op.pick (Operand.tmp 107) (Operand.tmp 113) (Operand.const (Value.bool false)), type := 4, pos := "law.go:261", after := #[{ on := 2, ground := Ground.data }, { on := 8, ground := Ground.data }], guard := none }) (v := .bool true) rfl (by kernel_rfl) (by kernel_rfl) (by kernel_rfl) (fun _ _ _ h => h) (Or.inl ⟨by rfl, fun W hW => ?y14⟩) hs12 ?_
      case y14 => go_simp
      try dsimp only [Act.put]
      try simp only [List.setIfInBounds_toArray, List.set_cons_zero, List.set_cons_succ]
      refine wpAnyH_take (i := 10) (oi := { dst := some 115, op := Op.move (Operand.tmp 114), type := 4, pos := "law.go:261", after := #[{ on := 9, ground := Ground.data }, { on := 7, ground := Ground.chain }], guard := none }) (v := .bool true) rfl (by kernel_rfl) (by kernel_rfl) (by kernel_rfl) (fun _ _ _ h => h) (Or.inl ⟨by rfl, fun W hW => ?y15⟩) hs12 ?_
      case y15 => go_simp
      try dsimp only [Act.put]
      try simp only [List.setIfInBounds_toArray, List.set_cons_zero, List.set_cons_succ]
      refine wpAnyH_ready (rs := [11]) (by kernel_rfl) (by simp) ?_
      refine AllReadyH.cons (o := { dst := some 116, op := Op.call { callee := Callee.value (Operand.func 19), args := #[], argTypes := #[] }, type := 4, pos := "law.go:261", after := #[{ on := 10, ground := Ground.chain }, { on := 10, ground := Ground.guard }], guard := some (10, true) }) rfl (fun K hK => ?_) AllReadyH.nil
      rw [if_pos (by rfl)]
      have HCC := HLV.out w10 k11.out
      go_simp
      refine HCC.mono ?_; rintro e w16 ⟨rfl, hbt⟩
      clear HCC
      have k17 := Lib.hid (k11.out.trans (hbt.mono k11.out.size))
      have hs18 := hs12.below hbt hs12.lt
      clear hbt
      go_wp2_with fail
      refine hK.out _ _ hs18 (fun _ => ?_)
      clear hK K
      try dsimp only [Act.put]
      try simp only [List.setIfInBounds_toArray, List.set_cons_zero, List.set_cons_succ]
      refine wpAnyH_take (i := 12) (oi := { dst := some 117, op := Op.pick (Operand.tmp 115) (Operand.tmp 116) (Operand.const (Value.bool false)), type := 4, pos := "law.go:261", after := #[{ on := 10, ground := Ground.data }, { on := 11, ground := Ground.data }], guard := none }) (v := .bool true) rfl (by kernel_rfl) (by kernel_rfl) (by kernel_rfl) (fun _ _ _ h => h) (Or.inl ⟨by rfl, fun W hW => ?y19⟩) hs18 ?_
      case y19 => go_simp
      try dsimp only [Act.put]
      try simp only [List.setIfInBounds_toArray, List.set_cons_zero, List.set_cons_succ]
      refine wpAnyH_take (i := 13) (oi := { dst := some 8, op := Op.assign (Operand.tmp 117), type := 4, pos := "law.go:261", after := #[{ on := 12, ground := Ground.data }, { on := 11, ground := Ground.chain }, { on := 0, ground := Ground.phase }, { on := 1, ground := Ground.phase }, { on := 2, ground := Ground.phase }, { on := 3, ground := Ground.phase }, { on := 4, ground := Ground.phase }, { on := 5, ground := Ground.phase }, { on := 6, ground := Ground.phase }, { on := 7, ground := Ground.phase }, { on := 8, ground := Ground.phase }, { on := 9, ground := Ground.phase }, { on := 10, ground := Ground.phase }, { on := 11, ground := Ground.phase }, { on := 12, ground := Ground.phase }], guard := none }) (v := .bool true) rfl (by kernel_rfl) (by kernel_rfl) (by kernel_rfl) (fun _ _ _ h => h) (Or.inl ⟨by rfl, fun W hW => ?y20⟩) hs18 ?_
      case y20 => go_simp
      try dsimp only [Act.put]
      try simp only [List.setIfInBounds_toArray, List.set_cons_zero, List.set_cons_succ]
      refine wpAnyH_done (by kernel_rfl) ?_ _
      try dsimp only [Act.put]
      try simp only [List.setIfInBounds_toArray, List.set_cons_zero, List.set_cons_succ]
      have KE := k17
      go_wp2_with fail
      go_meet
      exact ⟨rfl, KE⟩
    case rest =>
      obtain ⟨rfl, KE⟩ := hcut
      have K11 := Lib.hid (B10.out.trans (KE.out.mono B10.out.size))
      go_wp2_with fail
      go_ret
      exact ⟨rfl, K11.out⟩
end Go.Proofs.YtofccgkgjcnfbaaDoor
