/-
  The law HashSumMatchesSpec returns true, whatever the bytes.
  Condition: both tables of the round constants are as the text lays them; the slice is no longer than a machine's.
-/
import Derived.Test.YtfagpeacilfaaaaDoorSane
import Derived.Test.YtfagpeacilfaaaaDoorRMac
import Derived.Outline
namespace Go.Proofs.YtfagpeacilfaaaaDoor
open Go.RowKit Wr Sh
set_option linter.unusedVariables false

/-- []byte(s), as one operation. -/
theorem wp_bytes_of {P : Program} {w : World} {o : Oper} {a : Act} {K : Act → World → Prop} {Q : Exit → Act → World → Prop} (src dst e : TypeId) (x : Operand) (ho : o.op = .convert src dst x)
    (s : ByteArray) (hx : a.eval x = .string s) (hs : P.underlying src = some .string) (hd : P.underlying dst = some (.slice e)) (he : P.underlying e = some (.int .u8))
    (h : ∀ (C : Nat) (W : World), s.size ≤ C → Rd W W.heap.size (some ⟨w.heap.size, 0, none⟩) (B8 s.data.toList) → Below w.heap.size w W → K (a.put o.dst (.slice (some ⟨w.heap.size, 0, none⟩) s.size C)) W) :
    o.wp P a w K Q := by
  have hrun := run_bytes_of_string (P := P) w src dst e s hs hd he
  have h2 := h (grownCap w s.size 0 e) _ (grownCap_ge w s.size 0 e) (fun _ => ⟨w.heap.size, 0, rfl, by simp, fun j u hu => by
    rw [Nat.zero_add]
    refine (cell_of_row _ w.heap.size j _ _ _ (heap_alloc_new w.drew _)).trans ?_
    have hj := (List.getElem?_eq_some_iff.1 hu).1
    rw [B8_len] at hj
    rw [B8_get _ _ hj] at hu
    rw [bytesRow_at s _ j (by simpa using hj), ← hu]
    rfl⟩) ((Below.refl w.heap.size w).drew.alloc (Nat.le_refl _) (.cells (bytesRow s (grownCap w s.size 0 e)) e ((bytesRow s (grownCap w s.size 0 e)).size, (bytesRow s (grownCap w s.size 0 e)).size + 1)))
  unfold Oper.wp execOp
  simp only [ho, hx, Sem.run_bind, hrun, Result.andThen_ok, Sem.run_pure]
  exact h2
theorem conv_nil : ∀ W : World, (convert 22 9 (.slice none 0 0)).run Tryd.prog W = .ok (.string ⟨#[]⟩) W := fun _ => by kernel_rfl
/-- string(b) of bytes that can be read. -/
theorem conv_rd (b : List UInt8) (A : Option Addr) (c B : Nat) (W : World) (hr : Rd W B A (B8 b)) (hnil : A = none → c = 0) : (convert 22 9 (.slice A b.length c)).run Tryd.prog W = .ok (.string ⟨b.toArray⟩) W := by
  cases A with
  | none =>
    obtain rfl := hnil rfl
    have hb : b = [] := by
      rcases b with _ | ⟨x, b⟩
      · rfl
      · obtain ⟨_, _, h, _⟩ := hr (by simp [B8]); cases h
    subst hb
    exact conv_nil W
  | some ad =>
    refine run_convert_bytes_back (P := Tryd.prog) W 22 9 5 ad c b Tryd.underlying22 Tryd.underlying5 Tryd.underlying9 (fun j hj => ?_)
    obtain ⟨g, o, h, _, hc⟩ := hr (by intro e; have := congrArg List.length e; rw [B8_len] at this; simp at this; rw [this] at hj; simp at hj)
    cases h
    rw [Addr.add_lit]; exact hc j _ (B8_get _ _ hj)

set_option maxRecDepth 100000 in
set_option maxHeartbeats 4000000 in
theorem sums_go (b : List UInt8) (A : Option Addr) (c : Nat) (w : World) (hr : Rd w w.heap.size A (B8 b)) (hc : b.length ≤ c) (hnil : A = none → c = 0) (hn : b.length ≤ 281474976710656) (ht : Tab 1 w) (ht0 : Tab 0 w) (R : List UInt8) (hR : Hid (R = sha b)) :
    Calls Tryd.prog 3 #[.slice A b.length c] w fun e w' => e = .returned (.bool true) ∧ Below w.heap.size w w' := by
  have HT := Lib.hid ht
  have HT1 : ∀ W, Below w.heap.size w W → Tab 1 W := fun W hW => HT.out.below hW HT.out.1
  have HU := Lib.hid ht0
  have HT0 : ∀ W, Below w.heap.size w W → Tab 0 W := fun W hW => HU.out.below hW HU.out.1
  have HR := Lib.hid hr
  have HNIL := Lib.hid hnil
  obtain ⟨N, hN⟩ : ∃ N, N = b.length := ⟨_, rfl⟩
  by_cases h1 : 1000 < b.length
  · rw [← hN] at h1 hn ⊢
    have h1' : (1000 : Int) < (N : Int) := by omega
    clear ht ht0 hr hnil hN
    go_enter Tryd.func3, Tryd.ntmps3
    go_wp2_with (go_at_call 10; refine (sanity_any _ HT.out).mono ?_; rintro e w1 ⟨rfl, hb1⟩)
    go_ret
    exact ⟨rfl, hb1⟩
  have h1' : ¬ (1000 : Int) < (N : Int) := by omega
  have HN := Lib.hid hN
  have HCV := Lib.hid (show ∀ W, Below w.heap.size w W → (convert 22 9 (.slice A N c)).run Tryd.prog W = .ok (.string ⟨b.toArray⟩) W from fun W hW => by rw [hN]; exact conv_rd b A c _ W (hr.below hW) hnil)
  have HSUM := Lib.hid (show ∀ W, Below w.heap.size w W → Calls Tryd.prog 11 #[.slice A N c] W fun e w' => e = .returned (.agg (B8 R).toArray) ∧ Below W.heap.size W w' from fun W hW => by rw [hN]; exact hsum_go b A c W ((hr.below hW).more hW.size) hc (by omega) (HT1 W hW) R hR)
  have HRL := Lib.hid (show R.length = 32 by rw [hR.out]; exact sha_len _)
  have HBR := Lib.hid (show (B8 R).length = 32 by rw [B8_len, HRL.out])
  have HSZ := Lib.hid (show (⟨b.toArray⟩ : ByteArray).size ≤ 549755813888 by show b.toArray.size ≤ _; rw [List.size_toArray]; omega)
  have HRS := Lib.hid (show R = sha (⟨b.toArray⟩ : ByteArray).data.toList by rw [hR.out])
  rw [← hN] at hc ⊢
  clear ht ht0 hr hnil hN h1 hn
  go_enter Tryd.func3, Tryd.ntmps3
  go_upto_region 4 with (go_at_call 10; refine (sanity_any _ HT.out).mono ?_; rintro e w1 ⟨rfl, hb1⟩)
  have hcv := HCV.out w1 hb1
  go_upto_region 5 with (fail)
  go_cut [5] (fun s5 wx => ∃ g, s5 = .pointer (some ⟨g, 0, none⟩) ∧ Hid (Blk wx g 24 (B8 R)) ∧ Hid (Below w1.heap.size w1 wx))
  case first =>
    go_wp2_with (first
      | (go_at_call 11; (with_reducible refine (HSUM.out _ hb1).mono ?_); rintro e w2 ⟨rfl, hb2⟩)
      | (with_reducible refine wpList_store_row rfl 24 (.tmp 5) (.tmp 14) rfl w2.heap.size (B8 R).toArray rfl rfl 24 _ (heap_alloc_new w2 _) (size24' _ HRL.out) (by simp [HBR.out]) (one8 _) ?_))
    go_meet
    exact ⟨w2.heap.size, rfl, Lib.hid (heap_setRow _ w2.heap.size (B8 R).toArray _ 24 (heap_alloc_new w2 _)), Lib.hid (belowRow (hb2.alloc hb2.size _) hb2.size _)⟩
  case rest =>
    obtain ⟨g, rfl, K5, HB2⟩ := hcut
    rename World => wb
    have HB := Lib.hid (hb1.trans (HB2.out.mono hb1.size))
    have HLD := Lib.hid (show ∀ W, Below wb.heap.size wb W → ∀ j x, (B8 R)[j]? = some x → W.cell? ((⟨g, 0, none⟩ : Addr).add j) = some x from fun W hW => (K5.out.below hW K5.out.lt).at)
    have HCW := Lib.hid (show ∀ W, Below wb.heap.size wb W → (convert 22 9 (.slice A N c)).run Tryd.prog W = .ok (.string ⟨b.toArray⟩) W from fun W hW => HCV.out W (HB.out.trans (hW.mono HB.out.size)))
    have he24 := eql24 R HRL.out
    have hbb : (b == b) = true := by simp
    have hS0 : Below wb.heap.size wb wb.drew := (Below.refl _ _).drew
    clear hcv
    go_upto_region 6 with (fail)
    refine wp_region_held (S := fun W => Below wb.heap.size wb W) (by kernel_rfl) ?_
    change wpAnyH _ _ _ _ _ _ _ _ (World.drew wb)
    refine wpAnyH_take (i := 0) (oi := { dst := some 15, op := Op.move (Operand.tmp 3), type := 4, pos := "law.go:38", after := #[], guard := none }) (v := .bool true) rfl (by kernel_rfl) (by kernel_rfl) (by kernel_rfl) (fun _ _ _ h => h) (Or.inl ⟨by rfl, fun W hW => ?y1⟩) hS0 ?_
    case y1 => go_simp
    try dsimp only [Act.put]
    try simp only [List.setIfInBounds_toArray, List.set_cons_zero, List.set_cons_succ]
    refine wpAnyH_take (i := 1) (oi := { dst := some 16, op := Op.move (Operand.tmp 15), type := 4, pos := "law.go:38", after := #[{ on := 0, ground := Ground.data }], guard := none }) (v := .bool true) rfl (by kernel_rfl) (by kernel_rfl) (by kernel_rfl) (fun _ _ _ h => h) (Or.inl ⟨by rfl, fun W hW => ?y2⟩) hS0 ?_
    case y2 => go_simp
    try dsimp only [Act.put]
    try simp only [List.setIfInBounds_toArray, List.set_cons_zero, List.set_cons_succ]
    refine wpAnyH_take (i := 2) (oi := { dst := some 17, op := Op.load 24 (Operand.tmp 5), type := 24, pos := "law.go:38", after := #[{ on := 1, ground := Ground.guard }], guard := some (1, true) }) (v := .agg (B8 R).toArray) rfl (by kernel_rfl) (by kernel_rfl) (by kernel_rfl) (fun _ _ _ h => h) (Or.inl ⟨by rfl, fun W hW => exec_load_at _ _ W 24 (.tmp 5) rfl ⟨g, 0, none⟩ rfl (B8 R) _ (HLD.out W hW) Tryd.underlying24 rfl (size24 _ HRL.out)⟩) hS0 ?_
    try dsimp only [Act.put]
    try simp only [List.setIfInBounds_toArray, List.set_cons_zero, List.set_cons_succ]
    refine wpAnyH_take (i := 3) (oi := { dst := some 18, op := Op.move (Operand.tmp 4), type := 9, pos := "law.go:38", after := #[{ on := 1, ground := Ground.guard }], guard := some (1, true) }) (v := .string ⟨b.toArray⟩) rfl (by kernel_rfl) (by kernel_rfl) (by kernel_rfl) (fun _ _ _ h => h) (Or.inl ⟨by rfl, fun W hW => ?y4⟩) hS0 ?_
    case y4 => go_simp
    try dsimp only [Act.put]
    try simp only [List.setIfInBounds_toArray, List.set_cons_zero, List.set_cons_succ]
    refine wpAnyH_ready (rs := [4]) (by kernel_rfl) (by simp) ?_
    refine AllReadyH.cons (o := { dst := some 19, op := Op.convert 9 22 (Operand.tmp 18), type := 22, pos := "law.go:38", after := #[{ on := 3, ground := Ground.data }, { on := 1, ground := Ground.guard }], guard := some (1, true) }) rfl (fun K hK => ?_) AllReadyH.nil
    rw [if_pos (by rfl)]
    refine wp_bytes_of 9 22 5 (.tmp 18) rfl ⟨b.toArray⟩ rfl Tryd.underlying9 Tryd.underlying22 Tryd.underlying5 ?_
    intro C w3 hC hrd hb3
    have hS1 : Below wb.heap.size wb w3 := hS0.trans hb3
    refine hK.out _ _ hS1 (fun _ => ?_)
    clear hK K
    try dsimp only [Act.put]
    try simp only [List.setIfInBounds_toArray, List.set_cons_zero, List.set_cons_succ]
    refine wpAnyH_ready (rs := [5]) (by kernel_rfl) (by simp) ?_
    refine AllReadyH.cons (o := { dst := some 20, op := Op.call { callee := Callee.value (Operand.func 12), args := #[Operand.tmp 19], argTypes := #[22] }, type := 24, pos := "law.go:38", after := #[{ on := 4, ground := Ground.data }, { on := 1, ground := Ground.chain }, { on := 1, ground := Ground.guard }], guard := some (1, true) }) rfl (fun K hK => ?_) AllReadyH.nil
    rw [if_pos (by rfl)]
    go_simp
    refine (rsum_s ⟨b.toArray⟩ _ C w3 hrd (fun h => by cases h) HSZ.out (HT0 w3 (HB.out.trans (hS1.mono HB.out.size))) R HRS).mono ?_
    rintro e w4 ⟨rfl, hb4⟩
    have hS2 : Below wb.heap.size wb w4 := hS1.trans (hb4.mono hS1.size)
    go_wp2_with fail
    refine hK.out _ _ hS2 (fun _ => ?_)
    clear hK K
    try dsimp only [Act.put]
    try simp only [List.setIfInBounds_toArray, List.set_cons_zero, List.set_cons_succ]
    refine wpAnyH_take (i := 6) (oi := { dst := some 21, op := Op.binOp BinOp.eql 24 (Operand.tmp 17) (Operand.tmp 20) 24, type := 4, pos := "law.go:38", after := #[{ on := 2, ground := Ground.data }, { on := 5, ground := Ground.data }, { on := 1, ground := Ground.guard }], guard := some (1, true) }) (v := .bool true) rfl (by kernel_rfl) (by kernel_rfl) (by kernel_rfl) (fun _ _ _ h => h) (Or.inl ⟨by rfl, fun W hW => ?y5⟩) hS2 ?_
    case y5 => go_simp
    try dsimp only [Act.put]
    try simp only [List.setIfInBounds_toArray, List.set_cons_zero, List.set_cons_succ]
    refine wpAnyH_take (i := 7) (oi := { dst := some 22, op := Op.pick (Operand.tmp 16) (Operand.tmp 21) (Operand.const (Value.bool false)), type := 4, pos := "law.go:38", after := #[{ on := 1, ground := Ground.data }, { on := 6, ground := Ground.data }], guard := none }) (v := .bool true) rfl (by kernel_rfl) (by kernel_rfl) (by kernel_rfl) (fun _ _ _ h => h) (Or.inl ⟨by rfl, fun W hW => ?y6⟩) hS2 ?_
    case y6 => go_simp
    try dsimp only [Act.put]
    try simp only [List.setIfInBounds_toArray, List.set_cons_zero, List.set_cons_succ]
    refine wpAnyH_take (i := 8) (oi := { dst := some 23, op := Op.move (Operand.tmp 22), type := 4, pos := "law.go:38", after := #[{ on := 7, ground := Ground.data }, { on := 5, ground := Ground.chain }], guard := none }) (v := .bool true) rfl (by kernel_rfl) (by kernel_rfl) (by kernel_rfl) (fun _ _ _ h => h) (Or.inl ⟨by rfl, fun W hW => ?y7⟩) hS2 ?_
    case y7 => go_simp
    try dsimp only [Act.put]
    try simp only [List.setIfInBounds_toArray, List.set_cons_zero, List.set_cons_succ]
    refine wpAnyH_take (i := 9) (oi := { dst := some 24, op := Op.move (Operand.tmp 0), type := 22, pos := "law.go:38", after := #[{ on := 8, ground := Ground.guard }], guard := some (8, true) }) (v := .slice A N c) rfl (by kernel_rfl) (by kernel_rfl) (by kernel_rfl) (fun _ _ _ h => h) (Or.inl ⟨by rfl, fun W hW => ?y8⟩) hS2 ?_
    case y8 => go_simp
    try dsimp only [Act.put]
    try simp only [List.setIfInBounds_toArray, List.set_cons_zero, List.set_cons_succ]
    refine wpAnyH_take (i := 10) (oi := { dst := some 25, op := Op.convert 22 9 (Operand.tmp 24), type := 9, pos := "law.go:38", after := #[{ on := 9, ground := Ground.data }, { on := 8, ground := Ground.guard }], guard := some (8, true) }) (v := .string ⟨b.toArray⟩) rfl (by kernel_rfl) (by kernel_rfl) (by kernel_rfl) (fun _ _ _ h => h) (Or.inl ⟨by rfl, fun W hW => ?y9⟩) hS2 ?_
    case y9 => (have hcv := HCW.out W hW; go_simp)
    try dsimp only [Act.put]
    try simp only [List.setIfInBounds_toArray, List.set_cons_zero, List.set_cons_succ]
    refine wpAnyH_take (i := 11) (oi := { dst := some 26, op := Op.move (Operand.tmp 4), type := 9, pos := "law.go:38", after := #[{ on := 8, ground := Ground.guard }], guard := some (8, true) }) (v := .string ⟨b.toArray⟩) rfl (by kernel_rfl) (by kernel_rfl) (by kernel_rfl) (fun _ _ _ h => h) (Or.inl ⟨by rfl, fun W hW => ?y10⟩) hS2 ?_
    case y10 => go_simp
    try dsimp only [Act.put]
    try simp only [List.setIfInBounds_toArray, List.set_cons_zero, List.set_cons_succ]
    refine wpAnyH_take (i := 12) (oi := { dst := some 27, op := Op.binOp BinOp.eql 9 (Operand.tmp 25) (Operand.tmp 26) 9, type := 4, pos := "law.go:38", after := #[{ on := 10, ground := Ground.data }, { on := 11, ground := Ground.data }, { on := 8, ground := Ground.guard }], guard := some (8, true) }) (v := .bool true) rfl (by kernel_rfl) (by kernel_rfl) (by kernel_rfl) (fun _ _ _ h => h) (Or.inl ⟨by rfl, fun W hW => ?y11⟩) hS2 ?_
    case y11 => go_simp
    try dsimp only [Act.put]
    try simp only [List.setIfInBounds_toArray, List.set_cons_zero, List.set_cons_succ]
    refine wpAnyH_take (i := 13) (oi := { dst := some 28, op := Op.pick (Operand.tmp 23) (Operand.tmp 27) (Operand.const (Value.bool false)), type := 4, pos := "law.go:38", after := #[{ on := 8, ground := Ground.data }, { on := 12, ground := Ground.data }], guard := none }) (v := .bool true) rfl (by kernel_rfl) (by kernel_rfl) (by kernel_rfl) (fun _ _ _ h => h) (Or.inl ⟨by rfl, fun W hW => ?y12⟩) hS2 ?_
    case y12 => go_simp
    try dsimp only [Act.put]
    try simp only [List.setIfInBounds_toArray, List.set_cons_zero, List.set_cons_succ]
    refine wpAnyH_take (i := 14) (oi := { dst := some 2, op := Op.assign (Operand.tmp 28), type := 4, pos := "law.go:38", after := #[{ on := 13, ground := Ground.data }, { on := 8, ground := Ground.chain }, { on := 0, ground := Ground.phase }, { on := 1, ground := Ground.phase }, { on := 2, ground := Ground.phase }, { on := 3, ground := Ground.phase }, { on := 4, ground := Ground.phase }, { on := 5, ground := Ground.phase }, { on := 6, ground := Ground.phase }, { on := 7, ground := Ground.phase }, { on := 8, ground := Ground.phase }, { on := 9, ground := Ground.phase }, { on := 10, ground := Ground.phase }, { on := 11, ground := Ground.phase }, { on := 12, ground := Ground.phase }, { on := 13, ground := Ground.phase }], guard := none }) (v := .bool true) rfl (by kernel_rfl) (by kernel_rfl) (by kernel_rfl) (fun _ _ _ h => h) (Or.inl ⟨by rfl, fun W hW => ?y13⟩) hS2 ?_
    case y13 => go_simp
    try dsimp only [Act.put]
    try simp only [List.setIfInBounds_toArray, List.set_cons_zero, List.set_cons_succ]
    refine wpAnyH_done (by kernel_rfl) ?_ _
    try dsimp only [Act.put]
    try simp only [List.setIfInBounds_toArray, List.set_cons_zero, List.set_cons_succ]
    go_wp2_with fail
    go_ret
    exact ⟨rfl, HB.out.trans (hS2.mono HB.out.size)⟩
end Go.Proofs.YtfagpeacilfaaaaDoor
