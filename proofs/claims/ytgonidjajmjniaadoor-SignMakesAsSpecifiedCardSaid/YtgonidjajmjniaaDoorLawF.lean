/-
  A pair of numbers that came in by value; the law SignMakesAsSpecified returns true, if sanity does.
  Conditions: the lengths of the strings; the tables of the round constants are as the text lays them.
-/
import Derived.Test.YtgonidjajmjniaaDoorRefW
import Derived.Test.YtgonidjajmjniaaDoorSigns
import Derived.Test.YtgonidjajmjniaaDoorLawA
import Derived.Test.YtgonidjajmjniaaDoorOpenD
namespace Go.Proofs.YtgonidjajmjniaaDoor
open Go.ChangeShapes Go.WideShapes Go.RowKit Wr Sh
set_option linter.unusedVariables false
set_option maxRecDepth 100000
section
variable {H : Type} {enc : TypeId × Value → H} {w : World} {base : Nat} {sp : Nat → Bool} {held : Bool}
theorem cells28 : Tryd.prog.cellsOf 28 = 2 := by kernel_rfl
theorem cells3 : Tryd.prog.cellsOf 3 = 1 := by kernel_rfl
theorem und28 : Tryd.prog.underlying 28 = some (.array 2 3) := by kernel_rfl
def lit2 (n m : Int) : DataW H := .agg [.lit (.int .i64 n), .lit (.int .i64 m)]
theorem open_pair {r : Reach} {b0 : Nat} {v : Value} {d : DataW H} {p : List MemPlace} (hv : Value.okWide Tryd.prog w r b0 28 v) (h : DataW.Trod enc Tryd.prog w base sp held 28 v d p) :
    ∃ n m : Int, v = .agg #[.int .i64 n, .int .i64 m] ∧ d = lit2 n m ∧ p = [] ∧ (Lit.int .i64 n).wf = true ∧ (Lit.int .i64 m).wf = true := by
  obtain ⟨cs, rfl, hsz⟩ := okWide_array und28 hv
  rw [cells28] at hsz
  obtain ⟨fuel, hf⟩ := h
  obtain ⟨xs, k, rfl, hx, hl, hxl, hfi⟩ := DataW.trod_array und28 hf
  obtain ⟨l⟩ := cs
  match l, hsz with
  | [a, b], _ =>
    match xs, hxl with
    | [x, y], _ =>
      have h0 := hfi 0 (by decide)
      have h1 := hfi 1 (by decide)
      rw [cells3, Nat.mul_one] at h0 h1
      simp only [List.getElem?_cons_zero, List.getElem?_cons_succ] at h0 h1
      obtain ⟨n, e1, e2, w1⟩ := DataW.trod_int Tryd.underlying3 h0
      obtain ⟨m, e3, e4, w2⟩ := DataW.trod_int Tryd.underlying3 h1
      simp [Value.cells] at e1 e3
      subst e1 e2 e3 e4
      simp only [Prod.mk.injEq] at hx
      refine ⟨n, m, rfl, ?_, ?_, w1, w2⟩
      · rw [hx.1]; rfl
      · rw [hx.2]; rfl
theorem shut_pair {n m : Int} (w1 : (Lit.int .i64 n).wf = true) (w2 : (Lit.int .i64 m).wf = true) : DataW.Trod enc Tryd.prog w base sp held 28 (.agg #[.int .i64 n, .int .i64 m]) (lit2 n m) [] := by
  refine ⟨2, ?_⟩
  have hm : (List.range 2).mapM (fun i => DataW.trod enc Tryd.prog w base sp held 1 3 (([.int .i64 n, .int .i64 m] : List Value).drop (i * 1) |>.take 1)) = some [((.lit (.int .i64 n) : DataW H), ([] : List MemPlace)), (.lit (.int .i64 m), [])] := by
    refine mapM_some_of_get _ _ (by simp) (fun i x hx => ?_)
    obtain ⟨hi, rfl⟩ := List.getElem?_eq_some_iff.1 hx
    simp only [List.length_range] at hi
    simp only [List.getElem_range, Nat.mul_one]
    rcases (show i = 0 ∨ i = 1 by omega) with rfl | rfl
    · exact trod_int_mk 0 Tryd.underlying3 w1
    · exact trod_int_mk 0 Tryd.underlying3 w2
  have hc : (Value.agg #[.int .i64 n, .int .i64 m]).cells.toList = [.int .i64 n, .int .i64 m] := by simp [Value.cells]
  rw [hc]
  unfold DataW.trod
  rw [und28]
  simp only [cells28, cells3, List.length_cons, List.length_nil, if_true, hm]
  simp [lit2]
end
end Go.Proofs.YtgonidjajmjniaaDoor

namespace Go.Proofs.YtgonidjajmjniaaDoor
open Go.RowKit Wr Sh
set_option linter.unusedVariables false
set_option maxRecDepth 100000

/-- What both sides give. -/
theorem made (sd : ByteArray) (n ix : Int) (m : ByteArray) (hm : m.size ≤ 200) :
    ∃ PK E1 SG E2, PK.length = 16 ∧ (∀ W, Tab 1 W → Calls Tryd.prog 12 #[.string sd, .int .i64 n] W fun e w' => e = .returned (.tuple #[.agg (B8 PK).toArray, .int .i64 E1]) ∧ Below W.heap.size W w')
      ∧ (∀ W, Tab 0 W → Calls Tryd.prog 13 #[.string sd, .int .i64 n] W fun e w' => e = .returned (.tuple #[.agg (B8 PK).toArray, .int .i64 E1]) ∧ Below W.heap.size W w')
      ∧ (∀ W, Tab 1 W → Calls Tryd.prog 14 #[.string sd, .int .i64 n, .int .i64 ix, .string m] W fun e w' => e = .returned (.tuple #[.string SG, .int .i64 E2]) ∧ Below W.heap.size W w')
      ∧ (∀ W, Tab 0 W → Calls Tryd.prog 15 #[.string sd, .int .i64 n, .int .i64 ix, .string m] W fun e w' => e = .returned (.tuple #[.string SG, .int .i64 E2]) ∧ Below W.heap.size W w') := by
  by_cases hb : (sd.size == 32) = false ∨ (sd.size == 32) = true ∧ decide (0 ≤ n ∧ n ≤ 6) = false
  · refine ⟨List.replicate 16 0, 1, ⟨#[]⟩, 1, rfl, fun W _ => public_bad sd n W hb, fun W _ => rpublic_bad sd n W hb, fun W _ => (sign_bad sd n ix m W hb).mono ?_, fun W _ => (rsign_bad sd n ix m W hb).mono ?_⟩
    all_goals (rintro e w' ⟨rfl, rfl⟩; exact ⟨rfl, Below.refl _ _⟩)
  · have h32 : sd.size = 32 := by
      by_cases h : sd.size = 32
      · exact h
      · exact absurd (Or.inl (by rw [beq_eq_false_iff_ne]; exact h)) hb
    have hn : 0 ≤ n ∧ n ≤ 6 := by
      by_cases h : 0 ≤ n ∧ n ≤ 6
      · exact h
      · exact absurd (Or.inr ⟨by rw [beq_iff_eq]; exact h32, by rw [decide_eq_false_iff_not]; exact h⟩) hb
    obtain ⟨h, rfl⟩ := Int.eq_ofNat_of_zero_le hn.1
    have hh : h ≤ 6 := by omega
    by_cases hx : 0 ≤ ix ∧ ix < ((2 ^ h : Nat) : Int)
    · obtain ⟨i, rfl⟩ := Int.eq_ofNat_of_zero_le hx.1
      have hi : i < 2 ^ h := Int.ofNat_lt.1 hx.2
      exact ⟨node sd.data.toList h 0, 0, bs (sigOf sd.data.toList h i m), 0, node_len _ _ _, fun W ht => public_ok sd h W h32 hh ht _ rfl, fun W ht => rpublic_ok sd h W h32 hh ht _ rfl, fun W ht => sign_ok sd h i m W h32 hh hi (by omega) ht _ (Lib.hid rfl), fun W ht => rsign_ok sd h i m W h32 hh hi (by omega) ht _ (Lib.hid rfl)⟩
    · refine ⟨node sd.data.toList h 0, 0, ⟨#[]⟩, 20, node_len _ _ _, fun W ht => public_ok sd h W h32 hh ht _ rfl, fun W ht => rpublic_ok sd h W h32 hh ht _ rfl, fun W _ => (sign_spent sd h ix m W h32 hh (by rw [decide_eq_false_iff_not]; exact hx)).mono ?_, fun W _ => (rsign_spent sd h ix m W h32 hh ?_).mono ?_⟩
      · rintro e w' ⟨rfl, rfl⟩; exact ⟨rfl, Below.refl _ _⟩
      · omega
      · rintro e w' ⟨rfl, rfl⟩; exact ⟨rfl, Below.refl _ _⟩
/-- The three blocks that are read at the end. -/
structure Three (W : World) (g4 g8 g10 : Nat) (n ix : Int) (PK : List UInt8) : Prop where
  a : Blk W g4 28 [.int .i64 n, .int .i64 ix]
  b : Blk W g8 23 (B8 PK)
  c : Blk W g10 23 (B8 PK)
theorem Three.below {W W' : World} {g4 g8 g10 : Nat} {n ix : Int} {PK : List UInt8} (h : Three W g4 g8 g10 n ix PK) (hb : Below W.heap.size W W') : Three W' g4 g8 g10 n ix PK := ⟨h.a.below hb h.a.lt, h.b.below hb h.b.lt, h.c.below hb h.c.lt⟩
theorem Three.drew {W : World} {g4 g8 g10 : Nat} {n ix : Int} {PK : List UInt8} (h : Three W g4 g8 g10 n ix PK) : Three W.drew g4 g8 g10 n ix PK := ⟨h.a, h.b, h.c⟩

set_option maxHeartbeats 8000000 in
theorem makes_walk (sd : ByteArray) (n ix : Int) (m : ByteArray) (w : World) (hn : okInt n) (hix : okInt ix) (hs47 : sd.size ≤ 140737488355328) (hm47 : m.size ≤ 140737488355328) (ht : Tab 1 w) (ht0 : Tab 0 w) (hs : Sane w) :
    Calls Tryd.prog 4 #[.string sd, .agg #[.int .i64 n, .int .i64 ix], .string m] w fun e w' => e = .returned (.bool true) ∧ Below w.heap.size w w' := by
  have HS := Lib.hid hs
  have HT := Lib.hid ht
  have HT0 := Lib.hid ht0
  have KA := Lib.hid (Blk.new w 28 [.int .i64 n, .int .i64 ix])
  have B0 := Lib.hid ((Below.refl w.heap.size w).alloc (Nat.le_refl _) (.cells #[.int .i64 n, .int .i64 ix] 28))
  have HOI := Lib.hid hix
  clear hs ht ht0
  by_cases hbig : 200 < sd.size
  · have hb' : (200 : Int) < (sd.size : Int) := by omega
    go_enter Tryd.func4, Tryd.ntmps4
    go_wp2_with (go_at_call 9; refine (HS.out _ B0.out).mono ?_; rintro e w1 ⟨rfl, hb1⟩; have B1 := Lib.hid (B0.out.trans (hb1.mono B0.out.size)); have A1 := Lib.hid (KA.out.below hb1 KA.out.lt); have c0 := A1.out.cell 0; have c1 := A1.out.cell 1; simp only [List.getElem?_cons_succ, List.getElem?_cons_zero] at c0 c1; clear hb1)
    go_ret
    exact ⟨rfl, B1.out⟩
  have hb1' : ¬ (200 : Int) < (sd.size : Int) := by omega
  by_cases hbig2 : 200 < m.size
  · have hb' : (200 : Int) < (m.size : Int) := by omega
    go_enter Tryd.func4, Tryd.ntmps4
    go_wp2_with (go_at_call 9; refine (HS.out _ B0.out).mono ?_; rintro e w1 ⟨rfl, hb1⟩; have B1 := Lib.hid (B0.out.trans (hb1.mono B0.out.size)); have A1 := Lib.hid (KA.out.below hb1 KA.out.lt); have c0 := A1.out.cell 0; have c1 := A1.out.cell 1; simp only [List.getElem?_cons_succ, List.getElem?_cons_zero] at c0 c1; clear hb1)
    go_ret
    exact ⟨rfl, B1.out⟩
  have hb2' : ¬ (200 : Int) < (m.size : Int) := by omega
  by_cases hn2 : 2 < n ∧ n ≤ 6
  · obtain ⟨hn3, hn4⟩ := hn2
    go_enter Tryd.func4, Tryd.ntmps4
    go_wp2_with (go_at_call 9; refine (HS.out _ B0.out).mono ?_; rintro e w1 ⟨rfl, hb1⟩; have B1 := Lib.hid (B0.out.trans (hb1.mono B0.out.size)); have A1 := Lib.hid (KA.out.below hb1 KA.out.lt); have c0 := A1.out.cell 0; have c1 := A1.out.cell 1; simp only [List.getElem?_cons_succ, List.getElem?_cons_zero] at c0 c1; clear hb1)
    go_ret
    exact ⟨rfl, B1.out⟩
  obtain ⟨PK, E1, SG, E2, hPl, h12, h13, h14, h15⟩ := made sd n ix m (by omega)
  have HPl := Lib.hid hPl
  have H12 := Lib.hid h12
  have H13 := Lib.hid h13
  have H14 := Lib.hid h14
  have H15 := Lib.hid h15
  obtain ⟨Dg, hDg⟩ : ∃ Dg, Dg = digOf PK ix m := ⟨_, rfl⟩
  have HDg := Lib.hid hDg
  have HDgl := Lib.hid (show Dg.length = 16 by rw [hDg]; exact dof_len _ _)
  obtain ⟨q, hq⟩ : ∃ q, q = decide (2 < n) := ⟨_, rfl⟩
  obtain ⟨g4, hg4⟩ : ∃ g, g = w.heap.size := ⟨_, rfl⟩
  clear hPl h12 h13 h14 h15 hDg
  have main : ∀ (hk : ¬ 2 < n ∨ 2 < n ∧ ¬ n ≤ 6), Calls Tryd.prog 4 #[.string sd, .agg #[.int .i64 n, .int .i64 ix], .string m] w fun e w' => e = .returned (.bool true) ∧ Below w.heap.size w w' := by
    intro hk
    rcases hk with hk | ⟨hk, hk2⟩
    all_goals
      have hZ := hZ16
      go_enter Tryd.func4, Tryd.ntmps4
      go_wp2_with (go_at_call 9; refine (HS.out _ B0.out).mono ?_; rintro e w1 ⟨rfl, hb1⟩; have B1 := Lib.hid (B0.out.trans (hb1.mono B0.out.size)); have A1 := Lib.hid (KA.out.below hb1 KA.out.lt); have c0 := A1.out.cell 0; have c1 := A1.out.cell 1; simp only [List.getElem?_cons_succ, List.getElem?_cons_zero] at c0 c1; clear hb1)
      refine (H12.out _ (HT.out.below B1.out HT.out.1)).mono ?_; rintro e w2 ⟨rfl, hb2⟩
      obtain ⟨w3, hW3⟩ : ∃ W, W = (w2.alloc (.cells Z16.toArray 23)).setRow w2.heap.size (B8 PK).toArray := ⟨_, rfl⟩
      have b3 : Below w2.heap.size w2 w3 := by rw [hW3]; exact belowRow ((Below.refl _ _).alloc (Nat.le_refl _) _) (Nat.le_refl _) _
      have Q3 := Lib.hid (hb2.trans (b3.mono hb2.size))
      have B3 := Lib.hid (B1.out.trans (Q3.out.mono B1.out.size))
      have A3 := Lib.hid (A1.out.below Q3.out A1.out.lt)
      have P3 := Lib.hid (show Blk w3 w2.heap.size 23 (B8 PK) by rw [hW3]; exact (Blk.new w2 23 Z16).row _)
      have HW3 := Lib.hid hW3
      clear c0 c1 hW3 b3 hb2
      have c0 := A3.out.cell 0
      have c1 := A3.out.cell 1
      simp only [List.getElem?_cons_succ, List.getElem?_cons_zero] at c0 c1
      go_wp2_with (with_reducible refine wpList_store_row rfl 23 (.tmp 8) (.tmp 41) rfl w2.heap.size (B8 PK).toArray rfl rfl 23 _ (heap_alloc_new w2 _) (size23' _ HPl.out) (Z16_size _ HPl.out) (one8 _) ?_; rw [← HW3.out])
      refine (H13.out _ (HT0.out.below B3.out HT0.out.1)).mono ?_; rintro e w4 ⟨rfl, hb2⟩
      obtain ⟨w5, hW3⟩ : ∃ W, W = (w4.alloc (.cells Z16.toArray 23)).setRow w4.heap.size (B8 PK).toArray := ⟨_, rfl⟩
      have b3 : Below w4.heap.size w4 w5 := by rw [hW3]; exact belowRow ((Below.refl _ _).alloc (Nat.le_refl _) _) (Nat.le_refl _) _
      have Q5 := Lib.hid (hb2.trans (b3.mono hb2.size))
      have B5 := Lib.hid (B3.out.trans (Q5.out.mono B3.out.size))
      have A5 := Lib.hid (A3.out.below Q5.out A3.out.lt)
      have P5 := Lib.hid (show Blk w5 w4.heap.size 23 (B8 PK) by rw [hW3]; exact (Blk.new w4 23 Z16).row _)
      have HW5 := Lib.hid hW3
      clear c0 c1 hW3 b3 hb2
      have c0 := A5.out.cell 0
      have c1 := A5.out.cell 1
      simp only [List.getElem?_cons_succ, List.getElem?_cons_zero] at c0 c1
      go_wp2_with (with_reducible refine wpList_store_row rfl 23 (.tmp 10) (.tmp 48) rfl w4.heap.size (B8 PK).toArray rfl rfl 23 _ (heap_alloc_new w4 _) (size23' _ HPl.out) (Z16_size _ HPl.out) (one8 _) ?_; rw [← HW5.out])
      refine (H14.out _ (HT.out.below B5.out HT.out.1)).mono ?_; rintro e w8 ⟨rfl, hb2⟩
      have Q18 := Lib.hid hb2
      have B18 := Lib.hid (B5.out.trans (hb2.mono B5.out.size))
      have A18 := Lib.hid (A5.out.below hb2 A5.out.lt)
      clear c0 c1 hb2
      have c0 := A18.out.cell 0
      have c1 := A18.out.cell 1
      simp only [List.getElem?_cons_succ, List.getElem?_cons_zero] at c0 c1
      go_wp2_with fail
      refine (H15.out _ (HT0.out.below B18.out HT0.out.1)).mono ?_; rintro e w9 ⟨rfl, hb2⟩
      have Q19 := Lib.hid hb2
      have B19 := Lib.hid (B18.out.trans (hb2.mono B18.out.size))
      have A19 := Lib.hid (A18.out.below hb2 A18.out.lt)
      clear c0 c1 hb2
      have c0 := A19.out.cell 0
      have c1 := A19.out.cell 1
      simp only [List.getElem?_cons_succ, List.getElem?_cons_zero] at c0 c1
      go_wp2_with fail
      have P5b := Lib.hid ((P3.out.below Q5.out P3.out.lt).below (Q18.out.trans (Q19.out.mono Q18.out.size)) (P3.out.below Q5.out P3.out.lt).lt)
      have P9b := Lib.hid (P5.out.below (Q18.out.trans (Q19.out.mono Q18.out.size)) P5.out.lt)
      have T5 := Lib.hid (show Three w9 w.heap.size w2.heap.size w4.heap.size n ix PK from ⟨A19.out, P5b.out, P9b.out⟩)
      have B5 := B19
      clear c0 c1
      refine wp_region_held (S := fun W => Three W w.heap.size w2.heap.size w4.heap.size n ix PK) (by kernel_rfl) ?_
      change wpAnyH _ _ _ _ _ _ _ _ (World.drew w9)
      have hS0 : Three (World.drew w9) w.heap.size w2.heap.size w4.heap.size n ix PK := T5.out.drew
      have BD := Lib.hid B5.out.drew
      generalize World.drew w9 = Wd at hS0 BD ⊢
      refine wpAnyH_take (i := 0) (oi := { dst := some 70, op := Op.move (Operand.tmp 7), type := 4, pos := "law.go:61", after := #[], guard := none }) (v := .bool true) rfl (by kernel_rfl) (by kernel_rfl) (by kernel_rfl) (fun _ _ _ h => h) (Or.inl ⟨by rfl, fun W hW => ?y1⟩) hS0 ?_
      case y1 => go_simp
      try dsimp only [Act.put]
      try simp only [List.setIfInBounds_toArray, List.set_cons_zero, List.set_cons_succ]
      refine wpAnyH_take (i := 1) (oi := { dst := some 71, op := Op.move (Operand.tmp 70), type := 4, pos := "law.go:61", after := #[{ on := 0, ground := Ground.data }], guard := none }) (v := .bool true) rfl (by kernel_rfl) (by kernel_rfl) (by kernel_rfl) (fun _ _ _ h => h) (Or.inl ⟨by rfl, fun W hW => ?y2⟩) hS0 ?_
      case y2 => go_simp
      try dsimp only [Act.put]
      try simp only [List.setIfInBounds_toArray, List.set_cons_zero, List.set_cons_succ]
      refine wpAnyH_take (i := 2) (oi := { dst := some 72, op := Op.load 23 (Operand.tmp 8), type := 23, pos := "law.go:61", after := #[{ on := 1, ground := Ground.guard }], guard := some (1, true) }) (v := .agg (B8 PK).toArray) rfl (by kernel_rfl) (by kernel_rfl) (by kernel_rfl) (fun _ _ _ h => h) (Or.inl ⟨by rfl, fun W hW => exec_load_row _ _ 23 (.tmp 8) rfl ⟨w2.heap.size, 0, none⟩ rfl (B8 PK) W (run_loadVar_at W _ 23 (B8 PK) (.array 16 5) (Blk.at hW.b) Tryd.underlying23 rfl (size23 _ HPl.out))⟩) hS0 ?_
      try dsimp only [Act.put]
      try simp only [List.setIfInBounds_toArray, List.set_cons_zero, List.set_cons_succ]
      refine wpAnyH_take (i := 3) (oi := { dst := some 73, op := Op.load 23 (Operand.tmp 10), type := 23, pos := "law.go:61", after := #[{ on := 1, ground := Ground.guard }], guard := some (1, true) }) (v := .agg (B8 PK).toArray) rfl (by kernel_rfl) (by kernel_rfl) (by kernel_rfl) (fun _ _ _ h => h) (Or.inl ⟨by rfl, fun W hW => exec_load_row _ _ 23 (.tmp 10) rfl ⟨w4.heap.size, 0, none⟩ rfl (B8 PK) W (run_loadVar_at W _ 23 (B8 PK) (.array 16 5) (Blk.at hW.c) Tryd.underlying23 rfl (size23 _ HPl.out))⟩) hS0 ?_
      try dsimp only [Act.put]
      try simp only [List.setIfInBounds_toArray, List.set_cons_zero, List.set_cons_succ]
      refine wpAnyH_take (i := 4) (oi := { dst := some 74, op := Op.binOp BinOp.eql 23 (Operand.tmp 72) (Operand.tmp 73) 23, type := 4, pos := "law.go:61", after := #[{ on := 2, ground := Ground.data }, { on := 3, ground := Ground.data }, { on := 1, ground := Ground.guard }], guard := some (1, true) }) (v := .bool true) rfl (by kernel_rfl) (by kernel_rfl) (by kernel_rfl) (fun _ _ _ h => h) (Or.inl ⟨by rfl, fun W hW => by have hneq := eqi23 PK PK HPl.out HPl.out W; rw [beq_self_eq_true] at hneq; go_simp⟩) hS0 ?_
      try dsimp only [Act.put]
      try simp only [List.setIfInBounds_toArray, List.set_cons_zero, List.set_cons_succ]
      refine wpAnyH_take (i := 5) (oi := { dst := some 75, op := Op.pick (Operand.tmp 71) (Operand.tmp 74) (Operand.const (Value.bool false)), type := 4, pos := "law.go:61", after := #[{ on := 1, ground := Ground.data }, { on := 4, ground := Ground.data }], guard := none }) (v := .bool true) rfl (by kernel_rfl) (by kernel_rfl) (by kernel_rfl) (fun _ _ _ h => h) (Or.inl ⟨by rfl, fun W hW => ?y6⟩) hS0 ?_
      case y6 => go_simp
      try dsimp only [Act.put]
      try simp only [List.setIfInBounds_toArray, List.set_cons_zero, List.set_cons_succ]
      refine wpAnyH_take (i := 6) (oi := { dst := some 76, op := Op.move (Operand.tmp 75), type := 4, pos := "law.go:61", after := #[{ on := 5, ground := Ground.data }, { on := 1, ground := Ground.chain }], guard := none }) (v := .bool true) rfl (by kernel_rfl) (by kernel_rfl) (by kernel_rfl) (fun _ _ _ h => h) (Or.inl ⟨by rfl, fun W hW => ?y7⟩) hS0 ?_
      case y7 => go_simp
      try dsimp only [Act.put]
      try simp only [List.setIfInBounds_toArray, List.set_cons_zero, List.set_cons_succ]
      refine wpAnyH_take (i := 7) (oi := { dst := some 77, op := Op.move (Operand.tmp 9), type := 29, pos := "law.go:61", after := #[{ on := 6, ground := Ground.guard }], guard := some (6, true) }) (v := .int .i64 E1) rfl (by kernel_rfl) (by kernel_rfl) (by kernel_rfl) (fun _ _ _ h => h) (Or.inl ⟨by rfl, fun W hW => ?y8⟩) hS0 ?_
      case y8 => go_simp
      try dsimp only [Act.put]
      try simp only [List.setIfInBounds_toArray, List.set_cons_zero, List.set_cons_succ]
      refine wpAnyH_take (i := 8) (oi := { dst := some 78, op := Op.move (Operand.tmp 11), type := 29, pos := "law.go:61", after := #[{ on := 6, ground := Ground.guard }], guard := some (6, true) }) (v := .int .i64 E1) rfl (by kernel_rfl) (by kernel_rfl) (by kernel_rfl) (fun _ _ _ h => h) (Or.inl ⟨by rfl, fun W hW => ?y9⟩) hS0 ?_
      case y9 => go_simp
      try dsimp only [Act.put]
      try simp only [List.setIfInBounds_toArray, List.set_cons_zero, List.set_cons_succ]
      refine wpAnyH_take (i := 9) (oi := { dst := some 79, op := Op.binOp BinOp.eql 29 (Operand.tmp 77) (Operand.tmp 78) 29, type := 4, pos := "law.go:61", after := #[{ on := 7, ground := Ground.data }, { on := 8, ground := Ground.data }, { on := 6, ground := Ground.guard }], guard := some (6, true) }) (v := .bool true) rfl (by kernel_rfl) (by kernel_rfl) (by kernel_rfl) (fun _ _ _ h => h) (Or.inl ⟨by rfl, fun W hW => ?y10⟩) hS0 ?_
      case y10 => go_simp
      try dsimp only [Act.put]
      try simp only [List.setIfInBounds_toArray, List.set_cons_zero, List.set_cons_succ]
      refine wpAnyH_take (i := 10) (oi := { dst := some 80, op := Op.pick (Operand.tmp 76) (Operand.tmp 79) (Operand.const (Value.bool false)), type := 4, pos := "law.go:61", after := #[{ on := 6, ground := Ground.data }, { on := 9, ground := Ground.data }], guard := none }) (v := .bool true) rfl (by kernel_rfl) (by kernel_rfl) (by kernel_rfl) (fun _ _ _ h => h) (Or.inl ⟨by rfl, fun W hW => ?y11⟩) hS0 ?_
      case y11 => go_simp
      try dsimp only [Act.put]
      try simp only [List.setIfInBounds_toArray, List.set_cons_zero, List.set_cons_succ]
      refine wpAnyH_take (i := 11) (oi := { dst := some 81, op := Op.move (Operand.tmp 80), type := 4, pos := "law.go:61", after := #[{ on := 10, ground := Ground.data }, { on := 6, ground := Ground.chain }], guard := none }) (v := .bool true) rfl (by kernel_rfl) (by kernel_rfl) (by kernel_rfl) (fun _ _ _ h => h) (Or.inl ⟨by rfl, fun W hW => ?y12⟩) hS0 ?_
      case y12 => go_simp
      try dsimp only [Act.put]
      try simp only [List.setIfInBounds_toArray, List.set_cons_zero, List.set_cons_succ]
      refine wpAnyH_take (i := 12) (oi := { dst := some 82, op := Op.move (Operand.tmp 12), type := 9, pos := "law.go:61", after := #[{ on := 11, ground := Ground.guard }], guard := some (11, true) }) (v := .string SG) rfl (by kernel_rfl) (by kernel_rfl) (by kernel_rfl) (fun _ _ _ h => h) (Or.inl ⟨by rfl, fun W hW => ?y13⟩) hS0 ?_
      case y13 => go_simp
      try dsimp only [Act.put]
      try simp only [List.setIfInBounds_toArray, List.set_cons_zero, List.set_cons_succ]
      refine wpAnyH_take (i := 13) (oi := { dst := some 83, op := Op.move (Operand.tmp 14), type := 9, pos := "law.go:61", after := #[{ on := 11, ground := Ground.guard }], guard := some (11, true) }) (v := .string SG) rfl (by kernel_rfl) (by kernel_rfl) (by kernel_rfl) (fun _ _ _ h => h) (Or.inl ⟨by rfl, fun W hW => ?y14⟩) hS0 ?_
      case y14 => go_simp
      try dsimp only [Act.put]
      try simp only [List.setIfInBounds_toArray, List.set_cons_zero, List.set_cons_succ]
      refine wpAnyH_take (i := 14) (oi := { dst := some 84, op := Op.binOp BinOp.eql 9 (Operand.tmp 82) (Operand.tmp 83) 9, type := 4, pos := "law.go:61", after := #[{ on := 12, ground := Ground.data }, { on := 13, ground := Ground.data }, { on := 11, ground := Ground.guard }], guard := some (11, true) }) (v := .bool true) rfl (by kernel_rfl) (by kernel_rfl) (by kernel_rfl) (fun _ _ _ h => h) (Or.inl ⟨by rfl, fun W hW => ?y15⟩) hS0 ?_
      case y15 => go_simp
      try dsimp only [Act.put]
      try simp only [List.setIfInBounds_toArray, List.set_cons_zero, List.set_cons_succ]
      refine wpAnyH_take (i := 15) (oi := { dst := some 85, op := Op.pick (Operand.tmp 81) (Operand.tmp 84) (Operand.const (Value.bool false)), type := 4, pos := "law.go:61", after := #[{ on := 11, ground := Ground.data }, { on := 14, ground := Ground.data }], guard := none }) (v := .bool true) rfl (by kernel_rfl) (by kernel_rfl) (by kernel_rfl) (fun _ _ _ h => h) (Or.inl ⟨by rfl, fun W hW => ?y16⟩) hS0 ?_
      case y16 => go_simp
      try dsimp only [Act.put]
      try simp only [List.setIfInBounds_toArray, List.set_cons_zero, List.set_cons_succ]
      refine wpAnyH_take (i := 16) (oi := { dst := some 86, op := Op.move (Operand.tmp 85), type := 4, pos := "law.go:61", after := #[{ on := 15, ground := Ground.data }, { on := 11, ground := Ground.chain }], guard := none }) (v := .bool true) rfl (by kernel_rfl) (by kernel_rfl) (by kernel_rfl) (fun _ _ _ h => h) (Or.inl ⟨by rfl, fun W hW => ?y17⟩) hS0 ?_
      case y17 => go_simp
      try dsimp only [Act.put]
      try simp only [List.setIfInBounds_toArray, List.set_cons_zero, List.set_cons_succ]
      refine wpAnyH_take (i := 17) (oi := { dst := some 87, op := Op.move (Operand.tmp 13), type := 29, pos := "law.go:61", after := #[{ on := 16, ground := Ground.guard }], guard := some (16, true) }) (v := .int .i64 E2) rfl (by kernel_rfl) (by kernel_rfl) (by kernel_rfl) (fun _ _ _ h => h) (Or.inl ⟨by rfl, fun W hW => ?y18⟩) hS0 ?_
      case y18 => go_simp
      try dsimp only [Act.put]
      try simp only [List.setIfInBounds_toArray, List.set_cons_zero, List.set_cons_succ]
      refine wpAnyH_take (i := 18) (oi := { dst := some 88, op := Op.move (Operand.tmp 15), type := 29, pos := "law.go:61", after := #[{ on := 16, ground := Ground.guard }], guard := some (16, true) }) (v := .int .i64 E2) rfl (by kernel_rfl) (by kernel_rfl) (by kernel_rfl) (fun _ _ _ h => h) (Or.inl ⟨by rfl, fun W hW => ?y19⟩) hS0 ?_
      case y19 => go_simp
      try dsimp only [Act.put]
      try simp only [List.setIfInBounds_toArray, List.set_cons_zero, List.set_cons_succ]
      refine wpAnyH_take (i := 19) (oi := { dst := some 89, op := Op.binOp BinOp.eql 29 (Operand.tmp 87) (Operand.tmp 88) 29, type := 4, pos := "law.go:61", after := #[{ on := 17, ground := Ground.data }, { on := 18, ground := Ground.data }, { on := 16, ground := Ground.guard }], guard := some (16, true) }) (v := .bool true) rfl (by kernel_rfl) (by kernel_rfl) (by kernel_rfl) (fun _ _ _ h => h) (Or.inl ⟨by rfl, fun W hW => ?y20⟩) hS0 ?_
      case y20 => go_simp
      try dsimp only [Act.put]
      try simp only [List.setIfInBounds_toArray, List.set_cons_zero, List.set_cons_succ]
      refine wpAnyH_take (i := 20) (oi := { dst := some 90, op := Op.pick (Operand.tmp 86) (Operand.tmp 89) (Operand.const (Value.bool false)), type := 4, pos := "law.go:61", after := #[{ on := 16, ground := Ground.data }, { on := 19, ground := Ground.data }], guard := none }) (v := .bool true) rfl (by kernel_rfl) (by kernel_rfl) (by kernel_rfl) (fun _ _ _ h => h) (Or.inl ⟨by rfl, fun W hW => ?y21⟩) hS0 ?_
      case y21 => go_simp
      try dsimp only [Act.put]
      try simp only [List.setIfInBounds_toArray, List.set_cons_zero, List.set_cons_succ]
      refine wpAnyH_take (i := 21) (oi := { dst := some 91, op := Op.move (Operand.tmp 90), type := 4, pos := "law.go:61", after := #[{ on := 20, ground := Ground.data }, { on := 16, ground := Ground.chain }], guard := none }) (v := .bool true) rfl (by kernel_rfl) (by kernel_rfl) (by kernel_rfl) (fun _ _ _ h => h) (Or.inl ⟨by rfl, fun W hW => ?y22⟩) hS0 ?_
      case y22 => go_simp
      try dsimp only [Act.put]
      try simp only [List.setIfInBounds_toArray, List.set_cons_zero, List.set_cons_succ]
      refine wpAnyH_take (i := 22) (oi := { dst := some 92, op := Op.load 23 (Operand.tmp 8), type := 23, pos := "law.go:61", after := #[{ on := 21, ground := Ground.guard }], guard := some (21, true) }) (v := .agg (B8 PK).toArray) rfl (by kernel_rfl) (by kernel_rfl) (by kernel_rfl) (fun _ _ _ h => h) (Or.inl ⟨by rfl, fun W hW => exec_load_row _ _ 23 (.tmp 8) rfl ⟨w2.heap.size, 0, none⟩ rfl (B8 PK) W (run_loadVar_at W _ 23 (B8 PK) (.array 16 5) (Blk.at hW.b) Tryd.underlying23 rfl (size23 _ HPl.out))⟩) hS0 ?_
      try dsimp only [Act.put]
      try simp only [List.setIfInBounds_toArray, List.set_cons_zero, List.set_cons_succ]
      refine wpAnyH_take (i := 23) (oi := { dst := some 93, op := Op.indexAddr 28 (Operand.tmp 4) (Operand.const (Value.int IntKind.i64 1)), type := 0, pos := "law.go:61", after := #[{ on := 21, ground := Ground.guard }], guard := some (21, true) }) (v := .pointer (some ⟨w.heap.size, 1, none⟩)) rfl (by kernel_rfl) (by kernel_rfl) (by kernel_rfl) (fun _ _ _ h => h) (Or.inl ⟨by rfl, fun W hW => ?y24⟩) hS0 ?_
      case y24 => go_simp
      try dsimp only [Act.put]
      try simp only [List.setIfInBounds_toArray, List.set_cons_zero, List.set_cons_succ]
      refine wpAnyH_take (i := 24) (oi := { dst := some 94, op := Op.load 3 (Operand.tmp 93), type := 3, pos := "law.go:61", after := #[{ on := 23, ground := Ground.data }, { on := 21, ground := Ground.guard }], guard := some (21, true) }) (v := .int .i64 ix) rfl (by kernel_rfl) (by kernel_rfl) (by kernel_rfl) (fun _ _ _ h => h) (Or.inl ⟨by rfl, fun W hW => by have hcl := hW.a.cell 1; simp only [List.getElem?_cons_succ, List.getElem?_cons_zero] at hcl; go_simp⟩) hS0 ?_
      try dsimp only [Act.put]
      try simp only [List.setIfInBounds_toArray, List.set_cons_zero, List.set_cons_succ]
      refine wpAnyH_take (i := 25) (oi := { dst := some 95, op := Op.move (Operand.tmp 2), type := 9, pos := "law.go:61", after := #[{ on := 21, ground := Ground.guard }], guard := some (21, true) }) (v := .string m) rfl (by kernel_rfl) (by kernel_rfl) (by kernel_rfl) (fun _ _ _ h => h) (Or.inl ⟨by rfl, fun W hW => ?y26⟩) hS0 ?_
      case y26 => go_simp
      try dsimp only [Act.put]
      try simp only [List.setIfInBounds_toArray, List.set_cons_zero, List.set_cons_succ]
      refine wpAnyH_take (i := 27) (oi := { dst := some 97, op := Op.load 23 (Operand.tmp 8), type := 23, pos := "law.go:61", after := #[{ on := 21, ground := Ground.guard }], guard := some (21, true) }) (v := .agg (B8 PK).toArray) rfl (by kernel_rfl) (by kernel_rfl) (by kernel_rfl) (fun _ _ _ h => h) (Or.inl ⟨by rfl, fun W hW => exec_load_row _ _ 23 (.tmp 8) rfl ⟨w2.heap.size, 0, none⟩ rfl (B8 PK) W (run_loadVar_at W _ 23 (B8 PK) (.array 16 5) (Blk.at hW.b) Tryd.underlying23 rfl (size23 _ HPl.out))⟩) hS0 ?_
      try dsimp only [Act.put]
      try simp only [List.setIfInBounds_toArray, List.set_cons_zero, List.set_cons_succ]
      refine wpAnyH_take (i := 28) (oi := { dst := some 98, op := Op.indexAddr 28 (Operand.tmp 4) (Operand.const (Value.int IntKind.i64 1)), type := 0, pos := "law.go:61", after := #[{ on := 21, ground := Ground.guard }], guard := some (21, true) }) (v := .pointer (some ⟨w.heap.size, 1, none⟩)) rfl (by kernel_rfl) (by kernel_rfl) (by kernel_rfl) (fun _ _ _ h => h) (Or.inl ⟨by rfl, fun W hW => ?y28⟩) hS0 ?_
      case y28 => go_simp
      try dsimp only [Act.put]
      try simp only [List.setIfInBounds_toArray, List.set_cons_zero, List.set_cons_succ]
      refine wpAnyH_take (i := 29) (oi := { dst := some 99, op := Op.load 3 (Operand.tmp 98), type := 3, pos := "law.go:61", after := #[{ on := 28, ground := Ground.data }, { on := 21, ground := Ground.guard }], guard := some (21, true) }) (v := .int .i64 ix) rfl (by kernel_rfl) (by kernel_rfl) (by kernel_rfl) (fun _ _ _ h => h) (Or.inl ⟨by rfl, fun W hW => by have hcl := hW.a.cell 1; simp only [List.getElem?_cons_succ, List.getElem?_cons_zero] at hcl; go_simp⟩) hS0 ?_
      try dsimp only [Act.put]
      try simp only [List.setIfInBounds_toArray, List.set_cons_zero, List.set_cons_succ]
      refine wpAnyH_take (i := 30) (oi := { dst := some 100, op := Op.move (Operand.tmp 2), type := 9, pos := "law.go:61", after := #[{ on := 21, ground := Ground.guard }], guard := some (21, true) }) (v := .string m) rfl (by kernel_rfl) (by kernel_rfl) (by kernel_rfl) (fun _ _ _ h => h) (Or.inl ⟨by rfl, fun W hW => ?y30⟩) hS0 ?_
      case y30 => go_simp
      try dsimp only [Act.put]
      try simp only [List.setIfInBounds_toArray, List.set_cons_zero, List.set_cons_succ]
      refine wpAnyH_ready (rs := [26]) (by kernel_rfl) (by simp) ?_
      refine AllReadyH.cons (o := { dst := some 96, op := Op.call { callee := Callee.value (Operand.func 16), args := #[Operand.tmp 92, Operand.tmp 94, Operand.tmp 95], argTypes := #[23, 3, 9] }, type := 23, pos := "law.go:61", after := #[{ on := 22, ground := Ground.data }, { on := 24, ground := Ground.data }, { on := 25, ground := Ground.data }, { on := 21, ground := Ground.chain }, { on := 21, ground := Ground.guard }], guard := some (21, true) }) rfl (fun K hK => ?_) AllReadyH.nil
      rw [if_pos (by rfl)]
      go_simp
      refine (digest_any PK ix m Wd HPl.out HOI.out (by omega) (HT.out.below BD.out HT.out.1) Dg HDg).mono ?_; rintro e wa ⟨rfl, hb6⟩
      have B6 := Lib.hid (BD.out.trans (hb6.mono BD.out.size))
      have hS6 := hS0.below hb6
      clear hb6
      go_wp2_with fail
      refine hK.out _ _ hS6 (fun _ => ?_)
      clear hK K
      try dsimp only [Act.put]
      try simp only [List.setIfInBounds_toArray, List.set_cons_zero, List.set_cons_succ]
      refine wpAnyH_ready (rs := [31]) (by kernel_rfl) (by simp) ?_
      refine AllReadyH.cons (o := { dst := some 101, op := Op.call { callee := Callee.value (Operand.func 17), args := #[Operand.tmp 97, Operand.tmp 99, Operand.tmp 100], argTypes := #[23, 3, 9] }, type := 23, pos := "law.go:61", after := #[{ on := 27, ground := Ground.data }, { on := 29, ground := Ground.data }, { on := 30, ground := Ground.data }, { on := 26, ground := Ground.chain }, { on := 21, ground := Ground.guard }], guard := some (21, true) }) rfl (fun K hK => ?_) AllReadyH.nil
      rw [if_pos (by rfl)]
      go_simp
      refine (rdigest3_any PK ix m wa HPl.out HOI.out (by omega) (HT0.out.below B6.out HT0.out.1) Dg HDg).mono ?_; rintro e wb ⟨rfl, hb7⟩
      have B7 := Lib.hid (B6.out.trans (hb7.mono B6.out.size))
      have hS7 := hS6.below hb7
      clear hb7
      go_wp2_with fail
      refine hK.out _ _ hS7 (fun _ => ?_)
      clear hK K
      try dsimp only [Act.put]
      try simp only [List.setIfInBounds_toArray, List.set_cons_zero, List.set_cons_succ]
      refine wpAnyH_take (i := 32) (oi := { dst := some 102, op := Op.binOp BinOp.eql 23 (Operand.tmp 96) (Operand.tmp 101) 23, type := 4, pos := "law.go:61", after := #[{ on := 26, ground := Ground.data }, { on := 31, ground := Ground.data }, { on := 21, ground := Ground.guard }], guard := some (21, true) }) (v := .bool true) rfl (by kernel_rfl) (by kernel_rfl) (by kernel_rfl) (fun _ _ _ h => h) (Or.inl ⟨by rfl, fun W hW => by have hneq := eqi23 Dg Dg HDgl.out HDgl.out W; rw [beq_self_eq_true] at hneq; go_simp⟩) hS7 ?_
      try dsimp only [Act.put]
      try simp only [List.setIfInBounds_toArray, List.set_cons_zero, List.set_cons_succ]
      refine wpAnyH_take (i := 33) (oi := { dst := some 103, op := Op.pick (Operand.tmp 91) (Operand.tmp 102) (Operand.const (Value.bool false)), type := 4, pos := "law.go:61", after := #[{ on := 21, ground := Ground.data }, { on := 32, ground := Ground.data }], guard := none }) (v := .bool true) rfl (by kernel_rfl) (by kernel_rfl) (by kernel_rfl) (fun _ _ _ h => h) (Or.inl ⟨by rfl, fun W hW => ?y32⟩) hS7 ?_
      case y32 => go_simp
      try dsimp only [Act.put]
      try simp only [List.setIfInBounds_toArray, List.set_cons_zero, List.set_cons_succ]
      refine wpAnyH_ready (rs := [34]) (by kernel_rfl) (by simp) ?_
      refine AllReadyH.cons (o := { dst := some 6, op := Op.assign (Operand.tmp 103), type := 4, pos := "law.go:61", after := #[{ on := 33, ground := Ground.data }, { on := 31, ground := Ground.chain }, { on := 0, ground := Ground.phase }, { on := 1, ground := Ground.phase }, { on := 2, ground := Ground.phase }, { on := 3, ground := Ground.phase }, { on := 4, ground := Ground.phase }, { on := 5, ground := Ground.phase }, { on := 6, ground := Ground.phase }, { on := 7, ground := Ground.phase }, { on := 8, ground := Ground.phase }, { on := 9, ground := Ground.phase }, { on := 10, ground := Ground.phase }, { on := 11, ground := Ground.phase }, { on := 12, ground := Ground.phase }, { on := 13, ground := Ground.phase }, { on := 14, ground := Ground.phase }, { on := 15, ground := Ground.phase }, { on := 16, ground := Ground.phase }, { on := 17, ground := Ground.phase }, { on := 18, ground := Ground.phase }, { on := 19, ground := Ground.phase }, { on := 20, ground := Ground.phase }, { on := 21, ground := Ground.phase }, { on := 22, ground := Ground.phase }, { on := 23, ground := Ground.phase }, { on := 24, ground := Ground.phase }, { on := 25, ground := Ground.phase }, { on := 26, ground := Ground.phase }, { on := 27, ground := Ground.phase }, { on := 28, ground := Ground.phase }, { on := 29, ground := Ground.phase }, { on := 30, ground := Ground.phase }, { on := 31, ground := Ground.phase }, { on := 32, ground := Ground.phase }, { on := 33, ground := Ground.phase }], guard := none }) rfl (fun K hK => ?_) AllReadyH.nil
      rw [if_pos (by rfl)]
      go_simp
      refine hK.out _ _ hS7 (fun _ => ?_)
      clear hK K
      try dsimp only [Act.put]
      try simp only [List.setIfInBounds_toArray, List.set_cons_zero, List.set_cons_succ]
      refine wpAnyH_done (by kernel_rfl) ?_ _
      try dsimp only [Act.put]
      try simp only [List.setIfInBounds_toArray, List.set_cons_zero, List.set_cons_succ]
      go_wp2_with fail
      go_ret
      exact ⟨rfl, B7.out⟩
  exact main (by omega)
end Go.Proofs.YtgonidjajmjniaaDoor
