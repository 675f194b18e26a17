/-
  The contracts of the laws' model and proof, of the reference's SameDigests and Same.
  Conditions: lengths; equal proofs.
-/
import Derived.Test.YtofccgkgjcnfbaaDoorRProve
import Derived.Test.YtofccgkgjcnfbaaDoorSame2
import Derived.Test.YtofccgkgjcnfbaaDoorOwns2
import Derived.Test.YtofccgkgjcnfbaaDoorLawR
namespace Go.Proofs.YtofccgkgjcnfbaaDoor
open Go.RowKit Wr Sh
set_option linter.unusedVariables false
set_option maxRecDepth 100000

/-- A proof, handed over. -/
def ModelP (w : World) (p : Pf) (A2 : Option Addr) (n m c2 : Nat) (e : Ending) (w' : World) : Prop :=
  ∃ A' c', e = .returned (.agg (PR p.first p.size (.slice A' n c') (.slice A2 m c2)).toArray) ∧ PfAt w' w'.heap.size p A' A2 c' c2 ∧ Below w.heap.size w w'
set_option maxHeartbeats 4000000 in
theorem model_any (p : Pf) (A1 A2 : Option Addr) (n m c1 c2 : Nat) (w : World) (hn : n = p.leaves.length) (hm : m = p.sides.length) (hp : PfAt w w.heap.size p A1 A2 c1 c2) :
    Calls Tryd.prog 27 #[.agg (PR p.first p.size (.slice A1 n c1) (.slice A2 m c2)).toArray] w (ModelP w p A2 n m c2) := by
  obtain ⟨f, hf⟩ : ∃ f, f = p.first := ⟨_, rfl⟩
  obtain ⟨sz, hsz⟩ : ∃ f, f = p.size := ⟨_, rfl⟩
  have hZ := hZP
  have HP := Lib.hid hp
  have HN := Lib.hid hn
  have HC := Lib.hid (fun (W : World) (hb : Below w.heap.size w W) => show Calls Tryd.prog 18 #[.slice A1 n c1] W fun e w' => ∃ v, e = .returned v ∧ w'.ownsRow W.heap.size 87 2 v n (LC p.leaves) ∧ Below W.heap.size W w' from by
    rw [hn]; exact plain_r A1 p.leaves c1 W hp.okl.1 ((hp.r1.below hb).more hb.size))
  have HPA := Lib.hid (fun (W : World) (A' : Option Addr) (c' : Nat) (hb : Below w.heap.size w W) (hr : Rd W W.heap.size A' (LC p.leaves)) (h1 : n ≤ c') (h2 : A' = none → c' = 0) => show PfAt W W.heap.size p A' A2 c' c2 from
    ⟨hr, (hp.r2.below hb).more hb.size, ⟨by rw [← hn]; exact h1, h2⟩, hp.k2, hp.okl, hp.oks, hp.oki⟩)
  unfold ModelP
  rw [← hf, ← hsz]
  obtain ⟨W1, hW1⟩ : ∃ W, W = (w.alloc (.cells (PR f sz (.slice A1 n c1) (.slice A2 m c2)).toArray 50)).alloc (.cells ZP.toArray 54) := ⟨_, rfl⟩
  have B1 := Lib.hid (show Below w.heap.size w W1 by rw [hW1]; exact ((Below.refl _ _).alloc (Nat.le_refl _) _).alloc (by simp) _)
  have HS1 := Lib.hid (show Blk W1 w.heap.size 50 (PR f sz (.slice A1 n c1) (.slice A2 m c2)) by rw [hW1]; exact (Blk.new w 50 _).alloc _)
  have Z1 := Lib.hid (show Blk W1 (w.heap.size + 1) 54 ZP by rw [hW1]; exact Blk.newAt _ _ 54 ZP (by simp))
  have HW := Lib.hid hW1
  clear hn hm hp hf hsz hW1
  go_enter Tryd.func27, Tryd.ntmps27
  go_upto_region 1 with fail
  first | rw [← HW.out] | (have hw := HW.out; simp only [PR] at hw; rw [← hw])
  refine wp_region_held (S := fun W => Blk W w.heap.size 50 (PR f sz (.slice A1 n c1) (.slice A2 m c2))) (by kernel_rfl) ?_
  change wpAnyH _ _ _ _ _ _ _ _ (World.drew W1)
  have hs0 : Blk (World.drew W1) w.heap.size 50 (PR f sz (.slice A1 n c1) (.slice A2 m c2)) := HS1.out
  have BD := Lib.hid B1.out.drew
  have ZD := Lib.hid (show Blk (World.drew W1) (w.heap.size + 1) 54 ZP from Z1.out)
  generalize World.drew W1 = Wd at hs0 BD ZD ⊢
  refine wpAnyH_take (i := 0) (oi := { dst := some 3, op := Op.fieldAddr 50 (Operand.tmp 1) 0, type := 0, pos := "law.go:65", after := #[], guard := none }) (v := .pointer (some ⟨w.heap.size, 0, none⟩)) rfl (by kernel_rfl) (by kernel_rfl) (by kernel_rfl) (fun _ _ _ h => h) (Or.inl ⟨by rfl, fun W hW => ?y1⟩) hs0 ?_
  case y1 => go_simp
  try dsimp only [Act.put]
  try simp only [List.setIfInBounds_toArray, List.set_cons_zero, List.set_cons_succ]
  refine wpAnyH_take (i := 1) (oi := { dst := some 4, op := Op.load 3 (Operand.tmp 3), type := 3, pos := "law.go:65", after := #[{ on := 0, ground := Ground.data }], guard := none }) (v := .int .i64 f) rfl (by kernel_rfl) (by kernel_rfl) (by kernel_rfl) (fun _ _ _ h => h) (Or.inl ⟨by rfl, fun W hW => by have hcl : W.cell? ⟨w.heap.size, 0, none⟩ = _ := hW.cell 0; simp only [PR, List.getElem?_cons_zero] at hcl; go_simp⟩) hs0 ?_
  try dsimp only [Act.put]
  try simp only [List.setIfInBounds_toArray, List.set_cons_zero, List.set_cons_succ]
  refine wpAnyH_take (i := 2) (oi := { dst := some 5, op := Op.fieldAddr 50 (Operand.tmp 1) 1, type := 0, pos := "law.go:65", after := #[], guard := none }) (v := .pointer (some ⟨w.heap.size, 1, none⟩)) rfl (by kernel_rfl) (by kernel_rfl) (by kernel_rfl) (fun _ _ _ h => h) (Or.inl ⟨by rfl, fun W hW => ?y3⟩) hs0 ?_
  case y3 => go_simp
  try dsimp only [Act.put]
  try simp only [List.setIfInBounds_toArray, List.set_cons_zero, List.set_cons_succ]
  refine wpAnyH_take (i := 3) (oi := { dst := some 6, op := Op.load 3 (Operand.tmp 5), type := 3, pos := "law.go:65", after := #[{ on := 2, ground := Ground.data }], guard := none }) (v := .int .i64 sz) rfl (by kernel_rfl) (by kernel_rfl) (by kernel_rfl) (fun _ _ _ h => h) (Or.inl ⟨by rfl, fun W hW => by have hcl : W.cell? ⟨w.heap.size, 1, none⟩ = _ := hW.cell 1; simp only [PR, List.getElem?_cons_zero, List.getElem?_cons_succ] at hcl; go_simp⟩) hs0 ?_
  try dsimp only [Act.put]
  try simp only [List.setIfInBounds_toArray, List.set_cons_zero, List.set_cons_succ]
  refine wpAnyH_take (i := 4) (oi := { dst := some 7, op := Op.fieldAddr 50 (Operand.tmp 1) 2, type := 0, pos := "law.go:65", after := #[], guard := none }) (v := .pointer (some ⟨w.heap.size, 2, none⟩)) rfl (by kernel_rfl) (by kernel_rfl) (by kernel_rfl) (fun _ _ _ h => h) (Or.inl ⟨by rfl, fun W hW => ?y5⟩) hs0 ?_
  case y5 => go_simp
  try dsimp only [Act.put]
  try simp only [List.setIfInBounds_toArray, List.set_cons_zero, List.set_cons_succ]
  refine wpAnyH_take (i := 5) (oi := { dst := some 8, op := Op.load 33 (Operand.tmp 7), type := 33, pos := "law.go:65", after := #[{ on := 4, ground := Ground.data }], guard := none }) (v := .slice A1 n c1) rfl (by kernel_rfl) (by kernel_rfl) (by kernel_rfl) (fun _ _ _ h => h) (Or.inl ⟨by rfl, fun W hW => by have hcl : W.cell? ⟨w.heap.size, 2, none⟩ = _ := hW.cell 2; simp only [PR, List.getElem?_cons_zero, List.getElem?_cons_succ] at hcl; go_simp⟩) hs0 ?_
  try dsimp only [Act.put]
  try simp only [List.setIfInBounds_toArray, List.set_cons_zero, List.set_cons_succ]
  refine wpAnyH_take (i := 7) (oi := { dst := some 10, op := Op.fieldAddr 50 (Operand.tmp 1) 3, type := 0, pos := "law.go:65", after := #[], guard := none }) (v := .pointer (some ⟨w.heap.size, 3, none⟩)) rfl (by kernel_rfl) (by kernel_rfl) (by kernel_rfl) (fun _ _ _ h => h) (Or.inl ⟨by rfl, fun W hW => ?y7⟩) hs0 ?_
  case y7 => go_simp
  try dsimp only [Act.put]
  try simp only [List.setIfInBounds_toArray, List.set_cons_zero, List.set_cons_succ]
  refine wpAnyH_take (i := 8) (oi := { dst := some 11, op := Op.load 48 (Operand.tmp 10), type := 48, pos := "law.go:65", after := #[{ on := 7, ground := Ground.data }], guard := none }) (v := .slice A2 m c2) rfl (by kernel_rfl) (by kernel_rfl) (by kernel_rfl) (fun _ _ _ h => h) (Or.inl ⟨by rfl, fun W hW => by have hcl : W.cell? ⟨w.heap.size, 3, none⟩ = _ := hW.cell 3; simp only [PR, List.getElem?_cons_zero, List.getElem?_cons_succ] at hcl; go_simp⟩) hs0 ?_
  try dsimp only [Act.put]
  try simp only [List.setIfInBounds_toArray, List.set_cons_zero, List.set_cons_succ]
  refine wpAnyH_ready (rs := [6]) (by kernel_rfl) (by simp) ?_
  refine AllReadyH.cons (o := { dst := some 9, op := Op.call { callee := Callee.value (Operand.func 18), args := #[Operand.tmp 8], argTypes := #[33] }, type := 24, pos := "law.go:65", after := #[{ on := 5, ground := Ground.data }], guard := none }) rfl (fun K hK => ?_) AllReadyH.nil
  rw [if_pos (by rfl)]
  have HCC := HC.out Wd BD.out
  go_simp
  refine HCC.mono ?_; rintro e w5 ⟨v5, rfl, ho5, hb5⟩
  obtain ⟨A', c', rfl, hcap, hnil, _⟩ := own_form ho5
  have hs5 := hs0.below hb5 hs0.lt
  have B5 := Lib.hid (BD.out.trans (hb5.mono BD.out.size))
  have Z5 := Lib.hid (ZD.out.below hb5 ZD.out.lt)
  have O5 := Lib.hid ho5
  have R5 := Lib.hid (And.intro hcap hnil)
  have N5 := Lib.hid (own_not (p := w.heap.size + 1) ho5 (.inl ZD.out.lt))
  clear HCC hb5 hcap hnil ho5
  go_wp2_with fail
  refine hK.out _ _ hs5 (fun _ => ?_)
  clear hK K
  try dsimp only [Act.put]
  try simp only [List.setIfInBounds_toArray, List.set_cons_zero, List.set_cons_succ]
  refine wpAnyH_take (i := 9) (oi := { dst := some 12, op := Op.build 54 #[(0, Operand.tmp 4), (1, Operand.tmp 6), (2, Operand.tmp 9), (3, Operand.tmp 11)], type := 54, pos := "law.go:65", after := #[{ on := 1, ground := Ground.data }, { on := 3, ground := Ground.data }, { on := 6, ground := Ground.data }, { on := 8, ground := Ground.data }], guard := none }) (v := .agg (PR f sz (.slice A' n c') (.slice A2 m c2)).toArray) rfl (by kernel_rfl) (by kernel_rfl) (by kernel_rfl) (fun _ _ _ h => h) (Or.inl ⟨by rfl, fun W hW => by clear hZ; go_simp; rfl⟩) hs5 ?_
  try dsimp only [Act.put]
  try simp only [List.setIfInBounds_toArray, List.set_cons_zero, List.set_cons_succ]
  refine wpAnyH_ready (rs := [10]) (by kernel_rfl) (by simp) ?_
  refine AllReadyH.cons (o := { dst := none, op := Op.store 54 (Operand.tmp 2) (Operand.tmp 12), type := 0, pos := "law.go:65", after := #[{ on := 9, ground := Ground.data }, { on := 6, ground := Ground.chain }, { on := 0, ground := Ground.phase }, { on := 1, ground := Ground.phase }, { on := 2, ground := Ground.phase }, { on := 3, ground := Ground.phase }, { on := 4, ground := Ground.phase }, { on := 5, ground := Ground.phase }, { on := 6, ground := Ground.phase }, { on := 7, ground := Ground.phase }, { on := 8, ground := Ground.phase }, { on := 9, ground := Ground.phase }], guard := none }) rfl (fun K hK => ?_) AllReadyH.nil
  rw [if_pos (by rfl)]
  have hs6 := hs5.setRow (show w.heap.size ≠ w.heap.size + 1 by omega) (PR f sz (.slice A' n c') (.slice A2 m c2)).toArray
  refine wp_store_row 54 (.tmp 2) (.tmp 12) rfl (w.heap.size + 1) (PR f sz (.slice A' n c') (.slice A2 m c2)).toArray rfl rfl 54 _ Z5.out (size54A _ _ _ _) (ZP_PR _ _ _ _) (PR_one _ _ _ _ _ _ _ _) ?_
  refine hK.out _ _ hs6 (fun _ => ?_)
  clear hK K
  try dsimp only [Act.put]
  try simp only [List.setIfInBounds_toArray, List.set_cons_zero, List.set_cons_succ]
  refine wpAnyH_done (by kernel_rfl) ?_ _
  try dsimp only [Act.put]
  try simp only [List.setIfInBounds_toArray, List.set_cons_zero, List.set_cons_succ]
  go_wp2_with fail
  refine bodyPost_ret (v := .agg (PR f sz (.slice A' n c') (.slice A2 m c2)).toArray) ?_ rfl ⟨_, _, rfl, HPA.out _ _ _ (belowRow B5.out (by omega) _) (Rd.of_own (own_setRow O5.out N5.out)) R5.out.1 R5.out.2, belowRow B5.out (by omega) _⟩
  have hr := run_loadVar_row (P := Tryd.prog) _ (w.heap.size + 1) 54 54 (PR f sz (.slice A' n c') (.slice A2 m c2)).toArray (0, 0) _ (heap_setRow w5 (w.heap.size + 1) (PR f sz (.slice A' n c') (.slice A2 m c2)).toArray _ 54 Z5.out) Tryd.underlying54 rfl (size54A _ _ _ _)
  simp [results, asAddr, hr]
set_option maxHeartbeats 4000000 in
theorem pfOf_any (p : Pf) (A1 A2 : Option Addr) (n m c1 c2 : Nat) (w : World) (hn : n = p.leaves.length) (hm : m = p.sides.length) (hp : PfAt w w.heap.size p A1 A2 c1 c2) :
    Calls Tryd.prog 30 #[.agg (PR p.first p.size (.slice A1 n c1) (.slice A2 m c2)).toArray] w (ModelP w p A2 n m c2) := by
  obtain ⟨f, hf⟩ : ∃ f, f = p.first := ⟨_, rfl⟩
  obtain ⟨sz, hsz⟩ : ∃ f, f = p.size := ⟨_, rfl⟩
  have hZ := hZP
  have HP := Lib.hid hp
  have HN := Lib.hid hn
  have HC := Lib.hid (fun (W : World) (hb : Below w.heap.size w W) => show Calls Tryd.prog 13 #[.slice A1 n c1] W fun e w' => ∃ v, e = .returned v ∧ w'.ownsRow W.heap.size 41 2 v n (LC p.leaves) ∧ Below W.heap.size W w' from by
    rw [hn]; exact own_r A1 p.leaves c1 W hp.okl.1 ((hp.r1.below hb).more hb.size))
  have HPA := Lib.hid (fun (W : World) (A' : Option Addr) (c' : Nat) (hb : Below w.heap.size w W) (hr : Rd W W.heap.size A' (LC p.leaves)) (h1 : n ≤ c') (h2 : A' = none → c' = 0) => show PfAt W W.heap.size p A' A2 c' c2 from
    ⟨hr, (hp.r2.below hb).more hb.size, ⟨by rw [← hn]; exact h1, h2⟩, hp.k2, hp.okl, hp.oks, hp.oki⟩)
  unfold ModelP
  rw [← hf, ← hsz]
  obtain ⟨W1, hW1⟩ : ∃ W, W = (w.alloc (.cells (PR f sz (.slice A1 n c1) (.slice A2 m c2)).toArray 54)).alloc (.cells ZP.toArray 50) := ⟨_, rfl⟩
  have B1 := Lib.hid (show Below w.heap.size w W1 by rw [hW1]; exact ((Below.refl _ _).alloc (Nat.le_refl _) _).alloc (by simp) _)
  have HS1 := Lib.hid (show Blk W1 w.heap.size 54 (PR f sz (.slice A1 n c1) (.slice A2 m c2)) by rw [hW1]; exact (Blk.new w 54 _).alloc _)
  have Z1 := Lib.hid (show Blk W1 (w.heap.size + 1) 50 ZP by rw [hW1]; exact Blk.newAt _ _ 50 ZP (by simp))
  have HW := Lib.hid hW1
  clear hn hm hp hf hsz hW1
  go_enter Tryd.func30, Tryd.ntmps30
  go_upto_region 1 with fail
  first | rw [← HW.out] | (have hw := HW.out; simp only [PR] at hw; rw [← hw])
  refine wp_region_held (S := fun W => Blk W w.heap.size 54 (PR f sz (.slice A1 n c1) (.slice A2 m c2))) (by kernel_rfl) ?_
  change wpAnyH _ _ _ _ _ _ _ _ (World.drew W1)
  have hs0 : Blk (World.drew W1) w.heap.size 54 (PR f sz (.slice A1 n c1) (.slice A2 m c2)) := HS1.out
  have BD := Lib.hid B1.out.drew
  have ZD := Lib.hid (show Blk (World.drew W1) (w.heap.size + 1) 50 ZP from Z1.out)
  generalize World.drew W1 = Wd at hs0 BD ZD ⊢
  refine wpAnyH_take (i := 0) (oi := { dst := some 3, op := Op.fieldAddr 54 (Operand.tmp 1) 0, type := 0, pos := "law.go:60", after := #[], guard := none }) (v := .pointer (some ⟨w.heap.size, 0, none⟩)) rfl (by kernel_rfl) (by kernel_rfl) (by kernel_rfl) (fun _ _ _ h => h) (Or.inl ⟨by rfl, fun W hW => ?y1⟩) hs0 ?_
  case y1 => go_simp
  try dsimp only [Act.put]
  try simp only [List.setIfInBounds_toArray, List.set_cons_zero, List.set_cons_succ]
  refine wpAnyH_take (i := 1) (oi := { dst := some 4, op := Op.load 3 (Operand.tmp 3), type := 3, pos := "law.go:60", after := #[{ on := 0, ground := Ground.data }], guard := none }) (v := .int .i64 f) rfl (by kernel_rfl) (by kernel_rfl) (by kernel_rfl) (fun _ _ _ h => h) (Or.inl ⟨by rfl, fun W hW => by have hcl : W.cell? ⟨w.heap.size, 0, none⟩ = _ := hW.cell 0; simp only [PR, List.getElem?_cons_zero] at hcl; go_simp⟩) hs0 ?_
  try dsimp only [Act.put]
  try simp only [List.setIfInBounds_toArray, List.set_cons_zero, List.set_cons_succ]
  refine wpAnyH_take (i := 2) (oi := { dst := some 5, op := Op.fieldAddr 54 (Operand.tmp 1) 1, type := 0, pos := "law.go:60", after := #[], guard := none }) (v := .pointer (some ⟨w.heap.size, 1, none⟩)) rfl (by kernel_rfl) (by kernel_rfl) (by kernel_rfl) (fun _ _ _ h => h) (Or.inl ⟨by rfl, fun W hW => ?y3⟩) hs0 ?_
  case y3 => go_simp
  try dsimp only [Act.put]
  try simp only [List.setIfInBounds_toArray, List.set_cons_zero, List.set_cons_succ]
  refine wpAnyH_take (i := 3) (oi := { dst := some 6, op := Op.load 3 (Operand.tmp 5), type := 3, pos := "law.go:60", after := #[{ on := 2, ground := Ground.data }], guard := none }) (v := .int .i64 sz) rfl (by kernel_rfl) (by kernel_rfl) (by kernel_rfl) (fun _ _ _ h => h) (Or.inl ⟨by rfl, fun W hW => by have hcl : W.cell? ⟨w.heap.size, 1, none⟩ = _ := hW.cell 1; simp only [PR, List.getElem?_cons_zero, List.getElem?_cons_succ] at hcl; go_simp⟩) hs0 ?_
  try dsimp only [Act.put]
  try simp only [List.setIfInBounds_toArray, List.set_cons_zero, List.set_cons_succ]
  refine wpAnyH_take (i := 4) (oi := { dst := some 7, op := Op.fieldAddr 54 (Operand.tmp 1) 2, type := 0, pos := "law.go:60", after := #[], guard := none }) (v := .pointer (some ⟨w.heap.size, 2, none⟩)) rfl (by kernel_rfl) (by kernel_rfl) (by kernel_rfl) (fun _ _ _ h => h) (Or.inl ⟨by rfl, fun W hW => ?y5⟩) hs0 ?_
  case y5 => go_simp
  try dsimp only [Act.put]
  try simp only [List.setIfInBounds_toArray, List.set_cons_zero, List.set_cons_succ]
  refine wpAnyH_take (i := 5) (oi := { dst := some 8, op := Op.load 24 (Operand.tmp 7), type := 24, pos := "law.go:60", after := #[{ on := 4, ground := Ground.data }], guard := none }) (v := .slice A1 n c1) rfl (by kernel_rfl) (by kernel_rfl) (by kernel_rfl) (fun _ _ _ h => h) (Or.inl ⟨by rfl, fun W hW => by have hcl : W.cell? ⟨w.heap.size, 2, none⟩ = _ := hW.cell 2; simp only [PR, List.getElem?_cons_zero, List.getElem?_cons_succ] at hcl; go_simp⟩) hs0 ?_
  try dsimp only [Act.put]
  try simp only [List.setIfInBounds_toArray, List.set_cons_zero, List.set_cons_succ]
  refine wpAnyH_take (i := 7) (oi := { dst := some 10, op := Op.fieldAddr 54 (Operand.tmp 1) 3, type := 0, pos := "law.go:60", after := #[], guard := none }) (v := .pointer (some ⟨w.heap.size, 3, none⟩)) rfl (by kernel_rfl) (by kernel_rfl) (by kernel_rfl) (fun _ _ _ h => h) (Or.inl ⟨by rfl, fun W hW => ?y7⟩) hs0 ?_
  case y7 => go_simp
  try dsimp only [Act.put]
  try simp only [List.setIfInBounds_toArray, List.set_cons_zero, List.set_cons_succ]
  refine wpAnyH_take (i := 8) (oi := { dst := some 11, op := Op.load 48 (Operand.tmp 10), type := 48, pos := "law.go:60", after := #[{ on := 7, ground := Ground.data }], guard := none }) (v := .slice A2 m c2) rfl (by kernel_rfl) (by kernel_rfl) (by kernel_rfl) (fun _ _ _ h => h) (Or.inl ⟨by rfl, fun W hW => by have hcl : W.cell? ⟨w.heap.size, 3, none⟩ = _ := hW.cell 3; simp only [PR, List.getElem?_cons_zero, List.getElem?_cons_succ] at hcl; go_simp⟩) hs0 ?_
  try dsimp only [Act.put]
  try simp only [List.setIfInBounds_toArray, List.set_cons_zero, List.set_cons_succ]
  refine wpAnyH_ready (rs := [6]) (by kernel_rfl) (by simp) ?_
  refine AllReadyH.cons (o := { dst := some 9, op := Op.call { callee := Callee.value (Operand.func 13), args := #[Operand.tmp 8], argTypes := #[24] }, type := 33, pos := "law.go:60", after := #[{ on := 5, ground := Ground.data }], guard := none }) rfl (fun K hK => ?_) AllReadyH.nil
  rw [if_pos (by rfl)]
  have HCC := HC.out Wd BD.out
  go_simp
  refine HCC.mono ?_; rintro e w5 ⟨v5, rfl, ho5, hb5⟩
  obtain ⟨A', c', rfl, hcap, hnil, _⟩ := own_form ho5
  have hs5 := hs0.below hb5 hs0.lt
  have B5 := Lib.hid (BD.out.trans (hb5.mono BD.out.size))
  have Z5 := Lib.hid (ZD.out.below hb5 ZD.out.lt)
  have O5 := Lib.hid ho5
  have R5 := Lib.hid (And.intro hcap hnil)
  have N5 := Lib.hid (own_not (p := w.heap.size + 1) ho5 (.inl ZD.out.lt))
  clear HCC hb5 hcap hnil ho5
  go_wp2_with fail
  refine hK.out _ _ hs5 (fun _ => ?_)
  clear hK K
  try dsimp only [Act.put]
  try simp only [List.setIfInBounds_toArray, List.set_cons_zero, List.set_cons_succ]
  refine wpAnyH_take (i := 9) (oi := { dst := some 12, op := Op.build 50 #[(0, Operand.tmp 4), (1, Operand.tmp 6), (2, Operand.tmp 9), (3, Operand.tmp 11)], type := 50, pos := "law.go:60", after := #[{ on := 1, ground := Ground.data }, { on := 3, ground := Ground.data }, { on := 6, ground := Ground.data }, { on := 8, ground := Ground.data }], guard := none }) (v := .agg (PR f sz (.slice A' n c') (.slice A2 m c2)).toArray) rfl (by kernel_rfl) (by kernel_rfl) (by kernel_rfl) (fun _ _ _ h => h) (Or.inl ⟨by rfl, fun W hW => by clear hZ; go_simp; rfl⟩) hs5 ?_
  try dsimp only [Act.put]
  try simp only [List.setIfInBounds_toArray, List.set_cons_zero, List.set_cons_succ]
  refine wpAnyH_ready (rs := [10]) (by kernel_rfl) (by simp) ?_
  refine AllReadyH.cons (o := { dst := none, op := Op.store 50 (Operand.tmp 2) (Operand.tmp 12), type := 0, pos := "law.go:60", after := #[{ on := 9, ground := Ground.data }, { on := 6, ground := Ground.chain }, { on := 0, ground := Ground.phase }, { on := 1, ground := Ground.phase }, { on := 2, ground := Ground.phase }, { on := 3, ground := Ground.phase }, { on := 4, ground := Ground.phase }, { on := 5, ground := Ground.phase }, { on := 6, ground := Ground.phase }, { on := 7, ground := Ground.phase }, { on := 8, ground := Ground.phase }, { on := 9, ground := Ground.phase }], guard := none }) rfl (fun K hK => ?_) AllReadyH.nil
  rw [if_pos (by rfl)]
  have hs6 := hs5.setRow (show w.heap.size ≠ w.heap.size + 1 by omega) (PR f sz (.slice A' n c') (.slice A2 m c2)).toArray
  refine wp_store_row 50 (.tmp 2) (.tmp 12) rfl (w.heap.size + 1) (PR f sz (.slice A' n c') (.slice A2 m c2)).toArray rfl rfl 50 _ Z5.out (size50A _ _ _ _) (ZP_PR _ _ _ _) (PR_one _ _ _ _ _ _ _ _) ?_
  refine hK.out _ _ hs6 (fun _ => ?_)
  clear hK K
  try dsimp only [Act.put]
  try simp only [List.setIfInBounds_toArray, List.set_cons_zero, List.set_cons_succ]
  refine wpAnyH_done (by kernel_rfl) ?_ _
  try dsimp only [Act.put]
  try simp only [List.setIfInBounds_toArray, List.set_cons_zero, List.set_cons_succ]
  go_wp2_with fail
  refine bodyPost_ret (v := .agg (PR f sz (.slice A' n c') (.slice A2 m c2)).toArray) ?_ rfl ⟨_, _, rfl, HPA.out _ _ _ (belowRow B5.out (by omega) _) (Rd.of_own (own_setRow O5.out N5.out)) R5.out.1 R5.out.2, belowRow B5.out (by omega) _⟩
  have hr := run_loadVar_row (P := Tryd.prog) _ (w.heap.size + 1) 50 50 (PR f sz (.slice A' n c') (.slice A2 m c2)).toArray (0, 0) _ (heap_setRow w5 (w.heap.size + 1) (PR f sz (.slice A' n c') (.slice A2 m c2)).toArray _ 50 Z5.out) Tryd.underlying50 rfl (size50A _ _ _ _)
  simp [results, asAddr, hr]
set_option maxHeartbeats 4000000 in
theorem sameDigs_any (A B : Option Addr) (S : List (List UInt8)) (N c d : Nat) (w : World) (hN : N = S.length) (hl : N ≤ 1073741824) (h16 : ∀ d ∈ S, d.length = 16) (hr : Rd w w.heap.size A (B8 S.flatten)) (hs : Rd w w.heap.size B (B8 S.flatten)) :
    Calls Tryd.prog 58 #[.slice A N c, .slice B N d] w fun e w' => e = .returned (.bool true) ∧ Below w.heap.size w w' := by
  have HN := Lib.hid hN
  have HR := Lib.hid hr
  have HS := Lib.hid hs
  have H16 := Lib.hid h16
  clear hN hr hs h16
  go_enter Tryd.func58, Tryd.ntmps58
  go_wp2
  go_loopw [5] (fun s5 wr => ∃ j : Nat, j ≤ N ∧ s5 = .int .i64 j ∧ Hid (Below w.heap.size w wr)) (fun s5 _ => N - (intOf s5).toNat)
  case atStart => exact ⟨0, Nat.zero_le _, rfl, Lib.hid (Below.refl _ _)⟩
  case round =>
    obtain ⟨j, hj, rfl, HB⟩ := hrel
    by_cases hlt : j < N
    · have hjl : j < S.length := by have := HN.out; omega
      have hne : B8 S.flatten ≠ [] := by intro e; have := congrArg List.length e; rw [B8_len, List.length_flatten, sum16 S H16.out] at this; simp at this; omega
      obtain ⟨g, o, rfl, hg, hcell⟩ := (HR.out.below HB.out) hne
      obtain ⟨g2, o2, rfl, hg2, hcell2⟩ := (HS.out.below HB.out) hne
      obtain ⟨D, hD⟩ : ∃ D, D = S[j] := ⟨_, rfl⟩
      have HDl := Lib.hid (show D.length = 16 by rw [hD]; exact H16.out _ (List.getElem_mem _))
      have HD2 := Lib.hid (show (∀ k v, (B8 D)[k]? = some v → wr.cell? ((⟨g, o + j * 16, none⟩ : Addr).add k) = some v) ∧ ∀ k v, (B8 D)[k]? = some v → wr.cell? ((⟨g2, o2 + j * 16, none⟩ : Addr).add k) = some v from
        ⟨fun k v h => by rw [Addr.add_lit, Nat.add_assoc]; exact hcell _ _ (dig_cell S H16.out j hjl k v (by rw [← hD]; exact h)), fun k v h => by rw [Addr.add_lit, Nat.add_assoc]; exact hcell2 _ _ (dig_cell S H16.out j hjl k v (by rw [← hD]; exact h))⟩)
      have i1 : (j : Int) < (N : Int) := by omega
      clear hcell hcell2 hne hg hg2 hjl hD
      go_wp2
      refine wp_region_held (S := fun W => (∀ k v, (B8 D)[k]? = some v → W.cell? ((⟨g, o + j * 16, none⟩ : Addr).add k) = some v) ∧ ∀ k v, (B8 D)[k]? = some v → W.cell? ((⟨g2, o2 + j * 16, none⟩ : Addr).add k) = some v) (by kernel_rfl) ?_
      change wpAnyH _ _ _ _ _ _ _ _ (World.drew wr)
      have hs0 : (∀ k v, (B8 D)[k]? = some v → (World.drew wr).cell? ((⟨g, o + j * 16, none⟩ : Addr).add k) = some v) ∧ ∀ k v, (B8 D)[k]? = some v → (World.drew wr).cell? ((⟨g2, o2 + j * 16, none⟩ : Addr).add k) = some v := HD2.out
      have BD := Lib.hid HB.out.drew
      generalize World.drew wr = Wd at hs0 BD ⊢
      refine wpAnyH_take (i := 0) (oi := { dst := some 17, op := Op.move (Operand.tmp 0), type := 48, pos := "ref.go:228", after := #[], guard := none }) (v := .slice (some ⟨g, o, none⟩) N c) rfl (by kernel_rfl) (by kernel_rfl) (by kernel_rfl) (fun _ _ _ h => h) (Or.inl ⟨by rfl, fun W hW => ?y1⟩) hs0 ?_
      case y1 => go_simp
      try dsimp only [Act.put]
      try simp only [List.setIfInBounds_toArray, List.set_cons_zero, List.set_cons_succ]
      refine wpAnyH_take (i := 1) (oi := { dst := some 18, op := Op.move (Operand.tmp 5), type := 3, pos := "ref.go:228", after := #[], guard := none }) (v := .int .i64 (j : Int)) rfl (by kernel_rfl) (by kernel_rfl) (by kernel_rfl) (fun _ _ _ h => h) (Or.inl ⟨by rfl, fun W hW => ?y2⟩) hs0 ?_
      case y2 => go_simp
      try dsimp only [Act.put]
      try simp only [List.setIfInBounds_toArray, List.set_cons_zero, List.set_cons_succ]
      refine wpAnyH_take (i := 2) (oi := { dst := some 19, op := Op.indexAddr 48 (Operand.tmp 17) (Operand.tmp 18), type := 0, pos := "ref.go:228", after := #[{ on := 0, ground := Ground.data }, { on := 1, ground := Ground.data }], guard := none }) (v := .pointer (some ⟨g, o + j * 16, none⟩)) rfl (by kernel_rfl) (by kernel_rfl) (by kernel_rfl) (fun _ _ _ h => h) (Or.inl ⟨by rfl, fun W hW => ?y3⟩) hs0 ?_
      case y3 => go_simp
      try dsimp only [Act.put]
      try simp only [List.setIfInBounds_toArray, List.set_cons_zero, List.set_cons_succ]
      refine wpAnyH_take (i := 3) (oi := { dst := some 20, op := Op.load 29 (Operand.tmp 19), type := 29, pos := "ref.go:228", after := #[{ on := 2, ground := Ground.data }], guard := none }) (v := .agg (B8 D).toArray) rfl (by kernel_rfl) (by kernel_rfl) (by kernel_rfl) (fun _ _ _ h => h) (Or.inl ⟨by rfl, fun W hW => exec_load_row _ _ 29 (.tmp 19) rfl ⟨g, o + j * 16, none⟩ rfl (B8 D) W (run_loadVar_at W _ 29 (B8 D) (.array 16 5) hW.1 Tryd.underlying29 rfl (size29 _ HDl.out))⟩) hs0 ?_
      try dsimp only [Act.put]
      try simp only [List.setIfInBounds_toArray, List.set_cons_zero, List.set_cons_succ]
      refine wpAnyH_take (i := 4) (oi := { dst := some 21, op := Op.move (Operand.tmp 1), type := 48, pos := "ref.go:228", after := #[], guard := none }) (v := .slice (some ⟨g2, o2, none⟩) N d) rfl (by kernel_rfl) (by kernel_rfl) (by kernel_rfl) (fun _ _ _ h => h) (Or.inl ⟨by rfl, fun W hW => ?y5⟩) hs0 ?_
      case y5 => go_simp
      try dsimp only [Act.put]
      try simp only [List.setIfInBounds_toArray, List.set_cons_zero, List.set_cons_succ]
      refine wpAnyH_take (i := 5) (oi := { dst := some 22, op := Op.move (Operand.tmp 5), type := 3, pos := "ref.go:228", after := #[], guard := none }) (v := .int .i64 (j : Int)) rfl (by kernel_rfl) (by kernel_rfl) (by kernel_rfl) (fun _ _ _ h => h) (Or.inl ⟨by rfl, fun W hW => ?y6⟩) hs0 ?_
      case y6 => go_simp
      try dsimp only [Act.put]
      try simp only [List.setIfInBounds_toArray, List.set_cons_zero, List.set_cons_succ]
      refine wpAnyH_take (i := 6) (oi := { dst := some 23, op := Op.indexAddr 48 (Operand.tmp 21) (Operand.tmp 22), type := 0, pos := "ref.go:228", after := #[{ on := 4, ground := Ground.data }, { on := 5, ground := Ground.data }], guard := none }) (v := .pointer (some ⟨g2, o2 + j * 16, none⟩)) rfl (by kernel_rfl) (by kernel_rfl) (by kernel_rfl) (fun _ _ _ h => h) (Or.inl ⟨by rfl, fun W hW => ?y7⟩) hs0 ?_
      case y7 => go_simp
      try dsimp only [Act.put]
      try simp only [List.setIfInBounds_toArray, List.set_cons_zero, List.set_cons_succ]
      refine wpAnyH_take (i := 7) (oi := { dst := some 24, op := Op.load 29 (Operand.tmp 23), type := 29, pos := "ref.go:228", after := #[{ on := 6, ground := Ground.data }], guard := none }) (v := .agg (B8 D).toArray) rfl (by kernel_rfl) (by kernel_rfl) (by kernel_rfl) (fun _ _ _ h => h) (Or.inl ⟨by rfl, fun W hW => exec_load_row _ _ 29 (.tmp 23) rfl ⟨g2, o2 + j * 16, none⟩ rfl (B8 D) W (run_loadVar_at W _ 29 (B8 D) (.array 16 5) hW.2 Tryd.underlying29 rfl (size29 _ HDl.out))⟩) hs0 ?_
      try dsimp only [Act.put]
      try simp only [List.setIfInBounds_toArray, List.set_cons_zero, List.set_cons_succ]
      refine wpAnyH_take (i := 8) (oi := { dst := some 25, op := Op.binOp BinOp.neq 29 (Operand.tmp 20) (Operand.tmp 24) 29, type := 4, pos := "ref.go:228", after := #[{ on := 3, ground := Ground.data }, { on := 7, ground := Ground.data }], guard := none }) (v := .bool false) rfl (by kernel_rfl) (by kernel_rfl) (by kernel_rfl) (fun _ _ _ h => h) (Or.inl ⟨by rfl, fun W hW => by have heq := eqi29s D HDl.out W; go_simp⟩) hs0 ?_
      try dsimp only [Act.put]
      try simp only [List.setIfInBounds_toArray, List.set_cons_zero, List.set_cons_succ]
      refine wpAnyH_done (by kernel_rfl) ?_ _
      try dsimp only [Act.put]
      try simp only [List.setIfInBounds_toArray, List.set_cons_zero, List.set_cons_succ]
      go_wp2
      go_roundw
      case rel => exact ⟨j + 1, by omega, by go_num, Lib.hid BD.out⟩
      case measure => simp only [intOf]; omega
    · obtain rfl : j = N := by omega
      go_wp2
      go_ret
      exact ⟨rfl, HB.out⟩
set_option maxHeartbeats 4000000 in
/-- The reference's Same at equal proofs. -/
theorem samePf_any (p : Pf) (A1 A2 B1 B2 : Option Addr) (n m c1 c2 d1 d2 : Nat) (w : World) (hn : n = p.leaves.length) (hm : m = p.sides.length) (hp : PfAt w w.heap.size p A1 A2 c1 c2) (hq : PfAt w w.heap.size p B1 B2 d1 d2) :
    Calls Tryd.prog 26 #[.agg (PR p.first p.size (.slice A1 n c1) (.slice A2 m c2)).toArray, .agg (PR p.first p.size (.slice B1 n d1) (.slice B2 m d2)).toArray] w fun e w' => e = .returned (.bool true) ∧ Below w.heap.size w w' := by
  obtain ⟨f, hf⟩ : ∃ f, f = p.first := ⟨_, rfl⟩
  obtain ⟨sz, hsz⟩ : ∃ f, f = p.size := ⟨_, rfl⟩
  rw [← hf, ← hsz]
  obtain ⟨W1, hW1⟩ : ∃ W, W = (w.alloc (.cells (PR f sz (.slice A1 n c1) (.slice A2 m c2)).toArray 54)).alloc (.cells (PR f sz (.slice B1 n d1) (.slice B2 m d2)).toArray 54) := ⟨_, rfl⟩
  have hb1 : Below w.heap.size w W1 := by rw [hW1]; exact ((Below.refl _ _).alloc (Nat.le_refl _) _).alloc (by simp) _
  have B1' := Lib.hid hb1
  have P1 := Lib.hid (show Blk W1 w.heap.size 54 (PR f sz (.slice A1 n c1) (.slice A2 m c2)) by rw [hW1]; exact (Blk.new w 54 _).alloc _)
  have Q1 := Lib.hid (show Blk W1 (w.heap.size + 1) 54 (PR f sz (.slice B1 n d1) (.slice B2 m d2)) by rw [hW1]; exact Blk.newAt _ _ 54 _ (by simp))
  have HL := Lib.hid (fun (W : World) (hb : Below w.heap.size w W) => show Calls Tryd.prog 34 #[.slice A1 n c1, .slice B1 n d1] W fun e w' => e = .returned (.bool true) ∧ Below W.heap.size W w' from by
    rw [hn]; exact same_any A1 B1 p.leaves c1 d1 W hp.okl.1 ((hp.r1.below hb).more hb.size) ((hq.r1.below hb).more hb.size))
  have HS := Lib.hid (fun (W : World) (hb : Below w.heap.size w W) => show Calls Tryd.prog 58 #[.slice A2 m c2, .slice B2 m d2] W fun e w' => e = .returned (.bool true) ∧ Below W.heap.size W w' from
    sameDigs_any A2 B2 p.sides m c2 d2 W hm (by rw [hm]; exact hp.oks.1) hp.oks.2 ((hp.r2.below hb).more hb.size) ((hq.r2.below hb).more hb.size))
  have HW := Lib.hid hW1
  clear hn hm hp hq hf hsz hW1 hb1
  have p0 : W1.cell? ⟨w.heap.size, 0, none⟩ = some (.int .i64 f) := (P1.out.cell 0).trans rfl
  have p1 : W1.cell? ⟨w.heap.size, 1, none⟩ = some (.int .i64 sz) := (P1.out.cell 1).trans rfl
  have p2 : W1.cell? ⟨w.heap.size, 2, none⟩ = some (.slice A1 n c1) := (P1.out.cell 2).trans rfl
  have q0 : W1.cell? ⟨w.heap.size + 1, 0, none⟩ = some (.int .i64 f) := (Q1.out.cell 0).trans rfl
  have q1 : W1.cell? ⟨w.heap.size + 1, 1, none⟩ = some (.int .i64 sz) := (Q1.out.cell 1).trans rfl
  have q2 : W1.cell? ⟨w.heap.size + 1, 2, none⟩ = some (.slice B1 n d1) := (Q1.out.cell 2).trans rfl
  go_enter Tryd.func26, Tryd.ntmps26
  go_upto_region 1 with fail
  first | rw [← HW.out] | (have hw := HW.out; simp only [PR] at hw; rw [← hw])
  go_wp2_with (first
    | (go_at_call 34; refine (HL.out _ B1'.out).mono ?_; rintro e w2 ⟨rfl, hb⟩; have B2' := Lib.hid (B1'.out.trans (hb.mono B1'.out.size)); have p3 : w2.cell? ⟨w.heap.size, 3, none⟩ = some (.slice A2 m c2) := ((P1.out.below hb P1.out.lt).cell 3).trans rfl; have q3 : w2.cell? ⟨w.heap.size + 1, 3, none⟩ = some (.slice B2 m d2) := ((Q1.out.below hb Q1.out.lt).cell 3).trans rfl; clear hb p0 p1 p2 q0 q1 q2)
    | (go_at_call 58; refine (HS.out _ B2'.out).mono ?_; rintro e w3 ⟨rfl, hb⟩; have B3' := Lib.hid (B2'.out.trans (hb.mono B2'.out.size)); clear hb))
  go_ret
  exact ⟨rfl, B3'.out⟩
end Go.Proofs.YtofccgkgjcnfbaaDoor
