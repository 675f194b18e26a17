/-
  The contract of the closure of merkle's digestOf.
  Conditions: keys and values of at most 2^30 bytes; the table of the round constants is as the text lays it.
-/
import Derived.Test.YtofccgkgjcnfbaaDoorLf
namespace Go.Proofs.YtofccgkgjcnfbaaDoor
open Go.RowKit Wr Sh
set_option linter.unusedVariables false
set_option maxRecDepth 100000

/-- What the closure reads. -/
def Sees (gv gl o a n c : Nat) (k v : ByteArray) (W : World) : Prop :=
  W.cell? ⟨gv, 0, none⟩ = some (.slice (some ⟨gl, o, none⟩) n c) ∧ W.cell? ⟨gl, o + a * 2, none⟩ = some (.string k) ∧ W.cell? ⟨gl, o + a * 2 + 1, none⟩ = some (.string v)
theorem Sees.keep {gv gl o a n c G : Nat} {k v : ByteArray} {w w' : World} (h : Sees gv gl o a n c k v w) (hG : gv ≠ G ∧ gl ≠ G) (hk : ∀ b, b ≠ G → w'.heap[b]? = w.heap[b]?) : Sees gv gl o a n c k v w' :=
  ⟨(World.cell?_of_block (a := ⟨gv, 0, none⟩) (hk gv hG.1)).trans h.1, (World.cell?_of_block (a := ⟨gl, _, none⟩) (hk gl hG.2)).trans h.2.1, (World.cell?_of_block (a := ⟨gl, _, none⟩) (hk gl hG.2)).trans h.2.2⟩
theorem Sees.below {gv gl o a n c : Nat} {k v : ByteArray} {w w' : World} (h : Sees gv gl o a n c k v w) (hb : Below w.heap.size w w') : Sees gv gl o a n c k v w' :=
  ⟨(hb.cell (World.block_lt_of_cell? _ _ h.1)).trans h.1, (hb.cell (World.block_lt_of_cell? _ _ h.2.1)).trans h.2.1, (hb.cell (World.block_lt_of_cell? _ _ h.2.2)).trans h.2.2⟩
theorem Sees.lt {gv gl o a n c : Nat} {k v : ByteArray} {w : World} (h : Sees gv gl o a n c k v w) : gv < w.heap.size ∧ gl < w.heap.size :=
  ⟨World.block_lt_of_cell? _ _ h.1, World.block_lt_of_cell? _ _ h.2.1⟩

set_option maxHeartbeats 1000000 in
theorem single_more (a b gv : Nat) (w : World) (ha : a ≤ 1073741824) (hb : b ≤ 1073741824) (hab : (1 : Int) < (b : Int) - (a : Int)) :
    Calls Tryd.prog 78 #[.int .i64 (a : Int), .int .i64 (b : Int), .pointer (some ⟨gv, 0, none⟩)] w fun e w' => e = .returned (.tuple #[.agg Z16.toArray, .bool false]) ∧ Below w.heap.size w w' := by
  have hZ := hZ16
  have K1 := Lib.hid (heap_alloc_new w (.cells Z16.toArray 29))
  have HB := Lib.hid ((Below.refl w.heap.size w).alloc (Nat.le_refl _) (.cells Z16.toArray 29))
  have ZO := Lib.hid (show Z16.toArray.all (·.oneCell') = true from one8 (List.replicate 16 0))
  have ZS := Lib.hid (show (Tryd.prog.info? 29).map (·.size) = some Z16.toArray.size from size29' (List.replicate 16 0) rfl)
  go_enter Tryd.func78, Tryd.ntmps78
  go_wp2_with (with_reducible refine wpList_store_row rfl 29 (.tmp 5) (.tmp 11) rfl w.heap.size Z16.toArray rfl rfl 29 _ K1.out ZS.out rfl ZO.out ?_)
  refine bodyPost_ret (v := .tuple #[.agg Z16.toArray, .bool false]) ?_ rfl ⟨rfl, belowRow HB.out (Nat.le_refl _) _⟩
  have hr := run_loadVar_row (P := Tryd.prog) _ w.heap.size 29 29 Z16.toArray (0, 0) (.array 16 5) (heap_setRow _ w.heap.size Z16.toArray _ 29 K1.out) Tryd.underlying29 rfl (size29' (List.replicate 16 0) rfl)
  simp [results, Tryd.results78, asAddr, hr]

set_option maxHeartbeats 1000000 in
theorem single_one (a b n c gv gl o : Nat) (k v : ByteArray) (w : World) (hn : n ≤ 1073741824) (han : a < n) (hab : ¬ (1 : Int) < (b : Int) - (a : Int)) (hb : b ≤ 1073741824) (hk : k.size ≤ 1073741824) (hv : v.size ≤ 1073741824)
    (hs : Sees gv gl o a n c k v w) (ht : Tab 1 w) (R : List UInt8) (HR : Hid (R = dof 3 [k, v])) :
    Calls Tryd.prog 78 #[.int .i64 (a : Int), .int .i64 (b : Int), .pointer (some ⟨gv, 0, none⟩)] w fun e w' => e = .returned (.tuple #[.agg (B8 R).toArray, .bool true]) ∧ Below w.heap.size w w' := by
  have HT := Lib.hid ht
  have HI := Lib.hid (inp_2 3 k v hk hv)
  have HRl := Lib.hid (show R.length = 16 by rw [HR.out]; exact dof_len _ _)
  have hZ := hZ16
  have HL := Lib.hid (show (gv ≠ w.heap.size ∧ gl ≠ w.heap.size) ∧ True from ⟨⟨Nat.ne_of_lt hs.lt.1, Nat.ne_of_lt hs.lt.2⟩, trivial⟩)
  obtain ⟨W1, hW1⟩ : ∃ W, W = w.alloc (.cells Z16.toArray 29) := ⟨_, rfl⟩
  have K1 := Lib.hid (show Blk W1 w.heap.size 29 Z16 by rw [hW1]; exact Blk.new w 29 Z16)
  have B1 := Lib.hid (show Below w.heap.size w W1 by rw [hW1]; exact (Below.refl _ _).alloc (Nat.le_refl _) _)
  have HS := Lib.hid (hs.below B1.out)
  have HW := Lib.hid hW1
  clear hs hW1 ht hk hv
  go_enter Tryd.func78, Tryd.ntmps78
  go_wp2_with fail
  rw [← HW.out]
  refine wp_region_held (S := fun W => Sees gv gl o a n c k v W) (by kernel_rfl) ?_
  change wpAnyH _ _ _ _ _ _ _ _ (World.drew W1)
  have hS0 : Sees gv gl o a n c k v (World.drew W1) := HS.out
  have BD := B1.out.drew
  have KD : Blk (World.drew W1) w.heap.size 29 Z16 := K1.out
  generalize World.drew W1 = Wd at hS0 BD KD ⊢
  replace BD := Lib.hid BD
  replace KD := Lib.hid KD
  refine wpAnyH_take (i := 0) (oi := { dst := some 12, op := Op.load 33 (Operand.tmp 2), type := 33, pos := "merkle.go:173", after := #[], guard := none }) (v := .slice (some ⟨gl, o, none⟩) n c) rfl (by kernel_rfl) (by kernel_rfl) (by kernel_rfl) (fun _ _ _ h => h) (Or.inl ⟨by rfl, fun W hW => by have hcl := hW.1; go_simp⟩) hS0 ?_
  try dsimp only [Act.put]
  try simp only [List.setIfInBounds_toArray, List.set_cons_zero, List.set_cons_succ]
  refine wpAnyH_take (i := 1) (oi := { dst := some 13, op := Op.move (Operand.tmp 0), type := 3, pos := "merkle.go:173", after := #[], guard := none }) (v := .int .i64 (a : Int)) rfl (by kernel_rfl) (by kernel_rfl) (by kernel_rfl) (fun _ _ _ h => h) (Or.inl ⟨by rfl, fun W hW => ?y2⟩) hS0 ?_
  case y2 => go_simp
  try dsimp only [Act.put]
  try simp only [List.setIfInBounds_toArray, List.set_cons_zero, List.set_cons_succ]
  refine wpAnyH_take (i := 2) (oi := { dst := some 14, op := Op.indexAddr 33 (Operand.tmp 12) (Operand.tmp 13), type := 0, pos := "merkle.go:173", after := #[{ on := 0, ground := Ground.data }, { on := 1, ground := Ground.data }], guard := none }) (v := .pointer (some ⟨gl, o + a * 2, none⟩)) rfl (by kernel_rfl) (by kernel_rfl) (by kernel_rfl) (fun _ _ _ h => h) (Or.inl ⟨by rfl, fun W hW => ?y3⟩) hS0 ?_
  case y3 => go_simp
  try dsimp only [Act.put]
  try simp only [List.setIfInBounds_toArray, List.set_cons_zero, List.set_cons_succ]
  refine wpAnyH_take (i := 3) (oi := { dst := some 15, op := Op.fieldAddr 41 (Operand.tmp 14) 0, type := 0, pos := "merkle.go:173", after := #[{ on := 2, ground := Ground.data }], guard := none }) (v := .pointer (some ⟨gl, o + a * 2, none⟩)) rfl (by kernel_rfl) (by kernel_rfl) (by kernel_rfl) (fun _ _ _ h => h) (Or.inl ⟨by rfl, fun W hW => ?y4⟩) hS0 ?_
  case y4 => go_simp
  try dsimp only [Act.put]
  try simp only [List.setIfInBounds_toArray, List.set_cons_zero, List.set_cons_succ]
  refine wpAnyH_take (i := 4) (oi := { dst := some 16, op := Op.load 9 (Operand.tmp 15), type := 9, pos := "merkle.go:173", after := #[{ on := 3, ground := Ground.data }], guard := none }) (v := .string k) rfl (by kernel_rfl) (by kernel_rfl) (by kernel_rfl) (fun _ _ _ h => h) (Or.inl ⟨by rfl, fun W hW => by have hcl := hW.2.1; go_simp⟩) hS0 ?_
  try dsimp only [Act.put]
  try simp only [List.setIfInBounds_toArray, List.set_cons_zero, List.set_cons_succ]
  refine wpAnyH_take (i := 5) (oi := { dst := some 17, op := Op.load 33 (Operand.tmp 2), type := 33, pos := "merkle.go:173", after := #[], guard := none }) (v := .slice (some ⟨gl, o, none⟩) n c) rfl (by kernel_rfl) (by kernel_rfl) (by kernel_rfl) (fun _ _ _ h => h) (Or.inl ⟨by rfl, fun W hW => by have hcl := hW.1; go_simp⟩) hS0 ?_
  try dsimp only [Act.put]
  try simp only [List.setIfInBounds_toArray, List.set_cons_zero, List.set_cons_succ]
  refine wpAnyH_take (i := 6) (oi := { dst := some 18, op := Op.move (Operand.tmp 0), type := 3, pos := "merkle.go:173", after := #[], guard := none }) (v := .int .i64 (a : Int)) rfl (by kernel_rfl) (by kernel_rfl) (by kernel_rfl) (fun _ _ _ h => h) (Or.inl ⟨by rfl, fun W hW => ?y7⟩) hS0 ?_
  case y7 => go_simp
  try dsimp only [Act.put]
  try simp only [List.setIfInBounds_toArray, List.set_cons_zero, List.set_cons_succ]
  refine wpAnyH_take (i := 7) (oi := { dst := some 19, op := Op.indexAddr 33 (Operand.tmp 17) (Operand.tmp 18), type := 0, pos := "merkle.go:173", after := #[{ on := 5, ground := Ground.data }, { on := 6, ground := Ground.data }], guard := none }) (v := .pointer (some ⟨gl, o + a * 2, none⟩)) rfl (by kernel_rfl) (by kernel_rfl) (by kernel_rfl) (fun _ _ _ h => h) (Or.inl ⟨by rfl, fun W hW => ?y8⟩) hS0 ?_
  case y8 => go_simp
  try dsimp only [Act.put]
  try simp only [List.setIfInBounds_toArray, List.set_cons_zero, List.set_cons_succ]
  refine wpAnyH_take (i := 8) (oi := { dst := some 20, op := Op.fieldAddr 41 (Operand.tmp 19) 1, type := 0, pos := "merkle.go:173", after := #[{ on := 7, ground := Ground.data }], guard := none }) (v := .pointer (some ⟨gl, o + a * 2 + 1, none⟩)) rfl (by kernel_rfl) (by kernel_rfl) (by kernel_rfl) (fun _ _ _ h => h) (Or.inl ⟨by rfl, fun W hW => ?y9⟩) hS0 ?_
  case y9 => go_simp
  try dsimp only [Act.put]
  try simp only [List.setIfInBounds_toArray, List.set_cons_zero, List.set_cons_succ]
  refine wpAnyH_take (i := 9) (oi := { dst := some 21, op := Op.load 9 (Operand.tmp 20), type := 9, pos := "merkle.go:173", after := #[{ on := 8, ground := Ground.data }], guard := none }) (v := .string v) rfl (by kernel_rfl) (by kernel_rfl) (by kernel_rfl) (fun _ _ _ h => h) (Or.inl ⟨by rfl, fun W hW => by have hcl := hW.2.2; go_simp⟩) hS0 ?_
  try dsimp only [Act.put]
  try simp only [List.setIfInBounds_toArray, List.set_cons_zero, List.set_cons_succ]
  refine wpAnyH_ready (rs := [10]) (by kernel_rfl) (by simp) ?_
  refine AllReadyH.cons (o := { dst := some 22, op := Op.buildSlice 47 2 #[(0, Operand.tmp 16), (1, Operand.tmp 21)], type := 47, pos := "merkle.go:173", after := #[{ on := 4, ground := Ground.data }, { on := 9, ground := Ground.data }], guard := none }) rfl (fun K hK => ?_) AllReadyH.nil
  rw [if_pos (by rfl)]
  go_simp
  have HB2 := Lib.hid ((Below.refl Wd.heap.size Wd).alloc (Nat.le_refl _) (.cells #[.string k, .string v] 9))
  have hS2 := hS0.below HB2.out
  have B2 := Lib.hid (BD.out.trans (HB2.out.mono BD.out.size))
  have K2 := Lib.hid (KD.out.below HB2.out KD.out.lt)
  refine hK.out _ _ hS2 (fun _ => ?_)
  clear hK K
  try dsimp only [Act.put]
  try simp only [List.setIfInBounds_toArray, List.set_cons_zero, List.set_cons_succ]
  refine wpAnyH_ready (rs := [11]) (by kernel_rfl) (by simp) ?_
  refine AllReadyH.cons (o := { dst := some 23, op := Op.call { callee := Callee.value (Operand.func 76), args := #[Operand.const (Value.int IntKind.i64 3), Operand.tmp 22], argTypes := #[3, 47] }, type := 29, pos := "merkle.go:173", after := #[{ on := 10, ground := Ground.data }], guard := none }) rfl (fun K hK => ?_) AllReadyH.nil
  rw [if_pos (by rfl)]
  go_simp
  refine (of_new 3 3 (by rfl) [k, v] 2 rfl HI.out Wd _ rfl _ rfl (HT.out.below B2.out HT.out.1) R HR).mono ?_; rintro e w5 ⟨rfl, hb5⟩
  have hS5 := hS2.below hb5
  have B5 := Lib.hid (B2.out.trans (hb5.mono B2.out.size))
  have K5 : w5.heap[w.heap.size]? = some (.cells Z16.toArray 29 (0, 0)) := K2.out.below hb5 K2.out.lt
  clear hb5
  go_wp2_with fail
  refine hK.out _ _ hS5 (fun _ => ?_)
  clear hK K
  try dsimp only [Act.put]
  try simp only [List.setIfInBounds_toArray, List.set_cons_zero, List.set_cons_succ]
  refine wpAnyH_ready (rs := [12]) (by kernel_rfl) (by simp) ?_
  refine AllReadyH.cons (o := { dst := none, op := Op.store 29 (Operand.tmp 5) (Operand.tmp 23), type := 0, pos := "merkle.go:173", after := #[{ on := 11, ground := Ground.data }, { on := 11, ground := Ground.chain }, { on := 0, ground := Ground.phase }, { on := 1, ground := Ground.phase }, { on := 2, ground := Ground.phase }, { on := 3, ground := Ground.phase }, { on := 4, ground := Ground.phase }, { on := 5, ground := Ground.phase }, { on := 6, ground := Ground.phase }, { on := 7, ground := Ground.phase }, { on := 8, ground := Ground.phase }, { on := 9, ground := Ground.phase }, { on := 10, ground := Ground.phase }, { on := 11, ground := Ground.phase }], guard := none }) rfl (fun K hK => ?_) AllReadyH.nil
  rw [if_pos (by rfl)]
  refine wp_store_row 29 (.tmp 5) (.tmp 23) rfl w.heap.size (B8 R).toArray rfl rfl 29 _ K5 (size29' _ HRl.out) (Z16_size _ HRl.out) (one8 _) ?_
  have hS6 := hS5.keep (w' := w5.setRow w.heap.size (B8 R).toArray) (HL.out.1) (fun k hk => heap_setRow_other _ _ _ _ hk)
  refine hK.out _ _ hS6 (fun _ => ?_)
  clear hK K
  try dsimp only [Act.put]
  try simp only [List.setIfInBounds_toArray, List.set_cons_zero, List.set_cons_succ]
  refine wpAnyH_ready (rs := [13]) (by kernel_rfl) (by simp) ?_
  refine AllReadyH.cons (o := { dst := some 6, op := Op.assign (Operand.const (Value.bool true)), type := 4, pos := "merkle.go:173", after := #[{ on := 12, ground := Ground.chain }, { on := 0, ground := Ground.phase }, { on := 1, ground := Ground.phase }, { on := 2, ground := Ground.phase }, { on := 3, ground := Ground.phase }, { on := 4, ground := Ground.phase }, { on := 5, ground := Ground.phase }, { on := 6, ground := Ground.phase }, { on := 7, ground := Ground.phase }, { on := 8, ground := Ground.phase }, { on := 9, ground := Ground.phase }, { on := 10, ground := Ground.phase }, { on := 11, ground := Ground.phase }, { on := 12, ground := Ground.phase }], guard := none }) rfl (fun K hK => ?_) AllReadyH.nil
  rw [if_pos (by rfl)]
  go_simp
  refine hK.out _ _ hS6 (fun _ => ?_)
  clear hK K
  try dsimp only [Act.put]
  try simp only [List.setIfInBounds_toArray, List.set_cons_zero, List.set_cons_succ]
  refine wpAnyH_done (by kernel_rfl) ?_ _
  try dsimp only [Act.put]
  try simp only [List.setIfInBounds_toArray, List.set_cons_zero, List.set_cons_succ]
  go_wp2_with fail
  refine bodyPost_ret (v := .tuple #[.agg (B8 R).toArray, .bool true]) ?_ rfl ⟨rfl, belowRow B5.out (Nat.le_refl _) _⟩
  have hr := run_loadVar_row (P := Tryd.prog) _ w.heap.size 29 29 (B8 R).toArray (0, 0) (.array 16 5) (heap_setRow w5 w.heap.size (B8 R).toArray _ 29 K5) Tryd.underlying29 rfl (size29' _ HRl.out)
  simp [results, Tryd.results78, asAddr, hr]
end Go.Proofs.YtofccgkgjcnfbaaDoor
